/- Contract of sha's Write: its walk. -/
import Derived.Test.YtojafgilpnnbiaaW6
set_option linter.unusedVariables false
set_option linter.unusedSimpArgs false
namespace Go.Proofs.Ytojafgilpnnbiaa
open Go.RowKit

abbrev Z64 : Array Value := #[.int .u8 0, .int .u8 0, .int .u8 0, .int .u8 0, .int .u8 0, .int .u8 0, .int .u8 0, .int .u8 0, .int .u8 0, .int .u8 0, .int .u8 0, .int .u8 0, .int .u8 0, .int .u8 0, .int .u8 0, .int .u8 0, .int .u8 0, .int .u8 0, .int .u8 0, .int .u8 0, .int .u8 0, .int .u8 0, .int .u8 0, .int .u8 0, .int .u8 0, .int .u8 0, .int .u8 0, .int .u8 0, .int .u8 0, .int .u8 0, .int .u8 0, .int .u8 0, .int .u8 0, .int .u8 0, .int .u8 0, .int .u8 0, .int .u8 0, .int .u8 0, .int .u8 0, .int .u8 0, .int .u8 0, .int .u8 0, .int .u8 0, .int .u8 0, .int .u8 0, .int .u8 0, .int .u8 0, .int .u8 0, .int .u8 0, .int .u8 0, .int .u8 0, .int .u8 0, .int .u8 0, .int .u8 0, .int .u8 0, .int .u8 0, .int .u8 0, .int .u8 0, .int .u8 0, .int .u8 0, .int .u8 0, .int .u8 0, .int .u8 0, .int .u8 0]
theorem z64_one : Z64.all (·.oneCell') = true := by
  have := B8_onea (List.replicate 64 0)
  exact this
theorem z64_list : Z64.toList = List.replicate 64 (Value.int .u8 0) := rfl
theorem pad_row (r : List UInt8) (h : r.length ≤ 64) : r.map B8 ++ (List.replicate 64 (Value.int .u8 0)).drop (r.map B8).length = (pad64 r).map B8 := by
  unfold pad64
  rw [List.map_append, List.map_replicate, List.drop_replicate, List.length_map]
  rfl

theorem wpList_store_segL {ops : Array Oper} {rest : List Oper} {op : Oper} {a : Act} {w : World} {Q : Exit → Act → World → Prop} (hgd : op.guard = none) (ty : TypeId) (x y : Operand) (ho : op.op = .store ty x y)
    (b o : Nat) (cells : Array Value) (cur : List Value) (t : TypeId) (hx : a.eval x = .pointer (some ⟨b, o, none⟩)) (hy : a.eval y = .agg cells)
    (hg : w.heap[b]? = some (.cells cur.toArray t (0, 0))) (hi : (Try.prog.info? ty).map (·.size) = some cells.size) (hfit : o + cells.size ≤ cur.length) (h1 : cells.all (·.oneCell') = true)
    (h : ∀ w', Hid (w'.heap[b]? = some (.cells (splice cur o cells.toList).toArray t (0, 0))) → Hid (∀ j, j ≠ b → w'.heap[j]? = w.heap[j]?) → Below b w w' → wpList Try.prog ops Q rest (a.put op.dst undef) w') : wpList Try.prog ops Q (op :: rest) a w :=
  wpList_store_seg hgd ty x y ho b o cells cur t hx hy hg hi hfit h1 (h _ (setRow_heap _ _ _ _ _ _ hg) (fun j hj => setRow_other _ _ _ _ hj) (below_setRow (Below.refl _ _) (Nat.le_refl _) _))

set_option maxHeartbeats 8000000 in
set_option maxRecDepth 100000 in
theorem writeM_any (b : Nat) (m : List UInt8) (v : Value) (l : List UInt8) (w : World) (hml : m.length + l.length ≤ 4294967296) (h : HM w b m) (hv : HB w v l) :
    Calls Try.prog 25 #[.pointer (some ⟨b, 0, none⟩), v] w fun e w' => e = .returned (.int .i64 0) ∧ HM w' b (m ++ l) ∧ KB b w w' := by
  have hn := none_at b true w h.c0
  have hup := unpressed_any b m w h (by omega)
  obtain ⟨r, hr⟩ : ∃ r, r = m.length % 64 := ⟨_, rfl⟩
  rw [← hr] at hup
  have hbw : b < w.heap.size := row_lt h
  have HHB : Hid (∀ W, HM W b m → HB W (.slice (some ⟨b, 9, none⟩) r 64) (restL m)) := fun W hW => by rw [hr]; exact hW.hb
  obtain ⟨AL, hAL⟩ : ∃ AL, AL = restL m ++ l := ⟨_, rfl⟩
  have HFE : Hid (AL = [restL m, l].flatten) := by show _ = _; rw [hAL]; simp
  have hrl := restL_len m
  have hALl : AL.length = m.length % 64 + l.length := by rw [hAL, List.length_append, hrl]
  have HFL : Hid ([restL m, l].flatten.length ≤ 1099511627776) := by show _ ≤ _; rw [← HFE.out]; omega
  obtain ⟨Kq, hKq⟩ : ∃ Kq, Kq = AL.length / 64 := ⟨_, rfl⟩
  have hst : stL (m ++ l) = pAll (stL m) AL Kq := by rw [hKq, hAL]; exact st_join m l
  have hrs : restL (m ++ l) = AL.drop (64 * Kq) := by rw [hKq, hAL]; exact rest_join m l
  have hrsl : (restL (m ++ l)).length = AL.length - 64 * Kq := by rw [hrs, List.length_drop]
  have hKle : 64 * Kq ≤ AL.length := by omega
  have hRlt : AL.length - 64 * Kq < 64 := by omega
  have hALb : AL.length ≤ 4294967360 := by omega
  have hmodI : (AL.length : Int) % 64 = ((AL.length - 64 * Kq : Nat) : Int) := by omega
  have hwhI : (AL.length : Int) - ((AL.length - 64 * Kq : Nat) : Int) = ((64 * Kq : Nat) : Int) := by omega
  obtain ⟨ZL, hZL⟩ : ∃ ZL, ZL = List.replicate 64 (Value.int .u8 0) := ⟨_, rfl⟩
  have HZL : Hid _ := hZL
  have hZ64 : ZL.length = 64 := by rw [hZL, List.length_replicate]
  have HZ64 : Hid _ := hZ64
  obtain ⟨SV, hSV⟩ : ∃ SV, SV = (stL m).map W32 := ⟨_, rfl⟩
  obtain ⟨SN, hSN⟩ : ∃ SN, SN = (stL (m ++ l)).map W32 := ⟨_, rfl⟩
  have hSV8 : SV.length = 8 := by rw [hSV]; exact st8 m
  have hSN8 : SN.length = 8 := by rw [hSN]; exact st8 _
  obtain ⟨RV, hRV⟩ : ∃ RV, RV = (pad64 (restL m)).map B8 := ⟨_, rfl⟩
  have hRV64 : RV.length = 64 := by rw [hRV]; exact rs64 m
  obtain ⟨CS, hCS⟩ : ∃ CS, CS = (restL (m ++ l)).map B8 := ⟨_, rfl⟩
  have hCSl : CS.length = AL.length - 64 * Kq := by rw [hCS, List.length_map, hrsl]
  have HC1 : Hid (∀ u ∈ CS, u.oneCell' = true) := by rw [hCS]; exact B8_one _
  have HPR : Hid (CS ++ ZL.drop CS.length = (pad64 (restL (m ++ l))).map B8) := by rw [hCS, hZL]; exact pad_row _ (by omega)
  have HROW : Hid (∀ W, HM W b m → W.heap[b]? = some (.cells (_root_.Go.Proofs.Ytojafgilpnnbiaa.hst SV RV m.length).toArray 53 (0, 0))) := fun W hW => by rw [hSV, hRV]; exact hW
  have HEND : Hid (∀ W, W.heap[b]? = some (.cells (_root_.Go.Proofs.Ytojafgilpnnbiaa.hst SN (CS ++ ZL.drop CS.length) ((m ++ l).length : Int)).toArray 53 (0, 0)) → HM W b (m ++ l)) := fun W hW => by
    rw [HPR.out, hSN] at hW; exact hW
  have HPRESS : Hid (∀ (p : Option Addr) (cap : Nat) (W : World), AL.length ≤ cap → cap ≤ maxLen → (∀ i, i < AL.length → ∃ g, p = some ⟨g, 0, none⟩ ∧ W.cell? ⟨g, i, none⟩ = some (.int .u8 ((AL.getD i 0).toNat : Int))) → Calls Try.prog 32 #[.agg SV.toArray, .slice p (64 * Kq) cap] W fun e w' => e = .returned (.agg SN.toArray) ∧ Below W.heap.size W w') := fun p cap W hc1 hc2 hc => by
    rw [hSV, hSN, hst]
    by_cases hK0 : Kq = 0
    · subst hK0
      exact pressAll_nil (stL m) (stL_len m) p cap W
    · obtain ⟨g, rfl, _⟩ := hc 0 (by omega)
      have ht : (AL.take (64 * Kq)).length = 64 * Kq := by rw [List.length_take]; omega
      have hp := pressAll_some (stL m) (stL_len m) g cap (AL.take (64 * Kq)) W (by omega) (by omega) (by omega) (by omega) hc2 (fun i hi => by
        obtain ⟨g', e, hcc⟩ := hc i (by omega)
        simp only [Option.some.injEq, Addr.mk.injEq] at e
        rw [e.1, hcc]
        congr 4
        rw [ht] at hi
        simp [List.getD, List.getElem?_take_of_lt hi])
      rw [ht, show 64 * Kq / 64 = Kq by omega, pAll_take _ _ _ hKle] at hp
      exact hp
  have HCEL : Hid (∀ j u, CS[j]? = some u → j < AL.length - 64 * Kq ∧ u = .int .u8 ((AL.getD (64 * Kq + j) 0).toNat : Int)) := fun j u hu => by
    have hj : j < CS.length := (List.getElem?_eq_some_iff.1 hu).1
    refine ⟨by omega, ?_⟩
    rw [hCS, hrs, List.getElem?_map, List.getElem?_drop] at hu
    have hj2 : 64 * Kq + j < AL.length := by omega
    rw [List.getElem?_eq_getElem hj2] at hu
    simp only [Option.map_some, Option.some.injEq] at hu
    rw [← hu]
    simp [B8, List.getD, List.getElem?_eq_getElem hj2]
  have hi8 : (Try.prog.info? 31).map (·.size) = some SV.length := by rw [hSV8]; kernel_rfl
  have hi8n : (Try.prog.info? 31).map (·.size) = some SN.toArray.size := by rw [List.size_toArray, hSN8]; kernel_rfl
  have HSN1 : Hid (SN.toArray.all (·.oneCell') = true) := by show _ = _; rw [hSN]; exact W32_one _
  have hsl1 := fun W p N cap (hk : 64 * Kq ≤ cap) => sliceTo W p N cap (64 * Kq) hk
  have HV : Hid _ := hv
  have HM0 : Hid _ := h
  have HI8 : Hid _ := hi8
  have HI8n : Hid _ := hi8n
  obtain ⟨pv, capv, rfl, _⟩ := hv.cells
  have hlenE : ((m ++ l).length : Int) = (m.length : Int) + (l.length : Int) := by rw [List.length_append]; omega
  have HLE : Hid _ := hlenE
  have hwl : IntKind.i64.wrap ((m.length : Int) + (l.length : Int)) = (m.length : Int) + (l.length : Int) := wrap_i64_in _ (by omega) (by omega)
  have hwd : IntKind.i64.wrap ((AL.length : Int) - ((AL.length - 64 * Kq : Nat) : Int)) = ((64 * Kq : Nat) : Int) := by rw [hwhI]; exact wrap_i64_in _ (by omega) (by omega)
  have HSV8 : Hid _ := hSV8
  have HSN8 : Hid _ := hSN8
  have HRV : Hid _ := hRV64
  have HCSl : Hid _ := hCSl
  clear hZL hZ64 h hv hr hAL hrl hst hrs hrsl hSV hSN hRV hCS hi8 hi8n hlenE hSV8 hSN8 hRV64 hCSl hKq hALl
  go_enter Try.func25, Try.ntmps25
  go_wp2_with fail
  refine hn.mono ?_
  rintro e w1 ⟨rfl, rfl⟩
  clear hn
  go_wp2_with fail
  refine hup.mono ?_
  rintro e w2 ⟨rfl, hb2⟩
  clear hup
  have HM2 : Hid _ := HM.below HM0.out hb2
  have HV2 : Hid _ := HB.below HV.out hb2
  have hs2 := hb2.size
  go_wp2_with fail
  refine (join_any _ _ [restL m, l] _ (by simp) HFL.out (two_cells _ _ _ _ _ _ rfl (HB.alloc (HHB.out _ HM2.out) _) (HB.alloc HV2.out _))).mono ?_
  rintro e w3 ⟨vj, rfl, hfj, hb3⟩
  rw [← HFE.out] at hfj
  have hb3' : Below w2.heap.size w2 w3 := ((Below.refl _ _).alloc (Nat.le_refl _) _).trans (hb3.mono (by simp))
  have hbw3 : Below w.heap.size w w3 := hb2.trans (hb3'.mono hs2)
  obtain ⟨pj, cj, rfl⟩ := hfj.form'
  have HKB3 : Hid _ := KB.of (b := b) (by omega) hbw3
  have HM3 : Hid _ := HM.below HM0.out hbw3
  have hcj : AL.length ≤ cj ∧ cj ≤ maxLen ∧ ∀ i, i < AL.length → ∃ g, pj = some ⟨g, 0, none⟩ ∧ w.heap.size ≤ g ∧ w3.cell? ⟨g, i, none⟩ = some (.int .u8 ((AL.getD i 0).toNat : Int)) := by
    rcases hfj.2 with ⟨h1, h2⟩ | ⟨g, cap, cur, h1, h2, h3, h4, h5, h6⟩
    · simp only [Value.slice.injEq] at h1
      exact ⟨by omega, by unfold maxLen; omega, fun i hi => by omega⟩
    · simp only [Value.slice.injEq] at h1
      obtain ⟨rfl, _, rfl⟩ := h1
      refine ⟨h4, h5, fun i hi => ⟨g, rfl, by simp at h2; omega, ?_⟩⟩
      have := World.ownsRow.cellAt hfj (g := g) i (by omega)
      rw [this, List.getElem?_map, List.getElem?_eq_getElem hi]
      simp [B8, List.getD, List.getElem?_eq_getElem hi]
  have HCJ : Hid _ := hcj
  have hcj1 := hcj.1
  have hs1 := fun W => hsl1 W pj AL.length cj (by omega)
  have hs3 := fun W => sliceOff W pj AL.length cj (64 * Kq) hKle hcj1
  have hs4 := fun W => sliceRest64 W b
  have hs1A : ∀ W, (Instr.sliceAt 22 (.slice pj AL.length cj) none (some (.int .i64 ((64 * Kq : Nat) : Int))) none).run Try.prog W = .ok (.slice pj (64 * Kq) cj) W := fun W => by rw [run_sliceAt_slice W 22 _ _ _ _ (by kernel_rfl)]; exact hs1 W
  have hs3A : ∀ W, (Instr.sliceAt 22 (.slice pj AL.length cj) (some (.int .i64 ((64 * Kq : Nat) : Int))) none none).run Try.prog W = .ok (.slice (if cj = 64 * Kq then pj else pj.map (·.add (64 * Kq))) (AL.length - 64 * Kq) (cj - 64 * Kq)) W := fun W => by rw [run_sliceAt_slice W 22 _ _ _ _ (by kernel_rfl)]; exact hs3 W
  obtain ⟨SP, hSP⟩ : ∃ SP, SP = (if cj = 64 * Kq then pj else pj.map (·.add (64 * Kq))) := ⟨_, rfl⟩
  have HSP : Hid _ := hSP
  simp only [← hSP] at hs3 hs3A
  obtain ⟨WH, hWH⟩ : ∃ WH, WH = 64 * Kq := ⟨_, rfl⟩
  obtain ⟨RR, hRR⟩ : ∃ RR, RR = AL.length - 64 * Kq := ⟨_, rfl⟩
  have HWH : Hid _ := hWH
  have HRR : Hid _ := hRR
  rw [← hRR] at hmodI hwd
  rw [← hWH] at hwd
  simp only [← hWH, ← hRR] at hs1 hs1A hs3 hs3A
  clear hfj hb3 hb3' hb2 HM2 HV2 hcj hsl1 hSP hWH hRR hwhI
  have hH3 : w3.drew.heap[b]? = some (.cells (hst SV RV m.length).toArray 53 (0, 0)) := by rw [heap_drew]; exact HROW.out w3 HM3.out
  have HH3 : Hid _ := hH3
  have HPR3 : Hid (Calls Try.prog 32 #[.agg SV.toArray, .slice pj WH cj] w3.drew fun e w' => e = .returned (.agg SN.toArray) ∧ Below w3.drew.heap.size w3.drew w') := by
    show Calls _ _ _ _ _
    rw [HWH.out]
    exact HPRESS.out pj cj w3.drew hcj1 HCJ.out.2.1 (fun i hi => by obtain ⟨g, e, _, hc⟩ := HCJ.out.2.2 i hi; exact ⟨g, e, hc⟩)
  clear hH3
  go_wp2
  refine wp_region_held_drew (S := KB b w) (by kernel_rfl) (KB.drew HKB3.out) (fun hHeld => ?_)
  refine wpAnyH_take (i := 0) (oi := { dst := some 20, op := Go.Op.move (Go.Operand.tmp 0), type := 42, pos := _, after := #[], guard := none }) (v := .pointer (some ⟨b, 0, none⟩)) rfl (by kernel_rfl) (by kernel_rfl) (by kernel_rfl) (fun _ _ _ h => h) (Or.inl ⟨by rfl, fun w' hw' => ?_⟩) hHeld ?_
  · first | (go_simp; done) | (go_simp; rfl)
  try simp only [Act.put, List.setIfInBounds_toArray, List.set_cons_zero, List.set_cons_succ]
  refine wpAnyH_take (i := 1) (oi := { dst := some 21, op := Go.Op.move (Go.Operand.tmp 0), type := 42, pos := _, after := #[], guard := none }) (v := .pointer (some ⟨b, 0, none⟩)) rfl (by kernel_rfl) (by kernel_rfl) (by kernel_rfl) (fun _ _ _ h => h) (Or.inl ⟨by rfl, fun w' hw' => ?_⟩) hHeld ?_
  · first | (go_simp; done) | (go_simp; rfl)
  try simp only [Act.put, List.setIfInBounds_toArray, List.set_cons_zero, List.set_cons_succ]
  refine wpAnyH_take (i := 2) (oi := { dst := some 22, op := Go.Op.nilCheck (Go.Operand.tmp 21), type := 0, pos := _, after := #[{ on := 1, ground := Go.Ground.data }], guard := none }) (v := .pointer (some ⟨b, 0, none⟩)) rfl (by kernel_rfl) (by kernel_rfl) (by kernel_rfl) (fun _ _ _ h => h) (Or.inl ⟨by rfl, fun w' hw' => ?_⟩) hHeld ?_
  · first | (go_simp; done) | (go_simp; rfl)
  try simp only [Act.put, List.setIfInBounds_toArray, List.set_cons_zero, List.set_cons_succ]
  refine wpAnyH_take (i := 3) (oi := { dst := some 23, op := Go.Op.fieldAddr 53 (Go.Operand.tmp 22) 1, type := 0, pos := _, after := #[{ on := 2, ground := Go.Ground.data }], guard := none }) (v := .pointer (some ⟨b, 1, none⟩)) rfl (by kernel_rfl) (by kernel_rfl) (by kernel_rfl) (fun _ _ _ h => h) (Or.inl ⟨by rfl, fun w' hw' => ?_⟩) hHeld ?_
  · first | (go_simp; done) | (go_simp; rfl)
  try simp only [Act.put, List.setIfInBounds_toArray, List.set_cons_zero, List.set_cons_succ]
  refine wpAnyH_take (i := 5) (oi := { dst := some 25, op := Go.Op.move (Go.Operand.tmp 5), type := 22, pos := _, after := #[], guard := none }) (v := .slice pj AL.length cj) rfl (by kernel_rfl) (by kernel_rfl) (by kernel_rfl) (fun _ _ _ h => h) (Or.inl ⟨by rfl, fun w' hw' => ?_⟩) hHeld ?_
  · first | (go_simp; done) | (go_simp; rfl)
  try simp only [Act.put, List.setIfInBounds_toArray, List.set_cons_zero, List.set_cons_succ]
  refine wpAnyH_take (i := 6) (oi := { dst := some 26, op := Go.Op.move (Go.Operand.tmp 6), type := 3, pos := _, after := #[], guard := none }) (v := .int .i64 (WH : Int)) rfl (by kernel_rfl) (by kernel_rfl) (by kernel_rfl) (fun _ _ _ h => h) (Or.inl ⟨by rfl, fun w' hw' => ?_⟩) hHeld ?_
  · first | (go_simp; done) | (go_simp; rfl)
  try simp only [Act.put, List.setIfInBounds_toArray, List.set_cons_zero, List.set_cons_succ]
  refine wpAnyH_take (i := 7) (oi := { dst := some 27, op := Go.Op.slice 22 (Go.Operand.tmp 25) none (some (Go.Operand.tmp 26)) none, type := 22, pos := _, after := #[{ on := 5, ground := Go.Ground.data }, { on := 6, ground := Go.Ground.data }], guard := none }) (v := .slice pj WH cj) rfl (by kernel_rfl) (by kernel_rfl) (by kernel_rfl) (fun _ _ _ h => h) (Or.inl ⟨by rfl, fun w' hw' => ?_⟩) hHeld ?_
  · first | (go_simp; done) | (go_simp; rfl)
  try simp only [Act.put, List.setIfInBounds_toArray, List.set_cons_zero, List.set_cons_succ]
  refine wpAnyH_ready (rs := [4]) (by kernel_rfl) (by simp) ?_
  refine AllReadyH.cons (o := { dst := some 24, op := Go.Op.load 31 (Go.Operand.tmp 23), type := 31, pos := _, after := #[{ on := 3, ground := Go.Ground.data }], guard := none }) rfl (fun K hK => ?_) AllReadyH.nil
  rw [if_pos (by rfl)]
  refine wp_load_mid 31 _ rfl b 1 rfl SV _ (hst_range_st HH3.out) Try.underlying31 rfl HI8.out ?_
  refine hK.out _ _ hHeld (fun _ => ?_)
  clear hK K
  try simp only [Act.put, List.setIfInBounds_toArray, List.set_cons_zero, List.set_cons_succ]
  refine wpAnyH_ready (rs := [8]) (by kernel_rfl) (by simp) ?_
  refine AllReadyH.cons (o := { dst := some 28, op := Go.Op.call { callee := Go.Callee.value (Go.Operand.func 32), args := #[Go.Operand.tmp 24, Go.Operand.tmp 27], argTypes := #[31, 22] }, type := 31, pos := _, after := #[{ on := 4, ground := Go.Ground.data }, { on := 7, ground := Go.Ground.data }], guard := none }) rfl (fun K hK => ?_) AllReadyH.nil
  rw [if_pos (by rfl)]
  go_wp2_with fail
  refine (HPR3.out).mono ?_
  rintro e w5 ⟨rfl, hb5⟩
  have hHeld5 := KB.below (by omega) hHeld hb5
  have hbb : b < w3.drew.heap.size := row_lt HH3.out
  have hrow5 := (hb5.block b hbb).trans HH3.out
  have HB5 : Hid _ := hb5
  clear hb5
  refine hK.out _ _ hHeld5 (fun _ => ?_)
  clear hK K
  try simp only [Act.put, List.setIfInBounds_toArray, List.set_cons_zero, List.set_cons_succ]
  have hHeld := hHeld5
  refine wpAnyH_take (i := 9) (oi := { dst := some 29, op := Go.Op.nilCheck (Go.Operand.tmp 20), type := 0, pos := _, after := #[{ on := 0, ground := Go.Ground.data }, { on := 0, ground := Go.Ground.phase }, { on := 1, ground := Go.Ground.phase }, { on := 2, ground := Go.Ground.phase }, { on := 3, ground := Go.Ground.phase }, { on := 4, ground := Go.Ground.phase }, { on := 5, ground := Go.Ground.phase }, { on := 6, ground := Go.Ground.phase }, { on := 7, ground := Go.Ground.phase }, { on := 8, ground := Go.Ground.phase }], guard := none }) (v := .pointer (some ⟨b, 0, none⟩)) rfl (by kernel_rfl) (by kernel_rfl) (by kernel_rfl) (fun _ _ _ h => h) (Or.inl ⟨by rfl, fun w' hw' => ?_⟩) hHeld ?_
  · first | (go_simp; done) | (go_simp; rfl)
  try simp only [Act.put, List.setIfInBounds_toArray, List.set_cons_zero, List.set_cons_succ]
  refine wpAnyH_take (i := 10) (oi := { dst := some 30, op := Go.Op.fieldAddr 53 (Go.Operand.tmp 29) 1, type := 0, pos := _, after := #[{ on := 9, ground := Go.Ground.data }, { on := 0, ground := Go.Ground.phase }, { on := 1, ground := Go.Ground.phase }, { on := 2, ground := Go.Ground.phase }, { on := 3, ground := Go.Ground.phase }, { on := 4, ground := Go.Ground.phase }, { on := 5, ground := Go.Ground.phase }, { on := 6, ground := Go.Ground.phase }, { on := 7, ground := Go.Ground.phase }, { on := 8, ground := Go.Ground.phase }], guard := none }) (v := .pointer (some ⟨b, 1, none⟩)) rfl (by kernel_rfl) (by kernel_rfl) (by kernel_rfl) (fun _ _ _ h => h) (Or.inl ⟨by rfl, fun w' hw' => ?_⟩) hHeld ?_
  · first | (go_simp; done) | (go_simp; rfl)
  try simp only [Act.put, List.setIfInBounds_toArray, List.set_cons_zero, List.set_cons_succ]
  refine wpAnyH_ready (rs := [11]) (by kernel_rfl) (by simp) ?_
  refine AllReadyH.cons (o := { dst := none, op := Go.Op.store 31 (Go.Operand.tmp 30) (Go.Operand.tmp 28), type := 0, pos := _, after := #[{ on := 10, ground := Go.Ground.data }, { on := 8, ground := Go.Ground.data }, { on := 8, ground := Go.Ground.chain }, { on := 0, ground := Go.Ground.phase }, { on := 1, ground := Go.Ground.phase }, { on := 2, ground := Go.Ground.phase }, { on := 3, ground := Go.Ground.phase }, { on := 4, ground := Go.Ground.phase }, { on := 5, ground := Go.Ground.phase }, { on := 6, ground := Go.Ground.phase }, { on := 7, ground := Go.Ground.phase }, { on := 8, ground := Go.Ground.phase }], guard := none }) rfl (fun K hK => ?_) AllReadyH.nil
  rw [if_pos (by rfl)]
  refine wp_store_seg 31 _ _ rfl b 1 SN.toArray (hst SV RV m.length) 53 rfl rfl hrow5 HI8n.out (by rw [hst_len _ _ _ HSV8.out HRV.out, List.size_toArray, HSN8.out]; decide) HSN1.out ?_
  have hHeld6 := KB.set hHeld5 (splice (hst SV RV m.length) 1 SN.toArray.toList).toArray
  refine hK.out _ _ hHeld6 (fun _ => ?_)
  clear hK K
  try simp only [Act.put, List.setIfInBounds_toArray, List.set_cons_zero, List.set_cons_succ]
  refine wpAnyH_done (by kernel_rfl) ?_ _
  have HR6 : Hid ((w5.setRow b (splice (hst SV RV m.length) 1 SN.toArray.toList).toArray).heap[b]? = some (.cells (hst SN RV m.length).toArray 53 (0, 0))) := by
    show _ = _
    rw [setRow_heap _ _ _ _ _ _ hrow5, List.toList_toArray, hst_st _ _ _ _ HSV8.out HSN8.out]
  have HKB6 : Hid _ := hHeld6
  clear hHeld hHeld5 hHeld6 hrow5
  go_wp2_with (refine wpList_store_segL rfl 32 _ _ rfl b 9 Z64 (hst SN RV m.length) 53 rfl rfl HR6.out (by kernel_rfl) (by rw [hst_len _ _ _ HSN8.out HRV.out]; decide) z64_one ?_; intro w7 HR7a HOT7 hbl7; have HR7b : Hid (w7.heap[b]? = some (.cells (hst SN ZL m.length).toArray 53 (0, 0))) := (show _ = _ by rw [HR7a.out, hst_rs _ _ _ _ HSN8.out (by rw [HRV.out]; decide), z64_list, List.drop_eq_nil_of_le (by rw [HRV.out]; decide), List.append_nil, HZL.out]); clear HR7a)
  have HR7 : Hid (w7.drew.heap[b]? = some (.cells (hst SN ZL m.length).toArray 53 (0, 0))) := by
    show _ = _
    rw [heap_drew]; exact HR7b.out
  have HKB7 : Hid (KB b w w7.drew) := ⟨(HKB6.out.1.trans hbl7).drew, fun j hj hne => (HOT7.out j hne).trans (HKB6.out.2 j hj hne)⟩
  have HC7 : Hid (∀ a : Addr, a.block ≠ b → w7.drew.cell? a = w5.cell? a) := fun a ha => by
    show w7.cell? a = _
    rw [World.cell?_of_block (HOT7.out _ ha), cell_setRow_other _ _ _ _ ha]
  clear HR7b HOT7 hbl7
  refine wp_region_held_drew (S := KB b w) (by kernel_rfl) HKB7.out (fun hHeld => ?_)
  refine wpAnyH_take (i := 0) (oi := { dst := some 35, op := Go.Op.move (Go.Operand.tmp 0), type := 42, pos := _, after := #[], guard := none }) (v := .pointer (some ⟨b, 0, none⟩)) rfl (by kernel_rfl) (by kernel_rfl) (by kernel_rfl) (fun _ _ _ h => h) (Or.inl ⟨by rfl, fun w' hw' => ?_⟩) hHeld ?_
  · first | (go_simp; done) | (go_simp; rfl)
  try simp only [Act.put, List.setIfInBounds_toArray, List.set_cons_zero, List.set_cons_succ]
  refine wpAnyH_take (i := 1) (oi := { dst := some 36, op := Go.Op.nilCheck (Go.Operand.tmp 35), type := 0, pos := _, after := #[{ on := 0, ground := Go.Ground.data }], guard := none }) (v := .pointer (some ⟨b, 0, none⟩)) rfl (by kernel_rfl) (by kernel_rfl) (by kernel_rfl) (fun _ _ _ h => h) (Or.inl ⟨by rfl, fun w' hw' => ?_⟩) hHeld ?_
  · first | (go_simp; done) | (go_simp; rfl)
  try simp only [Act.put, List.setIfInBounds_toArray, List.set_cons_zero, List.set_cons_succ]
  refine wpAnyH_take (i := 2) (oi := { dst := some 37, op := Go.Op.fieldAddr 53 (Go.Operand.tmp 36) 2, type := 0, pos := _, after := #[{ on := 1, ground := Go.Ground.data }], guard := none }) (v := .pointer (some ⟨b, 9, none⟩)) rfl (by kernel_rfl) (by kernel_rfl) (by kernel_rfl) (fun _ _ _ h => h) (Or.inl ⟨by rfl, fun w' hw' => ?_⟩) hHeld ?_
  · first | (go_simp; done) | (go_simp; rfl)
  try simp only [Act.put, List.setIfInBounds_toArray, List.set_cons_zero, List.set_cons_succ]
  refine wpAnyH_take (i := 3) (oi := { dst := some 38, op := Go.Op.slice 32 (Go.Operand.tmp 37) none none none, type := 22, pos := _, after := #[{ on := 2, ground := Go.Ground.data }], guard := none }) (v := .slice (some ⟨b, 9, none⟩) 64 64) rfl (by kernel_rfl) (by kernel_rfl) (by kernel_rfl) (fun _ _ _ h => h) (Or.inl ⟨by rfl, fun w' hw' => ?_⟩) hHeld ?_
  · first | (go_simp; done) | (go_simp; rfl)
  try simp only [Act.put, List.setIfInBounds_toArray, List.set_cons_zero, List.set_cons_succ]
  refine wpAnyH_take (i := 4) (oi := { dst := some 39, op := Go.Op.move (Go.Operand.tmp 5), type := 22, pos := _, after := #[], guard := none }) (v := .slice pj AL.length cj) rfl (by kernel_rfl) (by kernel_rfl) (by kernel_rfl) (fun _ _ _ h => h) (Or.inl ⟨by rfl, fun w' hw' => ?_⟩) hHeld ?_
  · first | (go_simp; done) | (go_simp; rfl)
  try simp only [Act.put, List.setIfInBounds_toArray, List.set_cons_zero, List.set_cons_succ]
  refine wpAnyH_take (i := 5) (oi := { dst := some 40, op := Go.Op.move (Go.Operand.tmp 6), type := 3, pos := _, after := #[], guard := none }) (v := .int .i64 (WH : Int)) rfl (by kernel_rfl) (by kernel_rfl) (by kernel_rfl) (fun _ _ _ h => h) (Or.inl ⟨by rfl, fun w' hw' => ?_⟩) hHeld ?_
  · first | (go_simp; done) | (go_simp; rfl)
  try simp only [Act.put, List.setIfInBounds_toArray, List.set_cons_zero, List.set_cons_succ]
  refine wpAnyH_take (i := 6) (oi := { dst := some 41, op := Go.Op.slice 22 (Go.Operand.tmp 39) (some (Go.Operand.tmp 40)) none none, type := 22, pos := _, after := #[{ on := 4, ground := Go.Ground.data }, { on := 5, ground := Go.Ground.data }], guard := none }) (v := .slice SP (AL.length - WH) (cj - WH)) rfl (by kernel_rfl) (by kernel_rfl) (by kernel_rfl) (fun _ _ _ h => h) (Or.inl ⟨by rfl, fun w' hw' => ?_⟩) hHeld ?_
  · first | (go_simp; done) | (go_simp; rfl)
  try simp only [Act.put, List.setIfInBounds_toArray, List.set_cons_zero, List.set_cons_succ]
  refine wpAnyH_ready (rs := [7]) (by kernel_rfl) (by simp) ?_
  refine AllReadyH.cons (o := { dst := some 42, op := Go.Op.call { callee := Go.Callee.builtin Go.Builtin.copy, args := #[Go.Operand.tmp 38, Go.Operand.tmp 41], argTypes := #[22, 22] }, type := 3, pos := _, after := #[{ on := 3, ground := Go.Ground.data }, { on := 6, ground := Go.Ground.data }], guard := none }) rfl (fun K hK => ?_) AllReadyH.nil
  rw [if_pos (by rfl)]
  refine wp_copy_seg (.tmp 38) (.tmp 41) rfl b 9 64 64 SP (AL.length - WH) (cj - WH) rfl rfl (hst SN ZL m.length) 53 HR7.out CS ?_ ?_ ?_ HC1.out ?_
  · rw [HCSl.out, ← HWH.out]
    exact (Nat.min_eq_left (by have := HWH.out; omega)).symm
  · intro hpos
    rw [HCSl.out] at hpos
    obtain ⟨g, e, hg, _⟩ := HCJ.out.2.2 (64 * Kq) (by omega)
    refine ⟨⟨g, 64 * Kq, none⟩, ?_, fun j u hu => ?_⟩
    · rw [HSP.out, if_neg (by omega), e]
      simp [Addr.add_mid]
    · obtain ⟨hj, rfl⟩ := HCEL.out j u hu
      obtain ⟨g', e', _, hc⟩ := HCJ.out.2.2 (64 * Kq + j) (by omega)
      rw [e] at e'
      simp only [Option.some.injEq, Addr.mk.injEq] at e'
      rw [← e'.1] at hc
      rw [Addr.add_mid]
      have hgb : g ≠ b := by omega
      rw [HC7.out ⟨g, 64 * Kq + j, none⟩ hgb]
      exact (HB5.out.cell (p := ⟨g, 64 * Kq + j, none⟩) (block_lt hc)).trans hc
  · rw [hst_len _ _ _ HSN8.out HZ64.out, HCSl.out]
    omega
  have hHeld8 := KB.set hHeld (splice (hst SN ZL m.length) 9 CS).toArray
  refine hK.out _ _ hHeld8 (fun _ => ?_)
  clear hK K
  try simp only [Act.put, List.setIfInBounds_toArray, List.set_cons_zero, List.set_cons_succ]
  refine wpAnyH_done (by kernel_rfl) ?_ _
  have hl64 : (CS ++ ZL.drop CS.length).length = 64 := by
    rw [List.length_append, List.length_drop, HZ64.out, HCSl.out]; omega
  have hR8 := setRow_heap _ _ _ (splice (hst SN ZL m.length) 9 CS).toArray _ _ HR7.out
  have hR8' := hR8.trans (congrArg (fun L : List Value => some (Obj.cells L.toArray 53 (0, 0))) (hst_rs SN ZL (m.length : Int) CS HSN8.out (by rw [HCSl.out, HZ64.out]; omega)))
  have hc73 := (cell_of_row _ _ 73 _ _ _ hR8').trans (hst_get73 _ _ _ HSN8.out hl64)
  have hf73 := frozen_of_row _ _ 73 _ _ hR8'
  have HR8 : Hid _ := hR8'
  have HKB8 : Hid _ := hHeld8
  have HSETN : Hid _ := hst_n SN (CS ++ ZL.drop CS.length) m.length ((m.length : Int) + (l.length : Int)) HSN8.out hl64
  clear hHeld hHeld8 hR8 hR8' HKB7 HR7 HKB6 HR6
  go_wp2
  go_ret
  refine ⟨rfl, HEND.out _ ?_, KB.setCell HKB8.out _⟩
  rw [HLE.out, ← HSETN.out]
  exact heap_setCell_same _ b 73 _ 53 _ HR8.out

end Go.Proofs.Ytojafgilpnnbiaa
