/- machine: contracts of Write and SetWord. -/
import Derived.Test.YtnijjoankahddaaMD
set_option linter.unusedVariables false
set_option linter.unusedSimpArgs false
namespace Go.Proofs.Ytnijjoankahddaa.MC
open Go.RowKit

/-- A slice that holds bytes: its form. -/
theorem hb_form {w : World} {v : Value} {l : List UInt8} (h : HB w v l) (hl : l ≠ []) : ∃ b o cap, v = .slice (some ⟨b, o, none⟩) l.length cap ∧ l.length ≤ cap ∧ w.rangeAt b o (l.map B8) := by
  rcases h with ⟨h1, _⟩ | ⟨b, o, cap, h1, h2, h3, h4⟩
  · exact absurd h1 hl
  · refine ⟨b, o, cap, h1, h2, fun j v hv => ?_⟩
    have hj : j < l.length := by have := (List.getElem?_eq_some_iff.1 hv).1; simpa using this
    rw [h4 j hj]
    rw [List.getElem?_map, List.getElem?_eq_getElem hj] at hv
    simp only [Option.map_some, Option.some.injEq] at hv
    rw [← hv]
    simp [B8, List.getD, List.getElem?_eq_getElem hj]
theorem hb_range {w : World} {b o n cap : Nat} {l : List UInt8} (hn : n = l.length) (h1 : l.length ≤ cap) (h2 : cap ≤ maxLen) (h : w.rangeAt b o (l.map B8)) : HB w (.slice (some ⟨b, o, none⟩) n cap) l := by
  subst hn
  refine .inr ⟨b, o, cap, rfl, h1, h2, fun i hi => ?_⟩
  have := h i (B8 l[i]) (by rw [List.getElem?_map, List.getElem?_eq_getElem hi]; rfl)
  rw [this]
  simp [B8, List.getD, List.getElem?_eq_getElem hi]

theorem wrap_i64_in (n : Int) (h0 : -9223372036854775808 ≤ n) (h1 : n ≤ 9223372036854775807) : IntKind.i64.wrap n = n := by rw [IntKind.wrap_i64]; omega
set_option maxHeartbeats 4000000 in
set_option maxRecDepth 100000 in
theorem write_some (mb gb n a : Nat) (l b : List UInt8) (sb so cap : Nat) (w : World) (h : PM w mb gb n l) (hb0 : b ≠ []) (hcap : b.length ≤ cap) (hab : a + b.length ≤ 128 * n) (hsrc : ∀ W, KB gb w W → W.rangeAt sb so (b.map B8)) :
    Calls Try.prog 45 #[.pointer (some ⟨mb, 0, none⟩), .int .u64 (a : Int), .slice (some ⟨sb, so, none⟩) b.length cap] w fun e w' => e = .returned (.int .i64 0) ∧ PM w' mb gb n (splice l a b) ∧ KB gb w w' := by
  have hn4 := h.le
  have hb1 : 0 < b.length := List.length_pos_iff.2 hb0
  have hnn := none_of _ _ _ _ w (list_at mb _ w h.cell)
  rw [show decide (n = 0) = false by simp; have := h.pos; omega] at hnn
  have hwi := within_any mb n n _ a b.length w h.cell hn4 (by omega) (by omega)
  rw [show wIn n a b.length = true by unfold wIn; simp; omega] at hwi
  have HNN : Hid _ := hnn
  have HWI : Hid _ := hwi
  have HSRC : Hid _ := hsrc
  have hlen := h.len
  have hne := h.ne
  have HLEN : Hid _ := h.len
  have hgb := row_lt h.row
  have HP : Hid (PM w mb gb n (splice l a (b.take 0))) := by rw [List.take_zero, splice_nil]; exact h
  clear hnn hwi hsrc h hb0
  go_enter Try.func45, Try.ntmps45
  go_wp2_with fail
  refine Calls.mono HNN.out ?_
  rintro e w1 ⟨rfl, rfl⟩
  go_wp2_with fail
  refine Calls.mono HWI.out ?_
  rintro e w1 ⟨rfl, rfl⟩
  go_wp2
  clear HNN HWI hlen
  go_loopw [7] (fun i wr => ∃ k : Nat, k ≤ b.length ∧ i = .int .i64 k ∧ PM wr mb gb n (splice l a (b.take k)) ∧ KB gb w wr) (fun i _ => b.length - (intOf i).toNat)
  case atStart => exact ⟨0, Nat.zero_le _, rfl, HP.out, KB.refl _ _⟩
  case round =>
    clear HP
    obtain ⟨k, hk, rfl, hP, hK⟩ := hrel
    by_cases hlt : k < b.length
    · obtain ⟨G, hG⟩ : ∃ G, G = (a + k) / 128 := ⟨_, rfl⟩
      obtain ⟨AT, hAT⟩ : ∃ AT, AT = (a + k) % 128 := ⟨_, rfl⟩
      have hat : AT < 128 := by omega
      have hGA : G * 128 + AT = a + k := by omega
      have hgn : G < n := by omega
      have hsum : ((a : Int) + (k : Int)) = ((G * 128 + AT : Nat) : Int) := by omega
      obtain ⟨c, hc⟩ : ∃ c, c = Nat.min (b.length - k) (128 - AT) := ⟨_, rfl⟩
      have hc1 : c ≤ b.length - k := by rw [hc]; exact Nat.min_le_left _ _
      have hc2 : c ≤ 128 - AT := by rw [hc]; exact Nat.min_le_right _ _
      have hc0 : 0 < c := by rw [hc]; exact Nat.lt_min.2 ⟨by omega, by omega⟩
      obtain ⟨CS, hCS⟩ : ∃ CS, CS = ((b.drop k).take c).map B8 := ⟨_, rfl⟩
      have hCL : CS.length = c := by rw [hCS, List.length_map, List.length_take, List.length_drop]; omega
      have HCN : Hid (CS.length = Nat.min (b.length - k) (128 - AT)) := hCL.trans hc
      have HCL : Hid _ := hCL
      have HC1 : Hid (∀ v ∈ CS, v.oneCell' = true) := by rw [hCS]; exact B8_one _
      have HCE : Hid (∀ W, KB gb wr W → W.cell? ⟨mb, 0, none⟩ = some (.slice (some ⟨gb, 0, none⟩) n n)) := fun W hW => by
        rw [World.cell?_of_block (w := wr) (a := ⟨mb, 0, none⟩) (hW.2 mb (row_lt hP.head) hne)]; exact hP.cell
      have HSR : Hid (∀ j v, CS[j]? = some v → wr.drew.cell? ((⟨sb, so + k, none⟩ : Addr).add j) = some v) := fun j v hv => by
        rw [add_none]
        rw [hCS, List.map_take, List.map_drop] at hv
        exact rangeAt_part (HSRC.out wr.drew (KB.drew hK)) k c j v hv
      obtain ⟨CUR, hCUR⟩ : ∃ L, L = splice l a (b.take k) := ⟨_, rfl⟩
      rw [← hCUR] at hP
      have hcl : CUR.length = 128 * n := hP.len
      have HROW : Hid (wr.drew.heap[gb]? = some (.cells (CUR.map B8).toArray 68 (0, 0))) := by rw [heap_drew]; exact hP.row
      have HFIT : Hid (G * 128 + AT + CS.length ≤ (CUR.map B8).length) := by show _ ≤ _; rw [HCL.out, List.length_map, hcl]; omega
      have HEND : Hid (PM (wr.drew.setRow gb (splice (CUR.map B8) (G * 128 + AT) CS).toArray) mb gb n (splice l a (b.take (k + c)))) := by
        have hbl : (b.take k).length = k := by rw [List.length_take]; omega
        have e : splice CUR (G * 128 + AT) ((b.drop k).take c) = splice l a (b.take (k + c)) := by
          rw [hCUR, hGA]; exact splice_step l a b k c (by rw [HLEN.out]; omega) (by omega)
        refine ⟨?_, ?_, ?_, hP.pos, hP.le, hP.ne⟩
        · rw [setRow_other _ _ _ _ hne, heap_drew]; exact hP.head
        · rw [setRow_heap _ _ _ _ _ _ HROW.out, hCS, splice_map, e]
        · rw [splice_len _ _ _ (by rw [HLEN.out, List.length_take]; omega)]; exact HLEN.out
      have hs1 := fun W => slice_gr W gb (G * 128) AT hat
      have hs2 := fun W => slice_off W sb so b.length cap k hk (by omega)
      have hs3 := fun W => slice_offA W sb so b.length cap k hk (by omega)
      have HKK : Hid (KB gb w wr) := hK
      have HOF : Hid _ := of_at ((a : Int) + (k : Int)) G AT wr hsum hat (by omega)
      clear hCS hCL hP hK hCUR hG hAT hc hsum
      go_wp2_with fail
      refine Calls.mono HOF.out ?_
      rintro e w1 ⟨rfl, rfl⟩
      go_wp2
      refine wp_region_held_drew (S := KB gb wr) (by kernel_rfl) (KB.drew (KB.refl _ _)) (fun hHeld => ?_)
      refine wpAnyH_take (i := 0) (oi := { dst := some 30, op := Go.Op.move (Go.Operand.tmp 7), type := 3, pos := _, after := #[], guard := none }) (v := .int .i64 (k : Int)) rfl (by kernel_rfl) (by kernel_rfl) (by kernel_rfl) (fun _ _ _ h => h) (Or.inl ⟨by rfl, fun w' hw' => ?_⟩) hHeld ?_
      · first | (go_simp; done) | (go_simp; rfl)
      try simp only [Act.put, List.setIfInBounds_toArray, List.set_cons_zero, List.set_cons_succ]
      refine wpAnyH_take (i := 1) (oi := { dst := some 31, op := Go.Op.move (Go.Operand.tmp 0), type := 35, pos := _, after := #[], guard := none }) (v := .pointer (some ⟨mb, 0, none⟩)) rfl (by kernel_rfl) (by kernel_rfl) (by kernel_rfl) (fun _ _ _ h => h) (Or.inl ⟨by rfl, fun w' hw' => ?_⟩) hHeld ?_
      · first | (go_simp; done) | (go_simp; rfl)
      try simp only [Act.put, List.setIfInBounds_toArray, List.set_cons_zero, List.set_cons_succ]
      refine wpAnyH_take (i := 2) (oi := { dst := some 32, op := Go.Op.nilCheck (Go.Operand.tmp 31), type := 0, pos := _, after := #[{ on := 1, ground := Go.Ground.data }], guard := none }) (v := .pointer (some ⟨mb, 0, none⟩)) rfl (by kernel_rfl) (by kernel_rfl) (by kernel_rfl) (fun _ _ _ h => h) (Or.inl ⟨by rfl, fun w' hw' => ?_⟩) hHeld ?_
      · first | (go_simp; done) | (go_simp; rfl)
      try simp only [Act.put, List.setIfInBounds_toArray, List.set_cons_zero, List.set_cons_succ]
      refine wpAnyH_take (i := 3) (oi := { dst := some 33, op := Go.Op.fieldAddr 87 (Go.Operand.tmp 32) 0, type := 0, pos := _, after := #[{ on := 2, ground := Go.Ground.data }], guard := none }) (v := .pointer (some ⟨mb, 0, none⟩)) rfl (by kernel_rfl) (by kernel_rfl) (by kernel_rfl) (fun _ _ _ h => h) (Or.inl ⟨by rfl, fun w' hw' => ?_⟩) hHeld ?_
      · first | (go_simp; done) | (go_simp; rfl)
      try simp only [Act.put, List.setIfInBounds_toArray, List.set_cons_zero, List.set_cons_succ]
      refine wpAnyH_take (i := 4) (oi := { dst := some 34, op := Go.Op.load 25 (Go.Operand.tmp 33), type := 25, pos := _, after := #[{ on := 3, ground := Go.Ground.data }], guard := none }) (v := .slice (some ⟨gb, 0, none⟩) n n) rfl (by kernel_rfl) (by kernel_rfl) (by kernel_rfl) (fun _ _ _ h => h) (Or.inl ⟨by rfl, fun w' hw' => ?_⟩) hHeld ?_
      · have hcc := HCE.out _ hw'; first | (go_simp; done) | (go_simp; rfl)
      try simp only [Act.put, List.setIfInBounds_toArray, List.set_cons_zero, List.set_cons_succ]
      refine wpAnyH_take (i := 5) (oi := { dst := some 35, op := Go.Op.move (Go.Operand.tmp 8), type := 3, pos := _, after := #[], guard := none }) (v := .int .i64 (G : Int)) rfl (by kernel_rfl) (by kernel_rfl) (by kernel_rfl) (fun _ _ _ h => h) (Or.inl ⟨by rfl, fun w' hw' => ?_⟩) hHeld ?_
      · first | (go_simp; done) | (go_simp; rfl)
      try simp only [Act.put, List.setIfInBounds_toArray, List.set_cons_zero, List.set_cons_succ]
      refine wpAnyH_take (i := 6) (oi := { dst := some 36, op := Go.Op.indexAddr 25 (Go.Operand.tmp 34) (Go.Operand.tmp 35), type := 0, pos := _, after := #[{ on := 4, ground := Go.Ground.data }, { on := 5, ground := Go.Ground.data }], guard := none }) (v := .pointer (some ⟨gb, G * 128, none⟩)) rfl (by kernel_rfl) (by kernel_rfl) (by kernel_rfl) (fun _ _ _ h => h) (Or.inl ⟨by rfl, fun w' hw' => ?_⟩) hHeld ?_
      · first | (go_simp; done) | (go_simp; rfl)
      try simp only [Act.put, List.setIfInBounds_toArray, List.set_cons_zero, List.set_cons_succ]
      refine wpAnyH_take (i := 7) (oi := { dst := some 37, op := Go.Op.move (Go.Operand.tmp 9), type := 3, pos := _, after := #[], guard := none }) (v := .int .i64 (AT : Int)) rfl (by kernel_rfl) (by kernel_rfl) (by kernel_rfl) (fun _ _ _ h => h) (Or.inl ⟨by rfl, fun w' hw' => ?_⟩) hHeld ?_
      · first | (go_simp; done) | (go_simp; rfl)
      try simp only [Act.put, List.setIfInBounds_toArray, List.set_cons_zero, List.set_cons_succ]
      refine wpAnyH_take (i := 8) (oi := { dst := some 38, op := Go.Op.slice 68 (Go.Operand.tmp 36) (some (Go.Operand.tmp 37)) none none, type := 91, pos := _, after := #[{ on := 6, ground := Go.Ground.data }, { on := 7, ground := Go.Ground.data }], guard := none }) (v := .slice (some ⟨gb, G * 128 + AT, none⟩) (128 - AT) (128 - AT)) rfl (by kernel_rfl) (by kernel_rfl) (by kernel_rfl) (fun _ _ _ h => h) (Or.inl ⟨by rfl, fun w' hw' => ?_⟩) hHeld ?_
      · first | (go_simp; done) | (go_simp; rfl)
      try simp only [Act.put, List.setIfInBounds_toArray, List.set_cons_zero, List.set_cons_succ]
      refine wpAnyH_take (i := 9) (oi := { dst := some 39, op := Go.Op.move (Go.Operand.tmp 2), type := 91, pos := _, after := #[], guard := none }) (v := .slice (some ⟨sb, so, none⟩) b.length cap) rfl (by kernel_rfl) (by kernel_rfl) (by kernel_rfl) (fun _ _ _ h => h) (Or.inl ⟨by rfl, fun w' hw' => ?_⟩) hHeld ?_
      · first | (go_simp; done) | (go_simp; rfl)
      try simp only [Act.put, List.setIfInBounds_toArray, List.set_cons_zero, List.set_cons_succ]
      refine wpAnyH_take (i := 10) (oi := { dst := some 40, op := Go.Op.move (Go.Operand.tmp 7), type := 3, pos := _, after := #[], guard := none }) (v := .int .i64 (k : Int)) rfl (by kernel_rfl) (by kernel_rfl) (by kernel_rfl) (fun _ _ _ h => h) (Or.inl ⟨by rfl, fun w' hw' => ?_⟩) hHeld ?_
      · first | (go_simp; done) | (go_simp; rfl)
      try simp only [Act.put, List.setIfInBounds_toArray, List.set_cons_zero, List.set_cons_succ]
      refine wpAnyH_take (i := 11) (oi := { dst := some 41, op := Go.Op.slice 91 (Go.Operand.tmp 39) (some (Go.Operand.tmp 40)) none none, type := 91, pos := _, after := #[{ on := 9, ground := Go.Ground.data }, { on := 10, ground := Go.Ground.data }], guard := none }) (v := .slice (some ⟨sb, so + k, none⟩) (b.length - k) (cap - k)) rfl (by kernel_rfl) (by kernel_rfl) (by kernel_rfl) (fun _ _ _ h => h) (Or.inl ⟨by rfl, fun w' hw' => ?_⟩) hHeld ?_
      · first | (go_simp; done) | (go_simp; rfl)
      try simp only [Act.put, List.setIfInBounds_toArray, List.set_cons_zero, List.set_cons_succ]
      refine wpAnyH_ready (rs := [12]) (by kernel_rfl) (by simp) ?_
      refine AllReadyH.cons (o := { dst := some 42, op := Go.Op.call { callee := Go.Callee.builtin Go.Builtin.copy, args := #[Go.Operand.tmp 38, Go.Operand.tmp 41], argTypes := #[91, 91] }, type := 3, pos := _, after := #[{ on := 8, ground := Go.Ground.data }, { on := 11, ground := Go.Ground.data }], guard := none }) rfl (fun K hK => ?_) AllReadyH.nil
      rw [if_pos (by rfl)]
      refine wp_copy_seg _ _ rfl gb (G * 128 + AT) (128 - AT) (128 - AT) (some ⟨sb, so + k, none⟩) (b.length - k) (cap - k) rfl rfl (CUR.map B8) 68 HROW.out CS HCN.out (fun _ => ⟨_, rfl, HSR.out⟩) HFIT.out HC1.out ?_
      have hK2 := KB.set hHeld (splice (CUR.map B8) (G * 128 + AT) CS).toArray
      rw [HCL.out]
      refine hK.out _ _ hK2 (fun _ => ?_)
      clear hK K
      try simp only [Act.put, List.setIfInBounds_toArray, List.set_cons_zero, List.set_cons_succ]
      clear hHeld
      have hHeld := hK2
      refine wpAnyH_take (i := 13) (oi := { dst := some 43, op := Go.Op.binOp Go.BinOp.add 3 (Go.Operand.tmp 30) (Go.Operand.tmp 42) 3, type := 3, pos := _, after := #[{ on := 0, ground := Go.Ground.data }, { on := 12, ground := Go.Ground.data }], guard := none }) (v := .int .i64 ((k : Int) + (c : Int))) rfl (by kernel_rfl) (by kernel_rfl) (by kernel_rfl) (fun _ _ _ h => h) (Or.inl ⟨by rfl, fun w' hw' => ?_⟩) hHeld ?_
      · first | (go_simp; done) | (go_simp; exact wrap_i64_in _ (by omega) (by omega))
      try simp only [Act.put, List.setIfInBounds_toArray, List.set_cons_zero, List.set_cons_succ]
      refine wpAnyH_take (i := 14) (oi := { dst := some 7, op := Go.Op.assign (Go.Operand.tmp 43), type := 3, pos := _, after := #[{ on := 13, ground := Go.Ground.data }, { on := 12, ground := Go.Ground.chain }, { on := 0, ground := Go.Ground.phase }, { on := 1, ground := Go.Ground.phase }, { on := 2, ground := Go.Ground.phase }, { on := 3, ground := Go.Ground.phase }, { on := 4, ground := Go.Ground.phase }, { on := 5, ground := Go.Ground.phase }, { on := 6, ground := Go.Ground.phase }, { on := 7, ground := Go.Ground.phase }, { on := 8, ground := Go.Ground.phase }, { on := 9, ground := Go.Ground.phase }, { on := 10, ground := Go.Ground.phase }, { on := 11, ground := Go.Ground.phase }, { on := 12, ground := Go.Ground.phase }, { on := 13, ground := Go.Ground.phase }], guard := none }) (v := .int .i64 ((k : Int) + (c : Int))) rfl (by kernel_rfl) (by kernel_rfl) (by kernel_rfl) (fun _ _ _ h => h) (Or.inl ⟨by rfl, fun w' hw' => ?_⟩) hHeld ?_
      · first | (go_simp; done) | (go_simp; rfl)
      try simp only [Act.put, List.setIfInBounds_toArray, List.set_cons_zero, List.set_cons_succ]
      refine wpAnyH_done (by kernel_rfl) ?_ _
      go_wp2
      go_roundw
      case rel => exact ⟨k + c, by omega, by go_num, HEND.out, HKK.out.trans hK2⟩
      case measure => simp [intOf]; omega
    · have hke : k = b.length := by omega
      subst hke
      rw [List.take_length] at hP
      have HPP : Hid _ := hP
      have HKK : Hid (KB gb w wr) := hK
      clear hP hK
      go_wp2
      go_ret
      exact ⟨rfl, HPP.out, HKK.out⟩
set_option maxHeartbeats 1000000 in
set_option maxRecDepth 100000 in
theorem write_bad (mb gb n cap0 a len : Nat) (l : List UInt8) (p : Option Addr) (cap : Nat) (w : World) (h : PR w mb gb n cap0 l) (ha : a < 18446744073709551616) (hl : len ≤ 9223372036854775807) (hw : wIn n a len = false) :
    Calls Try.prog 45 #[.pointer (some ⟨mb, 0, none⟩), .int .u64 (a : Int), .slice p len cap] w fun e w' => e = .returned (.int .i64 6) ∧ w = w' := by
  have hnn := none_of _ _ _ _ w (list_at mb _ w h.cell)
  rw [show decide (n = 0) = false by simp; have := h.pos; omega] at hnn
  have hwi := within_any mb n cap0 _ a len w h.cell h.le ha hl
  rw [hw] at hwi
  have HNN : Hid _ := hnn
  have HWI : Hid _ := hwi
  clear hnn hwi h hw
  go_enter Try.func45, Try.ntmps45
  go_wp2_with fail
  refine Calls.mono HNN.out ?_
  rintro e w1 ⟨rfl, rfl⟩
  go_wp2_with fail
  refine Calls.mono HWI.out ?_
  rintro e w1 ⟨rfl, rfl⟩
  go_wp2
  go_ret
  exact ⟨rfl, rfl⟩
set_option maxHeartbeats 1000000 in
set_option maxRecDepth 100000 in
theorem write_none (mb gb n cap0 a : Nat) (l : List UInt8) (p : Option Addr) (cap : Nat) (w : World) (h : PR w mb gb n cap0 l) (ha : a < 18446744073709551616) :
    Calls Try.prog 45 #[.pointer (some ⟨mb, 0, none⟩), .int .u64 (a : Int), .slice p 0 cap] w fun e w' => e = .returned (.int .i64 0) ∧ w = w' := by
  have hnn := none_of _ _ _ _ w (list_at mb _ w h.cell)
  rw [show decide (n = 0) = false by simp; have := h.pos; omega] at hnn
  have hwi := within_any mb n cap0 _ a 0 w h.cell h.le ha (by omega)
  rw [show wIn n a 0 = true by unfold wIn; simp] at hwi
  have HNN : Hid _ := hnn
  have HWI : Hid _ := hwi
  clear hnn hwi h
  go_enter Try.func45, Try.ntmps45
  go_wp2_with fail
  refine Calls.mono HNN.out ?_
  rintro e w1 ⟨rfl, rfl⟩
  go_wp2_with fail
  refine Calls.mono HWI.out ?_
  rintro e w1 ⟨rfl, rfl⟩
  go_wp2
  refine wp_loop_rounds 1 ?_
  rw [rounds_succ]
  go_wp2
  go_ret
  exact ⟨rfl, rfl⟩
/-- Write, of bytes that stay while memory is written. -/
theorem write_ok (mb gb n a : Nat) (l b : List UInt8) (v : Value) (w : World) (h : PM w mb gb n l) (ha : a < 18446744073709551616) (hw : wIn n a b.length = true) (hv : ∀ W, KB gb w W → HB W v b) :
    Calls Try.prog 45 #[.pointer (some ⟨mb, 0, none⟩), .int .u64 (a : Int), v] w fun e w' => e = .returned (.int .i64 0) ∧ PM w' mb gb n (splice l a b) ∧ KB gb w w' := by
  by_cases hb : b = []
  · subst hb
    rcases hv w (KB.refl _ _) with ⟨_, p, cap, rfl, _⟩ | ⟨sb, so, cap, rfl, _⟩
    · refine (write_none mb gb n n a l p cap w h.pr ha).mono ?_
      rintro e w1 ⟨rfl, rfl⟩
      exact ⟨rfl, by rw [splice_nil]; exact h, KB.refl _ _⟩
    · refine (write_none mb gb n n a l _ cap w h.pr ha).mono ?_
      rintro e w1 ⟨rfl, rfl⟩
      exact ⟨rfl, by rw [splice_nil]; exact h, KB.refl _ _⟩
  · obtain ⟨sb, so, cap, rfl, hcap, hr⟩ := hb_form (hv w (KB.refl _ _)) hb
    have hpos : 0 < b.length := List.length_pos_iff.2 hb
    have hab : a + b.length ≤ 128 * n := by
      unfold wIn at hw
      simp only [decide_eq_true_eq] at hw
      omega
    refine write_some mb gb n a l b sb so cap w h hb hcap hab (fun W hW => ?_)
    obtain ⟨sb', so', cap', e, _, hr'⟩ := hb_form (hv W hW) hb
    simp only [Value.slice.injEq, Option.some.injEq, Addr.mk.injEq] at e
    obtain ⟨⟨rfl, rfl, _⟩, _, rfl⟩ := e
    exact hr'
end Go.Proofs.Ytnijjoankahddaa.MC
