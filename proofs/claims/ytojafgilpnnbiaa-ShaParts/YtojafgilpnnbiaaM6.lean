/- Contracts of sha's New, Len, Copy, unpressed. -/
import Derived.Test.YtojafgilpnnbiaaS6
import Derived.BigQuiet
import Derived.Deep.QuietTactic
import Derived.WalkSmall
set_option linter.unusedVariables false
set_option linter.unusedSimpArgs false
namespace Go.Proofs.Ytojafgilpnnbiaa
open Go.RowKit

theorem wpList_built {ops : Array Oper} {rest : List Oper} {o : Oper} {a : Act} {w : World} {Q : Exit → Act → World → Prop} (hg : o.guard = none) (t : TypeId) (parts : Array (Nat × Operand)) (ho : o.op = .build t parts) (cells : Array Value)
    (hc : Try.prog.built t (parts.map fun (i, x) => (i, a.eval x)).toList = some cells) (h : wpList Try.prog ops Q rest (a.put o.dst (.agg cells)) w) : wpList Try.prog ops Q (o :: rest) a w := by
  refine wpList_build hg t parts ho (by rw [hc]; rfl) ?_
  rw [hc]; exact h
theorem built_new : Try.prog.built 53 [(0, .bool true), (1, .agg (H8.map W32).toArray)] = some (hst ((stL []).map W32) ((pad64 (restL [])).map B8) 0).toArray := by kernel_rfl
theorem row_lt {w : World} {d : Nat} {o : Obj} (h : w.heap[d]? = some o) : d < w.heap.size := (Array.getElem?_eq_some_iff.1 h).1
theorem HM.below {w w' : World} {b : Nat} {m : List UInt8} (h : HM w b m) (hb : Below w.heap.size w w') : HM w' b m := (hb.block b (row_lt h)).trans h
theorem HM.c0 {w : World} {b : Nat} {m : List UInt8} (h : HM w b m) : w.cell? ⟨b, 0, none⟩ = some (.bool true) := by rw [cell_of_row _ _ 0 _ _ _ h, hst_get0]
theorem st8 (m : List UInt8) : ((stL m).map W32).length = 8 := by rw [List.length_map, stL_len]
theorem rs64 (m : List UInt8) : ((pad64 (restL m)).map B8).length = 64 := by rw [List.length_map, pad64_len _ (by rw [restL_len]; omega)]
theorem HM.c73 {w : World} {b : Nat} {m : List UInt8} (h : HM w b m) : w.cell? ⟨b, 73, none⟩ = some (.int .i64 (m.length : Int)) := by rw [cell_of_row _ _ 73 _ _ _ h, hst_get73 _ _ _ (st8 m) (rs64 m)]
theorem HM.hb {w : World} {b : Nat} {m : List UInt8} (h : HM w b m) : HB w (.slice (some ⟨b, 9, none⟩) (m.length % 64) 64) (restL m) := by
  by_cases h0 : m.length % 64 = 0
  · exact .inl ⟨List.eq_nil_of_length_eq_zero (by rw [restL_len, h0]), some ⟨b, 9, none⟩, 64, by rw [h0], fun h => by cases h⟩
  · refine .inr ⟨b, 9, 64, by rw [restL_len], by rw [restL_len]; omega, by decide, fun i hi => ?_⟩
    refine hst_range_rs (st8 m) h i _ ?_
    rw [List.getElem?_map]
    unfold pad64
    rw [List.getElem?_append_left hi, List.getElem?_eq_getElem hi]
    simp [B8, List.getD, List.getElem?_eq_getElem hi]

set_option maxHeartbeats 1000000 in
theorem newM_any (w : World) : Calls Try.prog 23 #[] w fun e w' => ∃ b, e = .returned (.pointer (some ⟨b, 0, none⟩)) ∧ HM w' b [] ∧ w.heap.size ≤ b ∧ Below w.heap.size w w' := by
  have hsts := fun W => shaStarts_any W
  have hbt := built_new
  obtain ⟨S, hS⟩ : ∃ S, S = (H8.map W32).toArray := ⟨_, rfl⟩
  obtain ⟨HC, hHC⟩ : ∃ HC, HC = (hst ((stL []).map W32) ((pad64 (restL [])).map B8) 0).toArray := ⟨_, rfl⟩
  rw [← hS] at hsts hbt
  rw [← hHC] at hbt
  have HBT : Hid _ := hbt
  have HHC : Hid _ := hHC
  clear hS hbt hHC
  go_enter Try.func23, Try.ntmps23
  go_wp2_with fail
  refine (hsts _).mono ?_
  rintro e w1 ⟨rfl, hb1⟩
  have hs1 := hb1.size
  go_wp2_with (refine wpList_built rfl 53 _ rfl HC (by simp only [List.map_toArray, List.map_cons, List.map_nil]; exact HBT.out) ?_)
  go_ret
  refine ⟨w1.heap.size, rfl, ?_, hs1, hb1.alloc hs1 _⟩
  unfold HM
  rw [show (([] : List UInt8).length : Int) = 0 from rfl, ← HHC.out]
  exact heap_alloc_new _ _

theorem lenM_any (b : Nat) (m : List UInt8) (w : World) (h : HM w b m) : Calls Try.prog 27 #[.pointer (some ⟨b, 0, none⟩)] w fun e w' => e = .returned (.int .i64 (m.length : Int)) ∧ w = w' := by
  have hn := none_at b true w h.c0
  have hc := h.c73
  clear h
  go_enter Try.func27, Try.ntmps27
  go_wp2_with fail
  refine hn.mono ?_
  rintro e w1 ⟨rfl, rfl⟩
  go_wp2
  go_ret
  exact ⟨rfl, rfl⟩

theorem sliceRest (W : World) (b r : Nat) (h : r < 64) : (Instr.sliceAt 32 (.pointer (some ⟨b, 9, none⟩)) none (some (.int .i64 (r : Int))) none).run Try.prog W = .ok (.slice (some ⟨b, 9, none⟩) r 64) W := by
  have ha : Try.prog.arrayLen 32 = 64 := by kernel_rfl
  have hu : Try.prog.underlying 32 = some (.array (Try.prog.arrayLen 32) (Try.prog.elem 32)) := by kernel_rfl
  have he : Try.prog.elem 32 = 5 := by kernel_rfl
  rw [run_sliceAt_array_h W 32 _ hu .i64 _ (by omega) (by rw [ha]; omega), he, size_u8, ha]
  have hadd : (⟨b, 9, none⟩ : Addr).add (0 * 1) = ⟨b, 9, none⟩ := by unfold Addr.add; split <;> simp_all
  simp only [Result.andThen, slicedAt]
  rw [if_neg (by decide), hadd]
  simp

set_option maxHeartbeats 1000000 in
theorem unpressed_any (b : Nat) (m : List UInt8) (w : World) (h : HM w b m) (hm : m.length ≤ 1099511627776) : Calls Try.prog 42 #[.pointer (some ⟨b, 0, none⟩)] w fun e w' => e = .returned (.slice (some ⟨b, 9, none⟩) (m.length % 64) 64) ∧ Below w.heap.size w w' := by
  obtain ⟨r, hr⟩ : ∃ r, r = m.length % 64 := ⟨_, rfl⟩
  have hrI : (m.length : Int) % 64 = (r : Int) := by omega
  have hr64 : r < 64 := by omega
  have hsl := fun W => sliceRest W b r hr64
  have hc := h.c73
  rw [← hr]
  clear h hr
  go_enter Try.func42, Try.ntmps42
  go_wp2
  go_quiet (fail)
  go_wp2
  go_ret
  exact ⟨rfl, below_drewN (Below.refl _ _) _⟩

/-- A store over a row's cells, where the walk stands at it. -/
theorem upon_store {o : Oper} {a : Act} {K : Act → World → Prop} {Q : Exit → Act → World → Prop} {W : World} (g : Nat) (cs old : Array Value) (t : TypeId) (hg : W.heap[g]? = some (.cells old t (0, 0))) (hsz : old.size = cs.size) (h1 : cs.all (·.oneCell') = true)
    (h : ∀ W', Hid (W'.heap[g]? = some (.cells cs t (0, 0))) → Below g W W' → Oper.upon Try.prog o a K Q (.ok .skip W')) :
    Oper.upon Try.prog o a K Q (((storeCells ⟨g, 0, none⟩ cs.toList).run Try.prog W).andThen fun _ w' => .ok .skip w') := by
  have h1' : ∀ v ∈ cs.toList, v.oneCell' = true := fun v hv => by
    rw [Array.all_eq_true_iff_forall_mem] at h1
    exact h1 v (by simpa using hv)
  rw [run_storeCells_at Try.prog g 0 t cs.toList 0 old W hg (by simp; omega) h1']
  have e : (old.toList.take (0 + 0) ++ cs.toList ++ old.toList.drop (0 + 0 + cs.toList.length)).toArray = cs := by
    rw [← Array.toList_inj]
    simp [hsz]
  rw [e]
  exact h _ (setRow_heap _ _ _ _ _ _ hg) (below_setRow (Below.refl _ _) (Nat.le_refl _) _)

theorem hc_all (m : List UInt8) : (hst ((stL m).map W32) ((pad64 (restL m)).map B8) m.length).toArray.all (·.oneCell') = true := by
  rw [Array.all_eq_true_iff_forall_mem]
  intro v hv
  simp only [hst, List.mem_toArray, List.mem_cons, List.mem_append, List.mem_map, List.not_mem_nil, or_false] at hv
  rcases hv with rfl | ⟨x, _, rfl⟩ | ⟨x, _, rfl⟩ | rfl <;> rfl

/-- The cells of a zero Hash. -/
def ZHc : Array Value := (Value.bool false :: (List.replicate 8 (Value.int .u32 0) ++ List.replicate 64 (Value.int .u8 0) ++ [Value.int .i64 0])).toArray
theorem zeroHc (w : World) : (zeroValue 53).run Try.prog w = .ok (.agg ZHc) w := by kernel_rfl
theorem ZHc_size : ZHc.size = 74 := rfl

set_option maxHeartbeats 1000000 in
theorem copyM_any (b : Nat) (m : List UInt8) (w : World) (h : HM w b m) : Calls Try.prog 28 #[.pointer (some ⟨b, 0, none⟩)] w fun e w' => ∃ c, e = .returned (.pointer (some ⟨c, 0, none⟩)) ∧ HM w' c m ∧ w.heap.size ≤ c ∧ Below w.heap.size w w' := by
  have hn := none_at b true w h.c0
  have hall := hc_all m
  have hl74 := hst_len ((stL m).map W32) ((pad64 (restL m)).map B8) (m.length : Int) (st8 m) (rs64 m)
  obtain ⟨HC, hHC⟩ : ∃ HC, HC = (hst ((stL m).map W32) ((pad64 (restL m)).map B8) m.length).toArray := ⟨_, rfl⟩
  have hrow : w.heap[b]? = some (.cells HC 53 (0, 0)) := by rw [hHC]; exact h
  rw [← hHC] at hall
  have hcs : HC.size = 74 := by rw [hHC, List.size_toArray, hl74]
  have HI : Hid ((Try.prog.info? 53).map (·.size) = some HC.size) := by show _ = _; rw [hcs]; kernel_rfl
  have hzv := fun W => zeroHc W
  have HS : Hid (ZHc.size = HC.size) := by show _ = _; rw [hcs, ZHc_size]
  generalize ZHc = ZQ at *
  have HA : Hid _ := hall
  have HR : Hid _ := hrow
  have HHC : Hid _ := hHC
  clear h hall hl74 hHC hrow
  go_enter Try.func28, Try.ntmps28
  go_wp2_with fail
  refine hn.mono ?_
  rintro e w1 ⟨rfl, rfl⟩
  clear hn
  go_wp2_with (first
    | (refine wpList_load_row rfl 53 _ rfl b rfl 53 HC (0, 0) _ HR.out Try.underlying53 rfl HI.out ?_)
    | (refine wpList_store_row rfl 53 _ _ rfl w.heap.size HC rfl rfl 53 _ (heap_alloc_new _ _) HI.out HS.out HA.out ?_))
  go_ret
  refine ⟨w.heap.size, rfl, ?_, Nat.le_refl _, below_setRow ((Below.refl _ _).alloc (Nat.le_refl _) _) (Nat.le_refl _) _⟩
  unfold HM
  rw [← HHC.out]
  exact setRow_heap _ _ _ _ _ _ (heap_alloc_new _ _)

/-- What stays while Sum runs. -/
def SS (w : World) (w' : World) : Prop := w'.heap[w.heap.size]? = some (.cells Z32 25 (0, 0)) ∧ Below w.heap.size w w'
theorem SS.below {w a c : World} (h : SS w a) (hb : Below a.heap.size a c) : SS w c := ⟨(hb.block _ (row_lt h.1)).trans h.1, h.2.trans (hb.mono h.2.size)⟩

set_option maxHeartbeats 4000000 in
set_option maxRecDepth 100000 in
theorem sumM_any (b : Nat) (m : List UInt8) (w : World) (hm : m.length ≤ 4294967296) (h : HM w b m) : Calls Try.prog 26 #[.pointer (some ⟨b, 0, none⟩)] w fun e w' => e = .returned (.tuple #[.agg ((shaL m).map B8).toArray, .int .i64 0]) ∧ Below w.heap.size w w' := by
  have hn := fun W hW => none_at b true W (HM.c0 (w := W) (m := m) hW)
  have hup := fun W hW => unpressed_any b m W hW (by omega)
  have hpad := fun W => padding_any m.length W (by omega)
  obtain ⟨r, hr⟩ : ∃ r, r = m.length % 64 := ⟨_, rfl⟩
  rw [← hr] at hup
  have hHB : ∀ W, HM W b m → HB W (.slice (some ⟨b, 9, none⟩) r 64) (restL m) := fun W hW => by rw [hr]; exact hW.hb
  have HHB : Hid _ := hHB
  obtain ⟨LL, hLL⟩ : ∃ LL, LL = restL m ++ padT m.length := ⟨_, rfl⟩
  have hsum : shaL m = dig8 (pAll (stL m) LL (LL.length / 64)) := by rw [hLL]; exact sum_join m
  have hrl := restL_len m
  have hpl : (padT m.length).length = (padL m).length - m.length := by rw [padL_eq]; simp
  have hpm := padL_mod m
  have hpp := padL_pos m
  have hple := padL_le m
  have hpe : (padL m).length = m.length + (padT m.length).length := by rw [padL_eq]; simp
  have hLl : LL.length = m.length % 64 + (padT m.length).length := by rw [hLL, List.length_append, hrl]
  have hL64 : LL.length % 64 = 0 := by omega
  have hL0 : 0 < LL.length := by
    have : 0 < (padT m.length).length := by unfold padT; simp
    omega
  have hLb : LL.length ≤ 1000 := by omega
  have HFE : Hid (LL = [restL m, padT m.length].flatten) := by show _ = _; rw [hLL]; simp
  have hfl : [restL m, padT m.length].flatten.length ≤ 1099511627776 := by rw [← HFE.out]; omega
  have HFL : Hid _ := hfl
  have hpa := fun g cap W h1 h2 h3 => pressAll_some (stL m) (stL_len m) g cap LL W hL0 hL64 (by omega) h1 h2 h3
  have hdg := fun W => digest_any (pAll (stL m) LL (LL.length / 64)) W (pAll_len _ _ _ (stL_len m))
  rw [← hsum] at hdg
  generalize pAll (stL m) LL (LL.length / 64) = PP at *
  obtain ⟨RS, hRS⟩ : ∃ RS, RS = ((shaL m).map B8).toArray := ⟨_, rfl⟩
  rw [← hRS] at hdg ⊢
  have hrs : RS.size = 32 := by rw [hRS]; simp [shaL, dig8_len]
  have HRI : Hid ((Try.prog.info? 25).map (·.size) = some RS.size) := by show _ = _; rw [hrs]; kernel_rfl
  have HR1 : Hid (RS.all (·.oneCell') = true) := by show _ = _; rw [hRS]; exact B8_onea _
  have HRS : Hid ((32 : Nat) = RS.size) := hrs.symm
  have HST : Hid (∀ W, HM W b m → W.rangeAt b 1 ((stL m).map W32)) := fun W hW => hst_range_st hW
  have hi8 : (Try.prog.info? 31).map (·.size) = some ((stL m).map W32).length := by rw [st8]; kernel_rfl
  have HI8 : Hid _ := hi8
  have HC73 : Hid (∀ W, HM W b m → W.cell? ⟨b, 73, none⟩ = some (.int .i64 (m.length : Int))) := fun W hW => hW.c73
  have HH : Hid _ := h
  have hbs : b < w.heap.size := row_lt h
  have HHM : Hid (∀ W, Below w.heap.size w W → HM W b m) := fun W hW => HM.below HH.out hW
  clear h hr hHB hLL hsum hrl hpl hpm hpp hple hpe hLl hfl hRS hi8
  generalize (stL m).map W32 = SV at *
  generalize stL m = SM at *
  go_enter Try.func26, Try.ntmps26
  go_wp2_with fail
  refine (hn _ (HHM.out _ ((Below.refl _ _).alloc (Nat.le_refl _) _))).mono ?_
  rintro e w1 ⟨rfl, hw⟩
  have HS1 : Hid (SS w w1.drew) := by
    rw [← hw]
    exact ⟨by rw [heap_drew]; exact heap_alloc_new _ _, ((Below.refl _ _).alloc (Nat.le_refl _) _).drew⟩
  clear hw hn
  go_wp2
  refine wp_region_held_drew (S := SS w) (by kernel_rfl) HS1.out (fun hHeld => ?_)
  refine wpAnyH_take (i := 0) (oi := { dst := some 8, op := Go.Op.move (Go.Operand.tmp 0), type := 42, pos := _, after := #[], guard := none }) (v := .pointer (some ⟨b, 0, none⟩)) rfl (by kernel_rfl) (by kernel_rfl) (by kernel_rfl) (fun _ _ _ h => h) (Or.inl ⟨by rfl, fun w' hw' => ?_⟩) hHeld ?_
  · first | (go_simp; done) | (go_simp; rfl)
  try simp only [Act.put, List.setIfInBounds_toArray, List.set_cons_zero, List.set_cons_succ]
  refine wpAnyH_take (i := 2) (oi := { dst := some 10, op := Go.Op.move (Go.Operand.tmp 0), type := 42, pos := _, after := #[], guard := none }) (v := .pointer (some ⟨b, 0, none⟩)) rfl (by kernel_rfl) (by kernel_rfl) (by kernel_rfl) (fun _ _ _ h => h) (Or.inl ⟨by rfl, fun w' hw' => ?_⟩) hHeld ?_
  · first | (go_simp; done) | (go_simp; rfl)
  try simp only [Act.put, List.setIfInBounds_toArray, List.set_cons_zero, List.set_cons_succ]
  refine wpAnyH_take (i := 3) (oi := { dst := some 11, op := Go.Op.nilCheck (Go.Operand.tmp 10), type := 0, pos := _, after := #[{ on := 2, ground := Go.Ground.data }], guard := none }) (v := .pointer (some ⟨b, 0, none⟩)) rfl (by kernel_rfl) (by kernel_rfl) (by kernel_rfl) (fun _ _ _ h => h) (Or.inl ⟨by rfl, fun w' hw' => ?_⟩) hHeld ?_
  · first | (go_simp; done) | (go_simp; rfl)
  try simp only [Act.put, List.setIfInBounds_toArray, List.set_cons_zero, List.set_cons_succ]
  refine wpAnyH_take (i := 4) (oi := { dst := some 12, op := Go.Op.fieldAddr 53 (Go.Operand.tmp 11) 3, type := 0, pos := _, after := #[{ on := 3, ground := Go.Ground.data }], guard := none }) (v := .pointer (some ⟨b, 73, none⟩)) rfl (by kernel_rfl) (by kernel_rfl) (by kernel_rfl) (fun _ _ _ h => h) (Or.inl ⟨by rfl, fun w' hw' => ?_⟩) hHeld ?_
  · first | (go_simp; done) | (go_simp; rfl)
  try simp only [Act.put, List.setIfInBounds_toArray, List.set_cons_zero, List.set_cons_succ]
  refine wpAnyH_take (i := 5) (oi := { dst := some 13, op := Go.Op.load 3 (Go.Operand.tmp 12), type := 3, pos := _, after := #[{ on := 4, ground := Go.Ground.data }], guard := none }) (v := .int .i64 (m.length : Int)) rfl (by kernel_rfl) (by kernel_rfl) (by kernel_rfl) (fun _ _ _ h => h) (Or.inl ⟨by rfl, fun w' hw' => ?_⟩) hHeld ?_
  · have hcc := HC73.out _ (HHM.out _ hw'.2); first | (go_simp; done) | (go_simp; rfl)
  try simp only [Act.put, List.setIfInBounds_toArray, List.set_cons_zero, List.set_cons_succ]
  refine wpAnyH_ready (rs := [1]) (by kernel_rfl) (by simp) ?_
  refine AllReadyH.cons (o := { dst := some 9, op := Go.Op.call { callee := Go.Callee.value (Go.Operand.func 42), args := #[Go.Operand.tmp 8], argTypes := #[42] }, type := 22, pos := _, after := #[{ on := 0, ground := Go.Ground.data }], guard := none }) rfl (fun K hK => ?_) AllReadyH.nil
  rw [if_pos (by rfl)]
  go_wp2_with fail
  refine (hup _ (HHM.out _ hHeld.2)).mono ?_
  rintro e w2 ⟨rfl, hb2⟩
  have hHeld2 := SS.below hHeld hb2
  clear hb2
  refine hK.out _ _ hHeld2 (fun _ => ?_)
  clear hK K
  try simp only [Act.put, List.setIfInBounds_toArray, List.set_cons_zero, List.set_cons_succ]
  refine wpAnyH_ready (rs := [6]) (by kernel_rfl) (by simp) ?_
  refine AllReadyH.cons (o := { dst := some 14, op := Go.Op.call { callee := Go.Callee.value (Go.Operand.func 35), args := #[Go.Operand.tmp 13], argTypes := #[3] }, type := 22, pos := _, after := #[{ on := 5, ground := Go.Ground.data }, { on := 1, ground := Go.Ground.chain }], guard := none }) rfl (fun K hK => ?_) AllReadyH.nil
  rw [if_pos (by rfl)]
  go_wp2_with fail
  refine (hpad _).mono ?_
  rintro e w3 ⟨vp, rfl, hfp, hb3⟩
  obtain ⟨p8, c8, rfl⟩ := hfp.form'
  have hHeld3 := SS.below hHeld2 hb3
  have HVP : Hid _ := hfp.hb
  clear hb3 hfp
  refine hK.out _ _ hHeld3 (fun _ => ?_)
  clear hK K
  try simp only [Act.put, List.setIfInBounds_toArray, List.set_cons_zero, List.set_cons_succ]
  refine wpAnyH_ready (rs := [7]) (by kernel_rfl) (by simp) ?_
  refine AllReadyH.cons (o := { dst := some 15, op := Go.Op.buildSlice 40 2 #[(0, Go.Operand.tmp 9), (1, Go.Operand.tmp 14)], type := 40, pos := _, after := #[{ on := 1, ground := Go.Ground.data }, { on := 6, ground := Go.Ground.data }], guard := none }) rfl (fun K hK => ?_) AllReadyH.nil
  rw [if_pos (by rfl)]
  go_wp2_with fail
  have hHeld4 := SS.below hHeld3 ((Below.refl w3.heap.size w3).alloc (Nat.le_refl _) (.cells #[.slice (some ⟨b, 9, none⟩) r 64, .slice p8 (padT m.length).length c8] 22))
  refine hK.out _ _ hHeld4 (fun _ => ?_)
  clear hK K
  try simp only [Act.put, List.setIfInBounds_toArray, List.set_cons_zero, List.set_cons_succ]
  refine wpAnyH_ready (rs := [8]) (by kernel_rfl) (by simp) ?_
  refine AllReadyH.cons (o := { dst := some 16, op := Go.Op.call { callee := Go.Callee.value (Go.Operand.func 34), args := #[Go.Operand.tmp 15], argTypes := #[40] }, type := 22, pos := _, after := #[{ on := 7, ground := Go.Ground.data }, { on := 6, ground := Go.Ground.chain }], guard := none }) rfl (fun K hK => ?_) AllReadyH.nil
  rw [if_pos (by rfl)]
  go_wp2_with fail
  refine (join_any _ _ [restL m, padT m.length] _ (by simp) HFL.out (two_cells _ _ _ _ _ _ rfl (HB.alloc (HHB.out _ (HHM.out _ hHeld3.2)) _) (HB.alloc HVP.out _))).mono ?_
  rintro e w5 ⟨vj, rfl, hfj, hb5⟩
  have hHeld5 := SS.below hHeld4 hb5
  rw [← HFE.out] at hfj
  have HFJ : Hid _ := hfj
  clear hb5 hfj
  refine hK.out _ _ hHeld5 (fun _ => ?_)
  clear hK K
  try simp only [Act.put, List.setIfInBounds_toArray, List.set_cons_zero, List.set_cons_succ]
  have hHeld := hHeld5
  refine wpAnyH_take (i := 9) (oi := { dst := some 4, op := Go.Op.assign (Go.Operand.tmp 16), type := 22, pos := _, after := #[{ on := 8, ground := Go.Ground.data }, { on := 8, ground := Go.Ground.chain }, { on := 0, ground := Go.Ground.phase }, { on := 1, ground := Go.Ground.phase }, { on := 2, ground := Go.Ground.phase }, { on := 3, ground := Go.Ground.phase }, { on := 4, ground := Go.Ground.phase }, { on := 5, ground := Go.Ground.phase }, { on := 6, ground := Go.Ground.phase }, { on := 7, ground := Go.Ground.phase }, { on := 8, ground := Go.Ground.phase }], guard := none }) (v := vj) rfl (by kernel_rfl) (by kernel_rfl) (by kernel_rfl) (fun _ _ _ h => h) (Or.inl ⟨by rfl, fun w' hw' => ?_⟩) hHeld ?_
  · first | (go_simp; done) | (go_simp; rfl)
  try simp only [Act.put, List.setIfInBounds_toArray, List.set_cons_zero, List.set_cons_succ]
  refine wpAnyH_done (by kernel_rfl) ?_ _
  have HS5 : Hid _ := hHeld5
  clear hHeld hHeld2 hHeld3 hHeld4 hHeld5
  rcases HFJ.out.2 with ⟨h1, h2⟩ | ⟨g, cap, cur, h1, h2, h3, h4, h5, h6⟩
  · exact absurd h2 (by omega)
  subst h1
  have hcel : ∀ i, i < LL.length → w5.cell? ⟨g, i, none⟩ = some (.int .u8 ((LL.getD i 0).toNat : Int)) := fun i hi => by
    have := World.ownsRow.cellAt HFJ.out (g := g) i (by omega)
    rw [this, List.getElem?_map, List.getElem?_eq_getElem hi]
    simp [B8, List.getD, List.getElem?_eq_getElem hi]
  have hpa5 := hpa g cap w5 h4 h5 hcel
  have HR5 : Hid _ := HST.out w5 (HHM.out w5 HS5.out.2)
  clear hpa hcel h2 h3 h4 h5 h6 HFJ
  go_wp2_with (refine wpList_load_mid rfl 31 _ rfl b 1 rfl SV _ HR5.out Try.underlying31 rfl HI8.out ?_)
  refine hpa5.mono ?_
  rintro e w6 ⟨rfl, hb6⟩
  have HS6 : Hid _ := SS.below HS5.out hb6
  clear hb6 HS5 hpa5
  go_wp2_with fail
  refine (hdg _).mono ?_
  rintro e w7 ⟨rfl, hb7⟩
  have HS7 : Hid _ := SS.below HS6.out hb7
  clear hb7 HS6
  go_wp2_with fail
  refine upon_store w.heap.size RS Z32 25 HS7.out.1 HRS.out HR1.out ?_
  intro wF HF hbF
  have hbw : Below w.heap.size w wF := HS7.out.2.trans hbF
  clear hbF HS7
  go_wp2
  refine bodyPost_ret (v := .tuple #[.agg RS, .int .i64 0]) ?_ rfl ⟨rfl, hbw⟩
  exact results_dig2 Try.results26 _ _ w.heap.size 25 _ (0, 0) _ rfl rfl HF.out HRI.out

end Go.Proofs.Ytojafgilpnnbiaa
