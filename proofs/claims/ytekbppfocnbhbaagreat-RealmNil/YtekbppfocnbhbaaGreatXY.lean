/- realm: what realms answer that are not there. -/
import Derived.Test.YtekbppfocnbhbaaGreatXW
import Derived.Test.YtekbppfocnbhbaaGreatQU
set_option linter.unusedVariables false
set_option linter.unusedSimpArgs false
namespace Go.Proofs.YtekbppfocnbhbaaGreat.XC
open Go.RowKit

/-- Realms that are not there, or zero ones, from a world on. -/
def NN (pv : Value) (X : World) : Prop := ∀ W, Below X.heap.size X W → Calls Tryz.prog 54 #[pv] W fun e w' => e = .returned (.bool true) ∧ Below W.heap.size W w'
theorem NN.step {pv : Value} {X Y : World} (h : NN pv X) (hb : Below X.heap.size X Y) : NN pv Y := fun W hW => h W (hb.trans (hW.mono hb.size))
theorem nn_nil (X : World) : NN (.pointer none) X := fun W hW => by
  go_enter Tryz.func54, Tryz.ntmps54
  go_wp2
  go_ret
  exact ⟨rfl, Below.refl _ _⟩
theorem nn_zero (X : World) (zb : Nat) (hr : X.heap[zb]? = some (.cells #[.pointer none, .map none, .int .u64 0] 80 (0, 0))) : NN (.pointer (some ⟨zb, 0, none⟩)) X := fun W hW => by
  have h0 : W.cell? ⟨zb, 0, none⟩ = some (.pointer none) := by rw [cell_of_row _ _ 0 _ _ _ ((hW.block _ (PC.row_lt hr)).trans hr)]; rfl
  have HN : Hid _ := noOr_yes (.pointer none) W (fun X' _ => R5.none_nil X')
  clear hr hW
  go_enter Tryz.func54, Tryz.ntmps54
  go_wp2_with fail
  refine Calls.mono HN.out ?_
  rintro e w1 ⟨rfl, hb⟩
  have HB : Hid _ := hb
  clear hb HN
  go_wp2
  go_ret
  exact ⟨rfl, HB.out⟩
theorem new_nil (w : World) : Calls Tryz.prog 23 #[.pointer none] w fun e w' => e = .returned (.pointer none) ∧ Below w.heap.size w w' := by
  have HN : Hid _ := noOr_yes (.pointer none) w (fun X' _ => R5.none_nil X')
  go_enter Tryz.func23, Tryz.ntmps23
  go_wp2_with fail
  refine Calls.mono HN.out ?_
  rintro e w1 ⟨rfl, hb⟩
  have HB : Hid (Below w.heap.size w w1) := hb
  clear hb HN
  go_wp2
  go_ret
  exact ⟨rfl, HB.out⟩
section
variable {pv : Value} {X : World}
set_option maxHeartbeats 1000000 in
set_option maxRecDepth 100000 in
theorem n_at (h : NN pv X) (rd : Int) : Calls Tryz.prog 43 #[pv, .int .i64 rd] X fun e Y => e = .returned (.tuple #[.agg (rmL zR (.slice none 0 0)).toArray, .int .i64 1]) ∧ Below X.heap.size X Y := by
  have hz := fun W => zero_rm W
  have HBZ : Hid (∀ W, (Instr.build 47 #[]).run Tryz.prog W = .ok (.agg (rmL zR (.slice none 0 0)).toArray) W) := build_zrm
  obtain ⟨ZL, hZL⟩ : ∃ L, L = rmL zR (.slice none 0 0) := ⟨_, rfl⟩
  rw [← hZL] at hz HBZ
  have HZN : Hid (ZL.length = 103) := by show _ = _; rw [hZL]; exact rmL_len zR_ok _
  have HZS : Hid (ZL.toArray.size = 103) := by show _ = _; simpa using HZN.out
  have HZ1 : Hid (ZL.toArray.all (·.oneCell') = true) := by show _ = _; rw [hZL]; exact PC.onea (rmL_one _ _ rfl)
  have HZI : Hid ((Tryz.prog.info? 47).map (·.size) = some ZL.toArray.size) := info103a _ HZS.out
  have HN : Hid _ := h (X.alloc (.cells ZL.toArray 47 (0, 0))) ((Below.refl _ _).alloc (Nat.le_refl _) _)
  have HXB : Hid (Below X.heap.size X (X.alloc (.cells ZL.toArray 47 (0, 0)))) := (Below.refl _ _).alloc (Nat.le_refl _) _
  rw [← hZL]
  clear h hZL
  go_enter Tryz.func43, Tryz.ntmps43
  go_wp2_with fail
  refine Calls.mono HN.out ?_
  rintro e w1 ⟨rfl, hb⟩
  have HR1 : Hid (w1.heap[X.heap.size]? = some (.cells ZL.toArray 47 (0, 0))) := (hb.block _ (by simp)).trans (heap_alloc_new _ _)
  have HB1 : Hid (Below X.heap.size X w1) := HXB.out.trans (hb.mono (by simp))
  clear hb HN HXB
  go_wp2_with (first
    | (refine PC.wpList_build rfl 47 _ rfl #[] (.agg ZL.toArray) (by simp) (HBZ.out _) ?_)
    | (refine wpList_store_row rfl 47 _ _ rfl X.heap.size ZL.toArray rfl rfl 47 ZL.toArray HR1.out HZI.out rfl HZ1.out ?_))
  have hbE : Below X.heap.size X (w1.setRow X.heap.size ZL.toArray) := below_setRow HB1.out (Nat.le_refl _) _
  refine bodyPost_ret (v := .tuple #[.agg ZL.toArray, .int .i64 1]) ?_ rfl ⟨rfl, hbE⟩
  exact PC.results2 Tryz.results43 _ _ X.heap.size 47 _ (0, 0) _ rfl rfl (setRow_heap _ _ _ _ _ _ HR1.out) Tryz.underlying47 rfl (info103 _ HZN.out)
set_option maxHeartbeats 1000000 in
set_option maxRecDepth 100000 in
theorem n_chg (h : NN pv X) (rd : Int) (fv : Value) : Calls Tryz.prog 63 #[pv, .int .i64 rd, fv] X fun e Y => e = .returned (.int .i64 1) ∧ Below X.heap.size X Y := by
  have HAT : Hid _ := n_at h rd
  have hz := fun W => zero_rm W
  obtain ⟨ZL, hZL⟩ : ∃ L, L = rmL zR (.slice none 0 0) := ⟨_, rfl⟩
  rw [← hZL] at hz HAT
  have HZS : Hid (ZL.toArray.size = 103) := by show _ = _; rw [hZL]; simpa using rmL_len zR_ok _
  have HZ1 : Hid (ZL.toArray.all (·.oneCell') = true) := by show _ = _; rw [hZL]; exact PC.onea (rmL_one _ _ rfl)
  have HZI : Hid ((Tryz.prog.info? 47).map (·.size) = some ZL.toArray.size) := info103a _ HZS.out
  clear h hZL
  go_enter Tryz.func63, Tryz.ntmps63
  go_wp2_with fail
  refine Calls.mono HAT.out ?_
  rintro e w1 ⟨rfl, hb1⟩
  have hs1 := hb1.size
  have HRA : Hid ((w1.alloc (.cells ZL.toArray 47 (0, 0))).heap[w1.heap.size]? = some (.cells ZL.toArray 47 (0, 0))) := heap_alloc_new _ _
  have HB2 : Hid (Below X.heap.size X ((w1.alloc (.cells ZL.toArray 47 (0, 0))).setRow w1.heap.size ZL.toArray)) := below_setRow (hb1.alloc hs1 _) hs1 _
  clear hb1 HAT
  go_wp2_with (refine wpList_store_row rfl 47 _ _ rfl w1.heap.size ZL.toArray rfl rfl 47 ZL.toArray HRA.out HZI.out rfl HZ1.out ?_)
  go_ret
  exact ⟨rfl, HB2.out⟩
set_option maxHeartbeats 1000000 in
set_option maxRecDepth 100000 in
theorem n_cf (h : NN pv X) (rd root : Int) : Calls Tryz.prog 46 #[pv, .int .i64 rd, .int .i64 root] X fun e Y => e = .returned (.int .i64 1) ∧ Below X.heap.size X Y := by
  have HAT : Hid _ := n_at h rd
  have hz := fun W => zero_rm W
  obtain ⟨ZL, hZL⟩ : ∃ L, L = rmL zR (.slice none 0 0) := ⟨_, rfl⟩
  rw [← hZL] at hz HAT
  have HZS : Hid (ZL.toArray.size = 103) := by show _ = _; rw [hZL]; simpa using rmL_len zR_ok _
  have HZ1 : Hid (ZL.toArray.all (·.oneCell') = true) := by show _ = _; rw [hZL]; exact PC.onea (rmL_one _ _ rfl)
  have HZI : Hid ((Tryz.prog.info? 47).map (·.size) = some ZL.toArray.size) := info103a _ HZS.out
  clear h hZL
  go_enter Tryz.func46, Tryz.ntmps46
  go_wp2_with fail
  refine Calls.mono HAT.out ?_
  rintro e w1 ⟨rfl, hb1⟩
  have hs1 := hb1.size
  have HRA : Hid ((w1.alloc (.cells ZL.toArray 47 (0, 0))).heap[w1.heap.size]? = some (.cells ZL.toArray 47 (0, 0))) := heap_alloc_new _ _
  have HB2 : Hid (Below X.heap.size X ((w1.alloc (.cells ZL.toArray 47 (0, 0))).setRow w1.heap.size ZL.toArray)) := below_setRow (hb1.alloc hs1 _) hs1 _
  clear hb1 HAT
  go_wp2_with (refine wpList_store_row rfl 47 _ _ rfl w1.heap.size ZL.toArray rfl rfl 47 ZL.toArray HRA.out HZI.out rfl HZ1.out ?_)
  go_ret
  exact ⟨rfl, HB2.out⟩
set_option maxHeartbeats 1000000 in
set_option maxRecDepth 100000 in
theorem n_drop (h : NN pv X) (rd : Int) : Calls Tryz.prog 31 #[pv, .int .i64 rd] X fun e Y => e = .returned (.int .i64 1) ∧ Below X.heap.size X Y := by
  have HAT : Hid _ := n_at h rd
  have hz := fun W => zero_rm W
  obtain ⟨ZL, hZL⟩ : ∃ L, L = rmL zR (.slice none 0 0) := ⟨_, rfl⟩
  rw [← hZL] at hz HAT
  have HZS : Hid (ZL.toArray.size = 103) := by show _ = _; rw [hZL]; simpa using rmL_len zR_ok _
  have HZ1 : Hid (ZL.toArray.all (·.oneCell') = true) := by show _ = _; rw [hZL]; exact PC.onea (rmL_one _ _ rfl)
  have HZI : Hid ((Tryz.prog.info? 47).map (·.size) = some ZL.toArray.size) := info103a _ HZS.out
  clear h hZL
  go_enter Tryz.func31, Tryz.ntmps31
  go_wp2_with fail
  refine Calls.mono HAT.out ?_
  rintro e w1 ⟨rfl, hb1⟩
  have hs1 := hb1.size
  have HRA : Hid ((w1.alloc (.cells ZL.toArray 47 (0, 0))).heap[w1.heap.size]? = some (.cells ZL.toArray 47 (0, 0))) := heap_alloc_new _ _
  have HB2 : Hid (Below X.heap.size X ((w1.alloc (.cells ZL.toArray 47 (0, 0))).setRow w1.heap.size ZL.toArray)) := below_setRow (hb1.alloc hs1 _) hs1 _
  clear hb1 HAT
  go_wp2_with (refine wpList_store_row rfl 47 _ _ rfl w1.heap.size ZL.toArray rfl rfl 47 ZL.toArray HRA.out HZI.out rfl HZ1.out ?_)
  go_ret
  exact ⟨rfl, HB2.out⟩
set_option maxHeartbeats 1000000 in
theorem n_act (h : NN pv X) (rd : Int) : Calls Tryz.prog 28 #[pv, .int .i64 rd] X fun e Y => e = .returned (.int .i64 1) ∧ Below X.heap.size X Y := by
  have HC : Hid _ := n_chg h rd (.func (.func 69) #[] #[])
  clear h
  go_enter Tryz.func28, Tryz.ntmps28
  go_wp2_with fail
  refine Calls.mono HC.out ?_
  rintro e w1 ⟨rfl, hb⟩
  have HB : Hid (Below X.heap.size X w1) := hb
  clear hb HC
  go_wp2
  go_ret
  exact ⟨rfl, HB.out⟩
set_option maxHeartbeats 1000000 in
theorem n_kil (h : NN pv X) (rd : Int) : Calls Tryz.prog 29 #[pv, .int .i64 rd] X fun e Y => e = .returned (.int .i64 1) ∧ Below X.heap.size X Y := by
  have HC : Hid _ := n_chg h rd (.func (.func 70) #[] #[])
  clear h
  go_enter Tryz.func29, Tryz.ntmps29
  go_wp2_with fail
  refine Calls.mono HC.out ?_
  rintro e w1 ⟨rfl, hb⟩
  have HB : Hid (Below X.heap.size X w1) := hb
  clear hb HC
  go_wp2
  go_ret
  exact ⟨rfl, HB.out⟩
set_option maxHeartbeats 1000000 in
theorem n_drp (h : NN pv X) (rd : Int) : Calls Tryz.prog 27 #[pv, .int .i64 rd] X fun e Y => e = .returned (.int .i64 1) ∧ Below X.heap.size X Y := by
  have HC : Hid _ := n_chg h rd (.func (.func 68) #[] #[])
  clear h
  go_enter Tryz.func27, Tryz.ntmps27
  go_wp2_with fail
  refine Calls.mono HC.out ?_
  rintro e w1 ⟨rfl, hb⟩
  have HB : Hid (Below X.heap.size X w1) := hb
  clear hb HC
  go_wp2
  go_ret
  exact ⟨rfl, HB.out⟩
set_option maxHeartbeats 1000000 in
theorem n_str (h : NN pv X) (rd : Int) (TA : Array Value) : Calls Tryz.prog 30 #[pv, .int .i64 rd, .agg TA] X fun e Y => e = .returned (.int .i64 1) ∧ Below X.heap.size X Y := by
  have hb1 : Below X.heap.size X (X.alloc (.cells TA 33 (0, 0))) := (Below.refl _ _).alloc (Nat.le_refl _) _
  have HC : Hid _ := n_chg (h.step hb1) rd (.func (.func 71) #[] #[.pointer (some ⟨X.heap.size, 0, none⟩)])
  have HB1 : Hid _ := hb1
  clear h hb1
  go_enter Tryz.func30, Tryz.ntmps30
  go_wp2_with fail
  refine Calls.mono HC.out ?_
  rintro e w1 ⟨rfl, hb⟩
  have HB : Hid (Below X.heap.size X w1) := HB1.out.trans (hb.mono (by simp))
  clear hb HC HB1
  go_wp2
  go_ret
  exact ⟨rfl, HB.out⟩
set_option maxHeartbeats 1000000 in
theorem n_nxt (h : NN pv X) (rd : Int) : Calls Tryz.prog 24 #[pv, .int .i64 rd] X fun e Y => e = .returned (.tuple #[.int .u64 0, .int .i64 1]) ∧ Below X.heap.size X Y := by
  have hb1 : Below X.heap.size X (X.alloc (.cells #[.int .u64 0] 34 (0, 0))) := (Below.refl _ _).alloc (Nat.le_refl _) _
  have HC : Hid _ := n_chg (h.step hb1) rd (.func (.func 64) #[] #[.pointer (some ⟨X.heap.size, 0, none⟩)])
  have HB1 : Hid _ := hb1
  have HX1 : Hid (X.heap.size < (X.alloc (.cells #[.int .u64 0] 34 (0, 0))).heap.size) := by show _ < _; simp
  clear h hb1
  go_enter Tryz.func24, Tryz.ntmps24
  go_wp2_with fail
  refine Calls.mono HC.out ?_
  rintro e w1 ⟨rfl, hb⟩
  have HB : Hid (Below X.heap.size X w1) := HB1.out.trans (hb.mono (by simp))
  have hc : w1.cell? ⟨X.heap.size, 0, none⟩ = some (.int .u64 0) := by rw [cell_of_row _ _ _ _ _ _ ((hb.block _ HX1.out).trans (heap_alloc_new _ _))]; rfl
  clear hb HC HB1
  go_wp2
  go_ret2
  exact ⟨rfl, HB.out⟩
set_option maxHeartbeats 1000000 in
theorem n_add (p : Option Addr) (h : NN (.pointer p) X) (rd : Int) (PA : Array Value) : Calls Tryz.prog 26 #[.pointer p, .int .i64 rd, .agg PA] X fun e Y => e = .returned (.int .i64 1) ∧ Below X.heap.size X Y := by
  obtain ⟨X2, hX2⟩ : ∃ X2, X2 = (X.alloc (.cells #[.pointer p] 26 (0, 0))).alloc (.cells PA 41 (0, 0)) := ⟨_, rfl⟩
  have hb2 : Below X.heap.size X X2 := by rw [hX2]; exact ((Below.refl _ _).alloc (Nat.le_refl _) _).alloc (by simp) _
  have hc0 : X2.cell? ⟨X.heap.size, 0, none⟩ = some (.pointer p) := by rw [hX2, cell_of_row _ _ 0 _ _ _ (R5.alloc2_first _ _ _)]; rfl
  have HC : Hid (Calls Tryz.prog 63 #[.pointer p, .int .i64 rd, .func (.func 66) #[] #[.pointer (some ⟨X.heap.size + 1, 0, none⟩), .pointer (some ⟨X.heap.size, 0, none⟩)]] X2 fun e Y => e = .returned (.int .i64 1) ∧ Below X2.heap.size X2 Y) := n_chg (h.step hb2) rd _
  have HB2 : Hid (Below X.heap.size X X2) := hb2
  rw [hX2] at HC hc0
  clear h hb2
  go_enter Tryz.func26, Tryz.ntmps26
  go_wp2_with fail
  refine Calls.mono HC.out ?_
  rintro e w2 ⟨rfl, hb3⟩
  rw [← hX2] at hb3
  have HE : Hid (Below X.heap.size X w2) := HB2.out.trans (hb3.mono HB2.out.size)
  clear hb3 HC hX2 hc0
  go_wp2
  go_ret
  exact ⟨rfl, HE.out⟩
set_option maxHeartbeats 1000000 in
theorem n_data (p : Option Addr) (h : NN (.pointer p) X) (rd P : Int) (GA : Array Value) : Calls Tryz.prog 25 #[.pointer p, .int .i64 rd, .int .i64 P, .agg GA] X fun e Y => e = .returned (.int .i64 1) ∧ Below X.heap.size X Y := by
  obtain ⟨X3, hX3⟩ : ∃ X3, X3 = ((X.alloc (.cells #[.pointer p] 26 (0, 0))).alloc (.cells #[.int .i64 P] 3 (0, 0))).alloc (.cells GA 38 (0, 0)) := ⟨_, rfl⟩
  have hb3 : Below X.heap.size X X3 := by rw [hX3]; exact (((Below.refl _ _).alloc (Nat.le_refl _) _).alloc (by simp) _).alloc (by simp; omega) _
  have hr0 : X3.heap[X.heap.size]? = some (.cells #[.pointer p] 26 (0, 0)) := by rw [hX3, heap_alloc_old _ _ (by simp; omega)]; exact R5.alloc2_first _ _ _
  have hc0 : X3.cell? ⟨X.heap.size, 0, none⟩ = some (.pointer p) := by rw [cell_of_row _ _ 0 _ _ _ hr0]; rfl
  have HN : Hid _ := (h.step hb3) X3 (Below.refl _ _)
  have HNN : Hid (NN (.pointer p) X3) := h.step hb3
  have HB3 : Hid (Below X.heap.size X X3) := hb3
  have HR0 : Hid _ := hr0
  rw [hX3] at HN hc0
  clear h hb3 hr0
  go_enter Tryz.func25, Tryz.ntmps25
  go_wp2_with fail
  refine Calls.mono HN.out ?_
  rintro e w1 ⟨rfl, hb1⟩
  rw [← hX3] at hb1
  have hc2 : w1.cell? ⟨X.heap.size, 0, none⟩ = some (.pointer p) := by rw [cell_of_row _ _ 0 _ _ _ ((hb1.block _ (PC.row_lt HR0.out)).trans HR0.out)]; rfl
  have HC : Hid (∀ fv, Calls Tryz.prog 63 #[.pointer p, .int .i64 rd, fv] w1 fun e Y => e = .returned (.int .i64 1) ∧ Below w1.heap.size w1 Y) := fun fv => n_chg (HNN.out.step hb1) rd fv
  have HB1 : Hid (Below X.heap.size X w1) := HB3.out.trans (hb1.mono HB3.out.size)
  clear hb1 HN hc0 hX3
  go_wp2_with fail
  refine Calls.mono (HC.out _) ?_
  rintro e w2 ⟨rfl, hb2⟩
  have HE : Hid (Below X.heap.size X w2) := HB1.out.trans (hb2.mono HB1.out.size)
  clear hb2 HC
  go_wp2
  go_ret
  exact ⟨rfl, HE.out⟩
end
end Go.Proofs.YtekbppfocnbhbaaGreat.XC
