/- OracleNil: the walk. -/
import Derived.Test.YtefhjjjjbkkedaaQV
import Derived.Test.YtefhjjjjbkkedaaQP
set_option linter.unusedVariables false
set_option linter.unusedSimpArgs false
namespace Go.Proofs.Ytefhjjjjbkkedaa.R5.oracleNil
open scoped Classical
open Go.RowKit

theorem build_n1 (w : World) : (Instr.build 33 #[(0, .int .i64 1), (2, .int .i64 1)]).run Try.prog w = .ok (.agg (qL ⟨1, z32, 1, []⟩ (.slice none 0 0)).toArray) w := by kernel_rfl
theorem bs_two (w : World) (b : Nat) : (Instr.buildSlice 54 2 #[(0, .pointer none), (1, .pointer (some ⟨b, 0, none⟩))]).run Try.prog w = .ok (.slice (some ⟨w.heap.size, 0, none⟩) 2 2) (w.alloc (.cells #[.pointer none, .pointer (some ⟨b, 0, none⟩)] 27 (0, 0))) := by kernel_rfl
theorem eq_nilf (w : World) (b : Nat) : (binOp .eql 60 (.func (.func 38) #[] #[.pointer (some ⟨b, 0, none⟩)]) .nilFunc).run Try.prog w = .ok (.bool false) w := by kernel_rfl
set_option maxHeartbeats 8000000 in
set_option maxRecDepth 100000 in
theorem walk (w : World) : Calls Try.prog 5 #[] w fun e w' => e = .returned (.bool true) ∧ Below w.heap.size w w' := by
  have hzv := fun W => zero_dig W
  have hzo := fun W => zero_or W
  have heqf := fun W b => eq_nilf W b
  have hq1 := fun W => build_n1 W
  have hq4 := fun W => build_k4 W
  obtain ⟨ZL, hZL⟩ : ∃ L, L = (List.replicate 32 (0 : UInt8)).map B8 := ⟨_, rfl⟩
  have HZL : Hid (ZL = z32.map B8) := hZL
  rw [← hZL] at hzv
  have HZS : Hid (ZL.toArray.size = 32) := by show _ = _; rw [hZL]; simp
  have HZ1 : Hid (ZL.toArray.all (·.oneCell') = true) := by show _ = _; rw [hZL]; exact B8_onea _
  obtain ⟨Q1, hQ1⟩ : ∃ L, L = qL ⟨1, z32, 1, []⟩ (.slice none 0 0) := ⟨_, rfl⟩
  obtain ⟨Q4, hQ4⟩ : ∃ L, L = qL ⟨4, z32, 1, []⟩ (.slice none 0 0) := ⟨_, rfl⟩
  rw [← hQ1] at hq1
  rw [← hQ4] at hq4
  obtain ⟨ZO, hZO⟩ : ∃ Z, Z = zOr := ⟨_, rfl⟩
  rw [← hZO] at hzo
  have HBQ1 : Hid _ := hq1
  have HBQ4 : Hid _ := hq4
  obtain ⟨W0, hW0⟩ : ∃ W0, W0 = (w.alloc (.cells #[.bool false] 4 (0, 0))).alloc (.cells ZO 53 (0, 0)) := ⟨_, rfl⟩
  obtain ⟨V, hV⟩ : ∃ V, V = W0.alloc (.cells #[.pointer none, .pointer (some ⟨w.heap.size + 1, 0, none⟩)] 27 (0, 0)) := ⟨_, rfl⟩
  have hbV : Below w.heap.size w V := by rw [hV, hW0]; exact (((Below.refl _ w).alloc (Nat.le_refl _) _).alloc (by simp) _).alloc (by simp; omega) _
  have hr0 : V.heap[w.heap.size]? = some (.cells #[.bool false] 4 (0, 0)) := by rw [hV, Below.heap_alloc _ _ _ (by rw [hW0]; simp; omega), hW0]; exact alloc2_first _ _ _
  have hr1 : V.heap[w.heap.size + 1]? = some (.cells ZO 53 (0, 0)) := by rw [hV, Below.heap_alloc _ _ _ (by rw [hW0]; simp), hW0]; exact heap_at _ _ _ (by simp)
  have hr2 : V.heap[W0.heap.size]? = some (.cells #[.pointer none, .pointer (some ⟨w.heap.size + 1, 0, none⟩)] 27 (0, 0)) := by rw [hV]; exact heap_alloc_new _ _
  have hs0 : W0.heap.size = w.heap.size + 1 + 1 := by rw [hW0]; simp
  have hsV : V.heap.size = w.heap.size + 3 := by rw [hV]; simp [hs0]
  have HN0 : Hid (∀ X, Calls Try.prog 24 #[.pointer none] X fun e w' => e = .returned (.bool true) ∧ w' = X) := fun X => none_nil X
  have HN1 : Hid (∀ X, Below V.heap.size V X → Calls Try.prog 24 #[.pointer (some ⟨w.heap.size + 1, 0, none⟩)] X fun e w' => e = .returned (.bool true) ∧ w' = X) := fun X hX => none_zero _ X (by
    rw [(World.cell?_of_block (a := ⟨w.heap.size + 1, 35, none⟩) (hX.block _ (row_lt hr1))), cell_of_row _ _ 35 _ _ _ hr1, hZO]; exact zOr_35)
  have HR0 : Hid _ := hr0
  have HR2 : Hid _ := hr2
  have HBV : Hid _ := hbV
  have HSV : Hid _ := hsV
  rw [hs0] at HR2
  have HW : Hid (V = ((w.alloc (.cells #[.bool false] 4 (0, 0))).alloc (.cells ZO 53 (0, 0))).alloc (.cells #[.pointer none, .pointer (some ⟨w.heap.size + 1, 0, none⟩)] 27 (0, 0))) := by rw [← hW0]; exact hV
  clear hZL hQ1 hQ4 hZO hq1 hq4 hV hW0 hbV hr0 hr1 hr2 hs0 hsV
  refine calls_marks Try.func5 rfl ?_
  simp only [Try.ntmps5, List.size_toArray, List.length_cons, List.length_nil, Nat.reduceAdd, Nat.reduceSub, Array.replicate_succ, Array.replicate_zero, List.push_toArray, List.append_toArray, List.nil_append, List.cons_append]
  go_wp2_with (refine wpList_bslice rfl 54 2 _ rfl #[(0, .pointer none), (1, .pointer (some ⟨w.heap.size + 1, 0, none⟩))] _ (by simp; first | done | rfl | exact ⟨rfl, rfl⟩) (bs_two _ _) ?_)
  rw [← HW.out]
  refine wp_loop_rounds 3 ?_
  rw [rounds_succ]
  have HN0' : Hid (∀ X, Below V.heap.size V X → Calls Try.prog 24 #[.pointer none] X fun e w' => e = .returned (.bool true) ∧ w' = X) := fun X _ => HN0.out X
  have hci : V.cell? ⟨w.heap.size + 1 + 1, 0, none⟩ = some (.pointer none) := by rw [cell_of_row _ _ 0 _ _ _ HR2.out]; rfl
  -- the receiver, none's contract from that world on, the world
  go_wp2_with (refine wpList_build rfl 33 #[(0, .const (.int .i64 1)), (2, .const (.int .i64 1))] rfl #[(0, .int .i64 1), (2, .int .i64 1)] (.agg Q1.toArray) (by simp; first | done | rfl | exact ⟨rfl, rfl⟩) (HBQ1.out _) ?_)
  have HRR : Hid (Below V.heap.size V V) := Below.refl _ _
  refine Calls.mono (pask_none (.pointer none) Q1 V (fun X' h => HN0'.out X' h)) ?_
  rintro e X1 ⟨rfl, hb1⟩
  have HBT : Hid (Below V.heap.size V X1) := HRR.out.trans (hb1.mono HRR.out.size)
  unfold errV dV
  rw [show (List.replicate 32 (0 : UInt8)).map B8 = ZL from HZL.out.symm]
  have HRW : Hid ((X1.alloc (.cells ZL.toArray 23 (0, 0))).heap[X1.heap.size]? = some (.cells ZL.toArray 23 (0, 0))) := heap_alloc_new _ _
  clear hb1
  go_wp2_with (first
    | (refine wpList_store_rowL rfl 23 _ _ rfl X1.heap.size ZL.toArray rfl rfl 23 ZL.toArray HRW.out (info32a _ HZS.out) rfl HZ1.out ?_; intro Y1 hY; have HY1 : Hid (Below V.heap.size V Y1) := (by rw [hY]; exact below_setRow (HBT.out.alloc HBT.out.size _) HBT.out.size _); clear hY)
    | (refine wpList_build rfl 33 #[(0, .const (.int .i64 4)), (2, .const (.int .i64 1))] rfl #[(0, .int .i64 4), (2, .int .i64 1)] (.agg Q4.toArray) (by simp; first | done | rfl | exact ⟨rfl, rfl⟩) (HBQ4.out _) ?_)
    | (go_at_call 11; refine Calls.mono (log_none (.pointer none) Y1 (HN0'.out Y1 HY1.out)) ?_; rintro e wl ⟨rfl, hwl⟩; rw [hwl]; clear hwl wl)
    | (go_at_call 19; refine Calls.mono (ideal_none (.pointer none) Y1 (HN0'.out Y1 HY1.out)) ?_; rintro e wl ⟨rfl, hwl⟩; rw [hwl]; clear hwl wl)
    | (go_at_call 20; refine Calls.mono (used_not (.pointer none) Y1 (ideal_none (.pointer none) Y1 (HN0'.out Y1 HY1.out))) ?_; rintro e wl ⟨rfl, hwl⟩; rw [hwl]; clear hwl wl)
    | (go_at_call 21; refine Calls.mono (copy_none (.pointer none) Y1 (HN0'.out Y1 HY1.out)) ?_; rintro e wl ⟨rfl, hwl⟩; rw [hwl]; clear hwl wl)
    | (go_at_call 22; fail))
  clear HRW HBT
  refine Calls.mono (pstream_none (.pointer none) Q4 4 Y1 (fun X' h => HN0'.out X' (HY1.out.trans (h.mono HY1.out.size)))) ?_
  rintro e X2 ⟨rfl, hb2⟩
  have HX2 : Hid (Below V.heap.size V X2) := HY1.out.trans (hb2.mono HY1.out.size)
  unfold errS
  clear hb2
  go_wp2_with fail
  refine Calls.mono (pdig_err (.pointer none) (.slice none 0 0) 1 [] 1 X2 (hp_nil _) (by simp) (by simp) (fun W v hb hv => pask_none (.pointer none) _ W (fun X' h => HN0'.out X' (HX2.out.trans ((hb.trans (h.mono hb.size)).mono HX2.out.size))))) ?_
  rintro e X3 ⟨rfl, hb3⟩
  have HBT : Hid (Below V.heap.size V X3) := HX2.out.trans (hb3.mono HX2.out.size)
  unfold errV dV
  rw [show (List.replicate 32 (0 : UInt8)).map B8 = ZL from HZL.out.symm]
  have HRW : Hid ((X3.alloc (.cells ZL.toArray 23 (0, 0))).heap[X3.heap.size]? = some (.cells ZL.toArray 23 (0, 0))) := heap_alloc_new _ _
  clear hb3
  go_wp2_with (first
    | (refine wpList_store_rowL rfl 23 _ _ rfl X3.heap.size ZL.toArray rfl rfl 23 ZL.toArray HRW.out (info32a _ HZS.out) rfl HZ1.out ?_; intro Y3 hY; have HY3 : Hid (Below V.heap.size V Y3) := (by rw [hY]; exact below_setRow (HBT.out.alloc HBT.out.size _) HBT.out.size _); clear hY)
    | (refine wpList_build rfl 33 #[(0, .const (.int .i64 4)), (2, .const (.int .i64 1))] rfl #[(0, .int .i64 4), (2, .int .i64 1)] (.agg Q4.toArray) (by simp; first | done | rfl | exact ⟨rfl, rfl⟩) (HBQ4.out _) ?_)
    | (go_at_call 11; refine Calls.mono (log_none (.pointer none) Y3 (HN0'.out Y3 HY3.out)) ?_; rintro e wl ⟨rfl, hwl⟩; rw [hwl]; clear hwl wl)
    | (go_at_call 19; refine Calls.mono (ideal_none (.pointer none) Y3 (HN0'.out Y3 HY3.out)) ?_; rintro e wl ⟨rfl, hwl⟩; rw [hwl]; clear hwl wl)
    | (go_at_call 20; refine Calls.mono (used_not (.pointer none) Y3 (ideal_none (.pointer none) Y3 (HN0'.out Y3 HY3.out))) ?_; rintro e wl ⟨rfl, hwl⟩; rw [hwl]; clear hwl wl)
    | (go_at_call 21; refine Calls.mono (copy_none (.pointer none) Y3 (HN0'.out Y3 HY3.out)) ?_; rintro e wl ⟨rfl, hwl⟩; rw [hwl]; clear hwl wl)
    | (go_at_call 22; fail))
  clear HRW HBT
  refine Calls.mono (pkey_none (.pointer none) (.slice none 0 0) 1 Y3 (fun X' h => HN0'.out X' (HY3.out.trans (h.mono HY3.out.size)))) ?_
  rintro e X4 ⟨rfl, hb4⟩
  have HBT : Hid (Below V.heap.size V X4) := HY3.out.trans (hb4.mono HY3.out.size)
  unfold errV dV
  rw [show (List.replicate 32 (0 : UInt8)).map B8 = ZL from HZL.out.symm]
  have HRW : Hid ((X4.alloc (.cells ZL.toArray 23 (0, 0))).heap[X4.heap.size]? = some (.cells ZL.toArray 23 (0, 0))) := heap_alloc_new _ _
  clear hb4
  go_wp2_with (first
    | (refine wpList_store_rowL rfl 23 _ _ rfl X4.heap.size ZL.toArray rfl rfl 23 ZL.toArray HRW.out (info32a _ HZS.out) rfl HZ1.out ?_; intro Y4 hY; have HY4 : Hid (Below V.heap.size V Y4) := (by rw [hY]; exact below_setRow (HBT.out.alloc HBT.out.size _) HBT.out.size _); clear hY)
    | (refine wpList_build rfl 33 #[(0, .const (.int .i64 4)), (2, .const (.int .i64 1))] rfl #[(0, .int .i64 4), (2, .int .i64 1)] (.agg Q4.toArray) (by simp; first | done | rfl | exact ⟨rfl, rfl⟩) (HBQ4.out _) ?_)
    | (go_at_call 11; refine Calls.mono (log_none (.pointer none) Y4 (HN0'.out Y4 HY4.out)) ?_; rintro e wl ⟨rfl, hwl⟩; rw [hwl]; clear hwl wl)
    | (go_at_call 19; refine Calls.mono (ideal_none (.pointer none) Y4 (HN0'.out Y4 HY4.out)) ?_; rintro e wl ⟨rfl, hwl⟩; rw [hwl]; clear hwl wl)
    | (go_at_call 20; refine Calls.mono (used_not (.pointer none) Y4 (ideal_none (.pointer none) Y4 (HN0'.out Y4 HY4.out))) ?_; rintro e wl ⟨rfl, hwl⟩; rw [hwl]; clear hwl wl)
    | (go_at_call 21; refine Calls.mono (copy_none (.pointer none) Y4 (HN0'.out Y4 HY4.out)) ?_; rintro e wl ⟨rfl, hwl⟩; rw [hwl]; clear hwl wl)
    | (go_at_call 22; fail))
  clear HRW HBT
  refine Calls.mono (breaks_none (.pointer none) Y4 (fun X' h => HN0'.out X' (HY4.out.trans (h.mono HY4.out.size)))) ?_
  rintro e X5 ⟨rfl, hX5⟩
  have HX5 : Hid (Below V.heap.size V X5) := by rw [hX5]; exact HY4.out.alloc HY4.out.size _
  have HC5 : Hid (X5.cell? ⟨Y4.heap.size, 34, none⟩ = some (.slice none 0 0)) := by
    show _ = _
    rw [hX5, cell_of_row _ _ 34 _ _ _ (heap_alloc_new _ _)]; exact zOr_34
  clear hX5
  go_wp2
  refine wp_rangeFunc_never (gf := 38) (lb := #[.pointer (some ⟨Y4.heap.size, 0, none⟩)]) rfl (enters_of Try.func38 (by kernel_rfl) rfl) (fun y W hb => breaks1_empty y Y4.heap.size none 0 W ((hb.cell (block_lt HC5.out)).trans HC5.out)) ?_
  intro X6 hb6 hlt6 hd6
  have HX6 : Hid (Below V.heap.size V X6) := HX5.out.trans (hb6.mono HX5.out.size)
  have HD1 : Hid _ := hd6
  have hD1l : V.heap.size ≤ X5.heap.size := HX5.out.size
  obtain ⟨D1, hD1⟩ : ∃ D, D = X5.heap.size := ⟨_, rfl⟩
  rw [← hD1] at HD1 hD1l hlt6 ⊢
  have HN2 : Hid (∀ X, Below X6.heap.size X6 X → Calls Try.prog 24 #[.pointer (some ⟨w.heap.size + 1, 0, none⟩)] X fun e w' => e = .returned (.bool true) ∧ w' = X) := fun X hX => HN1.out X (HX6.out.trans (hX.mono HX6.out.size))
  clear hb6 hd6 hci HC5 HY1 HX2 HY3 HY4 hD1 HX5 HRR
  go_wp2
  rw [rounds_succ]
  have hci : X6.cell? ⟨w.heap.size + 1 + 1, 1, none⟩ = some (.pointer (some ⟨w.heap.size + 1, 0, none⟩)) := by
    have hsv := HSV.out
    rw [World.cell?_of_block (a := ⟨w.heap.size + 1 + 1, 1, none⟩) (HX6.out.block _ (by show w.heap.size + 1 + 1 < _; omega)), cell_of_row _ _ 1 _ _ _ HR2.out]; rfl
  -- the receiver, none's contract from that world on, the world
  go_wp2_with (refine wpList_build rfl 33 #[(0, .const (.int .i64 1)), (2, .const (.int .i64 1))] rfl #[(0, .int .i64 1), (2, .int .i64 1)] (.agg Q1.toArray) (by simp; first | done | rfl | exact ⟨rfl, rfl⟩) (HBQ1.out _) ?_)
  have HRR : Hid (Below X6.heap.size X6 X6) := Below.refl _ _
  refine Calls.mono (pask_none (.pointer (some ⟨w.heap.size + 1, 0, none⟩)) Q1 X6 (fun X' h => HN2.out X' h)) ?_
  rintro e X1 ⟨rfl, hb1⟩
  have HBT : Hid (Below X6.heap.size X6 X1) := HRR.out.trans (hb1.mono HRR.out.size)
  unfold errV dV
  rw [show (List.replicate 32 (0 : UInt8)).map B8 = ZL from HZL.out.symm]
  have HRW : Hid ((X1.alloc (.cells ZL.toArray 23 (0, 0))).heap[X1.heap.size]? = some (.cells ZL.toArray 23 (0, 0))) := heap_alloc_new _ _
  clear hb1
  go_wp2_with (first
    | (refine wpList_store_rowL rfl 23 _ _ rfl X1.heap.size ZL.toArray rfl rfl 23 ZL.toArray HRW.out (info32a _ HZS.out) rfl HZ1.out ?_; intro Y1 hY; have HY1 : Hid (Below X6.heap.size X6 Y1) := (by rw [hY]; exact below_setRow (HBT.out.alloc HBT.out.size _) HBT.out.size _); clear hY)
    | (refine wpList_build rfl 33 #[(0, .const (.int .i64 4)), (2, .const (.int .i64 1))] rfl #[(0, .int .i64 4), (2, .int .i64 1)] (.agg Q4.toArray) (by simp; first | done | rfl | exact ⟨rfl, rfl⟩) (HBQ4.out _) ?_)
    | (go_at_call 11; refine Calls.mono (log_none (.pointer (some ⟨w.heap.size + 1, 0, none⟩)) Y1 (HN2.out Y1 HY1.out)) ?_; rintro e wl ⟨rfl, hwl⟩; rw [hwl]; clear hwl wl)
    | (go_at_call 19; refine Calls.mono (ideal_none (.pointer (some ⟨w.heap.size + 1, 0, none⟩)) Y1 (HN2.out Y1 HY1.out)) ?_; rintro e wl ⟨rfl, hwl⟩; rw [hwl]; clear hwl wl)
    | (go_at_call 20; refine Calls.mono (used_not (.pointer (some ⟨w.heap.size + 1, 0, none⟩)) Y1 (ideal_none (.pointer (some ⟨w.heap.size + 1, 0, none⟩)) Y1 (HN2.out Y1 HY1.out))) ?_; rintro e wl ⟨rfl, hwl⟩; rw [hwl]; clear hwl wl)
    | (go_at_call 21; refine Calls.mono (copy_none (.pointer (some ⟨w.heap.size + 1, 0, none⟩)) Y1 (HN2.out Y1 HY1.out)) ?_; rintro e wl ⟨rfl, hwl⟩; rw [hwl]; clear hwl wl)
    | (go_at_call 22; fail))
  clear HRW HBT
  refine Calls.mono (pstream_none (.pointer (some ⟨w.heap.size + 1, 0, none⟩)) Q4 4 Y1 (fun X' h => HN2.out X' (HY1.out.trans (h.mono HY1.out.size)))) ?_
  rintro e X2 ⟨rfl, hb2⟩
  have HX2 : Hid (Below X6.heap.size X6 X2) := HY1.out.trans (hb2.mono HY1.out.size)
  unfold errS
  clear hb2
  go_wp2_with fail
  refine Calls.mono (pdig_err (.pointer (some ⟨w.heap.size + 1, 0, none⟩)) (.slice none 0 0) 1 [] 1 X2 (hp_nil _) (by simp) (by simp) (fun W v hb hv => pask_none (.pointer (some ⟨w.heap.size + 1, 0, none⟩)) _ W (fun X' h => HN2.out X' (HX2.out.trans ((hb.trans (h.mono hb.size)).mono HX2.out.size))))) ?_
  rintro e X3 ⟨rfl, hb3⟩
  have HBT : Hid (Below X6.heap.size X6 X3) := HX2.out.trans (hb3.mono HX2.out.size)
  unfold errV dV
  rw [show (List.replicate 32 (0 : UInt8)).map B8 = ZL from HZL.out.symm]
  have HRW : Hid ((X3.alloc (.cells ZL.toArray 23 (0, 0))).heap[X3.heap.size]? = some (.cells ZL.toArray 23 (0, 0))) := heap_alloc_new _ _
  clear hb3
  go_wp2_with (first
    | (refine wpList_store_rowL rfl 23 _ _ rfl X3.heap.size ZL.toArray rfl rfl 23 ZL.toArray HRW.out (info32a _ HZS.out) rfl HZ1.out ?_; intro Y3 hY; have HY3 : Hid (Below X6.heap.size X6 Y3) := (by rw [hY]; exact below_setRow (HBT.out.alloc HBT.out.size _) HBT.out.size _); clear hY)
    | (refine wpList_build rfl 33 #[(0, .const (.int .i64 4)), (2, .const (.int .i64 1))] rfl #[(0, .int .i64 4), (2, .int .i64 1)] (.agg Q4.toArray) (by simp; first | done | rfl | exact ⟨rfl, rfl⟩) (HBQ4.out _) ?_)
    | (go_at_call 11; refine Calls.mono (log_none (.pointer (some ⟨w.heap.size + 1, 0, none⟩)) Y3 (HN2.out Y3 HY3.out)) ?_; rintro e wl ⟨rfl, hwl⟩; rw [hwl]; clear hwl wl)
    | (go_at_call 19; refine Calls.mono (ideal_none (.pointer (some ⟨w.heap.size + 1, 0, none⟩)) Y3 (HN2.out Y3 HY3.out)) ?_; rintro e wl ⟨rfl, hwl⟩; rw [hwl]; clear hwl wl)
    | (go_at_call 20; refine Calls.mono (used_not (.pointer (some ⟨w.heap.size + 1, 0, none⟩)) Y3 (ideal_none (.pointer (some ⟨w.heap.size + 1, 0, none⟩)) Y3 (HN2.out Y3 HY3.out))) ?_; rintro e wl ⟨rfl, hwl⟩; rw [hwl]; clear hwl wl)
    | (go_at_call 21; refine Calls.mono (copy_none (.pointer (some ⟨w.heap.size + 1, 0, none⟩)) Y3 (HN2.out Y3 HY3.out)) ?_; rintro e wl ⟨rfl, hwl⟩; rw [hwl]; clear hwl wl)
    | (go_at_call 22; fail))
  clear HRW HBT
  refine Calls.mono (pkey_none (.pointer (some ⟨w.heap.size + 1, 0, none⟩)) (.slice none 0 0) 1 Y3 (fun X' h => HN2.out X' (HY3.out.trans (h.mono HY3.out.size)))) ?_
  rintro e X4 ⟨rfl, hb4⟩
  have HBT : Hid (Below X6.heap.size X6 X4) := HY3.out.trans (hb4.mono HY3.out.size)
  unfold errV dV
  rw [show (List.replicate 32 (0 : UInt8)).map B8 = ZL from HZL.out.symm]
  have HRW : Hid ((X4.alloc (.cells ZL.toArray 23 (0, 0))).heap[X4.heap.size]? = some (.cells ZL.toArray 23 (0, 0))) := heap_alloc_new _ _
  clear hb4
  go_wp2_with (first
    | (refine wpList_store_rowL rfl 23 _ _ rfl X4.heap.size ZL.toArray rfl rfl 23 ZL.toArray HRW.out (info32a _ HZS.out) rfl HZ1.out ?_; intro Y4 hY; have HY4 : Hid (Below X6.heap.size X6 Y4) := (by rw [hY]; exact below_setRow (HBT.out.alloc HBT.out.size _) HBT.out.size _); clear hY)
    | (refine wpList_build rfl 33 #[(0, .const (.int .i64 4)), (2, .const (.int .i64 1))] rfl #[(0, .int .i64 4), (2, .int .i64 1)] (.agg Q4.toArray) (by simp; first | done | rfl | exact ⟨rfl, rfl⟩) (HBQ4.out _) ?_)
    | (go_at_call 11; refine Calls.mono (log_none (.pointer (some ⟨w.heap.size + 1, 0, none⟩)) Y4 (HN2.out Y4 HY4.out)) ?_; rintro e wl ⟨rfl, hwl⟩; rw [hwl]; clear hwl wl)
    | (go_at_call 19; refine Calls.mono (ideal_none (.pointer (some ⟨w.heap.size + 1, 0, none⟩)) Y4 (HN2.out Y4 HY4.out)) ?_; rintro e wl ⟨rfl, hwl⟩; rw [hwl]; clear hwl wl)
    | (go_at_call 20; refine Calls.mono (used_not (.pointer (some ⟨w.heap.size + 1, 0, none⟩)) Y4 (ideal_none (.pointer (some ⟨w.heap.size + 1, 0, none⟩)) Y4 (HN2.out Y4 HY4.out))) ?_; rintro e wl ⟨rfl, hwl⟩; rw [hwl]; clear hwl wl)
    | (go_at_call 21; refine Calls.mono (copy_none (.pointer (some ⟨w.heap.size + 1, 0, none⟩)) Y4 (HN2.out Y4 HY4.out)) ?_; rintro e wl ⟨rfl, hwl⟩; rw [hwl]; clear hwl wl)
    | (go_at_call 22; fail))
  clear HRW HBT
  refine Calls.mono (breaks_none (.pointer (some ⟨w.heap.size + 1, 0, none⟩)) Y4 (fun X' h => HN2.out X' (HY4.out.trans (h.mono HY4.out.size)))) ?_
  rintro e X5 ⟨rfl, hX5⟩
  have HX5 : Hid (Below X6.heap.size X6 X5) := by rw [hX5]; exact HY4.out.alloc HY4.out.size _
  have HC5 : Hid (X5.cell? ⟨Y4.heap.size, 34, none⟩ = some (.slice none 0 0)) := by
    show _ = _
    rw [hX5, cell_of_row _ _ 34 _ _ _ (heap_alloc_new _ _)]; exact zOr_34
  clear hX5
  go_wp2
  refine wp_rangeFunc_never (gf := 38) (lb := #[.pointer (some ⟨Y4.heap.size, 0, none⟩)]) rfl (enters_of Try.func38 (by kernel_rfl) rfl) (fun y W hb => breaks1_empty y Y4.heap.size none 0 W ((hb.cell (block_lt HC5.out)).trans HC5.out)) ?_
  intro X7 hb7 hlt7 hd7
  have HX7 : Hid (Below X6.heap.size X6 X7) := HX5.out.trans (hb7.mono HX5.out.size)
  have HD2 : Hid _ := hd7
  have hD2l : X6.heap.size ≤ X5.heap.size := HX5.out.size
  obtain ⟨D2, hD2⟩ : ∃ D, D = X5.heap.size := ⟨_, rfl⟩
  rw [← hD2] at HD2 hD2l hlt7 ⊢
  have HD1' : Hid (X7.heap[D1]? = some (.deferred (some []))) := (HX7.out.block _ hlt6).trans HD1.out
  have HR7 : Hid (X7.heap[w.heap.size]? = some (.cells #[.bool false] 4 (0, 0))) := by
    have hsv := HSV.out
    have hs6 := HX6.out.size
    exact (HX7.out.block _ (by omega)).trans ((HX6.out.block _ (by omega)).trans HR0.out)
  have HB7 : Hid (Below w.heap.size w X7) := HBV.out.trans ((HX6.out.trans (HX7.out.mono HX6.out.size)).mono HBV.out.size)
  clear hb7 hd7 hci HC5 HY1 HX2 HY3 HY4 hD2 HX5 HRR
  go_wp2
  rw [rounds_succ]
  have HKN : Hid _ := known_any X7
  go_wp2_with fail
  refine Calls.mono HKN.out ?_
  rintro e X8 ⟨rfl, hb8⟩
  have hr8 := (hb8.block _ (row_lt HR7.out)).trans HR7.out
  have hc8 : X8.cell? ⟨w.heap.size, 0, none⟩ = some (.bool false) := by rw [cell_of_row _ _ 0 _ _ _ hr8]; rfl
  have hf8 := frozen_of_row _ _ 0 _ _ hr8
  have HB8 : Hid (Below w.heap.size w X8) := HB7.out.trans (hb8.mono HB7.out.size)
  have hs7 := HX7.out.size
  have hs8 := hb8.size
  have HE1 : Hid (X8.heap[D1]? = some (.deferred (some []))) := (hb8.block _ (by omega)).trans HD1'.out
  have HE2 : Hid (X8.heap[D2]? = some (.deferred (some []))) := (hb8.block _ hlt7).trans HD2.out
  have HR8 : Hid _ := hr8
  have hsv := HSV.out
  clear hb8 hr8
  go_wp2
  have hw8 : (X8.setCell ⟨w.heap.size, 0, none⟩ (.bool true)).heap[w.heap.size]? = some (.cells #[.bool true] 4 (0, 0)) := heap_setCell_same _ w.heap.size 0 _ _ _ HR8.out
  have hb9 : Below w.heap.size w (X8.setCell ⟨w.heap.size, 0, none⟩ (.bool true)) := HB8.out.setCell (p := ⟨w.heap.size, 0, none⟩) (Nat.le_refl _) _
  refine marks_ret (v := .bool true) [D2, D1] _ (fun D hD => ?_) (by simp; omega) (fun w' h1 h2 h3 h4 h5 => ⟨results_bool Try.results5 _ _ w.heap.size true rfl ?_, rfl, ⟨h2.trans hb9.os, h3.trans hb9.tape, h4.trans hb9.output, by rw [h1]; exact hb9.size, fun k hk => (h5 k (by simp; omega)).trans (hb9.block k hk)⟩⟩)
  · rw [heap_setCell_other _ _ _ _ (by have : D = D2 ∨ D = D1 := (by simpa using hD); show D ≠ w.heap.size; omega)]
    have : D = D2 ∨ D = D1 := by simpa using hD
    rcases this with rfl | rfl
    · exact HE2.out
    · exact HE1.out
  · rw [cell_of_row _ _ 0 _ _ _ ((h5 _ (by simp; omega)).trans hw8)]; rfl
end Go.Proofs.Ytefhjjjjbkkedaa.R5.oracleNil
