/- RealmNil: the walk, the statement. -/
import Derived.Test.YtekbppfocnbhbaaGreatXZ
import Derived.Test.YtekbppfocnbhbaaGreatRows
import Derived.ChangeOld
import Derived.ProofKit
import Derived.OpenShut
set_option linter.unusedVariables false
set_option linter.unusedSimpArgs false
namespace Go.Proofs.YtekbppfocnbhbaaGreat.XC
open Go.RowKit

theorem cloneM_nil (w : World) : Calls Tryz.prog 59 #[.map none] w fun e w' => e = .returned (.map none) ∧ w' = w := by
  have hq := fun w => run_eql_map_nil_sl (P := Tryz.prog) w 78 _ _ none Tryz.underlying78
  go_enter Tryz.func59, Tryz.ntmps59
  go_wp2
  go_ret
  exact ⟨rfl, rfl⟩
/-- How All of none ends. -/
def NA (X : World) (e : Ending) (Y : World) : Prop := ∃ kb nb, e = .returned (.func (.func 62) #[] #[.pointer (some ⟨kb, 0, none⟩), .pointer (some ⟨nb, 0, none⟩)]) ∧ Y.cell? ⟨kb, 0, none⟩ = some (.slice none 0 0) ∧ Below X.heap.size X Y
set_option maxHeartbeats 1000000 in
set_option maxRecDepth 100000 in
theorem n_all {pv : Value} {X : World} (h : NN pv X) : Calls Tryz.prog 21 #[pv] X fun e Y => NA X e Y := by
  have HN : Hid _ := n_list h
  clear h
  go_enter Tryz.func21, Tryz.ntmps21
  go_wp2_with fail
  refine Calls.mono HN.out ?_
  rintro e w1 ⟨rfl, hb⟩
  have HB : Hid (Below X.heap.size X w1) := hb
  have hs1 := hb.size
  clear hb HN
  go_wp2_with fail
  refine Calls.mono (cloneM_nil w1) ?_
  rintro e w2 ⟨rfl, hw2⟩
  rw [hw2]
  clear hw2 w2
  go_wp2_with fail
  refine Calls.mono (keys_any none _) ?_
  rintro e w3 ⟨rfl, hw3⟩
  have HS := sorted_none (w1.alloc (.cells #[.map none] 78 (0, 0)))
  rw [show (w1.alloc (.cells #[.map none] 78 (0, 0))).heap.size = w1.heap.size + 1 by simp] at HS
  have HSO : Hid (∀ P, (∀ e w', e = .returned (.slice none 0 0) → Below (w1.heap.size + 1) (w1.alloc (.cells #[.map none] 78 (0, 0))) w' → P e w') → Calls Tryz.prog 60 #[.func (.func 89) #[] #[.pointer (some ⟨w1.heap.size + 1, 0, none⟩)]] ((w1.alloc (.cells #[.map none] 78 (0, 0))).alloc (.cells #[.map none] 78)) P) := fun P hP => HS.mono (fun e w' ⟨h1, h2⟩ => hP e w' h1 h2)
  rw [hw3]
  clear hw3 w3 HS
  go_wp2_with fail
  refine HSO.out _ ?_
  rintro e w4 rfl hb4
  have HB4 : Hid (Below X.heap.size X w4) := (HB.out.alloc hs1 (.cells #[.map none] 78 (0, 0))).trans (hb4.mono (by omega))
  have hs4 := HB4.out.size
  have HBE : Hid (Below X.heap.size X (w4.alloc (.cells #[.slice none 0 0] 123 (0, 0)))) := HB4.out.alloc hs4 _
  have HCE : Hid ((w4.alloc (.cells #[.slice none 0 0] 123 (0, 0))).cell? ⟨w4.heap.size, 0, none⟩ = some (.slice none 0 0)) := by show _ = _; rw [cell_of_row _ _ 0 _ _ _ (heap_alloc_new _ _)]; rfl
  clear hb4 HSO
  go_wp2
  go_ret
  exact ⟨w4.heap.size, w1.heap.size, rfl, HCE.out, HBE.out⟩
set_option maxHeartbeats 1000000 in
set_option maxRecDepth 100000 in
theorem all1_empty (y : Value) (kb nb : Nat) (W : World) (hc : W.cell? ⟨kb, 0, none⟩ = some (.slice none 0 0)) : Calls Tryz.prog 62 #[y, .pointer (some ⟨kb, 0, none⟩), .pointer (some ⟨nb, 0, none⟩)] W fun e W' => (∃ v, e = .returned v) ∧ Below W.heap.size W W' := by
  go_enter Tryz.func62, Tryz.ntmps62
  go_wp2
  refine wp_loop_rounds 1 ?_
  rw [rounds_succ]
  go_wp2
  go_end0
  exact ⟨⟨_, rfl⟩, Below.refl _ _⟩
end Go.Proofs.YtekbppfocnbhbaaGreat.XC
namespace Go.Proofs.YtekbppfocnbhbaaGreat.realmNil
open Go.RowKit XC
theorem wpList_bslice {ops : Array Oper} {rest : List Oper} {o : Oper} {a : Act} {Q : Exit → Act → World → Prop} {w w' : World} (hgd : o.guard = none) (t : TypeId) (n : Nat) (parts : Array (Nat × Operand)) (ho : o.op = .buildSlice t n parts) (vals : Array (Nat × Value)) (v : Value) (hp : (parts.map fun (i, x) => (i, a.eval x)) = vals)
    (hr : (Instr.buildSlice t n vals).run Tryz.prog w = .ok v w') (h : wpList Tryz.prog ops Q rest (a.put o.dst v) w') : wpList Tryz.prog ops Q (o :: rest) a w :=
  wpList_plain hgd fun _ hK => wp_bslice t n parts ho vals v hp hr (hK _ _ h)
theorem bs_three (w : World) (b : Nat) : (Instr.buildSlice 81 3 #[(0, .pointer none), (1, .pointer (some ⟨b, 0, none⟩)), (2, .pointer none)]).run Tryz.prog w = .ok (.slice (some ⟨w.heap.size, 0, none⟩) 3 3) (w.alloc (.cells #[.pointer none, .pointer (some ⟨b, 0, none⟩), .pointer none] 26 (0, 0))) := by kernel_rfl
theorem eq_nilf (w : World) (a b : Nat) : (binOp .eql 74 (.func (.func 62) #[] #[.pointer (some ⟨a, 0, none⟩), .pointer (some ⟨b, 0, none⟩)]) .nilFunc).run Tryz.prog w = .ok (.bool false) w := by kernel_rfl
theorem wpList_buildg {ops : Array Oper} {rest : List Oper} {o : Oper} {a : Act} {Q : Exit → Act → World → Prop} {w : World} (hw : Region.wanted o (yielded ops a.tmps) = true) (t : TypeId) (parts : Array (Nat × Operand)) (ho : o.op = .build t parts) (vals : Array (Nat × Value)) (v : Value) (hp : (parts.map fun (i, x) => (i, a.eval x)) = vals)
    (hr : (Instr.build t vals).run Tryz.prog w = .ok v w) (h : wpList Tryz.prog ops Q rest (a.put o.dst v) w) : wpList Tryz.prog ops Q (o :: rest) a w := by
  refine wpList_step fun K hK => ?_
  rw [if_pos hw]
  unfold Oper.wp
  rw [PC.exec_build a.eval o t parts vals v w ho hp hr]
  exact hK _ _ h
set_option maxHeartbeats 8000000 in
set_option maxRecDepth 100000 in
theorem walk (w : World) : Calls Tryz.prog 6 #[] w fun e w' => e = .returned (.bool true) ∧ Below w.heap.size w w' := by
  have hzr := fun W => zero_rm W
  obtain ⟨ZL, hZL⟩ : ∃ L, L = rmL zR (.slice none 0 0) := ⟨_, rfl⟩
  rw [← hZL] at hzr
  have HZL : Hid (ZL = rmL zR (.slice none 0 0)) := hZL
  have HZS : Hid (ZL.toArray.size = 103) := by show _ = _; rw [hZL]; simpa using rmL_len zR_ok _
  have HZ1 : Hid (ZL.toArray.all (·.oneCell') = true) := by show _ = _; rw [hZL]; exact PC.onea (rmL_one _ _ rfl)
  have HZI : Hid ((Tryz.prog.info? 47).map (·.size) = some ZL.toArray.size) := info103a _ HZS.out
  have HBP : Hid (∀ W, (Instr.build 36 #[]).run Tryz.prog W = .ok (.agg (PC.rpL PC.Z32 0).toArray) W) := PC.build_rp
  have HBD : Hid (∀ W, (Instr.build 33 #[]).run Tryz.prog W = .ok (.agg (PC.Z32.map B8).toArray) W) := R5.build_dig
  have HBG : Hid (∀ W, (Instr.build 38 #[]).run Tryz.prog W = .ok (.agg (PC.Z128.map B8).toArray) W) := PC.build_gr
  have HBC : Hid (∀ W, (Instr.build 41 #[]).run Tryz.prog W = .ok (.agg (PC.rcL 0 PC.Z8 false).toArray) W) := PC.build_rc
  have heqf := fun W a b => eq_nilf W a b
  have hzx : ∀ W, (zeroValue 80).run Tryz.prog W = .ok (.agg #[.pointer none, .map none, .int .u64 0]) W := fun W => by kernel_rfl
  obtain ⟨W0, hW0⟩ : ∃ W0, W0 = (w.alloc (.cells #[.bool false] 4 (0, 0))).alloc (.cells #[.pointer none, .map none, .int .u64 0] 80 (0, 0)) := ⟨_, rfl⟩
  have hb0 : Below w.heap.size w W0 := by rw [hW0]; exact ((Below.refl _ w).alloc (Nat.le_refl _) _).alloc (by simp) _
  have hr0 : W0.heap[w.heap.size]? = some (.cells #[.bool false] 4 (0, 0)) := by rw [hW0]; exact R5.alloc2_first _ _ _
  have hr1 : W0.heap[w.heap.size + 1]? = some (.cells #[.pointer none, .map none, .int .u64 0] 80 (0, 0)) := by rw [hW0]; exact R5.heap_at _ _ _ (by simp)
  have HNW : Hid _ := new_nil W0
  have HW0 : Hid (W0 = (w.alloc (.cells #[.bool false] 4 (0, 0))).alloc (.cells #[.pointer none, .map none, .int .u64 0] 80 (0, 0))) := hW0
  have HB0 : Hid (Below w.heap.size w W0) := hb0
  have HR0 : Hid _ := hr0
  have HR1 : Hid _ := hr1
  rw [hW0] at HNW
  clear hZL hW0 hb0 hr0 hr1
  refine R5.calls_marks Tryz.func6 rfl ?_
  simp only [Tryz.ntmps6, List.size_toArray, List.length_cons, List.length_nil, Nat.reduceAdd, Nat.reduceSub, Array.replicate_succ, Array.replicate_zero, List.push_toArray, List.append_toArray, List.nil_append, List.cons_append]
  go_wp2_with fail
  refine Calls.mono HNW.out ?_
  rintro e w1 ⟨rfl, hbn⟩
  rw [← HW0.out] at hbn
  obtain ⟨V, hV⟩ : ∃ V, V = w1.alloc (.cells #[.pointer none, .pointer (some ⟨w.heap.size + 1, 0, none⟩), .pointer none] 26 (0, 0)) := ⟨_, rfl⟩
  have hbV : Below W0.heap.size W0 V := by rw [hV]; exact hbn.alloc hbn.size _
  have HBV : Hid (Below w.heap.size w V) := HB0.out.trans (hbV.mono HB0.out.size)
  have HRV0 : Hid (V.heap[w.heap.size]? = some (.cells #[.bool false] 4 (0, 0))) := (hbV.block _ (PC.row_lt HR0.out)).trans HR0.out
  have hrv1 := (hbV.block _ (PC.row_lt HR1.out)).trans HR1.out
  have HRL : Hid (V.heap[w1.heap.size]? = some (.cells #[.pointer none, .pointer (some ⟨w.heap.size + 1, 0, none⟩), .pointer none] 26 (0, 0))) := by show _ = _; rw [hV]; exact heap_alloc_new _ _
  have HN0 : Hid (NN (.pointer none) V) := nn_nil V
  have HN1 : Hid (NN (.pointer (some ⟨w.heap.size + 1, 0, none⟩)) V) := nn_zero V _ hrv1
  have hwV : w.heap.size < V.heap.size := PC.row_lt HRV0.out
  have hlV : w1.heap.size < V.heap.size := PC.row_lt HRL.out
  have HV : Hid (V = w1.alloc (.cells #[.pointer none, .pointer (some ⟨w.heap.size + 1, 0, none⟩), .pointer none] 26 (0, 0))) := hV
  clear hbn hbV hrv1 HNW hV
  go_wp2_with (refine wpList_bslice rfl 81 3 _ rfl #[(0, .pointer none), (1, .pointer (some ⟨w.heap.size + 1, 0, none⟩)), (2, .pointer none)] _ (by simp; first | done | rfl | exact ⟨rfl, rfl⟩ | exact ⟨rfl, rfl, rfl⟩) (bs_three _ _) ?_)
  rw [← HV.out]
  refine wp_loop_rounds 4 ?_
  rw [rounds_succ]
  generalize w1.heap.size = LB at *
  have hci : V.cell? ⟨LB, 0, none⟩ = some (.pointer none) := by rw [cell_of_row _ _ 0 _ _ _ HRL.out]; rfl
  -- none the receiver's address, HN0 the fact NN at V (hidden), V the world V
  go_wp2_with (first
    | (refine PC.wpList_build rfl 36 _ rfl #[] (.agg (PC.rpL PC.Z32 0).toArray) (by simp) (HBP.out _) ?_)
    | (refine PC.wpList_build rfl 33 _ rfl #[] (.agg (PC.Z32.map B8).toArray) (by simp) (HBD.out _) ?_)
    | (refine wpList_buildg rfl 33 _ rfl #[] (.agg (PC.Z32.map B8).toArray) (by simp) (HBD.out _) ?_)
    | (refine wpList_buildg rfl 38 _ rfl #[] (.agg (PC.Z128.map B8).toArray) (by simp) (HBG.out _) ?_)
    | (refine wpList_buildg rfl 41 _ rfl #[] (.agg (PC.rcL 0 PC.Z8 false).toArray) (by simp) (HBC.out _) ?_))
  have H0 : Hid (Below V.heap.size V V) := Below.refl _ _
  refine Calls.mono (n_create (HN0.out) 1 2 _ _) ?_
  rintro e Y1 ⟨rfl, hbn⟩
  rw [← HZL.out]
  have HRA : Hid ((Y1.alloc (.cells ZL.toArray 47 (0, 0))).heap[Y1.heap.size]? = some (.cells ZL.toArray 47 (0, 0))) := heap_alloc_new _ _
  have H1 : Hid (Below V.heap.size V ((Y1.alloc (.cells ZL.toArray 47 (0, 0))).setRow Y1.heap.size ZL.toArray)) := below_setRow (hbn.alloc hbn.size _) hbn.size _
  clear hbn
  go_wp2_with (refine wpList_store_row rfl 47 _ _ rfl Y1.heap.size ZL.toArray rfl rfl 47 ZL.toArray HRA.out HZI.out rfl HZ1.out ?_)
  generalize (Y1.alloc (.cells ZL.toArray 47 (0, 0))).setRow Y1.heap.size ZL.toArray = Y2 at *
  clear HRA
  refine Calls.mono (n_get ((HN0.out).step H1.out) 1) ?_
  rintro e Y3 ⟨v3, rfl, hown, hbn⟩
  have HMN : Hid ((rmL zR v3).length = 103) := rmL_len zR_ok _
  have HM1 : Hid ((rmL zR v3).toArray.all (·.oneCell') = true) := rmL_onea zR (HO.hr hown)
  obtain ⟨ML, hML⟩ : ∃ ML, ML = rmL zR v3 := ⟨_, rfl⟩
  rw [← hML] at HMN HM1 ⊢
  have HMI : Hid ((Tryz.prog.info? 47).map (·.size) = some ML.toArray.size) := info103a _ (by simpa using HMN.out)
  have HZM : Hid (ZL.toArray.size = ML.toArray.size) := by have := HZS.out; have := HMN.out; simp_all
  have HRA : Hid ((Y3.alloc (.cells ZL.toArray 47 (0, 0))).heap[Y3.heap.size]? = some (.cells ZL.toArray 47 (0, 0))) := heap_alloc_new _ _
  have hb3 : Below V.heap.size V Y3 := H1.out.trans (hbn.mono H1.out.size)
  have H4 : Hid (Below V.heap.size V ((Y3.alloc (.cells ZL.toArray 47 (0, 0))).setRow Y3.heap.size ML.toArray)) := below_setRow (hb3.alloc hb3.size _) hb3.size _
  clear hbn hown hML hb3
  go_wp2_with (refine wpList_store_row rfl 47 _ _ rfl Y3.heap.size ML.toArray rfl rfl 47 ZL.toArray HRA.out HMI.out HZM.out HM1.out ?_)
  generalize (Y3.alloc (.cells ZL.toArray 47 (0, 0))).setRow Y3.heap.size ML.toArray = Y4 at *
  clear HRA
  -- the contract at a world, that world, the world behind, the fact on it, the old fact
  refine Calls.mono (n_nxt ((HN0.out).step H4.out) 1) ?_
  rintro e Y5 ⟨rfl, hbn⟩
  have H5 : Hid (Below V.heap.size V Y5) := H4.out.trans (hbn.mono H4.out.size)
  clear hbn
  go_wp2_with (first
    | (refine PC.wpList_build rfl 36 _ rfl #[] (.agg (PC.rpL PC.Z32 0).toArray) (by simp) (HBP.out _) ?_)
    | (refine PC.wpList_build rfl 33 _ rfl #[] (.agg (PC.Z32.map B8).toArray) (by simp) (HBD.out _) ?_)
    | (refine wpList_buildg rfl 33 _ rfl #[] (.agg (PC.Z32.map B8).toArray) (by simp) (HBD.out _) ?_)
    | (refine wpList_buildg rfl 38 _ rfl #[] (.agg (PC.Z128.map B8).toArray) (by simp) (HBG.out _) ?_)
    | (refine wpList_buildg rfl 41 _ rfl #[] (.agg (PC.rcL 0 PC.Z8 false).toArray) (by simp) (HBC.out _) ?_))
  -- the contract at a world, that world, the world behind, the fact on it, the old fact
  refine Calls.mono (n_data (none) ((HN0.out).step H5.out) 1 0 _) ?_
  rintro e Y6 ⟨rfl, hbn⟩
  have H6 : Hid (Below V.heap.size V Y6) := H5.out.trans (hbn.mono H5.out.size)
  clear hbn
  go_wp2_with (first
    | (refine PC.wpList_build rfl 36 _ rfl #[] (.agg (PC.rpL PC.Z32 0).toArray) (by simp) (HBP.out _) ?_)
    | (refine PC.wpList_build rfl 33 _ rfl #[] (.agg (PC.Z32.map B8).toArray) (by simp) (HBD.out _) ?_)
    | (refine wpList_buildg rfl 33 _ rfl #[] (.agg (PC.Z32.map B8).toArray) (by simp) (HBD.out _) ?_)
    | (refine wpList_buildg rfl 38 _ rfl #[] (.agg (PC.Z128.map B8).toArray) (by simp) (HBG.out _) ?_)
    | (refine wpList_buildg rfl 41 _ rfl #[] (.agg (PC.rcL 0 PC.Z8 false).toArray) (by simp) (HBC.out _) ?_))
  -- the contract at a world, that world, the world behind, the fact on it, the old fact
  refine Calls.mono (n_add (none) ((HN0.out).step H6.out) 1 _) ?_
  rintro e Y7 ⟨rfl, hbn⟩
  have H7 : Hid (Below V.heap.size V Y7) := H6.out.trans (hbn.mono H6.out.size)
  clear hbn
  go_wp2_with (first
    | (refine PC.wpList_build rfl 36 _ rfl #[] (.agg (PC.rpL PC.Z32 0).toArray) (by simp) (HBP.out _) ?_)
    | (refine PC.wpList_build rfl 33 _ rfl #[] (.agg (PC.Z32.map B8).toArray) (by simp) (HBD.out _) ?_)
    | (refine wpList_buildg rfl 33 _ rfl #[] (.agg (PC.Z32.map B8).toArray) (by simp) (HBD.out _) ?_)
    | (refine wpList_buildg rfl 38 _ rfl #[] (.agg (PC.Z128.map B8).toArray) (by simp) (HBG.out _) ?_)
    | (refine wpList_buildg rfl 41 _ rfl #[] (.agg (PC.rcL 0 PC.Z8 false).toArray) (by simp) (HBC.out _) ?_))
  -- the contract at a world, that world, the world behind, the fact on it, the old fact
  refine Calls.mono (n_drp ((HN0.out).step H7.out) 1) ?_
  rintro e Y8 ⟨rfl, hbn⟩
  have H8 : Hid (Below V.heap.size V Y8) := H7.out.trans (hbn.mono H7.out.size)
  clear hbn
  go_wp2_with (first
    | (refine PC.wpList_build rfl 36 _ rfl #[] (.agg (PC.rpL PC.Z32 0).toArray) (by simp) (HBP.out _) ?_)
    | (refine PC.wpList_build rfl 33 _ rfl #[] (.agg (PC.Z32.map B8).toArray) (by simp) (HBD.out _) ?_)
    | (refine wpList_buildg rfl 33 _ rfl #[] (.agg (PC.Z32.map B8).toArray) (by simp) (HBD.out _) ?_)
    | (refine wpList_buildg rfl 38 _ rfl #[] (.agg (PC.Z128.map B8).toArray) (by simp) (HBG.out _) ?_)
    | (refine wpList_buildg rfl 41 _ rfl #[] (.agg (PC.rcL 0 PC.Z8 false).toArray) (by simp) (HBC.out _) ?_))
  -- the contract at a world, that world, the world behind, the fact on it, the old fact
  refine Calls.mono (n_act ((HN0.out).step H8.out) 1) ?_
  rintro e Y9 ⟨rfl, hbn⟩
  have H9 : Hid (Below V.heap.size V Y9) := H8.out.trans (hbn.mono H8.out.size)
  clear hbn
  go_wp2_with (first
    | (refine PC.wpList_build rfl 36 _ rfl #[] (.agg (PC.rpL PC.Z32 0).toArray) (by simp) (HBP.out _) ?_)
    | (refine PC.wpList_build rfl 33 _ rfl #[] (.agg (PC.Z32.map B8).toArray) (by simp) (HBD.out _) ?_)
    | (refine wpList_buildg rfl 33 _ rfl #[] (.agg (PC.Z32.map B8).toArray) (by simp) (HBD.out _) ?_)
    | (refine wpList_buildg rfl 38 _ rfl #[] (.agg (PC.Z128.map B8).toArray) (by simp) (HBG.out _) ?_)
    | (refine wpList_buildg rfl 41 _ rfl #[] (.agg (PC.rcL 0 PC.Z8 false).toArray) (by simp) (HBC.out _) ?_))
  -- the contract at a world, that world, the world behind, the fact on it, the old fact
  refine Calls.mono (n_kil ((HN0.out).step H9.out) 1) ?_
  rintro e Y10 ⟨rfl, hbn⟩
  have H10 : Hid (Below V.heap.size V Y10) := H9.out.trans (hbn.mono H9.out.size)
  clear hbn
  go_wp2_with (first
    | (refine PC.wpList_build rfl 36 _ rfl #[] (.agg (PC.rpL PC.Z32 0).toArray) (by simp) (HBP.out _) ?_)
    | (refine PC.wpList_build rfl 33 _ rfl #[] (.agg (PC.Z32.map B8).toArray) (by simp) (HBD.out _) ?_)
    | (refine wpList_buildg rfl 33 _ rfl #[] (.agg (PC.Z32.map B8).toArray) (by simp) (HBD.out _) ?_)
    | (refine wpList_buildg rfl 38 _ rfl #[] (.agg (PC.Z128.map B8).toArray) (by simp) (HBG.out _) ?_)
    | (refine wpList_buildg rfl 41 _ rfl #[] (.agg (PC.rcL 0 PC.Z8 false).toArray) (by simp) (HBC.out _) ?_))
  -- the contract at a world, that world, the world behind, the fact on it, the old fact
  refine Calls.mono (n_str ((HN0.out).step H10.out) 1 _) ?_
  rintro e Y11 ⟨rfl, hbn⟩
  have H11 : Hid (Below V.heap.size V Y11) := H10.out.trans (hbn.mono H10.out.size)
  clear hbn
  go_wp2_with (first
    | (refine PC.wpList_build rfl 36 _ rfl #[] (.agg (PC.rpL PC.Z32 0).toArray) (by simp) (HBP.out _) ?_)
    | (refine PC.wpList_build rfl 33 _ rfl #[] (.agg (PC.Z32.map B8).toArray) (by simp) (HBD.out _) ?_)
    | (refine wpList_buildg rfl 33 _ rfl #[] (.agg (PC.Z32.map B8).toArray) (by simp) (HBD.out _) ?_)
    | (refine wpList_buildg rfl 38 _ rfl #[] (.agg (PC.Z128.map B8).toArray) (by simp) (HBG.out _) ?_)
    | (refine wpList_buildg rfl 41 _ rfl #[] (.agg (PC.rcL 0 PC.Z8 false).toArray) (by simp) (HBC.out _) ?_))
  -- the contract at a world, that world, the world behind, the fact on it, the old fact
  refine Calls.mono (n_drop ((HN0.out).step H11.out) 1) ?_
  rintro e Y12 ⟨rfl, hbn⟩
  have H12 : Hid (Below V.heap.size V Y12) := H11.out.trans (hbn.mono H11.out.size)
  clear hbn
  go_wp2_with (first
    | (refine PC.wpList_build rfl 36 _ rfl #[] (.agg (PC.rpL PC.Z32 0).toArray) (by simp) (HBP.out _) ?_)
    | (refine PC.wpList_build rfl 33 _ rfl #[] (.agg (PC.Z32.map B8).toArray) (by simp) (HBD.out _) ?_)
    | (refine wpList_buildg rfl 33 _ rfl #[] (.agg (PC.Z32.map B8).toArray) (by simp) (HBD.out _) ?_)
    | (refine wpList_buildg rfl 38 _ rfl #[] (.agg (PC.Z128.map B8).toArray) (by simp) (HBG.out _) ?_)
    | (refine wpList_buildg rfl 41 _ rfl #[] (.agg (PC.rcL 0 PC.Z8 false).toArray) (by simp) (HBC.out _) ?_))
  refine Calls.mono (R5.pnew_any true PC.Z32 none 0 0 [] Y12 PC.z32_len (fun _ => rfl) (by simp) ⟨fun d hd => (List.not_mem_nil hd).elim, none, 0, rfl, fun i hi => by simp at hi⟩) ?_
  rintro e Y13 ⟨og, mo, dv, rfl, _, hbn, _⟩
  have H13 : Hid (Below V.heap.size V Y13) := H12.out.trans (hbn.mono H12.out.size)
  clear hbn
  go_wp2_with (first
    | (refine PC.wpList_build rfl 36 _ rfl #[] (.agg (PC.rpL PC.Z32 0).toArray) (by simp) (HBP.out _) ?_)
    | (refine PC.wpList_build rfl 33 _ rfl #[] (.agg (PC.Z32.map B8).toArray) (by simp) (HBD.out _) ?_)
    | (refine wpList_buildg rfl 33 _ rfl #[] (.agg (PC.Z32.map B8).toArray) (by simp) (HBD.out _) ?_)
    | (refine wpList_buildg rfl 38 _ rfl #[] (.agg (PC.Z128.map B8).toArray) (by simp) (HBG.out _) ?_)
    | (refine wpList_buildg rfl 41 _ rfl #[] (.agg (PC.rcL 0 PC.Z8 false).toArray) (by simp) (HBC.out _) ?_))
  -- the contract at a world, that world, the world behind, the fact on it, the old fact
  refine Calls.mono (n_copy ((HN0.out).step H13.out) _) ?_
  rintro e Y14 ⟨rfl, hbn⟩
  have H14 : Hid (Below V.heap.size V Y14) := H13.out.trans (hbn.mono H13.out.size)
  clear hbn
  go_wp2_with (first
    | (refine PC.wpList_build rfl 36 _ rfl #[] (.agg (PC.rpL PC.Z32 0).toArray) (by simp) (HBP.out _) ?_)
    | (refine PC.wpList_build rfl 33 _ rfl #[] (.agg (PC.Z32.map B8).toArray) (by simp) (HBD.out _) ?_)
    | (refine wpList_buildg rfl 33 _ rfl #[] (.agg (PC.Z32.map B8).toArray) (by simp) (HBD.out _) ?_)
    | (refine wpList_buildg rfl 38 _ rfl #[] (.agg (PC.Z128.map B8).toArray) (by simp) (HBG.out _) ?_)
    | (refine wpList_buildg rfl 41 _ rfl #[] (.agg (PC.rcL 0 PC.Z8 false).toArray) (by simp) (HBC.out _) ?_))
  refine Calls.mono (n_all ((HN0.out).step H14.out)) ?_
  rintro e Y15 ⟨kb0, nb0, rfl, _, hbn⟩
  have H15 : Hid (Below V.heap.size V Y15) := H14.out.trans (hbn.mono H14.out.size)
  clear hbn
  go_wp2_with (first
    | (refine PC.wpList_build rfl 36 _ rfl #[] (.agg (PC.rpL PC.Z32 0).toArray) (by simp) (HBP.out _) ?_)
    | (refine PC.wpList_build rfl 33 _ rfl #[] (.agg (PC.Z32.map B8).toArray) (by simp) (HBD.out _) ?_)
    | (refine wpList_buildg rfl 33 _ rfl #[] (.agg (PC.Z32.map B8).toArray) (by simp) (HBD.out _) ?_)
    | (refine wpList_buildg rfl 38 _ rfl #[] (.agg (PC.Z128.map B8).toArray) (by simp) (HBG.out _) ?_)
    | (refine wpList_buildg rfl 41 _ rfl #[] (.agg (PC.rcL 0 PC.Z8 false).toArray) (by simp) (HBC.out _) ?_))
  refine Calls.mono (n_all ((HN0.out).step H15.out)) ?_
  rintro e Y16 ⟨kb, nb, rfl, hkc, hbn⟩
  have H16 : Hid (Below V.heap.size V Y16) := H15.out.trans (hbn.mono H15.out.size)
  have HKC : Hid (Y16.cell? ⟨kb, 0, none⟩ = some (.slice none 0 0)) := hkc
  clear hbn hkc
  go_wp2
  refine R5.wp_rangeFunc_never (gf := 62) (lb := #[.pointer (some ⟨kb, 0, none⟩), .pointer (some ⟨nb, 0, none⟩)]) rfl (enters_of Tryz.func62 (by kernel_rfl) rfl) (fun y W hb => all1_empty y kb nb W ((hb.cell (block_lt HKC.out)).trans HKC.out)) ?_
  intro T hbT hltT hdT
  have H17 : Hid (Below V.heap.size V T) := H16.out.trans (hbT.mono H16.out.size)
  obtain ⟨D1, hDD⟩ : ∃ D, D = Y16.heap.size := ⟨_, rfl⟩
  rw [← hDD] at hltT hdT ⊢
  have hlD1 : V.heap.size ≤ D1 := by rw [hDD]; exact H16.out.size
  have HDD : Hid (T.heap[D1]? = some (.deferred (some []))) := hdT
  have HLT : Hid (D1 < T.heap.size) := hltT
  clear hbT hdT HKC hDD hltT H0 H1 H4 H5 H6 H7 H8 H9 H10 H11 H12 H13 H14 H15 H16
  go_wp2_with fail
  refine Calls.mono (n_find ((HN0.out).step H17.out) 1) ?_
  rintro e Z1 ⟨rfl, hbn⟩
  have HBZ1 : Hid (Below V.heap.size V Z1) := H17.out.trans (hbn.mono H17.out.size)
  have HED1 : Hid (Z1.heap[D1]? = some (.deferred (some []))) := (hbn.block _ HLT.out).trans HDD.out
  have hltD1 : D1 < Z1.heap.size := by have := hbn.size; have := HLT.out; omega
  clear hbn H17 HDD HLT hci
  go_wp2
  rw [rounds_succ]
  have hsV1 := HBZ1.out.size
  have HN1' : Hid (NN (.pointer (some ⟨w.heap.size + 1, 0, none⟩)) Z1) := HN1.out.step HBZ1.out
  have hci : Z1.cell? ⟨LB, 1, none⟩ = some (.pointer (some ⟨w.heap.size + 1, 0, none⟩)) := by rw [cell_of_row _ _ 1 _ _ _ ((HBZ1.out.block _ hlV).trans HRL.out)]; rfl
  -- (some ⟨w.heap.size + 1, 0, none⟩) the receiver's address, HN1' the fact NN at V (hidden), Z1 the world V
  go_wp2_with (first
    | (refine PC.wpList_build rfl 36 _ rfl #[] (.agg (PC.rpL PC.Z32 0).toArray) (by simp) (HBP.out _) ?_)
    | (refine PC.wpList_build rfl 33 _ rfl #[] (.agg (PC.Z32.map B8).toArray) (by simp) (HBD.out _) ?_)
    | (refine wpList_buildg rfl 33 _ rfl #[] (.agg (PC.Z32.map B8).toArray) (by simp) (HBD.out _) ?_)
    | (refine wpList_buildg rfl 38 _ rfl #[] (.agg (PC.Z128.map B8).toArray) (by simp) (HBG.out _) ?_)
    | (refine wpList_buildg rfl 41 _ rfl #[] (.agg (PC.rcL 0 PC.Z8 false).toArray) (by simp) (HBC.out _) ?_))
  have H0 : Hid (Below Z1.heap.size Z1 Z1) := Below.refl _ _
  refine Calls.mono (n_create (HN1'.out) 1 2 _ _) ?_
  rintro e Y1 ⟨rfl, hbn⟩
  rw [← HZL.out]
  have HRA : Hid ((Y1.alloc (.cells ZL.toArray 47 (0, 0))).heap[Y1.heap.size]? = some (.cells ZL.toArray 47 (0, 0))) := heap_alloc_new _ _
  have H1 : Hid (Below Z1.heap.size Z1 ((Y1.alloc (.cells ZL.toArray 47 (0, 0))).setRow Y1.heap.size ZL.toArray)) := below_setRow (hbn.alloc hbn.size _) hbn.size _
  clear hbn
  go_wp2_with (refine wpList_store_row rfl 47 _ _ rfl Y1.heap.size ZL.toArray rfl rfl 47 ZL.toArray HRA.out HZI.out rfl HZ1.out ?_)
  generalize (Y1.alloc (.cells ZL.toArray 47 (0, 0))).setRow Y1.heap.size ZL.toArray = Y2 at *
  clear HRA
  refine Calls.mono (n_get ((HN1'.out).step H1.out) 1) ?_
  rintro e Y3 ⟨v3, rfl, hown, hbn⟩
  have HMN : Hid ((rmL zR v3).length = 103) := rmL_len zR_ok _
  have HM1 : Hid ((rmL zR v3).toArray.all (·.oneCell') = true) := rmL_onea zR (HO.hr hown)
  obtain ⟨ML, hML⟩ : ∃ ML, ML = rmL zR v3 := ⟨_, rfl⟩
  rw [← hML] at HMN HM1 ⊢
  have HMI : Hid ((Tryz.prog.info? 47).map (·.size) = some ML.toArray.size) := info103a _ (by simpa using HMN.out)
  have HZM : Hid (ZL.toArray.size = ML.toArray.size) := by have := HZS.out; have := HMN.out; simp_all
  have HRA : Hid ((Y3.alloc (.cells ZL.toArray 47 (0, 0))).heap[Y3.heap.size]? = some (.cells ZL.toArray 47 (0, 0))) := heap_alloc_new _ _
  have hb3 : Below Z1.heap.size Z1 Y3 := H1.out.trans (hbn.mono H1.out.size)
  have H4 : Hid (Below Z1.heap.size Z1 ((Y3.alloc (.cells ZL.toArray 47 (0, 0))).setRow Y3.heap.size ML.toArray)) := below_setRow (hb3.alloc hb3.size _) hb3.size _
  clear hbn hown hML hb3
  go_wp2_with (refine wpList_store_row rfl 47 _ _ rfl Y3.heap.size ML.toArray rfl rfl 47 ZL.toArray HRA.out HMI.out HZM.out HM1.out ?_)
  generalize (Y3.alloc (.cells ZL.toArray 47 (0, 0))).setRow Y3.heap.size ML.toArray = Y4 at *
  clear HRA
  -- the contract at a world, that world, the world behind, the fact on it, the old fact
  refine Calls.mono (n_nxt ((HN1'.out).step H4.out) 1) ?_
  rintro e Y5 ⟨rfl, hbn⟩
  have H5 : Hid (Below Z1.heap.size Z1 Y5) := H4.out.trans (hbn.mono H4.out.size)
  clear hbn
  go_wp2_with (first
    | (refine PC.wpList_build rfl 36 _ rfl #[] (.agg (PC.rpL PC.Z32 0).toArray) (by simp) (HBP.out _) ?_)
    | (refine PC.wpList_build rfl 33 _ rfl #[] (.agg (PC.Z32.map B8).toArray) (by simp) (HBD.out _) ?_)
    | (refine wpList_buildg rfl 33 _ rfl #[] (.agg (PC.Z32.map B8).toArray) (by simp) (HBD.out _) ?_)
    | (refine wpList_buildg rfl 38 _ rfl #[] (.agg (PC.Z128.map B8).toArray) (by simp) (HBG.out _) ?_)
    | (refine wpList_buildg rfl 41 _ rfl #[] (.agg (PC.rcL 0 PC.Z8 false).toArray) (by simp) (HBC.out _) ?_))
  -- the contract at a world, that world, the world behind, the fact on it, the old fact
  refine Calls.mono (n_data ((some ⟨w.heap.size + 1, 0, none⟩)) ((HN1'.out).step H5.out) 1 0 _) ?_
  rintro e Y6 ⟨rfl, hbn⟩
  have H6 : Hid (Below Z1.heap.size Z1 Y6) := H5.out.trans (hbn.mono H5.out.size)
  clear hbn
  go_wp2_with (first
    | (refine PC.wpList_build rfl 36 _ rfl #[] (.agg (PC.rpL PC.Z32 0).toArray) (by simp) (HBP.out _) ?_)
    | (refine PC.wpList_build rfl 33 _ rfl #[] (.agg (PC.Z32.map B8).toArray) (by simp) (HBD.out _) ?_)
    | (refine wpList_buildg rfl 33 _ rfl #[] (.agg (PC.Z32.map B8).toArray) (by simp) (HBD.out _) ?_)
    | (refine wpList_buildg rfl 38 _ rfl #[] (.agg (PC.Z128.map B8).toArray) (by simp) (HBG.out _) ?_)
    | (refine wpList_buildg rfl 41 _ rfl #[] (.agg (PC.rcL 0 PC.Z8 false).toArray) (by simp) (HBC.out _) ?_))
  -- the contract at a world, that world, the world behind, the fact on it, the old fact
  refine Calls.mono (n_add ((some ⟨w.heap.size + 1, 0, none⟩)) ((HN1'.out).step H6.out) 1 _) ?_
  rintro e Y7 ⟨rfl, hbn⟩
  have H7 : Hid (Below Z1.heap.size Z1 Y7) := H6.out.trans (hbn.mono H6.out.size)
  clear hbn
  go_wp2_with (first
    | (refine PC.wpList_build rfl 36 _ rfl #[] (.agg (PC.rpL PC.Z32 0).toArray) (by simp) (HBP.out _) ?_)
    | (refine PC.wpList_build rfl 33 _ rfl #[] (.agg (PC.Z32.map B8).toArray) (by simp) (HBD.out _) ?_)
    | (refine wpList_buildg rfl 33 _ rfl #[] (.agg (PC.Z32.map B8).toArray) (by simp) (HBD.out _) ?_)
    | (refine wpList_buildg rfl 38 _ rfl #[] (.agg (PC.Z128.map B8).toArray) (by simp) (HBG.out _) ?_)
    | (refine wpList_buildg rfl 41 _ rfl #[] (.agg (PC.rcL 0 PC.Z8 false).toArray) (by simp) (HBC.out _) ?_))
  -- the contract at a world, that world, the world behind, the fact on it, the old fact
  refine Calls.mono (n_drp ((HN1'.out).step H7.out) 1) ?_
  rintro e Y8 ⟨rfl, hbn⟩
  have H8 : Hid (Below Z1.heap.size Z1 Y8) := H7.out.trans (hbn.mono H7.out.size)
  clear hbn
  go_wp2_with (first
    | (refine PC.wpList_build rfl 36 _ rfl #[] (.agg (PC.rpL PC.Z32 0).toArray) (by simp) (HBP.out _) ?_)
    | (refine PC.wpList_build rfl 33 _ rfl #[] (.agg (PC.Z32.map B8).toArray) (by simp) (HBD.out _) ?_)
    | (refine wpList_buildg rfl 33 _ rfl #[] (.agg (PC.Z32.map B8).toArray) (by simp) (HBD.out _) ?_)
    | (refine wpList_buildg rfl 38 _ rfl #[] (.agg (PC.Z128.map B8).toArray) (by simp) (HBG.out _) ?_)
    | (refine wpList_buildg rfl 41 _ rfl #[] (.agg (PC.rcL 0 PC.Z8 false).toArray) (by simp) (HBC.out _) ?_))
  -- the contract at a world, that world, the world behind, the fact on it, the old fact
  refine Calls.mono (n_act ((HN1'.out).step H8.out) 1) ?_
  rintro e Y9 ⟨rfl, hbn⟩
  have H9 : Hid (Below Z1.heap.size Z1 Y9) := H8.out.trans (hbn.mono H8.out.size)
  clear hbn
  go_wp2_with (first
    | (refine PC.wpList_build rfl 36 _ rfl #[] (.agg (PC.rpL PC.Z32 0).toArray) (by simp) (HBP.out _) ?_)
    | (refine PC.wpList_build rfl 33 _ rfl #[] (.agg (PC.Z32.map B8).toArray) (by simp) (HBD.out _) ?_)
    | (refine wpList_buildg rfl 33 _ rfl #[] (.agg (PC.Z32.map B8).toArray) (by simp) (HBD.out _) ?_)
    | (refine wpList_buildg rfl 38 _ rfl #[] (.agg (PC.Z128.map B8).toArray) (by simp) (HBG.out _) ?_)
    | (refine wpList_buildg rfl 41 _ rfl #[] (.agg (PC.rcL 0 PC.Z8 false).toArray) (by simp) (HBC.out _) ?_))
  -- the contract at a world, that world, the world behind, the fact on it, the old fact
  refine Calls.mono (n_kil ((HN1'.out).step H9.out) 1) ?_
  rintro e Y10 ⟨rfl, hbn⟩
  have H10 : Hid (Below Z1.heap.size Z1 Y10) := H9.out.trans (hbn.mono H9.out.size)
  clear hbn
  go_wp2_with (first
    | (refine PC.wpList_build rfl 36 _ rfl #[] (.agg (PC.rpL PC.Z32 0).toArray) (by simp) (HBP.out _) ?_)
    | (refine PC.wpList_build rfl 33 _ rfl #[] (.agg (PC.Z32.map B8).toArray) (by simp) (HBD.out _) ?_)
    | (refine wpList_buildg rfl 33 _ rfl #[] (.agg (PC.Z32.map B8).toArray) (by simp) (HBD.out _) ?_)
    | (refine wpList_buildg rfl 38 _ rfl #[] (.agg (PC.Z128.map B8).toArray) (by simp) (HBG.out _) ?_)
    | (refine wpList_buildg rfl 41 _ rfl #[] (.agg (PC.rcL 0 PC.Z8 false).toArray) (by simp) (HBC.out _) ?_))
  -- the contract at a world, that world, the world behind, the fact on it, the old fact
  refine Calls.mono (n_str ((HN1'.out).step H10.out) 1 _) ?_
  rintro e Y11 ⟨rfl, hbn⟩
  have H11 : Hid (Below Z1.heap.size Z1 Y11) := H10.out.trans (hbn.mono H10.out.size)
  clear hbn
  go_wp2_with (first
    | (refine PC.wpList_build rfl 36 _ rfl #[] (.agg (PC.rpL PC.Z32 0).toArray) (by simp) (HBP.out _) ?_)
    | (refine PC.wpList_build rfl 33 _ rfl #[] (.agg (PC.Z32.map B8).toArray) (by simp) (HBD.out _) ?_)
    | (refine wpList_buildg rfl 33 _ rfl #[] (.agg (PC.Z32.map B8).toArray) (by simp) (HBD.out _) ?_)
    | (refine wpList_buildg rfl 38 _ rfl #[] (.agg (PC.Z128.map B8).toArray) (by simp) (HBG.out _) ?_)
    | (refine wpList_buildg rfl 41 _ rfl #[] (.agg (PC.rcL 0 PC.Z8 false).toArray) (by simp) (HBC.out _) ?_))
  -- the contract at a world, that world, the world behind, the fact on it, the old fact
  refine Calls.mono (n_drop ((HN1'.out).step H11.out) 1) ?_
  rintro e Y12 ⟨rfl, hbn⟩
  have H12 : Hid (Below Z1.heap.size Z1 Y12) := H11.out.trans (hbn.mono H11.out.size)
  clear hbn
  go_wp2_with (first
    | (refine PC.wpList_build rfl 36 _ rfl #[] (.agg (PC.rpL PC.Z32 0).toArray) (by simp) (HBP.out _) ?_)
    | (refine PC.wpList_build rfl 33 _ rfl #[] (.agg (PC.Z32.map B8).toArray) (by simp) (HBD.out _) ?_)
    | (refine wpList_buildg rfl 33 _ rfl #[] (.agg (PC.Z32.map B8).toArray) (by simp) (HBD.out _) ?_)
    | (refine wpList_buildg rfl 38 _ rfl #[] (.agg (PC.Z128.map B8).toArray) (by simp) (HBG.out _) ?_)
    | (refine wpList_buildg rfl 41 _ rfl #[] (.agg (PC.rcL 0 PC.Z8 false).toArray) (by simp) (HBC.out _) ?_))
  refine Calls.mono (R5.pnew_any true PC.Z32 none 0 0 [] Y12 PC.z32_len (fun _ => rfl) (by simp) ⟨fun d hd => (List.not_mem_nil hd).elim, none, 0, rfl, fun i hi => by simp at hi⟩) ?_
  rintro e Y13 ⟨og, mo, dv, rfl, _, hbn, _⟩
  have H13 : Hid (Below Z1.heap.size Z1 Y13) := H12.out.trans (hbn.mono H12.out.size)
  clear hbn
  go_wp2_with (first
    | (refine PC.wpList_build rfl 36 _ rfl #[] (.agg (PC.rpL PC.Z32 0).toArray) (by simp) (HBP.out _) ?_)
    | (refine PC.wpList_build rfl 33 _ rfl #[] (.agg (PC.Z32.map B8).toArray) (by simp) (HBD.out _) ?_)
    | (refine wpList_buildg rfl 33 _ rfl #[] (.agg (PC.Z32.map B8).toArray) (by simp) (HBD.out _) ?_)
    | (refine wpList_buildg rfl 38 _ rfl #[] (.agg (PC.Z128.map B8).toArray) (by simp) (HBG.out _) ?_)
    | (refine wpList_buildg rfl 41 _ rfl #[] (.agg (PC.rcL 0 PC.Z8 false).toArray) (by simp) (HBC.out _) ?_))
  -- the contract at a world, that world, the world behind, the fact on it, the old fact
  refine Calls.mono (n_copy ((HN1'.out).step H13.out) _) ?_
  rintro e Y14 ⟨rfl, hbn⟩
  have H14 : Hid (Below Z1.heap.size Z1 Y14) := H13.out.trans (hbn.mono H13.out.size)
  clear hbn
  go_wp2_with (first
    | (refine PC.wpList_build rfl 36 _ rfl #[] (.agg (PC.rpL PC.Z32 0).toArray) (by simp) (HBP.out _) ?_)
    | (refine PC.wpList_build rfl 33 _ rfl #[] (.agg (PC.Z32.map B8).toArray) (by simp) (HBD.out _) ?_)
    | (refine wpList_buildg rfl 33 _ rfl #[] (.agg (PC.Z32.map B8).toArray) (by simp) (HBD.out _) ?_)
    | (refine wpList_buildg rfl 38 _ rfl #[] (.agg (PC.Z128.map B8).toArray) (by simp) (HBG.out _) ?_)
    | (refine wpList_buildg rfl 41 _ rfl #[] (.agg (PC.rcL 0 PC.Z8 false).toArray) (by simp) (HBC.out _) ?_))
  refine Calls.mono (n_all ((HN1'.out).step H14.out)) ?_
  rintro e Y15 ⟨kb0, nb0, rfl, _, hbn⟩
  have H15 : Hid (Below Z1.heap.size Z1 Y15) := H14.out.trans (hbn.mono H14.out.size)
  clear hbn
  go_wp2_with (first
    | (refine PC.wpList_build rfl 36 _ rfl #[] (.agg (PC.rpL PC.Z32 0).toArray) (by simp) (HBP.out _) ?_)
    | (refine PC.wpList_build rfl 33 _ rfl #[] (.agg (PC.Z32.map B8).toArray) (by simp) (HBD.out _) ?_)
    | (refine wpList_buildg rfl 33 _ rfl #[] (.agg (PC.Z32.map B8).toArray) (by simp) (HBD.out _) ?_)
    | (refine wpList_buildg rfl 38 _ rfl #[] (.agg (PC.Z128.map B8).toArray) (by simp) (HBG.out _) ?_)
    | (refine wpList_buildg rfl 41 _ rfl #[] (.agg (PC.rcL 0 PC.Z8 false).toArray) (by simp) (HBC.out _) ?_))
  refine Calls.mono (n_all ((HN1'.out).step H15.out)) ?_
  rintro e Y16 ⟨kb, nb, rfl, hkc, hbn⟩
  have H16 : Hid (Below Z1.heap.size Z1 Y16) := H15.out.trans (hbn.mono H15.out.size)
  have HKC : Hid (Y16.cell? ⟨kb, 0, none⟩ = some (.slice none 0 0)) := hkc
  clear hbn hkc
  go_wp2
  refine R5.wp_rangeFunc_never (gf := 62) (lb := #[.pointer (some ⟨kb, 0, none⟩), .pointer (some ⟨nb, 0, none⟩)]) rfl (enters_of Tryz.func62 (by kernel_rfl) rfl) (fun y W hb => all1_empty y kb nb W ((hb.cell (block_lt HKC.out)).trans HKC.out)) ?_
  intro T hbT hltT hdT
  have H17 : Hid (Below Z1.heap.size Z1 T) := H16.out.trans (hbT.mono H16.out.size)
  obtain ⟨D2, hDD⟩ : ∃ D, D = Y16.heap.size := ⟨_, rfl⟩
  rw [← hDD] at hltT hdT ⊢
  have hlD2 : Z1.heap.size ≤ D2 := by rw [hDD]; exact H16.out.size
  have HDD : Hid (T.heap[D2]? = some (.deferred (some []))) := hdT
  have HLT : Hid (D2 < T.heap.size) := hltT
  clear hbT hdT HKC hDD hltT H0 H1 H4 H5 H6 H7 H8 H9 H10 H11 H12 H13 H14 H15 H16
  go_wp2_with fail
  refine Calls.mono (n_find ((HN1'.out).step H17.out) 1) ?_
  rintro e Z2 ⟨rfl, hbn⟩
  have HBZ2 : Hid (Below Z1.heap.size Z1 Z2) := H17.out.trans (hbn.mono H17.out.size)
  have HED2 : Hid (Z2.heap[D2]? = some (.deferred (some []))) := (hbn.block _ HLT.out).trans HDD.out
  have hltD2 : D2 < Z2.heap.size := by have := hbn.size; have := HLT.out; omega
  clear hbn H17 HDD HLT hci
  go_wp2
  rw [rounds_succ]
  have hsV2 := HBZ2.out.size
  have HBV2 : Hid (Below V.heap.size V Z2) := HBZ1.out.trans (HBZ2.out.mono hsV1)
  have HN2' : Hid (NN (.pointer none) Z2) := nn_nil Z2
  have hci : Z2.cell? ⟨LB, 2, none⟩ = some (.pointer none) := by rw [cell_of_row _ _ 2 _ _ _ ((HBV2.out.block _ hlV).trans HRL.out)]; rfl
  -- none the receiver's address, HN2' the fact NN at V (hidden), Z2 the world V
  go_wp2_with (first
    | (refine PC.wpList_build rfl 36 _ rfl #[] (.agg (PC.rpL PC.Z32 0).toArray) (by simp) (HBP.out _) ?_)
    | (refine PC.wpList_build rfl 33 _ rfl #[] (.agg (PC.Z32.map B8).toArray) (by simp) (HBD.out _) ?_)
    | (refine wpList_buildg rfl 33 _ rfl #[] (.agg (PC.Z32.map B8).toArray) (by simp) (HBD.out _) ?_)
    | (refine wpList_buildg rfl 38 _ rfl #[] (.agg (PC.Z128.map B8).toArray) (by simp) (HBG.out _) ?_)
    | (refine wpList_buildg rfl 41 _ rfl #[] (.agg (PC.rcL 0 PC.Z8 false).toArray) (by simp) (HBC.out _) ?_))
  have H0 : Hid (Below Z2.heap.size Z2 Z2) := Below.refl _ _
  refine Calls.mono (n_create (HN2'.out) 1 2 _ _) ?_
  rintro e Y1 ⟨rfl, hbn⟩
  rw [← HZL.out]
  have HRA : Hid ((Y1.alloc (.cells ZL.toArray 47 (0, 0))).heap[Y1.heap.size]? = some (.cells ZL.toArray 47 (0, 0))) := heap_alloc_new _ _
  have H1 : Hid (Below Z2.heap.size Z2 ((Y1.alloc (.cells ZL.toArray 47 (0, 0))).setRow Y1.heap.size ZL.toArray)) := below_setRow (hbn.alloc hbn.size _) hbn.size _
  clear hbn
  go_wp2_with (refine wpList_store_row rfl 47 _ _ rfl Y1.heap.size ZL.toArray rfl rfl 47 ZL.toArray HRA.out HZI.out rfl HZ1.out ?_)
  generalize (Y1.alloc (.cells ZL.toArray 47 (0, 0))).setRow Y1.heap.size ZL.toArray = Y2 at *
  clear HRA
  refine Calls.mono (n_get ((HN2'.out).step H1.out) 1) ?_
  rintro e Y3 ⟨v3, rfl, hown, hbn⟩
  have HMN : Hid ((rmL zR v3).length = 103) := rmL_len zR_ok _
  have HM1 : Hid ((rmL zR v3).toArray.all (·.oneCell') = true) := rmL_onea zR (HO.hr hown)
  obtain ⟨ML, hML⟩ : ∃ ML, ML = rmL zR v3 := ⟨_, rfl⟩
  rw [← hML] at HMN HM1 ⊢
  have HMI : Hid ((Tryz.prog.info? 47).map (·.size) = some ML.toArray.size) := info103a _ (by simpa using HMN.out)
  have HZM : Hid (ZL.toArray.size = ML.toArray.size) := by have := HZS.out; have := HMN.out; simp_all
  have HRA : Hid ((Y3.alloc (.cells ZL.toArray 47 (0, 0))).heap[Y3.heap.size]? = some (.cells ZL.toArray 47 (0, 0))) := heap_alloc_new _ _
  have hb3 : Below Z2.heap.size Z2 Y3 := H1.out.trans (hbn.mono H1.out.size)
  have H4 : Hid (Below Z2.heap.size Z2 ((Y3.alloc (.cells ZL.toArray 47 (0, 0))).setRow Y3.heap.size ML.toArray)) := below_setRow (hb3.alloc hb3.size _) hb3.size _
  clear hbn hown hML hb3
  go_wp2_with (refine wpList_store_row rfl 47 _ _ rfl Y3.heap.size ML.toArray rfl rfl 47 ZL.toArray HRA.out HMI.out HZM.out HM1.out ?_)
  generalize (Y3.alloc (.cells ZL.toArray 47 (0, 0))).setRow Y3.heap.size ML.toArray = Y4 at *
  clear HRA
  -- the contract at a world, that world, the world behind, the fact on it, the old fact
  refine Calls.mono (n_nxt ((HN2'.out).step H4.out) 1) ?_
  rintro e Y5 ⟨rfl, hbn⟩
  have H5 : Hid (Below Z2.heap.size Z2 Y5) := H4.out.trans (hbn.mono H4.out.size)
  clear hbn
  go_wp2_with (first
    | (refine PC.wpList_build rfl 36 _ rfl #[] (.agg (PC.rpL PC.Z32 0).toArray) (by simp) (HBP.out _) ?_)
    | (refine PC.wpList_build rfl 33 _ rfl #[] (.agg (PC.Z32.map B8).toArray) (by simp) (HBD.out _) ?_)
    | (refine wpList_buildg rfl 33 _ rfl #[] (.agg (PC.Z32.map B8).toArray) (by simp) (HBD.out _) ?_)
    | (refine wpList_buildg rfl 38 _ rfl #[] (.agg (PC.Z128.map B8).toArray) (by simp) (HBG.out _) ?_)
    | (refine wpList_buildg rfl 41 _ rfl #[] (.agg (PC.rcL 0 PC.Z8 false).toArray) (by simp) (HBC.out _) ?_))
  -- the contract at a world, that world, the world behind, the fact on it, the old fact
  refine Calls.mono (n_data (none) ((HN2'.out).step H5.out) 1 0 _) ?_
  rintro e Y6 ⟨rfl, hbn⟩
  have H6 : Hid (Below Z2.heap.size Z2 Y6) := H5.out.trans (hbn.mono H5.out.size)
  clear hbn
  go_wp2_with (first
    | (refine PC.wpList_build rfl 36 _ rfl #[] (.agg (PC.rpL PC.Z32 0).toArray) (by simp) (HBP.out _) ?_)
    | (refine PC.wpList_build rfl 33 _ rfl #[] (.agg (PC.Z32.map B8).toArray) (by simp) (HBD.out _) ?_)
    | (refine wpList_buildg rfl 33 _ rfl #[] (.agg (PC.Z32.map B8).toArray) (by simp) (HBD.out _) ?_)
    | (refine wpList_buildg rfl 38 _ rfl #[] (.agg (PC.Z128.map B8).toArray) (by simp) (HBG.out _) ?_)
    | (refine wpList_buildg rfl 41 _ rfl #[] (.agg (PC.rcL 0 PC.Z8 false).toArray) (by simp) (HBC.out _) ?_))
  -- the contract at a world, that world, the world behind, the fact on it, the old fact
  refine Calls.mono (n_add (none) ((HN2'.out).step H6.out) 1 _) ?_
  rintro e Y7 ⟨rfl, hbn⟩
  have H7 : Hid (Below Z2.heap.size Z2 Y7) := H6.out.trans (hbn.mono H6.out.size)
  clear hbn
  go_wp2_with (first
    | (refine PC.wpList_build rfl 36 _ rfl #[] (.agg (PC.rpL PC.Z32 0).toArray) (by simp) (HBP.out _) ?_)
    | (refine PC.wpList_build rfl 33 _ rfl #[] (.agg (PC.Z32.map B8).toArray) (by simp) (HBD.out _) ?_)
    | (refine wpList_buildg rfl 33 _ rfl #[] (.agg (PC.Z32.map B8).toArray) (by simp) (HBD.out _) ?_)
    | (refine wpList_buildg rfl 38 _ rfl #[] (.agg (PC.Z128.map B8).toArray) (by simp) (HBG.out _) ?_)
    | (refine wpList_buildg rfl 41 _ rfl #[] (.agg (PC.rcL 0 PC.Z8 false).toArray) (by simp) (HBC.out _) ?_))
  -- the contract at a world, that world, the world behind, the fact on it, the old fact
  refine Calls.mono (n_drp ((HN2'.out).step H7.out) 1) ?_
  rintro e Y8 ⟨rfl, hbn⟩
  have H8 : Hid (Below Z2.heap.size Z2 Y8) := H7.out.trans (hbn.mono H7.out.size)
  clear hbn
  go_wp2_with (first
    | (refine PC.wpList_build rfl 36 _ rfl #[] (.agg (PC.rpL PC.Z32 0).toArray) (by simp) (HBP.out _) ?_)
    | (refine PC.wpList_build rfl 33 _ rfl #[] (.agg (PC.Z32.map B8).toArray) (by simp) (HBD.out _) ?_)
    | (refine wpList_buildg rfl 33 _ rfl #[] (.agg (PC.Z32.map B8).toArray) (by simp) (HBD.out _) ?_)
    | (refine wpList_buildg rfl 38 _ rfl #[] (.agg (PC.Z128.map B8).toArray) (by simp) (HBG.out _) ?_)
    | (refine wpList_buildg rfl 41 _ rfl #[] (.agg (PC.rcL 0 PC.Z8 false).toArray) (by simp) (HBC.out _) ?_))
  -- the contract at a world, that world, the world behind, the fact on it, the old fact
  refine Calls.mono (n_act ((HN2'.out).step H8.out) 1) ?_
  rintro e Y9 ⟨rfl, hbn⟩
  have H9 : Hid (Below Z2.heap.size Z2 Y9) := H8.out.trans (hbn.mono H8.out.size)
  clear hbn
  go_wp2_with (first
    | (refine PC.wpList_build rfl 36 _ rfl #[] (.agg (PC.rpL PC.Z32 0).toArray) (by simp) (HBP.out _) ?_)
    | (refine PC.wpList_build rfl 33 _ rfl #[] (.agg (PC.Z32.map B8).toArray) (by simp) (HBD.out _) ?_)
    | (refine wpList_buildg rfl 33 _ rfl #[] (.agg (PC.Z32.map B8).toArray) (by simp) (HBD.out _) ?_)
    | (refine wpList_buildg rfl 38 _ rfl #[] (.agg (PC.Z128.map B8).toArray) (by simp) (HBG.out _) ?_)
    | (refine wpList_buildg rfl 41 _ rfl #[] (.agg (PC.rcL 0 PC.Z8 false).toArray) (by simp) (HBC.out _) ?_))
  -- the contract at a world, that world, the world behind, the fact on it, the old fact
  refine Calls.mono (n_kil ((HN2'.out).step H9.out) 1) ?_
  rintro e Y10 ⟨rfl, hbn⟩
  have H10 : Hid (Below Z2.heap.size Z2 Y10) := H9.out.trans (hbn.mono H9.out.size)
  clear hbn
  go_wp2_with (first
    | (refine PC.wpList_build rfl 36 _ rfl #[] (.agg (PC.rpL PC.Z32 0).toArray) (by simp) (HBP.out _) ?_)
    | (refine PC.wpList_build rfl 33 _ rfl #[] (.agg (PC.Z32.map B8).toArray) (by simp) (HBD.out _) ?_)
    | (refine wpList_buildg rfl 33 _ rfl #[] (.agg (PC.Z32.map B8).toArray) (by simp) (HBD.out _) ?_)
    | (refine wpList_buildg rfl 38 _ rfl #[] (.agg (PC.Z128.map B8).toArray) (by simp) (HBG.out _) ?_)
    | (refine wpList_buildg rfl 41 _ rfl #[] (.agg (PC.rcL 0 PC.Z8 false).toArray) (by simp) (HBC.out _) ?_))
  -- the contract at a world, that world, the world behind, the fact on it, the old fact
  refine Calls.mono (n_str ((HN2'.out).step H10.out) 1 _) ?_
  rintro e Y11 ⟨rfl, hbn⟩
  have H11 : Hid (Below Z2.heap.size Z2 Y11) := H10.out.trans (hbn.mono H10.out.size)
  clear hbn
  go_wp2_with (first
    | (refine PC.wpList_build rfl 36 _ rfl #[] (.agg (PC.rpL PC.Z32 0).toArray) (by simp) (HBP.out _) ?_)
    | (refine PC.wpList_build rfl 33 _ rfl #[] (.agg (PC.Z32.map B8).toArray) (by simp) (HBD.out _) ?_)
    | (refine wpList_buildg rfl 33 _ rfl #[] (.agg (PC.Z32.map B8).toArray) (by simp) (HBD.out _) ?_)
    | (refine wpList_buildg rfl 38 _ rfl #[] (.agg (PC.Z128.map B8).toArray) (by simp) (HBG.out _) ?_)
    | (refine wpList_buildg rfl 41 _ rfl #[] (.agg (PC.rcL 0 PC.Z8 false).toArray) (by simp) (HBC.out _) ?_))
  -- the contract at a world, that world, the world behind, the fact on it, the old fact
  refine Calls.mono (n_drop ((HN2'.out).step H11.out) 1) ?_
  rintro e Y12 ⟨rfl, hbn⟩
  have H12 : Hid (Below Z2.heap.size Z2 Y12) := H11.out.trans (hbn.mono H11.out.size)
  clear hbn
  go_wp2_with (first
    | (refine PC.wpList_build rfl 36 _ rfl #[] (.agg (PC.rpL PC.Z32 0).toArray) (by simp) (HBP.out _) ?_)
    | (refine PC.wpList_build rfl 33 _ rfl #[] (.agg (PC.Z32.map B8).toArray) (by simp) (HBD.out _) ?_)
    | (refine wpList_buildg rfl 33 _ rfl #[] (.agg (PC.Z32.map B8).toArray) (by simp) (HBD.out _) ?_)
    | (refine wpList_buildg rfl 38 _ rfl #[] (.agg (PC.Z128.map B8).toArray) (by simp) (HBG.out _) ?_)
    | (refine wpList_buildg rfl 41 _ rfl #[] (.agg (PC.rcL 0 PC.Z8 false).toArray) (by simp) (HBC.out _) ?_))
  refine Calls.mono (R5.pnew_any true PC.Z32 none 0 0 [] Y12 PC.z32_len (fun _ => rfl) (by simp) ⟨fun d hd => (List.not_mem_nil hd).elim, none, 0, rfl, fun i hi => by simp at hi⟩) ?_
  rintro e Y13 ⟨og, mo, dv, rfl, _, hbn, _⟩
  have H13 : Hid (Below Z2.heap.size Z2 Y13) := H12.out.trans (hbn.mono H12.out.size)
  clear hbn
  go_wp2_with (first
    | (refine PC.wpList_build rfl 36 _ rfl #[] (.agg (PC.rpL PC.Z32 0).toArray) (by simp) (HBP.out _) ?_)
    | (refine PC.wpList_build rfl 33 _ rfl #[] (.agg (PC.Z32.map B8).toArray) (by simp) (HBD.out _) ?_)
    | (refine wpList_buildg rfl 33 _ rfl #[] (.agg (PC.Z32.map B8).toArray) (by simp) (HBD.out _) ?_)
    | (refine wpList_buildg rfl 38 _ rfl #[] (.agg (PC.Z128.map B8).toArray) (by simp) (HBG.out _) ?_)
    | (refine wpList_buildg rfl 41 _ rfl #[] (.agg (PC.rcL 0 PC.Z8 false).toArray) (by simp) (HBC.out _) ?_))
  -- the contract at a world, that world, the world behind, the fact on it, the old fact
  refine Calls.mono (n_copy ((HN2'.out).step H13.out) _) ?_
  rintro e Y14 ⟨rfl, hbn⟩
  have H14 : Hid (Below Z2.heap.size Z2 Y14) := H13.out.trans (hbn.mono H13.out.size)
  clear hbn
  go_wp2_with (first
    | (refine PC.wpList_build rfl 36 _ rfl #[] (.agg (PC.rpL PC.Z32 0).toArray) (by simp) (HBP.out _) ?_)
    | (refine PC.wpList_build rfl 33 _ rfl #[] (.agg (PC.Z32.map B8).toArray) (by simp) (HBD.out _) ?_)
    | (refine wpList_buildg rfl 33 _ rfl #[] (.agg (PC.Z32.map B8).toArray) (by simp) (HBD.out _) ?_)
    | (refine wpList_buildg rfl 38 _ rfl #[] (.agg (PC.Z128.map B8).toArray) (by simp) (HBG.out _) ?_)
    | (refine wpList_buildg rfl 41 _ rfl #[] (.agg (PC.rcL 0 PC.Z8 false).toArray) (by simp) (HBC.out _) ?_))
  refine Calls.mono (n_all ((HN2'.out).step H14.out)) ?_
  rintro e Y15 ⟨kb0, nb0, rfl, _, hbn⟩
  have H15 : Hid (Below Z2.heap.size Z2 Y15) := H14.out.trans (hbn.mono H14.out.size)
  clear hbn
  go_wp2_with (first
    | (refine PC.wpList_build rfl 36 _ rfl #[] (.agg (PC.rpL PC.Z32 0).toArray) (by simp) (HBP.out _) ?_)
    | (refine PC.wpList_build rfl 33 _ rfl #[] (.agg (PC.Z32.map B8).toArray) (by simp) (HBD.out _) ?_)
    | (refine wpList_buildg rfl 33 _ rfl #[] (.agg (PC.Z32.map B8).toArray) (by simp) (HBD.out _) ?_)
    | (refine wpList_buildg rfl 38 _ rfl #[] (.agg (PC.Z128.map B8).toArray) (by simp) (HBG.out _) ?_)
    | (refine wpList_buildg rfl 41 _ rfl #[] (.agg (PC.rcL 0 PC.Z8 false).toArray) (by simp) (HBC.out _) ?_))
  refine Calls.mono (n_all ((HN2'.out).step H15.out)) ?_
  rintro e Y16 ⟨kb, nb, rfl, hkc, hbn⟩
  have H16 : Hid (Below Z2.heap.size Z2 Y16) := H15.out.trans (hbn.mono H15.out.size)
  have HKC : Hid (Y16.cell? ⟨kb, 0, none⟩ = some (.slice none 0 0)) := hkc
  clear hbn hkc
  go_wp2
  refine R5.wp_rangeFunc_never (gf := 62) (lb := #[.pointer (some ⟨kb, 0, none⟩), .pointer (some ⟨nb, 0, none⟩)]) rfl (enters_of Tryz.func62 (by kernel_rfl) rfl) (fun y W hb => all1_empty y kb nb W ((hb.cell (block_lt HKC.out)).trans HKC.out)) ?_
  intro T hbT hltT hdT
  have H17 : Hid (Below Z2.heap.size Z2 T) := H16.out.trans (hbT.mono H16.out.size)
  obtain ⟨D3, hDD⟩ : ∃ D, D = Y16.heap.size := ⟨_, rfl⟩
  rw [← hDD] at hltT hdT ⊢
  have hlD3 : Z2.heap.size ≤ D3 := by rw [hDD]; exact H16.out.size
  have HDD : Hid (T.heap[D3]? = some (.deferred (some []))) := hdT
  have HLT : Hid (D3 < T.heap.size) := hltT
  clear hbT hdT HKC hDD hltT H0 H1 H4 H5 H6 H7 H8 H9 H10 H11 H12 H13 H14 H15 H16
  go_wp2_with fail
  refine Calls.mono (n_find ((HN2'.out).step H17.out) 1) ?_
  rintro e Z3 ⟨rfl, hbn⟩
  have HBZ3 : Hid (Below Z2.heap.size Z2 Z3) := H17.out.trans (hbn.mono H17.out.size)
  have HED3 : Hid (Z3.heap[D3]? = some (.deferred (some []))) := (hbn.block _ HLT.out).trans HDD.out
  have hltD3 : D3 < Z3.heap.size := by have := hbn.size; have := HLT.out; omega
  clear hbn H17 HDD HLT hci
  go_wp2
  rw [rounds_succ]
  have hsV3 := HBZ3.out.size
  have HB7 : Hid (Below V.heap.size V Z3) := HBV2.out.trans (HBZ3.out.mono HBV2.out.size)
  have HR7 : Hid (Z3.heap[w.heap.size]? = some (.cells #[.bool false] 4 (0, 0))) := (HB7.out.block _ hwV).trans HRV0.out
  have HKN : Hid (Calls Tryz.prog 8 #[] Z3 fun e w' => e = .returned (.bool true) ∧ Below Z3.heap.size Z3 w') := known_any Z3
  have HKN2 : Hid (∀ P, (∀ e w', e = .returned (.bool true) → Below Z3.heap.size Z3 w' → P e w') → Calls Tryz.prog 8 #[] Z3 P) := fun P hP => (known_any Z3).mono (fun e w' ⟨h1, h2⟩ => hP e w' h1 h2)
  clear HKN
  go_wp2_with fail
  refine HKN2.out _ ?_
  rintro e X8 rfl hb8
  have hr8 := (hb8.block _ (PC.row_lt HR7.out)).trans HR7.out
  have hc8 : X8.cell? ⟨w.heap.size, 0, none⟩ = some (.bool false) := by rw [cell_of_row _ _ 0 _ _ _ hr8]; rfl
  have hf8 := frozen_of_row _ _ 0 _ _ hr8
  have HB8 : Hid (Below w.heap.size w X8) := (HBV.out.trans (HB7.out.mono HBV.out.size)).trans (hb8.mono (by have := HB7.out.size; have := HBV.out.size; omega))
  have hs8 := hb8.size
  have HE1 : Hid (X8.heap[D1]? = some (.deferred (some []))) := (hb8.block _ (by omega)).trans ((HBZ3.out.block _ (by omega)).trans ((HBZ2.out.block _ hltD1).trans HED1.out))
  have HE2 : Hid (X8.heap[D2]? = some (.deferred (some []))) := (hb8.block _ (by omega)).trans ((HBZ3.out.block _ hltD2).trans HED2.out)
  have HE3 : Hid (X8.heap[D3]? = some (.deferred (some []))) := (hb8.block _ hltD3).trans HED3.out
  have HR8 : Hid _ := hr8
  clear hb8 hr8 HKN2
  go_wp2
  have hw8 : (X8.setCell ⟨w.heap.size, 0, none⟩ (.bool true)).heap[w.heap.size]? = some (.cells #[.bool true] 4 (0, 0)) := heap_setCell_same _ w.heap.size 0 _ _ _ HR8.out
  have hb9 : Below w.heap.size w (X8.setCell ⟨w.heap.size, 0, none⟩ (.bool true)) := HB8.out.setCell (p := ⟨w.heap.size, 0, none⟩) (Nat.le_refl _) _
  refine R5.marks_ret (v := .bool true) [D3, D2, D1] _ (fun D hD => ?_) (by simp; omega) (fun w' h1 h2 h3 h4 h5 => ⟨R5.results_bool Tryz.results6 _ _ w.heap.size true rfl ?_, rfl, ⟨h2.trans hb9.os, h3.trans hb9.tape, h4.trans hb9.output, by rw [h1]; exact hb9.size, fun k hk => (h5 k (by simp; omega)).trans (hb9.block k hk)⟩⟩)
  · have hDc : D = D3 ∨ D = D2 ∨ D = D1 := by simpa using hD
    rw [heap_setCell_other _ _ _ _ (show D ≠ w.heap.size by omega)]
    rcases hDc with rfl | rfl | rfl
    · exact HE3.out
    · exact HE2.out
    · exact HE1.out
  · rw [cell_of_row _ _ 0 _ _ _ ((h5 _ (by simp; omega)).trans hw8)]; rfl
end Go.Proofs.YtekbppfocnbhbaaGreat.realmNil
namespace Go.Proofs.YtekbppfocnbhbaaGreat.realmNil
open Go.ChangeShapes Go.WideShapes Go.ChangeAt Go.RowKit
theorem own : ownKnob Tryz.prog.godebug = none := by kernel_rfl
theorem laidOut : laidOutB Tryz.prog = true := by kernel_rfl
set_option maxRecDepth 100000 in
theorem lifted (os : Os) (started : os.Started) (H : Type) (enc : TypeId × Value → H) :
    ReturnsInHanded {} Tryz.checked os 6 .any (Rows.realmNilSpec.pre6 enc Tryz.prog Tryz.f6 Rows.realmNilRow.domain false) (Rows.realmNilSpec.post enc Tryz.prog Tryz.f6 false true false false) := by
  refine returnsInHanded_of_change (C := Tryz.checked) own started (by kernel_rfl) Tryz.func6
    (ChangeSpec.witness6 (enc := enc) (C := Tryz.checked) false ⟨#[], #[], []⟩ 8 (by kernel_rfl) (by kernel_rfl) (by kernel_rfl) (by kernel_rfl)) ?_
  intro W base args ds gs before hval0 hW hcnd _
  have hval : ∀ (j : Nat) t v, Tryz.f6.params[j]? = some t → args[j]? = some v → Value.okWide Tryz.prog W .any base t v := hval0
  have hW' := hW
  obtain ⟨p, q, hA0, hV, rfl, hfz, hnd⟩ := hW
  have hA : DataW.TrodAll enc Tryz.prog W 0 (fun _ => true) true Tryz.f6.params.toList args.toList ds p := hA0
  rw [Tryz.params6] at hA hval
  obtain ⟨hargs, rfl, rfl⟩ := trodAll_nil hA
  obtain rfl : args = #[] := by cases args; simp_all
  obtain ⟨rfl, rfl⟩ := trodVars_none hV
  clear hA0 hval0
  refine (walk  W ).mono fun e W' ⟨he, bel⟩ => ?_
  subst he
  exact ⟨_, rfl, _, _, _, [], _, [], hW', trodAll_mk1 (shut_bool Tryz.underlying4 _), trodAll_mk0, rfl, bel.frame _, fun h => by cases h⟩

theorem over : Rows.realmNilRow.holds Tryz.pinned (OpenSpec.ofChange Rows.realmNilSpec) :=
  OpenClaim.holds_of_wide 6 Tryz.f6 rfl rfl rfl rfl rfl rfl rfl ⟨rfl, rfl, rfl, rfl, rfl⟩ rfl rfl rfl rfl rfl (by kernel_rfl) Tryz.func6 (by kernel_rfl)
    (of_decide_eq_true (by kernel_rfl)) (by unfold Func.isWrapper; first | (rw [if_pos (by decide +kernel)]; kernel_rfl) | (rw [if_neg (by decide +kernel)]; exact ⟨rfl, rfl⟩))
    (fun os started H enc _ => lifted os started H enc)

end Go.Proofs.YtekbppfocnbhbaaGreat.realmNil
namespace Go.Proofs.YtekbppfocnbhbaaGreat
theorem realmNil_holds : Rows.RealmNilSaid := realmNil.over
#print axioms realmNil_holds
end Go.Proofs.YtekbppfocnbhbaaGreat
