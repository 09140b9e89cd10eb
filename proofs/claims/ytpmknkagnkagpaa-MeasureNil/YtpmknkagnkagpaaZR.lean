/- MeasureNil: the statement's function (a closed sentence) answers true. No condition. -/
import Derived.Test.YtpmknkagnkagpaaZQ
import Derived.Test.YtpmknkagnkagpaaRows
import Derived.WalkKit
import Derived.ChangeOld
import Derived.ProofKit
import Derived.OpenShut
import Derived.Carry
set_option linter.unusedVariables false
set_option linter.unusedSimpArgs false
namespace Go.Proofs.Ytpmknkagnkagpaa.ZC
open Go.RowKit

theorem build_g {ops : Array Oper} {rest : List Oper} {o : Oper} {a : Act} {Q : Exit → Act → World → Prop} {w : World} (hw : Region.wanted o (yielded ops a.tmps) = true) (t : TypeId) (parts : Array (Nat × Operand)) (ho : o.op = .build t parts) (vals : Array (Nat × Value)) (v : Value) (hp : (parts.map fun (i, x) => (i, a.eval x)) = vals)
    (hr : (Instr.build t vals).run Try.prog w = .ok v w) (h : wpList Try.prog ops Q rest (a.put o.dst v) w) : wpList Try.prog ops Q (o :: rest) a w := by
  refine wpList_step fun K hK => ?_
  rw [if_pos hw]
  unfold Oper.wp
  rw [PC.exec_build a.eval o t parts vals v w ho hp hr]
  exact hK _ _ h
def r4 : Rd := ⟨4, PC.Z32, 0, PC.Z128, 0, PC.Z8, false⟩
theorem r4_ok : r4.ok := ⟨PC.z32_len, PC.z128_len, PC.z8_len, by show (0 : Nat) < _; decide, z8_lt⟩
theorem r4_may : mayD r4 = false := by kernel_rfl
theorem r4_b (w : World) : (Instr.build 68 #[(0, .int .i64 4)]).run Try.prog w = .ok (.agg (rdL r4).toArray) w := by kernel_rfl
def r1p : Rd := ⟨1, PC.Z32, 1, PC.Z128, 0, PC.Z8, false⟩
theorem r1p_ok : r1p.ok := ⟨PC.z32_len, PC.z128_len, PC.z8_len, by show (0 : Nat) < _; decide, z8_lt⟩
theorem r1p_may : mayD r1p = false := by kernel_rfl
theorem r1p_b (w : World) : (Instr.build 68 #[(0, .int .i64 1), (2, .int .i64 1)]).run Try.prog w = .ok (.agg (rdL r1p).toArray) w := by kernel_rfl
def r2p : Rd := ⟨2, PC.Z32, 128, PC.Z128, 0, PC.Z8, false⟩
theorem r2p_ok : r2p.ok := ⟨PC.z32_len, PC.z128_len, PC.z8_len, by show (0 : Nat) < _; decide, z8_lt⟩
theorem r2p_may : mayD r2p = false := by kernel_rfl
theorem r2p_b (w : World) : (Instr.build 68 #[(0, .int .i64 2), (2, .int .i64 128)]).run Try.prog w = .ok (.agg (rdL r2p).toArray) w := by kernel_rfl
def r2v : Rd := ⟨2, kD1, 0, PC.Z128, 0, PC.Z8, false⟩
theorem r2v_ok : r2v.ok := ⟨kD1_len, PC.z128_len, PC.z8_len, by show (0 : Nat) < _; decide, z8_lt⟩
theorem r2v_may : mayD r2v = false := by kernel_rfl
theorem r2v_b (w : World) : (Instr.build 68 #[(0, .int .i64 2), (1, .agg (kD1.map B8).toArray)]).run Try.prog w = .ok (.agg (rdL r2v).toArray) w := by kernel_rfl
def r3p : Rd := ⟨3, PC.Z32, 0, PC.Z128, 4, PC.Z8, false⟩
theorem r3p_ok : r3p.ok := ⟨PC.z32_len, PC.z128_len, PC.z8_len, by show (4 : Nat) < _; decide, z8_lt⟩
theorem r3p_may : mayD r3p = false := by kernel_rfl
theorem r3p_b (w : World) : (Instr.build 68 #[(0, .int .i64 3), (4, .agg (PC.rcL 4 PC.Z8 false).toArray)]).run Try.prog w = .ok (.agg (rdL r3p).toArray) w := by kernel_rfl
theorem zD_may : mayD zD = false := by kernel_rfl
theorem rc4_b (w : World) : (Instr.build 32 #[(0, .int .u64 4)]).run Try.prog w = .ok (.agg (PC.rcL 4 PC.Z8 false).toArray) w := by kernel_rfl
def zO : List Value := .bool false :: (Z0.map B8 ++ [.slice none 0 0, .slice none 0 0, .map none])
theorem zO_b (w : World) : (Instr.build 64 #[]).run Try.prog w = .ok (.agg zO.toArray) w := by kernel_rfl
theorem none_at (g : Nat) (w X : World) (hg : w.heap[g]? = some (.cells zO.toArray 64 (0, 0))) (hb : Below w.heap.size w X) : Calls Try.prog 36 #[.pointer (some ⟨g, 0, none⟩)] X fun e w' => e = .returned (.bool true) ∧ w' = X :=
  R5.none_zero g X (by rw [cell_of_row _ _ 35 _ _ _ ((hb.block _ (PC.row_lt hg)).trans hg)]; rfl)
section
variable (w : World)
theorem begin_nil (V : List UInt8) (n : Nat) (hV : V.length = 32) : Calls Try.prog 8 #[.pointer none, .agg (PC.rpL V n).toArray] w fun e w' => e = .returned (R5.errV 1) ∧ Below w.heap.size w w' :=
  (begin_gen _ V n w _ hV (mc_nil z0_len (rec1_ok hV) (fun X _ => R5.none_nil X))).mono fun e Y h => gend_err h
theorem data_nil (m : List UInt8) (pg : Int) (g : List UInt8) (hm : m.length = 32) (hg : g.length = 128) : Calls Try.prog 11 #[.pointer none, .agg (m.map B8).toArray, .int .i64 pg, .agg (g.map B8).toArray] w fun e w' => e = .returned (R5.errV 1) ∧ Below w.heap.size w w' :=
  (data_gen _ m pg g w _ hm hg (mc_nil hm (rec2_ok pg hg) (fun X _ => R5.none_nil X))).mono fun e Y h => gend_err h
theorem rec_zero (g : Nat) (m : List UInt8) (pc : Nat) (rs : List Nat) (run : Bool) (hm : m.length = 32) (hs : rs.length = 8) (hp : pc < 18446744073709551616) (hx : ∀ x ∈ rs, x < 18446744073709551616) (hg : w.heap[g]? = some (.cells zO.toArray 64 (0, 0))) : Calls Try.prog 14 #[.pointer (some ⟨g, 0, none⟩), .agg (m.map B8).toArray, .agg (PC.rcL pc rs run).toArray] w fun e w' => e = .returned (R5.errV 1) ∧ Below w.heap.size w w' :=
  (rec_gen _ m pc rs run w _ hm hs hp hx (mc_nil hm (rec3_ok run hs hp hx) (fun X hX => none_at g w X hg hX))).mono fun e Y h => gend_err h
theorem next_nil (m : List UInt8) (r : Rd) (hm : m.length = 32) (hr : r.ok) : Calls Try.prog 23 #[.pointer none, .agg (m.map B8).toArray, .agg (rdL r).toArray] w fun e w' => e = .returned (R5.errV 1) ∧ Below w.heap.size w w' := by
  by_cases hk : r.kind = 1
  · exact (next_genN _ m r w _ hm hr hk (fun X _ => R5.none_nil X) (mc_nil hm hr (fun X _ => R5.none_nil X))).mono fun e Y h => gend_err h
  · exact (next_gen _ m r w _ hm hr hk (mc_nil hm hr (fun X _ => R5.none_nil X))).mono fun e Y h => gend_err h
end
set_option maxHeartbeats 1000000 in
set_option maxRecDepth 100000 in
theorem nil_walk (w : World) : Calls Try.prog 5 #[] w fun e w' => e = .returned (.bool true) ∧ Below w.heap.size w w' := by
  have hz := fun W => R5.zero_dig W
  obtain ⟨ZL, hZL⟩ : ∃ L, L = Z0.map B8 := ⟨_, rfl⟩
  have hZL' : ZL = (List.replicate 32 (0 : UInt8)).map B8 := hZL
  rw [← hZL'] at hz
  have HZS : Hid (ZL.toArray.size = 32) := by show _ = _; rw [hZL']; simp
  have HZ1 : Hid (ZL.toArray.all (·.oneCell') = true) := by show _ = _; rw [hZL]; exact R5.B8_onea _
  have HBD : Hid (∀ W : World, (Instr.build 24 #[]).run Try.prog W = .ok (.agg ZL.toArray) W) := fun W => by rw [hZL']; exact R5.build_dig W
  have HBP : Hid (∀ W : World, (Instr.build 29 #[]).run Try.prog W = .ok (.agg (PC.rpL PC.Z32 0).toArray) W) := PC.build_rp
  have HBG : Hid (∀ W : World, (Instr.build 26 #[]).run Try.prog W = .ok (.agg (PC.Z128.map B8).toArray) W) := PC.build_gr
  have HBO : Hid (∀ W : World, (Instr.build 64 #[]).run Try.prog W = .ok (.agg zO.toArray) W) := zO_b
  have HBC : Hid (∀ W : World, (Instr.build 32 #[(0, .int .u64 4)]).run Try.prog W = .ok (.agg (PC.rcL 4 PC.Z8 false).toArray) W) := rc4_b
  have HBZ : Hid (∀ W : World, (Instr.build 68 #[]).run Try.prog W = .ok (.agg (rdL zD).toArray) W) := build_zrd
  have HB4 : Hid (∀ W : World, (Instr.build 68 #[(0, .int .i64 4)]).run Try.prog W = .ok (.agg (rdL r4).toArray) W) := r4_b
  have HB1P : Hid (∀ W : World, (Instr.build 68 #[(0, .int .i64 1), (2, .int .i64 1)]).run Try.prog W = .ok (.agg (rdL r1p).toArray) W) := r1p_b
  have HB2V : Hid (∀ W : World, (Instr.build 68 #[(0, .int .i64 2), (1, .agg (kD1.map B8).toArray)]).run Try.prog W = .ok (.agg (rdL r2v).toArray) W) := r2v_b
  have HB2P : Hid (∀ W : World, (Instr.build 68 #[(0, .int .i64 2), (2, .int .i64 128)]).run Try.prog W = .ok (.agg (rdL r2p).toArray) W) := r2p_b
  have HB3P : Hid (∀ W : World, (Instr.build 68 #[(0, .int .i64 3), (4, .agg (PC.rcL 4 PC.Z8 false).toArray)]).run Try.prog W = .ok (.agg (rdL r3p).toArray) W) := r3p_b
  have HCB : Hid (∀ W : World, Calls Try.prog 8 #[.pointer none, .agg (PC.rpL PC.Z32 0).toArray] W fun e w' => e = .returned (.tuple #[.agg ZL.toArray, .int .i64 1]) ∧ Below W.heap.size W w') := fun W => by rw [hZL]; exact begin_nil W PC.Z32 0 PC.z32_len
  have HCD : Hid (∀ W : World, Calls Try.prog 11 #[.pointer none, .agg ZL.toArray, .int .i64 500, .agg (PC.Z128.map B8).toArray] W fun e w' => e = .returned (.tuple #[.agg ZL.toArray, .int .i64 1]) ∧ Below W.heap.size W w') := fun W => by rw [hZL]; exact data_nil W Z0 500 PC.Z128 z0_len PC.z128_len
  have HCR : Hid (∀ W : World, Calls Try.prog 14 #[.pointer (some ⟨W.heap.size, 0, none⟩), .agg ZL.toArray, .agg (PC.rcL 4 PC.Z8 false).toArray] (W.alloc (.cells zO.toArray 64 (0, 0))) fun e w' => e = .returned (.tuple #[.agg ZL.toArray, .int .i64 1]) ∧ Below (W.alloc (.cells zO.toArray 64 (0, 0))).heap.size (W.alloc (.cells zO.toArray 64 (0, 0))) w') := fun W => by rw [hZL]; exact rec_zero _ W.heap.size Z0 4 PC.Z8 false z0_len PC.z8_len (by decide) z8_lt (heap_alloc_new _ _)
  have HCN : Hid (∀ W : World, Calls Try.prog 23 #[.pointer none, .agg ZL.toArray, .agg (rdL zD).toArray] W fun e w' => e = .returned (.tuple #[.agg ZL.toArray, .int .i64 1]) ∧ Below W.heap.size W w') := fun W => by rw [hZL]; exact next_nil W Z0 zD z0_len zD_ok
  have HCP : Hid (∀ W : World, Calls Try.prog 21 #[.pointer none, .slice none 0 0] W fun e w' => e = .returned (.tuple #[.agg ZL.toArray, .int .i64 1]) ∧ Below W.heap.size W w') := fun W => by rw [hZL]; exact replay_nil _ _ W (fun X _ => R5.none_nil X)
  have HM0 : Hid (∀ W : World, Calls Try.prog 24 #[.agg (rdL zD).toArray] W fun e w' => e = .returned (.bool false) ∧ Below W.heap.size W w') := fun W => by have := may_any zD W zD_ok; rw [zD_may] at this; exact this
  have HM4 : Hid (∀ W : World, Calls Try.prog 24 #[.agg (rdL r4).toArray] W fun e w' => e = .returned (.bool false) ∧ Below W.heap.size W w') := fun W => by have := may_any r4 W r4_ok; rw [r4_may] at this; exact this
  have HM1P : Hid (∀ W : World, Calls Try.prog 24 #[.agg (rdL r1p).toArray] W fun e w' => e = .returned (.bool false) ∧ Below W.heap.size W w') := fun W => by have := may_any r1p W r1p_ok; rw [r1p_may] at this; exact this
  have HM2V : Hid (∀ W : World, Calls Try.prog 24 #[.agg (rdL r2v).toArray] W fun e w' => e = .returned (.bool false) ∧ Below W.heap.size W w') := fun W => by have := may_any r2v W r2v_ok; rw [r2v_may] at this; exact this
  have HM2P : Hid (∀ W : World, Calls Try.prog 24 #[.agg (rdL r2p).toArray] W fun e w' => e = .returned (.bool false) ∧ Below W.heap.size W w') := fun W => by have := may_any r2p W r2p_ok; rw [r2p_may] at this; exact this
  have HM3P : Hid (∀ W : World, Calls Try.prog 24 #[.agg (rdL r3p).toArray] W fun e w' => e = .returned (.bool false) ∧ Below W.heap.size W w') := fun W => by have := may_any r3p W r3p_ok; rw [r3p_may] at this; exact this
  have HMA : Hid (∀ W : World, Calls Try.prog 26 #[.slice none 0 0] W fun e w' => e = .returned (.bool false) ∧ Below W.heap.size W w') := fun W => mayall_any _ [] W (hr_nil W) (by simp)
  have HD1 : Hid (∀ W : World, Calls Try.prog 25 #[.int .u8 1] W fun e w' => e = .returned (.agg (kD1.map B8).toArray) ∧ Below W.heap.size W w') := draw1_any
  have HKN : Hid (∀ W : World, Calls Try.prog 6 #[] W fun e w' => e = .returned (.bool true) ∧ Below W.heap.size W w') := known_any
  have HB : Hid (Below w.heap.size w w) := Below.refl _ _
  clear hZL hZL'
  generalize kD1.map B8 = D1 at *
  generalize PC.Z128.map B8 = GZ at *
  generalize PC.rpL PC.Z32 0 = RP at *
  generalize PC.rcL 4 PC.Z8 false = RC at *
  generalize zO = ZO at *
  generalize rdL zD = RZ at *
  generalize rdL r4 = R4 at *
  generalize rdL r1p = R1P at *
  generalize rdL r2v = R2V at *
  generalize rdL r2p = R2P at *
  generalize rdL r3p = R3P at *
  go_enter Try.func5, Try.ntmps5
  go_wp2_with (first | (refine PC.wpList_build rfl 29 _ rfl #[] (.agg RP.toArray) (by simp) (HBP.out _) ?_) | (go_at_call 8; fail))
  refine Calls.mono (HCB.out _) ?_
  rintro e X1 ⟨rfl, hb⟩
  have hb' : Below w.heap.size w ((X1.alloc (.cells ZL.toArray 24 (0, 0))).setRow X1.heap.size ZL.toArray) := below_setRow ((HB.out.trans (hb.mono HB.out.size)).alloc (by have := HB.out.size; have := hb.size; omega) _) (by have := HB.out.size; have := hb.size; omega) _
  have HZA : Hid ((X1.alloc (.cells ZL.toArray 24 (0, 0))).heap[X1.heap.size]? = some (.cells ZL.toArray 24 (0, 0))) := heap_alloc_new _ _
  clear HB hb
  have HB : Hid (Below w.heap.size w ((X1.alloc (.cells ZL.toArray 24 (0, 0))).setRow X1.heap.size ZL.toArray)) := hb'
  clear hb'
  go_wp2_with (first
    | (refine wpList_store_row rfl 24 _ _ rfl X1.heap.size ZL.toArray rfl rfl 24 ZL.toArray HZA.out (R5.info32a _ HZS.out) rfl HZ1.out ?_)
    | (refine PC.wpList_build rfl 24 _ rfl #[] (.agg ZL.toArray) (by simp) (HBD.out _) ?_)
    | (refine PC.wpList_build rfl 26 _ rfl #[] (.agg GZ.toArray) (by simp) (HBG.out _) ?_)
    | (go_at_call 11; fail))
  refine Calls.mono (HCD.out _) ?_
  clear HZA
  rintro e X2 ⟨rfl, hb⟩
  have hb' : Below w.heap.size w ((X2.alloc (.cells ZL.toArray 24 (0, 0))).setRow X2.heap.size ZL.toArray) := below_setRow ((HB.out.trans (hb.mono HB.out.size)).alloc (by have := HB.out.size; have := hb.size; omega) _) (by have := HB.out.size; have := hb.size; omega) _
  have HZA : Hid ((X2.alloc (.cells ZL.toArray 24 (0, 0))).heap[X2.heap.size]? = some (.cells ZL.toArray 24 (0, 0))) := heap_alloc_new _ _
  clear HB hb
  have HB : Hid (Below w.heap.size w ((X2.alloc (.cells ZL.toArray 24 (0, 0))).setRow X2.heap.size ZL.toArray)) := hb'
  clear hb'
  generalize X1.heap.size = n1 at *
  obtain ⟨X3, hX3⟩ : ∃ X, X = (X2.alloc (.cells ZL.toArray 24 (0, 0))).setRow X2.heap.size ZL.toArray := ⟨_, rfl⟩
  have HX3 : Hid (X3 = (X2.alloc (.cells ZL.toArray 24 (0, 0))).setRow X2.heap.size ZL.toArray) := hX3
  rw [← hX3] at HB
  clear hX3
  go_wp2_with (first
    | (refine wpList_store_row rfl 24 _ _ rfl X2.heap.size ZL.toArray rfl rfl 24 ZL.toArray HZA.out (R5.info32a _ HZS.out) rfl HZ1.out ?_; rw [← HX3.out])
    | (refine PC.wpList_build rfl 24 _ rfl #[] (.agg ZL.toArray) (by simp) (HBD.out _) ?_)
    | (refine PC.wpList_build rfl 64 _ rfl #[] (.agg ZO.toArray) (by simp) (HBO.out _) ?_)
    | (refine PC.wpList_build rfl 32 _ rfl #[(0, .int .u64 4)] (.agg RC.toArray) (by simp; first | done | rfl) (HBC.out _) ?_)
    | (go_at_call 14; fail))
  refine Calls.mono (HCR.out X3) ?_
  have hbo : Below w.heap.size w (X3.alloc (.cells ZO.toArray 64 (0, 0))) := HB.out.alloc HB.out.size _
  clear HZA HB HX3
  have HB : Hid (Below w.heap.size w (X3.alloc (.cells ZO.toArray 64 (0, 0)))) := hbo
  clear hbo
  rintro e X4 ⟨rfl, hb⟩
  have hb' : Below w.heap.size w ((X4.alloc (.cells ZL.toArray 24 (0, 0))).setRow X4.heap.size ZL.toArray) := below_setRow ((HB.out.trans (hb.mono HB.out.size)).alloc (by have := HB.out.size; have := hb.size; omega) _) (by have := HB.out.size; have := hb.size; omega) _
  have HZA : Hid ((X4.alloc (.cells ZL.toArray 24 (0, 0))).heap[X4.heap.size]? = some (.cells ZL.toArray 24 (0, 0))) := heap_alloc_new _ _
  clear HB hb
  have HB : Hid (Below w.heap.size w ((X4.alloc (.cells ZL.toArray 24 (0, 0))).setRow X4.heap.size ZL.toArray)) := hb'
  clear hb'
  go_wp2_with (first
    | (refine wpList_store_row rfl 24 _ _ rfl X4.heap.size ZL.toArray rfl rfl 24 ZL.toArray HZA.out (R5.info32a _ HZS.out) rfl HZ1.out ?_)
    | (refine PC.wpList_build rfl 24 _ rfl #[] (.agg ZL.toArray) (by simp) (HBD.out _) ?_)
    | (refine PC.wpList_build rfl 68 _ rfl #[] (.agg RZ.toArray) (by simp) (HBZ.out _) ?_)
    | (go_at_call 23; fail))
  refine Calls.mono (HCN.out _) ?_
  clear HZA
  rintro e X5 ⟨rfl, hb⟩
  have hb' : Below w.heap.size w ((X5.alloc (.cells ZL.toArray 24 (0, 0))).setRow X5.heap.size ZL.toArray) := below_setRow ((HB.out.trans (hb.mono HB.out.size)).alloc (by have := HB.out.size; have := hb.size; omega) _) (by have := HB.out.size; have := hb.size; omega) _
  have HZA : Hid ((X5.alloc (.cells ZL.toArray 24 (0, 0))).heap[X5.heap.size]? = some (.cells ZL.toArray 24 (0, 0))) := heap_alloc_new _ _
  clear HB hb
  have HB : Hid (Below w.heap.size w ((X5.alloc (.cells ZL.toArray 24 (0, 0))).setRow X5.heap.size ZL.toArray)) := hb'
  clear hb'
  go_wp2_with (refine wpList_store_row rfl 24 _ _ rfl X5.heap.size ZL.toArray rfl rfl 24 ZL.toArray HZA.out (R5.info32a _ HZS.out) rfl HZ1.out ?_)
  refine Calls.mono (HCP.out _) ?_
  clear HZA
  rintro e X6 ⟨rfl, hb⟩
  have hb' : Below w.heap.size w ((X6.alloc (.cells ZL.toArray 24 (0, 0))).setRow X6.heap.size ZL.toArray) := below_setRow ((HB.out.trans (hb.mono HB.out.size)).alloc (by have := HB.out.size; have := hb.size; omega) _) (by have := HB.out.size; have := hb.size; omega) _
  have HZA : Hid ((X6.alloc (.cells ZL.toArray 24 (0, 0))).heap[X6.heap.size]? = some (.cells ZL.toArray 24 (0, 0))) := heap_alloc_new _ _
  clear HB hb
  have HB : Hid (Below w.heap.size w ((X6.alloc (.cells ZL.toArray 24 (0, 0))).setRow X6.heap.size ZL.toArray)) := hb'
  clear hb'
  go_wp2_with (first
    | (refine wpList_store_row rfl 24 _ _ rfl X6.heap.size ZL.toArray rfl rfl 24 ZL.toArray HZA.out (R5.info32a _ HZS.out) rfl HZ1.out ?_)
    | (refine build_g (by rfl) 68 _ rfl #[] (.agg RZ.toArray) (by simp) (HBZ.out _) ?_)
    | (go_at_call 24; fail))
  refine Calls.mono (HM0.out _) ?_
  rintro e X7 ⟨rfl, hb⟩
  have hb' : Below w.heap.size w X7 := HB.out.trans (hb.mono HB.out.size)
  clear HB hb
  have HB : Hid (Below w.heap.size w X7) := hb'
  clear hb'
  clear HZA
  go_wp2_with (first | (refine build_g (by rfl) 68 _ rfl #[(0, .int .i64 4)] (.agg R4.toArray) (by simp; first | done | rfl) (HB4.out _) ?_) | (go_at_call 24; fail))
  refine Calls.mono (HM4.out _) ?_
  rintro e X8 ⟨rfl, hb⟩
  have hb' : Below w.heap.size w X8 := HB.out.trans (hb.mono HB.out.size)
  clear HB hb
  have HB : Hid (Below w.heap.size w X8) := hb'
  clear hb'
  go_wp2_with (first | (refine build_g (by rfl) 68 _ rfl #[(0, .int .i64 1), (2, .int .i64 1)] (.agg R1P.toArray) (by simp; first | done | rfl | exact ⟨rfl, rfl⟩) (HB1P.out _) ?_) | (go_at_call 24; fail))
  refine Calls.mono (HM1P.out _) ?_
  rintro e X9 ⟨rfl, hb⟩
  have hb' : Below w.heap.size w X9 := HB.out.trans (hb.mono HB.out.size)
  clear HB hb
  have HB : Hid (Below w.heap.size w X9) := hb'
  clear hb'
  go_wp2_with fail
  refine Calls.mono (HD1.out _) ?_
  rintro e Y1 ⟨rfl, hb⟩
  have hb' : Below w.heap.size w Y1 := HB.out.trans (hb.mono HB.out.size)
  clear HB hb
  have HB : Hid (Below w.heap.size w Y1) := hb'
  clear hb'
  go_wp2_with (first | (refine build_g (by rfl) 68 _ rfl #[(0, .int .i64 2), (1, .agg D1.toArray)] (.agg R2V.toArray) (by simp; first | done | rfl | exact ⟨rfl, rfl⟩) (HB2V.out _) ?_) | (go_at_call 24; fail))
  refine Calls.mono (HM2V.out _) ?_
  rintro e Y2 ⟨rfl, hb⟩
  have hb' : Below w.heap.size w Y2 := HB.out.trans (hb.mono HB.out.size)
  clear HB hb
  have HB : Hid (Below w.heap.size w Y2) := hb'
  clear hb'
  go_wp2_with (first | (refine build_g (by rfl) 68 _ rfl #[(0, .int .i64 2), (2, .int .i64 128)] (.agg R2P.toArray) (by simp; first | done | rfl | exact ⟨rfl, rfl⟩) (HB2P.out _) ?_) | (go_at_call 24; fail))
  refine Calls.mono (HM2P.out _) ?_
  rintro e Y3 ⟨rfl, hb⟩
  have hb' : Below w.heap.size w Y3 := HB.out.trans (hb.mono HB.out.size)
  clear HB hb
  have HB : Hid (Below w.heap.size w Y3) := hb'
  clear hb'
  go_wp2_with (first
    | (refine build_g (by rfl) 32 _ rfl #[(0, .int .u64 4)] (.agg RC.toArray) (by simp; first | done | rfl) (HBC.out _) ?_)
    | (refine build_g (by rfl) 68 _ rfl #[(0, .int .i64 3), (4, .agg RC.toArray)] (.agg R3P.toArray) (by simp; first | done | rfl | exact ⟨rfl, rfl⟩) (HB3P.out _) ?_)
    | (go_at_call 24; fail))
  refine Calls.mono (HM3P.out _) ?_
  rintro e Y4 ⟨rfl, hb⟩
  have hb' : Below w.heap.size w Y4 := HB.out.trans (hb.mono HB.out.size)
  clear HB hb
  have HB : Hid (Below w.heap.size w Y4) := hb'
  clear hb'
  go_wp2_with fail
  refine Calls.mono (HMA.out _) ?_
  rintro e Y5 ⟨rfl, hb⟩
  have hb' : Below w.heap.size w Y5 := HB.out.trans (hb.mono HB.out.size)
  clear HB hb
  have HB : Hid (Below w.heap.size w Y5) := hb'
  clear hb'
  have HNU : Hid (∀ W : World, Calls Try.prog 9 #[.int .i64 1] W fun x w' => x = .returned (.int .i64 1) ∧ W = w') := fun W => num_any 1 W
  go_wp2_with (first | (go_at_call 9; refine Calls.mono (HNU.out _) ?_; rintro e w' ⟨rfl, rfl⟩) | (go_at_call 6; fail))
  refine Calls.mono (HKN.out _) ?_
  rintro e Y6 ⟨rfl, hb⟩
  have hb' : Below w.heap.size w Y6 := HB.out.trans (hb.mono HB.out.size)
  clear HB hb
  have HB : Hid (Below w.heap.size w Y6) := hb'
  clear hb'
  go_wp2
  go_ret
  exact ⟨rfl, HB.out⟩
end Go.Proofs.Ytpmknkagnkagpaa.ZC
namespace Go.Proofs.Ytpmknkagnkagpaa.measureNil
open Go.ChangeShapes Go.WideShapes Go.ChangeAt Go.RowKit
theorem own : ownKnob Try.prog.godebug = none := by kernel_rfl
theorem laidOut : laidOutB Try.prog = true := by kernel_rfl
theorem walk (w : World) : Calls Try.prog 5 #[] w fun e w' => e = .returned (.bool true) ∧ Below w.heap.size w w' := ZC.nil_walk w
set_option maxRecDepth 100000 in
theorem lifted (os : Os) (started : os.Started) (H : Type) (enc : TypeId × Value → H) :
    ReturnsInHanded {} Try.checked os 5 .any (Rows.measureNilSpec.pre6 enc Try.prog Try.f5 Rows.measureNilRow.domain false) (Rows.measureNilSpec.post enc Try.prog Try.f5 false true false false) := by
  refine returnsInHanded_of_change (C := Try.checked) own started (by kernel_rfl) Try.func5
    (ChangeSpec.witness6 (enc := enc) (C := Try.checked) false ⟨#[], #[], []⟩ 8 (by kernel_rfl) (by kernel_rfl) (by kernel_rfl) (by kernel_rfl)) ?_
  intro W base args ds gs before hval0 hW hcnd _
  have hval : ∀ (j : Nat) t v, Try.f5.params[j]? = some t → args[j]? = some v → Value.okWide Try.prog W .any base t v := hval0
  have hW' := hW
  obtain ⟨p, q, hA0, hV, rfl, hfz, hnd⟩ := hW
  have hA : DataW.TrodAll enc Try.prog W 0 (fun _ => true) true Try.f5.params.toList args.toList ds p := hA0
  rw [Try.params5] at hA hval
  obtain ⟨hargs, rfl, rfl⟩ := trodAll_nil hA
  obtain rfl : args = #[] := by cases args; simp_all
  obtain ⟨rfl, rfl⟩ := trodVars_none hV
  clear hA0 hval0
  refine (walk  W ).mono fun e W' ⟨he, bel⟩ => ?_
  subst he
  exact ⟨_, rfl, _, _, _, [], _, [], hW', trodAll_mk1 (shut_bool Try.underlying4 _), trodAll_mk0, rfl, bel.frame _, fun h => by cases h⟩

theorem over : Rows.measureNilRow.holds Try.pinned (OpenSpec.ofChange Rows.measureNilSpec) :=
  OpenClaim.holds_of_wide 5 Try.f5 rfl rfl rfl rfl rfl rfl rfl ⟨rfl, rfl, rfl, rfl, rfl⟩ rfl rfl rfl rfl rfl (by kernel_rfl) Try.func5 (by kernel_rfl)
    (of_decide_eq_true (by kernel_rfl)) (by unfold Func.isWrapper; first | (rw [if_pos (by decide +kernel)]; kernel_rfl) | (rw [if_neg (by decide +kernel)]; exact ⟨rfl, rfl⟩))
    (fun os started H enc _ => lifted os started H enc)

end Go.Proofs.Ytpmknkagnkagpaa.measureNil
namespace Go.Proofs.Ytpmknkagnkagpaa
theorem measureNil_holds : Rows.MeasureNilSaid := measureNil.over
#print axioms measureNil_holds
end Go.Proofs.Ytpmknkagnkagpaa
