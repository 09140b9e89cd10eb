/- rec: what the statements know. -/
import Derived.Test.YtpdafjamhccbnaaCE
set_option linter.unusedVariables false
set_option linter.unusedSimpArgs false
namespace Go.Proofs.Ytpdafjamhccbnaa.VC
open Go.RowKit

def K1 : Rc := ⟨1, 1, Z8, 0, false, 0⟩
def K2 : Rc := ⟨1, 1, Z8, 0, true, 0⟩
def K3 : Rc := ⟨1, 1, Z8, 0, true, 1⟩
def K4 : Rc := ⟨1, 1, [1, 2, 3, 4, 0, 0, 0, 0], 0, true, 0⟩
def ko : Ot := ⟨2, [7, 0, 0, 0], 0, false, 0⟩
theorem eq_regsK (w : World) : (Op.equalIn 10000 23 (.agg (([1, 2, 3, 4, 0, 0, 0, 0] : List Int).map U).toArray) (.agg (([1, 2, 3, 4, 0, 0, 0, 0] : List Int).map U).toArray)).run Try.prog w = .ok true w := eq_regs w 9997 _ rfl
set_option maxHeartbeats 2000000 in
set_option maxRecDepth 100000 in
theorem known_any (w : World) : Calls Try.prog 10 #[] w fun e w' => e = .returned (.bool true) ∧ Below w.heap.size w w' := by
  have hz := zero13
  obtain ⟨ZL, hZL⟩ : ∃ L, L = rL r0 := ⟨_, rfl⟩
  have HZN : Hid (ZL.length = 13) := by rw [hZL]; rfl
  rw [← hZL] at hz
  clear hZL
  have HP1 : Hid (∀ W, (Instr.build 61 #[]).run Try.prog W = .ok (.agg (pL 0 Z8 false).toArray) W) := fun W => by kernel_rfl
  have HP2 : Hid (∀ W, (Instr.build 61 #[(2, .bool true)]).run Try.prog W = .ok (.agg (pL 0 Z8 true).toArray) W) := fun W => by kernel_rfl
  have HC0 : Hid (∀ W, (Instr.build 25 #[]).run Try.prog W = .ok (.agg (cL Z8 0).toArray) W) := fun W => by kernel_rfl
  have HA7 : Hid (∀ W, (Instr.build 29 #[(0, .int .u64 7)]).run Try.prog W = .ok (.agg (ko.ns.map U).toArray) W) := fun W => by kernel_rfl
  have HKO : Hid (∀ W, (Instr.build 40 #[(0, .int .i64 2), (1, .agg (ko.ns.map U).toArray)]).run Try.prog W = .ok (.agg (oL ko).toArray) W) := fun W => by kernel_rfl
  have HA4 : Hid (∀ W, (Instr.build 29 #[(0, .int .u64 1), (1, .int .u64 2), (2, .int .u64 3), (3, .int .u64 4)]).run Try.prog W = .ok (.agg (([1, 2, 3, 4] : List Int).map U).toArray) W) := fun W => by kernel_rfl
  have HIN : Hid (∀ W, (Instr.build 31 #[(0, .agg (([1, 2, 3, 4] : List Int).map U).toArray)]).run Try.prog W = .ok (.agg (([1, 2, 3, 4] : List Int).map U).toArray) W) := fun W => by kernel_rfl
  have HA8 : Hid (∀ W, (Instr.build 23 #[(0, .int .u64 1), (1, .int .u64 2), (2, .int .u64 3), (3, .int .u64 4)]).run Try.prog W = .ok (.agg (([1, 2, 3, 4, 0, 0, 0, 0] : List Int).map U).toArray) W) := fun W => by kernel_rfl
  have hN1 := fun W => new_any 1 1 0 Z8 false rfl W
  have hN2 := fun W => new_any 1 1 0 Z8 true rfl W
  have hM1 : ∀ W, Calls Try.prog 9 #[.agg (rL K1).toArray] W fun e w' => e = .returned (.int .i64 7) ∧ Below W.heap.size W w' := fun W => may_any K1 rfl W
  have hM2 : ∀ W, Calls Try.prog 9 #[.agg (rL K2).toArray] W fun e w' => e = .returned (.int .i64 0) ∧ Below W.heap.size W w' := fun W => may_any K2 rfl W
  have hLv : ∀ W, Calls Try.prog 11 #[.agg (rL K2).toArray, .agg (cL Z8 0).toArray, .agg (oL ko).toArray] W fun e w' => e = .returned (.tuple #[.agg (rL K3).toArray, .int .i64 0]) ∧ Below W.heap.size W w' := fun W => leave_any K2 Z8 0 ko rfl rfl rfl (by decide) W
  have hEn : ∀ W, Calls Try.prog 8 #[.agg (rL K3).toArray, .agg (([1, 2, 3, 4] : List Int).map U).toArray] W fun e w' => e = .returned (.tuple #[.agg (rL K4).toArray, .int .i64 0]) ∧ Below W.heap.size W w' := fun W => enter_any K3 [1, 2, 3, 4] rfl rfl W
  have hN1' : ∀ W, Calls Try.prog 20 #[.int .i64 1, .int .u64 1, .agg (pL 0 Z8 false).toArray] W fun e w' => e = .returned (.agg (rL K1).toArray) ∧ Below W.heap.size W w' := hN1
  have hN2' : ∀ W, Calls Try.prog 20 #[.int .i64 1, .int .u64 1, .agg (pL 0 Z8 true).toArray] W fun e w' => e = .returned (.agg (rL K2).toArray) ∧ Below W.heap.size W w' := hN2
  have heq := eq_regsK
  have HX2 : Hid ((rL K2).length = 13) := rfl
  have HX3 : Hid ((rL K3).length = 13) := rfl
  have HX4 : Hid ((rL K4).length = 13) := rfl
  have H12 : Hid _ := rL_one K2
  have H13 : Hid _ := rL_one K3
  have H14 : Hid _ := rL_one K4
  have H3w : Hid ((rL K3)[12]? = some (.int .i64 1)) := rfl
  have H4w : Hid ((rL K4)[12]? = some (.int .i64 0)) := rfl
  have H4r : Hid (((rL K4).drop 2).take 8 = ([1, 2, 3, 4, 0, 0, 0, 0] : List Int).map U) := rfl
  have H8 : Hid ((([1, 2, 3, 4, 0, 0, 0, 0] : List Int).map U).length = 8) := rfl
  clear hN1 hN2
  generalize rL K1 = A1 at *
  generalize rL K2 = A2 at *
  generalize rL K3 = A3 at *
  generalize rL K4 = A4 at *
  generalize pL 0 Z8 false = P1 at *
  generalize pL 0 Z8 true = P2 at *
  generalize cL Z8 0 = C0 at *
  generalize oL ko = OK at *
  generalize ko.ns.map U = N7 at *
  generalize ([1, 2, 3, 4] : List Int).map U = N4 at *
  generalize ([1, 2, 3, 4, 0, 0, 0, 0] : List Int).map U = N8 at *
  go_enter Try.func10, Try.ntmps10
  go_wp2_with (refine build_g (by rfl) 61 #[] rfl #[] (.agg P1.toArray) (by first | (simp [Act.eval]; done) | (simp [Act.eval]; rfl)) (HP1.out _) ?_)
  refine Calls.mono (hN1' _) ?_
  rintro e W1 ⟨rfl, b1⟩
  go_wp2_with fail
  refine Calls.mono (hM1 _) ?_
  rintro e W2 ⟨rfl, b2⟩
  go_wp2_with (refine build_g (by rfl) 61 #[(2, .const (.bool true))] rfl #[(2, .bool true)] (.agg P2.toArray) (by first | (simp [Act.eval]; done) | (simp [Act.eval]; rfl)) (HP2.out _) ?_)
  refine Calls.mono (hN2' _) ?_
  rintro e W3 ⟨rfl, b3⟩
  have hb : Below w.heap.size w W3 := by have q := b1.trans (b2.mono b1.size); exact q.trans (b3.mono q.size)
  have R0 := ((RS.start w).step hb).alloc _ rfl 28 ZL
  have HR0 : Hid _ := R0
  have HR1 : Hid _ := R0.put 0 rfl A2
  clear b1 b2 b3 hb R0
  go_wp2_with (first
    | (refine wpList_store_rowL rfl 28 (.tmp 2) (.tmp 12) rfl W3.heap.size A2.toArray rfl rfl 28 ZL.toArray (HR0.out.at 0 rfl) (info13a A2 HX2.out) (by simp [HZN.out, HX2.out]) H12.out ?_
       intro V1 hV1
       rw [← hV1] at HR1
       clear hV1 HR0)
    | (refine wpList_load_mid rfl 28 (.tmp 2) rfl W3.heap.size 0 rfl A2 _ (rangeAt_row (HR1.out.at 0 rfl)) Try.underlying28 rfl (info13 A2 HX2.out) ?_))
  refine Calls.mono (hM2 _) ?_
  rintro e V2 ⟨rfl, b4⟩
  have HR2 : Hid _ := HR1.out.step b4
  clear HR1 b4
  generalize W3.heap.size = n1 at *
  go_wp2_with (first
    | (refine wpList_load_mid rfl 28 (.tmp 2) rfl n1 0 rfl A2 _ (rangeAt_row (HR2.out.at 0 rfl)) Try.underlying28 rfl (info13 A2 HX2.out) ?_)
    | (refine build_g (by rfl) 25 #[] rfl #[] (.agg C0.toArray) (by first | (simp [Act.eval]; done) | (simp [Act.eval]; rfl)) (HC0.out _) ?_)
    | (refine build_g (by rfl) 29 #[(0, .const (.int .u64 7))] rfl #[(0, .int .u64 7)] (.agg N7.toArray) (by first | (simp [Act.eval]; done) | (simp [Act.eval]; rfl)) (HA7.out _) ?_)
    | (refine build_g (by rfl) 40 #[(0, .const (.int .i64 2)), (1, .tmp 18)] rfl #[(0, .int .i64 2), (1, .agg N7.toArray)] (.agg OK.toArray) (by first | (simp [Act.eval]; done) | (simp [Act.eval]; rfl)) (HKO.out _) ?_))
  refine Calls.mono (hLv _) ?_
  rintro e V3 ⟨rfl, b5⟩
  have R3 := (HR2.out.step b5).alloc _ rfl 28 ZL
  have HR3 : Hid _ := R3
  have HR4 : Hid _ := R3.put 0 rfl A3
  clear b5 R3 HR2
  go_wp2_with (first
    | (refine wpList_store_rowL rfl 28 (.tmp 4) (.tmp 21) rfl V3.heap.size A3.toArray rfl rfl 28 ZL.toArray (HR3.out.at 0 rfl) (info13a A3 HX3.out) (by simp [HZN.out, HX3.out]) H13.out ?_
       intro V4 hV4
       rw [← hV4] at HR4
       clear hV4 HR3)
    | (refine wpList_load_mid rfl 28 (.tmp 4) rfl V3.heap.size 0 rfl A3 _ (rangeAt_row (HR4.out.at 0 rfl)) Try.underlying28 rfl (info13 A3 HX3.out) ?_)
    | (refine build_g (by rfl) 29 #[(0, .const (.int .u64 1)), (1, .const (.int .u64 2)), (2, .const (.int .u64 3)), (3, .const (.int .u64 4))] rfl #[(0, .int .u64 1), (1, .int .u64 2), (2, .int .u64 3), (3, .int .u64 4)] (.agg N4.toArray) (by first | (simp [Act.eval]; done) | (simp [Act.eval]; rfl)) (HA4.out _) ?_)
    | (refine build_g (by rfl) 31 #[(0, .tmp 25)] rfl #[(0, .agg N4.toArray)] (.agg N4.toArray) (by first | (simp [Act.eval]; done) | (simp [Act.eval]; rfl)) (HIN.out _) ?_))
  refine Calls.mono (hEn _) ?_
  rintro e V5 ⟨rfl, b6⟩
  have R5 := (HR4.out.step b6).alloc _ rfl 28 ZL
  have HR5 : Hid _ := R5
  have HR6 : Hid _ := R5.put 0 rfl A4
  clear b6 R5 HR4
  go_wp2_with (first
    | (refine wpList_store_rowL rfl 28 (.tmp 6) (.tmp 28) rfl V5.heap.size A4.toArray rfl rfl 28 ZL.toArray (HR5.out.at 0 rfl) (info13a A4 HX4.out) (by simp [HZN.out, HX4.out]) H14.out ?_
       intro V6 hV6
       rw [← hV6] at HR6
       have hc1 := HR6.out.cell 1 rfl 12 H3w.out
       have hc2 := HR6.out.cell 0 rfl 12 H4w.out
       have hrg := rangeAt_part (rangeAt_row (HR6.out.at 0 rfl)) 2 8
       rw [H4r.out, Nat.zero_add] at hrg
       have HRG : Hid _ := hrg
       clear hV6 HR5 hrg)
    | (refine load_mid_g (by rfl) 23 (.tmp 51) rfl V5.heap.size 2 rfl N8 _ HRG.out Try.underlying23 rfl (info8r N8 H8.out) ?_)
    | (refine build_g (by rfl) 23 #[(0, .const (.int .u64 1)), (1, .const (.int .u64 2)), (2, .const (.int .u64 3)), (3, .const (.int .u64 4))] rfl #[(0, .int .u64 1), (1, .int .u64 2), (2, .int .u64 3), (3, .int .u64 4)] (.agg N8.toArray) (by first | (simp [Act.eval]; done) | (simp [Act.eval]; rfl)) (HA8.out _) ?_))
  go_ret
  exact ⟨rfl, HR6.out.bel⟩
end Go.Proofs.Ytpdafjamhccbnaa.VC
