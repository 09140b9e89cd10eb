/- blob: Leaf and None of the program, refused and answered. -/
import Derived.Test.YtbmmibmfjhehhaaGreatBD
set_option linter.unusedVariables false
set_option linter.unusedSimpArgs false
namespace Go.Proofs.YtbmmibmfjhehhaaGreat.BC
open Go.RowKit

theorem sliceGr (w : World) (b : Nat) : (Instr.sliceAt 29 (.pointer (some ⟨b, 0, none⟩)) none none none).run Tryz.prog w = .ok (.slice (some ⟨b, 0, none⟩) 128 128) w := by kernel_rfl
end Go.Proofs.YtbmmibmfjhehhaaGreat.BC

namespace Go.Proofs.YtbmmibmfjhehhaaGreat.BC
open Go.RowKit

set_option maxHeartbeats 1000000 in
set_option maxRecDepth 100000 in
theorem askedD_no (pv fv : Value) (pg c x : Int) (w : World) (hx : x ≠ 0) (hF : ∀ W, Below w.heap.size w W → Calls Tryz.prog 44 #[pv, .int .i64 pg, .int .u64 c] W fun e w' => e = .returned (.int .i64 x) ∧ Below W.heap.size W w') :
    Calls Tryz.prog 28 #[pv, .int .i64 pg, .int .u64 c, fv] w fun e w' => e = .returned (R5.errV x) ∧ Below w.heap.size w w' := by
  have hz := fun W => R5.zero_dig W
  obtain ⟨ZL, hZL⟩ : ∃ L, L = (List.replicate 32 (0 : UInt8)).map B8 := ⟨_, rfl⟩
  rw [← hZL] at hz
  have HZS : Hid (ZL.toArray.size = 32) := by show _ = _; rw [hZL]; simp
  have HZ1 : Hid (ZL.toArray.all (·.oneCell') = true) := by show _ = _; rw [hZL]; exact R5.B8_onea _
  have hx2 : (x == 0) = false := by rw [beq_eq_false_iff_ne]; exact hx
  have HEV : Hid (R5.errV x = .tuple #[.agg ZL.toArray, .int .i64 x]) := by rw [hZL]; exact rfl
  have HT0 : Hid _ := (RS.start w).alloc w.heap.size rfl 23 ZL
  have HF : Hid (∀ W, Below w.heap.size w W → Calls Tryz.prog 44 #[pv, .int .i64 pg, .int .u64 c] W fun e w' => e = .returned (.int .i64 x) ∧ Below W.heap.size W w') := hF
  rw [HEV.out]
  clear hZL hx hF HEV
  go_enter Tryz.func28, Tryz.ntmps28
  go_upto_region 1 with fail
  generalize World.alloc _ _ = X0 at *
  go_wp2_with fail
  refine Calls.mono (HF.out X0 HT0.out.bel) ?_
  rintro e X1 ⟨rfl, hb⟩
  have HT1 : Hid _ := (HT0.out.step hb).alloc X1.heap.size rfl 23 ZL
  clear hb HT0 HF
  go_wp2_with (first
    | (refine wpList_load_mid rfl 23 (.tmp 11) rfl X1.heap.size 0 rfl ZL _ (rangeAt_row (HT1.out.at 0 rfl)) Tryz.underlying23 rfl (R5.info32 ZL (by simpa using HZS.out)) ?_)
    | (refine R5.wpList_store_rowL rfl 23 _ _ rfl w.heap.size ZL.toArray rfl rfl 23 ZL.toArray (HT1.out.at 1 rfl) (R5.info32a _ HZS.out) rfl HZ1.out ?_; intro X2 e2; have HT2 : Hid _ := HT1.out.put 1 rfl ZL; rw [← e2] at HT2; clear e2))
  refine bodyPost_ret (v := .tuple #[.agg ZL.toArray, .int .i64 x]) ?_ rfl ⟨rfl, HT2.out.bel⟩
  exact R5.results_dig2 Tryz.results28 _ _ w.heap.size 23 _ (0, 0) _ rfl rfl (HT2.out.at 1 rfl) (R5.info32a _ HZS.out)
set_option maxHeartbeats 1000000 in
set_option maxRecDepth 100000 in
theorem none_no (q : Option Addr) (pg x : Int) (w : World) (hx : x ≠ 0) (hF : ∀ W, Below w.heap.size w W → Calls Tryz.prog 44 #[.pointer q, .int .i64 pg, .int .u64 0] W fun e w' => e = .returned (.int .i64 x) ∧ Below W.heap.size W w') :
    Calls Tryz.prog 16 #[.pointer q, .int .i64 pg] w fun e w' => e = .returned (R5.errV x) ∧ Below w.heap.size w w' := by
  have hz := fun W => R5.zero_dig W
  obtain ⟨ZL, hZL⟩ : ∃ L, L = (List.replicate 32 (0 : UInt8)).map B8 := ⟨_, rfl⟩
  rw [← hZL] at hz
  have HZS : Hid (ZL.toArray.size = 32) := by show _ = _; rw [hZL]; simp
  have HZ1 : Hid (ZL.toArray.all (·.oneCell') = true) := by show _ = _; rw [hZL]; exact R5.B8_onea _
  have HEV : Hid (R5.errV x = .tuple #[.agg ZL.toArray, .int .i64 x]) := by rw [hZL]; exact rfl
  have HA : Hid (∀ W fv, Below w.heap.size w W → Calls Tryz.prog 28 #[.pointer q, .int .i64 pg, .int .u64 0, fv] W fun e w' => e = .returned (R5.errV x) ∧ Below W.heap.size W w') := fun W fv hW => askedD_no (.pointer q) fv pg 0 x W hx (fun X hX => hF X (hW.trans (hX.mono hW.size)))
  have HT0 : Hid _ := ((RS.start w).alloc w.heap.size rfl 31 [.pointer q]).alloc (w.heap.size + 1) (by simp) 23 ZL
  rw [HEV.out] at HA ⊢
  clear hZL hx hF HEV
  go_enter Tryz.func16, Tryz.ntmps16
  go_upto_region 1 with fail
  generalize World.alloc _ _ = X0 at *
  have hco := HT0.out.cell 1 rfl 0 rfl
  go_wp2_with fail
  refine Calls.mono (HA.out X0 _ HT0.out.bel) ?_
  rintro e X1 ⟨rfl, hb⟩
  have HT1 : Hid _ := HT0.out.step hb
  clear hb HT0 HA hco
  go_wp2_with (refine R5.wpList_store_rowL rfl 23 _ _ rfl (w.heap.size + 1) ZL.toArray rfl rfl 23 ZL.toArray (HT1.out.at 0 rfl) (R5.info32a _ HZS.out) rfl HZ1.out ?_; intro X2 e2; have HT2 : Hid _ := HT1.out.put 0 rfl ZL; rw [← e2] at HT2; clear e2)
  refine bodyPost_ret (v := .tuple #[.agg ZL.toArray, .int .i64 x]) ?_ rfl ⟨rfl, HT2.out.bel⟩
  exact R5.results_dig2 Tryz.results16 _ _ (w.heap.size + 1) 23 _ (0, 0) _ rfl rfl (HT2.out.at 0 rfl) (R5.info32a _ HZS.out)
end Go.Proofs.YtbmmibmfjhehhaaGreat.BC
