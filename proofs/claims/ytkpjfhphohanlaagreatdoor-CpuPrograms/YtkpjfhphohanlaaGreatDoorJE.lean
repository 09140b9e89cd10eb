/- cpu: which instructions may be (the program): May. -/
import Derived.Test.YtkpjfhphohanlaaGreatDoorJD
import Derived.Laws.BitsLemmas
import Derived.IntWalk
set_option linter.unusedVariables false
set_option linter.unusedSimpArgs false
namespace Go.Proofs.YtkpjfhphohanlaaGreatDoor.JC
open Go.RowKit
open Go.Proofs.YtkpjfhphohanlaaGreatDoor.EC (row_lt heap_at rangeAt_below rangeAt_row ret_bool ret_i64 beq_int)

theorem isReg_any (x : Int) (w : World) : Calls Tryz.prog 45 #[.int .i64 x] w fun e w' => e = .returned (.bool (decide (0 ≤ x) && decide (x < 8))) ∧ w = w' := by
  go_enter Tryz.func45, Tryz.ntmps45
  go_wp2
  all_goals go_ret
  all_goals (refine ⟨ret_bool ?_, rfl⟩; rw [Bool.eq_iff_iff]; simp; try omega)
theorem i32_eq (x : Int) (h0 : -9223372036854775808 ≤ x) (h1 : x ≤ 9223372036854775807) : (x == (IntKind.i64).wrap ((IntKind.i32).wrap x)) = (decide (-2147483648 ≤ x) && decide (x ≤ 2147483647)) := by
  rw [IntKind.wrap_i64, IntKind.wrap_i32, Bool.eq_iff_iff]
  simp
  omega
def imB (op x : Int) : Bool := decide (-2147483648 ≤ x) && decide (x ≤ 2147483647) && (!decide (op = 16) || decide (0 ≤ x))
set_option maxRecDepth 100000 in
theorem isImm_any (op x : Int) (h : (Lit.int .i64 x).wf = true) (w : World) : Calls Tryz.prog 46 #[.int .i64 op, .int .i64 x] w fun e w' => e = .returned (.bool (imB op x)) ∧ w = w' := by
  obtain ⟨b0, b1⟩ := wf_bd h
  have HV : Hid (imB op x = ((decide (-2147483648 ≤ x) && decide (x ≤ 2147483647)) && (!decide (op = 16) || decide (0 ≤ x)))) := rfl
  generalize imB op x = V at *
  by_cases hb : -2147483648 ≤ x ∧ x ≤ 2147483647
  · obtain ⟨h1, h2⟩ := hb
    have HV2 : Hid (V = (!decide (op = 16) || decide (0 ≤ x))) := by show _ = _; rw [HV.out, decide_eq_true h1, decide_eq_true h2]; rfl
    clear HV b0 b1 h
    go_enter Tryz.func46, Tryz.ntmps46
    go_wp2
    all_goals go_ret
    all_goals (refine ⟨ret_bool ?_, rfl⟩; rw [HV2.out]; simp [*])
  · have HV2 : Hid (V = false) := by
      show _ = _
      rw [HV.out]
      have : (decide (-2147483648 ≤ x) && decide (x ≤ 2147483647)) = false := by rw [Bool.eq_false_iff]; simp; omega
      rw [this]; rfl
    obtain ⟨Y, hY⟩ : ∃ Y, IntKind.i32.wrap x = Y := ⟨_, rfl⟩
    have hne : ¬ x = wrap64 Y := by rw [← hY, ← Go.IntWalk.i64_left, IntKind.wrap_i64, IntKind.wrap_i32]; omega
    clear HV hb b0 b1 h
    go_enter Tryz.func46, Tryz.ntmps46
    go_wp2
    all_goals go_ret
    all_goals exact ⟨ret_bool HV2.out.symm, rfl⟩
/-- The closure in May: a register where it is named, or not. -/
theorem mayReg_any (f : Bool) (x P q : Int) (b : Nat) (w : World) (hc : w.cell? ⟨b, 0, none⟩ = some (.int .u8 P)) (hf : (bits .and .u8 P q != 0) = f) : Calls Tryz.prog 44 #[.int .i64 x, .int .u8 q, .pointer (some ⟨b, 0, none⟩)] w fun e w' => e = .returned (.bool (rg f x)) ∧ w = w' := by
  have HV : Hid (rg f x = (decide (x = 0) || f && decide (0 ≤ x) && decide (x < 8))) := rfl
  generalize rg f x = V at *
  have hr := fun W => isReg_any x W
  generalize hB : (decide (0 ≤ x) && decide (x < 8)) = B at *
  have HV1 : Hid (V = (decide (x = 0) || f && B)) := by show _ = _; rw [HV.out, ← hB]; cases f <;> simp [Bool.and_assoc]
  clear HV hB
  by_cases hx : x = 0
  · have HV2 : Hid (V = true) := by show _ = _; rw [HV1.out, hx]; simp
    subst hx
    clear HV1
    go_enter Tryz.func44, Tryz.ntmps44
    go_wp2
    all_goals go_ret
    all_goals exact ⟨ret_bool HV2.out.symm, rfl⟩
  · have hx' := beq_false_of_ne hx
    have HV2 : Hid (V = (f && B)) := by show _ = _; rw [HV1.out, decide_eq_false hx]; simp
    clear HV1 hx
    cases f
    · have hf' : (bits .and .u8 P q != 0) = false := hf
      clear hf
      have HV3 : Hid (V = false) := by show _ = _; rw [HV2.out]; rfl
      clear HV2
      go_enter Tryz.func44, Tryz.ntmps44
      go_wp2
      all_goals go_ret
      all_goals exact ⟨ret_bool HV3.out.symm, rfl⟩
    · have hf' : (bits .and .u8 P q != 0) = true := hf
      clear hf
      have HV3 : Hid (V = B) := by show _ = _; rw [HV2.out]; simp
      clear HV2
      go_enter Tryz.func44, Tryz.ntmps44
      go_wp2_with (go_at_call 45; refine Calls.mono (hr _) ?_; rintro e wq ⟨rfl, rfl⟩)
      all_goals go_ret
      all_goals exact ⟨ret_bool HV3.out.symm, rfl⟩
theorem pt_bits (op : Int) : (bits .and .u8 (ptv op) 1 != 0) = (isOp op && fd op) ∧ (bits .and .u8 (ptv op) 2 != 0) = (isOp op && fa op) ∧ (bits .and .u8 (ptv op) 4 != 0) = (isOp op && fb op) ∧ (bits .and .u8 (ptv op) 8 != 0) = (isOp op && fi op) := by
  cases ho : isOp op
  · have hp : ptv op = 0 := by unfold ptv; rw [ho]; rfl
    rw [hp]
    exact ⟨rfl, rfl, rfl, rfl⟩
  · rcases isOp_cases ho with rfl | rfl | rfl | rfl | rfl | rfl | rfl | rfl | rfl | rfl | rfl | rfl | rfl | rfl | rfl | rfl | rfl <;> exact ⟨rfl, rfl, rfl, rfl⟩
/-- While May runs: the instruction, and what is named. -/
structure SM (w : World) (i : Ins) (P : Int) (X : World) : Prop where
  bel : Below w.heap.size w X
  c0 : X.cell? ⟨w.heap.size, 0, none⟩ = some (.int .i64 i.op)
  c1 : X.cell? ⟨w.heap.size, 1, none⟩ = some (.int .i64 i.d)
  c2 : X.cell? ⟨w.heap.size, 2, none⟩ = some (.int .i64 i.a)
  c3 : X.cell? ⟨w.heap.size, 3, none⟩ = some (.int .i64 i.b)
  c4 : X.cell? ⟨w.heap.size, 4, none⟩ = some (.int .i64 i.imm)
  p : X.cell? ⟨w.heap.size + 1, 0, none⟩ = some (.int .u8 P)
theorem may_eq (i : Ins) : may i = (isOp i.op && (decide (i.imm = 0) || isOp i.op && fi i.op && imB i.op i.imm) && rg (isOp i.op && fd i.op) i.d && rg (isOp i.op && fa i.op) i.a && rg (isOp i.op && fb i.op) i.b) := by
  unfold may im imB
  cases isOp i.op
  · rfl
  · simp only [Bool.true_and, Bool.and_assoc]
theorem fields5 (w : World) (cs : Array Value) (t : TypeId) (fr : Nat × Nat) (b : Nat) (h : w.heap[b]? = some (.cells cs t fr)) (k : Nat) : w.cell? ⟨b, k, none⟩ = cs[k]? := by rw [cell_of_row _ _ k _ _ _ h]
def rgp (P q x : Int) : Bool := rg (bits .and .u8 P q != 0) x
theorem mayReg_p (x P q : Int) (b : Nat) (w : World) (hc : w.cell? ⟨b, 0, none⟩ = some (.int .u8 P)) : Calls Tryz.prog 44 #[.int .i64 x, .int .u8 q, .pointer (some ⟨b, 0, none⟩)] w fun e w' => e = .returned (.bool (rgp P q x)) ∧ w = w' := mayReg_any _ x P q b w hc rfl
set_option maxHeartbeats 2000000 in
set_option maxRecDepth 100000 in
theorem may_any (i : Ins) (h : iwf i) (w : World) : Calls Tryz.prog 26 #[iV i] w fun e w' => e = .returned (.bool (may i)) ∧ Below w.heap.size w w' := by
  have HV : Hid (may i = _) := may_eq i
  obtain ⟨hb1, hb2, hb3, hb4⟩ := pt_bits i.op
  rw [← hb1, ← hb2, ← hb3, ← hb4] at HV
  clear hb1 hb2 hb3 hb4
  have hp := fun W => partsOf_any i.op W
  have hI := fun W => isImm_any i.op i.imm h.imm W
  generalize may i = V at *
  generalize ptv i.op = P at *
  generalize isOp i.op = Iop at *
  generalize imB i.op i.imm = IB at *
  clear h
  obtain ⟨op, d, a, b, imm⟩ := i
  simp only at *
  have HV1 : Hid (V = (Iop && (decide (imm = 0) || (bits .and .u8 P 8 != 0) && IB) && rgp P 1 d && rgp P 2 a && rgp P 4 b)) := HV
  clear HV
  unfold iV
  simp only
  by_cases hz : imm = 0
  · subst hz
    obtain ⟨W0, hW0⟩ : ∃ W0, W0 = (w.alloc (.cells #[.int .i64 op, .int .i64 d, .int .i64 a, .int .i64 b, .int .i64 0] 41 (0, 0))).alloc (.cells #[.int .u8 P] 92 (0, 0)) := ⟨_, rfl⟩
    have HC : Hid (W0.cell? ⟨w.heap.size + 1, 0, none⟩ = some (.int .u8 P)) := by
      show _ = _
      rw [hW0, fields5 _ #[.int .u8 P] 92 (0, 0) _ (heap_at _ _ _ (by simp)) 0]; rfl
    have HBW : Hid (Below w.heap.size w W0) := by rw [hW0]; exact ((Below.refl _ _).alloc (Nat.le_refl _) _).alloc (by simp) _
    rw [hW0] at HC HBW
    clear hW0 W0
    go_enter Tryz.func26, Tryz.ntmps26
    go_wp2_with (first
      | (go_at_call 37; refine Calls.mono (hp _) ?_; rintro e wq ⟨rfl, rfl⟩)
      | (go_at_call 46; refine Calls.mono (hI _) ?_; rintro e wq ⟨rfl, rfl⟩)
      | (go_at_call 44; refine Calls.mono (mayReg_p _ P _ _ _ HC.out) ?_; rintro e wq ⟨rfl, rfl⟩))
    all_goals go_ret
    all_goals exact ⟨ret_bool (by rw [HV1.out]; simp [*]), HBW.out⟩
  · have hz' := beq_false_of_ne hz
    obtain ⟨W0, hW0⟩ : ∃ W0, W0 = (w.alloc (.cells #[.int .i64 op, .int .i64 d, .int .i64 a, .int .i64 b, .int .i64 imm] 41 (0, 0))).alloc (.cells #[.int .u8 P] 92 (0, 0)) := ⟨_, rfl⟩
    have HC : Hid (W0.cell? ⟨w.heap.size + 1, 0, none⟩ = some (.int .u8 P)) := by
      show _ = _
      rw [hW0, fields5 _ #[.int .u8 P] 92 (0, 0) _ (heap_at _ _ _ (by simp)) 0]; rfl
    have HBW : Hid (Below w.heap.size w W0) := by rw [hW0]; exact ((Below.refl _ _).alloc (Nat.le_refl _) _).alloc (by simp) _
    rw [hW0] at HC HBW
    clear hW0 W0
    go_enter Tryz.func26, Tryz.ntmps26
    go_wp2_with (first
      | (go_at_call 37; refine Calls.mono (hp _) ?_; rintro e wq ⟨rfl, rfl⟩)
      | (go_at_call 46; refine Calls.mono (hI _) ?_; rintro e wq ⟨rfl, rfl⟩)
      | (go_at_call 44; refine Calls.mono (mayReg_p _ P _ _ _ HC.out) ?_; rintro e wq ⟨rfl, rfl⟩))
    all_goals go_ret
    all_goals exact ⟨ret_bool (by rw [HV1.out]; simp [*]), HBW.out⟩
end Go.Proofs.YtkpjfhphohanlaaGreatDoor.JC
