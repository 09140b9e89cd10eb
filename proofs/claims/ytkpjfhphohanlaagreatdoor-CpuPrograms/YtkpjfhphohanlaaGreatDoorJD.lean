/- cpu: which instructions may be (the program). -/
import Derived.Test.YtkpjfhphohanlaaGreatDoorEA
import Derived.Test.YtkpjfhphohanlaaGreatDoorJB
import Derived.Laws.Alloc2
import Derived.Laws.ResultCell
import Derived.Laws.StructEq
set_option linter.unusedVariables false
set_option linter.unusedSimpArgs false
namespace Go.Proofs.YtkpjfhphohanlaaGreatDoor.JC
open Go.RowKit
open Go.Proofs.YtkpjfhphohanlaaGreatDoor.EC (row_lt heap_at rangeAt_below rangeAt_row ret_bool ret_i64 beq_int)

/-- An instruction's cells, and as a value. -/
def iL (i : Ins) : List Value := [.int .i64 i.op, .int .i64 i.d, .int .i64 i.a, .int .i64 i.b, .int .i64 i.imm]
def iV (i : Ins) : Value := .agg #[.int .i64 i.op, .int .i64 i.d, .int .i64 i.a, .int .i64 i.b, .int .i64 i.imm]
/-- Its parts are ints. -/
structure iwf (i : Ins) : Prop where
  op : (Lit.int .i64 i.op).wf = true
  d : (Lit.int .i64 i.d).wf = true
  a : (Lit.int .i64 i.a).wf = true
  b : (Lit.int .i64 i.b).wf = true
  imm : (Lit.int .i64 i.imm).wf = true
theorem wf_bd {x : Int} (h : (Lit.int .i64 x).wf = true) : -9223372036854775808 ≤ x ∧ x ≤ 9223372036854775807 := by
  simp [Lit.wf, IntKind.min, IntKind.max, IntKind.signed, IntKind.bits] at h; omega
theorem noOp {op : Int} (h : isOp op = false) : op ≠ 1 ∧ op ≠ 2 ∧ op ≠ 3 ∧ op ≠ 4 ∧ op ≠ 5 ∧ op ≠ 6 ∧ op ≠ 7 ∧ op ≠ 8 ∧ op ≠ 9 ∧ op ≠ 10 ∧ op ≠ 11 ∧ op ≠ 12 ∧ op ≠ 13 ∧ op ≠ 14 ∧ op ≠ 15 ∧ op ≠ 16 ∧ op ≠ 17 := by
  unfold isOp at h; simp at h; omega
def ptv (op : Int) : Int := if isOp op then pt op else 0
set_option maxHeartbeats 2000000 in
set_option maxRecDepth 100000 in
theorem partsOf_any (op : Int) (w : World) : Calls Tryz.prog 37 #[.int .i64 op] w fun e w' => e = .returned (.tuple #[.int .u8 (ptv op), .bool (isOp op)]) ∧ w = w' := by
  cases ho : isOp op
  · have hp : ptv op = 0 := by unfold ptv; rw [ho]; rfl
    rw [hp]
    obtain ⟨h1, h2, h3, h4, h5, h6, h7, h8, h9, h10, h11, h12, h13, h14, h15, h16, h17⟩ := noOp ho
    clear hp ho
    have e1 := beq_false_of_ne h1; have e2 := beq_false_of_ne h2; have e3 := beq_false_of_ne h3; have e4 := beq_false_of_ne h4; have e5 := beq_false_of_ne h5; have e6 := beq_false_of_ne h6; have e7 := beq_false_of_ne h7; have e8 := beq_false_of_ne h8; have e9 := beq_false_of_ne h9; have e10 := beq_false_of_ne h10; have e11 := beq_false_of_ne h11; have e12 := beq_false_of_ne h12; have e13 := beq_false_of_ne h13; have e14 := beq_false_of_ne h14; have e15 := beq_false_of_ne h15; have e16 := beq_false_of_ne h16; have e17 := beq_false_of_ne h17
    clear h1 h2 h3 h4 h5 h6 h7 h8 h9 h10 h11 h12 h13 h14 h15 h16 h17
    go_enter Tryz.func37, Tryz.ntmps37
    go_wp2
    go_ret2
    exact ⟨rfl, rfl⟩
  · rcases isOp_cases ho with rfl | rfl | rfl | rfl | rfl | rfl | rfl | rfl | rfl | rfl | rfl | rfl | rfl | rfl | rfl | rfl | rfl
    all_goals
      clear ho
      go_enter Tryz.func37, Tryz.ntmps37
      go_wp2
      go_ret2
      exact ⟨rfl, rfl⟩
end Go.Proofs.YtkpjfhphohanlaaGreatDoor.JC
