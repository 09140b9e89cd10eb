/- entry: places (Slot, First, Many, There), of the program and of the reference. -/
import Derived.Test.YtkpjfhphohanlaaGreatDoorEA
set_option linter.unusedVariables false
set_option linter.unusedSimpArgs false
namespace Go.Proofs.YtkpjfhphohanlaaGreatDoor.EC
open Go.RowKit

theorem pg_in {p : Int} (h : pgB p = true) : 0 ≤ p ∧ p < 256 := by unfold pgB at h; simpa using h
theorem mny_pos (l : Int) : 1 ≤ mny l ∧ mny l ≤ 64 := by unfold mny; split <;> (try split) <;> (try split) <;> omega
theorem ret_two {a b c : Int} (h : a = b) : Ending.returned (.tuple #[.int .i64 a, .int .i64 c]) = .returned (.tuple #[.int .i64 b, .int .i64 c]) := by rw [h]
theorem tmod4 {a : Int} (h : 0 ≤ a) : a.tmod 4 = a % 4 := Int.tmod_eq_emod_of_nonneg h
end Go.Proofs.YtkpjfhphohanlaaGreatDoor.EC
