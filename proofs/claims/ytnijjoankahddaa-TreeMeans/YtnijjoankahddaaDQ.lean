/- tree: the document's Way, Beside. -/
import Derived.Test.YtnijjoankahddaaDB
set_option linter.unusedVariables false
set_option linter.unusedSimpArgs false
namespace Go.Proofs.Ytnijjoankahddaa.DC
open Go.RowKit

/-- How the document's Way and Beside end. -/
def REnd (w : World) (ls : List Int) (e : Ending) (w' : World) : Prop := ∃ v, e = .returned v ∧ FI w.heap.size w' v ls ∧ Below w.heap.size w w'
theorem up_half (p k : Nat) : (128 + p) / 2 ^ (k + 1) = (128 + p) / 2 ^ k / 2 := by rw [Nat.pow_succ, Nat.div_div_eq_div_mul]
theorem up_8 (p : Nat) (hp : p < 128) : (128 + p) / 2 ^ 8 = 0 := by omega
theorem up_7 (p : Nat) (hp : p < 128) : (128 + p) / 2 ^ 7 = 1 := by omega
theorem up_pos (p k : Nat) (hk : k < 8) : 1 ≤ (128 + p) / 2 ^ k := by
  have : 2 ^ k ≤ 2 ^ 7 := Nat.pow_le_pow_right (by decide) (by omega)
  exact (Nat.le_div_iff_mul_le (Nat.pow_pos (by decide))).2 (by omega)
theorem up_two (p k : Nat) (hk : k < 7) : 2 ≤ (128 + p) / 2 ^ k := by
  have : 2 ^ k ≤ 2 ^ 6 := Nat.pow_le_pow_right (by decide) (by omega)
  exact (Nat.le_div_iff_mul_le (Nat.pow_pos (by decide))).2 (by omega)
end Go.Proofs.Ytnijjoankahddaa.DC
