/- Contract of the reference's Hex. -/
import Derived.Test.YtbmgfllilcdgcaaD1
set_option linter.unusedVariables false
set_option linter.unusedSimpArgs false
namespace Go.Proofs.Ytbmgfllilcdgcaa
open Go.RowKit

abbrev tabr : ByteArray := { data := #[48, 49, 50, 51, 52, 53, 54, 55, 56, 57, 97, 98, 99, 100, 101, 102] }
theorem index_tabr (x : Nat) (h : x < 16) (w : World) : (Instr.index 9 (.string tabr) (.int .u8 (x : Int))).run Try.prog w = .ok (.int .u8 ((W1.hexd x).toNat : Int)) w := by
  have h16 : x = 0 ∨ x = 1 ∨ x = 2 ∨ x = 3 ∨ x = 4 ∨ x = 5 ∨ x = 6 ∨ x = 7 ∨ x = 8 ∨ x = 9 ∨ x = 10 ∨ x = 11 ∨ x = 12 ∨ x = 13 ∨ x = 14 ∨ x = 15 := by omega
  rcases h16 with rfl | rfl | rfl | rfl | rfl | rfl | rfl | rfl | rfl | rfl | rfl | rfl | rfl | rfl | rfl | rfl <;> (show _ = _; kernel_rfl)

end Go.Proofs.Ytbmgfllilcdgcaa
