/- entry: Level, Page, Has; num, is. -/
import Derived.Test.YtkpjfhphohanlaaGreatDoorEB
set_option linter.unusedVariables false
set_option linter.unusedSimpArgs false
namespace Go.Proofs.YtkpjfhphohanlaaGreatDoor.EC
open Go.RowKit

/-- May a level hold it; may a page have it? -/
def levB (k g l : Int) : Bool := mayB k g && lvB l && decide ((l = 3 ∧ k ≠ 1) ∨ (l ≠ 3 ∧ (k = 0 ∨ k = 1 ∨ k = 3)))
def pagB (k g p : Int) : Bool := mayB k g && pgB p && decide ((p < 128 ∧ k ≠ 6 ∧ k ≠ 1) ∨ (128 ≤ p ∧ (k = 0 ∨ k = 3 ∨ k = 6)))
theorem may_kinds {k g : Int} (h : mayB k g = true) : k = 0 ∨ k = 1 ∨ k = 2 ∨ k = 3 ∨ k = 4 ∨ k = 5 ∨ k = 6 := by unfold mayB at h; simp at h; omega
theorem cell0 (w : World) (a b : Value) (t : TypeId) (w' : World) (h : Below (w.heap.size + 1) (w.alloc (.cells #[a, b] t (0, 0))) w') : w'.heap[w.heap.size]? = some (.cells #[a, b] t (0, 0)) :=
  (h.block _ (by omega)).trans (heap_alloc_new _ _)

end Go.Proofs.YtkpjfhphohanlaaGreatDoor.EC
