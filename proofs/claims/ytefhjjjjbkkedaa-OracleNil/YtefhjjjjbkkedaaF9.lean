/- Contract of ref 5's answer: what was asked before. -/
import Derived.Test.YtefhjjjjbkkedaaE9
set_option linter.unusedVariables false
set_option linter.unusedSimpArgs false
namespace Go.Proofs.Ytefhjjjjbkkedaa.R5
open scoped Classical
open Go.RowKit

theorem w3_facts (w : World) (QL : List Value) (CA ZA : Array Value) (w1 : World) (h : w1 = ((w.alloc (.cells QL.toArray 33 (0, 0))).alloc (.cells CA 23 (0, 0))).alloc (.cells ZA 23 (0, 0))) :
    Below w.heap.size w w1 ∧ w1.heap.size = w.heap.size + 3 ∧ w1.heap[w.heap.size]? = some (.cells QL.toArray 33 (0, 0)) ∧ w1.heap[w.heap.size + 1]? = some (.cells CA 23 (0, 0)) ∧ w1.heap[w.heap.size + 1 + 1]? = some (.cells ZA 23 (0, 0)) := by
  subst h
  refine ⟨(((Below.refl _ _).alloc (Nat.le_refl _) _).alloc (by simp) _).alloc (by simp; omega) _, by simp, ?_, ?_, heap_at _ _ _ (by simp)⟩
  · rw [heap_alloc_old _ _ (by simp; omega)]; exact alloc2_first _ _ _
  · rw [heap_alloc_old _ _ (by simp)]; exact heap_at _ _ _ (by simp)

end Go.Proofs.Ytefhjjjjbkkedaa.R5
