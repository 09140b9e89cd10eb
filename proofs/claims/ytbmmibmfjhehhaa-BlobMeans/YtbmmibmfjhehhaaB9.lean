/- Contracts of ref 5's Same, May. -/
import Derived.Test.YtbmmibmfjhehhaaWa
import Derived.Test.YtbmmibmfjhehhaaWh
set_option linter.unusedVariables false
set_option linter.unusedSimpArgs false
namespace Go.Proofs.Ytbmmibmfjhehhaa.R5
open scoped Classical
open Go.RowKit

/-- What a question's cells say. -/
theorem q_facts {w : World} {b : Nat} {q : Qn} {dv : Value} {t : TypeId} {fr : Nat × Nat} (hk : q.key.length = 32) (h : w.heap[b]? = some (.cells (qL q dv).toArray t fr)) :
    w.cell? ⟨b, 0, none⟩ = some (.int .i64 q.kind) ∧ w.rangeAt b 1 (q.key.map B8) ∧ w.cell? ⟨b, 33, none⟩ = some (.int .i64 q.dom) ∧ w.cell? ⟨b, 34, none⟩ = some dv := by
  refine ⟨?_, fun j v hv => ?_, ?_, ?_⟩
  · rw [cell_of_row _ _ 0 _ _ _ h]; exact qL_0 q dv
  · rw [cell_of_row _ _ (1 + j) _ _ _ h]; exact qL_key q dv hk j v hv
  · rw [cell_of_row _ _ 33 _ _ _ h]; exact qL_33 q dv hk
  · rw [cell_of_row _ _ 34 _ _ _ h]; exact qL_34 q dv hk

end Go.Proofs.Ytbmmibmfjhehhaa.R5
