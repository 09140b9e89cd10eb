/- Several texts in one. -/
import Derived.Test.YtbmmibmfjhehhaaGreatWr
import Derived.Test.YtbmmibmfjhehhaaGreatWg
set_option linter.unusedVariables false
set_option linter.unusedSimpArgs false
/- Contracts of the program's computed, and Ask in concrete mode. -/
namespace Go.Proofs.YtbmmibmfjhehhaaGreat.R5
open scoped Classical
open Go.RowKit

def compD (q : Qn) : List UInt8 := if q.kind = 1 then shaL (textQ q) else macL q.key (textQ q)
theorem compD_len (q : Qn) : (compD q).length = 32 := by
  unfold compD
  split
  · exact shaL_len _
  · exact macL_len _ _
theorem textQ_len (q : Qn) (h : q.key.length = 32) : (textQ q).length = q.data.length + 34 := by unfold textQ; simp [h]; omega
structure SCo (w : World) (QL : List Value) (X : World) : Prop where
  b : Below w.heap.size w X
  q : X.heap[w.heap.size]? = some (.cells QL.toArray 66 (0, 0))
  z : ∃ Z, Z.size = 32 ∧ X.heap[w.heap.size + 1]? = some (.cells Z 23 (0, 0))
theorem SCo.step {w : World} {QL : List Value} {X Y : World} (h : SCo w QL X) (hb : Below X.heap.size X Y) : SCo w QL Y := by
  obtain ⟨Z, h1, h2⟩ := h.z
  exact ⟨h.b.trans (hb.mono h.b.size), (hb.block _ (row_lt h.q)).trans h.q, Z, h1, (hb.block _ (row_lt h2)).trans h2⟩
end Go.Proofs.YtbmmibmfjhehhaaGreat.R5

/- Contract of the program's Ask in concrete mode. -/
namespace Go.Proofs.YtbmmibmfjhehhaaGreat.R5
open scoped Classical
open Go.RowKit

end Go.Proofs.YtbmmibmfjhehhaaGreat.R5
