/- Contract of ref 5's May. -/
import Derived.Test.YtekbppfocnbhbaaGreatB9
set_option linter.unusedVariables false
set_option linter.unusedSimpArgs false
namespace Go.Proofs.YtekbppfocnbhbaaGreat.R5
open scoped Classical
open Go.RowKit

/-- May a question be? -/
def mayQ (q : Qn) : Bool := decide (1 ≤ q.kind ∧ q.kind ≤ 4 ∧ 1 ≤ q.dom ∧ q.dom ≤ 16 ∧ (q.kind = 1 → q.key = List.replicate 32 0))
theorem build_dig (w : World) : (Instr.build 33 #[]).run Tryz.prog w = .ok (.agg ((List.replicate 32 (0 : UInt8)).map B8).toArray) w := by kernel_rfl

theorem upon_eq {P : Program} {op : Oper} {a : Act} {K : Act → World → Prop} {Q : Exit → Act → World → Prop} {r r' : Result Next} (h : r = r') (g : op.upon P a K Q r') : op.upon P a K Q r := h ▸ g

end Go.Proofs.YtekbppfocnbhbaaGreat.R5
