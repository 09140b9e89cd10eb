/- Contract of the statements' known. -/
import Derived.Test.YtnijjoankahddaaMF
set_option linter.unusedVariables false
set_option linter.unusedSimpArgs false
namespace Go.Proofs.Ytnijjoankahddaa.MC
open Go.RowKit

def kL : List UInt8 := splice (List.replicate (128 * 2) 0) 8 (W1.le 8 258)
theorem kL_rd : rdB kL 8 3 = [2, 1, 0] := by decide +kernel
end Go.Proofs.Ytnijjoankahddaa.MC
