/- Contract of ref's Press over lists. -/
import Derived.Test.YtnijjoankahddaaWe
import Derived.Test.YtnijjoankahddaaX2
set_option linter.unusedVariables false
set_option linter.unusedSimpArgs false
namespace Go.Proofs.Ytnijjoankahddaa
open Go.RowKit

end Go.Proofs.Ytnijjoankahddaa
