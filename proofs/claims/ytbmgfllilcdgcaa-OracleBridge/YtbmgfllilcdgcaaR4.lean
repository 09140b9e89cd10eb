/- Contract of ref's Press over lists. -/
import Derived.Test.YtbmgfllilcdgcaaW4
import Derived.Test.YtbmgfllilcdgcaaX2
set_option linter.unusedVariables false
set_option linter.unusedSimpArgs false
namespace Go.Proofs.Ytbmgfllilcdgcaa
open Go.RowKit

end Go.Proofs.Ytbmgfllilcdgcaa
