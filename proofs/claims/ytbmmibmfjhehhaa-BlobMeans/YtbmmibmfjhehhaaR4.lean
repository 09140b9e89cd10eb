/- Contract of ref's Press over lists. -/
import Derived.Test.YtbmmibmfjhehhaaWe
import Derived.Test.YtbmmibmfjhehhaaX2
set_option linter.unusedVariables false
set_option linter.unusedSimpArgs false
namespace Go.Proofs.Ytbmmibmfjhehhaa
open Go.RowKit

end Go.Proofs.Ytbmmibmfjhehhaa
