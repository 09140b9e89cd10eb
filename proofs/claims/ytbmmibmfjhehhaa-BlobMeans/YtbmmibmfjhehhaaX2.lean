/- Contract of the reference's Press. -/
import Derived.Test.YtbmmibmfjhehhaaS2
import Derived.Deep.RegionHeld3
import Derived.Deep.RegionLaw
import Derived.Deep.AppendLies
set_option linter.unusedVariables false
set_option linter.unusedSimpArgs false
namespace Go.Proofs.Ytbmmibmfjhehhaa
open Go.RowKit

attribute [local go_sem] U_not U_xor U_xor3 U_xor10 U_and U_or U_shr3 U_shr10 U_add U_addw

end Go.Proofs.Ytbmmibmfjhehhaa
