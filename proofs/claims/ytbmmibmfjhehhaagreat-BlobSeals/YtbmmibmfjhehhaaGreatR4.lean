/- Contract of ref's Press over lists. -/
import Derived.Test.YtbmmibmfjhehhaaGreatWe
import Derived.Test.YtbmmibmfjhehhaaGreatX2
set_option linter.unusedVariables false
set_option linter.unusedSimpArgs false
namespace Go.Proofs.YtbmmibmfjhehhaaGreat
open Go.RowKit

theorem refPress_l (hs : List UInt32) (bs : List UInt8) (kv : Value) (ks : List UInt32) (w : World) (h8 : hs.length = 8) (hb : bs.length = 64) (hk : HW w kv ks) (hkl : ks.length = 64) :
    Calls Tryz.prog 58 #[.agg (hs.map W32).toArray, .agg (bs.map B8).toArray, kv] w fun e w' => e = .returned (.agg ((press hs bs ks).map W32).toArray) ∧ Below w.heap.size w w' := by
  match hs, h8 with
  | [h0, h1, h2, h3, h4, h5, h6, h7], _ => exact press_any h0 h1 h2 h3 h4 h5 h6 h7 bs kv ks w hb hk hkl

end Go.Proofs.YtbmmibmfjhehhaaGreat
