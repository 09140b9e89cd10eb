/- Contract of wire's Unhex. -/
import Derived.Test.YtbmgfllilcdgcaaD1
set_option linter.unusedVariables false
set_option linter.unusedSimpArgs false
namespace Go.Proofs.Ytbmgfllilcdgcaa
open Go.RowKit


theorem FB.form {base : Nat} {w : World} {v : Value} {l : List UInt8} (h : FB base w v l) : ∃ p cap, v = .slice p l.length cap := by
  rcases h.2 with ⟨h1, h2⟩ | ⟨g, cap, cur, h1, _⟩
  · exact ⟨none, 0, by rw [h1, h2]⟩
  · exact ⟨_, cap, h1⟩

theorem getb (s : ByteArray) (i : Nat) (h : i < s.size) (h' : i < s.data.toList.length) : s.data.toList[i]'h' = s[i]'h := by rw [Array.getElem_toList]; rfl

theorem or_digits (x y : Nat) (hx : x < 16) (hy : y < 16) : bits .or .u8 (bits .or .u8 0 (x : Int) * 16 % 256) (y : Int) = (((UInt8.ofNat (16 * x + y)).toNat : Nat) : Int) := by
  rw [show (0 : Int) = ((0 : Nat) : Int) from rfl, u8_or_nat 0 x (by decide) (by omega), Nat.zero_or, show ((x : Int) * 16 % 256) = ((16 * x : Nat) : Int) by omega, u8_or_nat _ _ (by omega) (by omega), nat_join 4 _ _ (by omega) (by omega)]
  simp; omega


end Go.Proofs.Ytbmgfllilcdgcaa
