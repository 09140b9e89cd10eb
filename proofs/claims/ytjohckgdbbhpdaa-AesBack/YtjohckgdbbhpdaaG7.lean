/- Mathematics of ref 4's Expand: the 176 bytes. -/
import Derived.Test.YtjohckgdbbhpdaaE7
set_option linter.unusedVariables false
set_option linter.unusedSimpArgs false
namespace Go.Proofs.Ytjohckgdbbhpdaa
open Go.RowKit

/-- Powers of 2. -/
def pwA : Nat → UInt8
  | 0 => 1
  | n + 1 => tmA (pwA n) 2
/-- The word that is added to word n, to make word n + 4. -/
def exT (t p : List UInt8) (n : Nat) : List UInt8 :=
  if n % 4 = 0 then [t.getD (p.getD (4 * (n + 3) + 1) 0).toNat 0 ^^^ pwA (n / 4), t.getD (p.getD (4 * (n + 3) + 2) 0).toNat 0, t.getD (p.getD (4 * (n + 3) + 3) 0).toNat 0, t.getD (p.getD (4 * (n + 3)) 0).toNat 0]
  else [p.getD (4 * (n + 3)) 0, p.getD (4 * (n + 3) + 1) 0, p.getD (4 * (n + 3) + 2) 0, p.getD (4 * (n + 3) + 3) 0]
/-- Word n + 4. -/
def exN (t p : List UInt8) (n : Nat) : List UInt8 := (List.range 4).map fun k => p.getD (4 * n + k) 0 ^^^ (exT t p n).getD k 0
/-- The first n + 4 words. -/
def exL (key t : List UInt8) : Nat → List UInt8
  | 0 => key
  | n + 1 => exL key t n ++ exN t (exL key t n) n
/-- All keys, end to end. -/
def exA (key t : List UInt8) : List UInt8 := exL key t 40
theorem exL_len (key t : List UInt8) (n : Nat) (h : key.length = 16) : (exL key t n).length = 16 + 4 * n := by
  induction n with
  | zero => exact h
  | succ n ih => unfold exL; rw [List.length_append, ih]; unfold exN; simp; omega
theorem exA_len (key t : List UInt8) (h : key.length = 16) : (exA key t).length = 176 := exL_len key t 40 h
theorem exL_pre (key t : List UInt8) (n d j : Nat) (h : key.length = 16) (hj : j < 16 + 4 * n) : (exL key t (n + d)).getD j 0 = (exL key t n).getD j 0 := by
  induction d with
  | zero => rfl
  | succ d ih =>
    rw [← ih]
    show (exL key t (n + d) ++ exN t (exL key t (n + d)) (n + d)).getD j 0 = _
    rw [List.getD, List.getElem?_append_left (by rw [exL_len key t (n + d) h]; omega), List.getD]
theorem exA_pre (key t : List UInt8) (n j : Nat) (h : key.length = 16) (hn : n ≤ 40) (hj : j < 16 + 4 * n) : (exA key t).getD j 0 = (exL key t n).getD j 0 := by
  have := exL_pre key t n (40 - n) j h hj
  rw [show n + (40 - n) = 40 by omega] at this
  exact this
theorem exA_key (key t : List UInt8) (j : Nat) (h : key.length = 16) (hj : j < 16) : (exA key t).getD j 0 = key.getD j 0 := exA_pre key t 0 j h (by omega) (by omega)
theorem exT_A (key t : List UInt8) (n : Nat) (h : key.length = 16) (hn : n < 40) : exT t (exL key t n) n = exT t (exA key t) n := by
  unfold exT
  rw [exA_pre key t n (4 * (n + 3)) h (by omega) (by omega), exA_pre key t n (4 * (n + 3) + 1) h (by omega) (by omega), exA_pre key t n (4 * (n + 3) + 2) h (by omega) (by omega), exA_pre key t n (4 * (n + 3) + 3) h (by omega) (by omega)]
theorem exA_step (key t : List UInt8) (n k : Nat) (h : key.length = 16) (hn : n < 40) (hk : k < 4) :
    (exA key t).getD (16 + 4 * n + k) 0 = (exA key t).getD (4 * n + k) 0 ^^^ (exT t (exA key t) n).getD k 0 := by
  rw [exA_pre key t (n + 1) (16 + 4 * n + k) h (by omega) (by omega)]
  show (exL key t n ++ exN t (exL key t n) n).getD (16 + 4 * n + k) 0 = _
  have hl := exL_len key t n h
  rw [List.getD, List.getElem?_append_right (by omega), hl, show 16 + 4 * n + k - (16 + 4 * n) = k by omega]
  rw [← exT_A key t n h hn, exA_pre key t n (4 * n + k) h (by omega) (by omega)]
  unfold exN
  rw [List.getElem?_map, List.getElem?_range hk]
  rfl
/-- A cell of the part that is laid. -/
theorem bpart_old (n : Nat) (T : List UInt8) (k j : Nat) (hT : T.length = n) (hk : k ≤ n) (hj : j < k) : (bpart n T k).getD j 0 = T.getD j 0 := by
  unfold bpart
  rw [List.getD, List.getElem?_append_left (by simp; omega), List.getElem?_take_of_lt hj, List.getD]

end Go.Proofs.Ytjohckgdbbhpdaa
