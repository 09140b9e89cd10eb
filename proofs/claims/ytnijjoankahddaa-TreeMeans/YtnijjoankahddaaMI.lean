/- MachineWords: the walk. -/
import Derived.Test.YtnijjoankahddaaMG
set_option linter.unusedVariables false
set_option linter.unusedSimpArgs false
namespace Go.Proofs.Ytnijjoankahddaa.MC
open Go.RowKit

/-- A row of bytes in memory. -/
def AR (W : World) (ab : Nat) (l : List UInt8) : Prop := W.heap[ab]? = some (.cells (l.map B8).toArray 5 (0, 0))
theorem AR.hb {W : World} {ab N : Nat} {l : List UInt8} (h : AR W ab l) (hN : N = l.length) (hl : l.length ≤ 9223372036854775807) : HB W (.slice (some ⟨ab, 0, none⟩) N N) l := hb_range hN (by omega) (by unfold maxLen; omega) (rangeAt_row h)
theorem AR.cell {W : World} {ab : Nat} {l : List UInt8} (h : AR W ab l) (k : Nat) (hk : k < l.length) : ∃ u, W.cell? ⟨ab, k, none⟩ = some u := by
  refine ⟨B8 l[k], ?_⟩
  rw [cell_of_row _ _ k _ _ _ h]; simp [hk]
theorem AR.frozen {W : World} {ab : Nat} {l : List UInt8} (h : AR W ab l) (k : Nat) : W.frozen? ⟨ab, k, none⟩ = false := by
  unfold World.frozen?; rw [h]; simp
theorem AR.set {W : World} {ab : Nat} {l : List UInt8} (h : AR W ab l) (k : Nat) (x : UInt8) : AR (W.setCell ⟨ab, k, none⟩ (B8 x)) ab (l.set k x) := by
  unfold AR
  rw [heap_setCell_same _ _ _ _ _ _ h, List.setIfInBounds_toArray, List.map_set]
theorem set_splice {α : Type} (L : List α) (k : Nat) (x : α) (h : k < L.length) : L.set k x = splice L k [x] := by
  apply List.ext_getElem?
  intro i
  rw [splice_get _ _ _ (by simp; omega), List.getElem?_set]
  by_cases h1 : i < k
  · rw [if_neg (by omega), if_pos h1]
  · by_cases h2 : i = k
    · subst h2; simp [h]
    · rw [if_neg (by omega), if_neg h1, if_neg (by simp; omega)]
theorem set_step {α : Type} (L : List α) (a : Nat) (b : List α) (k : Nat) (h : a + b.length ≤ L.length) (hk : k < b.length) : (splice L a (b.take k)).set (a + k) b[k] = splice L a (b.take (k + 1)) := by
  have hl : (splice L a (b.take k)).length = L.length := splice_len _ _ _ (by rw [List.length_take]; omega)
  rw [set_splice _ _ _ (by omega), ← splice_step L a b k 1 h (by omega)]
  congr 1
  rw [List.drop_eq_getElem_cons hk]; rfl
theorem AR.step {W : World} {ab : Nat} (L : List UInt8) (a : Nat) (b : List UInt8) (k : Nat) (x : UInt8) (h : AR W ab (splice L a (b.take k))) (hab : a + b.length ≤ L.length) (hx : b[k]? = some x) : AR (W.setCell ⟨ab, a + k, none⟩ (B8 x)) ab (splice L a (b.take (k + 1))) := by
  obtain ⟨hk, rfl⟩ := List.getElem?_eq_some_iff.1 hx
  rw [← set_step L a b k hab hk]
  exact h.set (a + k) _
/-- The bytes that are laid first. -/
def fill (c : Nat) (N : Nat) : List UInt8 := (List.range N).map fun i => UInt8.ofNat (c + i)
theorem fill_len (c N : Nat) : (fill c N).length = N := by simp [fill]
theorem fill_get (c N k : Nat) (h : k < (fill c N).length) : (fill c N)[k] = UInt8.ofNat (c + k) := by simp [fill]
theorem b8_ofNat (m : Nat) : B8 (UInt8.ofNat m) = .int .u8 ((m : Int) % 256) := by
  unfold B8
  congr 1
theorem KB.setCell {b o : Nat} {w a : World} (h : KB b w a) (v : Value) : KB b w (a.setCell ⟨b, o, none⟩ v) := ⟨h.1.setCell (p := ⟨b, o, none⟩) (by simp) _, fun j hj hne => (heap_setCell_other _ _ _ _ (by simpa using hne)).trans (h.2 j hj hne)⟩
theorem splice_all {α : Type} (L M : List α) (h : M.length = L.length) : splice L 0 M = M := by
  unfold splice
  rw [List.drop_eq_nil_of_le (by omega)]
  simp

end Go.Proofs.Ytnijjoankahddaa.MC
