/- SHA-256 as plain mathematics: words of a block, rounds, a block pressed in; rows of eight cells. -/
import Derived.Test.YtbmmibmfjhehhaaGreatV2
import Derived.Deep.RegionHeld3
import Derived.Deep.RegionLaw
import Derived.Deep.AppendLies
set_option linter.unusedVariables false
set_option linter.unusedSimpArgs false
namespace Go.Proofs.YtbmmibmfjhehhaaGreat
open Go.RowKit

theorem wrap_i64_in (n : Int) (h0 : -9223372036854775808 ≤ n) (h1 : n ≤ 9223372036854775807) : IntKind.i64.wrap n = n := by rw [IntKind.wrap_i64]; omega

def wordOf (a b c d : UInt8) : UInt32 := UInt32.ofNat (a.toNat * 16777216 + b.toNat * 65536 + c.toNat * 256 + d.toNat)
theorem U_wordOf (a b c d : UInt8) : (a.toNat : Int) * 16777216 + (b.toNat : Int) * 65536 + (c.toNat : Int) * 256 + (d.toNat : Int) = U (wordOf a b c d) := by
  have := a.toNat_lt; have := b.toNat_lt; have := c.toNat_lt; have := d.toNat_lt
  unfold wordOf; rw [U_ofNat _ (by omega)]; simp
def words (bs : List UInt8) (k : Nat) : List UInt32 := (List.range k).map fun i => wordOf (bs.getD (4 * i) 0) (bs.getD (4 * i + 1) 0) (bs.getD (4 * i + 2) 0) (bs.getD (4 * i + 3) 0)
theorem words_succ (bs : List UInt8) (k : Nat) : words bs (k + 1) = words bs k ++ [wordOf (bs.getD (4 * k) 0) (bs.getD (4 * k + 1) 0) (bs.getD (4 * k + 2) 0) (bs.getD (4 * k + 3) 0)] := by
  unfold words; rw [List.range_succ, List.map_append]; rfl
theorem words_len (bs : List UInt8) (k : Nat) : (words bs k).length = k := by simp [words]

theorem U_wordOf' (a b c d : UInt8) : IntKind.u32.wrap (IntKind.u32.wrap (IntKind.u32.wrap (IntKind.u32.wrap (IntKind.u32.wrap (a.toNat : Int) * 16777216) + IntKind.u32.wrap (IntKind.u32.wrap (b.toNat : Int) * 65536)) + IntKind.u32.wrap (IntKind.u32.wrap (c.toNat : Int) * 256)) + IntKind.u32.wrap (d.toNat : Int)) = U (wordOf a b c d) := by
  have := a.toNat_lt; have := b.toNat_lt; have := c.toNat_lt; have := d.toNat_lt
  rw [← U_wordOf]; simp only [IntKind.wrap_u32]; omega

def sg0 (x : UInt32) : UInt32 := rotr x 7 ^^^ rotr x 18 ^^^ (x >>> 3)
def sg1 (x : UInt32) : UInt32 := rotr x 17 ^^^ rotr x 19 ^^^ (x >>> 10)
def ext (l : List UInt32) (i : Nat) : UInt32 := l.getD (i - 16) 0 + sg0 (l.getD (i - 15) 0) + l.getD (i - 7) 0 + sg1 (l.getD (i - 2) 0)
def sched (bs : List UInt8) : Nat → List UInt32
  | 0 => words bs 16
  | k + 1 => sched bs k ++ [ext (sched bs k) (16 + k)]
theorem sched_len (bs : List UInt8) (k : Nat) : (sched bs k).length = 16 + k := by
  induction k with
  | zero => simp [sched, words_len]
  | succ k ih => simp [sched, ih]; omega

def rnd (v : List UInt32) (k x : UInt32) : List UInt32 :=
  let a := v.getD 0 0; let b := v.getD 1 0; let c := v.getD 2 0; let d := v.getD 3 0; let e := v.getD 4 0; let f := v.getD 5 0; let g := v.getD 6 0; let h := v.getD 7 0
  let t := h + (rotr e 6 ^^^ rotr e 11 ^^^ rotr e 25) + ((e &&& f) ^^^ (~~~e &&& g)) + k + x
  let u := (rotr a 2 ^^^ rotr a 13 ^^^ rotr a 22) + ((a &&& b) ^^^ (a &&& c) ^^^ (b &&& c))
  [t + u, a, b, c, d + t, e, f, g]
theorem rnd_eq (a0 a1 a2 a3 a4 a5 a6 a7 kk xx : UInt32) : rnd [a0, a1, a2, a3, a4, a5, a6, a7] kk xx = [(a7 + (rotr a4 6 ^^^ rotr a4 11 ^^^ rotr a4 25) + ((a4 &&& a5) ^^^ (~~~a4 &&& a6)) + kk + xx) + ((rotr a0 2 ^^^ rotr a0 13 ^^^ rotr a0 22) + ((a0 &&& a1) ^^^ (a0 &&& a2) ^^^ (a1 &&& a2))), a0, a1, a2, a3 + (a7 + (rotr a4 6 ^^^ rotr a4 11 ^^^ rotr a4 25) + ((a4 &&& a5) ^^^ (~~~a4 &&& a6)) + kk + xx), a4, a5, a6] := rfl
def rnds (ks ws v : List UInt32) : Nat → List UInt32
  | 0 => v
  | i + 1 => rnd (rnds ks ws v i) (ks.getD i 0) (ws.getD i 0)
def press (h : List UInt32) (bs : List UInt8) (ks : List UInt32) : List UInt32 := List.zipWith (· + ·) (rnds ks (sched bs 48) h 64) h

theorem store8 (w : World) (g : Nat) (t : TypeId) (c0 c1 c2 c3 c4 c5 c6 c7 v0 v1 v2 v3 v4 v5 v6 v7 : Value) (h : w.heap[g]? = some (.cells #[c0, c1, c2, c3, c4, c5, c6, c7] t (0, 0))) : ((((((((w.setCell ⟨g, 0, none⟩ v0).setCell ⟨g, 1, none⟩ v1).setCell ⟨g, 2, none⟩ v2).setCell ⟨g, 3, none⟩ v3).setCell ⟨g, 4, none⟩ v4).setCell ⟨g, 5, none⟩ v5).setCell ⟨g, 6, none⟩ v6).setCell ⟨g, 7, none⟩ v7).heap[g]? = some (.cells #[v0, v1, v2, v3, v4, v5, v6, v7] t (0, 0)) := by
  have s0 : (w.setCell ⟨g, 0, none⟩ v0).heap[g]? = some (.cells #[v0, c1, c2, c3, c4, c5, c6, c7] t (0, 0)) := heap_setCell_same _ g 0 #[c0, c1, c2, c3, c4, c5, c6, c7] t v0 h
  have s1 : ((w.setCell ⟨g, 0, none⟩ v0).setCell ⟨g, 1, none⟩ v1).heap[g]? = some (.cells #[v0, v1, c2, c3, c4, c5, c6, c7] t (0, 0)) := heap_setCell_same _ g 1 #[v0, c1, c2, c3, c4, c5, c6, c7] t v1 s0
  have s2 : (((w.setCell ⟨g, 0, none⟩ v0).setCell ⟨g, 1, none⟩ v1).setCell ⟨g, 2, none⟩ v2).heap[g]? = some (.cells #[v0, v1, v2, c3, c4, c5, c6, c7] t (0, 0)) := heap_setCell_same _ g 2 #[v0, v1, c2, c3, c4, c5, c6, c7] t v2 s1
  have s3 : ((((w.setCell ⟨g, 0, none⟩ v0).setCell ⟨g, 1, none⟩ v1).setCell ⟨g, 2, none⟩ v2).setCell ⟨g, 3, none⟩ v3).heap[g]? = some (.cells #[v0, v1, v2, v3, c4, c5, c6, c7] t (0, 0)) := heap_setCell_same _ g 3 #[v0, v1, v2, c3, c4, c5, c6, c7] t v3 s2
  have s4 : (((((w.setCell ⟨g, 0, none⟩ v0).setCell ⟨g, 1, none⟩ v1).setCell ⟨g, 2, none⟩ v2).setCell ⟨g, 3, none⟩ v3).setCell ⟨g, 4, none⟩ v4).heap[g]? = some (.cells #[v0, v1, v2, v3, v4, c5, c6, c7] t (0, 0)) := heap_setCell_same _ g 4 #[v0, v1, v2, v3, c4, c5, c6, c7] t v4 s3
  have s5 : ((((((w.setCell ⟨g, 0, none⟩ v0).setCell ⟨g, 1, none⟩ v1).setCell ⟨g, 2, none⟩ v2).setCell ⟨g, 3, none⟩ v3).setCell ⟨g, 4, none⟩ v4).setCell ⟨g, 5, none⟩ v5).heap[g]? = some (.cells #[v0, v1, v2, v3, v4, v5, c6, c7] t (0, 0)) := heap_setCell_same _ g 5 #[v0, v1, v2, v3, v4, c5, c6, c7] t v5 s4
  have s6 : (((((((w.setCell ⟨g, 0, none⟩ v0).setCell ⟨g, 1, none⟩ v1).setCell ⟨g, 2, none⟩ v2).setCell ⟨g, 3, none⟩ v3).setCell ⟨g, 4, none⟩ v4).setCell ⟨g, 5, none⟩ v5).setCell ⟨g, 6, none⟩ v6).heap[g]? = some (.cells #[v0, v1, v2, v3, v4, v5, v6, c7] t (0, 0)) := heap_setCell_same _ g 6 #[v0, v1, v2, v3, v4, v5, c6, c7] t v6 s5
  have s7 : ((((((((w.setCell ⟨g, 0, none⟩ v0).setCell ⟨g, 1, none⟩ v1).setCell ⟨g, 2, none⟩ v2).setCell ⟨g, 3, none⟩ v3).setCell ⟨g, 4, none⟩ v4).setCell ⟨g, 5, none⟩ v5).setCell ⟨g, 6, none⟩ v6).setCell ⟨g, 7, none⟩ v7).heap[g]? = some (.cells #[v0, v1, v2, v3, v4, v5, v6, v7] t (0, 0)) := heap_setCell_same _ g 7 #[v0, v1, v2, v3, v4, v5, v6, c7] t v7 s6
  exact s7
theorem below8 {B : Nat} {a w : World} (h : Below B a w) (g : Nat) (hg : B ≤ g) (v0 v1 v2 v3 v4 v5 v6 v7 : Value) : Below B a ((((((((w.setCell ⟨g, 0, none⟩ v0).setCell ⟨g, 1, none⟩ v1).setCell ⟨g, 2, none⟩ v2).setCell ⟨g, 3, none⟩ v3).setCell ⟨g, 4, none⟩ v4).setCell ⟨g, 5, none⟩ v5).setCell ⟨g, 6, none⟩ v6).setCell ⟨g, 7, none⟩ v7) :=
  (((((((h.setCell (p := ⟨g, 0, none⟩) hg _).setCell (p := ⟨g, 1, none⟩) hg _).setCell (p := ⟨g, 2, none⟩) hg _).setCell (p := ⟨g, 3, none⟩) hg _).setCell (p := ⟨g, 4, none⟩) hg _).setCell (p := ⟨g, 5, none⟩) hg _).setCell (p := ⟨g, 6, none⟩) hg _).setCell (p := ⟨g, 7, none⟩) hg _

def fin (A H : List UInt32) (k : Nat) : List UInt32 := (List.zipWith (· + ·) A H).take k ++ A.drop k
theorem fin_all (a0 a1 a2 a3 a4 a5 a6 a7 h0 h1 h2 h3 h4 h5 h6 h7 : UInt32) : fin [a0, a1, a2, a3, a4, a5, a6, a7] [h0, h1, h2, h3, h4, h5, h6, h7] 8 = [a0 + h0, a1 + h1, a2 + h2, a3 + h3, a4 + h4, a5 + h5, a6 + h6, a7 + h7] := rfl
theorem fin_cell (A H : List UInt32) (k : Nat) (hA : A.length = 8) (hH : H.length = 8) (h : k < 8) : ((fin A H k).map W32).toArray[k]? = some (.int .u32 (U (A.getD k 0))) := by
  have hz : (List.zipWith (· + ·) A H).length = 8 := by simp [hA, hH]
  have h1 : (fin A H k)[k]? = some (A.getD k 0) := by
    unfold fin
    rw [List.getElem?_append_right (by simp [hz]; omega)]
    simp only [List.length_take, hz, Nat.min_eq_left (show k ≤ 8 by omega), Nat.sub_self, List.getElem?_drop, Nat.add_zero]
    simp [List.getD, List.getElem?_eq_getElem (show k < A.length by omega)]
  simp [h1, W32]
theorem fin_set (A H : List UInt32) (k : Nat) (hA : A.length = 8) (hH : H.length = 8) (h : k < 8) : ((fin A H k).map W32).toArray.setIfInBounds k (W32 (A.getD k 0 + H.getD k 0)) = ((fin A H (k + 1)).map W32).toArray := by
  have hz : (List.zipWith (· + ·) A H).length = 8 := by simp [hA, hH]
  have e : (fin A H k).set k (A.getD k 0 + H.getD k 0) = fin A H (k + 1) := by
    unfold fin
    have hk : k < (List.zipWith (· + ·) A H).length := by omega
    rw [List.set_append_right _ _ (by simp [hz]; omega), List.take_succ_eq_append_getElem hk]
    simp only [List.length_take, hz, Nat.min_eq_left (show k ≤ 8 by omega), Nat.sub_self]
    rw [List.drop_eq_getElem_cons (show k < A.length by omega), List.set_cons_zero]
    simp [List.getD, List.getElem?_eq_getElem (show k < A.length by omega), List.getElem?_eq_getElem (show k < H.length by omega)]
  rw [List.setIfInBounds_toArray, ← List.map_set, e]
theorem lit_cell (h0 h1 h2 h3 h4 h5 h6 h7 : UInt32) (k : Nat) (h : k < 8) : (#[.int .u32 (U h0), .int .u32 (U h1), .int .u32 (U h2), .int .u32 (U h3), .int .u32 (U h4), .int .u32 (U h5), .int .u32 (U h6), .int .u32 (U h7)] : Array Value)[k]? = some (.int .u32 (U ([h0, h1, h2, h3, h4, h5, h6, h7].getD k 0))) := by
  have h8 : k = 0 ∨ k = 1 ∨ k = 2 ∨ k = 3 ∨ k = 4 ∨ k = 5 ∨ k = 6 ∨ k = 7 := by omega
  rcases h8 with rfl | rfl | rfl | rfl | rfl | rfl | rfl | rfl <;> rfl

end Go.Proofs.YtbmmibmfjhehhaaGreat
