/- Contracts of sha's padding and Pad. -/
import Derived.Test.YtbmgfllilcdgcaaJ3
import Derived.Deep.RegionWith
set_option linter.unusedVariables false
set_option linter.unusedSimpArgs false
namespace Go.Proofs.Ytbmgfllilcdgcaa
open Go.RowKit

/-- What stands behind a message of n bytes. -/
def padT (n : Nat) : List UInt8 := 128 :: List.replicate (zeros n) 0 ++ be8 (8 * n)
theorem padL_eq (l : List UInt8) : padL l = l ++ padT l.length := by unfold padL padT; simp
theorem be8_rev (m : Nat) : (W1.le 8 m).reverse = be8 m := by
  apply List.ext_getElem?
  intro i
  have hl := W1.le_length 8 m
  by_cases h : i < 8
  · rw [List.getElem?_reverse (by omega), hl, W1.le_get 8 m _ (by omega)]
    unfold be8
    simp [List.getElem?_map, List.getElem?_range h]
  · rw [List.getElem?_eq_none (by simp [hl]; omega), List.getElem?_eq_none (by simp [be8]; omega)]
theorem HB.alloc {w : World} {v : Value} {l : List UInt8} (h : HB w v l) (o : Obj) : HB (w.alloc o) v l := h.below ((Below.refl _ _).alloc (Nat.le_refl _) o)
theorem HB.drew' {w : World} {v : Value} {l : List UInt8} (h : HB w v l) : HB w.drew v l := h.below (Below.refl _ _).drew
theorem HB.newRow (X : World) (n k : Nat) (hn : n = X.heap.size) (cs : Array Value) (l : List UInt8) (hk : k = l.length) (hcs : cs = (l.map B8).toArray) (hl : l.length ≤ 1099511627776) : HB (X.alloc (.cells cs 5)) (.slice (some ⟨n, 0, none⟩) k k) l := by
  subst hn hk
  refine .inr ⟨_, 0, _, rfl, Nat.le_refl _, by unfold maxLen; omega, fun i hi => ?_⟩
  rw [Nat.zero_add, cell_of_row _ _ i _ _ _ (heap_alloc_new X _), hcs]
  simp [B8, List.getD, List.getElem?_eq_getElem hi]

theorem FB.lower {B B' : Nat} {w : World} {v : Value} {l : List UInt8} (h : FB B w v l) (hB : B' ≤ B) : FB B' w v l := by
  refine ⟨h.1, ?_⟩
  rcases h.2 with h1 | ⟨g, cap, cur, h1, h2, h3⟩
  · exact .inl h1
  · exact .inr ⟨g, cap, cur, h1, Nat.le_trans hB h2, h3⟩
theorem below_alloc {B : Nat} {a w : World} (hB : B ≤ w.heap.size) (h : Below B a w) (o : Obj) : Below B a (w.alloc o) := h.alloc hB o
theorem below_trans {B C : Nat} {a b c : World} (k : Below C b c) (hB : B ≤ C) (h : Below B a b) : Below B a c := h.trans (k.mono hB)
theorem three_cells (X : World) (n : Nat) (a b c : Value) (la lb lc : List UInt8) (hn : n = X.heap.size) (ha : HB (X.alloc (.cells #[a, b, c] 31)) a la) (hb : HB (X.alloc (.cells #[a, b, c] 31)) b lb) (hc : HB (X.alloc (.cells #[a, b, c] 31)) c lc) :
    ∀ i, i < [la, lb, lc].length → ∃ u, (X.alloc (.cells #[a, b, c] 31)).cell? ⟨n, i, none⟩ = some u ∧ HB (X.alloc (.cells #[a, b, c] 31)) u ([la, lb, lc].getD i []) := by
  intro i hi
  subst hn
  rcases (show i = 0 ∨ i = 1 ∨ i = 2 by simp at hi; omega) with rfl | rfl | rfl
  · exact ⟨a, cell_of_row _ _ 0 _ _ _ (heap_alloc_new X _), ha⟩
  · exact ⟨b, cell_of_row _ _ 1 _ _ _ (heap_alloc_new X _), hb⟩
  · exact ⟨c, cell_of_row _ _ 2 _ _ _ (heap_alloc_new X _), hc⟩

theorem join_under (B g cap : Nat) (ls : List (List UInt8)) (w0 w : World) (hX : Below B w0 w) (hB : B ≤ w.heap.size) (hl : ls.length ≤ 1048576) (hr : ls.flatten.length ≤ 1099511627776) (hc : ∀ i, i < ls.length → ∃ u, w.cell? ⟨g, i, none⟩ = some u ∧ HB w u (ls.getD i [])) :
    Calls Try.prog 30 #[.slice (some ⟨g, 0, none⟩) ls.length cap] w fun e w' => ∃ v, e = .returned v ∧ FB B w' v ls.flatten ∧ Below B w0 w' := by
  refine (join_any g cap ls w hl hr hc).mono ?_
  rintro e w' ⟨v, rfl, h1, h2⟩
  exact ⟨v, rfl, h1.lower hB, hX.trans (h2.mono hB)⟩

set_option maxHeartbeats 4000000 in
theorem padding_any (n : Nat) (w : World) (hn : n ≤ 1099511627776) :
    Calls Try.prog 66 #[.int .i64 (n : Int)] w fun e w' => ∃ v, e = .returned v ∧ FB w.heap.size w' v (padT n) ∧ Below w.heap.size w w' := by
  obtain ⟨i0, hi, hz0, hz1, hz2⟩ := info_parts Try.infoU8
  have hZ : zeros n = 63 - (n + 8) % 64 := by unfold zeros; omega
  obtain ⟨Z, hZZ⟩ : ∃ Z, Z = zeros n := ⟨_, rfl⟩
  have hZ1 : (63 : Int) - ((n : Int) + 8) % 64 = (Z : Int) := by omega
  have hZ2 : Z ≤ 63 := by omega
  obtain ⟨ZA, hZA⟩ : ∃ ZA, ZA = madeCells #[.int .u8 0] Z := ⟨_, rfl⟩
  have hZL : ZA = ((List.replicate Z (0 : UInt8)).map B8).toArray := by
    rw [← Array.toList_inj, hZA, toList_madeCells_one]; simp [B8]
  have hmk : ∀ W, (Instr.makeSlice 31 (.int .i64 (Z : Int)) (.int .i64 (Z : Int))).run Try.prog W = .ok (.slice (some ⟨W.heap.size, 0, none⟩) Z Z) (W.alloc (.cells ZA 5)) := fun W => by
    rw [run_make W 31 5 i0 (.int .u8 0) Try.underlying31 hi hz0 .i64 .i64 _ _ (by omega) (by omega) (by rw [hz2]; omega) (by omega), hz1, Int.toNat_natCast, Nat.mul_one, hZA]
    rfl
  have hput := put_ok (8 * n) 8 
  have hpt : padT n = [([128] : List UInt8), List.replicate Z 0, (W1.le 8 (8 * n)).reverse].flatten := by rw [be8_rev, hZZ]; unfold padT; simp
  have h8n : ((8 * n : Nat) : Int) = 8 * (n : Int) := by omega
  have HZL : Hid _ := hZL
  have HPT : Hid _ := hpt
  have hfl : [([128] : List UInt8), List.replicate Z 0, (W1.le 8 (8 * n)).reverse].flatten.length ≤ 1099511627776 := by simp [W1.le_length]; omega
  have HFL : Hid _ := hfl
  have hpw := fun W => put_ok (8 * n) 8 W (by decide) (by decide) (by omega) (by show 8 * n < 18446744073709551616; omega)
  rw [h8n] at hpw
  have hLl : (W1.le 8 (8 * n)).length = 8 := W1.le_length _ _
  generalize W1.le 8 (8 * n) = L at *
  have HLL : Hid _ := hLl
  clear hZ hZZ hZA hZL hput hpt h8n hfl hi hz0 hz1 hz2 hLl
  go_enter Try.func66, Try.ntmps66
  go_wp2_with fail
  refine (hpw _).mono ?_
  rintro e w1 ⟨rfl, hfb, hb1⟩
  have hhb := hfb.hb
  have HHB : Hid _ := hhb
  have hs1 := hb1.size
  clear hpw hfb hhb
  go_wp2
  go_region_with (first
    | (go_at_call 74; refine (turned_any (.slice (some ⟨w.heap.size, 0, none⟩) 8 8) L _ (by rw [HLL.out]; decide) (by repeat (first | exact HHB.out | refine HB.alloc ?_ _ | refine HB.drew' ?_))).mono ?_; rintro e wt ⟨rfl, hfT, hbT⟩; have hT' := hfT.hb; clear hfT; (try rw [HLL.out] at hT'); simp at hT'; rw [HLL.out])
    | (go_at_call 30; refine (join_under w.heap.size _ _ [[128], List.replicate Z 0, L.reverse] w _ ?_ ?_ (by simp) HFL.out ?_).mono ?_; (focus (repeat (first | with_reducible exact hb1 | (with_reducible refine Below.drew ?_) | ((with_reducible refine below_alloc ?_ ?_ _); (first | (focus (simp; omega)) | (focus (simp; done)) | (have := hbT.size; simp at this ⊢; omega))) | ((with_reducible refine below_trans hbT ?_ ?_); (first | (focus (simp; omega)) | (focus (simp; done))))))); (first | (focus (simp; omega)) | (focus (simp; done)) | (have := hbT.size; simp at this ⊢; omega)); (refine three_cells _ _ _ _ _ _ _ _ ?_ ?_ ?_ ?_; (focus (simp; done)); (focus (repeat (first | ((with_reducible refine HB.newRow _ _ _ ?_ _ _ ?_ ?_ ?_); (focus (simp; done)); rfl; rfl; decide) | (with_reducible refine HB.alloc ?_ _) | (with_reducible refine HB.drew' ?_) | (with_reducible refine HB.below ?_ hbT)))); (focus (repeat (first | ((with_reducible refine HB.newRow _ _ _ ?_ _ _ ?_ ?_ ?_); (focus (simp; done)); (focus (simp; done)); exact HZL.out; (focus (simp; omega))) | (with_reducible refine HB.alloc ?_ _) | (with_reducible refine HB.drew' ?_) | (with_reducible refine HB.below ?_ hbT)))); (focus (repeat (first | with_reducible exact hT' | (with_reducible refine HB.alloc ?_ _) | (with_reducible refine HB.drew' ?_) | (with_reducible refine HB.below ?_ hbT))))); rintro e wj ⟨vj, rfl, hfJ, hbJ⟩))
  all_goals
    go_wp2
    go_ret
    rw [HPT.out]
    exact ⟨_, rfl, hfJ, hbJ⟩

end Go.Proofs.Ytbmgfllilcdgcaa
