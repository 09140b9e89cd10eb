/- Several texts in one. -/
import Derived.Test.YtbmmibmfjhehhaaV2
import Derived.Test.YtbmmibmfjhehhaaWh
import Derived.Deep.AppendLies
import Derived.Laws.AppendOwnNone
import Derived.Deep.RegionWith
import Derived.Test.YtbmmibmfjhehhaaY2
set_option linter.unusedVariables false
set_option linter.unusedSimpArgs false
/- Contract of the reference's Pad. -/
namespace Go.Proofs.Ytbmmibmfjhehhaa
open Go.RowKit

/-- How many noughts are laid behind the byte 128. -/
def zeros (n : Nat) : Nat := (119 - n % 64) % 64
/-- A number's eight bytes, the highest first. -/
def be8 (n : Nat) : List UInt8 := (List.range 8).map fun i => UInt8.ofNat (n / 256 ^ (7 - i) % 256)
/-- A message padded. -/
def padL (l : List UInt8) : List UInt8 := l ++ 128 :: List.replicate (zeros l.length) 0 ++ be8 (8 * l.length)
theorem be8_take (n k : Nat) (h : k < 8) : (be8 n).take (k + 1) = (be8 n).take k ++ [UInt8.ofNat (n / 256 ^ (7 - k) % 256)] := by
  have hl : k < (be8 n).length := by simp [be8]; exact h
  rw [List.take_succ_eq_append_getElem hl]
  simp [be8]

/-- A slice's length. -/
def lenV : Value → Nat | .slice _ n _ => n | _ => 0

theorem FB.form' {base : Nat} {w : World} {v : Value} {l : List UInt8} (h : FB base w v l) : ∃ p cap, v = .slice p l.length cap := by
  rcases h.2 with ⟨h1, h2⟩ | ⟨g, cap, cur, h1, _⟩
  · exact ⟨none, 0, by rw [h1, h2]⟩
  · exact ⟨_, cap, h1⟩

theorem HB.cells' {w : World} {v : Value} {l : List UInt8} (h : HB w v l) : ∃ p cap, v = .slice p l.length cap ∧ (p = none → l = [] ∧ cap = 0) ∧ (∀ a, p = some a → ∀ (j : Nat) u, (l.map B8)[j]? = some u → w.cell? (a.add j) = some u) := by
  rcases h with ⟨rfl, p, cap, rfl, hpc⟩ | ⟨b, o, cap, rfl, _, _, hc⟩
  · exact ⟨p, cap, rfl, fun h => ⟨rfl, hpc h⟩, fun a _ j u hu => by simp at hu⟩
  · refine ⟨_, cap, rfl, fun h => by simp at h, fun a ha j u hu => ?_⟩
    simp only [Option.some.injEq] at ha
    subst ha
    have hj : j < l.length := by
      have := (List.getElem?_eq_some_iff.1 hu).1
      simpa using this
    have hadd : (⟨b, o, none⟩ : Addr).add j = ⟨b, o + j, none⟩ := by unfold Addr.add; split <;> simp_all
    rw [hadd, hc j hj]
    rw [List.getElem?_map, List.getElem?_eq_getElem hj] at hu
    simp only [Option.map_some, Option.some.injEq] at hu
    rw [← hu]
    simp [B8, List.getD, List.getElem?_eq_getElem hj]

theorem B8_one' (l : List UInt8) : ∀ u ∈ l.map B8, u.oneCell' = true := by
  intro u hu
  obtain ⟨x, _, rfl⟩ := List.mem_map.1 hu
  rfl

theorem be8_zero : be8 0 = List.replicate 8 0 := by decide

end Go.Proofs.Ytbmmibmfjhehhaa

/- Contract of wire's Join. -/
namespace Go.Proofs.Ytbmmibmfjhehhaa
open Go.RowKit

theorem flat_take (ls : List (List UInt8)) (k : Nat) (h : k < ls.length) : (ls.take (k + 1)).flatten = (ls.take k).flatten ++ ls.getD k [] := by
  rw [List.take_succ_eq_append_getElem h, List.flatten_append]
  simp [List.getD, List.getElem?_eq_getElem h]
theorem flat_le (ls : List (List UInt8)) (k : Nat) : (ls.take k).flatten.length ≤ ls.flatten.length := by
  have h : (ls.take k ++ ls.drop k).flatten = ls.flatten := by rw [List.take_append_drop]
  rw [← h, List.flatten_append, List.length_append]; omega

set_option maxHeartbeats 2000000 in
theorem join_any (g cap : Nat) (ls : List (List UInt8)) (w : World) (hl : ls.length ≤ 1048576) (hr : ls.flatten.length ≤ 1099511627776) (hc : ∀ i, i < ls.length → ∃ u, w.cell? ⟨g, i, none⟩ = some u ∧ HB w u (ls.getD i [])) :
    Calls Try.prog 27 #[.slice (some ⟨g, 0, none⟩) ls.length cap] w fun e w' => ∃ v, e = .returned v ∧ FB w.heap.size w' v ls.flatten ∧ Below w.heap.size w w' := by
  obtain ⟨i0, hi, hz0, hz1, hz2⟩ := info_parts Try.infoU8
  have HC : Hid _ := hc
  clear hc
  go_enter Try.func27, Try.ntmps27
  go_wp2
  go_loopw [3, 8] (fun v i wr => ∃ k : Nat, k ≤ ls.length ∧ i = .int .i64 k ∧ FB w.heap.size wr v (ls.take k).flatten ∧ Below w.heap.size w wr) (fun _ i _ => ls.length - (intOf i).toNat)
  case atStart => exact ⟨0, Nat.zero_le _, rfl, World.ownsRow_nil _ _ _ _, Below.refl _ _⟩
  case round =>
    obtain ⟨k, hk, rfl, hown, hbel⟩ := hrel
    have hsz := hbel.size
    by_cases hlt : k < ls.length
    · obtain ⟨u, hu, hbu⟩ := HC.out k hlt
      have hu' : wr.cell? ⟨g, k, none⟩ = some u := (hbel.cell (block_lt hu)).trans hu
      have hbu' := hbu.below hbel
      have hft := flat_take ls k hlt
      have hle := flat_le ls (k + 1)
      rw [hft, List.length_append] at hle
      have HFT : Hid _ := hft
      clear hft hbu hu
      generalize ls.getD k [] = l at *
      generalize (ls.take k).flatten = pl at *
      obtain ⟨p, cp, rfl, hpn, hpc⟩ := hbu'.cells'
      cases p with
      | none =>
        obtain ⟨rfl, rfl⟩ := hpn rfl
        clear hpn hpc hbu'
        go_wp2_with (at_builtin; refine wpList_append_own_none rfl (.tmp 12) (.tmp 13) 57 rfl w.heap.size 5 i0 1 Try.underlying57 hi u3 _ _ rfl (by exact hown) rfl ?_)
        go_roundw
        case rel => exact ⟨k + 1, by omega, by go_num, by rw [HFT.out, List.append_nil]; exact hown, hbel⟩
        case measure => simp [intOf]; omega
      | some a =>
        have HPC : Hid _ := hpc a rfl
        clear hpn hpc hbu'
        go_wp2_with (at_builtin; refine wpList_append_own _ rfl (.tmp 12) (.tmp 13) 57 rfl w.heap.size 5 i0 (.int .u8 0) 1 1 Try.underlying57 hi hz0 hz1 hz2 rfl (by decide) u3 _ _ rfl (by exact hown) a l.length cp (l.map B8) rfl (by simp) (by exact HPC.out) (B8_one' l) (by unfold maxLen; omega) (by omega) hsz ?_; intro v1 w1 hown1 hgr1 hn1; have hb1 : Below w.heap.size w w1 := hbel.grown hgr1 hsz (fun j hj => (hown.lt j hj).1))
        go_roundw
        case rel =>
          refine ⟨k + 1, by omega, by go_num, ?_, hb1⟩
          rw [HFT.out]
          unfold FB
          rw [List.length_append, List.map_append]
          exact hown1
        case measure => simp [intOf]; omega
    · have ht : ls.take k = ls := List.take_of_length_le (by omega)
      rw [ht] at hown
      clear ht
      go_wp2
      go_ret
      exact ⟨_, rfl, hown, hbel⟩

end Go.Proofs.Ytbmmibmfjhehhaa

/- Contracts of sha's padding and Pad. -/
namespace Go.Proofs.Ytbmmibmfjhehhaa
open Go.RowKit

/-- What stands behind a message of n bytes. -/
def padT (n : Nat) : List UInt8 := 128 :: List.replicate (zeros n) 0 ++ be8 (8 * n)
theorem padL_eq (l : List UInt8) : padL l = l ++ padT l.length := by unfold padL padT; simp
theorem be8_rev (m : Nat) : (W1.le 8 m).reverse = be8 m := by
  apply List.ext_getElem?
  intro i
  have hl := W1.le_length 8 m
  by_cases h : i < 8
  · rw [List.getElem?_reverse (by omega), hl, W1.le_get 8 m _ (by omega)]
    unfold be8
    simp [List.getElem?_map, List.getElem?_range h]
  · rw [List.getElem?_eq_none (by simp [hl]; omega), List.getElem?_eq_none (by simp [be8]; omega)]
theorem HB.alloc {w : World} {v : Value} {l : List UInt8} (h : HB w v l) (o : Obj) : HB (w.alloc o) v l := h.below ((Below.refl _ _).alloc (Nat.le_refl _) o)
theorem HB.drew' {w : World} {v : Value} {l : List UInt8} (h : HB w v l) : HB w.drew v l := h.below (Below.refl _ _).drew
theorem HB.newRow (X : World) (n k : Nat) (hn : n = X.heap.size) (cs : Array Value) (l : List UInt8) (hk : k = l.length) (hcs : cs = (l.map B8).toArray) (hl : l.length ≤ 1099511627776) : HB (X.alloc (.cells cs 5)) (.slice (some ⟨n, 0, none⟩) k k) l := by
  subst hn hk
  refine .inr ⟨_, 0, _, rfl, Nat.le_refl _, by unfold maxLen; omega, fun i hi => ?_⟩
  rw [Nat.zero_add, cell_of_row _ _ i _ _ _ (heap_alloc_new X _), hcs]
  simp [B8, List.getD, List.getElem?_eq_getElem hi]

theorem FB.lower {B B' : Nat} {w : World} {v : Value} {l : List UInt8} (h : FB B w v l) (hB : B' ≤ B) : FB B' w v l := by
  refine ⟨h.1, ?_⟩
  rcases h.2 with h1 | ⟨g, cap, cur, h1, h2, h3⟩
  · exact .inl h1
  · exact .inr ⟨g, cap, cur, h1, Nat.le_trans hB h2, h3⟩
theorem below_alloc {B : Nat} {a w : World} (hB : B ≤ w.heap.size) (h : Below B a w) (o : Obj) : Below B a (w.alloc o) := h.alloc hB o
theorem below_trans {B C : Nat} {a b c : World} (k : Below C b c) (hB : B ≤ C) (h : Below B a b) : Below B a c := h.trans (k.mono hB)
theorem three_cells (X : World) (n : Nat) (a b c : Value) (la lb lc : List UInt8) (hn : n = X.heap.size) (ha : HB (X.alloc (.cells #[a, b, c] 57)) a la) (hb : HB (X.alloc (.cells #[a, b, c] 57)) b lb) (hc : HB (X.alloc (.cells #[a, b, c] 57)) c lc) :
    ∀ i, i < [la, lb, lc].length → ∃ u, (X.alloc (.cells #[a, b, c] 57)).cell? ⟨n, i, none⟩ = some u ∧ HB (X.alloc (.cells #[a, b, c] 57)) u ([la, lb, lc].getD i []) := by
  intro i hi
  subst hn
  rcases (show i = 0 ∨ i = 1 ∨ i = 2 by simp at hi; omega) with rfl | rfl | rfl
  · exact ⟨a, cell_of_row _ _ 0 _ _ _ (heap_alloc_new X _), ha⟩
  · exact ⟨b, cell_of_row _ _ 1 _ _ _ (heap_alloc_new X _), hb⟩
  · exact ⟨c, cell_of_row _ _ 2 _ _ _ (heap_alloc_new X _), hc⟩

theorem join_under (B g cap : Nat) (ls : List (List UInt8)) (w0 w : World) (hX : Below B w0 w) (hB : B ≤ w.heap.size) (hl : ls.length ≤ 1048576) (hr : ls.flatten.length ≤ 1099511627776) (hc : ∀ i, i < ls.length → ∃ u, w.cell? ⟨g, i, none⟩ = some u ∧ HB w u (ls.getD i [])) :
    Calls Try.prog 27 #[.slice (some ⟨g, 0, none⟩) ls.length cap] w fun e w' => ∃ v, e = .returned v ∧ FB B w' v ls.flatten ∧ Below B w0 w' := by
  refine (join_any g cap ls w hl hr hc).mono ?_
  rintro e w' ⟨v, rfl, h1, h2⟩
  exact ⟨v, rfl, h1.lower hB, hX.trans (h2.mono hB)⟩

set_option maxHeartbeats 4000000 in
theorem padding_any (n : Nat) (w : World) (hn : n ≤ 1099511627776) :
    Calls Try.prog 66 #[.int .i64 (n : Int)] w fun e w' => ∃ v, e = .returned v ∧ FB w.heap.size w' v (padT n) ∧ Below w.heap.size w w' := by
  obtain ⟨i0, hi, hz0, hz1, hz2⟩ := info_parts Try.infoU8
  have hZ : zeros n = 63 - (n + 8) % 64 := by unfold zeros; omega
  obtain ⟨Z, hZZ⟩ : ∃ Z, Z = zeros n := ⟨_, rfl⟩
  have hZ1 : (63 : Int) - ((n : Int) + 8) % 64 = (Z : Int) := by omega
  have hZ2 : Z ≤ 63 := by omega
  obtain ⟨ZA, hZA⟩ : ∃ ZA, ZA = madeCells #[.int .u8 0] Z := ⟨_, rfl⟩
  have hZL : ZA = ((List.replicate Z (0 : UInt8)).map B8).toArray := by
    rw [← Array.toList_inj, hZA, toList_madeCells_one]; simp [B8]
  have hmk : ∀ W, (Instr.makeSlice 57 (.int .i64 (Z : Int)) (.int .i64 (Z : Int))).run Try.prog W = .ok (.slice (some ⟨W.heap.size, 0, none⟩) Z Z) (W.alloc (.cells ZA 5)) := fun W => by
    rw [run_make W 57 5 i0 (.int .u8 0) Try.underlying57 hi hz0 .i64 .i64 _ _ (by omega) (by omega) (by rw [hz2]; omega) (by omega), hz1, Int.toNat_natCast, Nat.mul_one, hZA]
    rfl
  have hput := put_ok (8 * n) 8 
  have hpt : padT n = [([128] : List UInt8), List.replicate Z 0, (W1.le 8 (8 * n)).reverse].flatten := by rw [be8_rev, hZZ]; unfold padT; simp
  have h8n : ((8 * n : Nat) : Int) = 8 * (n : Int) := by omega
  have HZL : Hid _ := hZL
  have HPT : Hid _ := hpt
  have hfl : [([128] : List UInt8), List.replicate Z 0, (W1.le 8 (8 * n)).reverse].flatten.length ≤ 1099511627776 := by simp [W1.le_length]; omega
  have HFL : Hid _ := hfl
  have hpw := fun W => put_ok (8 * n) 8 W (by decide) (by decide) (by omega) (by show 8 * n < 18446744073709551616; omega)
  rw [h8n] at hpw
  have hLl : (W1.le 8 (8 * n)).length = 8 := W1.le_length _ _
  generalize W1.le 8 (8 * n) = L at *
  have HLL : Hid _ := hLl
  clear hZ hZZ hZA hZL hput hpt h8n hfl hi hz0 hz1 hz2 hLl
  go_enter Try.func66, Try.ntmps66
  go_wp2_with fail
  refine (hpw _).mono ?_
  rintro e w1 ⟨rfl, hfb, hb1⟩
  have hhb := hfb.hb
  have HHB : Hid _ := hhb
  have hs1 := hb1.size
  clear hpw hfb hhb
  go_wp2
  go_region_with (first
    | (go_at_call 74; refine (turned_any (.slice (some ⟨w.heap.size, 0, none⟩) 8 8) L _ (by rw [HLL.out]; decide) (by repeat (first | exact HHB.out | refine HB.alloc ?_ _ | refine HB.drew' ?_))).mono ?_; rintro e wt ⟨rfl, hfT, hbT⟩; have hT' := hfT.hb; clear hfT; (try rw [HLL.out] at hT'); simp at hT'; rw [HLL.out])
    | (go_at_call 27; refine (join_under w.heap.size _ _ [[128], List.replicate Z 0, L.reverse] w _ ?_ ?_ (by simp) HFL.out ?_).mono ?_; (focus (repeat (first | with_reducible exact hb1 | (with_reducible refine Below.drew ?_) | ((with_reducible refine below_alloc ?_ ?_ _); (first | (focus (simp; omega)) | (focus (simp; done)) | (have := hbT.size; simp at this ⊢; omega))) | ((with_reducible refine below_trans hbT ?_ ?_); (first | (focus (simp; omega)) | (focus (simp; done))))))); (first | (focus (simp; omega)) | (focus (simp; done)) | (have := hbT.size; simp at this ⊢; omega)); (refine three_cells _ _ _ _ _ _ _ _ ?_ ?_ ?_ ?_; (focus (simp; done)); (focus (repeat (first | ((with_reducible refine HB.newRow _ _ _ ?_ _ _ ?_ ?_ ?_); (focus (simp; done)); rfl; rfl; decide) | (with_reducible refine HB.alloc ?_ _) | (with_reducible refine HB.drew' ?_) | (with_reducible refine HB.below ?_ hbT)))); (focus (repeat (first | ((with_reducible refine HB.newRow _ _ _ ?_ _ _ ?_ ?_ ?_); (focus (simp; done)); (focus (simp; done)); exact HZL.out; (focus (simp; omega))) | (with_reducible refine HB.alloc ?_ _) | (with_reducible refine HB.drew' ?_) | (with_reducible refine HB.below ?_ hbT)))); (focus (repeat (first | with_reducible exact hT' | (with_reducible refine HB.alloc ?_ _) | (with_reducible refine HB.drew' ?_) | (with_reducible refine HB.below ?_ hbT))))); rintro e wj ⟨vj, rfl, hfJ, hbJ⟩))
  all_goals
    go_wp2
    go_ret
    rw [HPT.out]
    exact ⟨_, rfl, hfJ, hbJ⟩

end Go.Proofs.Ytbmmibmfjhehhaa

/- Contract of sha's Pad. -/
namespace Go.Proofs.Ytbmmibmfjhehhaa
open Go.RowKit

theorem two_cells (X : World) (n : Nat) (a b : Value) (la lb : List UInt8) (hn : n = X.heap.size) (ha : HB (X.alloc (.cells #[a, b] 57)) a la) (hb : HB (X.alloc (.cells #[a, b] 57)) b lb) :
    ∀ i, i < [la, lb].length → ∃ u, (X.alloc (.cells #[a, b] 57)).cell? ⟨n, i, none⟩ = some u ∧ HB (X.alloc (.cells #[a, b] 57)) u ([la, lb].getD i []) := by
  intro i hi
  subst hn
  rcases (show i = 0 ∨ i = 1 by simp at hi; omega) with rfl | rfl
  · exact ⟨a, cell_of_row _ _ 0 _ _ _ (heap_alloc_new X _), ha⟩
  · exact ⟨b, cell_of_row _ _ 1 _ _ _ (heap_alloc_new X _), hb⟩

set_option maxHeartbeats 1000000 in
theorem shaPad_any (v : Value) (l : List UInt8) (w : World) (hr : l.length ≤ 4294967296) (h : HB w v l) :
    Calls Try.prog 53 #[v] w fun e w' => ∃ v', e = .returned v' ∧ FB w.heap.size w' v' (padL l) ∧ Below w.heap.size w w' := by
  have HV : Hid _ := h
  obtain ⟨p, cap, rfl, _, _⟩ := h.cells'
  have hfl : [l, padT l.length].flatten.length ≤ 1099511627776 := by
    unfold padT zeros; simp [be8]; omega
  have HFL : Hid _ := hfl
  have HPL : Hid _ := show padL l = [l, padT l.length].flatten by rw [padL_eq]; simp
  clear h hfl
  go_enter Try.func53, Try.ntmps53
  go_wp2_with fail
  refine (padding_any l.length _ (by omega)).mono ?_
  rintro e w1 ⟨v1, rfl, hf1, hb1⟩
  have hs1 := hb1.size
  have HV1 : Hid _ := HB.below HV.out hb1
  obtain ⟨p1, c1, rfl⟩ := hf1.form'
  have HF1 : Hid _ := hf1.hb
  clear hf1
  go_wp2_with fail
  refine (join_under w.heap.size _ _ [l, padT l.length] w _ (below_alloc (by omega) hb1 _) (by simp; omega) (by simp) HFL.out (two_cells _ _ _ _ _ _ rfl (HB.alloc HV1.out _) (HB.alloc HF1.out _))).mono ?_
  rintro e wj ⟨vj, rfl, hfJ, hbJ⟩
  go_wp2
  go_ret
  rw [HPL.out]
  exact ⟨_, rfl, hfJ, hbJ⟩

end Go.Proofs.Ytbmmibmfjhehhaa

/- The reference's roots and primes, and its constants. -/
namespace Go.Proofs.Ytbmmibmfjhehhaa
open Go.RowKit

/-- Is x to the power n (2 or 3), 32 bits of it behind the point, at most p? -/
def powB (n x p : Nat) : Bool := if n = 2 then decide (x * x ≤ p * 18446744073709551616) else decide (x * x * x ≤ p * Q96)
/-- The root, bit by bit, behind j bits. -/
def rto (n p : Nat) : Nat → Nat
  | 0 => 0
  | j + 1 => if powB n (rto n p j + 2 ^ (37 - j)) p then rto n p j + 2 ^ (37 - j) else rto n p j

theorem rto_bound (n p j : Nat) (hj : j ≤ 38) : rto n p j + 2 ^ (38 - j) ≤ 2 ^ 38 := by
  induction j with
  | zero => simp [rto]
  | succ j ih =>
    have h1 := ih (by omega)
    have e : 2 ^ (38 - j) = 2 ^ (37 - j) + 2 ^ (37 - j) := by rw [show 38 - j = (37 - j) + 1 by omega, Nat.pow_succ]; omega
    rw [show 38 - (j + 1) = 37 - j by omega]
    have hp : 0 < 2 ^ (37 - j) := Nat.pow_pos (by decide)
    simp only [rto]
    split <;> omega

/-- The i-th prime, from 0 on. -/
def prim (i : Nat) : Nat := P64.getD i 0
/-- No number from 2 on, below k, goes into n. -/
def noDiv (n k : Nat) : Bool := (List.range k).all fun j => decide (j < 2) || n % j != 0
def isP (n : Nat) : Bool := decide (2 ≤ n) && noDiv n n
/-- How many primes there are up to n. -/
def cnt : Nat → Nat
  | 0 => 0
  | n + 1 => cnt n + if isP (n + 1) then 1 else 0
theorem noDiv_succ (n k : Nat) (h : 2 ≤ k) : noDiv n (k + 1) = (noDiv n k && (n % k != 0)) := by
  unfold noDiv; rw [List.range_succ, List.all_append]
  simp only [List.all_cons, List.all_nil, Bool.and_true]
  rw [decide_eq_false (show ¬ k < 2 by omega)]; rfl
theorem noDiv_two (n : Nat) : noDiv n 2 = true := by simp [noDiv, List.range_succ]
theorem tabA : ((List.range 312).all fun n => (List.range 19).all fun k => !(decide (2 ≤ n) && decide (2 ≤ k) && decide (n < k * k) && (decide (k = 2) || decide ((k - 1) * (k - 1) ≤ n))) || (noDiv n k == isP n)) = true := by decide +kernel
theorem tabB : ((List.range 312).all fun n => !(isP n) || (P64.getD (cnt n - 1) 0 == n)) = true := by decide +kernel
theorem tabC : ((List.range 312).all fun n => decide (n = 311) || decide (cnt n ≤ 63)) = true ∧ cnt 311 = 64 := by decide +kernel
theorem isP_of (n k : Nat) (h2 : 2 ≤ n) (hn : n ≤ 311) (hk : 2 ≤ k) (h1 : n < k * k) (h3 : k = 2 ∨ (k - 1) * (k - 1) ≤ n) : noDiv n k = isP n := by
  have hk18 : k ≤ 18 := by
    rcases Nat.lt_or_ge k 19 with h | h
    · omega
    · rcases h3 with h3 | h3
      · omega
      · have : 18 * 18 ≤ (k - 1) * (k - 1) := Nat.mul_le_mul (by omega) (by omega)
        omega
  have t := tabA
  rw [List.all_eq_true] at t
  have t1 := t n (List.mem_range.2 (by omega))
  rw [List.all_eq_true] at t1
  have t2 := t1 k (List.mem_range.2 (by omega))
  have t3 : ¬k = 2 ∧ n < (k - 1) * (k - 1) ∨ noDiv n k = isP n := by simpa [h2, hk, h1] using t2
  rcases t3 with ⟨t4, t5⟩ | t4
  · rcases h3 with h3 | h3
    · exact absurd h3 t4
    · omega
  · exact t4
theorem cnt_small (n : Nat) (hn : n ≤ 311) (h : cnt n ≤ 63) : n ≤ 310 := by
  rcases Nat.lt_or_ge n 311 with h1 | h1
  · omega
  · have : n = 311 := by omega
    subst this
    have := tabC.2
    omega
theorem prime_is (n : Nat) (hn : n ≤ 311) (h : isP n = true) : prim (cnt n - 1) = n := by
  have t := tabB
  rw [List.all_eq_true] at t
  have t1 := t n (List.mem_range.2 (by omega))
  unfold prim
  simpa [h] using t1

end Go.Proofs.Ytbmmibmfjhehhaa

/- Contracts of the reference's Constant, Start and Constants. -/
namespace Go.Proofs.Ytbmmibmfjhehhaa
open Go.RowKit

/-- The i-th constant; none: 0. -/
def konst (i : Int) : UInt32 := if 0 ≤ i ∧ i ≤ 63 then K64.getD i.toNat 0 else 0
/-- The i-th word of the start; none: 0. -/
def start (i : Int) : UInt32 := if 0 ≤ i ∧ i ≤ 7 then H8.getD i.toNat 0 else 0
theorem tabK : ((List.range 64).all fun i => UInt32.ofNat (rto 3 (prim i) 38) == K64.getD i 0) = true := by decide +kernel
theorem tabH : ((List.range 8).all fun i => UInt32.ofNat (rto 2 (prim i) 38) == H8.getD i 0) = true := by decide +kernel
theorem tabP : ((List.range 64).all fun i => decide (prim i < 4294967296)) = true := by decide +kernel
theorem konst_in (i : Nat) (h : i ≤ 63) : UInt32.ofNat (rto 3 (prim i) 38) = konst (i : Int) := by
  have t := tabK
  rw [List.all_eq_true] at t
  have t1 := t i (List.mem_range.2 (by omega))
  unfold konst
  rw [if_pos (by omega), Int.toNat_natCast]
  simpa using t1
theorem start_in (i : Nat) (h : i ≤ 7) : UInt32.ofNat (rto 2 (prim i) 38) = start (i : Int) := by
  have t := tabH
  rw [List.all_eq_true] at t
  have t1 := t i (List.mem_range.2 (by omega))
  unfold start
  rw [if_pos (by omega), Int.toNat_natCast]
  simpa using t1
theorem prim_lt (i : Nat) (h : i ≤ 63) : prim i < 4294967296 := by
  have t := tabP
  rw [List.all_eq_true] at t
  simpa using t i (List.mem_range.2 (by omega))
theorem konst_out (i : Int) (h : i < 0 ∨ 63 < i) : konst i = 0 := by unfold konst; rw [if_neg (by omega)]
theorem start_out (i : Int) (h : i < 0 ∨ 7 < i) : start i = 0 := by unfold start; rw [if_neg (by omega)]

theorem K64_take (k : Nat) (h : k < 64) : K64.take (k + 1) = K64.take k ++ [konst (k : Int)] := by
  have hl : k < K64.length := h
  rw [List.take_succ_eq_append_getElem hl]
  unfold konst
  rw [if_pos (by omega), Int.toNat_natCast]
  simp [List.getD, List.getElem?_eq_getElem hl]

end Go.Proofs.Ytbmmibmfjhehhaa
