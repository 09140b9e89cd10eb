/- Several texts in one. -/
import Derived.Test.YtbmmibmfjhehhaaGreatD3
import Derived.Test.YtbmmibmfjhehhaaGreatY2
import Derived.Great.BuildSlice
import Derived.Laws.CopyOwn
import Derived.Test.YtbmmibmfjhehhaaGreatS2
import Derived.Deep.RegionHeld3
import Derived.Deep.RegionWith
set_option linter.unusedVariables false
set_option linter.unusedSimpArgs false
/- Contracts of sha's roots: the tests of a root, the closures over them, and the greatest number for which one holds. -/
namespace Go.Proofs.YtbmmibmfjhehhaaGreat
open Go.RowKit

def sqB (p x : Nat) : Bool := decide (x * x / 18446744073709551616 < p)
def cbB (p x : Nat) : Bool := decide ((((x * x / 18446744073709551616) * x % 18446744073709551616 + (x * x % 18446744073709551616) * x / 18446744073709551616) % 18446744073709551616) / 4294967296 < p)

set_option maxHeartbeats 1000000 in
theorem square_any (x p : Nat) (hx : x < 18446744073709551616) (hp : p < 18446744073709551616) (w : World) :
    Calls Tryz.prog 100 #[.int .u64 (x : Int), .int .u64 (p : Int)] w fun e w' => e = .returned (.bool (sqB p x)) ∧ w = w' := by
  obtain ⟨H, hH⟩ : ∃ H, H = x * x / 18446744073709551616 := ⟨_, rfl⟩
  obtain ⟨L, hL⟩ : ∃ L, L = x * x % 18446744073709551616 := ⟨_, rfl⟩
  have hm := mul64_any x x hx hx w
  rw [← hH, ← hL] at hm
  have hs : sqB p x = decide (H < p) := by unfold sqB; rw [hH]
  have HS : Hid _ := hs
  clear hH hL hs
  by_cases h : H < p
  · have h' : (H : Int) < (p : Int) := by omega
    go_enter Tryz.func100, Tryz.ntmps100
    go_wp2_with fail
    refine hm.mono ?_
    rintro e wx ⟨rfl, rfl⟩
    go_wp2
    go_ret
    exact ⟨retB (by rw [HS.out]; simp [h]), rfl⟩
  · have h' : ¬ (H : Int) < (p : Int) := by omega
    go_enter Tryz.func100, Tryz.ntmps100
    go_wp2_with fail
    refine hm.mono ?_
    rintro e wx ⟨rfl, rfl⟩
    go_wp2
    go_ret
    exact ⟨retB (by rw [HS.out]; simp [h]), rfl⟩

set_option maxHeartbeats 1000000 in
theorem cube_any (x p : Nat) (hx : x < 18446744073709551616) (hp : p < 18446744073709551616) (w : World) :
    Calls Tryz.prog 113 #[.int .u64 (x : Int), .int .u64 (p : Int)] w fun e w' => e = .returned (.bool (cbB p x)) ∧ w = w' := by
  obtain ⟨H, hH⟩ : ∃ H, H = x * x / 18446744073709551616 := ⟨_, rfl⟩
  obtain ⟨L, hL⟩ : ∃ L, L = x * x % 18446744073709551616 := ⟨_, rfl⟩
  obtain ⟨H2, hH2⟩ : ∃ H2, H2 = L * x / 18446744073709551616 := ⟨_, rfl⟩
  obtain ⟨L2, hL2⟩ : ∃ L2, L2 = L * x % 18446744073709551616 := ⟨_, rfl⟩
  obtain ⟨M, hM⟩ : ∃ M, M = H * x := ⟨_, rfl⟩
  have hm := mul64_any x x hx hx w
  have hm2 := mul64_any L x (by omega) hx w
  rw [← hH, ← hL] at hm
  rw [← hH2, ← hL2] at hm2
  have hs : cbB p x = decide (((M % 18446744073709551616 + H2) % 18446744073709551616) / 4294967296 < p) := by unfold cbB; rw [hM, hH2, hH, hL]
  have hM' : (H : Int) * (x : Int) = (M : Int) := by rw [hM]; simp
  have HS : Hid _ := hs
  clear hH hL hH2 hL2 hM hs
  go_enter Tryz.func113, Tryz.ntmps113
  go_wp2_with fail
  refine hm.mono ?_
  rintro e wx ⟨rfl, rfl⟩
  go_wp2_with fail
  refine hm2.mono ?_
  rintro e wx ⟨rfl, rfl⟩
  go_wp2
  go_ret
  exact ⟨retB (by rw [HS.out]; simp only [IntKind.wrap_u64]; exact decide_eq_decide.2 (by omega)), rfl⟩

set_option maxHeartbeats 400000 in
theorem squareOf_any (x p g : Nat) (hx : x < 18446744073709551616) (hp : p < 18446744073709551616) (w : World) (hc : w.cell? ⟨g, 0, none⟩ = some (.int .u64 (p : Int))) :
    Calls Tryz.prog 99 #[.int .u64 (x : Int), .pointer (some ⟨g, 0, none⟩)] w fun e w' => e = .returned (.bool (sqB p x)) ∧ w = w' := by
  go_enter Tryz.func99, Tryz.ntmps99
  go_wp2_with fail
  refine (square_any x p hx hp w).mono ?_
  rintro e wx ⟨rfl, rfl⟩
  go_wp2
  go_ret
  exact ⟨rfl, rfl⟩

set_option maxHeartbeats 400000 in
theorem cubeOf_any (x p g : Nat) (hx : x < 18446744073709551616) (hp : p < 18446744073709551616) (w : World) (hc : w.cell? ⟨g, 0, none⟩ = some (.int .u64 (p : Int))) :
    Calls Tryz.prog 112 #[.int .u64 (x : Int), .pointer (some ⟨g, 0, none⟩)] w fun e w' => e = .returned (.bool (cbB p x)) ∧ w = w' := by
  go_enter Tryz.func112, Tryz.ntmps112
  go_wp2_with fail
  refine (cube_any x p hx hp w).mono ?_
  rintro e wx ⟨rfl, rfl⟩
  go_wp2
  go_ret
  exact ⟨rfl, rfl⟩

theorem M64.orN (a k : Nat) (hk : k < 35) (ha : a < 18446744073709551616) : bits .or .u64 (a : Int) (IntKind.u64.wrap (2 ^ (34 - k))) = ((a ||| 2 ^ (34 - k) : Nat) : Int) := by
  have h2 : 2 ^ (34 - k) < 18446744073709551616 := Nat.lt_of_lt_of_le (show 2 ^ (34 - k) < 2 ^ 35 from Nat.pow_lt_pow_right (by decide) (by omega)) (by decide)
  have h := bits_or_u64_nat a (2 ^ (34 - k)) ha h2
  rw [← h]
  have e : ((2 : Int) ^ (34 - k)) = ((2 ^ (34 - k) : Nat) : Int) := by simp
  rw [e, M64.wrapN _ h2]

def grt (f : Nat → Bool) : Nat → Nat
  | 0 => 0
  | i + 1 => if f (grt f i ||| 2 ^ (34 - i)) then grt f i ||| 2 ^ (34 - i) else grt f i
theorem grt_lt (f : Nat → Bool) (i : Nat) : grt f i < 34359738368 := by
  induction i with
  | zero => show 0 < _; decide
  | succ i ih =>
    unfold grt
    split
    · exact Nat.or_lt_two_pow (n := 35) ih (Nat.pow_lt_pow_right (by decide) (by omega))
    · exact ih

theorem grt_yes (f : Nat → Bool) (i y : Nat) (hy : y = grt f i ||| 2 ^ (34 - i)) (h : f y = true) : grt f (i + 1) = y := by
  subst hy; show (if _ then _ else _) = _; rw [if_pos h]
theorem grt_no (f : Nat → Bool) (i y : Nat) (hy : y = grt f i ||| 2 ^ (34 - i)) (h : f y = false) : grt f (i + 1) = grt f i := by
  subst hy; show (if _ then _ else _) = _; rw [if_neg (by rw [h]; decide)]

set_option maxHeartbeats 1000000 in
theorem greatestConstants_any (f : Nat → Bool) (g : Nat) (w : World) (hf : ∀ y : Nat, y < 34359738368 → Calls Tryz.prog 112 #[.int .u64 (y : Int), .pointer (some ⟨g, 0, none⟩)] w fun e w' => e = .returned (.bool (f y)) ∧ w = w') :
    Calls Tryz.prog 98 #[.func (.func 112) #[] #[.pointer (some ⟨g, 0, none⟩)]] w fun e w' => e = .returned (.int .u64 ((grt f 35 : Nat) : Int)) ∧ w = w' := by
  go_enter Tryz.func98, Tryz.ntmps98
  go_wp2
  go_loop [3, 6] (fun x i => ∃ k : Nat, k ≤ 35 ∧ i = .int .i64 k ∧ x = .int .u64 ((grt f k : Nat) : Int)) (fun _ i => 35 - (intOf i).toNat)
  case atStart => exact ⟨0, by omega, rfl, rfl⟩
  case round =>
    obtain ⟨k, hk, rfl, rfl⟩ := hrel
    by_cases hlt : k < 35
    · obtain ⟨y, hy⟩ : ∃ y, y = grt f k ||| 2 ^ (34 - k) := ⟨_, rfl⟩
      have hyl : y < 34359738368 := by rw [hy]; exact Nat.or_lt_two_pow (n := 35) (grt_lt f k) (Nat.pow_lt_pow_right (by decide) (by omega))
      have hg := grt_lt f k
      have hfy := hf y hyl
      have HG1 : Hid _ := grt_yes f k y hy
      have HG0 : Hid _ := grt_no f k y hy
      have hor := M64.orN (grt f k) k hlt (by omega)
      rw [← hy] at hor
      have HF : Hid _ := hf
      clear hf
      cases hb : f y with
      | true =>
        rw [hb] at hfy
        have HG : Hid _ := HG1.out hb
        clear hb hy HG1 HG0
        go_wp2_with fail
        refine hfy.mono ?_
        rintro e wx ⟨rfl, rfl⟩
        go_wp2
        go_round
        case rel => exact ⟨k + 1, by omega, by go_num, by rw [HG.out]⟩
        case measure => simp [intOf]; omega
      | false =>
        rw [hb] at hfy
        have HG : Hid _ := HG0.out hb
        clear hb hy HG1 HG0
        go_wp2_with fail
        refine hfy.mono ?_
        rintro e wx ⟨rfl, rfl⟩
        go_wp2
        go_round
        case rel => exact ⟨k + 1, by omega, by go_num, by rw [HG.out]⟩
        case measure => simp [intOf]; omega
    · have hk35 : k = 35 := by omega
      subst hk35
      go_wp2
      go_ret
      exact ⟨rfl, rfl⟩

set_option maxHeartbeats 1000000 in
theorem greatestStarts_any (f : Nat → Bool) (g : Nat) (w : World) (hf : ∀ y : Nat, y < 34359738368 → Calls Tryz.prog 99 #[.int .u64 (y : Int), .pointer (some ⟨g, 0, none⟩)] w fun e w' => e = .returned (.bool (f y)) ∧ w = w') :
    Calls Tryz.prog 98 #[.func (.func 99) #[] #[.pointer (some ⟨g, 0, none⟩)]] w fun e w' => e = .returned (.int .u64 ((grt f 35 : Nat) : Int)) ∧ w = w' := by
  go_enter Tryz.func98, Tryz.ntmps98
  go_wp2
  go_loop [3, 6] (fun x i => ∃ k : Nat, k ≤ 35 ∧ i = .int .i64 k ∧ x = .int .u64 ((grt f k : Nat) : Int)) (fun _ i => 35 - (intOf i).toNat)
  case atStart => exact ⟨0, by omega, rfl, rfl⟩
  case round =>
    obtain ⟨k, hk, rfl, rfl⟩ := hrel
    by_cases hlt : k < 35
    · obtain ⟨y, hy⟩ : ∃ y, y = grt f k ||| 2 ^ (34 - k) := ⟨_, rfl⟩
      have hyl : y < 34359738368 := by rw [hy]; exact Nat.or_lt_two_pow (n := 35) (grt_lt f k) (Nat.pow_lt_pow_right (by decide) (by omega))
      have hg := grt_lt f k
      have hfy := hf y hyl
      have HG1 : Hid _ := grt_yes f k y hy
      have HG0 : Hid _ := grt_no f k y hy
      have hor := M64.orN (grt f k) k hlt (by omega)
      rw [← hy] at hor
      have HF : Hid _ := hf
      clear hf
      cases hb : f y with
      | true =>
        rw [hb] at hfy
        have HG : Hid _ := HG1.out hb
        clear hb hy HG1 HG0
        go_wp2_with fail
        refine hfy.mono ?_
        rintro e wx ⟨rfl, rfl⟩
        go_wp2
        go_round
        case rel => exact ⟨k + 1, by omega, by go_num, by rw [HG.out]⟩
        case measure => simp [intOf]; omega
      | false =>
        rw [hb] at hfy
        have HG : Hid _ := HG0.out hb
        clear hb hy HG1 HG0
        go_wp2_with fail
        refine hfy.mono ?_
        rintro e wx ⟨rfl, rfl⟩
        go_wp2
        go_round
        case rel => exact ⟨k + 1, by omega, by go_num, by rw [HG.out]⟩
        case measure => simp [intOf]; omega
    · have hk35 : k = 35 := by omega
      subst hk35
      go_wp2
      go_ret
      exact ⟨rfl, rfl⟩

end Go.Proofs.YtbmmibmfjhehhaaGreat

/- Contracts of sha's constants and starts: the tables that they reckon. -/
namespace Go.Proofs.YtbmmibmfjhehhaaGreat
open Go.RowKit

theorem tabP64 : Pr 310 = P64 := by decide +kernel
theorem tabP8 : Pr 18 = P64.take 8 := by decide +kernel
theorem Pr_mono (k : Nat) : (Pr k).length ≤ (Pr (k + 1)).length := by
  show _ ≤ (if _ then _ else _ : List Nat).length
  split
  · exact Nat.le_refl _
  · simp
theorem Pr_le (j k : Nat) (h : j ≤ k) : (Pr j).length ≤ (Pr k).length := by
  induction h with
  | refl => exact Nat.le_refl _
  | step _ ih => exact Nat.le_trans ih (Pr_mono _)
theorem tabL64 : (Pr 309).length = 63 := by decide +kernel
theorem tabL8 : (Pr 17).length = 7 := by decide +kernel
theorem tabM64 : (Pr 310).length = 64 := by rw [tabP64]; rfl
theorem tabM8 : (Pr 18).length = 8 := by rw [tabP8]; rfl
theorem first64 (k : Nat) (h : k ≤ 310) : (Pr k).length < 64 ↔ k < 310 := by
  constructor
  · intro h1
    rcases Nat.lt_or_ge k 310 with h2 | h2
    · exact h2
    · have : k = 310 := by omega
      subst this
      have := tabM64
      omega
  · intro h1
    have := Pr_le k 309 (by omega)
    have := tabL64
    omega
theorem first8 (k : Nat) (h : k ≤ 18) : (Pr k).length < 8 ↔ k < 18 := by
  constructor
  · intro h1
    rcases Nat.lt_or_ge k 18 with h2 | h2
    · exact h2
    · have : k = 18 := by omega
      subst this
      have := tabM8
      omega
  · intro h1
    have := Pr_le k 17 (by omega)
    have := tabL8
    omega
theorem tabKK : ((List.range 64).all fun i => UInt32.ofNat (grt (cbB (P64.getD i 0)) 35) == K64.getD i 0) = true := by decide +kernel
theorem tabHH : ((List.range 8).all fun i => UInt32.ofNat (grt (sqB (P64.getD i 0)) 35) == H8.getD i 0) = true := by decide +kernel
theorem tabPP : ((List.range 64).all fun i => decide (P64.getD i 0 < 400)) = true := by decide +kernel
theorem P64_lt (i : Nat) (h : i < 64) : P64.getD i 0 < 400 := by
  have t := tabPP
  rw [List.all_eq_true] at t
  simpa using t i (List.mem_range.2 h)
theorem grtK (i : Nat) (h : i < 64) : IntKind.u32.wrap ((grt (cbB (P64.getD i 0)) 35 : Nat) : Int) = U (K64.getD i 0) := by
  have t := tabKK
  rw [List.all_eq_true] at t
  have t1 := t i (List.mem_range.2 h)
  rw [beq_iff_eq] at t1
  rw [← t1, IntKind.wrap_u32]; unfold U; rw [nat_ofNat]; omega
theorem grtH (i : Nat) (h : i < 8) : IntKind.u32.wrap ((grt (sqB (P64.getD i 0)) 35 : Nat) : Int) = U (H8.getD i 0) := by
  have t := tabHH
  rw [List.all_eq_true] at t
  have t1 := t i (List.mem_range.2 h)
  rw [beq_iff_eq] at t1
  rw [← t1, IntKind.wrap_u32]; unfold U; rw [nat_ofNat]; omega
theorem tkp_get (i : Nat) (h : i < 8) : (P64.take 8).getD i 0 = P64.getD i 0 := by
  have t : ((List.range 8).all fun i => (P64.take 8).getD i 0 == P64.getD i 0) = true := by decide +kernel
  rw [List.all_eq_true] at t
  simpa using t i (List.mem_range.2 h)

def part (n : Nat) (T : List UInt32) (k : Nat) : List UInt32 := T.take k ++ List.replicate (n - k) 0
theorem part_len (n : Nat) (T : List UInt32) (k : Nat) (hT : T.length = n) (h : k ≤ n) : (part n T k).length = n := by
  unfold part; simp; omega
theorem part_all (n : Nat) (T : List UInt32) (hT : T.length = n) : part n T n = T := by
  unfold part; simp [← hT]
theorem part_set (n : Nat) (T : List UInt32) (k : Nat) (hT : T.length = n) (h : k < n) : ((part n T k).map W32).toArray.setIfInBounds k (W32 (T.getD k 0)) = ((part n T (k + 1)).map W32).toArray := by
  have hk : k < T.length := by omega
  have e : (part n T k).set k (T.getD k 0) = part n T (k + 1) := by
    unfold part
    rw [List.set_append_right _ _ (by simp; omega), List.take_succ_eq_append_getElem hk]
    simp only [List.length_take, Nat.min_eq_left (show k ≤ T.length by omega), Nat.sub_self]
    rw [show n - k = (n - (k + 1)) + 1 by omega, List.replicate_succ, List.set_cons_zero]
    rw [show T.getD k 0 = T[k] from by simp [List.getD, List.getElem?_eq_getElem hk]]
    simp only [List.append_assoc, List.singleton_append]
  rw [List.setIfInBounds_toArray, ← List.map_set, e]
theorem part_cell (n : Nat) (T : List UInt32) (k : Nat) (hT : T.length = n) (h : k < n) : ∃ u, ((part n T k).map W32).toArray[k]? = some u := by
  have hl : k < ((part n T k).map W32).toArray.size := by simp [part_len n T k hT (by omega)]; exact h
  exact ⟨_, Array.getElem?_eq_getElem hl⟩

end Go.Proofs.YtbmmibmfjhehhaaGreat

/- Contracts of sha's constants and starts. -/
namespace Go.Proofs.YtbmmibmfjhehhaaGreat
open Go.RowKit

theorem below_blk {B i : Nat} {w w' : World} {o : Obj} (h : Below B w w') (hi : i < B) (ho : w.heap[i]? = some o) : w'.heap[i]? = some o := (h.block i hi).trans ho
theorem alloc2_first (w : World) (A C : Obj) : ((w.alloc A).alloc C).heap[w.heap.size]? = some A := by
  rw [Below.heap_alloc _ _ _ (by simp), heap_alloc_new]
theorem W32_one (l : List UInt32) : (l.map W32).toArray.all (·.oneCell') = true := by
  rw [Array.all_eq_true_iff_forall_mem]
  intro v hv
  simp only [List.mem_toArray, List.mem_map] at hv
  obtain ⟨x, _, rfl⟩ := hv
  rfl

theorem cell_far (w : World) (p a : Addr) (v : Value) (h : a.block ≠ p.block) : (w.setCell p v).cell? a = w.cell? a := by
  unfold World.cell?; rw [heap_setCell_other _ _ _ _ h]

set_option maxHeartbeats 4000000 in
theorem shaConstants_any (w : World) : Calls Tryz.prog 95 #[] w fun e w' => e = .returned (.agg (K64.map W32).toArray) ∧ Below w.heap.size w w' := by
  have hPl : (Pr 310).length = 64 := tabM64
  have hPg : ∀ i, i < 64 → (Pr 310).getD i 0 = P64.getD i 0 := fun i _ => by rw [tabP64]
  obtain ⟨PL, hPL⟩ : ∃ PL, PL = Pr 310 := ⟨_, rfl⟩
  have hprim := fun w0 => primes_any 64 310 w0 (by decide) (by decide) first64
  rw [← hPL] at hPl hPg
  simp only [← hPL] at hprim
  rw [hPl] at hprim
  have HPG : Hid _ := hPg
  have HPL : Hid _ := hPl
  clear hPL hPg hPl
  go_enter Tryz.func95, Tryz.ntmps95
  go_wp2_with fail
  refine (hprim _).mono ?_
  rintro e w1 ⟨g, cap, rfl, hfq, hb1⟩
  have hR := below_blk hb1 (i := w.heap.size) (by simp; omega) (alloc2_first _ _ _)
  have hT := below_blk hb1 (i := w.heap.size + 1) (by simp) (heap_alloc2_new _ _ _)
  have hT0 : w1.heap[w.heap.size + 1]? = some (.cells ((part 64 K64 0).map W32).toArray 138 (0, 0)) := hT
  have hR0 : w1.heap[w.heap.size]? = some (.cells ((part 64 K64 0).map W32).toArray 138 (0, 0)) := hR
  have hb : Below w.heap.size w w1 := (((Below.refl _ _).alloc (Nat.le_refl _) _).alloc (by simp) _).trans (hb1.mono (by simp; omega))
  have hs1 : w.heap.size + 2 ≤ w1.heap.size := by have := hb1.size; simp at this; omega
  have hgc : ∀ i, i < 64 → w1.cell? ⟨g, i, none⟩ = some (.int .u64 ((P64.getD i 0 : Nat) : Int)) := fun i hi => by
    rw [hfq.cell i (by rw [HPL.out]; exact hi), HPG.out i hi]
  have hg2 : w.heap.size + 2 ≤ g ∧ g < w1.heap.size := by
    have h0 := block_lt (hgc 0 (by decide))
    rcases hfq.2 with ⟨h1, h2⟩ | ⟨g', cap', cur, h1, h2, _⟩
    · simp at h1
    · simp only [Value.slice.injEq, Option.some.injEq, Addr.mk.injEq] at h1
      have h3 := h1.1.1
      simp at h2 h0
      omega
  have HGC : Hid _ := hgc
  have HR0 : Hid _ := hR0
  have HT0 : Hid _ := hT0
  clear hR hT hR0 hT0 hgc hfq hprim hb1
  go_wp2
  go_loopw [6] (fun i wr => ∃ k : Nat, k ≤ 64 ∧ i = .int .i64 k ∧ wr.heap[w.heap.size + 1]? = some (.cells ((part 64 K64 k).map W32).toArray 138 (0, 0)) ∧ wr.heap[w.heap.size]? = some (.cells ((part 64 K64 0).map W32).toArray 138 (0, 0)) ∧ (∀ i, i < 64 → wr.cell? ⟨g, i, none⟩ = some (.int .u64 ((P64.getD i 0 : Nat) : Int))) ∧ w1.heap.size ≤ wr.heap.size ∧ Below w.heap.size w wr) (fun i _ => 64 - (intOf i).toNat)
  case atStart => exact ⟨0, by omega, rfl, HT0.out, HR0.out, HGC.out, Nat.le_refl _, hb⟩
  case round =>
    obtain ⟨k, hk, rfl, hT, hR, hg, hs, hbel⟩ := hrel
    have HT : Hid _ := hT
    have HR : Hid _ := hR
    have HG : Hid _ := hg
    have hsz := hbel.size
    clear HGC HR0 HT0 hb hR
    by_cases hlt : k < 64
    · have hcx := hg k hlt
      have hset := part_set 64 K64 k rfl hlt
      obtain ⟨u, hu⟩ := part_cell 64 K64 k rfl hlt
      have hcu := cell_of_row _ _ k _ _ _ hT
      rw [hu] at hcu
      have hfu := frozen_of_row _ _ k _ _ hT
      have hpl := P64_lt k (by omega)
      have hgr := grtK k hlt
      have HSET : Hid _ := hset
      clear hset hg hT hu
      generalize P64.getD k 0 = p at *
      generalize K64.getD k 0 = x at *
      obtain ⟨G, hG⟩ : ∃ G, G = grt (cbB p) 35 := ⟨_, rfl⟩
      have hcl := fun w0 hc => greatestConstants_any (cbB p) wr.heap.size w0 (fun y hy => cubeOf_any y p wr.heap.size (by omega) (by omega) w0 hc)
      rw [← hG] at hgr
      simp only [← hG] at hcl
      have HGR : Hid _ := hgr
      clear hG hgr
      have hlw : w.heap.size + 1 < wr.heap.size := by omega
      go_wp2_with fail
      refine (hcl _ (World.cell?_alloc_at _ _ _ _ rfl)).mono ?_
      rintro e wx ⟨rfl, rfl⟩
      go_wp2
      go_roundw
      case rel =>
        have hx : W32 x = .int .u32 ((G : Int) % 4294967296) := by unfold W32; rw [← HGR.out, IntKind.wrap_u32]
        refine ⟨k + 1, by omega, by go_num, ?_, ?_, ?_, by simp; omega, (hbel.setCell (p := ⟨w.heap.size + 1, k, none⟩) (by simp) _).alloc (by simp; omega) _⟩
        · rw [← HSET.out, hx]
          exact (Below.heap_alloc _ _ _ (by simpa using hlw)).trans (heap_setCell_same _ (w.heap.size + 1) k _ 138 _ HT.out)
        · rw [Below.heap_alloc _ _ _ (by simp; omega), heap_setCell_other _ _ _ _ (by simp)]; exact HR.out
        · intro i hi
          rw [World.cell?_alloc_past _ _ _ (by simp; omega), cell_far _ _ _ _ (by simp; omega)]; exact HG.out i hi
      case measure => simp [intOf]; omega
    · have hk' : k = 64 := by omega
      subst hk'
      have hT' := hT
      rw [part_all 64 K64 rfl] at hT'
      have HT' : Hid _ := hT'
      clear hT HT hT'
      go_wp2_with (first
        | (refine wpList_load_row rfl 138 _ rfl (w.heap.size + 1) rfl 138 _ (0, 0) _ HT'.out Tryz.underlying138 rfl (by kernel_rfl) ?_)
        | (refine wpList_store_row rfl 138 _ _ rfl w.heap.size _ rfl rfl 138 _ HR.out (by kernel_rfl) rfl (W32_one _) ?_))
      refine bodyPost_ret (v := .agg (K64.map W32).toArray) ?_ rfl ⟨rfl, below_setRow hbel (Nat.le_refl _) _⟩
      exact results_cell_row Tryz.results95 _ _ w.heap.size 138 _ (0, 0) _ rfl (setRow_heap _ _ _ _ _ _ HR.out) Tryz.underlying138 rfl (by kernel_rfl)

set_option maxHeartbeats 4000000 in
theorem shaStarts_any (w : World) : Calls Tryz.prog 84 #[] w fun e w' => e = .returned (.agg (H8.map W32).toArray) ∧ Below w.heap.size w w' := by
  have hPl : (Pr 18).length = 8 := tabM8
  have hPg : ∀ i, i < 8 → (Pr 18).getD i 0 = P64.getD i 0 := fun i hi => by rw [tabP8, tkp_get i hi]
  obtain ⟨PL, hPL⟩ : ∃ PL, PL = Pr 18 := ⟨_, rfl⟩
  have hprim := fun w0 => primes_any 8 18 w0 (by decide) (by decide) first8
  rw [← hPL] at hPl hPg
  simp only [← hPL] at hprim
  rw [hPl] at hprim
  have HPG : Hid _ := hPg
  have HPL : Hid _ := hPl
  clear hPL hPg hPl
  go_enter Tryz.func84, Tryz.ntmps84
  go_wp2_with fail
  refine (hprim _).mono ?_
  rintro e w1 ⟨g, cap, rfl, hfq, hb1⟩
  have hR := below_blk hb1 (i := w.heap.size) (by simp; omega) (alloc2_first _ _ _)
  have hT := below_blk hb1 (i := w.heap.size + 1) (by simp) (heap_alloc2_new _ _ _)
  have hT0 : w1.heap[w.heap.size + 1]? = some (.cells ((part 8 H8 0).map W32).toArray 102 (0, 0)) := hT
  have hR0 : w1.heap[w.heap.size]? = some (.cells ((part 8 H8 0).map W32).toArray 102 (0, 0)) := hR
  have hb : Below w.heap.size w w1 := (((Below.refl _ _).alloc (Nat.le_refl _) _).alloc (by simp) _).trans (hb1.mono (by simp; omega))
  have hs1 : w.heap.size + 2 ≤ w1.heap.size := by have := hb1.size; simp at this; omega
  have hgc : ∀ i, i < 8 → w1.cell? ⟨g, i, none⟩ = some (.int .u64 ((P64.getD i 0 : Nat) : Int)) := fun i hi => by
    rw [hfq.cell i (by rw [HPL.out]; exact hi), HPG.out i hi]
  have hg2 : w.heap.size + 2 ≤ g ∧ g < w1.heap.size := by
    have h0 := block_lt (hgc 0 (by decide))
    rcases hfq.2 with ⟨h1, h2⟩ | ⟨g', cap', cur, h1, h2, _⟩
    · simp at h1
    · simp only [Value.slice.injEq, Option.some.injEq, Addr.mk.injEq] at h1
      have h3 := h1.1.1
      simp at h2 h0
      omega
  have HGC : Hid _ := hgc
  have HR0 : Hid _ := hR0
  have HT0 : Hid _ := hT0
  clear hR hT hR0 hT0 hgc hfq hprim hb1
  go_wp2
  go_loopw [6] (fun i wr => ∃ k : Nat, k ≤ 8 ∧ i = .int .i64 k ∧ wr.heap[w.heap.size + 1]? = some (.cells ((part 8 H8 k).map W32).toArray 102 (0, 0)) ∧ wr.heap[w.heap.size]? = some (.cells ((part 8 H8 0).map W32).toArray 102 (0, 0)) ∧ (∀ i, i < 8 → wr.cell? ⟨g, i, none⟩ = some (.int .u64 ((P64.getD i 0 : Nat) : Int))) ∧ w1.heap.size ≤ wr.heap.size ∧ Below w.heap.size w wr) (fun i _ => 8 - (intOf i).toNat)
  case atStart => exact ⟨0, by omega, rfl, HT0.out, HR0.out, HGC.out, Nat.le_refl _, hb⟩
  case round =>
    obtain ⟨k, hk, rfl, hT, hR, hg, hs, hbel⟩ := hrel
    have HT : Hid _ := hT
    have HR : Hid _ := hR
    have HG : Hid _ := hg
    have hsz := hbel.size
    clear HGC HR0 HT0 hb hR
    by_cases hlt : k < 8
    · have hcx := hg k hlt
      have hset := part_set 8 H8 k rfl hlt
      obtain ⟨u, hu⟩ := part_cell 8 H8 k rfl hlt
      have hcu := cell_of_row _ _ k _ _ _ hT
      rw [hu] at hcu
      have hfu := frozen_of_row _ _ k _ _ hT
      have hpl := P64_lt k (by omega)
      have hgr := grtH k hlt
      have HSET : Hid _ := hset
      clear hset hg hT hu
      generalize P64.getD k 0 = p at *
      generalize H8.getD k 0 = x at *
      obtain ⟨G, hG⟩ : ∃ G, G = grt (sqB p) 35 := ⟨_, rfl⟩
      have hcl := fun w0 hc => greatestStarts_any (sqB p) wr.heap.size w0 (fun y hy => squareOf_any y p wr.heap.size (by omega) (by omega) w0 hc)
      rw [← hG] at hgr
      simp only [← hG] at hcl
      have HGR : Hid _ := hgr
      clear hG hgr
      have hlw : w.heap.size + 1 < wr.heap.size := by omega
      go_wp2_with fail
      refine (hcl _ (World.cell?_alloc_at _ _ _ _ rfl)).mono ?_
      rintro e wx ⟨rfl, rfl⟩
      go_wp2
      go_roundw
      case rel =>
        have hx : W32 x = .int .u32 ((G : Int) % 4294967296) := by unfold W32; rw [← HGR.out, IntKind.wrap_u32]
        refine ⟨k + 1, by omega, by go_num, ?_, ?_, ?_, by simp; omega, (hbel.setCell (p := ⟨w.heap.size + 1, k, none⟩) (by simp) _).alloc (by simp; omega) _⟩
        · rw [← HSET.out, hx]
          exact (Below.heap_alloc _ _ _ (by simpa using hlw)).trans (heap_setCell_same _ (w.heap.size + 1) k _ 102 _ HT.out)
        · rw [Below.heap_alloc _ _ _ (by simp; omega), heap_setCell_other _ _ _ _ (by simp)]; exact HR.out
        · intro i hi
          rw [World.cell?_alloc_past _ _ _ (by simp; omega), cell_far _ _ _ _ (by simp; omega)]; exact HG.out i hi
      case measure => simp [intOf]; omega
    · have hk' : k = 8 := by omega
      subst hk'
      have hT' := hT
      rw [part_all 8 H8 rfl] at hT'
      have HT' : Hid _ := hT'
      clear hT HT hT'
      go_wp2_with (first
        | (refine wpList_load_row rfl 102 _ rfl (w.heap.size + 1) rfl 102 _ (0, 0) _ HT'.out Tryz.underlying102 rfl (by kernel_rfl) ?_)
        | (refine wpList_store_row rfl 102 _ _ rfl w.heap.size _ rfl rfl 102 _ HR.out (by kernel_rfl) rfl (W32_one _) ?_))
      refine bodyPost_ret (v := .agg (H8.map W32).toArray) ?_ rfl ⟨rfl, below_setRow hbel (Nat.le_refl _) _⟩
      exact results_cell_row Tryz.results84 _ _ w.heap.size 102 _ (0, 0) _ rfl (setRow_heap _ _ _ _ _ _ HR.out) Tryz.underlying102 rfl (by kernel_rfl)

end Go.Proofs.YtbmmibmfjhehhaaGreat

/- Contracts of sha's rotations, of the closures that they make, and of word. -/
namespace Go.Proofs.YtbmmibmfjhehhaaGreat
open Go.RowKit

theorem nat_or_comm (a b : Nat) : a ||| b = b ||| a := Nat.or_comm a b
theorem U_rotl (x : UInt32) (n : Nat) (h1 : 1 ≤ n) (h2 : n ≤ 31) : bits .or .u32 (IntKind.u32.wrap (U x * 2 ^ (32 - n))) (U x / 2 ^ n) = U (rotr x n) := by
  have hx := x.toNat_lt
  have e1 : U x / 2 ^ n = ((x.toNat / 2 ^ n : Nat) : Int) := by unfold U; simp
  have e2 : IntKind.u32.wrap (U x * 2 ^ (32 - n)) = ((x.toNat * 2 ^ (32 - n) % 4294967296 : Nat) : Int) := by rw [IntKind.wrap_u32]; unfold U; simp
  have b1 : x.toNat / 2 ^ n < 4294967296 := Nat.lt_of_le_of_lt (Nat.div_le_self _ _) hx
  have b2 : x.toNat * 2 ^ (32 - n) % 4294967296 < 4294967296 := Nat.mod_lt _ (by decide)
  rw [e1, e2, u32_or_nat _ _ b2 b1, nat_or_comm]
  unfold rotr
  rw [U_ofNat _ (Nat.or_lt_two_pow (n := 32) b1 b2)]

theorem and31 (n : Nat) (h1 : 1 ≤ n) (h2 : n ≤ 31) : bits .and .u64 (IntKind.u64.wrap (-(n : Int))) 31 = ((32 - n : Nat) : Int) := by
  have e : IntKind.u64.wrap (-(n : Int)) = ((18446744073709551616 - n : Nat) : Int) := by rw [IntKind.wrap_u64]; omega
  have h := bits_and_u64_nat (18446744073709551616 - n) 31 (by omega) (by decide)
  have e2 : (18446744073709551616 - n) &&& 31 = (18446744073709551616 - n) % 32 := Nat.and_two_pow_sub_one_eq_mod _ 5
  rw [e2] at h
  rw [e]
  refine h.trans ?_
  congr 1
  omega

set_option maxHeartbeats 1000000 in
theorem rotl_any (x : UInt32) (n : Nat) (h1 : 1 ≤ n) (h2 : n ≤ 31) (w : World) :
    Calls Tryz.prog 122 #[.int .u32 (U x), .int .i64 (-(n : Int))] w fun e w' => e = .returned (.int .u32 (U (rotr x n))) ∧ w = w' := by
  have ha := and31 n h1 h2
  obtain ⟨m, hm⟩ : ∃ m, m = 32 - n := ⟨_, rfl⟩
  have hmn : n = 32 - m := by omega
  have hr := U_rotl x n h1 h2
  rw [← hm] at ha hr
  have HR : Hid _ := hr
  have HM : Hid _ := hmn
  have hm1 : 1 ≤ m := by omega
  have hm2 : m ≤ 31 := by omega
  clear hr hm hmn
  go_enter Tryz.func122, Tryz.ntmps122
  go_wp2
  go_ret
  exact ⟨ret_int (by rw [← HR.out, IntKind.wrap_u32, ← HM.out]), rfl⟩

def xro (x : UInt32) (ns : List Nat) : UInt32 := ns.foldl (fun a n => a ^^^ rotr x n) 0
theorem xro_take (x : UInt32) (ns : List Nat) (k : Nat) (h : k < ns.length) : xro x (ns.take (k + 1)) = xro x (ns.take k) ^^^ rotr x (ns.getD k 0) := by
  unfold xro
  rw [List.take_succ_eq_append_getElem h, List.foldl_append]
  simp [List.getD, List.getElem?_eq_getElem h]

set_option maxHeartbeats 1000000 in
theorem rot_any (x : UInt32) (ns : List Nat) (B g cap : Nat) (w : World) (hl : ns.length ≤ 3) (hn : ∀ i, i < ns.length → 1 ≤ ns.getD i 0 ∧ ns.getD i 0 ≤ 31) (hB : w.cell? ⟨B, 0, none⟩ = some (.slice (some ⟨g, 0, none⟩) ns.length cap))
    (hg : ∀ i, i < ns.length → w.cell? ⟨g, i, none⟩ = some (.int .i64 ((ns.getD i 0 : Nat) : Int))) :
    Calls Tryz.prog 121 #[.int .u32 (U x), .pointer (some ⟨B, 0, none⟩)] w fun e w' => e = .returned (.int .u32 (U (xro x ns))) ∧ w = w' := by
  have HG : Hid _ := hg
  have HN : Hid _ := hn
  clear hg hn
  go_enter Tryz.func121, Tryz.ntmps121
  go_wp2
  go_loop [4, 9] (fun a i => ∃ k : Nat, k ≤ ns.length ∧ i = .int .i64 k ∧ a = .int .u32 (U (xro x (ns.take k)))) (fun _ i => ns.length - (intOf i).toNat)
  case atStart => exact ⟨0, Nat.zero_le _, rfl, rfl⟩
  case round =>
    obtain ⟨k, hk, rfl, rfl⟩ := hrel
    by_cases hlt : k < ns.length
    · have hcx := HG.out k hlt
      have hnk := HN.out k hlt
      have HX : Hid _ := xro_take x ns k hlt
      generalize ns.getD k 0 = n at *
      obtain ⟨h1, h2⟩ := hnk
      have hxo := U_xor (xro x (ns.take k)) (rotr x n)
      go_wp2_with (go_at_call 122; refine (rotl_any x n h1 h2 _).mono ?_; rintro e wx ⟨rfl, rfl⟩)
      go_round
      case rel => exact ⟨k + 1, by omega, by go_num, by rw [HX.out]⟩
      case measure => simp [intOf]; omega
    · have HT : Hid _ := List.take_of_length_le (l := ns) (i := k) (by omega)
      go_wp2
      go_ret
      exact ⟨ret_int (by rw [HT.out]), rfl⟩

set_option maxHeartbeats 400000 in
theorem rotations_any (p : Option Addr) (n cap : Nat) (w : World) : Calls Tryz.prog 115 #[.slice p n cap] w fun e w' => e = .returned (.func (.func 121) #[] #[.pointer (some ⟨w.heap.size, 0, none⟩)]) ∧ w' = w.alloc (.cells #[.slice p n cap] 160) := by
  go_enter Tryz.func115, Tryz.ntmps115
  go_wp2
  go_ret
  exact ⟨rfl, rfl⟩

def pre (f : Nat → UInt8) : Nat → Nat
  | 0 => 0
  | k + 1 => pre f k * 256 + (f k).toNat
theorem pre_lt (f : Nat → UInt8) (k : Nat) : pre f k < 256 ^ k := by
  induction k with
  | zero => show 0 < 1; decide
  | succ k ih => have := (f k).toNat_lt; show pre f k * 256 + _ < 256 ^ k * 256; omega
theorem pre4 (f : Nat → UInt8) : U (wordOf (f 0) (f 1) (f 2) (f 3)) = ((pre f 4 : Nat) : Int) := by
  rw [← U_wordOf]
  show _ = (((((0 * 256 + (f 0).toNat) * 256 + (f 1).toNat) * 256 + (f 2).toNat) * 256 + (f 3).toNat : Nat) : Int)
  omega
theorem or_byte (a : Nat) (x : UInt8) (h : a < 16777216) : bits .or .u32 ((a : Int) * 256) (x.toNat : Int) = ((a * 256 + x.toNat : Nat) : Int) := by
  have hx := x.toNat_lt
  have e : (a : Int) * 256 = ((a * 256 : Nat) : Int) := by omega
  rw [e, u32_or_nat _ _ (by omega) (by omega)]
  congr 1
  have := Nat.two_pow_add_eq_or_of_lt (i := 8) (b := x.toNat) hx a
  rw [Nat.mul_comm a 256]
  exact this.symm

set_option maxHeartbeats 1000000 in
theorem word_any (f : Nat → UInt8) (b o n cap : Nat) (w : World) (hn : 4 ≤ n) (hn2 : n ≤ 64) (hc : ∀ i, i < 4 → w.cell? ⟨b, o + i, none⟩ = some (.int .u8 ((f i).toNat : Int))) :
    Calls Tryz.prog 120 #[.slice (some ⟨b, o, none⟩) n cap] w fun e w' => e = .returned (.int .u32 (U (wordOf (f 0) (f 1) (f 2) (f 3)))) ∧ w = w' := by
  have HC : Hid _ := hc
  clear hc
  go_enter Tryz.func120, Tryz.ntmps120
  go_wp2
  go_loop [3, 5] (fun a i => ∃ k : Nat, k ≤ 4 ∧ i = .int .i64 k ∧ a = .int .u32 ((pre f k : Nat) : Int)) (fun _ i => 4 - (intOf i).toNat)
  case atStart => exact ⟨0, Nat.zero_le _, rfl, rfl⟩
  case round =>
    obtain ⟨k, hk, rfl, rfl⟩ := hrel
    by_cases hlt : k < 4
    · have hcx := HC.out k hlt
      have hb : pre f k < 16777216 := Nat.lt_of_lt_of_le (pre_lt f k) (show 256 ^ k ≤ 256 ^ 3 from Nat.pow_le_pow_right (by decide) (by omega))
      have hor := or_byte (pre f k) (f k) hb
      have hp : pre f (k + 1) = pre f k * 256 + (f k).toNat := rfl
      have HP : Hid _ := hp
      have hfk := (f k).toNat_lt
      clear hp
      generalize pre f k = a at *
      generalize f k = x at *
      go_wp2
      go_round
      case rel => exact ⟨k + 1, by omega, by go_num, by rw [HP.out]; simp⟩
      case measure => simp [intOf]; omega
    · have hk4 : k = 4 := by omega
      subst hk4
      have HP : Hid _ := pre4 f
      generalize pre f 4 = a at *
      go_wp2
      go_ret
      exact ⟨ret_int (by rw [HP.out]), rfl⟩

end Go.Proofs.YtbmmibmfjhehhaaGreat

/- Contract of sha's spread: a block's 64 words. -/
namespace Go.Proofs.YtbmmibmfjhehhaaGreat
open Go.RowKit

theorem sched_get (bs : List UInt8) (j k i : Nat) (h : j ≤ k) (hi : i < 16 + j) : (sched bs k).getD i 0 = (sched bs j).getD i 0 := by
  induction h with
  | refl => rfl
  | step h ih =>
    rename_i m
    rw [← ih]
    have hl := sched_len bs m
    have hm : j ≤ m := h
    show (sched bs m ++ [ext (sched bs m) (16 + m)]).getD i 0 = _
    simp [List.getD, List.getElem?_append_left (show i < (sched bs m).length by omega)]
theorem words_get (bs : List UInt8) (i : Nat) (h : i < 16) : (words bs 16).getD i 0 = wordOf (bs.getD (4 * i) 0) (bs.getD (4 * i + 1) 0) (bs.getD (4 * i + 2) 0) (bs.getD (4 * i + 3) 0) := by
  unfold words
  simp [List.getD, List.getElem?_map, List.getElem?_range h]
theorem sched_low (bs : List UInt8) (K i : Nat) (h : i < 16) : (sched bs K).getD i 0 = wordOf (bs.getD (4 * i) 0) (bs.getD (4 * i + 1) 0) (bs.getD (4 * i + 2) 0) (bs.getD (4 * i + 3) 0) := by
  rw [sched_get bs 0 K i (Nat.zero_le _) (by omega)]; exact words_get bs i h
theorem sched_high (bs : List UInt8) (K i : Nat) (h : 16 ≤ i) (h2 : i < 16 + K) : (sched bs K).getD i 0 = (sched bs K).getD (i - 16) 0 + sg0 ((sched bs K).getD (i - 15) 0) + (sched bs K).getD (i - 7) 0 + sg1 ((sched bs K).getD (i - 2) 0) := by
  rw [sched_get bs (i - 16 + 1) K i (by omega) (by omega), sched_get bs (i - 16) K (i - 16) (by omega) (by omega), sched_get bs (i - 16) K (i - 15) (by omega) (by omega), sched_get bs (i - 16) K (i - 7) (by omega) (by omega), sched_get bs (i - 16) K (i - 2) (by omega) (by omega)]
  show (sched bs (i - 16) ++ [ext (sched bs (i - 16)) (16 + (i - 16))]).getD i 0 = _
  have hl := sched_len bs (i - 16)
  rw [show 16 + (i - 16) = i by omega]
  simp only [List.getD, List.getElem?_append_right (show (sched bs (i - 16)).length ≤ i by omega), hl, show i - (16 + (i - 16)) = 0 by omega]
  rfl
theorem xro0 (x : UInt32) : xro x [7, 18] ^^^ (x >>> 3) = sg0 x := by unfold xro sg0; simp
theorem xro1 (x : UInt32) : xro x [17, 19] ^^^ (x >>> 10) = sg1 x := by unfold xro sg1; simp
theorem part_get (n : Nat) (T : List UInt32) (k j : Nat) (hT : T.length = n) (h : k ≤ n) (hj : j < k) : ((part n T k).map W32).toArray[j]? = some (.int .u32 (U (T.getD j 0))) := by
  have hl : j < T.length := by omega
  have : (part n T k)[j]? = some (T.getD j 0) := by
    unfold part
    rw [List.getElem?_append_left (by simp; omega), List.getElem?_take_of_lt hj]
    simp [List.getD, List.getElem?_eq_getElem hl]
  simp [this, W32]
theorem heap_at (w : World) (o : Obj) (n : Nat) (h : n = w.heap.size) : (w.alloc o).heap[n]? = some o := by subst h; exact heap_alloc_new _ _

theorem rotations_at (p : Option Addr) (n cap m : Nat) (w : World) (hm : m = w.heap.size) : Calls Tryz.prog 115 #[.slice p n cap] w fun e w' => e = .returned (.func (.func 121) #[] #[.pointer (some ⟨m, 0, none⟩)]) ∧ w' = w.alloc (.cells #[.slice p n cap] 160) := by
  subst hm; exact rotations_any p n cap w
def Rot2 (w : World) (B g n1 n2 : Nat) : Prop := w.cell? ⟨B, 0, none⟩ = some (.slice (some ⟨g, 0, none⟩) 2 2) ∧ w.cell? ⟨g, 0, none⟩ = some (.int .i64 (n1 : Int)) ∧ w.cell? ⟨g, 1, none⟩ = some (.int .i64 (n2 : Int))
theorem rot2_any (x : UInt32) (n1 n2 B g : Nat) (w : World) (h1 : 1 ≤ n1 ∧ n1 ≤ 31) (h2 : 1 ≤ n2 ∧ n2 ≤ 31) (h : Rot2 w B g n1 n2) :
    Calls Tryz.prog 121 #[.int .u32 (U x), .pointer (some ⟨B, 0, none⟩)] w fun e w' => e = .returned (.int .u32 (U (xro x [n1, n2]))) ∧ w = w' := by
  refine rot_any x [n1, n2] B g 2 w (by simp) ?_ h.1 ?_
  · intro i hi
    have hi2 : i = 0 ∨ i = 1 := by simp at hi; omega
    rcases hi2 with rfl | rfl
    · exact h1
    · exact h2
  · intro i hi
    have hi2 : i = 0 ∨ i = 1 := by simp at hi; omega
    rcases hi2 with rfl | rfl
    · exact h.2.1
    · exact h.2.2
theorem Rot2.heap {w w' : World} {B g n1 n2 : Nat} (h : Rot2 w B g n1 n2) (hw : w'.heap = w.heap) : Rot2 w' B g n1 n2 := by
  obtain ⟨h1, h2, h3⟩ := h
  have e : ∀ a, w'.cell? a = w.cell? a := fun a => by unfold World.cell?; rw [hw]
  exact ⟨(e _).trans h1, (e _).trans h2, (e _).trans h3⟩
theorem rot2_at (x : UInt32) (n1 n2 B g : Nat) (w w0 : World) (h1 : 1 ≤ n1 ∧ n1 ≤ 31) (h2 : 1 ≤ n2 ∧ n2 ≤ 31) (h : Rot2 w0 B g n1 n2) (hw : w.heap = w0.heap) :
    Calls Tryz.prog 121 #[.int .u32 (U x), .pointer (some ⟨B, 0, none⟩)] w fun e w' => e = .returned (.int .u32 (U (xro x [n1, n2]))) ∧ w = w' := rot2_any x n1 n2 B g w h1 h2 (h.heap hw)
theorem Rot2.below {w w' : World} {B g n1 n2 : Nat} (h : Rot2 w B g n1 n2) (hb : Below w.heap.size w w') : Rot2 w' B g n1 n2 := by
  obtain ⟨h1, h2, h3⟩ := h
  exact ⟨(hb.cell (block_lt h1)).trans h1, (hb.cell (block_lt h2)).trans h2, (hb.cell (block_lt h3)).trans h3⟩

theorem cell_off (w : World) (g i j : Nat) (v : Value) (cs : Array Value) (t : TypeId) (h : w.heap[g]? = some (.cells cs t (0, 0))) (hij : i ≠ j) : (w.setCell ⟨g, i, none⟩ v).cell? ⟨g, j, none⟩ = w.cell? ⟨g, j, none⟩ := by
  rw [cell_of_row _ _ j _ _ _ (heap_setCell_same w g i cs t v h), cell_of_row _ _ j _ _ _ h, Array.getElem?_setIfInBounds_ne hij]
theorem sliceArr (w : World) (b k : Nat) (h : k < 16) : (Instr.sliceAt 107 (.pointer (some ⟨b, 0, none⟩)) (some (.int .i64 ((k : Int) * 4))) none none).run Tryz.prog w = .ok (.slice (some ⟨b, 4 * k, none⟩) (64 - 4 * k) (64 - 4 * k)) w := by
  have h0 : (0 : Int) ≤ (k : Int) * 4 := by omega
  have ha : Tryz.prog.arrayLen 107 = 64 := by kernel_rfl
  have hu : Tryz.prog.underlying 107 = some (.array (Tryz.prog.arrayLen 107) (Tryz.prog.elem 107)) := by kernel_rfl
  have hz : (sizeOf (Tryz.prog.elem 107)).run Tryz.prog w = .ok 1 w := by
    obtain ⟨i0, hi, hz0, hz1, hz2⟩ := info_parts Tryz.infoU8
    have he : Tryz.prog.elem 107 = 5 := by kernel_rfl
    rw [he]
    simp [sizeOf, typeInfo, hi, hz1]
  rw [run_sliceAt_array_l w 107 _ hu .i64 _ h0 (by rw [ha]; omega), hz, ha]
  have ht : ((k : Int) * 4).toNat = 4 * k := by omega
  simp only [Result.andThen, slicedAt, ht]
  rw [if_neg (by omega)]
  have hadd : (⟨b, 0, none⟩ : Addr).add (4 * k * 1) = ⟨b, 4 * k, none⟩ := by unfold Addr.add; split <;> simp_all
  rw [hadd]

attribute [local go_sem] U_not U_xor U_xor3 U_xor10 U_and U_or U_shr3 U_shr10 U_add U_addw

set_option maxHeartbeats 8000000 in
set_option maxRecDepth 100000 in
theorem spread_any (bs : List UInt8) (w : World) (hb : bs.length = 64) :
    Calls Tryz.prog 114 #[.agg (bs.map B8).toArray] w fun e w' => e = .returned (.agg ((sched bs 48).map W32).toArray) ∧ Below w.heap.size w w' := by
  obtain ⟨BA, hBA⟩ : ∃ BA, BA = (bs.map B8).toArray := ⟨_, rfl⟩
  rw [← hBA]
  obtain ⟨K, hK⟩ : ∃ K, K = 48 := ⟨_, rfl⟩
  rw [← hK]
  have hlow := fun i h => sched_low bs K i h
  have hhigh := fun i h h2 => sched_high bs K i h h2
  have hSl := sched_len bs K
  generalize sched bs K = SC at *
  have hSl' : SC.length = 64 := by omega
  have hhigh' : ∀ i, 16 ≤ i → i < 64 → _ := fun i h1 h2 => hhigh i h1 (by omega)
  have HL : Hid _ := hlow
  have HH : Hid _ := hhigh'
  have HS : Hid _ := hSl'
  have HBA : Hid _ := hBA
  have HB : Hid _ := hb
  clear hlow hhigh hhigh' hSl hSl' hK hBA hb
  go_enter Tryz.func114, Tryz.ntmps114
  go_wp2_with fail
  refine (rotations_any _ _ _ _).mono ?_
  rintro e wx ⟨rfl, rfl⟩
  go_wp2_with fail
  refine (rotations_at _ _ _ (w.heap.size + 1 + 1 + 1 + 1 + 1) _ (by simp)).mono ?_
  rintro e w5 ⟨rfl, hw5⟩
  have f0 : w5.heap[w.heap.size]? = some (.cells BA 107 (0, 0)) := by
    rw [hw5]; repeat (first | exact heap_at _ _ _ (by simp) | rw [Below.heap_alloc _ _ _ (by first | (simp; omega) | simp)])
  have f1 : w5.heap[w.heap.size + 1]? = some (.cells ((part 64 SC 0).map W32).toArray 138 (0, 0)) := by
    rw [hw5]; repeat (first | exact heap_at _ _ _ (by simp) | rw [Below.heap_alloc _ _ _ (by first | (simp; omega) | simp)])
  have f2 : w5.heap[w.heap.size + 1 + 1]? = some (.cells #[.int .i64 7, .int .i64 18] 3 (0, 0)) := by
    rw [hw5]; repeat (first | exact heap_at _ _ _ (by simp) | rw [Below.heap_alloc _ _ _ (by first | (simp; omega) | simp)])
  have f3 : w5.heap[w.heap.size + 1 + 1 + 1]? = some (.cells #[.slice (some ⟨w.heap.size + 1 + 1, 0, none⟩) 2 2] 160 (0, 0)) := by
    rw [hw5]; repeat (first | exact heap_at _ _ _ (by simp) | rw [Below.heap_alloc _ _ _ (by first | (simp; omega) | simp)])
  have f4 : w5.heap[w.heap.size + 1 + 1 + 1 + 1]? = some (.cells #[.int .i64 17, .int .i64 19] 3 (0, 0)) := by
    rw [hw5]; repeat (first | exact heap_at _ _ _ (by simp) | rw [Below.heap_alloc _ _ _ (by first | (simp; omega) | simp)])
  have f5 : w5.heap[w.heap.size + 1 + 1 + 1 + 1 + 1]? = some (.cells #[.slice (some ⟨w.heap.size + 1 + 1 + 1 + 1, 0, none⟩) 2 2] 160 (0, 0)) := by
    rw [hw5]; exact heap_at _ _ _ (by simp)
  have hs5 : w5.heap.size = w.heap.size + 6 := by rw [hw5]; simp
  have hb5 : Below w.heap.size w w5 := by
    rw [hw5]; exact (((((((Below.refl _ _).alloc (Nat.le_refl _) _).alloc (by simp) _).alloc (by simp; omega) _).alloc (by simp; omega) _).alloc (by simp; omega) _).alloc (by simp; omega) _)
  have r1 : Rot2 w5 (w.heap.size + 1 + 1 + 1) (w.heap.size + 1 + 1) 7 18 := ⟨cell_of_row _ _ 0 _ _ _ f3, cell_of_row _ _ 0 _ _ _ f2, cell_of_row _ _ 1 _ _ _ f2⟩
  have r2 : Rot2 w5 (w.heap.size + 1 + 1 + 1 + 1 + 1) (w.heap.size + 1 + 1 + 1 + 1) 17 19 := ⟨cell_of_row _ _ 0 _ _ _ f5, cell_of_row _ _ 0 _ _ _ f4, cell_of_row _ _ 1 _ _ _ f4⟩
  have hblk : ∀ i, i < 64 → w5.cell? ⟨w.heap.size, i, none⟩ = some (B8 (bs.getD i 0)) := fun i hi' => by
    rw [cell_of_row _ _ _ _ _ _ f0, HBA.out]
    have hl : i < bs.length := by rw [HB.out]; exact hi'
    simp [List.getD, List.getElem?_eq_getElem hl]
  have HF1 : Hid _ := f1
  have HR1 : Hid _ := r1
  have HR2 : Hid _ := r2
  have HBK : Hid _ := hblk
  have hs5' : w.heap.size + 6 ≤ w5.heap.size := by omega
  have HS5 : Hid _ := hs5
  clear f0 f1 f2 f3 f4 f5 r1 r2 hblk hw5 hs5
  go_wp2
  go_loopw [13] (fun i wr => ∃ k : Nat, k ≤ 64 ∧ i = .int .i64 k ∧ wr.heap[w5.heap.size]? = some (.cells ((part 64 SC k).map W32).toArray 138 (0, 0)) ∧ w5.heap.size < wr.heap.size ∧ Below w5.heap.size w5 wr) (fun i _ => 64 - (intOf i).toNat)
  case atStart => exact ⟨0, by omega, rfl, heap_alloc_new _ _, by simp, (Below.refl _ _).alloc (Nat.le_refl _) _⟩
  case round =>
    obtain ⟨k, hk, rfl, hT, hsz, hbel⟩ := hrel
    have HT : Hid _ := hT
    by_cases hlt : k < 64
    · have hset := part_set 64 SC k HS.out hlt
      obtain ⟨u, hu⟩ := part_cell 64 SC k HS.out hlt
      have hcu := cell_of_row _ _ k _ _ _ hT
      rw [hu] at hcu
      have hfu := frozen_of_row _ _ k _ _ hT
      have HSET : Hid _ := hset
      clear hset hu
      by_cases h16 : k < 16
      · have hlk := HL.out k h16
        have hc4 : ∀ i, i < 4 → wr.cell? ⟨w.heap.size, 4 * k + i, none⟩ = some (.int .u8 ((bs.getD (4 * k + i) 0).toNat : Int)) := fun i hi => (hbel.cell (by simp; omega)).trans (HBK.out (4 * k + i) (by omega))
        have HC4 : Hid _ := hc4
        have HLK : Hid _ := hlk
        generalize SC.getD k 0 = x at *
        clear hT hc4 hlk
        have hsl := sliceArr wr w.heap.size k (by omega)
        go_wp2_with (go_at_call 120; refine (word_any (fun i => bs.getD (4 * k + i) 0) w.heap.size (4 * k) (64 - 4 * k) (64 - 4 * k) _ (by omega) (by omega) HC4.out).mono ?_; rintro e wx ⟨rfl, rfl⟩)
        go_roundw
        case rel =>
          refine ⟨k + 1, by omega, by go_num, ?_, by simp; omega, hbel.setCell (p := ⟨w5.heap.size, k, none⟩) (Nat.le_refl _) _⟩
          rw [← HSET.out]
          have hx := HLK.out
          rw [hx]
          exact heap_setCell_same _ w5.heap.size k _ 138 _ HT.out
        case measure => simp [intOf]; omega
      · have il2 : 16 ≤ k := by omega
        have hg : ∀ j, j < k → wr.cell? ⟨w5.heap.size, j, none⟩ = some (.int .u32 (U (SC.getD j 0))) := fun j hj => (cell_of_row _ _ j _ _ _ hT).trans (part_get 64 SC k j HS.out hk hj)
        have a15 := hg (k - 15) (by omega)
        have a2 := hg (k - 2) (by omega)
        have a16 := hg (k - 16) (by omega)
        have a7 := hg (k - 7) (by omega)
        have hhk := HH.out k il2 hlt
        have r1 : Rot2 wr (w.heap.size + 1 + 1 + 1) (w.heap.size + 1 + 1) 7 18 := Rot2.below HR1.out hbel
        have r2 : Rot2 wr (w.heap.size + 1 + 1 + 1 + 1 + 1) (w.heap.size + 1 + 1 + 1 + 1) 17 19 := Rot2.below HR2.out hbel
        have HHK : Hid _ := hhk
        have HR1' : Hid _ := r1
        have HR2' : Hid _ := r2
        clear hg hT hhk r1 r2
        generalize SC.getD (k - 15) 0 = x15 at *
        generalize SC.getD (k - 2) 0 = x2 at *
        generalize SC.getD (k - 16) 0 = x16 at *
        generalize SC.getD (k - 7) 0 = x7 at *
        generalize SC.getD k 0 = x at *
        have q15 : IntKind.i64.wrap ((k : Int) - 15) = (k : Int) - 15 := wrap_i64_in _ (by omega) (by omega)
        have q2 : IntKind.i64.wrap ((k : Int) - 2) = (k : Int) - 2 := wrap_i64_in _ (by omega) (by omega)
        have q16 : IntKind.i64.wrap ((k : Int) - 16) = (k : Int) - 16 := wrap_i64_in _ (by omega) (by omega)
        have q7 : IntKind.i64.wrap ((k : Int) - 7) = (k : Int) - 7 := wrap_i64_in _ (by omega) (by omega)
        have t15 : ((k : Int) - 15).toNat = k - 15 := by omega
        have t2 : ((k : Int) - 2).toNat = k - 2 := by omega
        have t16 : ((k : Int) - 16).toNat = k - 16 := by omega
        have t7 : ((k : Int) - 7).toNat = k - 7 := by omega
        have l15 : (0 : Int) ≤ (k : Int) - 15 ∧ (k : Int) - 15 < 64 := by omega
        have l2 : (0 : Int) ≤ (k : Int) - 2 ∧ (k : Int) - 2 < 64 := by omega
        have l16 : (0 : Int) ≤ (k : Int) - 16 ∧ (k : Int) - 16 < 64 := by omega
        have l7 : (0 : Int) ≤ (k : Int) - 7 ∧ (k : Int) - 7 < 64 := by omega
        have m16 : (16 : Int) ≤ (k : Int) := by omega
        have m7 : (7 : Int) ≤ (k : Int) := by omega
        have m15 : (15 : Int) ≤ (k : Int) := by omega
        have m2 : (2 : Int) ≤ (k : Int) := by omega
        have n16 : ∀ v, (wr.setCell ⟨w5.heap.size, k, none⟩ v).cell? ⟨w5.heap.size, k - 16, none⟩ = some (.int .u32 (U x16)) := fun v => (cell_off _ _ _ _ _ _ _ HT.out (by omega)).trans a16
        have n7 : ∀ v, (wr.setCell ⟨w5.heap.size, k, none⟩ v).cell? ⟨w5.heap.size, k - 7, none⟩ = some (.int .u32 (U x7)) := fun v => (cell_off _ _ _ _ _ _ _ HT.out (by omega)).trans a7
        go_wp2
        go_region
        go_wp2
        go_region_held3 (fun w' => w'.cell? ⟨w5.heap.size, k - 16, none⟩ = some (.int .u32 (U x16)) ∧ w'.cell? ⟨w5.heap.size, k - 7, none⟩ = some (.int .u32 (U x7))) (go_keep) (first | (go_at_call_of 121 (Value.int .u32 (U x15)); refine (rot2_at x15 7 18 (w.heap.size + 1 + 1 + 1) (w.heap.size + 1 + 1) _ wr (by decide) (by decide) HR1'.out (by rfl)).mono ?_; rintro e wx ⟨rfl, rfl⟩) | (go_at_call_of 121 (Value.int .u32 (U x2)); refine (rot2_at x2 17 19 (w.heap.size + 1 + 1 + 1 + 1 + 1) (w.heap.size + 1 + 1 + 1 + 1) _ wr (by decide) (by decide) HR2'.out (by rfl)).mono ?_; rintro e wx ⟨rfl, rfl⟩))
        go_wp2
        go_roundw
        case rel =>
          refine ⟨k + 1, by omega, by go_num, ?_, by simp; omega, (hbel.setCell (p := ⟨w5.heap.size, k, none⟩) (Nat.le_refl _) _).drew.drew⟩
          rw [heap_drew, heap_drew, ← HSET.out, HHK.out, ← xro0, ← xro1]
          exact heap_setCell_same _ w5.heap.size k _ 138 _ HT.out
        case measure => simp [intOf]; omega
    · have hk' : k = 64 := by omega
      subst hk'
      have hT' := hT
      rw [part_all 64 SC HS.out] at hT'
      have hR : wr.heap[w.heap.size + 1]? = some (.cells ((part 64 SC 0).map W32).toArray 138 (0, 0)) := (hbel.block _ (by omega)).trans HF1.out
      have hsc : (SC.map W32).toArray.size = 64 := by simp [HS.out]
      have hpz : ((part 64 SC 0).map W32).toArray.size = 64 := by simp [part_len 64 SC 0 HS.out (by omega)]
      have hi64 : (Tryz.prog.info? 138).map (·.size) = some (SC.map W32).toArray.size := by rw [hsc]; kernel_rfl
      have hbw : Below w.heap.size w wr := hb5.trans (hbel.mono (by omega))
      have HT' : Hid _ := hT'
      have HR : Hid _ := hR
      have HI : Hid _ := hi64
      have HZ : Hid _ := hpz.trans hsc.symm
      have HW1 : Hid _ := W32_one SC
      clear hT HT hT' hR hi64 hsc hpz
      go_wp2_with (first
        | (refine wpList_load_row rfl 138 _ rfl w5.heap.size rfl 138 _ (0, 0) _ HT'.out Tryz.underlying138 rfl HI.out ?_)
        | (refine wpList_store_row rfl 138 _ _ rfl (w.heap.size + 1) _ rfl rfl 138 _ HR.out HI.out HZ.out HW1.out ?_))
      refine bodyPost_ret (v := .agg (SC.map W32).toArray) ?_ rfl ⟨rfl, below_setRow hbw (by omega) _⟩
      exact results_cell_row Tryz.results114 _ _ (w.heap.size + 1) 138 _ (0, 0) _ rfl (setRow_heap _ _ _ _ _ _ HR.out) Tryz.underlying138 rfl HI.out

end Go.Proofs.YtbmmibmfjhehhaaGreat
