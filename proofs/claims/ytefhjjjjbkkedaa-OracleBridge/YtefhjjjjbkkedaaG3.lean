/- Contracts of sha's roots: the tests of a root, the closures over them, and the greatest number for which one holds. -/
import Derived.Test.YtefhjjjjbkkedaaD3
import Derived.Test.YtefhjjjjbkkedaaY2
set_option linter.unusedVariables false
set_option linter.unusedSimpArgs false
namespace Go.Proofs.Ytefhjjjjbkkedaa
open Go.RowKit

/-- Is x below the square root of p times 2^64? -/
def sqB (p x : Nat) : Bool := decide (x * x / 18446744073709551616 < p)
/-- Is x below the cube root of p times 2^96? -/
def cbB (p x : Nat) : Bool := decide ((((x * x / 18446744073709551616) * x % 18446744073709551616 + (x * x % 18446744073709551616) * x / 18446744073709551616) % 18446744073709551616) / 4294967296 < p)

set_option maxHeartbeats 1000000 in
theorem square_any (x p : Nat) (hx : x < 18446744073709551616) (hp : p < 18446744073709551616) (w : World) :
    Calls Try.prog 65 #[.int .u64 (x : Int), .int .u64 (p : Int)] w fun e w' => e = .returned (.bool (sqB p x)) ∧ w = w' := by
  obtain ⟨H, hH⟩ : ∃ H, H = x * x / 18446744073709551616 := ⟨_, rfl⟩
  obtain ⟨L, hL⟩ : ∃ L, L = x * x % 18446744073709551616 := ⟨_, rfl⟩
  have hm := mul64_any x x hx hx w
  rw [← hH, ← hL] at hm
  have hs : sqB p x = decide (H < p) := by unfold sqB; rw [hH]
  have HS : Hid _ := hs
  clear hH hL hs
  by_cases h : H < p
  · have h' : (H : Int) < (p : Int) := by omega
    go_enter Try.func65, Try.ntmps65
    go_wp2_with fail
    refine hm.mono ?_
    rintro e wx ⟨rfl, rfl⟩
    go_wp2
    go_ret
    exact ⟨retB (by rw [HS.out]; simp [h]), rfl⟩
  · have h' : ¬ (H : Int) < (p : Int) := by omega
    go_enter Try.func65, Try.ntmps65
    go_wp2_with fail
    refine hm.mono ?_
    rintro e wx ⟨rfl, rfl⟩
    go_wp2
    go_ret
    exact ⟨retB (by rw [HS.out]; simp [h]), rfl⟩

set_option maxHeartbeats 1000000 in
theorem cube_any (x p : Nat) (hx : x < 18446744073709551616) (hp : p < 18446744073709551616) (w : World) :
    Calls Try.prog 76 #[.int .u64 (x : Int), .int .u64 (p : Int)] w fun e w' => e = .returned (.bool (cbB p x)) ∧ w = w' := by
  obtain ⟨H, hH⟩ : ∃ H, H = x * x / 18446744073709551616 := ⟨_, rfl⟩
  obtain ⟨L, hL⟩ : ∃ L, L = x * x % 18446744073709551616 := ⟨_, rfl⟩
  obtain ⟨H2, hH2⟩ : ∃ H2, H2 = L * x / 18446744073709551616 := ⟨_, rfl⟩
  obtain ⟨L2, hL2⟩ : ∃ L2, L2 = L * x % 18446744073709551616 := ⟨_, rfl⟩
  obtain ⟨M, hM⟩ : ∃ M, M = H * x := ⟨_, rfl⟩
  have hm := mul64_any x x hx hx w
  have hm2 := mul64_any L x (by omega) hx w
  rw [← hH, ← hL] at hm
  rw [← hH2, ← hL2] at hm2
  have hs : cbB p x = decide (((M % 18446744073709551616 + H2) % 18446744073709551616) / 4294967296 < p) := by unfold cbB; rw [hM, hH2, hH, hL]
  have hM' : (H : Int) * (x : Int) = (M : Int) := by rw [hM]; simp
  have HS : Hid _ := hs
  clear hH hL hH2 hL2 hM hs
  go_enter Try.func76, Try.ntmps76
  go_wp2_with fail
  refine hm.mono ?_
  rintro e wx ⟨rfl, rfl⟩
  go_wp2_with fail
  refine hm2.mono ?_
  rintro e wx ⟨rfl, rfl⟩
  go_wp2
  go_ret
  exact ⟨retB (by rw [HS.out]; simp only [IntKind.wrap_u64]; exact decide_eq_decide.2 (by omega)), rfl⟩

set_option maxHeartbeats 400000 in
theorem squareOf_any (x p g : Nat) (hx : x < 18446744073709551616) (hp : p < 18446744073709551616) (w : World) (hc : w.cell? ⟨g, 0, none⟩ = some (.int .u64 (p : Int))) :
    Calls Try.prog 64 #[.int .u64 (x : Int), .pointer (some ⟨g, 0, none⟩)] w fun e w' => e = .returned (.bool (sqB p x)) ∧ w = w' := by
  go_enter Try.func64, Try.ntmps64
  go_wp2_with fail
  refine (square_any x p hx hp w).mono ?_
  rintro e wx ⟨rfl, rfl⟩
  go_wp2
  go_ret
  exact ⟨rfl, rfl⟩

set_option maxHeartbeats 400000 in
theorem cubeOf_any (x p g : Nat) (hx : x < 18446744073709551616) (hp : p < 18446744073709551616) (w : World) (hc : w.cell? ⟨g, 0, none⟩ = some (.int .u64 (p : Int))) :
    Calls Try.prog 75 #[.int .u64 (x : Int), .pointer (some ⟨g, 0, none⟩)] w fun e w' => e = .returned (.bool (cbB p x)) ∧ w = w' := by
  go_enter Try.func75, Try.ntmps75
  go_wp2_with fail
  refine (cube_any x p hx hp w).mono ?_
  rintro e wx ⟨rfl, rfl⟩
  go_wp2
  go_ret
  exact ⟨rfl, rfl⟩

theorem M64.orN (a k : Nat) (hk : k < 35) (ha : a < 18446744073709551616) : bits .or .u64 (a : Int) (IntKind.u64.wrap (2 ^ (34 - k))) = ((a ||| 2 ^ (34 - k) : Nat) : Int) := by
  have h2 : 2 ^ (34 - k) < 18446744073709551616 := Nat.lt_of_lt_of_le (show 2 ^ (34 - k) < 2 ^ 35 from Nat.pow_lt_pow_right (by decide) (by omega)) (by decide)
  have h := bits_or_u64_nat a (2 ^ (34 - k)) ha h2
  rw [← h]
  have e : ((2 : Int) ^ (34 - k)) = ((2 ^ (34 - k) : Nat) : Int) := by simp
  rw [e, M64.wrapN _ h2]

/-- The greatest number for which f holds, bit by bit from the highest, as many as said. -/
def grt (f : Nat → Bool) : Nat → Nat
  | 0 => 0
  | i + 1 => if f (grt f i ||| 2 ^ (34 - i)) then grt f i ||| 2 ^ (34 - i) else grt f i
theorem grt_lt (f : Nat → Bool) (i : Nat) : grt f i < 34359738368 := by
  induction i with
  | zero => show 0 < _; decide
  | succ i ih =>
    unfold grt
    split
    · exact Nat.or_lt_two_pow (n := 35) ih (Nat.pow_lt_pow_right (by decide) (by omega))
    · exact ih

theorem grt_yes (f : Nat → Bool) (i y : Nat) (hy : y = grt f i ||| 2 ^ (34 - i)) (h : f y = true) : grt f (i + 1) = y := by
  subst hy; show (if _ then _ else _) = _; rw [if_pos h]
theorem grt_no (f : Nat → Bool) (i y : Nat) (hy : y = grt f i ||| 2 ^ (34 - i)) (h : f y = false) : grt f (i + 1) = grt f i := by
  subst hy; show (if _ then _ else _) = _; rw [if_neg (by rw [h]; decide)]

set_option maxHeartbeats 1000000 in
theorem greatestConstants_any (f : Nat → Bool) (g : Nat) (w : World) (hf : ∀ y : Nat, y < 34359738368 → Calls Try.prog 75 #[.int .u64 (y : Int), .pointer (some ⟨g, 0, none⟩)] w fun e w' => e = .returned (.bool (f y)) ∧ w = w') :
    Calls Try.prog 63 #[.func (.func 75) #[] #[.pointer (some ⟨g, 0, none⟩)]] w fun e w' => e = .returned (.int .u64 ((grt f 35 : Nat) : Int)) ∧ w = w' := by
  go_enter Try.func63, Try.ntmps63
  go_wp2
  go_loop [3, 6] (fun x i => ∃ k : Nat, k ≤ 35 ∧ i = .int .i64 k ∧ x = .int .u64 ((grt f k : Nat) : Int)) (fun _ i => 35 - (intOf i).toNat)
  case atStart => exact ⟨0, by omega, rfl, rfl⟩
  case round =>
    obtain ⟨k, hk, rfl, rfl⟩ := hrel
    by_cases hlt : k < 35
    · obtain ⟨y, hy⟩ : ∃ y, y = grt f k ||| 2 ^ (34 - k) := ⟨_, rfl⟩
      have hyl : y < 34359738368 := by rw [hy]; exact Nat.or_lt_two_pow (n := 35) (grt_lt f k) (Nat.pow_lt_pow_right (by decide) (by omega))
      have hg := grt_lt f k
      have hfy := hf y hyl
      have HG1 : Hid _ := grt_yes f k y hy
      have HG0 : Hid _ := grt_no f k y hy
      have hor := M64.orN (grt f k) k hlt (by omega)
      rw [← hy] at hor
      have HF : Hid _ := hf
      clear hf
      cases hb : f y with
      | true =>
        rw [hb] at hfy
        have HG : Hid _ := HG1.out hb
        clear hb hy HG1 HG0
        go_wp2_with fail
        refine hfy.mono ?_
        rintro e wx ⟨rfl, rfl⟩
        go_wp2
        go_round
        case rel => exact ⟨k + 1, by omega, by go_num, by rw [HG.out]⟩
        case measure => simp [intOf]; omega
      | false =>
        rw [hb] at hfy
        have HG : Hid _ := HG0.out hb
        clear hb hy HG1 HG0
        go_wp2_with fail
        refine hfy.mono ?_
        rintro e wx ⟨rfl, rfl⟩
        go_wp2
        go_round
        case rel => exact ⟨k + 1, by omega, by go_num, by rw [HG.out]⟩
        case measure => simp [intOf]; omega
    · have hk35 : k = 35 := by omega
      subst hk35
      go_wp2
      go_ret
      exact ⟨rfl, rfl⟩

set_option maxHeartbeats 1000000 in
theorem greatestStarts_any (f : Nat → Bool) (g : Nat) (w : World) (hf : ∀ y : Nat, y < 34359738368 → Calls Try.prog 64 #[.int .u64 (y : Int), .pointer (some ⟨g, 0, none⟩)] w fun e w' => e = .returned (.bool (f y)) ∧ w = w') :
    Calls Try.prog 63 #[.func (.func 64) #[] #[.pointer (some ⟨g, 0, none⟩)]] w fun e w' => e = .returned (.int .u64 ((grt f 35 : Nat) : Int)) ∧ w = w' := by
  go_enter Try.func63, Try.ntmps63
  go_wp2
  go_loop [3, 6] (fun x i => ∃ k : Nat, k ≤ 35 ∧ i = .int .i64 k ∧ x = .int .u64 ((grt f k : Nat) : Int)) (fun _ i => 35 - (intOf i).toNat)
  case atStart => exact ⟨0, by omega, rfl, rfl⟩
  case round =>
    obtain ⟨k, hk, rfl, rfl⟩ := hrel
    by_cases hlt : k < 35
    · obtain ⟨y, hy⟩ : ∃ y, y = grt f k ||| 2 ^ (34 - k) := ⟨_, rfl⟩
      have hyl : y < 34359738368 := by rw [hy]; exact Nat.or_lt_two_pow (n := 35) (grt_lt f k) (Nat.pow_lt_pow_right (by decide) (by omega))
      have hg := grt_lt f k
      have hfy := hf y hyl
      have HG1 : Hid _ := grt_yes f k y hy
      have HG0 : Hid _ := grt_no f k y hy
      have hor := M64.orN (grt f k) k hlt (by omega)
      rw [← hy] at hor
      have HF : Hid _ := hf
      clear hf
      cases hb : f y with
      | true =>
        rw [hb] at hfy
        have HG : Hid _ := HG1.out hb
        clear hb hy HG1 HG0
        go_wp2_with fail
        refine hfy.mono ?_
        rintro e wx ⟨rfl, rfl⟩
        go_wp2
        go_round
        case rel => exact ⟨k + 1, by omega, by go_num, by rw [HG.out]⟩
        case measure => simp [intOf]; omega
      | false =>
        rw [hb] at hfy
        have HG : Hid _ := HG0.out hb
        clear hb hy HG1 HG0
        go_wp2_with fail
        refine hfy.mono ?_
        rintro e wx ⟨rfl, rfl⟩
        go_wp2
        go_round
        case rel => exact ⟨k + 1, by omega, by go_num, by rw [HG.out]⟩
        case measure => simp [intOf]; omega
    · have hk35 : k = 35 := by omega
      subst hk35
      go_wp2
      go_ret
      exact ⟨rfl, rfl⟩

end Go.Proofs.Ytefhjjjjbkkedaa
