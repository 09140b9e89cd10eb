/- The reference's roots and primes, and its constants. -/
import Derived.Test.YtojafgilpnnbiaaY2
set_option linter.unusedVariables false
set_option linter.unusedSimpArgs false
namespace Go.Proofs.Ytojafgilpnnbiaa
open Go.RowKit

/-- Is x to the power n (2 or 3), 32 bits of it behind the point, at most p? -/
def powB (n x p : Nat) : Bool := if n = 2 then decide (x * x ≤ p * 18446744073709551616) else decide (x * x * x ≤ p * Q96)
/-- The root, bit by bit, behind j bits. -/
def rto (n p : Nat) : Nat → Nat
  | 0 => 0
  | j + 1 => if powB n (rto n p j + 2 ^ (37 - j)) p then rto n p j + 2 ^ (37 - j) else rto n p j

theorem rto_bound (n p j : Nat) (hj : j ≤ 38) : rto n p j + 2 ^ (38 - j) ≤ 2 ^ 38 := by
  induction j with
  | zero => simp [rto]
  | succ j ih =>
    have h1 := ih (by omega)
    have e : 2 ^ (38 - j) = 2 ^ (37 - j) + 2 ^ (37 - j) := by rw [show 38 - j = (37 - j) + 1 by omega, Nat.pow_succ]; omega
    rw [show 38 - (j + 1) = 37 - j by omega]
    have hp : 0 < 2 ^ (37 - j) := Nat.pow_pos (by decide)
    simp only [rto]
    split <;> omega

theorem power_any (n x p : Nat) (X : Int) (hX : X = (x : Int)) (hn : n = 2 ∨ n = 3) (hx : x < 274877906944) (hp : p < 4294967296) (w : World) :
    Calls Try.prog 54 #[.int .u64 X, .int .i64 (n : Int), .int .u64 (p : Int)] w fun e w' => e = .returned (.bool (powB n x p)) ∧ w = w' := by
  subst hX
  rcases hn with rfl | rfl
  · exact power2_any x p hx hp w
  · exact power3_any x p hx hp w

set_option maxHeartbeats 1000000 in
theorem root_any (p n : Nat) (hn : n = 2 ∨ n = 3) (hp : p < 4294967296) (w : World) :
    Calls Try.prog 39 #[.int .u64 (p : Int), .int .i64 (n : Int)] w fun e w' => e = .returned (.int .u32 (U (UInt32.ofNat (rto n p 38)))) ∧ w = w' := by
  have HN : Hid _ := hn
  clear hn
  go_enter Try.func39, Try.ntmps39
  go_wp2
  go_loop [5, 6] (fun x b => ∃ j : Nat, j ≤ 38 ∧ x = .int .u64 (rto n p j : Int) ∧ b = .int .i64 (37 - (j : Int))) (fun _ b => (intOf b + 1).toNat)
  case atStart => exact ⟨0, by omega, rfl, rfl⟩
  case round =>
    obtain ⟨j, hj, rfl, rfl⟩ := hrel
    have hb := rto_bound n p j hj
    by_cases hlt : j < 38
    · obtain ⟨c, hc⟩ : ∃ c, c = 37 - j := ⟨_, rfl⟩
      have hc' : (37 : Int) - (j : Int) = (c : Int) := by omega
      rw [hc']
      have hc37 : c ≤ 37 := by omega
      have hpw : 2 ^ c ≤ 137438953472 := Nat.pow_le_pow_right (n := 2) (by decide) hc37
      have hlt2 : rto n p j + 2 ^ c < 274877906944 := by
        have : 2 ^ (38 - j) = 2 ^ c + 2 ^ c := by rw [show 38 - j = c + 1 by omega, Nat.pow_succ]; omega
        have : 0 < 2 ^ c := Nat.pow_pos (by decide)
        omega
      have hstep : rto n p (j + 1) = if powB n (rto n p j + 2 ^ c) p then rto n p j + 2 ^ c else rto n p j := by rw [hc]; rfl
      have HST : Hid _ := hstep
      have HCC : Hid _ := hc
      clear hstep hc hc' hb
      generalize rto n p j = x at *
      have hcast : (2 : Int) ^ c = ((2 ^ c : Nat) : Int) := by simp
      obtain ⟨q, hq⟩ : ∃ q, q = 2 ^ c := ⟨_, rfl⟩
      rw [← hq] at hpw hlt2 hcast
      have HQ : Hid _ := hq
      have hst2 := HST.out
      rw [← hq] at hst2
      have HST2 : Hid _ := hst2
      clear hq hst2 HST
      cases hpb : powB n (x + q) p with
      | true =>
        go_wp2_with (go_at_call 54; refine (power_any n (x + q) p _ (by omega) HN.out hlt2 hp _).mono ?_; rintro e wx ⟨rfl, rfl⟩)
        go_round
        case rel =>
          have h1 := HST2.out
          rw [hpb, if_pos rfl] at h1
          exact ⟨j + 1, by omega, by rw [h1]; go_num, by have := HCC.out; go_num⟩
        case measure => simp [intOf]
      | false =>
        go_wp2_with (go_at_call 54; refine (power_any n (x + q) p _ (by omega) HN.out hlt2 hp _).mono ?_; rintro e wx ⟨rfl, rfl⟩)
        go_round
        case rel =>
          have h1 := HST2.out
          rw [hpb, if_neg (by decide)] at h1
          exact ⟨j + 1, by omega, by rw [h1], by have := HCC.out; go_num⟩
        case measure => simp [intOf]
    · have h38 : j = 38 := by omega
      have hj' : (37 : Int) - (j : Int) < 0 := by omega
      have HJ : Hid _ := h38
      clear h38
      go_wp2
      go_ret
      refine ⟨ret_int ?_, rfl⟩
      rw [← HJ.out]
      unfold U
      rw [nat_ofNat]
      simp [IntKind.wrap_u32]

/-- The i-th prime, from 0 on. -/
def prim (i : Nat) : Nat := P64.getD i 0
/-- No number from 2 on, below k, goes into n. -/
def noDiv (n k : Nat) : Bool := (List.range k).all fun j => decide (j < 2) || n % j != 0
def isP (n : Nat) : Bool := decide (2 ≤ n) && noDiv n n
/-- How many primes there are up to n. -/
def cnt : Nat → Nat
  | 0 => 0
  | n + 1 => cnt n + if isP (n + 1) then 1 else 0
theorem noDiv_succ (n k : Nat) (h : 2 ≤ k) : noDiv n (k + 1) = (noDiv n k && (n % k != 0)) := by
  unfold noDiv; rw [List.range_succ, List.all_append]
  simp only [List.all_cons, List.all_nil, Bool.and_true]
  rw [decide_eq_false (show ¬ k < 2 by omega)]; rfl
theorem noDiv_two (n : Nat) : noDiv n 2 = true := by simp [noDiv, List.range_succ]
theorem tabA : ((List.range 312).all fun n => (List.range 19).all fun k => !(decide (2 ≤ n) && decide (2 ≤ k) && decide (n < k * k) && (decide (k = 2) || decide ((k - 1) * (k - 1) ≤ n))) || (noDiv n k == isP n)) = true := by decide +kernel
theorem tabB : ((List.range 312).all fun n => !(isP n) || (P64.getD (cnt n - 1) 0 == n)) = true := by decide +kernel
theorem tabC : ((List.range 312).all fun n => decide (n = 311) || decide (cnt n ≤ 63)) = true ∧ cnt 311 = 64 := by decide +kernel
theorem isP_of (n k : Nat) (h2 : 2 ≤ n) (hn : n ≤ 311) (hk : 2 ≤ k) (h1 : n < k * k) (h3 : k = 2 ∨ (k - 1) * (k - 1) ≤ n) : noDiv n k = isP n := by
  have hk18 : k ≤ 18 := by
    rcases Nat.lt_or_ge k 19 with h | h
    · omega
    · rcases h3 with h3 | h3
      · omega
      · have : 18 * 18 ≤ (k - 1) * (k - 1) := Nat.mul_le_mul (by omega) (by omega)
        omega
  have t := tabA
  rw [List.all_eq_true] at t
  have t1 := t n (List.mem_range.2 (by omega))
  rw [List.all_eq_true] at t1
  have t2 := t1 k (List.mem_range.2 (by omega))
  have t3 : ¬k = 2 ∧ n < (k - 1) * (k - 1) ∨ noDiv n k = isP n := by simpa [h2, hk, h1] using t2
  rcases t3 with ⟨t4, t5⟩ | t4
  · rcases h3 with h3 | h3
    · exact absurd h3 t4
    · omega
  · exact t4
theorem cnt_small (n : Nat) (hn : n ≤ 311) (h : cnt n ≤ 63) : n ≤ 310 := by
  rcases Nat.lt_or_ge n 311 with h1 | h1
  · omega
  · have : n = 311 := by omega
    subst this
    have := tabC.2
    omega
theorem prime_is (n : Nat) (hn : n ≤ 311) (h : isP n = true) : prim (cnt n - 1) = n := by
  have t := tabB
  rw [List.all_eq_true] at t
  have t1 := t n (List.mem_range.2 (by omega))
  unfold prim
  simpa [h] using t1

set_option maxHeartbeats 1000000 in
theorem prime_any (i0 : Nat) (h0 : i0 ≤ 63) (w : World) :
    Calls Try.prog 40 #[.int .i64 (i0 : Int)] w fun e w' => e = .returned (.int .u64 (prim i0 : Int)) ∧ w = w' := by
  go_enter Try.func40, Try.ntmps40
  go_wp2
  go_loop [0, 3] (fun a b => ∃ (i : Int) (n : Nat), a = .int .i64 i ∧ b = .int .u64 n ∧ -1 ≤ i ∧ i + cnt n = i0 ∧ 1 ≤ n ∧ n ≤ 311 ∧ (i = -1 → isP n = true)) (fun _ b => 311 - (intOf b).toNat)
  case atStart => exact ⟨i0, 1, rfl, rfl, by omega, by simp [show cnt 1 = 0 by decide], by omega, by omega, by omega⟩
  case round =>
    obtain ⟨i, n, rfl, rfl, hi, hc, hn1, hn2, hp⟩ := hrel
    have HC : Hid _ := hc
    have HP : Hid _ := hp
    by_cases hlt : 0 ≤ i
    · have hn310 := cnt_small n hn2 (by omega)
      have hi63 : i ≤ 63 := by omega
      clear hc hp
      obtain ⟨m, hm⟩ : ∃ m : Nat, m = n + 1 := ⟨_, rfl⟩
      have hm' : (n : Int) + 1 = (m : Int) := by omega
      have hm2 : 2 ≤ m := by omega
      have hm311 : m ≤ 311 := by omega
      have HM : Hid _ := hm
      have HM' : Hid _ := hm'
      clear hm hm'
      go_wp2
      rw [HM'.out]
      go_loop [4, 5] (fun a b => ∃ k : Nat, a = .bool (noDiv m k) ∧ b = .int .u64 k ∧ 2 ≤ k ∧ k ≤ 18 ∧ (k = 2 ∨ (k - 1) * (k - 1) ≤ m)) (fun _ b => 19 - (intOf b).toNat)
      case atStart => exact ⟨2, by rw [noDiv_two], rfl, by omega, by omega, .inl rfl⟩
      case round =>
        obtain ⟨k, rfl, rfl, hk2, hk18, hk3⟩ := hrel
        have HK3 : Hid _ := hk3
        obtain ⟨sq, hsq⟩ : ∃ sq, sq = k * k := ⟨_, rfl⟩
        have hsqb : sq ≤ 324 := by rw [hsq]; exact Nat.mul_le_mul hk18 hk18
        have hmul : (k : Int) * (k : Int) = (sq : Int) := by rw [hsq]; simp
        have HSQ : Hid _ := hsq
        clear hk3 hsq
        by_cases hin : sq ≤ m
        · have hns := noDiv_succ m k hk2
          have hk17 : k ≤ 17 := by
            rcases Nat.lt_or_ge k 18 with h | h
            · omega
            · have := HSQ.out; have : k = 18 := by omega
              subst this; omega
          have hrem : ((m : Int) % (k : Int) != 0) = (m % k != 0) := by
            rw [← Int.natCast_emod, Bool.eq_iff_iff]; simp; omega
          have HNS : Hid _ := hns
          clear hns
          cases hnd : noDiv m k with
          | true =>
            go_wp2
            go_round
            case rel => exact ⟨k + 1, by rw [HNS.out, hnd]; simp, by go_num, by omega, by omega, .inr (by have := HSQ.out; simp; omega)⟩
            case measure => simp [intOf]; omega
          | false =>
            go_wp2
            go_round
            case rel => exact ⟨k + 1, by rw [HNS.out, hnd]; simp, by go_num, by omega, by omega, .inr (by have := HSQ.out; simp; omega)⟩
            case measure => simp [intOf]; omega
        · have hp2 := isP_of m k hm2 hm311 hk2 (by have := HSQ.out; omega) HK3.out
          have hcs : cnt m = cnt n + if isP m then 1 else 0 := by rw [HM.out]; rfl
          rw [hp2]
          have HCS : Hid _ := hcs
          clear hp2 hcs
          cases hisp : isP m with
          | true =>
            go_wp2
            go_round
            case rel =>
              have h1 := HCS.out
              have h2 := HC.out
              rw [hisp, if_pos rfl] at h1
              exact ⟨i - 1, m, by go_num, rfl, by omega, by omega, by omega, by omega, fun _ => hisp⟩
            case measure => have := HM.out; simp [intOf]; omega
          | false =>
            go_wp2
            go_round
            case rel =>
              have h1 := HCS.out
              have h2 := HC.out
              rw [hisp, if_neg (by decide)] at h1
              exact ⟨i, m, rfl, rfl, by omega, by omega, by omega, by omega, by omega⟩
            case measure => have := HM.out; simp [intOf]; omega
    · have hm1 : i = -1 := by omega
      have hpr := prime_is n hn2 (hp hm1)
      have hcn : cnt n - 1 = i0 := by omega
      rw [hcn] at hpr
      have HPR : Hid _ := hpr
      clear hc hp hm1 hpr hcn
      go_wp2
      go_ret
      exact ⟨ret_int (by rw [HPR.out]), rfl⟩

end Go.Proofs.Ytojafgilpnnbiaa
