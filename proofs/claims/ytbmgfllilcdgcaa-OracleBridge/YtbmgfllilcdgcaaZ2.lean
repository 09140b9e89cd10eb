/- The reference's roots and primes, and its constants. -/
import Derived.Test.YtbmgfllilcdgcaaY2
set_option linter.unusedVariables false
set_option linter.unusedSimpArgs false
namespace Go.Proofs.Ytbmgfllilcdgcaa
open Go.RowKit

/-- Is x to the power n (2 or 3), 32 bits of it behind the point, at most p? -/
def powB (n x p : Nat) : Bool := if n = 2 then decide (x * x ≤ p * 18446744073709551616) else decide (x * x * x ≤ p * Q96)
/-- The root, bit by bit, behind j bits. -/
def rto (n p : Nat) : Nat → Nat
  | 0 => 0
  | j + 1 => if powB n (rto n p j + 2 ^ (37 - j)) p then rto n p j + 2 ^ (37 - j) else rto n p j

theorem rto_bound (n p j : Nat) (hj : j ≤ 38) : rto n p j + 2 ^ (38 - j) ≤ 2 ^ 38 := by
  induction j with
  | zero => simp [rto]
  | succ j ih =>
    have h1 := ih (by omega)
    have e : 2 ^ (38 - j) = 2 ^ (37 - j) + 2 ^ (37 - j) := by rw [show 38 - j = (37 - j) + 1 by omega, Nat.pow_succ]; omega
    rw [show 38 - (j + 1) = 37 - j by omega]
    have hp : 0 < 2 ^ (37 - j) := Nat.pow_pos (by decide)
    simp only [rto]
    split <;> omega

/-- The i-th prime, from 0 on. -/
def prim (i : Nat) : Nat := P64.getD i 0
/-- No number from 2 on, below k, goes into n. -/
def noDiv (n k : Nat) : Bool := (List.range k).all fun j => decide (j < 2) || n % j != 0
def isP (n : Nat) : Bool := decide (2 ≤ n) && noDiv n n
/-- How many primes there are up to n. -/
def cnt : Nat → Nat
  | 0 => 0
  | n + 1 => cnt n + if isP (n + 1) then 1 else 0
theorem noDiv_succ (n k : Nat) (h : 2 ≤ k) : noDiv n (k + 1) = (noDiv n k && (n % k != 0)) := by
  unfold noDiv; rw [List.range_succ, List.all_append]
  simp only [List.all_cons, List.all_nil, Bool.and_true]
  rw [decide_eq_false (show ¬ k < 2 by omega)]; rfl
theorem noDiv_two (n : Nat) : noDiv n 2 = true := by simp [noDiv, List.range_succ]
theorem tabA : ((List.range 312).all fun n => (List.range 19).all fun k => !(decide (2 ≤ n) && decide (2 ≤ k) && decide (n < k * k) && (decide (k = 2) || decide ((k - 1) * (k - 1) ≤ n))) || (noDiv n k == isP n)) = true := by decide +kernel
theorem tabB : ((List.range 312).all fun n => !(isP n) || (P64.getD (cnt n - 1) 0 == n)) = true := by decide +kernel
theorem tabC : ((List.range 312).all fun n => decide (n = 311) || decide (cnt n ≤ 63)) = true ∧ cnt 311 = 64 := by decide +kernel
theorem isP_of (n k : Nat) (h2 : 2 ≤ n) (hn : n ≤ 311) (hk : 2 ≤ k) (h1 : n < k * k) (h3 : k = 2 ∨ (k - 1) * (k - 1) ≤ n) : noDiv n k = isP n := by
  have hk18 : k ≤ 18 := by
    rcases Nat.lt_or_ge k 19 with h | h
    · omega
    · rcases h3 with h3 | h3
      · omega
      · have : 18 * 18 ≤ (k - 1) * (k - 1) := Nat.mul_le_mul (by omega) (by omega)
        omega
  have t := tabA
  rw [List.all_eq_true] at t
  have t1 := t n (List.mem_range.2 (by omega))
  rw [List.all_eq_true] at t1
  have t2 := t1 k (List.mem_range.2 (by omega))
  have t3 : ¬k = 2 ∧ n < (k - 1) * (k - 1) ∨ noDiv n k = isP n := by simpa [h2, hk, h1] using t2
  rcases t3 with ⟨t4, t5⟩ | t4
  · rcases h3 with h3 | h3
    · exact absurd h3 t4
    · omega
  · exact t4
theorem cnt_small (n : Nat) (hn : n ≤ 311) (h : cnt n ≤ 63) : n ≤ 310 := by
  rcases Nat.lt_or_ge n 311 with h1 | h1
  · omega
  · have : n = 311 := by omega
    subst this
    have := tabC.2
    omega
theorem prime_is (n : Nat) (hn : n ≤ 311) (h : isP n = true) : prim (cnt n - 1) = n := by
  have t := tabB
  rw [List.all_eq_true] at t
  have t1 := t n (List.mem_range.2 (by omega))
  unfold prim
  simpa [h] using t1

end Go.Proofs.Ytbmgfllilcdgcaa
