/- Plain facts on bytes and numbers: the lowest first; frames; hexadecimal. No function of the program is named here. -/
import Derived.WalkKit
set_option linter.unusedVariables false
set_option linter.unusedSimpArgs false
namespace Go.Proofs.YtpklboicgjpmeaaDoor
namespace W1

/-- The number of bytes, the lowest first. -/
def num : List UInt8 → Nat
  | [] => 0
  | x :: r => x.toNat + 256 * num r

theorem num_append (a b : List UInt8) : num (a ++ b) = num a + 256 ^ a.length * num b := by
  induction a with
  | nil => simp [num]
  | cons x r ih => simp only [List.cons_append, num, ih, List.length_cons, Nat.pow_succ]; rw [Nat.mul_add, Nat.add_assoc]; congr 2; rw [← Nat.mul_assoc]; congr 1; rw [Nat.mul_comm]

theorem num_lt (l : List UInt8) : num l < 256 ^ l.length := by
  induction l with
  | nil => simp [num]
  | cons x r ih =>
    have := x.toNat_lt
    simp only [num, List.length_cons, Nat.pow_succ]
    generalize 256 ^ r.length = p at *
    omega

theorem num_snoc (l : List UInt8) (x : UInt8) : num (l ++ [x]) = num l + 256 ^ l.length * x.toNat := by
  rw [num_append]; simp [num]

theorem num_take_succ (l : List UInt8) (k : Nat) (h : k < l.length) : num (l.take (k + 1)) = num (l.take k) + 256 ^ k * (l[k]).toNat := by
  rw [List.take_succ_eq_append_getElem h, num_snoc, List.length_take, Nat.min_eq_left (by omega)]

/-- A number's bytes, so many of them, the lowest first. -/
def le : Nat → Nat → List UInt8
  | 0, _ => []
  | s + 1, n => UInt8.ofNat (n % 256) :: le s (n / 256)

theorem le_length (s n : Nat) : (le s n).length = s := by
  induction s generalizing n with
  | zero => rfl
  | succ s ih => simp [le, ih]

theorem num_le (s n : Nat) : num (le s n) = n % 256 ^ s := by
  induction s generalizing n with
  | zero => simp [le, num, Nat.mod_one]
  | succ s ih =>
    simp only [le, num, ih, Nat.pow_succ]
    have h1 : (UInt8.ofNat (n % 256)).toNat = n % 256 := by simp
    rw [h1, Nat.mul_comm (256 ^ s) 256, Nat.mod_mul]

theorem num_inj (a b : List UInt8) (hl : a.length = b.length) (h : num a = num b) : a = b := by
  induction a generalizing b with
  | nil => cases b with
    | nil => rfl
    | cons => simp at hl
  | cons x r ih => cases b with
    | nil => simp at hl
    | cons y s =>
      simp only [num] at h
      have hx := x.toNat_lt; have hy := y.toNat_lt
      have h1 : x.toNat = y.toNat := by omega
      have h2 : num r = num s := by omega
      rw [ih s (by simpa using hl) h2, UInt8.toNat_inj.1 h1]

theorem le_num (l : List UInt8) : le l.length (num l) = l :=
  num_inj _ _ (le_length _ _) (by rw [num_le, Nat.mod_eq_of_lt (num_lt l)])

theorem le_get (s n i : Nat) (h : i < s) : (le s n)[i]? = some (UInt8.ofNat (n / 256 ^ i % 256)) := by
  induction s generalizing n i with
  | zero => omega
  | succ s ih =>
    cases i with
    | zero => simp [le]
    | succ i =>
      simp only [le, List.getElem?_cons_succ]
      rw [ih _ _ (by omega), Nat.div_div_eq_div_mul, Nat.pow_succ, Nat.mul_comm 256]

theorem pow256 (k : Nat) : (2 : Nat) ^ (8 * k) = 256 ^ k := by rw [Nat.pow_mul]

theorem le256 (k : Nat) (h : k ≤ 7) : 256 ^ k ≤ 256 ^ 7 := Nat.pow_le_pow_right (by decide) h

theorem wrap_u64 (n : Int) : IntKind.u64.wrap n = n % 18446744073709551616 := by simp [IntKind.wrap, IntKind.bits, IntKind.signed]

theorem wrap_u64_nat (n : Nat) (h : n < 18446744073709551616) : IntKind.u64.wrap (n : Int) = (n : Int) := by rw [wrap_u64]; omega

/-- One byte more, above those that are there. -/
theorem or_step (k a : Nat) (x : UInt8) (hk : k ≤ 7) (ha : a < 256 ^ k) :
    bits .or .u64 (a : Int) (IntKind.u64.wrap (IntKind.u64.wrap (x.toNat : Int) * 2 ^ (8 * k))) = ((a + 256 ^ k * x.toNat : Nat) : Int) := by
  have hx := x.toNat_lt
  have hp := le256 k hk
  have h7 : 256 ^ 7 = 72057594037927936 := by decide
  have hm : 256 ^ k * x.toNat ≤ 256 ^ k * 255 := Nat.mul_le_mul_left _ (by omega)
  have e2 : ((x.toNat : Int) * 2 ^ (8 * k)) = ((256 ^ k * x.toNat : Nat) : Int) := by
    have : ((2 : Int) ^ (8 * k)) = ((256 ^ k : Nat) : Int) := by rw [← pow256]; simp
    rw [this, Int.mul_comm]; simp
  rw [wrap_u64_nat x.toNat (by omega), e2, wrap_u64_nat _ (by omega), u64_or_nat _ _ (by omega) (by omega)]
  congr 1
  rw [Nat.or_comm, nat_join (8 * k) _ _ (by rw [pow256]; simp) (by rw [pow256]; exact ha)]
  omega

/-- A byte of a number. -/
theorem shr_byte (k n : Nat) (hn : n < 18446744073709551616) : IntKind.u8.wrap ((n : Int) / 2 ^ (8 * k)) = (((UInt8.ofNat (n / 256 ^ k % 256)).toNat : Nat) : Int) := by
  have : ((2 : Int) ^ (8 * k)) = ((256 ^ k : Nat) : Int) := by rw [← pow256]; simp
  rw [this, IntKind.wrap_u8]
  simp

end W1
end Go.Proofs.YtpklboicgjpmeaaDoor
