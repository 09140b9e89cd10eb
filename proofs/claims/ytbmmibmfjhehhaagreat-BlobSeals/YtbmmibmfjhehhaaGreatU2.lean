/- Words of 32 bits, as cells hold them, and what Go's operations make of them. -/
import Derived.Test.YtbmmibmfjhehhaaGreatWh
set_option linter.unusedVariables false
set_option linter.unusedSimpArgs false
namespace Go.Proofs.YtbmmibmfjhehhaaGreat
open Go.RowKit

theorem nat_not32 (x : Nat) (h : x < 4294967296) : 4294967295 ^^^ x = 4294967295 - x := by
  have h1 := BitVec.toNat_not (x := BitVec.ofNat 32 x)
  have h2 : (BitVec.allOnes 32 ^^^ BitVec.ofNat 32 x) = ~~~ BitVec.ofNat 32 x := by rw [BitVec.allOnes_xor]
  have h3 := congrArg BitVec.toNat h2
  rw [h1, BitVec.toNat_xor] at h3
  simp only [BitVec.toNat_allOnes, BitVec.toNat_ofNat] at h3
  rw [Nat.mod_eq_of_lt (show x < 2 ^ 32 from h)] at h3
  exact h3

def U (x : UInt32) : Int := (x.toNat : Int)

theorem nat_ofNat (n : Nat) : (UInt32.ofNat n).toNat = n % 4294967296 := rfl
theorem U_ofNat (n : Nat) (h : n < 4294967296) : U (UInt32.ofNat n) = (n : Int) := by
  unfold U; rw [nat_ofNat]; omega

theorem U_add (x y : UInt32) : (U x + U y) % 4294967296 = U (x + y) := by
  unfold U; rw [UInt32.toNat_add]; omega
theorem U_addw (x y : UInt32) : IntKind.u32.wrap (U x + U y) = U (x + y) := by rw [IntKind.wrap_u32, U_add]
theorem U_xor (x y : UInt32) : bits .xor .u32 (U x) (U y) = U (x ^^^ y) := by
  unfold U; rw [u32_xor_nat _ _ x.toNat_lt y.toNat_lt, UInt32.toNat_xor]
theorem U_and (x y : UInt32) : bits .and .u32 (U x) (U y) = U (x &&& y) := by
  unfold U; rw [u32_and_nat _ _ x.toNat_lt y.toNat_lt, UInt32.toNat_and]
theorem U_or (x y : UInt32) : bits .or .u32 (U x) (U y) = U (x ||| y) := by
  unfold U; rw [u32_or_nat _ _ x.toNat_lt y.toNat_lt, UInt32.toNat_or]
theorem U_not (x : UInt32) : bits .xor .u32 IntKind.u32.max (U x) = U (~~~x) := by
  have hx := x.toNat_lt
  have e : IntKind.u32.max = ((4294967295 : Nat) : Int) := by decide
  unfold U
  rw [e, u32_xor_nat _ _ (by decide) hx, UInt32.toNat_not]
  have h2 := nat_not32 x.toNat hx
  rw [h2]
  congr 1
theorem U_shr (x : UInt32) (n : Nat) (h : n < 32) : U x / (2 : Int) ^ n = U (x >>> UInt32.ofNat n) := by
  unfold U
  rw [UInt32.toNat_shiftRight, nat_ofNat, Nat.mod_eq_of_lt (show n < 4294967296 by omega), Nat.mod_eq_of_lt h, Nat.shiftRight_eq_div_pow]
  simp
theorem U_shr3 (x : UInt32) : U x / (8 : Int) = U (x >>> 3) := U_shr x 3 (by decide)
theorem U_shr10 (x : UInt32) : U x / (1024 : Int) = U (x >>> 10) := U_shr x 10 (by decide)

theorem U_xor3 (x y : UInt32) : bits .xor .u32 (U x) (U y / (8 : Int)) = U (x ^^^ (y >>> 3)) := by rw [U_shr3, U_xor]
theorem U_xor10 (x y : UInt32) : bits .xor .u32 (U x) (U y / (1024 : Int)) = U (x ^^^ (y >>> 10)) := by rw [U_shr10, U_xor]

def rotr (x : UInt32) (n : Nat) : UInt32 := UInt32.ofNat (x.toNat / 2 ^ n ||| x.toNat * 2 ^ (32 - n) % 4294967296)

theorem U_rotr (x : UInt32) (n : Nat) (h1 : 1 ≤ n) (h2 : n ≤ 31) : bits .or .u32 (U x / 2 ^ n) (U x * 2 ^ (32 - n) % 4294967296) = U (rotr x n) := by
  have hx := x.toNat_lt
  have e1 : U x / 2 ^ n = ((x.toNat / 2 ^ n : Nat) : Int) := by unfold U; simp
  have e2 : U x * 2 ^ (32 - n) % 4294967296 = ((x.toNat * 2 ^ (32 - n) % 4294967296 : Nat) : Int) := by unfold U; simp
  have b1 : x.toNat / 2 ^ n < 4294967296 := Nat.lt_of_le_of_lt (Nat.div_le_self _ _) hx
  have b2 : x.toNat * 2 ^ (32 - n) % 4294967296 < 4294967296 := Nat.mod_lt _ (by decide)
  rw [e1, e2, u32_or_nat _ _ b1 b2]
  unfold rotr
  rw [U_ofNat _ (Nat.or_lt_two_pow (n := 32) b1 b2)]

set_option maxHeartbeats 400000 in
theorem ror_any (x : UInt32) (n : Nat) (N : Int) (hN : N = (n : Int)) (h1 : 1 ≤ n) (h2 : n ≤ 31) (w : World) : Calls Tryz.prog 76 #[.int .u32 (U x), .int .u64 N] w fun e w' => e = .returned (.int .u32 (U (rotr x n))) ∧ w = w' := by
  subst hN
  go_enter Tryz.func76, Tryz.ntmps76
  go_wp2
  go_ret
  exact ⟨ret_int (U_rotr x n h1 h2), rfl⟩

theorem ror_num (x : UInt32) (N : Int) (h1 : 1 ≤ N) (h2 : N ≤ 31) (w : World) : Calls Tryz.prog 76 #[.int .u32 (U x), .int .u64 N] w fun e w' => e = .returned (.int .u32 (U (rotr x N.toNat))) ∧ w = w' :=
  ror_any x N.toNat N (by omega) (by omega) (by omega) w

end Go.Proofs.YtbmmibmfjhehhaaGreat
