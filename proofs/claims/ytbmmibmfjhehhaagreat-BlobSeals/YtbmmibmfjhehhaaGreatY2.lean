/- The reference's constants of SHA-256: primes, roots, and their tables. -/
import Derived.Test.YtbmmibmfjhehhaaGreatU2
import Derived.Lib.Mul64
import Derived.Laws.Externs
set_option linter.unusedVariables false
set_option linter.unusedSimpArgs false
namespace Go.Proofs.YtbmmibmfjhehhaaGreat
open Go.RowKit

def P64 : List Nat := [2, 3, 5, 7, 11, 13, 17, 19, 23, 29, 31, 37, 41, 43, 47, 53, 59, 61, 67, 71, 73, 79, 83, 89, 97, 101, 103, 107, 109, 113, 127, 131, 137, 139, 149, 151, 157, 163, 167, 173, 179, 181, 191, 193, 197, 199, 211, 223, 227, 229, 233, 239, 241, 251, 257, 263, 269, 271, 277, 281, 283, 293, 307, 311]
def K64 : List UInt32 := [1116352408, 1899447441, 3049323471, 3921009573, 961987163, 1508970993, 2453635748, 2870763221, 3624381080, 310598401, 607225278, 1426881987, 1925078388, 2162078206, 2614888103, 3248222580, 3835390401, 4022224774, 264347078, 604807628, 770255983, 1249150122, 1555081692, 1996064986, 2554220882, 2821834349, 2952996808, 3210313671, 3336571891, 3584528711, 113926993, 338241895, 666307205, 773529912, 1294757372, 1396182291, 1695183700, 1986661051, 2177026350, 2456956037, 2730485921, 2820302411, 3259730800, 3345764771, 3516065817, 3600352804, 4094571909, 275423344, 430227734, 506948616, 659060556, 883997877, 958139571, 1322822218, 1537002063, 1747873779, 1955562222, 2024104815, 2227730452, 2361852424, 2428436474, 2756734187, 3204031479, 3329325298]
def H8 : List UInt32 := [1779033703, 3144134277, 1013904242, 2773480762, 1359893119, 2600822924, 528734635, 1541459225]

namespace M64
theorem maskN (a : Nat) (ha : a < 18446744073709551616) : bits .and .u64 (a : Int) 4294967295 = ((a % 4294967296 : Nat) : Int) := by
  have h := bits_and_u64_nat a 4294967295 ha (by omega)
  have e : a &&& 4294967295 = a % 4294967296 := Nat.and_two_pow_sub_one_eq_mod a 32
  rw [e] at h
  exact h
theorem divN (a : Nat) : (a : Int) / 4294967296 = ((a / 4294967296 : Nat) : Int) := by omega
theorem mulN (a b : Nat) : (a : Int) * (b : Int) = ((a * b : Nat) : Int) := (Int.natCast_mul a b).symm
theorem addN (a b : Nat) : (a : Int) + (b : Int) = ((a + b : Nat) : Int) := (Int.natCast_add a b).symm
theorem wrapN (a : Nat) (ha : a < 18446744073709551616) : IntKind.u64.wrap (a : Int) = (a : Int) := by rw [IntKind.wrap_u64]; omega
theorem wrapM (a : Nat) : IntKind.u64.wrap (a : Int) = ((a % 18446744073709551616 : Nat) : Int) := by rw [IntKind.wrap_u64]; omega
end M64

set_option maxHeartbeats 1000000 in
theorem mul64_any (x y : Nat) (hx : x < 18446744073709551616) (hy : y < 18446744073709551616) (w : World) :
    Calls Tryz.prog 110 #[.int .u64 (x : Int), .int .u64 (y : Int)] w fun e w' => e = .returned (.tuple #[.int .u64 ((x * y / 18446744073709551616 : Nat) : Int), .int .u64 ((x * y % 18446744073709551616 : Nat) : Int)]) ∧ w = w' := by
  obtain ⟨bd, bt, bw, hhi⟩ := Lib.mul64_hi x y hx hy
  have ba := Lib.half_mul_le (a := x / 4294967296) (b := y / 4294967296) (by omega) (by omega)
  have bb := Lib.half_mul_le (a := x / 4294967296) (b := y % 4294967296) (by omega) (by omega)
  have bc := Lib.half_mul_le (a := x % 4294967296) (b := y / 4294967296) (by omega) (by omega)
  have ba' : x / 4294967296 * (y / 4294967296) < 18446744073709551616 := by omega
  have bb' : x / 4294967296 * (y % 4294967296) < 18446744073709551616 := by omega
  have bc' : x % 4294967296 * (y / 4294967296) < 18446744073709551616 := by omega
  have bh1 : x / 4294967296 * (y / 4294967296) + (x / 4294967296 * (y % 4294967296) + x % 4294967296 * (y % 4294967296) / 4294967296) / 4294967296 < 18446744073709551616 := by omega
  have bh : x / 4294967296 * (y / 4294967296) + (x / 4294967296 * (y % 4294967296) + x % 4294967296 * (y % 4294967296) / 4294967296) / 4294967296 + ((x / 4294967296 * (y % 4294967296) + x % 4294967296 * (y % 4294967296) / 4294967296) % 4294967296 + x % 4294967296 * (y / 4294967296)) / 4294967296 < 18446744073709551616 := by omega
  go_enter Tryz.func110, Tryz.ntmps110
  go_wp2
  simp only [M64.maskN x hx, M64.maskN y hy, M64.divN, M64.mulN, M64.addN, M64.wrapN _ bd, M64.wrapN _ bb', M64.wrapN _ bt, M64.maskN _ bt, M64.wrapN _ bc', M64.wrapN _ bw, M64.wrapN _ ba', M64.wrapN _ bh1, M64.wrapN _ bh, M64.wrapM (x * y)]
  rw [hhi]
  go_ret2
  exact ⟨rfl, rfl⟩

theorem add64_any (x y : Nat) (w : World) :
    (callFunc 111 #[.int .u64 (x : Int), .int .u64 (y : Int), .int .u64 0]).run Tryz.prog w =
      .ok (.value (.tuple #[.int .u64 (((x + y) % 18446744073709551616 : Nat) : Int), .int .u64 (((x + y) / 18446744073709551616 : Nat) : Int)])) w := by
  rw [run_callFunc_extern Tryz.func111 (by kernel_rfl) (by kernel_rfl) (by kernel_rfl) (e := add64Entry) (by kernel_rfl), run_add64 x y 0 (by omega) (by omega) (by omega) (by omega)]
  simp only [Result.andThen]
  congr 5 <;> omega

theorem ret_bool' {a b : Bool} (h : a = b) : Ending.returned (.bool a) = .returned (.bool b) := by rw [h]

set_option maxHeartbeats 1000000 in
theorem power2_any (x p : Nat) (hx : x < 274877906944) (hp : p < 4294967296) (w : World) :
    Calls Tryz.prog 90 #[.int .u64 (x : Int), .int .i64 2, .int .u64 (p : Int)] w fun e w' => e = .returned (.bool (decide (x * x ≤ p * 18446744073709551616))) ∧ w = w' := by
  go_enter Tryz.func90, Tryz.ntmps90
  go_wp2_with fail
  refine (mul64_any x x (by omega) (by omega) _).mono ?_
  rintro e wx ⟨rfl, rfl⟩
  generalize hm : x * x = m
  have H0 : Hid _ := hm
  clear hm
  generalize hhi : m / 18446744073709551616 = hi
  generalize hlo : m % 18446744073709551616 = lo
  have H1 : Hid _ := hhi
  have H2 : Hid _ := hlo
  clear hhi hlo
  go_wp2
  all_goals
    go_ret
    have E1 := H1.out
    have E2 := H2.out
    refine ⟨ret_bool' ?_, rfl⟩
    rw [H0.out, Bool.eq_iff_iff]
    simp
    omega

def Q96 : Nat := 79228162514264337593543950336

theorem cube_arith (x p : Nat) (hx : x < 274877906944) (hp : p < 4294967296) : ∃ hi lo a b c d mid cy : Nat, x * x / 18446744073709551616 = hi ∧ x * x % 18446744073709551616 = lo ∧ lo * x / 18446744073709551616 = a ∧ lo * x % 18446744073709551616 = b ∧
    hi * x / 18446744073709551616 = c ∧ hi * x % 18446744073709551616 = d ∧ (a + d) % 18446744073709551616 = mid ∧ (a + d) / 18446744073709551616 = cy ∧ c < 1 ∧ cy < 1 ∧ hi < 18446744073709551616 ∧ lo < 18446744073709551616 ∧ mid < 18446744073709551616 ∧
    (x * x * x ≤ p * Q96 ↔ mid < p * 4294967296 ∨ (mid = p * 4294967296 ∧ b = 0)) := by
  have hxx : x * x ≤ 274877906943 * 274877906943 := Nat.mul_le_mul (by omega) (by omega)
  obtain ⟨m, hm⟩ : ∃ m, m = x * x := ⟨_, rfl⟩
  rw [← hm] at hxx ⊢
  obtain ⟨hi, hhi⟩ : ∃ hi, hi = m / 18446744073709551616 := ⟨_, rfl⟩
  obtain ⟨lo, hlo⟩ : ∃ lo, lo = m % 18446744073709551616 := ⟨_, rfl⟩
  have bhi : hi < 4096 := by omega
  have blo : lo < 18446744073709551616 := by omega
  have hmm : m = hi * 18446744073709551616 + lo := by omega
  have hcube : m * x = hi * x * 18446744073709551616 + lo * x := by rw [hmm, Nat.add_mul, Nat.mul_right_comm]
  have bA : lo * x < 18446744073709551616 * 274877906944 := Nat.mul_lt_mul'' blo hx
  have bC : hi * x < 4096 * 274877906944 := Nat.mul_lt_mul'' bhi hx
  rw [hcube]
  refine ⟨hi, lo, lo * x / 18446744073709551616, lo * x % 18446744073709551616, hi * x / 18446744073709551616, hi * x % 18446744073709551616, (lo * x / 18446744073709551616 + hi * x % 18446744073709551616) % 18446744073709551616, (lo * x / 18446744073709551616 + hi * x % 18446744073709551616) / 18446744073709551616, hhi.symm, hlo.symm, rfl, rfl, rfl, rfl, rfl, rfl, ?_, ?_, by omega, by omega, ?_, ?_⟩
  all_goals
    generalize lo * x = A at *
    generalize hi * x = C at *
  · omega
  · omega
  · omega
  · unfold Q96; omega

set_option maxHeartbeats 2000000 in
set_option maxRecDepth 100000 in
theorem power3_any (x p : Nat) (hx : x < 274877906944) (hp : p < 4294967296) (w : World) :
    Calls Tryz.prog 90 #[.int .u64 (x : Int), .int .i64 3, .int .u64 (p : Int)] w fun e w' => e = .returned (.bool (decide (x * x * x ≤ p * Q96))) ∧ w = w' := by
  obtain ⟨hi, lo, a, b, c, d, mid, cy, e1, e2, e3, e4, e5, e6, e7, e8, bc, bcy, b1, b2, b3, hiff⟩ := cube_arith x p hx hp
  have c1 := mul64_any x x (by omega) (by omega) w
  rw [e1, e2] at c1
  have c2 := mul64_any lo x b2 (by omega) w
  rw [e3, e4] at c2
  have c3 := mul64_any hi x b1 (by omega) w
  rw [e5, e6] at c3
  have h64 := fun wx => add64_any a d wx
  simp only [e7, e8] at h64
  have hne : ((c : Int) + (cy : Int) != (p : Int) / 4294967296) = false := by rw [bne_eq_false_iff_eq]; omega
  have HI : Hid _ := hiff
  clear e1 e2 e3 e4 e5 e6 e7 e8 hiff
  go_enter Tryz.func90, Tryz.ntmps90
  go_wp2_with fail
  refine c1.mono ?_
  rintro e wx ⟨rfl, rfl⟩
  clear c1
  go_wp2_with fail
  refine c2.mono ?_
  rintro e wx ⟨rfl, rfl⟩
  clear c2
  go_wp2_with fail
  refine c3.mono ?_
  rintro e wx ⟨rfl, rfl⟩
  clear c3
  have H64 : Hid _ := h64
  clear h64
  go_wp2_with fail
  have h64 := H64.out
  go_simp
  clear h64
  obtain ⟨ps, hps⟩ : ∃ ps, ps = p * 4294967296 := ⟨_, rfl⟩
  have hsl : (p : Int) * 4294967296 % 18446744073709551616 = (ps : Int) := by omega
  have hsl2 : IntKind.u64.wrap ((p : Int) * 4294967296) = (ps : Int) := by rw [W1.wrap_u64]; exact hsl
  have hI := HI.out
  rw [← hps] at hI
  have HI2 : Hid _ := hI
  clear hp hps hI HI b1 b2 hx
  by_cases h1 : mid < ps
  · go_wp2
    go_ret
    exact ⟨ret_bool' (decide_eq_true (HI2.out.2 (.inl h1))).symm, rfl⟩
  · by_cases h2 : mid = ps
    · subst h2
      have h3 : ((mid : Int) == (mid : Int)) = true := by simp
      have hb : ((b : Int) == 0) = decide (b = 0) := by rw [Bool.eq_iff_iff]; simp
      go_wp2
      all_goals
        go_ret
        refine ⟨ret_bool' ?_, rfl⟩
        have hI := HI2.out
        rw [Bool.eq_iff_iff]
        simp only [decide_eq_true_iff, hI]
        simp
    · have h3 : ((mid : Int) == (ps : Int)) = false := by rw [beq_eq_false_iff_ne]; omega
      go_wp2
      go_ret
      refine ⟨ret_bool' ?_, rfl⟩
      have hI := HI2.out
      rw [Bool.eq_iff_iff]
      simp only [decide_eq_true_iff, hI]
      simp
      omega

end Go.Proofs.YtbmmibmfjhehhaaGreat
