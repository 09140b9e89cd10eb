/- Contracts of ref 4's Times, Inverse, rol, Sub, Unsub. -/
import Derived.Test.YtjohckgdbbhpdaaProg
import Derived.WalkKit
import Derived.RowKit3
import Derived.Laws.BitsAllLaws
import Derived.WalkSmall
set_option linter.unusedVariables false
set_option linter.unusedSimpArgs false
namespace Go.Proofs.Ytjohckgdbbhpdaa
open Go.RowKit

theorem wrap_i64_7 (n : Int) (h0 : -9223372036854775808 ≤ n) (h1 : n ≤ 9223372036854775807) : IntKind.i64.wrap n = n := by rw [IntKind.wrap_i64]; omega
theorem i64_xor_nat (a b : Nat) (ha : a < 65536) (hb : b < 65536) : bits .xor .i64 (a : Int) (b : Int) = ((a ^^^ b : Nat) : Int) := by
  have hx : a ^^^ b < 2 ^ 16 := Nat.xor_lt_two_pow (by omega) (by omega)
  show IntKind.i64.wrap ((BitVec.ofInt 64 (a : Int) ^^^ BitVec.ofInt 64 (b : Int)).toNat : Int) = _
  rw [BitVec.toNat_xor, ofInt_u64 a (by omega), ofInt_u64 b (by omega), wrap_i64_7 _ (by omega) (by omega)]

/-- The product's first k parts; its rest. -/
def tpA (a b : Nat) : Nat → Nat
  | 0 => 0
  | k + 1 => if b / 2 ^ k % 2 = 1 then tpA a b k ^^^ (a * 2 ^ k) else tpA a b k
def rdA (n : Nat) : Nat → Nat
  | 0 => n
  | j + 1 => if rdA n j / 2 ^ (14 - j) % 2 = 1 then rdA n j ^^^ (283 * 2 ^ (6 - j)) else rdA n j
/-- The product of two bytes as polynomials. -/
def tmA (a b : UInt8) : UInt8 := UInt8.ofNat (rdA (tpA a.toNat b.toNat 8) 7 % 256)
theorem tpA_lt (a b : Nat) (ha : a < 256) : ∀ k, k ≤ 8 → tpA a b k < 32768
  | 0, _ => by show 0 < 32768; decide
  | k + 1, h => by
    have ih := tpA_lt a b ha k (by omega)
    unfold tpA
    split
    · have h2 : a * 2 ^ k < 2 ^ 15 := by
        have : 2 ^ k ≤ 2 ^ 7 := Nat.pow_le_pow_right (by decide) (by omega)
        have := Nat.mul_le_mul (show a ≤ 255 by omega) this
        omega
      exact Nat.xor_lt_two_pow (n := 15) (by omega) h2
    · exact ih
theorem rdA_lt (n : Nat) (hn : n < 32768) : ∀ j, j ≤ 7 → rdA n j < 32768
  | 0, _ => hn
  | j + 1, h => by
    have ih := rdA_lt n hn j (by omega)
    unfold rdA
    split
    · have h2 : 283 * 2 ^ (6 - j) < 2 ^ 15 := by
        have : 2 ^ (6 - j) ≤ 2 ^ 6 := Nat.pow_le_pow_right (by decide) (by omega)
        omega
      exact Nat.xor_lt_two_pow (n := 15) (by omega) h2
    · exact ih

set_option maxHeartbeats 2000000 in
theorem times_any (a b : UInt8) (w : World) : Calls Try.prog 10 #[.int .u8 (a.toNat : Int), .int .u8 (b.toNat : Int)] w fun e w' => e = .returned (.int .u8 ((tmA a b).toNat : Int)) ∧ w = w' := by
  have ha := a.toNat_lt
  have hb := b.toNat_lt
  have HR : Hid ((tmA a b).toNat = rdA (tpA a.toNat b.toNat 8) 7 % 256) := by
    show _ = _
    unfold tmA
    show _ % 256 = _
    omega
  have HT : Hid (∀ k, k ≤ 8 → tpA a.toNat b.toNat k < 32768) := tpA_lt _ _ ha
  have HD : Hid (∀ j, j ≤ 7 → rdA (tpA a.toNat b.toNat 8) j < 32768) := rdA_lt _ (tpA_lt _ _ ha 8 (by decide))
  generalize tmA a b = R at *
  go_enter Try.func10, Try.ntmps10
  go_wp2
  go_loopw [5, 6] (fun n i wr => ∃ k : Nat, k ≤ 8 ∧ n = .int .i64 (tpA a.toNat b.toNat k : Int) ∧ i = .int .i64 k ∧ w = wr) (fun _ i _ => 8 - (intOf i).toNat)
  case atStart => exact ⟨0, by omega, rfl, rfl, rfl⟩
  case round =>
    obtain ⟨k, hk, rfl, rfl, rfl⟩ := hrel
    by_cases hlt : k < 8
    · have hT := HT.out k hk
      have hstep : tpA a.toNat b.toNat (k + 1) = if b.toNat / 2 ^ k % 2 = 1 then tpA a.toNat b.toNat k ^^^ (a.toNat * 2 ^ k) else tpA a.toNat b.toNat k := rfl
      have h2 : a.toNat * 2 ^ k < 32768 := by
        have h1 : 2 ^ k ≤ 2 ^ 7 := Nat.pow_le_pow_right (by decide) (by omega)
        have := Nat.mul_le_mul (show a.toNat ≤ 255 by omega) h1
        omega
      have hpw : ((2 ^ k : Nat) : Int) = (2 : Int) ^ k := by simp
      obtain ⟨q, hq⟩ : ∃ q, q = b.toNat / 2 ^ k := ⟨_, rfl⟩
      have hqI : (b.toNat : Int) / 2 ^ k = (q : Int) := by rw [hq, ← hpw]; rfl
      rw [← hq] at hstep
      have hx := i64_xor_nat (tpA a.toNat b.toNat k) (a.toNat * 2 ^ k) (by omega) (by omega)
      have hsh : ((a.toNat * 2 ^ k : Nat) : Int) = (a.toNat : Int) * 2 ^ k := by simp
      rw [hsh] at hx
      have hwr : IntKind.i64.wrap ((a.toNat : Int) * 2 ^ k) = (a.toNat : Int) * 2 ^ k := by rw [← hsh]; exact wrap_i64_7 _ (by omega) (by omega)
      have HS : Hid _ := hstep
      clear hstep hq hpw
      by_cases hbit : q % 2 = 1
      · have hb1 : ((q : Int) % 2 == 1) = true := by simp only [beq_iff_eq]; omega
        have hb2 : ((q : Int).tmod 2 == 1) = true := by rw [Int.tmod_eq_emod_of_nonneg (by omega)]; exact hb1
        have HB : Hid _ := hbit
        clear hbit
        go_wp2
        go_roundw
        case rel => exact ⟨k + 1, by omega, by rw [HS.out, if_pos HB.out], by go_num, trivial⟩
        case measure => simp [intOf]; omega
      · have hb1 : ((q : Int) % 2 == 1) = false := by rw [beq_eq_false_iff_ne]; omega
        have hb2 : ((q : Int).tmod 2 == 1) = false := by rw [Int.tmod_eq_emod_of_nonneg (by omega)]; exact hb1
        have HB : Hid _ := hbit
        clear hbit
        go_wp2
        go_roundw
        case rel => exact ⟨k + 1, by omega, by rw [HS.out, if_neg HB.out], by go_num, trivial⟩
        case measure => simp [intOf]; omega
    · have hk8 : k = 8 := by omega
      rw [hk8]
      rw [show ((8 : Nat) : Int) = 8 from rfl]
      clear hk hlt
      have h0 : rdA (tpA a.toNat b.toNat 8) 0 = tpA a.toNat b.toNat 8 := rfl
      have HRS : Hid (∀ j, rdA (tpA a.toNat b.toNat 8) (j + 1) = if rdA (tpA a.toNat b.toNat 8) j / 2 ^ (14 - j) % 2 = 1 then rdA (tpA a.toNat b.toNat 8) j ^^^ (283 * 2 ^ (6 - j)) else rdA (tpA a.toNat b.toNat 8) j) := fun _ => rfl
      rw [← h0]
      clear h0 hk8
      generalize rdA (tpA a.toNat b.toNat 8) = D at *
      go_wp2
      go_loopw [5, 7] (fun n i wr => ∃ j : Nat, j ≤ 7 ∧ n = .int .i64 (D j : Int) ∧ i = .int .i64 (14 - (j : Int)) ∧ w = wr) (fun _ i _ => (intOf i).toNat)
      case atStart => exact ⟨0, by omega, rfl, rfl, rfl⟩
      case round =>
        obtain ⟨j, hj, rfl, rfl, rfl⟩ := hrel
        have hD := HD.out j hj
        by_cases hjl : j < 7
        · obtain ⟨c, hc⟩ : ∃ c, c = 14 - j := ⟨_, rfl⟩
          obtain ⟨e, he⟩ : ∃ e, e = 6 - j := ⟨_, rfl⟩
          have hcI : (14 : Int) - (j : Int) = (c : Int) := by omega
          have heI : (c : Int) - 8 = (e : Int) := by omega
          have hc8 : 8 ≤ (c : Int) := by omega
          have hstep := HRS.out j
          rw [← hc, ← he] at hstep
          rw [hcI]
          have hpc : ((2 ^ c : Nat) : Int) = (2 : Int) ^ c := by simp
          obtain ⟨q, hq⟩ : ∃ q, q = D j / 2 ^ c := ⟨_, rfl⟩
          have hqI : (D j : Int) / 2 ^ c = (q : Int) := by rw [hq, ← hpc]; rfl
          rw [← hq] at hstep
          have h2 : 283 * 2 ^ e < 32768 := by
            have : 2 ^ e ≤ 2 ^ 6 := Nat.pow_le_pow_right (by decide) (by omega)
            omega
          have hx := i64_xor_nat (D j) (283 * 2 ^ e) (by omega) (by omega)
          have hsh : ((283 * 2 ^ e : Nat) : Int) = 283 * (2 : Int) ^ e := by simp
          rw [hsh] at hx
          have hwr : IntKind.i64.wrap (283 * (2 : Int) ^ e) = 283 * 2 ^ e := by rw [← hsh]; exact wrap_i64_7 _ (by omega) (by omega)
          have HS : Hid _ := hstep
          have HCI : Hid _ := hcI
          have hce : c ≤ 14 := by omega
          clear hstep hq hpc hc he hcI
          by_cases hbit : q % 2 = 1
          · have hb1 : ((q : Int) % 2 == 1) = true := by simp only [beq_iff_eq]; omega
            have hb2 : ((q : Int).tmod 2 == 1) = true := by rw [Int.tmod_eq_emod_of_nonneg (by omega)]; exact hb1
            have HB : Hid _ := hbit
            clear hbit
            go_wp2
            go_roundw
            case rel => exact ⟨j + 1, by omega, by rw [HS.out, if_pos HB.out], by have := HCI.out; go_num, trivial⟩
            case measure => simp [intOf]; omega
          · have hb1 : ((q : Int) % 2 == 1) = false := by rw [beq_eq_false_iff_ne]; omega
            have hb2 : ((q : Int).tmod 2 == 1) = false := by rw [Int.tmod_eq_emod_of_nonneg (by omega)]; exact hb1
            have HB : Hid _ := hbit
            clear hbit
            go_wp2
            go_roundw
            case rel => exact ⟨j + 1, by omega, by rw [HS.out, if_neg HB.out], by have := HCI.out; go_num, trivial⟩
            case measure => simp [intOf]; omega
        · have hj7 : j = 7 := by omega
          subst hj7
          have hrI : (D 7 : Int) % 256 = (R.toNat : Int) := by have := HR.out; omega
          have hge : ¬ (8 : Int) ≤ 14 - ((7 : Nat) : Int) := by omega
          go_wp2
          go_ret
          exact ⟨rfl, rfl⟩

/-- The inverse, by trying all from 256 less f on. -/
def invA (a : UInt8) : Nat → UInt8
  | 0 => 0
  | f + 1 => if tmA a (UInt8.ofNat (255 - f)) = 1 then UInt8.ofNat (255 - f) else invA a f
def inA (a : UInt8) : UInt8 := invA a 255

set_option maxHeartbeats 200000 in
theorem inverse_any (a : UInt8) (w : World) : Calls Try.prog 12 #[.int .u8 (a.toNat : Int)] w fun e w' => e = .returned (.int .u8 ((inA a).toNat : Int)) ∧ w = w' := by
  obtain ⟨R, hR⟩ : ∃ R, R = inA a := ⟨_, rfl⟩
  rw [← hR]
  have HV0 : Hid (invA a 0 = 0) := rfl
  have HVS : Hid (∀ f, invA a (f + 1) = if tmA a (UInt8.ofNat (255 - f)) = 1 then UInt8.ofNat (255 - f) else invA a f) := fun _ => rfl
  unfold inA at hR
  generalize invA a = V at *
  have HR : Hid (R = V 255) := hR
  clear hR
  go_enter Try.func12, Try.ntmps12
  go_wp2
  go_loopw [3] (fun i wr => ∃ f : Nat, f ≤ 255 ∧ i = .int .i64 (256 - (f : Int)) ∧ R = V f ∧ w = wr) (fun i _ => (256 - intOf i).toNat)
  case atStart => exact ⟨255, by omega, rfl, HR.out, rfl⟩
  case round =>
    obtain ⟨f, hf, rfl, hr, rfl⟩ := hrel
    cases f with
    | zero =>
      have hr0 : R = 0 := hr.trans HV0.out
      subst hr0
      go_wp2
      go_ret
      exact ⟨rfl, rfl⟩
    | succ f =>
      obtain ⟨c, hc⟩ : ∃ c, c = UInt8.ofNat (255 - f) := ⟨_, rfl⟩
      have hstep : V (f + 1) = if tmA a c = 1 then c else V f := by rw [hc]; exact HVS.out f
      rw [hstep] at hr
      obtain ⟨B, hB⟩ : ∃ B, B = 255 - f := ⟨_, rfl⟩
      have hcB : c.toNat = B := by rw [hc, hB]; show _ % 256 = _; omega
      have hBI : (256 : Int) - ((f + 1 : Nat) : Int) = (B : Int) := by omega
      have hBm : (B : Int) % 256 = (c.toNat : Int) := by rw [hcB]; omega
      have hBl : (B : Int) < 256 := by omega
      have ht := times_any a c w
      rw [hBI]
      by_cases h1 : tmA a c = 1
      · rw [if_pos h1] at hr
        rw [h1, show (((1 : UInt8).toNat : Nat) : Int) = 1 from rfl, hcB] at ht
        have HRB : Hid (R.toNat = B) := by show _ = _; rw [hr]; exact hcB
        clear hstep hc hcB hB hBI h1 hr hBm
        go_wp2_with fail
        refine ht.mono ?_
        rintro e wx ⟨rfl, rfl⟩
        go_wp2
        go_ret
        exact ⟨by rw [HRB.out]; rfl, rfl⟩
      · rw [if_neg h1] at hr
        have hne : (((tmA a c).toNat : Int) == 1) = false := by
          rw [beq_eq_false_iff_ne]
          intro e
          exact h1 (UInt8.toNat_inj.1 (by show _ = 1; omega))
        generalize tmA a c = tt at *
        rw [hcB] at ht
        have HRR : Hid _ := hr
        have HBI : Hid _ := hB
        clear hstep hc hcB hB hBI h1 hr hBm
        go_wp2_with fail
        refine ht.mono ?_
        rintro e wx ⟨rfl, rfl⟩
        go_wp2
        go_roundw
        case rel => exact ⟨f, by omega, by have := HBI.out; go_num, HRR.out, trivial⟩
        case measure => have := HBI.out; simp [intOf]; omega

/-- Eight bits rotated left. -/
def rolA (a : UInt8) (n : Nat) : UInt8 := UInt8.ofNat ((a.toNat * 2 ^ n % 256) ||| (a.toNat / 2 ^ (8 - n)))
theorem rol_any (a : UInt8) (n : Nat) (hn : n ≤ 7) (w : World) : Calls Try.prog 31 #[.int .u8 (a.toNat : Int), .int .u64 (n : Int)] w fun e w' => e = .returned (.int .u8 ((rolA a n).toNat : Int)) ∧ w = w' := by
  have ha := a.toNat_lt
  have hq : a.toNat / 2 ^ (8 - n) < 256 := Nat.lt_of_le_of_lt (Nat.div_le_self _ _) ha
  have ho := u8_or_nat (a.toNat * 2 ^ n % 256) (a.toNat / 2 ^ (8 - n)) (by omega) hq
  have hr : ((rolA a n).toNat : Int) = (((a.toNat * 2 ^ n % 256) ||| (a.toNat / 2 ^ (8 - n)) : Nat) : Int) := by
    have h8 : (a.toNat * 2 ^ n % 256) ||| (a.toNat / 2 ^ (8 - n)) < 2 ^ 8 := Nat.or_lt_two_pow (by omega) (by omega)
    unfold rolA
    show ((_ % 256 : Nat) : Int) = _
    omega
  obtain ⟨e, he⟩ : ∃ e, e = 8 - n := ⟨_, rfl⟩
  have heI : (8 : Int) - (n : Int) = (e : Int) := by omega
  have hwe : IntKind.u64.wrap ((8 : Int) - (n : Int)) = (e : Int) := by rw [heI, IntKind.wrap_u64]; omega
  have h1 : ((a.toNat * 2 ^ n % 256 : Nat) : Int) = (a.toNat : Int) * 2 ^ n % 256 := by simp
  have h2 : ((a.toNat / 2 ^ (8 - n) : Nat) : Int) = (a.toNat : Int) / 2 ^ e := by rw [← he]; simp
  rw [h1, h2, ← hr] at ho
  have he8 : e ≤ 8 := by omega
  clear hr h1 h2 hq he heI
  generalize rolA a n = R at *
  go_enter Try.func31, Try.ntmps31
  go_wp2
  go_ret
  exact ⟨rfl, rfl⟩

/-- What stands for a byte; and back, by trying all from 256 less f on. -/
def sbA (a : UInt8) : UInt8 := inA a ^^^ rolA (inA a) 1 ^^^ rolA (inA a) 2 ^^^ rolA (inA a) 3 ^^^ rolA (inA a) 4 ^^^ 99
def unsA (a : UInt8) : Nat → UInt8
  | 0 => 0
  | f + 1 => if sbA (UInt8.ofNat (255 - f)) = a then UInt8.ofNat (255 - f) else unsA a f
def unA (a : UInt8) : UInt8 := unsA a 256
theorem xor_u8' (x p : UInt8) : bits .xor .u8 (x.toNat : Int) (p.toNat : Int) = (((x ^^^ p).toNat : Nat) : Int) := by
  rw [u8_xor_nat _ _ (by have := x.toNat_lt; omega) (by have := p.toNat_lt; omega)]
  simp

set_option maxHeartbeats 1000000 in
theorem sub_any (a : UInt8) (w : World) : Calls Try.prog 14 #[.int .u8 (a.toNat : Int)] w fun e w' => e = .returned (.int .u8 ((sbA a).toNat : Int)) ∧ w = w' := by
  have hi := inverse_any a w
  have hsb : sbA a = inA a ^^^ rolA (inA a) 1 ^^^ rolA (inA a) 2 ^^^ rolA (inA a) 3 ^^^ rolA (inA a) 4 ^^^ 99 := rfl
  generalize inA a = y at *
  have h1 := rol_any y 1 (by decide) w
  have h2 := rol_any y 2 (by decide) w
  have h3 := rol_any y 3 (by decide) w
  have h4 := rol_any y 4 (by decide) w
  generalize rolA y 1 = r1 at *
  generalize rolA y 2 = r2 at *
  generalize rolA y 3 = r3 at *
  generalize rolA y 4 = r4 at *
  have x1 := xor_u8' y r1
  have x2 := xor_u8' (y ^^^ r1) r2
  have x3 := xor_u8' (y ^^^ r1 ^^^ r2) r3
  have x4 := xor_u8' (y ^^^ r1 ^^^ r2 ^^^ r3) r4
  have x5 := xor_u8' (y ^^^ r1 ^^^ r2 ^^^ r3 ^^^ r4) 99
  rw [show (((99 : UInt8).toNat : Nat) : Int) = 99 from rfl] at x5
  rw [hsb]
  clear hsb
  generalize y ^^^ r1 ^^^ r2 ^^^ r3 ^^^ r4 ^^^ 99 = s5 at *
  generalize y ^^^ r1 ^^^ r2 ^^^ r3 ^^^ r4 = s4 at *
  generalize y ^^^ r1 ^^^ r2 ^^^ r3 = s3 at *
  generalize y ^^^ r1 ^^^ r2 = s2 at *
  generalize y ^^^ r1 = s1 at *
  go_enter Try.func14, Try.ntmps14
  go_wp2_with fail
  refine hi.mono ?_
  rintro e wx ⟨rfl, rfl⟩
  go_wp2_with fail
  refine h1.mono ?_
  rintro e wx ⟨rfl, rfl⟩
  go_wp2_with fail
  refine h2.mono ?_
  rintro e wx ⟨rfl, rfl⟩
  go_wp2_with fail
  refine h3.mono ?_
  rintro e wx ⟨rfl, rfl⟩
  go_wp2_with fail
  refine h4.mono ?_
  rintro e wx ⟨rfl, rfl⟩
  go_wp2
  go_ret
  exact ⟨rfl, rfl⟩

set_option maxHeartbeats 1000000 in
theorem unsub_any (a : UInt8) (w : World) : Calls Try.prog 16 #[.int .u8 (a.toNat : Int)] w fun e w' => e = .returned (.int .u8 ((unA a).toNat : Int)) ∧ w = w' := by
  obtain ⟨R, hR⟩ : ∃ R, R = unA a := ⟨_, rfl⟩
  rw [← hR]
  have HV0 : Hid (unsA a 0 = 0) := rfl
  have HVS : Hid (∀ f, unsA a (f + 1) = if sbA (UInt8.ofNat (255 - f)) = a then UInt8.ofNat (255 - f) else unsA a f) := fun _ => rfl
  unfold unA at hR
  generalize unsA a = V at *
  have HR : Hid (R = V 256) := hR
  clear hR
  go_enter Try.func16, Try.ntmps16
  go_wp2
  go_loopw [3] (fun i wr => ∃ f : Nat, f ≤ 256 ∧ i = .int .i64 (256 - (f : Int)) ∧ R = V f ∧ w = wr) (fun i _ => (256 - intOf i).toNat)
  case atStart => exact ⟨256, by omega, rfl, HR.out, rfl⟩
  case round =>
    obtain ⟨f, hf, rfl, hr, rfl⟩ := hrel
    cases f with
    | zero =>
      have hr0 : R = 0 := hr.trans HV0.out
      subst hr0
      go_wp2
      go_ret
      exact ⟨rfl, rfl⟩
    | succ f =>
      obtain ⟨c, hc⟩ : ∃ c, c = UInt8.ofNat (255 - f) := ⟨_, rfl⟩
      have hstep : V (f + 1) = if sbA c = a then c else V f := by rw [hc]; exact HVS.out f
      rw [hstep] at hr
      obtain ⟨B, hB⟩ : ∃ B, B = 255 - f := ⟨_, rfl⟩
      have hcB : c.toNat = B := by rw [hc, hB]; show _ % 256 = _; omega
      have hBI : (256 : Int) - ((f + 1 : Nat) : Int) = (B : Int) := by omega
      have hBl : (B : Int) < 256 := by omega
      have ht := sub_any c w
      rw [hcB] at ht
      rw [hBI]
      by_cases h1 : sbA c = a
      · rw [if_pos h1] at hr
        rw [h1] at ht
        have HRB : Hid (R.toNat = B) := by show _ = _; rw [hr]; exact hcB
        clear hstep hc hcB hB hBI h1 hr
        go_wp2_with fail
        refine ht.mono ?_
        rintro e wx ⟨rfl, rfl⟩
        go_wp2
        go_ret
        exact ⟨by rw [HRB.out]; rfl, rfl⟩
      · rw [if_neg h1] at hr
        have hne : (((sbA c).toNat : Int) == (a.toNat : Int)) = false := by
          rw [beq_eq_false_iff_ne]
          intro e
          exact h1 (UInt8.toNat_inj.1 (by omega))
        generalize sbA c = tt at *
        have HRR : Hid _ := hr
        have HBI : Hid _ := hB
        clear hstep hc hcB hB hBI h1 hr
        go_wp2_with fail
        refine ht.mono ?_
        rintro e wx ⟨rfl, rfl⟩
        go_wp2
        go_roundw
        case rel => exact ⟨f, by omega, by have := HBI.out; go_num, HRR.out, trivial⟩
        case measure => have := HBI.out; simp [intOf]; omega

end Go.Proofs.Ytjohckgdbbhpdaa
