/- Contracts of aes.Times, aes.Inverse, bits.RotateLeft8, aes.Sub. -/
import Derived.Test.YtjohckgdbbhpdaaA7
set_option linter.unusedVariables false
set_option linter.unusedSimpArgs false
namespace Go.Proofs.Ytjohckgdbbhpdaa
open Go.RowKit

/-- A byte times x. -/
def xtP (x : UInt8) : UInt8 := UInt8.ofNat ((x.toNat * 2 % 256) ^^^ (x.toNat / 128 * 27 % 256))
def pwP (a : UInt8) : Nat → UInt8
  | 0 => a
  | k + 1 => xtP (pwP a k)
/-- The sum of the first k parts. -/
def smP (a b : UInt8) : Nat → UInt8
  | 0 => 0
  | k + 1 => smP a b k ^^^ (if b.toNat / 2 ^ k % 2 = 1 then pwP a k else 0)
/-- The product, as aes.Times makes it. -/
def tmP (a b : UInt8) : UInt8 := smP a b 8
theorem smP_end (a b : UInt8) (k : Nat) (hk : k ≤ 8) (h0 : b.toNat / 2 ^ k = 0) : smP a b k = tmP a b := by
  have key : ∀ d, smP a b (k + d) = smP a b k := by
    intro d
    induction d with
    | zero => rfl
    | succ d ih =>
      show smP a b (k + d) ^^^ _ = _
      have hz : b.toNat / 2 ^ (k + d) = 0 := by rw [Nat.pow_add, ← Nat.div_div_eq_div_mul, h0, Nat.zero_div]
      rw [show k.add d = k + d from rfl, hz, ih]
      simp
  have := key (8 - k)
  rw [show k + (8 - k) = 8 by omega] at this
  exact this.symm

set_option maxHeartbeats 2000000 in
theorem ptimes_any (a b : UInt8) (w : World) : Calls Try.prog 9 #[.int .u8 (a.toNat : Int), .int .u8 (b.toNat : Int)] w fun e w' => e = .returned (.int .u8 ((tmP a b).toNat : Int)) ∧ w = w' := by
  have hb := b.toNat_lt
  have HE : Hid (∀ k, k ≤ 8 → b.toNat / 2 ^ k = 0 → smP a b k = tmP a b) := fun k h1 h2 => smP_end a b k h1 h2
  have HS : Hid (∀ k, smP a b (k + 1) = smP a b k ^^^ (if b.toNat / 2 ^ k % 2 = 1 then pwP a k else 0)) := fun _ => rfl
  have HP : Hid (∀ k, pwP a (k + 1) = xtP (pwP a k)) := fun _ => rfl
  have HS0 : Hid (smP a b 0 = 0) := rfl
  have HP0 : Hid (pwP a 0 = a) := rfl
  have HQ8 : Hid (∀ k, k ≤ 8 → b.toNat / 2 ^ k ≠ 0 → k < 8) := fun k hk h => by
    rcases Nat.lt_or_ge k 8 with h8 | h8
    · exact h8
    · exfalso; apply h; rw [show k = 8 by omega]; omega
  generalize tmP a b = R at *
  generalize smP a b = S at *
  generalize pwP a = P at *
  obtain ⟨Q, hQ⟩ : ∃ Q : Nat → Nat, Q = fun k => b.toNat / 2 ^ k := ⟨_, rfl⟩
  have HQS : Hid (∀ k, Q (k + 1) = Q k / 2) := fun k => by rw [hQ]; show _ / 2 ^ (k + 1) = _ / 2 ^ k / 2; rw [Nat.pow_succ, Nat.div_div_eq_div_mul]
  have HQ0 : Hid (Q 0 = b.toNat) := by show _ = _; rw [hQ]; show _ / 2 ^ 0 = _; simp
  have HQL : Hid (∀ k, Q k < 256) := fun k => by rw [hQ]; exact Nat.lt_of_le_of_lt (Nat.div_le_self _ _) hb
  have HE' : Hid (∀ k, k ≤ 8 → Q k = 0 → S k = R) := by rw [hQ]; exact HE.out
  have HS' : Hid (∀ k, S (k + 1) = S k ^^^ (if Q k % 2 = 1 then P k else 0)) := by rw [hQ]; exact HS.out
  have HQ8' : Hid (∀ k, k ≤ 8 → Q k ≠ 0 → k < 8) := by rw [hQ]; exact HQ8.out
  clear HE HS HQ8 hQ
  go_enter Try.func9, Try.ntmps9
  go_wp2
  go_loopw [5, 0, 1] (fun o x y wr => ∃ k : Nat, k ≤ 8 ∧ o = .int .u8 ((S k).toNat : Int) ∧ x = .int .u8 ((P k).toNat : Int) ∧ y = .int .u8 (Q k : Int) ∧ w = wr) (fun _ _ y _ => (intOf y).toNat)
  case atStart => exact ⟨0, by omega, by rw [HS0.out]; rfl, by rw [HP0.out], by rw [HQ0.out], rfl⟩
  case round =>
    obtain ⟨k, hk, rfl, rfl, rfl, rfl⟩ := hrel
    have hql := HQL.out k
    by_cases h0 : Q k = 0
    · have he := HE'.out k hk h0
      rw [h0, he]
      clear h0 he hql
      go_wp2
      go_ret
      exact ⟨rfl, rfl⟩
    · have hk8 := HQ8'.out k hk h0
      have hs := HS'.out k
      have hp := HP.out k
      have hqs := HQS.out k
      obtain ⟨q, hq⟩ : ∃ q, q = Q k % 2 := ⟨_, rfl⟩
      have ha1 : bits .and .u8 (Q k : Int) 1 = (q : Int) := by
        have := u8_and_nat (Q k) 1 (by omega) (by omega)
        rw [show ((1 : Nat) : Int) = 1 from rfl] at this
        rw [this, hq, Nat.and_one_is_mod]
      obtain ⟨c, hc⟩ : ∃ c : UInt8, c = if q = 1 then P k else 0 := ⟨_, rfl⟩
      have hpl := (P k).toNat_lt
      have hm : ((q : Int) * ((P k).toNat : Int)) % 256 = (c.toNat : Int) := by
        rw [hc]
        by_cases h1 : q = 1
        · rw [if_pos h1, h1]; omega
        · have : q = 0 := by omega
          rw [if_neg h1, this]; simp
      have hx := xor_u8' (S k) c
      rw [← hq, ← hc] at hs
      rw [← hs] at hx
      have hd : ((Q k : Int) / 2) = ((Q (k + 1) : Nat) : Int) := by rw [hqs]; omega
      have hx2 := u8_xor_nat ((P k).toNat * 2 % 256) ((P k).toNat / 128 * 27 % 256) (by omega) (by omega)
      have hxt : ((P (k + 1)).toNat : Int) = ((((P k).toNat * 2 % 256) ^^^ ((P k).toNat / 128 * 27 % 256) : Nat) : Int) := by
        rw [hp]; unfold xtP
        have : ((P k).toNat * 2 % 256) ^^^ ((P k).toNat / 128 * 27 % 256) < 2 ^ 8 := Nat.xor_lt_two_pow (by omega) (by omega)
        show ((_ % 256 : Nat) : Int) = _
        omega
      rw [← hxt] at hx2
      have e1 : (((P k).toNat * 2 % 256 : Nat) : Int) = ((P k).toNat : Int) * 2 % 256 := by omega
      have e2 : (((P k).toNat / 128 * 27 % 256 : Nat) : Int) = ((P k).toNat : Int) / 128 * 27 := by omega
      rw [e1, e2] at hx2
      have hql1 := HQL.out (k + 1)
      have hlt : Q (k + 1) < Q k := by rw [hqs]; omega
      have hpos : (0 : Int) < (Q k : Int) := by omega
      clear hxt hs hp hqs hq hc e1 e2 h0
      go_wp2
      go_roundw
      case rel => exact ⟨k + 1, by omega, rfl, rfl, rfl, trivial⟩
      case measure => simp [intOf]; omega

/-- The squares of a byte; the product of k of them. -/
def sqP (a : UInt8) : Nat → UInt8
  | 0 => a
  | k + 1 => tmP (sqP a k) (sqP a k)
def ivQ (a : UInt8) : Nat → UInt8
  | 0 => 1
  | k + 1 => tmP (ivQ a k) (sqP a (k + 1))
/-- The inverse, as aes.Inverse makes it. -/
def ivP (a : UInt8) : UInt8 := ivQ a 7

set_option maxHeartbeats 2000000 in
theorem pinverse_any (a : UInt8) (w : World) : Calls Try.prog 11 #[.int .u8 (a.toNat : Int)] w fun e w' => e = .returned (.int .u8 ((ivP a).toNat : Int)) ∧ w = w' := by
  have HV0 : Hid (ivQ a 0 = 1) := rfl
  have HS0 : Hid (sqP a 0 = a) := rfl
  have HVS : Hid (∀ k, ivQ a (k + 1) = tmP (ivQ a k) (sqP a (k + 1))) := fun _ => rfl
  have HSS : Hid (∀ k, sqP a (k + 1) = tmP (sqP a k) (sqP a k)) := fun _ => rfl
  have HR : Hid (ivP a = ivQ a 7) := rfl
  generalize ivP a = R at *
  generalize ivQ a = V at *
  generalize sqP a = S at *
  go_enter Try.func11, Try.ntmps11
  go_wp2
  go_loopw [0, 3, 4] (fun x o i wr => ∃ k : Nat, k ≤ 7 ∧ x = .int .u8 ((S k).toNat : Int) ∧ o = .int .u8 ((V k).toNat : Int) ∧ i = .int .i64 k ∧ w = wr) (fun _ _ i _ => 7 - (intOf i).toNat)
  case atStart => exact ⟨0, by omega, by rw [HS0.out], by rw [HV0.out]; rfl, rfl, rfl⟩
  case round =>
    obtain ⟨k, hk, rfl, rfl, rfl, rfl⟩ := hrel
    by_cases hlt : k < 7
    · have hkI : (k : Int) < 7 := by omega
      have h1 := ptimes_any (S k) (S k) w
      rw [← HSS.out k] at h1
      have h2 := ptimes_any (V k) (S (k + 1)) w
      rw [← HVS.out k] at h2
      go_wp2_with fail
      refine h1.mono ?_
      rintro e wx ⟨rfl, rfl⟩
      go_wp2_with fail
      refine h2.mono ?_
      rintro e wx ⟨rfl, rfl⟩
      clear h1 h2
      go_wp2
      go_roundw
      case rel => exact ⟨k + 1, by omega, rfl, rfl, by go_num, trivial⟩
      case measure => simp [intOf]; omega
    · have hk7 : k = 7 := by omega
      have hkI : ¬ (k : Int) < 7 := by omega
      have hr : V k = R := by rw [hk7, HR.out]
      rw [hr]
      clear hr hk7
      go_wp2
      go_ret
      exact ⟨rfl, rfl⟩

theorem protate_any (a : UInt8) (n : Nat) (hn : n ≤ 7) (w : World) : Calls Try.prog 30 #[.int .u8 (a.toNat : Int), .int .i64 (n : Int)] w fun e w' => e = .returned (.int .u8 ((rolA a n).toNat : Int)) ∧ w = w' := by
  have ha := a.toNat_lt
  have hq : a.toNat / 2 ^ (8 - n) < 256 := Nat.lt_of_le_of_lt (Nat.div_le_self _ _) ha
  have ho := u8_or_nat (a.toNat * 2 ^ n % 256) (a.toNat / 2 ^ (8 - n)) (by omega) hq
  have hr : ((rolA a n).toNat : Int) = (((a.toNat * 2 ^ n % 256) ||| (a.toNat / 2 ^ (8 - n)) : Nat) : Int) := by
    have h8 : (a.toNat * 2 ^ n % 256) ||| (a.toNat / 2 ^ (8 - n)) < 2 ^ 8 := Nat.or_lt_two_pow (by omega) (by omega)
    unfold rolA
    show ((_ % 256 : Nat) : Int) = _
    omega
  obtain ⟨e, he⟩ : ∃ e, e = 8 - n := ⟨_, rfl⟩
  have heI : (8 : Int) - (n : Int) = (e : Int) := by omega
  have hwe : IntKind.u64.wrap ((8 : Int) - (n : Int)) = (e : Int) := by rw [heI, IntKind.wrap_u64]; omega
  have h1 : ((a.toNat * 2 ^ n % 256 : Nat) : Int) = (a.toNat : Int) * 2 ^ n % 256 := by simp
  have h2 : ((a.toNat / 2 ^ (8 - n) : Nat) : Int) = (a.toNat : Int) / 2 ^ e := by rw [← he]; simp
  rw [h1, h2, ← hr] at ho
  have he8 : e ≤ 8 := by omega
  have hand : bits .and .u64 (n : Int) 7 = (n : Int) := by
    have := u64_and_nat n 7 (by omega) (by omega)
    rw [show ((7 : Nat) : Int) = 7 from rfl] at this
    rw [this]
    congr 1
    rw [show 7 = 2 ^ 3 - 1 from rfl, Nat.and_two_pow_sub_one_eq_mod]
    omega
  clear hr h1 h2 hq he heI
  generalize rolA a n = R at *
  go_enter Try.func30, Try.ntmps30
  go_wp2
  go_ret
  exact ⟨rfl, rfl⟩

/-- What stands for a byte, as far as k. -/
def soP (y : UInt8) : Nat → UInt8
  | 0 => y ^^^ 99
  | k + 1 => soP y k ^^^ rolA y (k + 1)
def sbP (a : UInt8) : UInt8 := soP (ivP a) 4

set_option maxHeartbeats 2000000 in
theorem psub_any (a : UInt8) (w : World) : Calls Try.prog 13 #[.int .u8 (a.toNat : Int)] w fun e w' => e = .returned (.int .u8 ((sbP a).toNat : Int)) ∧ w = w' := by
  have hi := pinverse_any a w
  have HR : Hid (sbP a = soP (ivP a) 4) := rfl
  generalize ivP a = y at *
  have HS0 : Hid (soP y 0 = y ^^^ 99) := rfl
  have HSS : Hid (∀ k, soP y (k + 1) = soP y k ^^^ rolA y (k + 1)) := fun _ => rfl
  generalize sbP a = R at *
  generalize soP y = S at *
  have h99 := xor_u8' y 99
  rw [show (((99 : UInt8).toNat : Nat) : Int) = 99 from rfl] at h99
  go_enter Try.func13, Try.ntmps13
  go_wp2_with fail
  refine hi.mono ?_
  rintro e wx ⟨rfl, rfl⟩
  clear hi
  go_wp2
  go_loopw [4, 10] (fun o i wr => ∃ k : Nat, k ≤ 4 ∧ o = .int .u8 ((S k).toNat : Int) ∧ i = .int .i64 k ∧ w = wr) (fun _ i _ => 4 - (intOf i).toNat)
  case atStart => exact ⟨0, by omega, by rw [HS0.out, UInt8.toNat_xor]; rfl, rfl, rfl⟩
  case round =>
    obtain ⟨k, hk, rfl, rfl, rfl⟩ := hrel
    by_cases hlt : k < 4
    · have hkI : (k : Int) < 4 := by omega
      have h1 := protate_any y (k + 1) (by omega) w
      rw [show ((k + 1 : Nat) : Int) = (k : Int) + 1 from rfl] at h1
      have hx := xor_u8' (S k) (rolA y (k + 1))
      rw [← HSS.out k] at hx
      generalize rolA y (k + 1) = r at *
      go_wp2_with fail
      refine h1.mono ?_
      rintro e wx ⟨rfl, rfl⟩
      clear h1
      go_wp2
      go_roundw
      case rel => exact ⟨k + 1, by omega, rfl, by go_num, trivial⟩
      case measure => simp [intOf]; omega
    · have hk4 : k = 4 := by omega
      have hkI : ¬ (k : Int) < 4 := by omega
      have hr : S k = R := by rw [hk4, HR.out]
      rw [hr]
      clear hr hk4
      go_wp2
      go_ret
      exact ⟨rfl, rfl⟩

end Go.Proofs.Ytjohckgdbbhpdaa
