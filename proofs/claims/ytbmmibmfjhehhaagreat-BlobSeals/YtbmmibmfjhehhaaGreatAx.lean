/- Several texts in one. -/
import Derived.Test.YtbmmibmfjhehhaaGreatProg
import Derived.WalkKit
import Derived.RowKit3
import Derived.Laws.BitsAllLaws
import Derived.WalkSmall
import Derived.Test.YtbmmibmfjhehhaaGreatWh
import Derived.Laws.Tables
import Derived.Deep.MidRow
import Derived.Laws.CopyOwn
import Derived.Deep.RegionHeld3
import Derived.Deep.RegionWith
set_option linter.unusedVariables false
set_option linter.unusedSimpArgs false
/- Contracts of ref 4's Times, Inverse, rol, Sub, Unsub. -/
namespace Go.Proofs.YtbmmibmfjhehhaaGreat.AE
open Go.RowKit

theorem wrap_i64_7 (n : Int) (h0 : -9223372036854775808 ≤ n) (h1 : n ≤ 9223372036854775807) : IntKind.i64.wrap n = n := by rw [IntKind.wrap_i64]; omega
theorem i64_xor_nat (a b : Nat) (ha : a < 65536) (hb : b < 65536) : bits .xor .i64 (a : Int) (b : Int) = ((a ^^^ b : Nat) : Int) := by
  have hx : a ^^^ b < 2 ^ 16 := Nat.xor_lt_two_pow (by omega) (by omega)
  show IntKind.i64.wrap ((BitVec.ofInt 64 (a : Int) ^^^ BitVec.ofInt 64 (b : Int)).toNat : Int) = _
  rw [BitVec.toNat_xor, ofInt_u64 a (by omega), ofInt_u64 b (by omega), wrap_i64_7 _ (by omega) (by omega)]

def tpA (a b : Nat) : Nat → Nat
  | 0 => 0
  | k + 1 => if b / 2 ^ k % 2 = 1 then tpA a b k ^^^ (a * 2 ^ k) else tpA a b k
def rdA (n : Nat) : Nat → Nat
  | 0 => n
  | j + 1 => if rdA n j / 2 ^ (14 - j) % 2 = 1 then rdA n j ^^^ (283 * 2 ^ (6 - j)) else rdA n j
def tmA (a b : UInt8) : UInt8 := UInt8.ofNat (rdA (tpA a.toNat b.toNat 8) 7 % 256)
theorem tpA_lt (a b : Nat) (ha : a < 256) : ∀ k, k ≤ 8 → tpA a b k < 32768
  | 0, _ => by show 0 < 32768; decide
  | k + 1, h => by
    have ih := tpA_lt a b ha k (by omega)
    unfold tpA
    split
    · have h2 : a * 2 ^ k < 2 ^ 15 := by
        have : 2 ^ k ≤ 2 ^ 7 := Nat.pow_le_pow_right (by decide) (by omega)
        have := Nat.mul_le_mul (show a ≤ 255 by omega) this
        omega
      exact Nat.xor_lt_two_pow (n := 15) (by omega) h2
    · exact ih
theorem rdA_lt (n : Nat) (hn : n < 32768) : ∀ j, j ≤ 7 → rdA n j < 32768
  | 0, _ => hn
  | j + 1, h => by
    have ih := rdA_lt n hn j (by omega)
    unfold rdA
    split
    · have h2 : 283 * 2 ^ (6 - j) < 2 ^ 15 := by
        have : 2 ^ (6 - j) ≤ 2 ^ 6 := Nat.pow_le_pow_right (by decide) (by omega)
        omega
      exact Nat.xor_lt_two_pow (n := 15) (by omega) h2
    · exact ih

set_option maxHeartbeats 2000000 in
theorem times_any (a b : UInt8) (w : World) : Calls Tryz.prog 78 #[.int .u8 (a.toNat : Int), .int .u8 (b.toNat : Int)] w fun e w' => e = .returned (.int .u8 ((tmA a b).toNat : Int)) ∧ w = w' := by
  have ha := a.toNat_lt
  have hb := b.toNat_lt
  have HR : Hid ((tmA a b).toNat = rdA (tpA a.toNat b.toNat 8) 7 % 256) := by
    show _ = _
    unfold tmA
    show _ % 256 = _
    omega
  have HT : Hid (∀ k, k ≤ 8 → tpA a.toNat b.toNat k < 32768) := tpA_lt _ _ ha
  have HD : Hid (∀ j, j ≤ 7 → rdA (tpA a.toNat b.toNat 8) j < 32768) := rdA_lt _ (tpA_lt _ _ ha 8 (by decide))
  generalize tmA a b = R at *
  go_enter Tryz.func78, Tryz.ntmps78
  go_wp2
  go_loopw [5, 6] (fun n i wr => ∃ k : Nat, k ≤ 8 ∧ n = .int .i64 (tpA a.toNat b.toNat k : Int) ∧ i = .int .i64 k ∧ w = wr) (fun _ i _ => 8 - (intOf i).toNat)
  case atStart => exact ⟨0, by omega, rfl, rfl, rfl⟩
  case round =>
    obtain ⟨k, hk, rfl, rfl, rfl⟩ := hrel
    by_cases hlt : k < 8
    · have hT := HT.out k hk
      have hstep : tpA a.toNat b.toNat (k + 1) = if b.toNat / 2 ^ k % 2 = 1 then tpA a.toNat b.toNat k ^^^ (a.toNat * 2 ^ k) else tpA a.toNat b.toNat k := rfl
      have h2 : a.toNat * 2 ^ k < 32768 := by
        have h1 : 2 ^ k ≤ 2 ^ 7 := Nat.pow_le_pow_right (by decide) (by omega)
        have := Nat.mul_le_mul (show a.toNat ≤ 255 by omega) h1
        omega
      have hpw : ((2 ^ k : Nat) : Int) = (2 : Int) ^ k := by simp
      obtain ⟨q, hq⟩ : ∃ q, q = b.toNat / 2 ^ k := ⟨_, rfl⟩
      have hqI : (b.toNat : Int) / 2 ^ k = (q : Int) := by rw [hq, ← hpw]; rfl
      rw [← hq] at hstep
      have hx := i64_xor_nat (tpA a.toNat b.toNat k) (a.toNat * 2 ^ k) (by omega) (by omega)
      have hsh : ((a.toNat * 2 ^ k : Nat) : Int) = (a.toNat : Int) * 2 ^ k := by simp
      rw [hsh] at hx
      have hwr : IntKind.i64.wrap ((a.toNat : Int) * 2 ^ k) = (a.toNat : Int) * 2 ^ k := by rw [← hsh]; exact wrap_i64_7 _ (by omega) (by omega)
      have HS : Hid _ := hstep
      clear hstep hq hpw
      by_cases hbit : q % 2 = 1
      · have hb1 : ((q : Int) % 2 == 1) = true := by simp only [beq_iff_eq]; omega
        have hb2 : ((q : Int).tmod 2 == 1) = true := by rw [Int.tmod_eq_emod_of_nonneg (by omega)]; exact hb1
        have HB : Hid _ := hbit
        clear hbit
        go_wp2
        go_roundw
        case rel => exact ⟨k + 1, by omega, by rw [HS.out, if_pos HB.out], by go_num, trivial⟩
        case measure => simp [intOf]; omega
      · have hb1 : ((q : Int) % 2 == 1) = false := by rw [beq_eq_false_iff_ne]; omega
        have hb2 : ((q : Int).tmod 2 == 1) = false := by rw [Int.tmod_eq_emod_of_nonneg (by omega)]; exact hb1
        have HB : Hid _ := hbit
        clear hbit
        go_wp2
        go_roundw
        case rel => exact ⟨k + 1, by omega, by rw [HS.out, if_neg HB.out], by go_num, trivial⟩
        case measure => simp [intOf]; omega
    · have hk8 : k = 8 := by omega
      rw [hk8]
      rw [show ((8 : Nat) : Int) = 8 from rfl]
      clear hk hlt
      have h0 : rdA (tpA a.toNat b.toNat 8) 0 = tpA a.toNat b.toNat 8 := rfl
      have HRS : Hid (∀ j, rdA (tpA a.toNat b.toNat 8) (j + 1) = if rdA (tpA a.toNat b.toNat 8) j / 2 ^ (14 - j) % 2 = 1 then rdA (tpA a.toNat b.toNat 8) j ^^^ (283 * 2 ^ (6 - j)) else rdA (tpA a.toNat b.toNat 8) j) := fun _ => rfl
      rw [← h0]
      clear h0 hk8
      generalize rdA (tpA a.toNat b.toNat 8) = D at *
      go_wp2
      go_loopw [5, 7] (fun n i wr => ∃ j : Nat, j ≤ 7 ∧ n = .int .i64 (D j : Int) ∧ i = .int .i64 (14 - (j : Int)) ∧ w = wr) (fun _ i _ => (intOf i).toNat)
      case atStart => exact ⟨0, by omega, rfl, rfl, rfl⟩
      case round =>
        obtain ⟨j, hj, rfl, rfl, rfl⟩ := hrel
        have hD := HD.out j hj
        by_cases hjl : j < 7
        · obtain ⟨c, hc⟩ : ∃ c, c = 14 - j := ⟨_, rfl⟩
          obtain ⟨e, he⟩ : ∃ e, e = 6 - j := ⟨_, rfl⟩
          have hcI : (14 : Int) - (j : Int) = (c : Int) := by omega
          have heI : (c : Int) - 8 = (e : Int) := by omega
          have hc8 : 8 ≤ (c : Int) := by omega
          have hstep := HRS.out j
          rw [← hc, ← he] at hstep
          rw [hcI]
          have hpc : ((2 ^ c : Nat) : Int) = (2 : Int) ^ c := by simp
          obtain ⟨q, hq⟩ : ∃ q, q = D j / 2 ^ c := ⟨_, rfl⟩
          have hqI : (D j : Int) / 2 ^ c = (q : Int) := by rw [hq, ← hpc]; rfl
          rw [← hq] at hstep
          have h2 : 283 * 2 ^ e < 32768 := by
            have : 2 ^ e ≤ 2 ^ 6 := Nat.pow_le_pow_right (by decide) (by omega)
            omega
          have hx := i64_xor_nat (D j) (283 * 2 ^ e) (by omega) (by omega)
          have hsh : ((283 * 2 ^ e : Nat) : Int) = 283 * (2 : Int) ^ e := by simp
          rw [hsh] at hx
          have hwr : IntKind.i64.wrap (283 * (2 : Int) ^ e) = 283 * 2 ^ e := by rw [← hsh]; exact wrap_i64_7 _ (by omega) (by omega)
          have HS : Hid _ := hstep
          have HCI : Hid _ := hcI
          have hce : c ≤ 14 := by omega
          clear hstep hq hpc hc he hcI
          by_cases hbit : q % 2 = 1
          · have hb1 : ((q : Int) % 2 == 1) = true := by simp only [beq_iff_eq]; omega
            have hb2 : ((q : Int).tmod 2 == 1) = true := by rw [Int.tmod_eq_emod_of_nonneg (by omega)]; exact hb1
            have HB : Hid _ := hbit
            clear hbit
            go_wp2
            go_roundw
            case rel => exact ⟨j + 1, by omega, by rw [HS.out, if_pos HB.out], by have := HCI.out; go_num, trivial⟩
            case measure => simp [intOf]; omega
          · have hb1 : ((q : Int) % 2 == 1) = false := by rw [beq_eq_false_iff_ne]; omega
            have hb2 : ((q : Int).tmod 2 == 1) = false := by rw [Int.tmod_eq_emod_of_nonneg (by omega)]; exact hb1
            have HB : Hid _ := hbit
            clear hbit
            go_wp2
            go_roundw
            case rel => exact ⟨j + 1, by omega, by rw [HS.out, if_neg HB.out], by have := HCI.out; go_num, trivial⟩
            case measure => simp [intOf]; omega
        · have hj7 : j = 7 := by omega
          subst hj7
          have hrI : (D 7 : Int) % 256 = (R.toNat : Int) := by have := HR.out; omega
          have hge : ¬ (8 : Int) ≤ 14 - ((7 : Nat) : Int) := by omega
          go_wp2
          go_ret
          exact ⟨rfl, rfl⟩

def invA (a : UInt8) : Nat → UInt8
  | 0 => 0
  | f + 1 => if tmA a (UInt8.ofNat (255 - f)) = 1 then UInt8.ofNat (255 - f) else invA a f
def inA (a : UInt8) : UInt8 := invA a 255

set_option maxHeartbeats 200000 in
theorem inverse_any (a : UInt8) (w : World) : Calls Tryz.prog 91 #[.int .u8 (a.toNat : Int)] w fun e w' => e = .returned (.int .u8 ((inA a).toNat : Int)) ∧ w = w' := by
  obtain ⟨R, hR⟩ : ∃ R, R = inA a := ⟨_, rfl⟩
  rw [← hR]
  have HV0 : Hid (invA a 0 = 0) := rfl
  have HVS : Hid (∀ f, invA a (f + 1) = if tmA a (UInt8.ofNat (255 - f)) = 1 then UInt8.ofNat (255 - f) else invA a f) := fun _ => rfl
  unfold inA at hR
  generalize invA a = V at *
  have HR : Hid (R = V 255) := hR
  clear hR
  go_enter Tryz.func91, Tryz.ntmps91
  go_wp2
  go_loopw [3] (fun i wr => ∃ f : Nat, f ≤ 255 ∧ i = .int .i64 (256 - (f : Int)) ∧ R = V f ∧ w = wr) (fun i _ => (256 - intOf i).toNat)
  case atStart => exact ⟨255, by omega, rfl, HR.out, rfl⟩
  case round =>
    obtain ⟨f, hf, rfl, hr, rfl⟩ := hrel
    cases f with
    | zero =>
      have hr0 : R = 0 := hr.trans HV0.out
      subst hr0
      go_wp2
      go_ret
      exact ⟨rfl, rfl⟩
    | succ f =>
      obtain ⟨c, hc⟩ : ∃ c, c = UInt8.ofNat (255 - f) := ⟨_, rfl⟩
      have hstep : V (f + 1) = if tmA a c = 1 then c else V f := by rw [hc]; exact HVS.out f
      rw [hstep] at hr
      obtain ⟨B, hB⟩ : ∃ B, B = 255 - f := ⟨_, rfl⟩
      have hcB : c.toNat = B := by rw [hc, hB]; show _ % 256 = _; omega
      have hBI : (256 : Int) - ((f + 1 : Nat) : Int) = (B : Int) := by omega
      have hBm : (B : Int) % 256 = (c.toNat : Int) := by rw [hcB]; omega
      have hBl : (B : Int) < 256 := by omega
      have ht := times_any a c w
      rw [hBI]
      by_cases h1 : tmA a c = 1
      · rw [if_pos h1] at hr
        rw [h1, show (((1 : UInt8).toNat : Nat) : Int) = 1 from rfl, hcB] at ht
        have HRB : Hid (R.toNat = B) := by show _ = _; rw [hr]; exact hcB
        clear hstep hc hcB hB hBI h1 hr hBm
        go_wp2_with fail
        refine ht.mono ?_
        rintro e wx ⟨rfl, rfl⟩
        go_wp2
        go_ret
        exact ⟨by rw [HRB.out]; rfl, rfl⟩
      · rw [if_neg h1] at hr
        have hne : (((tmA a c).toNat : Int) == 1) = false := by
          rw [beq_eq_false_iff_ne]
          intro e
          exact h1 (UInt8.toNat_inj.1 (by show _ = 1; omega))
        generalize tmA a c = tt at *
        rw [hcB] at ht
        have HRR : Hid _ := hr
        have HBI : Hid _ := hB
        clear hstep hc hcB hB hBI h1 hr hBm
        go_wp2_with fail
        refine ht.mono ?_
        rintro e wx ⟨rfl, rfl⟩
        go_wp2
        go_roundw
        case rel => exact ⟨f, by omega, by have := HBI.out; go_num, HRR.out, trivial⟩
        case measure => have := HBI.out; simp [intOf]; omega

def rolA (a : UInt8) (n : Nat) : UInt8 := UInt8.ofNat ((a.toNat * 2 ^ n % 256) ||| (a.toNat / 2 ^ (8 - n)))
theorem rol_any (a : UInt8) (n : Nat) (hn : n ≤ 7) (w : World) : Calls Tryz.prog 92 #[.int .u8 (a.toNat : Int), .int .u64 (n : Int)] w fun e w' => e = .returned (.int .u8 ((rolA a n).toNat : Int)) ∧ w = w' := by
  have ha := a.toNat_lt
  have hq : a.toNat / 2 ^ (8 - n) < 256 := Nat.lt_of_le_of_lt (Nat.div_le_self _ _) ha
  have ho := u8_or_nat (a.toNat * 2 ^ n % 256) (a.toNat / 2 ^ (8 - n)) (by omega) hq
  have hr : ((rolA a n).toNat : Int) = (((a.toNat * 2 ^ n % 256) ||| (a.toNat / 2 ^ (8 - n)) : Nat) : Int) := by
    have h8 : (a.toNat * 2 ^ n % 256) ||| (a.toNat / 2 ^ (8 - n)) < 2 ^ 8 := Nat.or_lt_two_pow (by omega) (by omega)
    unfold rolA
    show ((_ % 256 : Nat) : Int) = _
    omega
  obtain ⟨e, he⟩ : ∃ e, e = 8 - n := ⟨_, rfl⟩
  have heI : (8 : Int) - (n : Int) = (e : Int) := by omega
  have hwe : IntKind.u64.wrap ((8 : Int) - (n : Int)) = (e : Int) := by rw [heI, IntKind.wrap_u64]; omega
  have h1 : ((a.toNat * 2 ^ n % 256 : Nat) : Int) = (a.toNat : Int) * 2 ^ n % 256 := by simp
  have h2 : ((a.toNat / 2 ^ (8 - n) : Nat) : Int) = (a.toNat : Int) / 2 ^ e := by rw [← he]; simp
  rw [h1, h2, ← hr] at ho
  have he8 : e ≤ 8 := by omega
  clear hr h1 h2 hq he heI
  generalize rolA a n = R at *
  go_enter Tryz.func92, Tryz.ntmps92
  go_wp2
  go_ret
  exact ⟨rfl, rfl⟩

def sbA (a : UInt8) : UInt8 := inA a ^^^ rolA (inA a) 1 ^^^ rolA (inA a) 2 ^^^ rolA (inA a) 3 ^^^ rolA (inA a) 4 ^^^ 99
theorem xor_u8' (x p : UInt8) : bits .xor .u8 (x.toNat : Int) (p.toNat : Int) = (((x ^^^ p).toNat : Nat) : Int) := by
  rw [u8_xor_nat _ _ (by have := x.toNat_lt; omega) (by have := p.toNat_lt; omega)]
  simp

set_option maxHeartbeats 1000000 in
theorem sub_any (a : UInt8) (w : World) : Calls Tryz.prog 77 #[.int .u8 (a.toNat : Int)] w fun e w' => e = .returned (.int .u8 ((sbA a).toNat : Int)) ∧ w = w' := by
  have hi := inverse_any a w
  have hsb : sbA a = inA a ^^^ rolA (inA a) 1 ^^^ rolA (inA a) 2 ^^^ rolA (inA a) 3 ^^^ rolA (inA a) 4 ^^^ 99 := rfl
  generalize inA a = y at *
  have h1 := rol_any y 1 (by decide) w
  have h2 := rol_any y 2 (by decide) w
  have h3 := rol_any y 3 (by decide) w
  have h4 := rol_any y 4 (by decide) w
  generalize rolA y 1 = r1 at *
  generalize rolA y 2 = r2 at *
  generalize rolA y 3 = r3 at *
  generalize rolA y 4 = r4 at *
  have x1 := xor_u8' y r1
  have x2 := xor_u8' (y ^^^ r1) r2
  have x3 := xor_u8' (y ^^^ r1 ^^^ r2) r3
  have x4 := xor_u8' (y ^^^ r1 ^^^ r2 ^^^ r3) r4
  have x5 := xor_u8' (y ^^^ r1 ^^^ r2 ^^^ r3 ^^^ r4) 99
  rw [show (((99 : UInt8).toNat : Nat) : Int) = 99 from rfl] at x5
  rw [hsb]
  clear hsb
  generalize y ^^^ r1 ^^^ r2 ^^^ r3 ^^^ r4 ^^^ 99 = s5 at *
  generalize y ^^^ r1 ^^^ r2 ^^^ r3 ^^^ r4 = s4 at *
  generalize y ^^^ r1 ^^^ r2 ^^^ r3 = s3 at *
  generalize y ^^^ r1 ^^^ r2 = s2 at *
  generalize y ^^^ r1 = s1 at *
  go_enter Tryz.func77, Tryz.ntmps77
  go_wp2_with fail
  refine hi.mono ?_
  rintro e wx ⟨rfl, rfl⟩
  go_wp2_with fail
  refine h1.mono ?_
  rintro e wx ⟨rfl, rfl⟩
  go_wp2_with fail
  refine h2.mono ?_
  rintro e wx ⟨rfl, rfl⟩
  go_wp2_with fail
  refine h3.mono ?_
  rintro e wx ⟨rfl, rfl⟩
  go_wp2_with fail
  refine h4.mono ?_
  rintro e wx ⟨rfl, rfl⟩
  go_wp2
  go_ret
  exact ⟨rfl, rfl⟩


end Go.Proofs.YtbmmibmfjhehhaaGreat.AE

/- Rows of bytes (as in sha's texts); contract of ref 4's Table. -/
namespace Go.Proofs.YtbmmibmfjhehhaaGreat.AE
open Go.RowKit

def bpart (n : Nat) (T : List UInt8) (k : Nat) : List UInt8 := T.take k ++ List.replicate (n - k) 0
theorem bpart_all (n : Nat) (T : List UInt8) (hT : T.length = n) : bpart n T n = T := by unfold bpart; simp [← hT]
theorem bpart_len (n : Nat) (T : List UInt8) (k : Nat) (hT : T.length = n) (h : k ≤ n) : (bpart n T k).length = n := by unfold bpart; simp; omega
theorem bpart_set (n : Nat) (T : List UInt8) (k : Nat) (hT : T.length = n) (h : k < n) : ((bpart n T k).map B8).toArray.setIfInBounds k (B8 (T.getD k 0)) = ((bpart n T (k + 1)).map B8).toArray := by
  have hk : k < T.length := by omega
  have e : (bpart n T k).set k (T.getD k 0) = bpart n T (k + 1) := by
    unfold bpart
    rw [List.set_append_right _ _ (by simp; omega), List.take_succ_eq_append_getElem hk]
    simp only [List.length_take, Nat.min_eq_left (show k ≤ T.length by omega), Nat.sub_self]
    rw [show n - k = (n - (k + 1)) + 1 by omega, List.replicate_succ, List.set_cons_zero]
    rw [show T.getD k 0 = T[k] from by simp [List.getD, List.getElem?_eq_getElem hk]]
    simp only [List.append_assoc, List.singleton_append]
  rw [List.setIfInBounds_toArray, ← List.map_set, e]
theorem bpart_cell (n : Nat) (T : List UInt8) (k : Nat) (hT : T.length = n) (h : k < n) : ∃ u, ((bpart n T k).map B8).toArray[k]? = some u := by
  have hl : k < ((bpart n T k).map B8).toArray.size := by simp [bpart_len n T k hT (by omega)]; exact h
  exact ⟨_, Array.getElem?_eq_getElem hl⟩
theorem B8_onea (l : List UInt8) : (l.map B8).toArray.all (·.oneCell') = true := by
  rw [Array.all_eq_true_iff_forall_mem]
  intro v hv
  simp only [List.mem_toArray, List.mem_map] at hv
  obtain ⟨x, _, rfl⟩ := hv
  rfl
theorem below_blk {B i : Nat} {w w' : World} {o : Obj} (h : Below B w w') (hi : i < B) (ho : w.heap[i]? = some o) : w'.heap[i]? = some o := (h.block i hi).trans ho
theorem alloc2_first (w : World) (A C : Obj) : ((w.alloc A).alloc C).heap[w.heap.size]? = some A := by
  rw [Below.heap_alloc _ _ _ (by simp), heap_alloc_new]
theorem cell_far (w : World) (p a : Addr) (v : Value) (h : a.block ≠ p.block) : (w.setCell p v).cell? a = w.cell? a := by
  unfold World.cell?; rw [heap_setCell_other _ _ _ _ h]
theorem heap_at (w : World) (o : Obj) (n : Nat) (h : n = w.heap.size) : (w.alloc o).heap[n]? = some o := by subst h; exact heap_alloc_new _ _
theorem rangeAt_below {w w' : World} {b o : Nat} {cs : List Value} (h : w.rangeAt b o cs) (hb : Below w.heap.size w w') : w'.rangeAt b o cs := fun j v hv => (hb.cell (block_lt (h j v hv))).trans (h j v hv)
theorem rangeAt_row {w : World} {b : Nat} {cs : List Value} {t : TypeId} {fr : Nat × Nat} (h : w.heap[b]? = some (.cells cs.toArray t fr)) : w.rangeAt b 0 cs := fun j v hv => by
  rw [Nat.zero_add, cell_of_row _ _ j _ _ _ h]; simpa using hv
theorem rangeAt_setRow {w : World} {b o h : Nat} {cs : List Value} {ns : Array Value} (hr : w.rangeAt b o cs) (hne : b ≠ h) : (w.setRow h ns).rangeAt b o cs := fun j v hv => by
  rw [cell_setRow_other _ _ _ _ (by simpa using hne)]; exact hr j v hv
theorem h3a (w : World) (a b c : Obj) : (((w.alloc a).alloc b).alloc c).drew.heap[w.heap.size]? = some a := by
  rw [heap_drew, Below.heap_alloc _ _ _ (by simp; omega), Below.heap_alloc _ _ _ (by simp)]; exact heap_alloc_new _ _
theorem h3b (w : World) (a b c : Obj) : (((w.alloc a).alloc b).alloc c).drew.heap[w.heap.size + 1]? = some b := by
  rw [heap_drew, Below.heap_alloc _ _ _ (by simp)]; exact heap_at _ _ _ (by simp)
theorem h3c (w : World) (a b c : Obj) : (((w.alloc a).alloc b).alloc c).drew.heap[w.heap.size + 2]? = some c := by
  rw [heap_drew]; exact heap_at _ _ _ (by simp)
theorem row_lt {w : World} {d : Nat} {o : Obj} (h : w.heap[d]? = some o) : d < w.heap.size := (Array.getElem?_eq_some_iff.1 h).1
theorem size_u8 (w : World) : (sizeOf 5).run Tryz.prog w = .ok 1 w := by
  obtain ⟨i0, hi, hz0, hz1, hz2⟩ := info_parts Tryz.infoU8
  simp [sizeOf, typeInfo, hi, hz1]
theorem row_get (a : List UInt8) (n : Nat) (h : a.length = n) (i : Nat) (hi : i < n) : (a.map B8).toArray[i]? = some (.int .u8 ((a.getD i 0).toNat : Int)) := by
  have : i < a.length := by omega
  simp [B8, List.getD, List.getElem?_eq_getElem this]

def tabA : List UInt8 := (List.range 256).map fun i => sbA (UInt8.ofNat i)
theorem tabA_len : tabA.length = 256 := by unfold tabA; simp
theorem tabA_get (i : Nat) (h : i < 256) : tabA.getD i 0 = sbA (UInt8.ofNat i) := by
  unfold tabA
  simp [List.getD, List.getElem?_map, List.getElem?_range h]

theorem zero256 (w : World) : (zeroValue 109).run Tryz.prog w = .ok (.agg ((List.replicate 256 (0 : UInt8)).map B8).toArray) w := by kernel_rfl

set_option maxHeartbeats 4000000 in
set_option maxRecDepth 100000 in
theorem table_any (w : World) : Calls Tryz.prog 59 #[] w fun e w' => e = .returned (.agg (tabA.map B8).toArray) ∧ Below w.heap.size w w' := by
  have hl := tabA_len
  have HG : Hid _ := tabA_get
  have hsu := fun c W => sub_any c W
  have HSZ : Hid ((tabA.map B8).toArray.size = 256) := by show _ = _; simp [hl]
  have HONE : Hid _ := B8_onea tabA
  generalize tabA = T at *
  have HL : Hid _ := hl
  have hzv := fun W => zero256 W
  have hz0 : bpart 256 T 0 = List.replicate 256 0 := by unfold bpart; rw [List.take_zero, List.nil_append]
  rw [← hz0] at hzv
  obtain ⟨ZA, hZA⟩ : ∃ ZA, ZA = ((bpart 256 T 0).map B8).toArray := ⟨_, rfl⟩
  rw [← hZA] at hzv
  have HZA : Hid _ := hZA
  clear hl hz0 hZA
  go_enter Tryz.func59, Tryz.ntmps59
  go_wp2
  go_loopw [2] (fun i wr => ∃ k : Nat, k ≤ 256 ∧ i = .int .i64 k ∧ wr.heap[w.heap.size + 1]? = some (.cells ((bpart 256 T k).map B8).toArray 109 (0, 0)) ∧ wr.heap[w.heap.size]? = some (.cells ZA 109 (0, 0)) ∧ Below w.heap.size w wr) (fun i _ => 256 - (intOf i).toNat)
  case atStart => exact ⟨0, by omega, rfl, by rw [← HZA.out]; exact heap_alloc2_new _ _ _, alloc2_first _ _ _, ((Below.refl _ _).alloc (Nat.le_refl _) _).alloc (by simp) _⟩
  case round =>
    obtain ⟨k, hk, rfl, hT, hR, hbel⟩ := hrel
    have HT : Hid _ := hT
    have HR : Hid _ := hR
    by_cases hlt : k < 256
    · have hset := bpart_set 256 T k HL.out hlt
      obtain ⟨u, hu⟩ := bpart_cell 256 T k HL.out hlt
      have hcu := cell_of_row _ _ k _ _ _ hT
      rw [hu] at hcu
      have hfu := frozen_of_row _ _ k _ _ hT
      rw [HG.out k hlt] at hset
      obtain ⟨c, hc⟩ : ∃ c, c = UInt8.ofNat k := ⟨_, rfl⟩
      have hck : c.toNat = k := by rw [hc]; show _ % 256 = _; omega
      rw [← hc] at hset
      have hst := hsu c wr
      rw [hck] at hst
      have HX : Hid (B8 (sbA c) = .int .u8 ((sbA c).toNat : Int)) := rfl
      generalize sbA c = y at *
      have HSET : Hid _ := hset
      have hkI : (k : Int) < 256 := by omega
      clear hset hT hR hu hc hck
      go_wp2_with fail
      refine hst.mono ?_
      rintro e wx ⟨rfl, rfl⟩
      clear hst
      go_wp2
      go_roundw
      case rel =>
        refine ⟨k + 1, by omega, by go_num, ?_, ?_, hbel.setCell (p := ⟨w.heap.size + 1, k, none⟩) (by simp) _⟩
        · rw [← HSET.out, HX.out]; exact heap_setCell_same _ (w.heap.size + 1) k _ 109 _ HT.out
        · rw [heap_setCell_other _ _ _ _ (by simp)]; exact HR.out
      case measure => simp [intOf]; omega
    · have hk' : k = 256 := by omega
      rw [hk', bpart_all 256 T HL.out] at hT
      have HT' : Hid _ := hT
      have HI : Hid ((Tryz.prog.info? 109).map (·.size) = some (T.map B8).toArray.size) := by show _ = _; rw [HSZ.out]; kernel_rfl
      have HZ : Hid (ZA.size = (T.map B8).toArray.size) := by show _ = _; rw [HSZ.out, HZA.out]; simp [bpart_len 256 T 0 HL.out (by omega)]
      have HX : Hid (∃ TA, TA = (T.map B8).toArray) := ⟨_, rfl⟩
      obtain ⟨TA, hTA⟩ := HX.out
      rw [← hTA] at HI HZ HT'
      have HONE' : Hid _ := HONE.out
      rw [← hTA] at HONE'
      have HTA : Hid _ := hTA
      clear hT hR HT hk' hTA HX
      go_wp2_with (first
        | (refine wpList_load_row rfl 109 _ rfl (w.heap.size + 1) rfl 109 _ (0, 0) _ HT'.out Tryz.underlying109 rfl HI.out ?_)
        | (refine wpList_store_row rfl 109 _ _ rfl w.heap.size _ rfl rfl 109 _ HR.out HI.out HZ.out HONE'.out ?_))
      refine bodyPost_ret (v := .agg TA) ?_ rfl ⟨by rw [HTA.out], below_setRow hbel (Nat.le_refl _) _⟩
      exact results_cell_row Tryz.results59 _ _ w.heap.size 109 _ (0, 0) _ rfl (setRow_heap _ _ _ _ _ _ HR.out) Tryz.underlying109 rfl HI.out

end Go.Proofs.YtbmmibmfjhehhaaGreat.AE

/- Contracts of aes.Times, aes.Inverse, bits.RotateLeft8, aes.Sub. -/
namespace Go.Proofs.YtbmmibmfjhehhaaGreat.AE
open Go.RowKit

def xtP (x : UInt8) : UInt8 := UInt8.ofNat ((x.toNat * 2 % 256) ^^^ (x.toNat / 128 * 27 % 256))
def pwP (a : UInt8) : Nat → UInt8
  | 0 => a
  | k + 1 => xtP (pwP a k)
def smP (a b : UInt8) : Nat → UInt8
  | 0 => 0
  | k + 1 => smP a b k ^^^ (if b.toNat / 2 ^ k % 2 = 1 then pwP a k else 0)
def tmP (a b : UInt8) : UInt8 := smP a b 8
theorem smP_end (a b : UInt8) (k : Nat) (hk : k ≤ 8) (h0 : b.toNat / 2 ^ k = 0) : smP a b k = tmP a b := by
  have key : ∀ d, smP a b (k + d) = smP a b k := by
    intro d
    induction d with
    | zero => rfl
    | succ d ih =>
      show smP a b (k + d) ^^^ _ = _
      have hz : b.toNat / 2 ^ (k + d) = 0 := by rw [Nat.pow_add, ← Nat.div_div_eq_div_mul, h0, Nat.zero_div]
      rw [show k.add d = k + d from rfl, hz, ih]
      simp
  have := key (8 - k)
  rw [show k + (8 - k) = 8 by omega] at this
  exact this.symm

set_option maxHeartbeats 2000000 in
theorem ptimes_any (a b : UInt8) (w : World) : Calls Tryz.prog 103 #[.int .u8 (a.toNat : Int), .int .u8 (b.toNat : Int)] w fun e w' => e = .returned (.int .u8 ((tmP a b).toNat : Int)) ∧ w = w' := by
  have hb := b.toNat_lt
  have HE : Hid (∀ k, k ≤ 8 → b.toNat / 2 ^ k = 0 → smP a b k = tmP a b) := fun k h1 h2 => smP_end a b k h1 h2
  have HS : Hid (∀ k, smP a b (k + 1) = smP a b k ^^^ (if b.toNat / 2 ^ k % 2 = 1 then pwP a k else 0)) := fun _ => rfl
  have HP : Hid (∀ k, pwP a (k + 1) = xtP (pwP a k)) := fun _ => rfl
  have HS0 : Hid (smP a b 0 = 0) := rfl
  have HP0 : Hid (pwP a 0 = a) := rfl
  have HQ8 : Hid (∀ k, k ≤ 8 → b.toNat / 2 ^ k ≠ 0 → k < 8) := fun k hk h => by
    rcases Nat.lt_or_ge k 8 with h8 | h8
    · exact h8
    · exfalso; apply h; rw [show k = 8 by omega]; omega
  generalize tmP a b = R at *
  generalize smP a b = S at *
  generalize pwP a = P at *
  obtain ⟨Q, hQ⟩ : ∃ Q : Nat → Nat, Q = fun k => b.toNat / 2 ^ k := ⟨_, rfl⟩
  have HQS : Hid (∀ k, Q (k + 1) = Q k / 2) := fun k => by rw [hQ]; show _ / 2 ^ (k + 1) = _ / 2 ^ k / 2; rw [Nat.pow_succ, Nat.div_div_eq_div_mul]
  have HQ0 : Hid (Q 0 = b.toNat) := by show _ = _; rw [hQ]; show _ / 2 ^ 0 = _; simp
  have HQL : Hid (∀ k, Q k < 256) := fun k => by rw [hQ]; exact Nat.lt_of_le_of_lt (Nat.div_le_self _ _) hb
  have HE' : Hid (∀ k, k ≤ 8 → Q k = 0 → S k = R) := by rw [hQ]; exact HE.out
  have HS' : Hid (∀ k, S (k + 1) = S k ^^^ (if Q k % 2 = 1 then P k else 0)) := by rw [hQ]; exact HS.out
  have HQ8' : Hid (∀ k, k ≤ 8 → Q k ≠ 0 → k < 8) := by rw [hQ]; exact HQ8.out
  clear HE HS HQ8 hQ
  go_enter Tryz.func103, Tryz.ntmps103
  go_wp2
  go_loopw [5, 0, 1] (fun o x y wr => ∃ k : Nat, k ≤ 8 ∧ o = .int .u8 ((S k).toNat : Int) ∧ x = .int .u8 ((P k).toNat : Int) ∧ y = .int .u8 (Q k : Int) ∧ w = wr) (fun _ _ y _ => (intOf y).toNat)
  case atStart => exact ⟨0, by omega, by rw [HS0.out]; rfl, by rw [HP0.out], by rw [HQ0.out], rfl⟩
  case round =>
    obtain ⟨k, hk, rfl, rfl, rfl, rfl⟩ := hrel
    have hql := HQL.out k
    by_cases h0 : Q k = 0
    · have he := HE'.out k hk h0
      rw [h0, he]
      clear h0 he hql
      go_wp2
      go_ret
      exact ⟨rfl, rfl⟩
    · have hk8 := HQ8'.out k hk h0
      have hs := HS'.out k
      have hp := HP.out k
      have hqs := HQS.out k
      obtain ⟨q, hq⟩ : ∃ q, q = Q k % 2 := ⟨_, rfl⟩
      have ha1 : bits .and .u8 (Q k : Int) 1 = (q : Int) := by
        have := u8_and_nat (Q k) 1 (by omega) (by omega)
        rw [show ((1 : Nat) : Int) = 1 from rfl] at this
        rw [this, hq, Nat.and_one_is_mod]
      obtain ⟨c, hc⟩ : ∃ c : UInt8, c = if q = 1 then P k else 0 := ⟨_, rfl⟩
      have hpl := (P k).toNat_lt
      have hm : ((q : Int) * ((P k).toNat : Int)) % 256 = (c.toNat : Int) := by
        rw [hc]
        by_cases h1 : q = 1
        · rw [if_pos h1, h1]; omega
        · have : q = 0 := by omega
          rw [if_neg h1, this]; simp
      have hx := xor_u8' (S k) c
      rw [← hq, ← hc] at hs
      rw [← hs] at hx
      have hd : ((Q k : Int) / 2) = ((Q (k + 1) : Nat) : Int) := by rw [hqs]; omega
      have hx2 := u8_xor_nat ((P k).toNat * 2 % 256) ((P k).toNat / 128 * 27 % 256) (by omega) (by omega)
      have hxt : ((P (k + 1)).toNat : Int) = ((((P k).toNat * 2 % 256) ^^^ ((P k).toNat / 128 * 27 % 256) : Nat) : Int) := by
        rw [hp]; unfold xtP
        have : ((P k).toNat * 2 % 256) ^^^ ((P k).toNat / 128 * 27 % 256) < 2 ^ 8 := Nat.xor_lt_two_pow (by omega) (by omega)
        show ((_ % 256 : Nat) : Int) = _
        omega
      rw [← hxt] at hx2
      have e1 : (((P k).toNat * 2 % 256 : Nat) : Int) = ((P k).toNat : Int) * 2 % 256 := by omega
      have e2 : (((P k).toNat / 128 * 27 % 256 : Nat) : Int) = ((P k).toNat : Int) / 128 * 27 := by omega
      rw [e1, e2] at hx2
      have hql1 := HQL.out (k + 1)
      have hlt : Q (k + 1) < Q k := by rw [hqs]; omega
      have hpos : (0 : Int) < (Q k : Int) := by omega
      clear hxt hs hp hqs hq hc e1 e2 h0
      go_wp2
      go_roundw
      case rel => exact ⟨k + 1, by omega, rfl, rfl, rfl, trivial⟩
      case measure => simp [intOf]; omega

def sqP (a : UInt8) : Nat → UInt8
  | 0 => a
  | k + 1 => tmP (sqP a k) (sqP a k)
def ivQ (a : UInt8) : Nat → UInt8
  | 0 => 1
  | k + 1 => tmP (ivQ a k) (sqP a (k + 1))
def ivP (a : UInt8) : UInt8 := ivQ a 7

set_option maxHeartbeats 2000000 in
theorem pinverse_any (a : UInt8) (w : World) : Calls Tryz.prog 117 #[.int .u8 (a.toNat : Int)] w fun e w' => e = .returned (.int .u8 ((ivP a).toNat : Int)) ∧ w = w' := by
  have HV0 : Hid (ivQ a 0 = 1) := rfl
  have HS0 : Hid (sqP a 0 = a) := rfl
  have HVS : Hid (∀ k, ivQ a (k + 1) = tmP (ivQ a k) (sqP a (k + 1))) := fun _ => rfl
  have HSS : Hid (∀ k, sqP a (k + 1) = tmP (sqP a k) (sqP a k)) := fun _ => rfl
  have HR : Hid (ivP a = ivQ a 7) := rfl
  generalize ivP a = R at *
  generalize ivQ a = V at *
  generalize sqP a = S at *
  go_enter Tryz.func117, Tryz.ntmps117
  go_wp2
  go_loopw [0, 3, 4] (fun x o i wr => ∃ k : Nat, k ≤ 7 ∧ x = .int .u8 ((S k).toNat : Int) ∧ o = .int .u8 ((V k).toNat : Int) ∧ i = .int .i64 k ∧ w = wr) (fun _ _ i _ => 7 - (intOf i).toNat)
  case atStart => exact ⟨0, by omega, by rw [HS0.out], by rw [HV0.out]; rfl, rfl, rfl⟩
  case round =>
    obtain ⟨k, hk, rfl, rfl, rfl, rfl⟩ := hrel
    by_cases hlt : k < 7
    · have hkI : (k : Int) < 7 := by omega
      have h1 := ptimes_any (S k) (S k) w
      rw [← HSS.out k] at h1
      have h2 := ptimes_any (V k) (S (k + 1)) w
      rw [← HVS.out k] at h2
      go_wp2_with fail
      refine h1.mono ?_
      rintro e wx ⟨rfl, rfl⟩
      go_wp2_with fail
      refine h2.mono ?_
      rintro e wx ⟨rfl, rfl⟩
      clear h1 h2
      go_wp2
      go_roundw
      case rel => exact ⟨k + 1, by omega, rfl, rfl, by go_num, trivial⟩
      case measure => simp [intOf]; omega
    · have hk7 : k = 7 := by omega
      have hkI : ¬ (k : Int) < 7 := by omega
      have hr : V k = R := by rw [hk7, HR.out]
      rw [hr]
      clear hr hk7
      go_wp2
      go_ret
      exact ⟨rfl, rfl⟩

theorem protate_any (a : UInt8) (n : Nat) (hn : n ≤ 7) (w : World) : Calls Tryz.prog 118 #[.int .u8 (a.toNat : Int), .int .i64 (n : Int)] w fun e w' => e = .returned (.int .u8 ((rolA a n).toNat : Int)) ∧ w = w' := by
  have ha := a.toNat_lt
  have hq : a.toNat / 2 ^ (8 - n) < 256 := Nat.lt_of_le_of_lt (Nat.div_le_self _ _) ha
  have ho := u8_or_nat (a.toNat * 2 ^ n % 256) (a.toNat / 2 ^ (8 - n)) (by omega) hq
  have hr : ((rolA a n).toNat : Int) = (((a.toNat * 2 ^ n % 256) ||| (a.toNat / 2 ^ (8 - n)) : Nat) : Int) := by
    have h8 : (a.toNat * 2 ^ n % 256) ||| (a.toNat / 2 ^ (8 - n)) < 2 ^ 8 := Nat.or_lt_two_pow (by omega) (by omega)
    unfold rolA
    show ((_ % 256 : Nat) : Int) = _
    omega
  obtain ⟨e, he⟩ : ∃ e, e = 8 - n := ⟨_, rfl⟩
  have heI : (8 : Int) - (n : Int) = (e : Int) := by omega
  have hwe : IntKind.u64.wrap ((8 : Int) - (n : Int)) = (e : Int) := by rw [heI, IntKind.wrap_u64]; omega
  have h1 : ((a.toNat * 2 ^ n % 256 : Nat) : Int) = (a.toNat : Int) * 2 ^ n % 256 := by simp
  have h2 : ((a.toNat / 2 ^ (8 - n) : Nat) : Int) = (a.toNat : Int) / 2 ^ e := by rw [← he]; simp
  rw [h1, h2, ← hr] at ho
  have he8 : e ≤ 8 := by omega
  have hand : bits .and .u64 (n : Int) 7 = (n : Int) := by
    have := u64_and_nat n 7 (by omega) (by omega)
    rw [show ((7 : Nat) : Int) = 7 from rfl] at this
    rw [this]
    congr 1
    rw [show 7 = 2 ^ 3 - 1 from rfl, Nat.and_two_pow_sub_one_eq_mod]
    omega
  clear hr h1 h2 hq he heI
  generalize rolA a n = R at *
  go_enter Tryz.func118, Tryz.ntmps118
  go_wp2
  go_ret
  exact ⟨rfl, rfl⟩

def soP (y : UInt8) : Nat → UInt8
  | 0 => y ^^^ 99
  | k + 1 => soP y k ^^^ rolA y (k + 1)
def sbP (a : UInt8) : UInt8 := soP (ivP a) 4

set_option maxHeartbeats 2000000 in
theorem psub_any (a : UInt8) (w : World) : Calls Tryz.prog 102 #[.int .u8 (a.toNat : Int)] w fun e w' => e = .returned (.int .u8 ((sbP a).toNat : Int)) ∧ w = w' := by
  have hi := pinverse_any a w
  have HR : Hid (sbP a = soP (ivP a) 4) := rfl
  generalize ivP a = y at *
  have HS0 : Hid (soP y 0 = y ^^^ 99) := rfl
  have HSS : Hid (∀ k, soP y (k + 1) = soP y k ^^^ rolA y (k + 1)) := fun _ => rfl
  generalize sbP a = R at *
  generalize soP y = S at *
  have h99 := xor_u8' y 99
  rw [show (((99 : UInt8).toNat : Nat) : Int) = 99 from rfl] at h99
  go_enter Tryz.func102, Tryz.ntmps102
  go_wp2_with fail
  refine hi.mono ?_
  rintro e wx ⟨rfl, rfl⟩
  clear hi
  go_wp2
  go_loopw [4, 10] (fun o i wr => ∃ k : Nat, k ≤ 4 ∧ o = .int .u8 ((S k).toNat : Int) ∧ i = .int .i64 k ∧ w = wr) (fun _ i _ => 4 - (intOf i).toNat)
  case atStart => exact ⟨0, by omega, by rw [HS0.out, UInt8.toNat_xor]; rfl, rfl, rfl⟩
  case round =>
    obtain ⟨k, hk, rfl, rfl, rfl⟩ := hrel
    by_cases hlt : k < 4
    · have hkI : (k : Int) < 4 := by omega
      have h1 := protate_any y (k + 1) (by omega) w
      rw [show ((k + 1 : Nat) : Int) = (k : Int) + 1 from rfl] at h1
      have hx := xor_u8' (S k) (rolA y (k + 1))
      rw [← HSS.out k] at hx
      generalize rolA y (k + 1) = r at *
      go_wp2_with fail
      refine h1.mono ?_
      rintro e wx ⟨rfl, rfl⟩
      clear h1
      go_wp2
      go_roundw
      case rel => exact ⟨k + 1, by omega, rfl, by go_num, trivial⟩
      case measure => simp [intOf]; omega
    · have hk4 : k = 4 := by omega
      have hkI : ¬ (k : Int) < 4 := by omega
      have hr : S k = R := by rw [hk4, HR.out]
      rw [hr]
      clear hr hk4
      go_wp2
      go_ret
      exact ⟨rfl, rfl⟩

end Go.Proofs.YtbmmibmfjhehhaaGreat.AE

/- The field of bytes: mathematics only. -/
namespace Go.Proofs.YtbmmibmfjhehhaaGreat.AE
open Go.RowKit

theorem bit_xor (x y k : Nat) : (x ^^^ y) / 2 ^ k % 2 = (x / 2 ^ k % 2 + y / 2 ^ k % 2) % 2 := by
  have h := Nat.testBit_xor x y k
  simp only [Nat.testBit_eq_decide_div_mod_eq] at h
  have h1 : x / 2 ^ k % 2 < 2 := Nat.mod_lt _ (by decide)
  have h2 : y / 2 ^ k % 2 < 2 := Nat.mod_lt _ (by decide)
  have h3 : (x ^^^ y) / 2 ^ k % 2 < 2 := Nat.mod_lt _ (by decide)
  generalize x / 2 ^ k % 2 = p at *
  generalize y / 2 ^ k % 2 = q at *
  generalize (x ^^^ y) / 2 ^ k % 2 = r at *
  obtain rfl | rfl : p = 0 ∨ p = 1 := by omega
  all_goals
    obtain rfl | rfl : q = 0 ∨ q = 1 := by omega
    all_goals
      obtain rfl | rfl : r = 0 ∨ r = 1 := by omega
      all_goals first | rfl | (exfalso; revert h; decide)
theorem x8_comm (a b : UInt8) : a ^^^ b = b ^^^ a := UInt8.xor_comm a b
theorem x8_assoc (a b c : UInt8) : a ^^^ b ^^^ c = a ^^^ (b ^^^ c) := UInt8.xor_assoc a b c
theorem x8_self (a : UInt8) : a ^^^ a = 0 := UInt8.xor_self
theorem x8_zero (a : UInt8) : a ^^^ 0 = a := UInt8.xor_zero
theorem x8_mid (a b c d : UInt8) : (a ^^^ b) ^^^ (c ^^^ d) = (a ^^^ c) ^^^ (b ^^^ d) := by
  rw [x8_assoc, x8_assoc, ← x8_assoc b c d, x8_comm b c, x8_assoc c b d]

theorem all8 (p : UInt8 → Prop) (h : ∀ i : Fin 256, p (UInt8.ofNat i.val)) (x : UInt8) : p x := by
  have := h ⟨x.toNat, x.toNat_lt⟩
  simpa using this

theorem xtP_nat (x : UInt8) : (xtP x).toNat = (x.toNat * 2 % 256) ^^^ (x.toNat / 128 * 27) := by
  have hl := x.toNat_lt
  have h2 : x.toNat / 128 * 27 % 256 = x.toNat / 128 * 27 := by omega
  have : (x.toNat * 2 % 256) ^^^ (x.toNat / 128 * 27 % 256) < 2 ^ 8 := Nat.xor_lt_two_pow (by omega) (by omega)
  unfold xtP
  show _ % 256 = _
  rw [h2] at *
  omega
theorem xtP_xor (x y : UInt8) : xtP (x ^^^ y) = xtP x ^^^ xtP y := by
  apply UInt8.toNat_inj.1
  rw [UInt8.toNat_xor, xtP_nat, xtP_nat, xtP_nat, UInt8.toNat_xor]
  have hx := x.toNat_lt
  have hy := y.toNat_lt
  generalize x.toNat = a at *
  generalize y.toNat = b at *
  have e1 : (a ^^^ b) * 2 % 256 = (a * 2 % 256) ^^^ (b * 2 % 256) := by
    have h : (a ^^^ b) <<< 1 = a <<< 1 ^^^ b <<< 1 := Nat.shiftLeft_xor_distrib ..
    simp only [Nat.shiftLeft_eq] at h
    rw [show (2 : Nat) ^ 1 = 2 from rfl] at h
    rw [h, show (256 : Nat) = 2 ^ 8 from rfl, Nat.xor_mod_two_pow]
  have e2 : (a ^^^ b) / 128 * 27 = (a / 128 * 27) ^^^ (b / 128 * 27) := by
    have h : (a ^^^ b) >>> 7 = a >>> 7 ^^^ b >>> 7 := Nat.shiftRight_xor_distrib ..
    simp only [Nat.shiftRight_eq_div_pow] at h
    rw [show (2 : Nat) ^ 7 = 128 from rfl] at h
    rw [h]
    have ha : a / 128 < 2 := by omega
    have hb : b / 128 < 2 := by omega
    generalize a / 128 = p at *
    generalize b / 128 = q at *
    obtain rfl | rfl : p = 0 ∨ p = 1 := by omega
    all_goals
      obtain rfl | rfl : q = 0 ∨ q = 1 := by omega
      all_goals rfl
  rw [e1, e2]
  generalize a * 2 % 256 = c1
  generalize b * 2 % 256 = c2
  generalize a / 128 * 27 = c3
  generalize b / 128 * 27 = c4
  rw [Nat.xor_assoc, ← Nat.xor_assoc c2, Nat.xor_comm c2 c3, Nat.xor_assoc c3, ← Nat.xor_assoc c1]
theorem pwP_xor (x y : UInt8) (k : Nat) : pwP (x ^^^ y) k = pwP x k ^^^ pwP y k := by
  induction k with
  | zero => rfl
  | succ k ih => show xtP (pwP (x ^^^ y) k) = xtP (pwP x k) ^^^ xtP (pwP y k); rw [ih, xtP_xor]
theorem smP_xorl (x y b : UInt8) (k : Nat) : smP (x ^^^ y) b k = smP x b k ^^^ smP y b k := by
  induction k with
  | zero => show (0 : UInt8) = 0 ^^^ 0; decide
  | succ k ih =>
    show smP (x ^^^ y) b k ^^^ _ = (smP x b k ^^^ _) ^^^ (smP y b k ^^^ _)
    rw [ih, pwP_xor, x8_mid]
    congr 1
    by_cases h : b.toNat / 2 ^ k % 2 = 1
    · simp only [if_pos h]
    · simp only [if_neg h]; rfl
theorem smP_xorr (a x y : UInt8) (k : Nat) : smP a (x ^^^ y) k = smP a x k ^^^ smP a y k := by
  induction k with
  | zero => show (0 : UInt8) = 0 ^^^ 0; decide
  | succ k ih =>
    show smP a (x ^^^ y) k ^^^ _ = (smP a x k ^^^ _) ^^^ (smP a y k ^^^ _)
    rw [ih, x8_mid]
    congr 1
    rw [UInt8.toNat_xor, bit_xor]
    have h1 : x.toNat / 2 ^ k % 2 < 2 := Nat.mod_lt _ (by decide)
    have h2 : y.toNat / 2 ^ k % 2 < 2 := Nat.mod_lt _ (by decide)
    generalize x.toNat / 2 ^ k % 2 = p at *
    generalize y.toNat / 2 ^ k % 2 = q at *
    obtain rfl | rfl : p = 0 ∨ p = 1 := by omega
    all_goals
      obtain rfl | rfl : q = 0 ∨ q = 1 := by omega
      all_goals simp
theorem tmP_xorl (x y b : UInt8) : tmP (x ^^^ y) b = tmP x b ^^^ tmP y b := smP_xorl x y b 8
theorem tmP_xorr (a x y : UInt8) : tmP a (x ^^^ y) = tmP a x ^^^ tmP a y := smP_xorr a x y 8

def bs8 (i : Nat) : UInt8 := UInt8.ofNat (2 ^ i)
theorem lin_zero (f : UInt8 → UInt8) (hf : ∀ x y, f (x ^^^ y) = f x ^^^ f y) : f 0 = 0 := by
  have := hf 0 0
  rw [x8_self, x8_self] at this
  exact this
theorem bits8 (x : UInt8) : x = (x &&& 1) ^^^ (x &&& 2) ^^^ (x &&& 4) ^^^ (x &&& 8) ^^^ (x &&& 16) ^^^ (x &&& 32) ^^^ (x &&& 64) ^^^ (x &&& 128) :=
  all8 (fun x => x = (x &&& 1) ^^^ (x &&& 2) ^^^ (x &&& 4) ^^^ (x &&& 8) ^^^ (x &&& 16) ^^^ (x &&& 32) ^^^ (x &&& 64) ^^^ (x &&& 128)) (by decide +kernel) x
theorem bit8 (x : UInt8) : (x &&& 1 = 0 ∨ x &&& 1 = bs8 0) ∧ (x &&& 2 = 0 ∨ x &&& 2 = bs8 1) ∧ (x &&& 4 = 0 ∨ x &&& 4 = bs8 2) ∧ (x &&& 8 = 0 ∨ x &&& 8 = bs8 3) ∧ (x &&& 16 = 0 ∨ x &&& 16 = bs8 4) ∧ (x &&& 32 = 0 ∨ x &&& 32 = bs8 5) ∧ (x &&& 64 = 0 ∨ x &&& 64 = bs8 6) ∧ (x &&& 128 = 0 ∨ x &&& 128 = bs8 7) :=
  all8 (fun x => (x &&& 1 = 0 ∨ x &&& 1 = bs8 0) ∧ (x &&& 2 = 0 ∨ x &&& 2 = bs8 1) ∧ (x &&& 4 = 0 ∨ x &&& 4 = bs8 2) ∧ (x &&& 8 = 0 ∨ x &&& 8 = bs8 3) ∧ (x &&& 16 = 0 ∨ x &&& 16 = bs8 4) ∧ (x &&& 32 = 0 ∨ x &&& 32 = bs8 5) ∧ (x &&& 64 = 0 ∨ x &&& 64 = bs8 6) ∧ (x &&& 128 = 0 ∨ x &&& 128 = bs8 7)) (by decide +kernel) x
theorem lin_ext (f g : UInt8 → UInt8) (hf : ∀ x y, f (x ^^^ y) = f x ^^^ f y) (hg : ∀ x y, g (x ^^^ y) = g x ^^^ g y) (h : ∀ i : Fin 8, f (bs8 i.val) = g (bs8 i.val)) (x : UInt8) : f x = g x := by
  have h0 : f 0 = g 0 := by rw [lin_zero f hf, lin_zero g hg]
  have key : ∀ y (i : Fin 8), y = 0 ∨ y = bs8 i.val → f y = g y := by
    intro y i hy
    rcases hy with rfl | rfl
    · exact h0
    · exact h i
  obtain ⟨b0, b1, b2, b3, b4, b5, b6, b7⟩ := bit8 x
  rw [bits8 x]
  simp only [hf, hg]
  rw [key _ 0 b0, key _ 1 b1, key _ 2 b2, key _ 3 b3, key _ 4 b4, key _ 5 b5, key _ 6 b6, key _ 7 b7]

theorem tmP_comm (a b : UInt8) : tmP a b = tmP b a := by
  have D : ∀ i j : Fin 8, tmP (bs8 i.val) (bs8 j.val) = tmP (bs8 j.val) (bs8 i.val) := by decide +kernel
  refine lin_ext (fun a => tmP a b) (fun a => tmP b a) (fun x y => tmP_xorl x y b) (fun x y => tmP_xorr b x y) (fun i => ?_) a
  exact lin_ext (fun b => tmP (bs8 i.val) b) (fun b => tmP b (bs8 i.val)) (fun x y => tmP_xorr _ x y) (fun x y => tmP_xorl x y _) (fun j => D i j) b
theorem tmP_assoc (a b c : UInt8) : tmP (tmP a b) c = tmP a (tmP b c) := by
  have D : ∀ i j k : Fin 8, tmP (tmP (bs8 i.val) (bs8 j.val)) (bs8 k.val) = tmP (bs8 i.val) (tmP (bs8 j.val) (bs8 k.val)) := by decide +kernel
  refine lin_ext (fun a => tmP (tmP a b) c) (fun a => tmP a (tmP b c)) (fun x y => by show tmP (tmP (x ^^^ y) b) c = _; rw [tmP_xorl, tmP_xorl]) (fun x y => tmP_xorl x y _) (fun i => ?_) a
  refine lin_ext (fun b => tmP (tmP (bs8 i.val) b) c) (fun b => tmP (bs8 i.val) (tmP b c)) (fun x y => by show tmP (tmP (bs8 i.val) (x ^^^ y)) c = _; rw [tmP_xorr, tmP_xorl]) (fun x y => by show tmP (bs8 i.val) (tmP (x ^^^ y) c) = _; rw [tmP_xorl, tmP_xorr]) (fun j => ?_) b
  exact lin_ext (fun c => tmP (tmP (bs8 i.val) (bs8 j.val)) c) (fun c => tmP (bs8 i.val) (tmP (bs8 j.val) c)) (fun x y => tmP_xorr _ x y) (fun x y => by show tmP (bs8 i.val) (tmP (bs8 j.val) (x ^^^ y)) = _; rw [tmP_xorr, tmP_xorr]) (fun k => D i j k) c
theorem tmP_one (a : UInt8) : tmP a 1 = a := all8 (fun a => tmP a 1 = a) (by decide +kernel) a
theorem ivP_times (a : UInt8) (h : a ≠ 0) : tmP a (ivP a) = 1 :=
  all8 (fun a => a ≠ 0 → tmP a (ivP a) = 1) (by decide +kernel) a h
theorem ivP_zero : ivP 0 = 0 := by decide +kernel
theorem tmP_zero (b : UInt8) : tmP 0 b = 0 := lin_zero (fun a => tmP a b) (fun x y => tmP_xorl x y b)
theorem ivP_only (a b : UInt8) (h : tmP a b = 1) : b = ivP a := by
  have h0 : a ≠ 0 := fun e => by rw [e, tmP_zero] at h; exact absurd h (by decide)
  have e1 : tmP b (tmP a (ivP a)) = b := by rw [ivP_times a h0, tmP_one]
  have e2 : tmP (tmP b a) (ivP a) = ivP a := by rw [tmP_comm b a, h, tmP_comm, tmP_one]
  rw [← e1, ← tmP_assoc, e2]
theorem tpA_xorr (a x y k : Nat) : tpA a (x ^^^ y) k = tpA a x k ^^^ tpA a y k := by
  induction k with
  | zero => show 0 = 0 ^^^ 0; decide
  | succ k ih =>
    unfold tpA
    rw [ih, bit_xor]
    have h1 : x / 2 ^ k % 2 < 2 := Nat.mod_lt _ (by decide)
    have h2 : y / 2 ^ k % 2 < 2 := Nat.mod_lt _ (by decide)
    generalize x / 2 ^ k % 2 = p at *
    generalize y / 2 ^ k % 2 = q at *
    generalize tpA a x k = s at *
    generalize tpA a y k = t at *
    generalize a * 2 ^ k = z at *
    obtain rfl | rfl : p = 0 ∨ p = 1 := by omega
    all_goals
      obtain rfl | rfl : q = 0 ∨ q = 1 := by omega
      all_goals simp
    · rw [Nat.xor_assoc]
    · rw [Nat.xor_assoc, Nat.xor_comm t z, ← Nat.xor_assoc]
    · rw [Nat.xor_assoc s z, ← Nat.xor_assoc z t z, Nat.xor_comm z t, Nat.xor_assoc t z z, Nat.xor_self, Nat.xor_zero]
theorem rdA_xor (x y j : Nat) : rdA (x ^^^ y) j = rdA x j ^^^ rdA y j := by
  induction j with
  | zero => rfl
  | succ j ih =>
    unfold rdA
    rw [ih, bit_xor]
    have h1 : rdA x j / 2 ^ (14 - j) % 2 < 2 := Nat.mod_lt _ (by decide)
    have h2 : rdA y j / 2 ^ (14 - j) % 2 < 2 := Nat.mod_lt _ (by decide)
    generalize rdA x j / 2 ^ (14 - j) % 2 = p at *
    generalize rdA y j / 2 ^ (14 - j) % 2 = q at *
    generalize rdA x j = s at *
    generalize rdA y j = t at *
    generalize 283 * 2 ^ (6 - j) = z at *
    obtain rfl | rfl : p = 0 ∨ p = 1 := by omega
    all_goals
      obtain rfl | rfl : q = 0 ∨ q = 1 := by omega
      all_goals simp
    · rw [Nat.xor_assoc]
    · rw [Nat.xor_assoc, Nat.xor_comm t z, ← Nat.xor_assoc]
    · rw [Nat.xor_assoc s z, ← Nat.xor_assoc z t z, Nat.xor_comm z t, Nat.xor_assoc t z z, Nat.xor_self, Nat.xor_zero]
theorem tmA_nat (a b : UInt8) : (tmA a b).toNat = rdA (tpA a.toNat b.toNat 8) 7 % 2 ^ 8 := by
  unfold tmA
  show _ % 256 = _
  omega
theorem tmA_xorr (a x y : UInt8) : tmA a (x ^^^ y) = tmA a x ^^^ tmA a y := by
  apply UInt8.toNat_inj.1
  rw [UInt8.toNat_xor, tmA_nat, tmA_nat, tmA_nat, UInt8.toNat_xor, tpA_xorr, rdA_xor, Nat.xor_mod_two_pow]
theorem tmA_tmP (a b : UInt8) : tmA a b = tmP a b := by
  have D : ∀ (j : Fin 8) (i : Fin 256), tmA (UInt8.ofNat i.val) (bs8 j.val) = tmP (UInt8.ofNat i.val) (bs8 j.val) := by decide +kernel
  refine lin_ext (fun b => tmA a b) (fun b => tmP a b) (fun x y => tmA_xorr a x y) (fun x y => tmP_xorr a x y) (fun j => ?_) b
  exact all8 (fun a => tmA a (bs8 j.val) = tmP a (bs8 j.val)) (fun i => D j i) a
theorem invA_found (a c : UInt8) (h1 : tmA a c = 1) (h2 : ∀ b, tmA a b = 1 → b = c) : ∀ f, f ≤ 255 → 256 - f ≤ c.toNat → invA a f = c
  | 0, _, h => by have := c.toNat_lt; omega
  | f + 1, hf, h => by
    unfold invA
    by_cases e : tmA a (UInt8.ofNat (255 - f)) = 1
    · rw [if_pos e]; exact h2 _ e
    · rw [if_neg e]
      refine invA_found a c h1 h2 f (by omega) ?_
      have : c.toNat ≠ 255 - f := fun e' => e (by rw [← e', UInt8.ofNat_toNat]; exact h1)
      omega
theorem invA_none (a : UInt8) (h : ∀ b, tmA a b ≠ 1) : ∀ f, invA a f = 0
  | 0 => rfl
  | f + 1 => by unfold invA; rw [if_neg (h _)]; exact invA_none a h f
theorem inA_ivP (a : UInt8) : inA a = ivP a := by
  unfold inA
  by_cases h : a = 0
  · rw [h, ivP_zero]
    exact invA_none 0 (fun b => by rw [tmA_tmP, tmP_zero]; decide) 255
  · have hn : ivP a ≠ 0 := fun e => by have := ivP_times a h; rw [e, tmP_comm, tmP_zero] at this; exact absurd this (by decide)
    refine invA_found a (ivP a) (by rw [tmA_tmP]; exact ivP_times a h) (fun b hb => ivP_only a b (by rw [← tmA_tmP]; exact hb)) 255 (by omega) ?_
    have : (ivP a).toNat ≠ 0 := fun e => hn (UInt8.toNat_inj.1 e)
    omega
theorem sbA_sbP (a : UInt8) : sbA a = sbP a := by
  unfold sbA sbP
  rw [inA_ivP]
  generalize ivP a = y
  show _ = (((y ^^^ 99 ^^^ rolA y 1) ^^^ rolA y 2) ^^^ rolA y 3) ^^^ rolA y 4
  generalize rolA y 1 = p
  generalize rolA y 2 = q
  generalize rolA y 3 = r
  generalize rolA y 4 = s
  rw [x8_assoc y 99 p, x8_comm 99 p, ← x8_assoc y p 99, x8_assoc (y ^^^ p) 99 q, x8_comm 99 q, ← x8_assoc (y ^^^ p) q 99, x8_assoc (y ^^^ p ^^^ q) 99 r, x8_comm 99 r, ← x8_assoc (y ^^^ p ^^^ q) r 99, x8_assoc (y ^^^ p ^^^ q ^^^ r) 99 s, x8_comm 99 s, ← x8_assoc (y ^^^ p ^^^ q ^^^ r) s 99]
end Go.Proofs.YtbmmibmfjhehhaaGreat.AE

/- Contract of ref 4's xor. -/
namespace Go.Proofs.YtbmmibmfjhehhaaGreat.AE
open Go.RowKit

def xrA (a b : List UInt8) : List UInt8 := List.zipWith (· ^^^ ·) a b
def xpart (a b : List UInt8) (k : Nat) : List UInt8 := (xrA a b).take k ++ a.drop k
theorem xrA_len (a b : List UInt8) (n : Nat) (ha : a.length = n) (hb : b.length = n) : (xrA a b).length = n := by unfold xrA; simp [ha, hb]
theorem xpart_len (a b : List UInt8) (n k : Nat) (ha : a.length = n) (hb : b.length = n) (hk : k ≤ n) : (xpart a b k).length = n := by
  unfold xpart; simp [xrA_len a b n ha hb, ha]; omega
theorem xpart_zero (a b : List UInt8) : xpart a b 0 = a := by unfold xpart; simp
theorem xpart_all (a b : List UInt8) (n : Nat) (ha : a.length = n) (hb : b.length = n) : xpart a b n = xrA a b := by
  unfold xpart
  rw [List.take_of_length_le (by rw [xrA_len a b n ha hb]; exact Nat.le_refl _), List.drop_of_length_le (by omega), List.append_nil]
theorem xpart_get (a b : List UInt8) (n k : Nat) (ha : a.length = n) (hb : b.length = n) (hk : k < n) : (xpart a b k).getD k 0 = a.getD k 0 := by
  unfold xpart
  have hl : ((xrA a b).take k).length = k := by simp [xrA_len a b n ha hb]; omega
  rw [List.getD, List.getElem?_append_right (by omega), hl, Nat.sub_self, List.getElem?_drop, Nat.add_zero, List.getD]
theorem xpart_set (a b : List UInt8) (n k : Nat) (ha : a.length = n) (hb : b.length = n) (hk : k < n) :
    ((xpart a b k).map B8).toArray.setIfInBounds k (B8 (a.getD k 0 ^^^ b.getD k 0)) = ((xpart a b (k + 1)).map B8).toArray := by
  have hx := xrA_len a b n ha hb
  have hk' : k < (xrA a b).length := by omega
  have ha' : k < a.length := by omega
  have hb' : k < b.length := by omega
  have e0 : a.getD k 0 ^^^ b.getD k 0 = (xrA a b)[k] := by
    have e1 : (xrA a b)[k] = a[k] ^^^ b[k] := by unfold xrA; exact List.getElem_zipWith ..
    rw [e1]
    simp [List.getD, List.getElem?_eq_getElem ha', List.getElem?_eq_getElem hb']
  have e : (xpart a b k).set k (a.getD k 0 ^^^ b.getD k 0) = xpart a b (k + 1) := by
    unfold xpart
    rw [List.set_append_right _ _ (by simp; omega), List.take_succ_eq_append_getElem hk', e0, List.drop_eq_getElem_cons ha']
    simp only [List.length_take, Nat.min_eq_left (show k ≤ (xrA a b).length by omega), Nat.sub_self, List.set_cons_zero, List.append_assoc, List.singleton_append]
  rw [List.setIfInBounds_toArray, ← List.map_set, e]

set_option maxHeartbeats 4000000 in
set_option maxRecDepth 100000 in
theorem xor_any (a b : List UInt8) (w : World) (ha : a.length = 16) (hb : b.length = 16) :
    Calls Tryz.prog 79 #[.agg (a.map B8).toArray, .agg (b.map B8).toArray] w fun e w' => e = .returned (.agg ((xrA a b).map B8).toArray) ∧ Below w.heap.size w w' := by
  have HXS : Hid _ := fun k hk => xpart_set a b 16 k ha hb hk
  have HXG : Hid _ := fun k hk => xpart_get a b 16 k ha hb hk
  have HXL : Hid _ := fun k hk => xpart_len a b 16 k ha hb hk
  have HXA : Hid _ := xpart_all a b 16 ha hb
  have HBG : Hid _ := row_get b 16 hb
  have HL : Hid _ := xrA_len a b 16 ha hb
  have HX0 : Hid _ := xpart_zero a b
  obtain ⟨AA, hAA⟩ : ∃ AA, AA = (a.map B8).toArray := ⟨_, rfl⟩
  obtain ⟨BA, hBA⟩ : ∃ BA, BA = (b.map B8).toArray := ⟨_, rfl⟩
  rw [← hAA, ← hBA]
  have HAA : Hid _ := hAA
  have HBA : Hid _ := hBA
  clear ha hb hAA hBA
  go_enter Tryz.func79, Tryz.ntmps79
  go_wp2
  go_loopw [5] (fun i wr => ∃ k : Nat, k ≤ 16 ∧ i = .int .i64 k ∧ wr.heap[w.heap.size]? = some (.cells ((xpart a b k).map B8).toArray 86 (0, 0)) ∧ wr.heap[w.heap.size + 1]? = some (.cells BA 86 (0, 0)) ∧ wr.heap[w.heap.size + 1 + 1]? = some (.cells (Array.replicate 16 (.int .u8 0)) 86 (0, 0)) ∧ Below w.heap.size w wr) (fun i _ => 16 - (intOf i).toNat)
  case atStart => exact ⟨0, by omega, rfl, by rw [HX0.out, ← HAA.out]; repeat (first | exact heap_at _ _ _ (by simp) | rw [Below.heap_alloc _ _ _ (by first | (simp; omega) | simp)]), by repeat (first | exact heap_at _ _ _ (by simp) | rw [Below.heap_alloc _ _ _ (by first | (simp; omega) | simp)]), heap_at _ _ _ (by simp), (((Below.refl _ _).alloc (Nat.le_refl _) _).alloc (by simp) _).alloc (by simp; omega) _⟩
  case round =>
    obtain ⟨k, hk, rfl, hT, hB, hR, hbel⟩ := hrel
    have HT : Hid _ := hT
    have HB : Hid _ := hB
    have HR : Hid _ := hR
    by_cases hlt : k < 16
    · have hset := HXS.out k hlt
      have hga : ((xpart a b k).map B8).toArray[k]? = some (.int .u8 ((a.getD k 0).toNat : Int)) := by
        rw [row_get _ 16 (HXL.out k (by omega)) k hlt, HXG.out k hlt]
      have hgb : BA[k]? = some (.int .u8 ((b.getD k 0).toNat : Int)) := by rw [HBA.out]; exact HBG.out k hlt
      have hca := cell_of_row _ _ k _ _ _ hT
      rw [hga] at hca
      have hfa := frozen_of_row _ _ k _ _ hT
      have hcb := cell_of_row _ _ k _ _ _ hB
      rw [hgb] at hcb
      have HX : Hid (∀ x y : UInt8, B8 (x ^^^ y) = .int .u8 ((x ^^^ y).toNat : Int)) := fun x y => rfl
      generalize a.getD k 0 = x at *
      generalize b.getD k 0 = y at *
      have HSET : Hid _ := hset
      have hkI : (k : Int) < 16 := by omega
      clear hset hT hB hR hga hgb
      have hxy := xor_u8' x y
      go_wp2
      go_region
      all_goals
        go_wp2
        go_roundw
        case rel =>
          refine ⟨k + 1, by omega, by go_num, ?_, ?_, ?_, (hbel.setCell (p := ⟨w.heap.size, k, none⟩) (Nat.le_refl _) _).drew⟩
          · rw [← HSET.out, heap_drew]; exact heap_setCell_same _ w.heap.size k _ 86 _ HT.out
          · rw [heap_drew, heap_setCell_other _ _ _ _ (by simp)]; exact HB.out
          · rw [heap_drew, heap_setCell_other _ _ _ _ (by simp; try omega)]; exact HR.out
        case measure => simp [intOf]; omega
    · have hk' : k = 16 := by omega
      rw [hk', HXA.out] at hT
      obtain ⟨RS, hRS⟩ : ∃ RS, RS = ((xrA a b).map B8).toArray := ⟨_, rfl⟩
      have hr8 : RS.size = 16 := by rw [hRS]; simp [HL.out]
      have hri : (Tryz.prog.info? 86).map (·.size) = some RS.size := by rw [hr8]; kernel_rfl
      have hr1 : RS.all (·.oneCell') = true := by rw [hRS]; exact B8_onea _
      rw [← hRS] at hT
      have HT' : Hid _ := hT
      have HRS : Hid _ := hRS
      have HRI : Hid _ := hri
      have HR1 : Hid _ := hr1
      have HR8 : Hid _ := hr8
      have hlt' : ¬ (k : Int) < 16 := by omega
      clear hT hB hR HT hk' hri hr1 hr8 hRS
      go_wp2_with (first
        | (refine wpList_load_row rfl 86 _ rfl w.heap.size rfl 86 _ (0, 0) _ HT'.out Tryz.underlying86 rfl HRI.out ?_)
        | (refine wpList_store_row rfl 86 _ _ rfl (w.heap.size + 1 + 1) _ rfl rfl 86 _ HR.out HRI.out (by rw [HR8.out]; rfl) HR1.out ?_))
      refine bodyPost_ret (v := .agg RS) ?_ rfl ⟨by rw [HRS.out], below_setRow hbel (by omega) _⟩
      exact results_cell_row Tryz.results79 _ _ (w.heap.size + 1 + 1) 86 _ (0, 0) _ rfl (setRow_heap _ _ _ _ _ _ HR.out) Tryz.underlying86 rfl HRI.out

end Go.Proofs.YtbmmibmfjhehhaaGreat.AE

/- Contract of ref 4's mixed. -/
namespace Go.Proofs.YtbmmibmfjhehhaaGreat.AE
open Go.RowKit

def mxS (s f : List UInt8) (c r : Nat) : Nat → UInt8
  | 0 => 0
  | k + 1 => mxS s f c r k ^^^ tmA (s.getD (4 * c + k) 0) (f.getD ((k + 4 - r) % 4) 0)
def mxA (s f : List UInt8) : List UInt8 := (List.range 16).map fun j => mxS s f (j / 4) (j % 4) 4
def mxP (s f : List UInt8) (c r k : Nat) : List UInt8 := (List.range 16).map fun j => if j < 4 * c + r then mxS s f (j / 4) (j % 4) 4 else if j = 4 * c + r then mxS s f c r k else 0
theorem mxA_len (s f : List UInt8) : (mxA s f).length = 16 := by unfold mxA; simp
theorem mxP_len (s f : List UInt8) (c r k : Nat) : (mxP s f c r k).length = 16 := by unfold mxP; simp
theorem mxP_start (s f : List UInt8) : mxP s f 0 0 0 = List.replicate 16 0 := by
  unfold mxP
  apply List.ext_getElem
  · simp
  · intro n h1 h2
    rw [List.getElem_replicate]
    simp [mxS]
theorem mxP_all (s f : List UInt8) : mxP s f 4 0 0 = mxA s f := by
  unfold mxP mxA
  apply List.map_congr_left
  intro j hj
  have : j < 16 := List.mem_range.1 hj
  simp [this]
theorem mxP_row (s f : List UInt8) (c r : Nat) (hr : r < 4) : mxP s f c r 4 = mxP s f c (r + 1) 0 := by
  unfold mxP
  apply List.map_congr_left
  intro j hj
  by_cases h1 : j < 4 * c + r
  · rw [if_pos h1, if_pos (by omega)]
  · by_cases h2 : j = 4 * c + r
    · rw [if_neg h1, if_pos h2, if_pos (by omega), h2]
      rw [show (4 * c + r) / 4 = c by omega, show (4 * c + r) % 4 = r by omega]
    · rw [if_neg h1, if_neg h2, if_neg (by omega)]
      by_cases h3 : j = 4 * c + (r + 1)
      · rw [if_pos h3]; rfl
      · rw [if_neg h3]
theorem mxP_col (s f : List UInt8) (c : Nat) : mxP s f c 4 0 = mxP s f (c + 1) 0 0 := by
  unfold mxP
  apply List.map_congr_left
  intro j hj
  rw [show 4 * (c + 1) + 0 = 4 * c + 4 by omega]
  rfl
theorem mxP_get (s f : List UInt8) (c r k : Nat) (hc : c < 4) (hr : r < 4) : (mxP s f c r k).getD (4 * c + r) 0 = mxS s f c r k := by
  unfold mxP
  rw [List.getD, List.getElem?_map, List.getElem?_range (by omega)]
  simp
theorem mxP_set (s f : List UInt8) (c r k : Nat) (hc : c < 4) (hr : r < 4) :
    ((mxP s f c r k).map B8).toArray.setIfInBounds (4 * c + r) (B8 (mxS s f c r k ^^^ tmA (s.getD (4 * c + k) 0) (f.getD ((k + 4 - r) % 4) 0))) = ((mxP s f c r (k + 1)).map B8).toArray := by
  have e : (mxP s f c r k).set (4 * c + r) (mxS s f c r k ^^^ tmA (s.getD (4 * c + k) 0) (f.getD ((k + 4 - r) % 4) 0)) = mxP s f c r (k + 1) := by
    unfold mxP
    apply List.ext_getElem
    · simp
    · intro n h1 h2
      simp only [List.getElem_set, List.getElem_map, List.getElem_range]
      by_cases h : 4 * c + r = n
      · subst h
        rw [if_pos rfl, if_neg (by omega), if_pos rfl]; rfl
      · rw [if_neg h]
        by_cases h3 : n < 4 * c + r
        · rw [if_pos h3, if_pos h3]
        · rw [if_neg h3, if_neg (by omega), if_neg h3, if_neg (by omega)]
  rw [List.setIfInBounds_toArray, ← List.map_set, e]

theorem zero16 (w : World) : (zeroValue 86).run Tryz.prog w = .ok (.agg ((List.replicate 16 (0 : UInt8)).map B8).toArray) w := by kernel_rfl

def MX (w : World) (SA FA : Array Value) (s f : List UInt8) (c r k : Nat) (wr : World) : Prop :=
  wr.heap[w.heap.size]? = some (.cells SA 86 (0, 0)) ∧ wr.heap[w.heap.size + 1]? = some (.cells FA 125 (0, 0)) ∧ (∃ Z : Array Value, Z.size = 16 ∧ wr.heap[w.heap.size + 1 + 1]? = some (.cells Z 86 (0, 0))) ∧ wr.heap[w.heap.size + 1 + 1 + 1]? = some (.cells ((mxP s f c r k).map B8).toArray 86 (0, 0)) ∧ Below w.heap.size w wr
theorem MX.drew {w : World} {SA FA : Array Value} {s f : List UInt8} {c r k : Nat} {wr : World} (h : MX w SA FA s f c r k wr) : MX w SA FA s f c r k wr.drew := by
  unfold MX at *
  rw [heap_drew]
  exact ⟨h.1, h.2.1, h.2.2.1, h.2.2.2.1, h.2.2.2.2.drew⟩
theorem MX.set {w : World} {SA FA : Array Value} {s f : List UInt8} {c r k : Nat} {wr : World} (h : MX w SA FA s f c r k wr) (hc : c < 4) (hr : r < 4) (z : UInt8)
    (hz : z = mxS s f c r k ^^^ tmA (s.getD (4 * c + k) 0) (f.getD ((k + 4 - r) % 4) 0)) :
    MX w SA FA s f c r (k + 1) (wr.setCell ⟨w.heap.size + 1 + 1 + 1, 4 * c + r, none⟩ (.int .u8 (z.toNat : Int))) := by
  obtain ⟨h1, h2, h3, h4, h5⟩ := h
  refine ⟨?_, ?_, ?_, ?_, h5.setCell (p := ⟨w.heap.size + 1 + 1 + 1, 4 * c + r, none⟩) (by show w.heap.size ≤ w.heap.size + 1 + 1 + 1; omega) _⟩
  · rw [heap_setCell_other _ _ _ _ (by show w.heap.size ≠ w.heap.size + 1 + 1 + 1; omega)]; exact h1
  · rw [heap_setCell_other _ _ _ _ (by show w.heap.size + 1 ≠ w.heap.size + 1 + 1 + 1; omega)]; exact h2
  · rw [heap_setCell_other _ _ _ _ (by show w.heap.size + 1 + 1 ≠ w.heap.size + 1 + 1 + 1; omega)]; exact h3
  · rw [← mxP_set s f c r k hc hr, ← hz]; exact heap_setCell_same _ (w.heap.size + 1 + 1 + 1) (4 * c + r) _ 86 _ h4

set_option maxHeartbeats 20000000 in
set_option maxRecDepth 100000 in
theorem mixed_any (s f : List UInt8) (w : World) (hs : s.length = 16) (hf : f.length = 4) :
    Calls Tryz.prog 80 #[.agg (s.map B8).toArray, .agg (f.map B8).toArray] w fun e w' => e = .returned (.agg ((mxA s f).map B8).toArray) ∧ Below w.heap.size w w' := by
  have HPS : Hid _ := fun c r k hc hr => mxP_set s f c r k hc hr
  have HPG : Hid _ := fun c r k hc hr => mxP_get s f c r k hc hr
  have HPL : Hid _ := fun c r k => mxP_len s f c r k
  have HPR : Hid _ := fun c r hr => mxP_row s f c r hr
  have HPC : Hid _ := fun c => mxP_col s f c
  have HPA : Hid _ := mxP_all s f
  have HL : Hid _ := mxA_len s f
  have HP0 : Hid _ := mxP_start s f
  have HSG : Hid _ := row_get s 16 hs
  have HFG : Hid _ := row_get f 4 hf
  have hzv := fun W => zero16 W
  rw [← mxP_start s f] at hzv
  obtain ⟨ZA, hZA⟩ : ∃ ZA, ZA = ((mxP s f 0 0 0).map B8).toArray := ⟨_, rfl⟩
  rw [← hZA] at hzv
  obtain ⟨SA, hSA⟩ : ∃ SA, SA = (s.map B8).toArray := ⟨_, rfl⟩
  obtain ⟨FA, hFA⟩ : ∃ FA, FA = (f.map B8).toArray := ⟨_, rfl⟩
  rw [← hSA, ← hFA]
  have HZA : Hid _ := hZA
  have HZS : Hid (ZA.size = 16) := by show _ = _; rw [hZA]; simp [mxP_len]
  have HSA : Hid _ := hSA
  have HFA : Hid _ := hFA
  clear hs hf hSA hFA hZA
  go_enter Tryz.func80, Tryz.ntmps80
  go_wp2
  go_loopw [6] (fun i wr => ∃ c : Nat, c ≤ 4 ∧ i = .int .i64 c ∧ MX w SA FA s f c 0 0 wr) (fun i _ => 4 - (intOf i).toNat)
  case atStart => exact ⟨0, by omega, rfl, by repeat (first | exact heap_at _ _ _ (by simp) | rw [Below.heap_alloc _ _ _ (by first | (simp; omega) | simp)]), by repeat (first | exact heap_at _ _ _ (by simp) | rw [Below.heap_alloc _ _ _ (by first | (simp; omega) | simp)]), ⟨ZA, HZS.out, (by rw [Below.heap_alloc _ _ _ (by simp)]; exact heap_at _ _ _ (by simp))⟩, by rw [← HZA.out]; exact heap_at _ _ _ (by simp), ((((Below.refl _ _).alloc (Nat.le_refl _) _).alloc (by simp) _).alloc (by simp; omega) _).alloc (by simp; omega) _⟩
  case round =>
    obtain ⟨c, hc, rfl, hM⟩ := hrel
    by_cases hlt : c < 4
    · have hcI : (c : Int) < 4 := by omega
      have HM0 : Hid _ := hM
      clear hM
      go_wp2
      go_loopw [7] (fun i wr => ∃ r : Nat, r ≤ 4 ∧ i = .int .i64 r ∧ MX w SA FA s f c r 0 wr) (fun i _ => 4 - (intOf i).toNat)
      case atStart => exact ⟨0, by omega, rfl, HM0.out⟩
      case round =>
        clear HM0
        obtain ⟨r, hr, rfl, hM⟩ := hrel
        by_cases hlr : r < 4
        · have hrI : (r : Int) < 4 := by omega
          have HM0 : Hid _ := hM
          clear hM
          go_wp2
          go_loopw [8] (fun i wr => ∃ k : Nat, k ≤ 4 ∧ i = .int .i64 k ∧ MX w SA FA s f c r k wr) (fun i _ => 4 - (intOf i).toNat)
          case atStart => exact ⟨0, by omega, rfl, HM0.out⟩
          case round =>
            clear HM0
            obtain ⟨k, hk, rfl, hM⟩ := hrel
            by_cases hlk : k < 4
            · have hkI : (k : Int) < 4 := by omega
              have HS : Hid (∀ z : UInt8, z = mxS s f c r k ^^^ tmA (s.getD (4 * c + k) 0) (f.getD ((k + 4 - r) % 4) 0) → _) := fun z hz => MX.set hM hlt hlr z hz
              obtain ⟨h1, h2, h3, h4, h5⟩ := hM
              have g1 := cell_of_row _ _ (4 * c + k) _ _ _ h1
              have g2 := cell_of_row _ _ ((k + 4 - r) % 4) _ _ _ h2
              have g4 := cell_of_row _ _ (4 * c + r) _ _ _ h4
              have g5 := frozen_of_row _ _ (4 * c + r) _ _ h4
              rw [HSA.out, HSG.out _ (by omega)] at g1
              rw [HFA.out, HFG.out _ (by omega)] at g2
              rw [row_get _ 16 (HPL.out c r k) _ (by omega), HPG.out c r k hlt hlr] at g4
              generalize s.getD (4 * c + k) 0 = x at *
              generalize f.getD ((k + 4 - r) % 4) 0 = y at *
              generalize mxS s f c r k = u at *
              clear h1 h2 h3 h4 h5
              have ht := fun W => times_any x y W
              have hxu := xor_u8' u (tmA x y)
              have HS' : Hid (MX w SA FA s f c r (k + 1) (wr.setCell ⟨w.heap.size + 1 + 1 + 1, 4 * c + r, none⟩ (.int .u8 (((u.toNat ^^^ (tmA x y).toNat : Nat)) : Int)))) := by
                show MX _ _ _ _ _ _ _ _ _
                rw [← UInt8.toNat_xor]
                exact HS.out _ rfl
              generalize tmA x y = z at *
              clear HS
              have q0 : IntKind.i64.wrap (4 * (c : Int)) = 4 * (c : Int) := wrap_i64_7 _ (by omega) (by omega)
              have q1 : IntKind.i64.wrap (4 * (c : Int) + r) = 4 * (c : Int) + r := wrap_i64_7 _ (by omega) (by omega)
              have q2 : IntKind.i64.wrap (4 * (c : Int) + k) = 4 * (c : Int) + k := wrap_i64_7 _ (by omega) (by omega)
              have q3 : IntKind.i64.wrap ((k : Int) - r) = (k : Int) - r := wrap_i64_7 _ (by omega) (by omega)
              have q4 : IntKind.i64.wrap ((k : Int) - r + 4) = (k : Int) - r + 4 := wrap_i64_7 _ (by omega) (by omega)
              have q5 : Int.tmod ((k : Int) - r + 4) 4 = (((k + 4 - r) % 4 : Nat) : Int) := by
                rw [Int.tmod_eq_emod_of_nonneg (by omega)]; omega
              have t1 : (4 * (c : Int) + r).toNat = 4 * c + r := by omega
              have t2 : (4 * (c : Int) + k).toNat = 4 * c + k := by omega
              have l1 : (0 : Int) ≤ 4 * (c : Int) + r ∧ 4 * (c : Int) + r < 16 := by omega
              have l2 : (0 : Int) ≤ 4 * (c : Int) + k ∧ 4 * (c : Int) + k < 16 := by omega
              have l3 : (((k + 4 - r) % 4 : Nat) : Int) < 4 := by omega
              generalize (k + 4 - r) % 4 = m at *
              go_wp2
              go_region_with (first | (go_at_call 78; refine (ht _).mono ?_; rintro e wx ⟨rfl, rfl⟩))
              all_goals
                go_wp2
                go_roundw
                case rel => exact ⟨k + 1, by omega, by go_num, HS'.out.drew⟩
                case measure => simp [intOf]; omega
            · have hk4 : k = 4 := by omega
              have hkI : ¬ (k : Int) < 4 := by omega
              have HM1 : Hid (MX w SA FA s f c (r + 1) 0 wr) := by
                show MX _ _ _ _ _ _ _ _ _
                unfold MX at hM ⊢
                rw [hk4, HPR.out c r hlr] at hM
                exact hM
              clear hM hk4
              go_wp2
              go_roundw
              case rel => exact ⟨r + 1, by omega, by go_num, HM1.out⟩
              case measure => simp [intOf]; omega
        · have hr4 : r = 4 := by omega
          have hrI : ¬ (r : Int) < 4 := by omega
          have HM1 : Hid (MX w SA FA s f (c + 1) 0 0 wr) := by
            show MX _ _ _ _ _ _ _ _ _
            unfold MX at hM ⊢
            rw [hr4, HPC.out c] at hM
            exact hM
          clear hM hr4
          go_wp2
          go_roundw
          case rel => exact ⟨c + 1, by omega, by go_num, HM1.out⟩
          case measure => simp [intOf]; omega
    · have hc4 : c = 4 := by omega
      have hcI : ¬ (c : Int) < 4 := by omega
      obtain ⟨h1, h2, ⟨Z, hZ, h3⟩, h4, h5⟩ := hM
      rw [hc4, HPA.out] at h4
      obtain ⟨RS, hRS⟩ : ∃ RS, RS = ((mxA s f).map B8).toArray := ⟨_, rfl⟩
      have hr8 : RS.size = 16 := by rw [hRS]; simp [HL.out]
      have hri : (Tryz.prog.info? 86).map (·.size) = some RS.size := by rw [hr8]; kernel_rfl
      have hr1 : RS.all (·.oneCell') = true := by rw [hRS]; exact B8_onea _
      rw [← hRS] at h4
      have HT' : Hid _ := h4
      have HR : Hid _ := h3
      have HRS : Hid _ := hRS
      have HRI : Hid _ := hri
      have HR1 : Hid _ := hr1
      have HR8 : Hid _ := hZ.trans hr8.symm
      clear h1 h2 h3 h4 hc4 hri hr1 hr8 hRS hZ
      go_wp2_with (first
        | (refine wpList_load_row rfl 86 _ rfl (w.heap.size + 1 + 1 + 1) rfl 86 _ (0, 0) _ HT'.out Tryz.underlying86 rfl HRI.out ?_)
        | (refine wpList_store_row rfl 86 _ _ rfl (w.heap.size + 1 + 1) _ rfl rfl 86 _ HR.out HRI.out HR8.out HR1.out ?_))
      refine bodyPost_ret (v := .agg RS) ?_ rfl ⟨by rw [HRS.out], below_setRow h5 (by omega) _⟩
      exact results_cell_row Tryz.results80 _ _ (w.heap.size + 1 + 1) 86 _ (0, 0) _ rfl (setRow_heap _ _ _ _ _ _ HR.out) Tryz.underlying86 rfl HRI.out

end Go.Proofs.YtbmmibmfjhehhaaGreat.AE

/- Contract of ref 4's Encipher. -/
namespace Go.Proofs.YtbmmibmfjhehhaaGreat.AE
open Go.RowKit

theorem bpart_cell' (n : Nat) (T : List UInt8) (k : Nat) (hT : T.length = n) (h : k < n) : ∃ u, ((bpart n T k).map B8).toArray[k]? = some (.int .u8 u) := by
  have hl : k < (bpart n T k).length := by rw [bpart_len n T k hT (by omega)]; exact h
  exact ⟨_, by simp only [List.getElem?_toArray, List.getElem?_map, List.getElem?_eq_getElem hl]; rfl⟩
def keyA (ks : List UInt8) (i : Nat) : List UInt8 := (ks.drop (16 * i)).take 16
theorem keyA_len (ks : List UInt8) (i : Nat) (h : ks.length = 176) (hi : i < 11) : (keyA ks i).length = 16 := by unfold keyA; simp [h]; omega
def stA (t s : List UInt8) : List UInt8 := (List.range 16).map fun j => t.getD (s.getD (4 * ((j / 4 + j % 4) % 4) + j % 4) 0).toNat 0
theorem stA_len (t s : List UInt8) : (stA t s).length = 16 := by unfold stA; simp
theorem stA_get (t s : List UInt8) (c r : Nat) (hc : c < 4) (hr : r < 4) : (stA t s).getD (4 * c + r) 0 = t.getD (s.getD (4 * ((c + r) % 4) + r) 0).toNat 0 := by
  unfold stA
  rw [List.getD, List.getElem?_map, List.getElem?_range (by omega)]
  show t.getD (s.getD (4 * (((4 * c + r) / 4 + (4 * c + r) % 4) % 4) + (4 * c + r) % 4) 0).toNat 0 = _
  rw [show (4 * c + r) / 4 = c by omega, show (4 * c + r) % 4 = r by omega]
def rndA (ks t s : List UInt8) (i : Nat) : List UInt8 := xrA (if i < 10 then mxA (stA t s) [2, 3, 1, 1] else stA t s) (keyA ks i)
def encR (ks t s : List UInt8) : Nat → List UInt8
  | 0 => xrA s (keyA ks 0)
  | n + 1 => rndA ks t (encR ks t s n) (n + 1)
def encA (ks t s : List UInt8) : List UInt8 := encR ks t s 10
theorem rndA_len (ks t s : List UInt8) (i : Nat) (h : ks.length = 176) (hi : i < 11) : (rndA ks t s i).length = 16 := by
  unfold rndA
  refine xrA_len _ _ 16 ?_ (keyA_len ks i h hi)
  by_cases h10 : i < 10
  · rw [if_pos h10]; exact mxA_len _ _
  · rw [if_neg h10]; exact stA_len _ _
theorem encR_len (ks t s : List UInt8) (n : Nat) (h : ks.length = 176) (hs : s.length = 16) (hn : n < 11) : (encR ks t s n).length = 16 := by
  cases n with
  | zero => exact xrA_len _ _ 16 hs (keyA_len ks 0 h (by omega))
  | succ n => exact rndA_len _ _ _ _ h hn

theorem keyA_range {w : World} {b : Nat} {ks : List UInt8} {ty : TypeId} {fr : Nat × Nat} (i : Nat) (h : w.heap[b]? = some (.cells (ks.map B8).toArray ty fr)) : w.rangeAt b (16 * i) ((keyA ks i).map B8) := fun j v hv => by
  rw [cell_of_row _ _ (16 * i + j) _ _ _ h]
  unfold keyA at hv
  simp only [List.getElem?_map, List.getElem?_take, List.getElem?_drop] at hv
  by_cases hj : j < 16
  · rw [if_pos hj] at hv
    simp only [List.getElem?_toArray, List.getElem?_map]
    exact hv
  · rw [if_neg hj] at hv; simp at hv

def EN (w : World) (KA TA : Array Value) (g : Nat) (l : List UInt8) (wr : World) : Prop :=
  wr.heap[w.heap.size]? = some (.cells KA 111 (0, 0)) ∧ wr.heap[w.heap.size + 1 + 1]? = some (.cells TA 109 (0, 0)) ∧ (∃ Z : Array Value, Z.size = 16 ∧ wr.heap[w.heap.size + 1 + 1 + 1]? = some (.cells Z 86 (0, 0))) ∧ wr.heap[g]? = some (.cells (l.map B8).toArray 86 (0, 0)) ∧ Below w.heap.size w wr
theorem EN.below {w : World} {KA TA : Array Value} {g B : Nat} {l : List UInt8} {a b : World} (h : EN w KA TA g l a) (hb : Below B a b) (hg : g < B) (hB : w.heap.size + 4 ≤ B) : EN w KA TA g l b := by
  obtain ⟨h1, h2, ⟨Z, z1, z2⟩, h3, h4⟩ := h
  exact ⟨(hb.block _ (by omega)).trans h1, (hb.block _ (by omega)).trans h2, ⟨Z, z1, (hb.block _ (by omega)).trans z2⟩, (hb.block _ hg).trans h3, h4.trans (hb.mono (by omega))⟩
theorem EN.set {w : World} {KA TA : Array Value} {g : Nat} {l l' : List UInt8} {a : World} (h : EN w KA TA g l a) (hg : w.heap.size + 4 ≤ g) (N : Array Value) (hN : N = (l'.map B8).toArray) : EN w KA TA g l' (a.setRow g N) := by
  obtain ⟨h1, h2, ⟨Z, z1, z2⟩, h3, h4⟩ := h
  refine ⟨?_, ?_, ⟨Z, z1, ?_⟩, ?_, below_setRow h4 (by omega) _⟩
  · exact ((below_setRow (Below.refl g a) (Nat.le_refl _) N).block _ (by omega)).trans h1
  · exact ((below_setRow (Below.refl g a) (Nat.le_refl _) N).block _ (by omega)).trans h2
  · exact ((below_setRow (Below.refl g a) (Nat.le_refl _) N).block _ (by omega)).trans z2
  · rw [hN]; exact setRow_heap _ _ _ _ _ _ h3

theorem EN.drew {w : World} {KA TA : Array Value} {g : Nat} {l : List UInt8} {wr : World} (h : EN w KA TA g l wr) : EN w KA TA g l wr.drew := by
  unfold EN at *
  rw [heap_drew]
  exact ⟨h.1, h.2.1, h.2.2.1, h.2.2.2.1, h.2.2.2.2.drew⟩
theorem EN.start {w w1 : World} {KA TA ZA : Array Value} {l : List UInt8} (h1 : w1.heap[w.heap.size]? = some (.cells KA 111 (0, 0))) (h2 : w1.heap[w.heap.size + 1 + 1]? = some (.cells TA 109 (0, 0))) (h3 : w1.heap[w.heap.size + 1 + 1 + 1]? = some (.cells ZA 86 (0, 0))) (hz : ZA.size = 16) (hb : Below w.heap.size w w1) (hs : w.heap.size + 4 ≤ w1.heap.size) (E0 o : Array Value) (hE : E0 = (l.map B8).toArray) :
    EN w KA TA w1.heap.size l ((w1.alloc (.cells o 86 (0, 0))).setRow w1.heap.size E0) := by
  have hb' : Below w1.heap.size w1 ((w1.alloc (.cells o 86 (0, 0))).setRow w1.heap.size E0) := below_setRow ((Below.refl _ _).alloc (Nat.le_refl _) _) (Nat.le_refl _) _
  refine ⟨(hb'.block _ (by omega)).trans h1, (hb'.block _ (by omega)).trans h2, ⟨ZA, hz, (hb'.block _ (by omega)).trans h3⟩, ?_, hb.trans (hb'.mono (by omega))⟩
  rw [hE]; exact setRow_heap _ _ _ _ _ _ (heap_at _ _ _ rfl)
def TT (w : World) (KA TA : Array Value) (g : Nat) (l : List UInt8) (b : Nat) (T : List UInt8) (k : Nat) (wr : World) : Prop :=
  EN w KA TA g l wr ∧ wr.heap[b]? = some (.cells ((bpart 16 T k).map B8).toArray 86 (0, 0)) ∧ wr.heap.size = b + 1
theorem TT.start {w : World} {KA TA : Array Value} {g : Nat} {l T : List UInt8} {w2 : World} (h : EN w KA TA g l w2) (hg : g < w2.heap.size) (hs : w.heap.size + 4 ≤ w2.heap.size) (ZA : Array Value) (hz : ZA = ((List.replicate 16 (0 : UInt8)).map B8).toArray) :
    TT w KA TA g l w2.heap.size T 0 (w2.alloc (.cells ZA 86 (0, 0))) := by
  refine ⟨h.below ((Below.refl _ _).alloc (Nat.le_refl _) _) hg hs, ?_, by simp⟩
  rw [heap_at _ _ _ rfl, hz]
  unfold bpart
  rw [List.take_zero, List.nil_append]
theorem TT.set {w : World} {KA TA : Array Value} {g : Nat} {l T : List UInt8} {b k : Nat} {wr : World} (h : TT w KA TA g l b T k wr) (hg : g < b) (hb : w.heap.size + 4 ≤ b) (hT : T.length = 16) (hk : k < 16) :
    TT w KA TA g l b T (k + 1) (wr.setCell ⟨b, k, none⟩ (B8 (T.getD k 0))) := by
  obtain ⟨h1, h2, h3⟩ := h
  refine ⟨h1.below ((Below.refl b wr).setCell (p := ⟨b, k, none⟩) (Nat.le_refl _) _) hg hb, ?_, by simpa using h3⟩
  rw [← bpart_set 16 T k hT hk]; exact heap_setCell_same _ b k _ 86 _ h2
def SS (w : World) (KA TA : Array Value) (g b : Nat) (ML KL : List Value) (o : Nat) (wr : World) : Prop :=
  wr.rangeAt b 0 ML ∧ wr.rangeAt w.heap.size o KL ∧ (∃ l : List UInt8, l.length = 16 ∧ EN w KA TA g l wr) ∧ b < wr.heap.size ∧ g < wr.heap.size
theorem SS.below {w : World} {KA TA : Array Value} {g b o : Nat} {ML KL : List Value} {x y : World} (h : SS w KA TA g b ML KL o x) (hg : w.heap.size + 4 ≤ g) (hb : Below x.heap.size x y) : SS w KA TA g b ML KL o y := by
  obtain ⟨h1, h2, ⟨l, hl, h3⟩, h4, h5⟩ := h
  have := hb.size
  exact ⟨rangeAt_below h1 hb, rangeAt_below h2 hb, ⟨l, hl, h3.below hb h5 (by omega)⟩, by omega, by omega⟩
theorem SS.set {w : World} {KA TA : Array Value} {g b o : Nat} {ML KL : List Value} {x : World} (h : SS w KA TA g b ML KL o x) (hg : w.heap.size + 4 ≤ g) (hgb : g < b) (N : Array Value) (l' : List UInt8) (hl' : l'.length = 16) (hN : N = (l'.map B8).toArray) : SS w KA TA g b ML KL o (x.setRow g N) := by
  obtain ⟨h1, h2, ⟨l, hl, h3⟩, h4, h5⟩ := h
  exact ⟨rangeAt_setRow h1 (by omega), rangeAt_setRow h2 (by omega), ⟨l', hl', h3.set hg N hN⟩, by simpa using h4, by simpa using h5⟩
theorem SS.of {w : World} {ks : List UInt8} {TA : Array Value} {g b q : Nat} {l M : List UInt8} {x : World} (h : EN w (ks.map B8).toArray TA g l x) (hl : l.length = 16) (hm : x.heap[b]? = some (.cells (M.map B8).toArray 86 (0, 0))) : SS w (ks.map B8).toArray TA g b (M.map B8) ((keyA ks q).map B8) (q * 16) x.drew := by
  refine ⟨rangeAt_row (by rw [heap_drew]; exact hm), ?_, ⟨l, hl, h.drew⟩, by rw [heap_drew]; exact row_lt hm, by rw [heap_drew]; exact row_lt h.2.2.2.1⟩
  rw [Nat.mul_comm]; exact keyA_range q h.drew.1
theorem encR_step (ks t s : List UInt8) (q : Nat) (h : 1 ≤ q) : encR ks t s q = rndA ks t (encR ks t s (q - 1)) q := by
  cases q with
  | zero => omega
  | succ n => rfl


set_option maxHeartbeats 20000000 in
set_option maxRecDepth 100000 in
theorem encipher_any (ks s t : List UInt8) (w : World) (hk : ks.length = 176) (hs : s.length = 16) (ht : t.length = 256) :
    Calls Tryz.prog 61 #[.agg (ks.map B8).toArray, .agg (s.map B8).toArray, .agg (t.map B8).toArray] w fun e w' => e = .returned (.agg ((encA ks t s).map B8).toArray) ∧ Below w.heap.size w w' := by
  have HK0 : Hid _ := fun i hi => keyA_len ks i hk hi
  have hx0 := fun W => xor_any s (keyA ks 0) W hs (HK0.out 0 (by omega))
  have HKR : Hid (∀ (W : World) (b i : Nat), W.heap[b]? = some (.cells (ks.map B8).toArray 111 (0, 0)) → W.rangeAt b (16 * i) ((keyA ks i).map B8)) := fun W b i h => keyA_range i h
  have HKI : Hid (∀ i, i < 11 → (Tryz.prog.info? 86).map (·.size) = some ((keyA ks i).map B8).length) := fun i hi => by rw [List.length_map, HK0.out i hi]; kernel_rfl
  have HI16 : Hid (∀ l : List UInt8, l.length = 16 → (Tryz.prog.info? 86).map (·.size) = some (l.map B8).toArray.size) := fun l hl => by simp only [List.size_toArray, List.length_map, hl]; kernel_rfl
  have HEL : Hid _ := fun n hn => encR_len ks t s n hk hs hn
  have hE0 : xrA s (keyA ks 0) = encR ks t s 0 := rfl
  rw [hE0] at hx0
  have HSL : Hid _ := hs
  have HTL : Hid _ := ht
  obtain ⟨KA, hKA⟩ : ∃ KA, KA = (ks.map B8).toArray := ⟨_, rfl⟩
  obtain ⟨SA, hSA⟩ : ∃ SA, SA = (s.map B8).toArray := ⟨_, rfl⟩
  obtain ⟨TA, hTA⟩ : ∃ TA, TA = (t.map B8).toArray := ⟨_, rfl⟩
  have HIS : Hid ((Tryz.prog.info? 86).map (·.size) = some SA.size) := by show _ = _; rw [hSA]; exact HI16.out s hs
  rw [← hKA, ← hSA, ← hTA]
  rw [← hKA] at HKR
  rw [← hSA] at hx0
  have HKA : Hid _ := hKA
  have HSA : Hid _ := hSA
  have HTA : Hid _ := hTA
  obtain ⟨K0, hK0⟩ : ∃ K0, K0 = (keyA ks 0).map B8 := ⟨_, rfl⟩
  have HK0E : Hid _ := hK0
  rw [← hK0] at hx0
  clear hKA hSA hTA hE0 hs ht hk hK0
  have hzv := fun W => zero16 W
  obtain ⟨ZA, hZA⟩ : ∃ ZA, ZA = ((List.replicate 16 (0 : UInt8)).map B8).toArray := ⟨_, rfl⟩
  rw [← hZA] at hzv
  have HZA : Hid _ := hZA
  have HZS : Hid (ZA.size = 16) := by show _ = _; rw [hZA]; simp
  clear hZA
  go_enter Tryz.func61, Tryz.ntmps61
  go_wp2_with (first
    | (refine wpList_load_row rfl 86 _ rfl (w.heap.size + 1) rfl 86 SA (0, 0) _ (by repeat (first | exact heap_at _ _ _ (by simp) | rw [Below.heap_alloc _ _ _ (by first | (simp; omega) | simp)])) Tryz.underlying86 rfl HIS.out ?_)
    | (refine wpList_load_mid rfl 86 _ rfl w.heap.size 0 rfl K0 _ (by rw [HK0E.out]; exact HKR.out _ w.heap.size 0 (by repeat (first | exact heap_at _ _ _ (by simp) | rw [Below.heap_alloc _ _ _ (by first | (simp; omega) | simp)]))) Tryz.underlying86 rfl (by rw [HK0E.out]; exact HKI.out 0 (by omega)) ?_))
  refine (hx0 _).mono ?_
  rintro e w1 ⟨rfl, hb1⟩
  have g0 := below_blk hb1 (i := w.heap.size) (by first | (simp; omega) | simp) (show _ = some (.cells KA 111 (0, 0)) by repeat (first | exact heap_at _ _ _ (by simp) | rw [Below.heap_alloc _ _ _ (by first | (simp; omega) | simp)]))
  have g2 := below_blk hb1 (i := w.heap.size + 1 + 1) (by first | (simp; omega) | simp) (show _ = some (.cells TA 109 (0, 0)) by repeat (first | exact heap_at _ _ _ (by simp) | rw [Below.heap_alloc _ _ _ (by first | (simp; omega) | simp)]))
  have g3 := below_blk hb1 (i := w.heap.size + 1 + 1 + 1) (by first | (simp; omega) | simp) (heap_at _ _ _ (by simp))
  have hbw1 : Below w.heap.size w w1 := (((((Below.refl _ _).alloc (Nat.le_refl _) _).alloc (by simp) _).alloc (by simp; omega) _).alloc (by simp; omega) _).trans (hb1.mono (by simp; omega))
  have hs1 : w.heap.size + 4 ≤ w1.heap.size := by have := hb1.size; simp at this; omega
  have G0 : Hid _ := g0
  have G2 : Hid _ := g2
  have G3 : Hid _ := g3
  have HBW1 : Hid _ := hbw1
  clear g0 g2 g3 hb1 hx0 hbw1
  have HE0 : Hid _ := HEL.out 0 (by omega)
  obtain ⟨E0, hE0⟩ : ∃ E0, E0 = ((encR ks t s 0).map B8).toArray := ⟨_, rfl⟩
  have HIE : Hid ((Tryz.prog.info? 86).map (·.size) = some E0.size) := by show _ = _; rw [hE0]; exact HI16.out _ HE0.out
  have HE1 : Hid (E0.all (·.oneCell') = true) := by show _ = _; rw [hE0]; exact B8_onea _
  have HES : Hid (E0.size = 16) := by show _ = _; rw [hE0]; simp [HE0.out]
  rw [← hE0]
  have HE : Hid _ := hE0
  clear hE0
  go_wp2_with (first
    | (refine wpList_store_row rfl 86 _ _ rfl w1.heap.size E0 rfl rfl 86 _ (heap_at _ _ _ rfl) HIE.out (by rw [HES.out]; exact HZS.out) HE1.out ?_))
  go_loopw [8] (fun i wr => ∃ q : Nat, 1 ≤ q ∧ q ≤ 11 ∧ i = .int .i64 q ∧ EN w KA TA w1.heap.size (encR ks t s (q - 1)) wr ∧ w1.heap.size + 1 ≤ wr.heap.size) (fun i _ => 11 - (intOf i).toNat)
  case atStart => exact ⟨1, by omega, by omega, rfl, EN.start G0.out G2.out G3.out HZS.out HBW1.out hs1 E0 _ HE.out, by simp⟩
  case round =>
    obtain ⟨q, hq1, hq11, rfl, hEN, hsz⟩ := hrel
    clear G0 G2 G3 HBW1 HE0 HIE HE1 HES HE
    obtain ⟨w2, hw2⟩ : ∃ w2, w2 = wr := ⟨_, rfl⟩
    subst hw2
    have hLL : (encR ks t s (q - 1)).length = 16 := HEL.out (q - 1) (by omega)
    have HENC : Hid _ := encR_step ks t s q hq1
    by_cases hlt : q ≤ 10
    · have hqI : (q : Int) ≤ 10 := by omega
      obtain ⟨l, hl⟩ : ∃ l, l = encR ks t s (q - 1) := ⟨_, rfl⟩
      rw [← hl] at hEN hLL HENC
      obtain ⟨T, hT⟩ : ∃ T, T = stA t l := ⟨_, rfl⟩
      have HTL16 : Hid (T.length = 16) := by show _ = _; rw [hT]; exact stA_len _ _
      have HTG : Hid (∀ c r, c < 4 → r < 4 → T.getD (4 * c + r) 0 = t.getD (l.getD (4 * ((c + r) % 4) + r) 0).toNat 0) := fun c r hc hr => by rw [hT]; exact stA_get t l c r hc hr
      have HTE : Hid _ := hT
      have HLL : Hid _ := hLL
      have HTT : Hid (TT w KA TA w1.heap.size l w2.heap.size T 0 (w2.alloc (.cells ZA 86 (0, 0)))) := TT.start hEN (by omega) (by omega) ZA HZA.out
      clear hEN hT hl hLL
      go_wp2
      go_loopw [10] (fun i wr => ∃ c : Nat, c ≤ 4 ∧ i = .int .i64 c ∧ TT w KA TA w1.heap.size l w2.heap.size T (4 * c) wr) (fun i _ => 4 - (intOf i).toNat)
      case atStart => exact ⟨0, by omega, rfl, HTT.out⟩
      case round =>
        clear HTT
        obtain ⟨c, hc, rfl, hM⟩ := hrel
        by_cases hlc : c < 4
        · have hcI : (c : Int) < 4 := by omega
          have HM0 : Hid (TT w KA TA w1.heap.size l w2.heap.size T (4 * c) wr) := hM
          clear hM
          go_wp2
          go_loopw [11] (fun i wr => ∃ r : Nat, r ≤ 4 ∧ i = .int .i64 r ∧ TT w KA TA w1.heap.size l w2.heap.size T (4 * c + r) wr) (fun i _ => 4 - (intOf i).toNat)
          case atStart => exact ⟨0, by omega, rfl, HM0.out⟩
          case round =>
            clear HM0
            obtain ⟨r, hr, rfl, hM⟩ := hrel
            by_cases hlr : r < 4
            · have hrI : (r : Int) < 4 := by omega
              have HS : Hid (TT w KA TA w1.heap.size l w2.heap.size T (4 * c + r + 1) (wr.setCell ⟨w2.heap.size, 4 * c + r, none⟩ (.int .u8 (((T.getD (4 * c + r) 0).toNat : Nat) : Int)))) := TT.set hM (by omega) (by omega) HTL16.out (by omega)
              obtain ⟨⟨h1, h2, h3, h4, h5⟩, h6, h7⟩ := hM
              have hm4 : (c + r) % 4 < 4 := by omega
              have g1 := cell_of_row _ _ (4 * ((c + r) % 4) + r) _ _ _ h4
              rw [row_get l 16 HLL.out _ (by omega)] at g1
              have g2 := cell_of_row _ _ (l.getD (4 * ((c + r) % 4) + r) 0).toNat _ _ _ h2
              have hxl := (l.getD (4 * ((c + r) % 4) + r) 0).toNat_lt
              rw [HTA.out, row_get t 256 HTL.out _ (by omega)] at g2
              obtain ⟨u, hu⟩ := bpart_cell' 16 T (4 * c + r) HTL16.out (by omega)
              have g4 := cell_of_row _ _ (4 * c + r) _ _ _ h6
              rw [hu] at g4
              have g5 := frozen_of_row _ _ (4 * c + r) _ _ h6
              rw [HTG.out c r hlc hlr] at HS
              have q0 : IntKind.i64.wrap (4 * (c : Int)) = 4 * (c : Int) := wrap_i64_7 _ (by omega) (by omega)
              have q1 : IntKind.i64.wrap (4 * (c : Int) + r) = 4 * (c : Int) + r := wrap_i64_7 _ (by omega) (by omega)
              have q2 : IntKind.i64.wrap ((c : Int) + r) = (c : Int) + r := wrap_i64_7 _ (by omega) (by omega)
              have q5 : Int.tmod ((c : Int) + r) 4 = (((c + r) % 4 : Nat) : Int) := by
                rw [Int.tmod_eq_emod_of_nonneg (by omega)]; omega
              generalize (c + r) % 4 = m at *
              have q3 : IntKind.i64.wrap (4 * (m : Int)) = 4 * (m : Int) := wrap_i64_7 _ (by omega) (by omega)
              have q4 : IntKind.i64.wrap (4 * (m : Int) + r) = 4 * (m : Int) + r := wrap_i64_7 _ (by omega) (by omega)
              have t1 : (4 * (c : Int) + r).toNat = 4 * c + r := by omega
              have t2 : (4 * (m : Int) + r).toNat = 4 * m + r := by omega
              have l1 : (0 : Int) ≤ 4 * (c : Int) + r ∧ 4 * (c : Int) + r < 16 := by omega
              have l2 : (0 : Int) ≤ 4 * (m : Int) + r ∧ 4 * (m : Int) + r < 16 := by omega
              generalize l.getD (4 * m + r) 0 = x at *
              have l3 : (x.toNat : Int) < 256 := by omega
              generalize t.getD x.toNat 0 = y at *
              clear h1 h2 h3 h4 h5 h6 h7 hu
              go_wp2
              go_roundw
              case rel => exact ⟨r + 1, by omega, by go_num, HS.out⟩
              case measure => simp [intOf]; omega
            · have hr4 : r = 4 := by omega
              have hrI : ¬ (r : Int) < 4 := by omega
              have HM1 : Hid (TT w KA TA w1.heap.size l w2.heap.size T (4 * (c + 1)) wr) := by
                show TT _ _ _ _ _ _ _ _ _
                rw [hr4] at hM
                exact hM
              clear hM hr4
              go_wp2
              go_roundw
              case rel => exact ⟨c + 1, by omega, by go_num, HM1.out⟩
              case measure => simp [intOf]; omega
        · have hc4 : c = 4 := by omega
          have hcI : ¬ (c : Int) < 4 := by omega
          rw [hc4] at hM
          obtain ⟨hEN, hb2, hsz2⟩ := hM
          rw [show 4 * 4 = 16 from rfl, bpart_all 16 T HTL16.out] at hb2
          by_cases hq9 : q < 10
          · have hqJ : (q : Int) < 10 := by omega
            obtain ⟨M, hM⟩ : ∃ M, M = mxA T [2, 3, 1, 1] := ⟨_, rfl⟩
            have hMl : M.length = 16 := by rw [hM]; exact mxA_len _ _
            have hmx : ∀ W, Calls Tryz.prog 80 #[.agg (T.map B8).toArray, .agg #[.int .u8 2, .int .u8 3, .int .u8 1, .int .u8 1]] W fun e w' => e = .returned (.agg (M.map B8).toArray) ∧ Below W.heap.size W w' := fun W => by rw [hM]; exact mixed_any T [2, 3, 1, 1] W HTL16.out rfl
            have hnx : encR ks t s q = xrA M (keyA ks q) := by rw [HENC.out]; unfold rndA; rw [if_pos hq9, ← HTE.out, ← hM]
            obtain ⟨MA, hMA⟩ : ∃ MA, MA = (M.map B8).toArray := ⟨_, rfl⟩
            obtain ⟨TR, hTR⟩ : ∃ TR, TR = (T.map B8).toArray := ⟨_, rfl⟩
            have HITR : Hid ((Tryz.prog.info? 86).map (·.size) = some TR.size) := by show _ = _; rw [hTR]; exact HI16.out _ HTL16.out
            have HIMA : Hid ((Tryz.prog.info? 86).map (·.size) = some MA.size) := by show _ = _; rw [hMA]; exact HI16.out _ hMl
            have HMA1 : Hid (MA.all (·.oneCell') = true) := by show _ = _; rw [hMA]; exact B8_onea _
            have HSZ : Hid (TR.size = MA.size) := by show _ = _; rw [hTR, hMA]; simp [HTL16.out, hMl]
            rw [← hMA, ← hTR] at hmx
            rw [← hTR] at hb2
            have HB2 : Hid _ := hb2
            have HNX : Hid _ := hnx
            have HMAE : Hid _ := hMA
            have HENE : Hid (EN w KA TA w1.heap.size l wr) := hEN
            clear hb2 hnx hMA hTR hM hEN hc4
            go_wp2_with (first
              | (refine wpList_load_row rfl 86 _ rfl w2.heap.size rfl 86 TR (0, 0) _ HB2.out Tryz.underlying86 rfl HITR.out ?_))
            refine (hmx _).mono ?_
            rintro e w3 ⟨rfl, hb3⟩
            have hb2' := (hb3.block w2.heap.size (by omega)).trans HB2.out
            have hEN3 : EN w KA TA w1.heap.size l w3 := HENE.out.below hb3 (by omega) (by omega)
            have hrow3 : (w3.setRow w2.heap.size MA).heap[w2.heap.size]? = some (.cells (M.map B8).toArray 86 (0, 0)) := by rw [← HMAE.out]; exact setRow_heap _ _ _ _ _ _ hb2'
            have hENr : EN w KA TA w1.heap.size l (w3.setRow w2.heap.size MA) := hEN3.below (below_setRow (Below.refl w2.heap.size w3) (Nat.le_refl _) MA) (by omega) (by omega)
            have HB2' : Hid _ := hb2'
            have HFF : Hid (EN w KA TA w1.heap.size l (w3.setRow w2.heap.size MA) ∧ (w3.setRow w2.heap.size MA).heap[w2.heap.size]? = some (.cells (M.map B8).toArray 86 (0, 0))) := ⟨hENr, hrow3⟩
            clear hb3 hb2' hEN3 hrow3 hENr hmx
            go_wp2_with (first
              | (refine wpList_store_row rfl 86 _ _ rfl w2.heap.size MA rfl rfl 86 _ HB2'.out HIMA.out HSZ.out HMA1.out ?_))
            obtain ⟨ML, hML⟩ : ∃ ML, ML = List.map B8 M := ⟨_, rfl⟩
            obtain ⟨KL, hKL⟩ : ∃ KL, KL = (keyA ks q).map B8 := ⟨_, rfl⟩
            obtain ⟨NA, hNA⟩ : ∃ NA, NA = ((encR ks t s q).map B8).toArray := ⟨_, rfl⟩
            have hNl := HEL.out q (by omega)
            have hx := fun W => xor_any M (keyA ks q) W hMl (HK0.out q (by omega))
            rw [← HNX.out, ← hNA, ← hML, ← hKL] at hx
            have hiM : (Tryz.prog.info? 86).map (·.size) = some ML.length := by rw [hML, List.length_map, hMl]; kernel_rfl
            have hiK : (Tryz.prog.info? 86).map (·.size) = some KL.length := by rw [hKL]; exact HKI.out q (by omega)
            have hiN : (Tryz.prog.info? 86).map (·.size) = some NA.size := by rw [hNA]; exact HI16.out _ hNl
            have hN1 : NA.all (·.oneCell') = true := by rw [hNA]; exact B8_onea _
            have hN8 : NA.size = 16 := by rw [hNA]; simp [hNl]
            have hu := Tryz.underlying86
            have HSS : Hid (SS w KA TA w1.heap.size w2.heap.size ML KL (q * 16) (World.drew (w3.setRow w2.heap.size MA))) := by
              have := SS.of (q := q) (w := w) (ks := ks) (TA := TA) (g := w1.heap.size) (b := w2.heap.size) (l := l) (M := M) (x := w3.setRow w2.heap.size MA) (by rw [← HKA.out]; exact (HFF.out).1) HLL.out (HFF.out).2
              rw [← HKA.out, ← hML, ← hKL] at this
              exact this
            have HNA : Hid _ := hNA
            have HNL : Hid _ := hNl
            have HIN : Hid _ := hiN
            have HN1 : Hid _ := hN1
            have HN8 : Hid _ := hN8
            clear hML hKL hNA hNl hiN hN1 hN8
            go_wp2
            refine wp_region_held_drew (S := SS w KA TA w1.heap.size w2.heap.size ML KL (q * 16)) (by kernel_rfl) HSS.out (fun hHeld => ?_)
            refine wpAnyH_take (i := 0) (oi := ⟨some 49, .load 86 (.tmp 9), 86, _, #[], none⟩) rfl (by kernel_rfl) (by kernel_rfl) (by kernel_rfl) (fun _ _ _ h => h) (yieldsIf_load_mid (by rfl) 86 (.tmp 9) rfl (w2.heap.size) (0) rfl (ML) _ (fun _ h => h.1) hu rfl hiM) hHeld ?_
            try simp only [Act.put, qT, q0, qS]
            refine wpAnyH_take (i := 1) (oi := ⟨some 50, .move (.tmp 8), 3, _, #[], none⟩) (v := .int .i64 (q : Int)) rfl (by kernel_rfl) (by kernel_rfl) (by kernel_rfl) (fun _ _ _ h => h) (Or.inl ⟨by rfl, fun w' hw' => ?_⟩) hHeld ?_
            · first | (go_simp; done) | (go_simp; rfl)
            try simp only [Act.put, qT, q0, qS]
            refine wpAnyH_take (i := 2) (oi := ⟨some 51, .indexAddr 111 (.tmp 3) (.tmp 50), 0, _, #[⟨1, .data⟩], none⟩) (v := .pointer (some ⟨w.heap.size, q * 16, none⟩)) rfl (by kernel_rfl) (by kernel_rfl) (by kernel_rfl) (fun _ _ _ h => h) (Or.inl ⟨by rfl, fun w' hw' => ?_⟩) hHeld ?_
            · (go_simp; intro hbad; omega)
            try simp only [Act.put, qT, q0, qS]
            refine wpAnyH_take (i := 3) (oi := ⟨some 52, .load 86 (.tmp 51), 86, _, #[⟨2, .data⟩], none⟩) rfl (by kernel_rfl) (by kernel_rfl) (by kernel_rfl) (fun _ _ _ h => h) (yieldsIf_load_mid (by rfl) 86 (.tmp 51) rfl (w.heap.size) (q * 16) rfl (KL) _ (fun _ h => h.2.1) hu rfl hiK) hHeld ?_
            try simp only [Act.put, qT, q0, qS]
            refine wpAnyH_ready (rs := [4]) (by kernel_rfl) (by simp) ?_
            refine AllReadyH.cons (o := { dst := some 53, op := .call { callee := Go.Callee.value (.func 79), args := #[.tmp 49, .tmp 52], argTypes := #[86, 86] }, type := 86, pos := _, after := #[⟨0, .data⟩, ⟨3, .data⟩], guard := none }) rfl (fun K hK => ?_) AllReadyH.nil
            rw [if_pos (by rfl)]
            go_wp2_with fail
            refine (hx _).mono ?_
            rintro e w4 ⟨rfl, hb4⟩
            have hHeld4 := SS.below hHeld hs1 hb4
            clear hb4
            refine hK.out _ _ hHeld4 (fun _ => ?_)
            clear hK K
            try simp only [Act.put, qT, q0, qS]
            refine wpAnyH_ready (rs := [5]) (by kernel_rfl) (by simp) ?_
            refine AllReadyH.cons (o := ⟨none, .store 86 (.tmp 7) (.tmp 53), 0, _, #[⟨4, .data⟩, ⟨4, .chain⟩, ⟨0, .phase⟩, ⟨1, .phase⟩, ⟨2, .phase⟩, ⟨3, .phase⟩, ⟨4, .phase⟩], none⟩) rfl (fun K hK => ?_) AllReadyH.nil
            rw [if_pos (by rfl)]
            obtain ⟨lx, hlx, hEx⟩ := hHeld4.2.2.1
            refine wp_store_row 86 _ _ rfl w1.heap.size NA rfl rfl 86 _ hEx.2.2.2.1 HIN.out (by rw [HN8.out]; simp [hlx]) HN1.out ?_
            refine hK.out _ _ (SS.set hHeld4 hs1 (by omega) NA _ HNL.out HNA.out) (fun _ => ?_)
            clear hK K
            try simp only [Act.put, qT, q0, qS]
            refine wpAnyH_done (by kernel_rfl) ?_ _
            have HFIN : Hid (EN w KA TA w1.heap.size (encR ks t s q) (w4.setRow w1.heap.size NA)) := EN.set hEx hs1 NA HNA.out
            have hsz4 : w1.heap.size + 1 ≤ w4.heap.size := hHeld4.2.2.2.2
            clear hHeld hHeld4 hEx hlx
            go_wp2
            go_roundw
            case rel => exact ⟨q + 1, by omega, by omega, by go_num, by rw [Nat.add_sub_cancel]; exact HFIN.out, by simpa using hsz4⟩
            case measure => simp [intOf]; omega
          · have hqJ : ¬ (q : Int) < 10 := by omega
            have hnx : encR ks t s q = xrA T (keyA ks q) := by rw [HENC.out]; unfold rndA; rw [if_neg hq9, ← HTE.out]
            have HNX : Hid _ := hnx
            have HFF : Hid (EN w KA TA w1.heap.size l wr ∧ wr.heap[w2.heap.size]? = some (.cells (T.map B8).toArray 86 (0, 0))) := ⟨hEN, hb2⟩
            clear hEN hb2 hnx hc4
            obtain ⟨ML, hML⟩ : ∃ ML, ML = List.map B8 T := ⟨_, rfl⟩
            obtain ⟨KL, hKL⟩ : ∃ KL, KL = (keyA ks q).map B8 := ⟨_, rfl⟩
            obtain ⟨NA, hNA⟩ : ∃ NA, NA = ((encR ks t s q).map B8).toArray := ⟨_, rfl⟩
            have hNl := HEL.out q (by omega)
            have hx := fun W => xor_any T (keyA ks q) W HTL16.out (HK0.out q (by omega))
            rw [← HNX.out, ← hNA, ← hML, ← hKL] at hx
            have hiM : (Tryz.prog.info? 86).map (·.size) = some ML.length := by rw [hML, List.length_map, HTL16.out]; kernel_rfl
            have hiK : (Tryz.prog.info? 86).map (·.size) = some KL.length := by rw [hKL]; exact HKI.out q (by omega)
            have hiN : (Tryz.prog.info? 86).map (·.size) = some NA.size := by rw [hNA]; exact HI16.out _ hNl
            have hN1 : NA.all (·.oneCell') = true := by rw [hNA]; exact B8_onea _
            have hN8 : NA.size = 16 := by rw [hNA]; simp [hNl]
            have hu := Tryz.underlying86
            have HSS : Hid (SS w KA TA w1.heap.size w2.heap.size ML KL (q * 16) (World.drew (wr))) := by
              have := SS.of (q := q) (w := w) (ks := ks) (TA := TA) (g := w1.heap.size) (b := w2.heap.size) (l := l) (M := T) (x := wr) (by rw [← HKA.out]; exact (HFF.out).1) HLL.out (HFF.out).2
              rw [← HKA.out, ← hML, ← hKL] at this
              exact this
            have HNA : Hid _ := hNA
            have HNL : Hid _ := hNl
            have HIN : Hid _ := hiN
            have HN1 : Hid _ := hN1
            have HN8 : Hid _ := hN8
            clear hML hKL hNA hNl hiN hN1 hN8
            go_wp2
            refine wp_region_held_drew (S := SS w KA TA w1.heap.size w2.heap.size ML KL (q * 16)) (by kernel_rfl) HSS.out (fun hHeld => ?_)
            refine wpAnyH_take (i := 0) (oi := ⟨some 49, .load 86 (.tmp 9), 86, _, #[], none⟩) rfl (by kernel_rfl) (by kernel_rfl) (by kernel_rfl) (fun _ _ _ h => h) (yieldsIf_load_mid (by rfl) 86 (.tmp 9) rfl (w2.heap.size) (0) rfl (ML) _ (fun _ h => h.1) hu rfl hiM) hHeld ?_
            try simp only [Act.put, qT, q0, qS]
            refine wpAnyH_take (i := 1) (oi := ⟨some 50, .move (.tmp 8), 3, _, #[], none⟩) (v := .int .i64 (q : Int)) rfl (by kernel_rfl) (by kernel_rfl) (by kernel_rfl) (fun _ _ _ h => h) (Or.inl ⟨by rfl, fun w' hw' => ?_⟩) hHeld ?_
            · first | (go_simp; done) | (go_simp; rfl)
            try simp only [Act.put, qT, q0, qS]
            refine wpAnyH_take (i := 2) (oi := ⟨some 51, .indexAddr 111 (.tmp 3) (.tmp 50), 0, _, #[⟨1, .data⟩], none⟩) (v := .pointer (some ⟨w.heap.size, q * 16, none⟩)) rfl (by kernel_rfl) (by kernel_rfl) (by kernel_rfl) (fun _ _ _ h => h) (Or.inl ⟨by rfl, fun w' hw' => ?_⟩) hHeld ?_
            · (go_simp; intro hbad; omega)
            try simp only [Act.put, qT, q0, qS]
            refine wpAnyH_take (i := 3) (oi := ⟨some 52, .load 86 (.tmp 51), 86, _, #[⟨2, .data⟩], none⟩) rfl (by kernel_rfl) (by kernel_rfl) (by kernel_rfl) (fun _ _ _ h => h) (yieldsIf_load_mid (by rfl) 86 (.tmp 51) rfl (w.heap.size) (q * 16) rfl (KL) _ (fun _ h => h.2.1) hu rfl hiK) hHeld ?_
            try simp only [Act.put, qT, q0, qS]
            refine wpAnyH_ready (rs := [4]) (by kernel_rfl) (by simp) ?_
            refine AllReadyH.cons (o := { dst := some 53, op := .call { callee := Go.Callee.value (.func 79), args := #[.tmp 49, .tmp 52], argTypes := #[86, 86] }, type := 86, pos := _, after := #[⟨0, .data⟩, ⟨3, .data⟩], guard := none }) rfl (fun K hK => ?_) AllReadyH.nil
            rw [if_pos (by rfl)]
            go_wp2_with fail
            refine (hx _).mono ?_
            rintro e w4 ⟨rfl, hb4⟩
            have hHeld4 := SS.below hHeld hs1 hb4
            clear hb4
            refine hK.out _ _ hHeld4 (fun _ => ?_)
            clear hK K
            try simp only [Act.put, qT, q0, qS]
            refine wpAnyH_ready (rs := [5]) (by kernel_rfl) (by simp) ?_
            refine AllReadyH.cons (o := ⟨none, .store 86 (.tmp 7) (.tmp 53), 0, _, #[⟨4, .data⟩, ⟨4, .chain⟩, ⟨0, .phase⟩, ⟨1, .phase⟩, ⟨2, .phase⟩, ⟨3, .phase⟩, ⟨4, .phase⟩], none⟩) rfl (fun K hK => ?_) AllReadyH.nil
            rw [if_pos (by rfl)]
            obtain ⟨lx, hlx, hEx⟩ := hHeld4.2.2.1
            refine wp_store_row 86 _ _ rfl w1.heap.size NA rfl rfl 86 _ hEx.2.2.2.1 HIN.out (by rw [HN8.out]; simp [hlx]) HN1.out ?_
            refine hK.out _ _ (SS.set hHeld4 hs1 (by omega) NA _ HNL.out HNA.out) (fun _ => ?_)
            clear hK K
            try simp only [Act.put, qT, q0, qS]
            refine wpAnyH_done (by kernel_rfl) ?_ _
            have HFIN : Hid (EN w KA TA w1.heap.size (encR ks t s q) (w4.setRow w1.heap.size NA)) := EN.set hEx hs1 NA HNA.out
            have hsz4 : w1.heap.size + 1 ≤ w4.heap.size := hHeld4.2.2.2.2
            clear hHeld hHeld4 hEx hlx
            go_wp2
            go_roundw
            case rel => exact ⟨q + 1, by omega, by omega, by go_num, by rw [Nat.add_sub_cancel]; exact HFIN.out, by simpa using hsz4⟩
            case measure => simp [intOf]; omega
    · have hq11' : q - 1 = 10 := by omega
      have hqI : ¬ (q : Int) ≤ 10 := by omega
      rw [hq11'] at hEN hLL
      obtain ⟨h1, h2, ⟨Z, hZ, h3⟩, h4, h5⟩ := hEN
      obtain ⟨RS, hRS⟩ : ∃ RS, RS = ((encA ks t s).map B8).toArray := ⟨_, rfl⟩
      have hRS' : RS = ((encR ks t s 10).map B8).toArray := hRS
      have hr8 : RS.size = 16 := by rw [hRS']; simp [hLL]
      have hri : (Tryz.prog.info? 86).map (·.size) = some RS.size := by rw [hr8]; kernel_rfl
      have hr1 : RS.all (·.oneCell') = true := by rw [hRS']; exact B8_onea _
      rw [← hRS'] at h4
      have HT' : Hid _ := h4
      have HR : Hid _ := h3
      have HRS : Hid _ := hRS
      have HRI : Hid _ := hri
      have HR1 : Hid _ := hr1
      have HR8 : Hid _ := hZ.trans hr8.symm
      clear h1 h2 h3 h4 hri hr1 hr8 hRS hRS' hZ hq11' hLL HENC
      go_wp2_with (first
        | (refine wpList_load_row rfl 86 _ rfl w1.heap.size rfl 86 _ (0, 0) _ HT'.out Tryz.underlying86 rfl HRI.out ?_)
        | (refine wpList_store_row rfl 86 _ _ rfl (w.heap.size + 1 + 1 + 1) _ rfl rfl 86 _ HR.out HRI.out HR8.out HR1.out ?_))
      refine bodyPost_ret (v := .agg RS) ?_ rfl ⟨by rw [HRS.out], below_setRow h5 (by omega) _⟩
      exact results_cell_row Tryz.results61 _ _ (w.heap.size + 1 + 1 + 1) 86 _ (0, 0) _ rfl (setRow_heap _ _ _ _ _ _ HR.out) Tryz.underlying86 rfl HRI.out

end Go.Proofs.YtbmmibmfjhehhaaGreat.AE
