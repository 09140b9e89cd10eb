/- Contracts of sha's rotations, of the closures that they make, and of word. -/
import Derived.Test.YtefhjjjjbkkedaaS2
import Derived.Test.YtefhjjjjbkkedaaL3
set_option linter.unusedVariables false
set_option linter.unusedSimpArgs false
namespace Go.Proofs.Ytefhjjjjbkkedaa
open Go.RowKit

theorem nat_or_comm (a b : Nat) : a ||| b = b ||| a := Nat.or_comm a b
theorem U_rotl (x : UInt32) (n : Nat) (h1 : 1 ≤ n) (h2 : n ≤ 31) : bits .or .u32 (IntKind.u32.wrap (U x * 2 ^ (32 - n))) (U x / 2 ^ n) = U (rotr x n) := by
  have hx := x.toNat_lt
  have e1 : U x / 2 ^ n = ((x.toNat / 2 ^ n : Nat) : Int) := by unfold U; simp
  have e2 : IntKind.u32.wrap (U x * 2 ^ (32 - n)) = ((x.toNat * 2 ^ (32 - n) % 4294967296 : Nat) : Int) := by rw [IntKind.wrap_u32]; unfold U; simp
  have b1 : x.toNat / 2 ^ n < 4294967296 := Nat.lt_of_le_of_lt (Nat.div_le_self _ _) hx
  have b2 : x.toNat * 2 ^ (32 - n) % 4294967296 < 4294967296 := Nat.mod_lt _ (by decide)
  rw [e1, e2, u32_or_nat _ _ b2 b1, nat_or_comm]
  unfold rotr
  rw [U_ofNat _ (Nat.or_lt_two_pow (n := 32) b1 b2)]

theorem and31 (n : Nat) (h1 : 1 ≤ n) (h2 : n ≤ 31) : bits .and .u64 (IntKind.u64.wrap (-(n : Int))) 31 = ((32 - n : Nat) : Int) := by
  have e : IntKind.u64.wrap (-(n : Int)) = ((18446744073709551616 - n : Nat) : Int) := by rw [IntKind.wrap_u64]; omega
  have h := bits_and_u64_nat (18446744073709551616 - n) 31 (by omega) (by decide)
  have e2 : (18446744073709551616 - n) &&& 31 = (18446744073709551616 - n) % 32 := Nat.and_two_pow_sub_one_eq_mod _ 5
  rw [e2] at h
  rw [e]
  refine h.trans ?_
  congr 1
  omega

set_option maxHeartbeats 1000000 in
theorem rotl_any (x : UInt32) (n : Nat) (h1 : 1 ≤ n) (h2 : n ≤ 31) (w : World) :
    Calls Try.prog 86 #[.int .u32 (U x), .int .i64 (-(n : Int))] w fun e w' => e = .returned (.int .u32 (U (rotr x n))) ∧ w = w' := by
  have ha := and31 n h1 h2
  obtain ⟨m, hm⟩ : ∃ m, m = 32 - n := ⟨_, rfl⟩
  have hmn : n = 32 - m := by omega
  have hr := U_rotl x n h1 h2
  rw [← hm] at ha hr
  have HR : Hid _ := hr
  have HM : Hid _ := hmn
  have hm1 : 1 ≤ m := by omega
  have hm2 : m ≤ 31 := by omega
  clear hr hm hmn
  go_enter Try.func86, Try.ntmps86
  go_wp2
  go_ret
  exact ⟨ret_int (by rw [← HR.out, IntKind.wrap_u32, ← HM.out]), rfl⟩

/-- A word's rotations by these numbers, xored. -/
def xro (x : UInt32) (ns : List Nat) : UInt32 := ns.foldl (fun a n => a ^^^ rotr x n) 0
theorem xro_take (x : UInt32) (ns : List Nat) (k : Nat) (h : k < ns.length) : xro x (ns.take (k + 1)) = xro x (ns.take k) ^^^ rotr x (ns.getD k 0) := by
  unfold xro
  rw [List.take_succ_eq_append_getElem h, List.foldl_append]
  simp [List.getD, List.getElem?_eq_getElem h]

set_option maxHeartbeats 1000000 in
theorem rot_any (x : UInt32) (ns : List Nat) (B g cap : Nat) (w : World) (hl : ns.length ≤ 3) (hn : ∀ i, i < ns.length → 1 ≤ ns.getD i 0 ∧ ns.getD i 0 ≤ 31) (hB : w.cell? ⟨B, 0, none⟩ = some (.slice (some ⟨g, 0, none⟩) ns.length cap))
    (hg : ∀ i, i < ns.length → w.cell? ⟨g, i, none⟩ = some (.int .i64 ((ns.getD i 0 : Nat) : Int))) :
    Calls Try.prog 85 #[.int .u32 (U x), .pointer (some ⟨B, 0, none⟩)] w fun e w' => e = .returned (.int .u32 (U (xro x ns))) ∧ w = w' := by
  have HG : Hid _ := hg
  have HN : Hid _ := hn
  clear hg hn
  go_enter Try.func85, Try.ntmps85
  go_wp2
  go_loop [4, 9] (fun a i => ∃ k : Nat, k ≤ ns.length ∧ i = .int .i64 k ∧ a = .int .u32 (U (xro x (ns.take k)))) (fun _ i => ns.length - (intOf i).toNat)
  case atStart => exact ⟨0, Nat.zero_le _, rfl, rfl⟩
  case round =>
    obtain ⟨k, hk, rfl, rfl⟩ := hrel
    by_cases hlt : k < ns.length
    · have hcx := HG.out k hlt
      have hnk := HN.out k hlt
      have HX : Hid _ := xro_take x ns k hlt
      generalize ns.getD k 0 = n at *
      obtain ⟨h1, h2⟩ := hnk
      have hxo := U_xor (xro x (ns.take k)) (rotr x n)
      go_wp2_with (go_at_call 86; refine (rotl_any x n h1 h2 _).mono ?_; rintro e wx ⟨rfl, rfl⟩)
      go_round
      case rel => exact ⟨k + 1, by omega, by go_num, by rw [HX.out]⟩
      case measure => simp [intOf]; omega
    · have HT : Hid _ := List.take_of_length_le (l := ns) (i := k) (by omega)
      go_wp2
      go_ret
      exact ⟨ret_int (by rw [HT.out]), rfl⟩

set_option maxHeartbeats 400000 in
theorem rotations_any (p : Option Addr) (n cap : Nat) (w : World) : Calls Try.prog 78 #[.slice p n cap] w fun e w' => e = .returned (.func (.func 85) #[] #[.pointer (some ⟨w.heap.size, 0, none⟩)]) ∧ w' = w.alloc (.cells #[.slice p n cap] 76) := by
  go_enter Try.func78, Try.ntmps78
  go_wp2
  go_ret
  exact ⟨rfl, rfl⟩

/-- The number of the first k bytes, the highest first. -/
def pre (f : Nat → UInt8) : Nat → Nat
  | 0 => 0
  | k + 1 => pre f k * 256 + (f k).toNat
theorem pre_lt (f : Nat → UInt8) (k : Nat) : pre f k < 256 ^ k := by
  induction k with
  | zero => show 0 < 1; decide
  | succ k ih => have := (f k).toNat_lt; show pre f k * 256 + _ < 256 ^ k * 256; omega
theorem pre4 (f : Nat → UInt8) : U (wordOf (f 0) (f 1) (f 2) (f 3)) = ((pre f 4 : Nat) : Int) := by
  rw [← U_wordOf]
  show _ = (((((0 * 256 + (f 0).toNat) * 256 + (f 1).toNat) * 256 + (f 2).toNat) * 256 + (f 3).toNat : Nat) : Int)
  omega
theorem or_byte (a : Nat) (x : UInt8) (h : a < 16777216) : bits .or .u32 ((a : Int) * 256) (x.toNat : Int) = ((a * 256 + x.toNat : Nat) : Int) := by
  have hx := x.toNat_lt
  have e : (a : Int) * 256 = ((a * 256 : Nat) : Int) := by omega
  rw [e, u32_or_nat _ _ (by omega) (by omega)]
  congr 1
  have := Nat.two_pow_add_eq_or_of_lt (i := 8) (b := x.toNat) hx a
  rw [Nat.mul_comm a 256]
  exact this.symm

set_option maxHeartbeats 1000000 in
theorem word_any (f : Nat → UInt8) (b o n cap : Nat) (w : World) (hn : 4 ≤ n) (hn2 : n ≤ 64) (hc : ∀ i, i < 4 → w.cell? ⟨b, o + i, none⟩ = some (.int .u8 ((f i).toNat : Int))) :
    Calls Try.prog 84 #[.slice (some ⟨b, o, none⟩) n cap] w fun e w' => e = .returned (.int .u32 (U (wordOf (f 0) (f 1) (f 2) (f 3)))) ∧ w = w' := by
  have HC : Hid _ := hc
  clear hc
  go_enter Try.func84, Try.ntmps84
  go_wp2
  go_loop [3, 5] (fun a i => ∃ k : Nat, k ≤ 4 ∧ i = .int .i64 k ∧ a = .int .u32 ((pre f k : Nat) : Int)) (fun _ i => 4 - (intOf i).toNat)
  case atStart => exact ⟨0, Nat.zero_le _, rfl, rfl⟩
  case round =>
    obtain ⟨k, hk, rfl, rfl⟩ := hrel
    by_cases hlt : k < 4
    · have hcx := HC.out k hlt
      have hb : pre f k < 16777216 := Nat.lt_of_lt_of_le (pre_lt f k) (show 256 ^ k ≤ 256 ^ 3 from Nat.pow_le_pow_right (by decide) (by omega))
      have hor := or_byte (pre f k) (f k) hb
      have hp : pre f (k + 1) = pre f k * 256 + (f k).toNat := rfl
      have HP : Hid _ := hp
      have hfk := (f k).toNat_lt
      clear hp
      generalize pre f k = a at *
      generalize f k = x at *
      go_wp2
      go_round
      case rel => exact ⟨k + 1, by omega, by go_num, by rw [HP.out]; simp⟩
      case measure => simp [intOf]; omega
    · have hk4 : k = 4 := by omega
      subst hk4
      have HP : Hid _ := pre4 f
      generalize pre f 4 = a at *
      go_wp2
      go_ret
      exact ⟨ret_int (by rw [HP.out]), rfl⟩

end Go.Proofs.Ytefhjjjjbkkedaa
