/- The field of bytes: mathematics only. -/
import Derived.Test.YtjohckgdbbhpdaaI7
set_option linter.unusedVariables false
set_option linter.unusedSimpArgs false
namespace Go.Proofs.Ytjohckgdbbhpdaa
open Go.RowKit

theorem bit_xor (x y k : Nat) : (x ^^^ y) / 2 ^ k % 2 = (x / 2 ^ k % 2 + y / 2 ^ k % 2) % 2 := by
  have h := Nat.testBit_xor x y k
  simp only [Nat.testBit_eq_decide_div_mod_eq] at h
  have h1 : x / 2 ^ k % 2 < 2 := Nat.mod_lt _ (by decide)
  have h2 : y / 2 ^ k % 2 < 2 := Nat.mod_lt _ (by decide)
  have h3 : (x ^^^ y) / 2 ^ k % 2 < 2 := Nat.mod_lt _ (by decide)
  generalize x / 2 ^ k % 2 = p at *
  generalize y / 2 ^ k % 2 = q at *
  generalize (x ^^^ y) / 2 ^ k % 2 = r at *
  obtain rfl | rfl : p = 0 ∨ p = 1 := by omega
  all_goals
    obtain rfl | rfl : q = 0 ∨ q = 1 := by omega
    all_goals
      obtain rfl | rfl : r = 0 ∨ r = 1 := by omega
      all_goals first | rfl | (exfalso; revert h; decide)
theorem x8_comm (a b : UInt8) : a ^^^ b = b ^^^ a := UInt8.xor_comm a b
theorem x8_assoc (a b c : UInt8) : a ^^^ b ^^^ c = a ^^^ (b ^^^ c) := UInt8.xor_assoc a b c
theorem x8_self (a : UInt8) : a ^^^ a = 0 := UInt8.xor_self
theorem x8_zero (a : UInt8) : a ^^^ 0 = a := UInt8.xor_zero
theorem x8_mid (a b c d : UInt8) : (a ^^^ b) ^^^ (c ^^^ d) = (a ^^^ c) ^^^ (b ^^^ d) := by
  rw [x8_assoc, x8_assoc, ← x8_assoc b c d, x8_comm b c, x8_assoc c b d]

theorem all8 (p : UInt8 → Prop) (h : ∀ i : Fin 256, p (UInt8.ofNat i.val)) (x : UInt8) : p x := by
  have := h ⟨x.toNat, x.toNat_lt⟩
  simpa using this

theorem xtP_nat (x : UInt8) : (xtP x).toNat = (x.toNat * 2 % 256) ^^^ (x.toNat / 128 * 27) := by
  have hl := x.toNat_lt
  have h2 : x.toNat / 128 * 27 % 256 = x.toNat / 128 * 27 := by omega
  have : (x.toNat * 2 % 256) ^^^ (x.toNat / 128 * 27 % 256) < 2 ^ 8 := Nat.xor_lt_two_pow (by omega) (by omega)
  unfold xtP
  show _ % 256 = _
  rw [h2] at *
  omega
theorem xtP_xor (x y : UInt8) : xtP (x ^^^ y) = xtP x ^^^ xtP y := by
  apply UInt8.toNat_inj.1
  rw [UInt8.toNat_xor, xtP_nat, xtP_nat, xtP_nat, UInt8.toNat_xor]
  have hx := x.toNat_lt
  have hy := y.toNat_lt
  generalize x.toNat = a at *
  generalize y.toNat = b at *
  have e1 : (a ^^^ b) * 2 % 256 = (a * 2 % 256) ^^^ (b * 2 % 256) := by
    have h : (a ^^^ b) <<< 1 = a <<< 1 ^^^ b <<< 1 := Nat.shiftLeft_xor_distrib ..
    simp only [Nat.shiftLeft_eq] at h
    rw [show (2 : Nat) ^ 1 = 2 from rfl] at h
    rw [h, show (256 : Nat) = 2 ^ 8 from rfl, Nat.xor_mod_two_pow]
  have e2 : (a ^^^ b) / 128 * 27 = (a / 128 * 27) ^^^ (b / 128 * 27) := by
    have h : (a ^^^ b) >>> 7 = a >>> 7 ^^^ b >>> 7 := Nat.shiftRight_xor_distrib ..
    simp only [Nat.shiftRight_eq_div_pow] at h
    rw [show (2 : Nat) ^ 7 = 128 from rfl] at h
    rw [h]
    have ha : a / 128 < 2 := by omega
    have hb : b / 128 < 2 := by omega
    generalize a / 128 = p at *
    generalize b / 128 = q at *
    obtain rfl | rfl : p = 0 ∨ p = 1 := by omega
    all_goals
      obtain rfl | rfl : q = 0 ∨ q = 1 := by omega
      all_goals rfl
  rw [e1, e2]
  generalize a * 2 % 256 = c1
  generalize b * 2 % 256 = c2
  generalize a / 128 * 27 = c3
  generalize b / 128 * 27 = c4
  rw [Nat.xor_assoc, ← Nat.xor_assoc c2, Nat.xor_comm c2 c3, Nat.xor_assoc c3, ← Nat.xor_assoc c1]
theorem pwP_xor (x y : UInt8) (k : Nat) : pwP (x ^^^ y) k = pwP x k ^^^ pwP y k := by
  induction k with
  | zero => rfl
  | succ k ih => show xtP (pwP (x ^^^ y) k) = xtP (pwP x k) ^^^ xtP (pwP y k); rw [ih, xtP_xor]
theorem smP_xorl (x y b : UInt8) (k : Nat) : smP (x ^^^ y) b k = smP x b k ^^^ smP y b k := by
  induction k with
  | zero => show (0 : UInt8) = 0 ^^^ 0; decide
  | succ k ih =>
    show smP (x ^^^ y) b k ^^^ _ = (smP x b k ^^^ _) ^^^ (smP y b k ^^^ _)
    rw [ih, pwP_xor, x8_mid]
    congr 1
    by_cases h : b.toNat / 2 ^ k % 2 = 1
    · simp only [if_pos h]
    · simp only [if_neg h]; rfl
theorem smP_xorr (a x y : UInt8) (k : Nat) : smP a (x ^^^ y) k = smP a x k ^^^ smP a y k := by
  induction k with
  | zero => show (0 : UInt8) = 0 ^^^ 0; decide
  | succ k ih =>
    show smP a (x ^^^ y) k ^^^ _ = (smP a x k ^^^ _) ^^^ (smP a y k ^^^ _)
    rw [ih, x8_mid]
    congr 1
    rw [UInt8.toNat_xor, bit_xor]
    have h1 : x.toNat / 2 ^ k % 2 < 2 := Nat.mod_lt _ (by decide)
    have h2 : y.toNat / 2 ^ k % 2 < 2 := Nat.mod_lt _ (by decide)
    generalize x.toNat / 2 ^ k % 2 = p at *
    generalize y.toNat / 2 ^ k % 2 = q at *
    obtain rfl | rfl : p = 0 ∨ p = 1 := by omega
    all_goals
      obtain rfl | rfl : q = 0 ∨ q = 1 := by omega
      all_goals simp
theorem tmP_xorl (x y b : UInt8) : tmP (x ^^^ y) b = tmP x b ^^^ tmP y b := smP_xorl x y b 8
theorem tmP_xorr (a x y : UInt8) : tmP a (x ^^^ y) = tmP a x ^^^ tmP a y := smP_xorr a x y 8

/-- The byte with bit i alone. -/
def bs8 (i : Nat) : UInt8 := UInt8.ofNat (2 ^ i)
theorem lin_zero (f : UInt8 → UInt8) (hf : ∀ x y, f (x ^^^ y) = f x ^^^ f y) : f 0 = 0 := by
  have := hf 0 0
  rw [x8_self, x8_self] at this
  exact this
theorem bits8 (x : UInt8) : x = (x &&& 1) ^^^ (x &&& 2) ^^^ (x &&& 4) ^^^ (x &&& 8) ^^^ (x &&& 16) ^^^ (x &&& 32) ^^^ (x &&& 64) ^^^ (x &&& 128) :=
  all8 (fun x => x = (x &&& 1) ^^^ (x &&& 2) ^^^ (x &&& 4) ^^^ (x &&& 8) ^^^ (x &&& 16) ^^^ (x &&& 32) ^^^ (x &&& 64) ^^^ (x &&& 128)) (by decide +kernel) x
theorem bit8 (x : UInt8) : (x &&& 1 = 0 ∨ x &&& 1 = bs8 0) ∧ (x &&& 2 = 0 ∨ x &&& 2 = bs8 1) ∧ (x &&& 4 = 0 ∨ x &&& 4 = bs8 2) ∧ (x &&& 8 = 0 ∨ x &&& 8 = bs8 3) ∧ (x &&& 16 = 0 ∨ x &&& 16 = bs8 4) ∧ (x &&& 32 = 0 ∨ x &&& 32 = bs8 5) ∧ (x &&& 64 = 0 ∨ x &&& 64 = bs8 6) ∧ (x &&& 128 = 0 ∨ x &&& 128 = bs8 7) :=
  all8 (fun x => (x &&& 1 = 0 ∨ x &&& 1 = bs8 0) ∧ (x &&& 2 = 0 ∨ x &&& 2 = bs8 1) ∧ (x &&& 4 = 0 ∨ x &&& 4 = bs8 2) ∧ (x &&& 8 = 0 ∨ x &&& 8 = bs8 3) ∧ (x &&& 16 = 0 ∨ x &&& 16 = bs8 4) ∧ (x &&& 32 = 0 ∨ x &&& 32 = bs8 5) ∧ (x &&& 64 = 0 ∨ x &&& 64 = bs8 6) ∧ (x &&& 128 = 0 ∨ x &&& 128 = bs8 7)) (by decide +kernel) x
/-- Two functions that keep sums are the same if they are so at the eight bits. -/
theorem lin_ext (f g : UInt8 → UInt8) (hf : ∀ x y, f (x ^^^ y) = f x ^^^ f y) (hg : ∀ x y, g (x ^^^ y) = g x ^^^ g y) (h : ∀ i : Fin 8, f (bs8 i.val) = g (bs8 i.val)) (x : UInt8) : f x = g x := by
  have h0 : f 0 = g 0 := by rw [lin_zero f hf, lin_zero g hg]
  have key : ∀ y (i : Fin 8), y = 0 ∨ y = bs8 i.val → f y = g y := by
    intro y i hy
    rcases hy with rfl | rfl
    · exact h0
    · exact h i
  obtain ⟨b0, b1, b2, b3, b4, b5, b6, b7⟩ := bit8 x
  rw [bits8 x]
  simp only [hf, hg]
  rw [key _ 0 b0, key _ 1 b1, key _ 2 b2, key _ 3 b3, key _ 4 b4, key _ 5 b5, key _ 6 b6, key _ 7 b7]

theorem tmP_comm (a b : UInt8) : tmP a b = tmP b a := by
  have D : ∀ i j : Fin 8, tmP (bs8 i.val) (bs8 j.val) = tmP (bs8 j.val) (bs8 i.val) := by decide +kernel
  refine lin_ext (fun a => tmP a b) (fun a => tmP b a) (fun x y => tmP_xorl x y b) (fun x y => tmP_xorr b x y) (fun i => ?_) a
  exact lin_ext (fun b => tmP (bs8 i.val) b) (fun b => tmP b (bs8 i.val)) (fun x y => tmP_xorr _ x y) (fun x y => tmP_xorl x y _) (fun j => D i j) b
theorem tmP_assoc (a b c : UInt8) : tmP (tmP a b) c = tmP a (tmP b c) := by
  have D : ∀ i j k : Fin 8, tmP (tmP (bs8 i.val) (bs8 j.val)) (bs8 k.val) = tmP (bs8 i.val) (tmP (bs8 j.val) (bs8 k.val)) := by decide +kernel
  refine lin_ext (fun a => tmP (tmP a b) c) (fun a => tmP a (tmP b c)) (fun x y => by show tmP (tmP (x ^^^ y) b) c = _; rw [tmP_xorl, tmP_xorl]) (fun x y => tmP_xorl x y _) (fun i => ?_) a
  refine lin_ext (fun b => tmP (tmP (bs8 i.val) b) c) (fun b => tmP (bs8 i.val) (tmP b c)) (fun x y => by show tmP (tmP (bs8 i.val) (x ^^^ y)) c = _; rw [tmP_xorr, tmP_xorl]) (fun x y => by show tmP (bs8 i.val) (tmP (x ^^^ y) c) = _; rw [tmP_xorl, tmP_xorr]) (fun j => ?_) b
  exact lin_ext (fun c => tmP (tmP (bs8 i.val) (bs8 j.val)) c) (fun c => tmP (bs8 i.val) (tmP (bs8 j.val) c)) (fun x y => tmP_xorr _ x y) (fun x y => by show tmP (bs8 i.val) (tmP (bs8 j.val) (x ^^^ y)) = _; rw [tmP_xorr, tmP_xorr]) (fun k => D i j k) c
theorem tmP_one (a : UInt8) : tmP a 1 = a := all8 (fun a => tmP a 1 = a) (by decide +kernel) a
theorem ivP_times (a : UInt8) (h : a ≠ 0) : tmP a (ivP a) = 1 :=
  all8 (fun a => a ≠ 0 → tmP a (ivP a) = 1) (by decide +kernel) a h
theorem ivP_zero : ivP 0 = 0 := by decide +kernel
theorem tmP_zero (b : UInt8) : tmP 0 b = 0 := lin_zero (fun a => tmP a b) (fun x y => tmP_xorl x y b)
theorem ivP_only (a b : UInt8) (h : tmP a b = 1) : b = ivP a := by
  have h0 : a ≠ 0 := fun e => by rw [e, tmP_zero] at h; exact absurd h (by decide)
  have e1 : tmP b (tmP a (ivP a)) = b := by rw [ivP_times a h0, tmP_one]
  have e2 : tmP (tmP b a) (ivP a) = ivP a := by rw [tmP_comm b a, h, tmP_comm, tmP_one]
  rw [← e1, ← tmP_assoc, e2]
theorem ivP_ivP (a : UInt8) : ivP (ivP a) = a := by
  by_cases h : a = 0
  · rw [h, ivP_zero, ivP_zero]
  · exact (ivP_only (ivP a) a (by rw [tmP_comm]; exact ivP_times a h)).symm

theorem tpA_xorr (a x y k : Nat) : tpA a (x ^^^ y) k = tpA a x k ^^^ tpA a y k := by
  induction k with
  | zero => show 0 = 0 ^^^ 0; decide
  | succ k ih =>
    unfold tpA
    rw [ih, bit_xor]
    have h1 : x / 2 ^ k % 2 < 2 := Nat.mod_lt _ (by decide)
    have h2 : y / 2 ^ k % 2 < 2 := Nat.mod_lt _ (by decide)
    generalize x / 2 ^ k % 2 = p at *
    generalize y / 2 ^ k % 2 = q at *
    generalize tpA a x k = s at *
    generalize tpA a y k = t at *
    generalize a * 2 ^ k = z at *
    obtain rfl | rfl : p = 0 ∨ p = 1 := by omega
    all_goals
      obtain rfl | rfl : q = 0 ∨ q = 1 := by omega
      all_goals simp
    · rw [Nat.xor_assoc]
    · rw [Nat.xor_assoc, Nat.xor_comm t z, ← Nat.xor_assoc]
    · rw [Nat.xor_assoc s z, ← Nat.xor_assoc z t z, Nat.xor_comm z t, Nat.xor_assoc t z z, Nat.xor_self, Nat.xor_zero]
theorem rdA_xor (x y j : Nat) : rdA (x ^^^ y) j = rdA x j ^^^ rdA y j := by
  induction j with
  | zero => rfl
  | succ j ih =>
    unfold rdA
    rw [ih, bit_xor]
    have h1 : rdA x j / 2 ^ (14 - j) % 2 < 2 := Nat.mod_lt _ (by decide)
    have h2 : rdA y j / 2 ^ (14 - j) % 2 < 2 := Nat.mod_lt _ (by decide)
    generalize rdA x j / 2 ^ (14 - j) % 2 = p at *
    generalize rdA y j / 2 ^ (14 - j) % 2 = q at *
    generalize rdA x j = s at *
    generalize rdA y j = t at *
    generalize 283 * 2 ^ (6 - j) = z at *
    obtain rfl | rfl : p = 0 ∨ p = 1 := by omega
    all_goals
      obtain rfl | rfl : q = 0 ∨ q = 1 := by omega
      all_goals simp
    · rw [Nat.xor_assoc]
    · rw [Nat.xor_assoc, Nat.xor_comm t z, ← Nat.xor_assoc]
    · rw [Nat.xor_assoc s z, ← Nat.xor_assoc z t z, Nat.xor_comm z t, Nat.xor_assoc t z z, Nat.xor_self, Nat.xor_zero]
theorem tmA_nat (a b : UInt8) : (tmA a b).toNat = rdA (tpA a.toNat b.toNat 8) 7 % 2 ^ 8 := by
  unfold tmA
  show _ % 256 = _
  omega
theorem tmA_xorr (a x y : UInt8) : tmA a (x ^^^ y) = tmA a x ^^^ tmA a y := by
  apply UInt8.toNat_inj.1
  rw [UInt8.toNat_xor, tmA_nat, tmA_nat, tmA_nat, UInt8.toNat_xor, tpA_xorr, rdA_xor, Nat.xor_mod_two_pow]
/-- Both products are the same. -/
theorem tmA_tmP (a b : UInt8) : tmA a b = tmP a b := by
  have D : ∀ (j : Fin 8) (i : Fin 256), tmA (UInt8.ofNat i.val) (bs8 j.val) = tmP (UInt8.ofNat i.val) (bs8 j.val) := by decide +kernel
  refine lin_ext (fun b => tmA a b) (fun b => tmP a b) (fun x y => tmA_xorr a x y) (fun x y => tmP_xorr a x y) (fun j => ?_) b
  exact all8 (fun a => tmA a (bs8 j.val) = tmP a (bs8 j.val)) (fun i => D j i) a
theorem invA_found (a c : UInt8) (h1 : tmA a c = 1) (h2 : ∀ b, tmA a b = 1 → b = c) : ∀ f, f ≤ 255 → 256 - f ≤ c.toNat → invA a f = c
  | 0, _, h => by have := c.toNat_lt; omega
  | f + 1, hf, h => by
    unfold invA
    by_cases e : tmA a (UInt8.ofNat (255 - f)) = 1
    · rw [if_pos e]; exact h2 _ e
    · rw [if_neg e]
      refine invA_found a c h1 h2 f (by omega) ?_
      have : c.toNat ≠ 255 - f := fun e' => e (by rw [← e', UInt8.ofNat_toNat]; exact h1)
      omega
theorem invA_none (a : UInt8) (h : ∀ b, tmA a b ≠ 1) : ∀ f, invA a f = 0
  | 0 => rfl
  | f + 1 => by unfold invA; rw [if_neg (h _)]; exact invA_none a h f
/-- Both inverses are the same. -/
theorem inA_ivP (a : UInt8) : inA a = ivP a := by
  unfold inA
  by_cases h : a = 0
  · rw [h, ivP_zero]
    exact invA_none 0 (fun b => by rw [tmA_tmP, tmP_zero]; decide) 255
  · have hn : ivP a ≠ 0 := fun e => by have := ivP_times a h; rw [e, tmP_comm, tmP_zero] at this; exact absurd this (by decide)
    refine invA_found a (ivP a) (by rw [tmA_tmP]; exact ivP_times a h) (fun b hb => ivP_only a b (by rw [← tmA_tmP]; exact hb)) 255 (by omega) ?_
    have : (ivP a).toNat ≠ 0 := fun e => hn (UInt8.toNat_inj.1 e)
    omega
theorem sbA_sbP (a : UInt8) : sbA a = sbP a := by
  unfold sbA sbP
  rw [inA_ivP]
  generalize ivP a = y
  show _ = (((y ^^^ 99 ^^^ rolA y 1) ^^^ rolA y 2) ^^^ rolA y 3) ^^^ rolA y 4
  generalize rolA y 1 = p
  generalize rolA y 2 = q
  generalize rolA y 3 = r
  generalize rolA y 4 = s
  rw [x8_assoc y 99 p, x8_comm 99 p, ← x8_assoc y p 99, x8_assoc (y ^^^ p) 99 q, x8_comm 99 q, ← x8_assoc (y ^^^ p) q 99, x8_assoc (y ^^^ p ^^^ q) 99 r, x8_comm 99 r, ← x8_assoc (y ^^^ p ^^^ q) r 99, x8_assoc (y ^^^ p ^^^ q ^^^ r) 99 s, x8_comm 99 s, ← x8_assoc (y ^^^ p ^^^ q ^^^ r) s 99]
/-- Back from a byte that stands for another. -/
def uvP (a : UInt8) : UInt8 := ivP (rolA a 1 ^^^ rolA a 3 ^^^ rolA a 6 ^^^ 5)
theorem affine_back (y : UInt8) : rolA (soP y 4) 1 ^^^ rolA (soP y 4) 3 ^^^ rolA (soP y 4) 6 ^^^ 5 = y := all8 (fun y => rolA (soP y 4) 1 ^^^ rolA (soP y 4) 3 ^^^ rolA (soP y 4) 6 ^^^ 5 = y) (by decide +kernel) y
theorem affine_forth (a : UInt8) : soP (rolA a 1 ^^^ rolA a 3 ^^^ rolA a 6 ^^^ 5) 4 = a := all8 (fun a => soP (rolA a 1 ^^^ rolA a 3 ^^^ rolA a 6 ^^^ 5) 4 = a) (by decide +kernel) a
theorem uvP_sbP (a : UInt8) : uvP (sbP a) = a := by unfold uvP sbP; rw [affine_back, ivP_ivP]
theorem sbP_uvP (a : UInt8) : sbP (uvP a) = a := by unfold uvP sbP; rw [ivP_ivP, affine_forth]
theorem unsA_found (a c : UInt8) (h1 : sbA c = a) (h2 : ∀ b, sbA b = a → b = c) : ∀ f, f ≤ 256 → 256 - f ≤ c.toNat → unsA a f = c
  | 0, _, h => by have := c.toNat_lt; omega
  | f + 1, hf, h => by
    unfold unsA
    by_cases e : sbA (UInt8.ofNat (255 - f)) = a
    · rw [if_pos e]; exact h2 _ e
    · rw [if_neg e]
      refine unsA_found a c h1 h2 f (by omega) ?_
      have : c.toNat ≠ 255 - f := fun e' => e (by rw [← e', UInt8.ofNat_toNat]; exact h1)
      omega
theorem unA_uvP (a : UInt8) : unA a = uvP a :=
  unsA_found a (uvP a) (by rw [sbA_sbP, sbP_uvP]) (fun b hb => by rw [sbA_sbP] at hb; rw [← hb, uvP_sbP]) 256 (by omega) (by omega)

end Go.Proofs.Ytjohckgdbbhpdaa
