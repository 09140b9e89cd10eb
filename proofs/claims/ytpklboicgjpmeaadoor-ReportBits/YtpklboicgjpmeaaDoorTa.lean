/- report: reports, their bytes and texts: mathematics. -/
import Derived.Test.YtpklboicgjpmeaaDoorLQ
import Derived.Test.YtpklboicgjpmeaaDoorE1
import Derived.Lib.Join
set_option linter.unusedVariables false
set_option linter.unusedSimpArgs false
namespace Go.Proofs.YtpklboicgjpmeaaDoor
namespace W1
theorem dig_hexd (n : Nat) (h : n < 16) : dig (hexd n).toNat = some n := by
  have h16 : n = 0 ∨ n = 1 ∨ n = 2 ∨ n = 3 ∨ n = 4 ∨ n = 5 ∨ n = 6 ∨ n = 7 ∨ n = 8 ∨ n = 9 ∨ n = 10 ∨ n = 11 ∨ n = 12 ∨ n = 13 ∨ n = 14 ∨ n = 15 := by omega
  rcases h16 with rfl | rfl | rfl | rfl | rfl | rfl | rfl | rfl | rfl | rfl | rfl | rfl | rfl | rfl | rfl | rfl <;> decide
theorem unhex_hex (l : List UInt8) : unhex (hex l) = some l := by
  induction l with
  | nil => rfl
  | cons c r ih =>
    have hc := c.toNat_lt
    have e : hex (c :: r) = hexd (c.toNat / 16) :: hexd (c.toNat % 16) :: hex r := rfl
    rw [e, unhex_two, dig_hexd _ (by omega), dig_hexd _ (by omega), ih]
    simp only [Option.some.injEq]
    rw [Nat.div_add_mod]
    simp
theorem hexd_ne (n : Nat) (h : n < 16) : hexd n ≠ 32 := by
  have h16 : n = 0 ∨ n = 1 ∨ n = 2 ∨ n = 3 ∨ n = 4 ∨ n = 5 ∨ n = 6 ∨ n = 7 ∨ n = 8 ∨ n = 9 ∨ n = 10 ∨ n = 11 ∨ n = 12 ∨ n = 13 ∨ n = 14 ∨ n = 15 := by omega
  rcases h16 with rfl | rfl | rfl | rfl | rfl | rfl | rfl | rfl | rfl | rfl | rfl | rfl | rfl | rfl | rfl | rfl <;> decide
theorem hex_no (l : List UInt8) : (32 : UInt8) ∉ hex l := by
  intro h
  unfold hex at h
  obtain ⟨c, _, hc⟩ := List.mem_flatMap.1 h
  have h1 := c.toNat_lt
  simp only [List.mem_cons, List.not_mem_nil, or_false] at hc
  rcases hc with hc | hc
  · exact hexd_ne _ (by omega) hc.symm
  · exact hexd_ne _ (by omega) hc.symm
end W1
namespace RB
open JC

/-- A report. -/
structure Rp where
  inst : Nat
  ms : List UInt8
  ch : List UInt8
theorem Rp.eq {a b : Rp} (h1 : a.inst = b.inst) (h2 : a.ms = b.ms) (h3 : a.ch = b.ch) : a = b := by
  cases a; cases b; simp_all
structure Rp.ok (r : Rp) : Prop where
  i : r.inst < 18446744073709551616
  m : r.ms.length = 32
  c : r.ch.length = 32
def Z32 : List UInt8 := List.replicate 32 0
def r0 : Rp := ⟨0, Z32, Z32⟩
theorem r0_ok : r0.ok := ⟨by decide, rfl, rfl⟩
def nameB : List UInt8 := [114, 101, 112, 111, 114, 116, 0, 0]
/-- Its bytes. -/
def byt (r : Rp) : List UInt8 := nameB ++ (W1.le 8 r.inst ++ (r.ms ++ r.ch))
theorem byt_len {r : Rp} (h : r.ok) : (byt r).length = 80 := by
  unfold byt; simp [nameB, W1.le_length, h.m, h.c]
/-- What the bytes would be of. -/
def rdB (b : List UInt8) : Rp := ⟨W1.num ((b.drop 8).take 8), (b.drop 16).take 32, (b.drop 48).take 32⟩
theorem rdB_ok {b : List UInt8} (h : b.length = 80) : (rdB b).ok := by
  refine ⟨?_, by simp [rdB, h], by simp [rdB, h]⟩
  have := W1.num_lt ((b.drop 8).take 8)
  rw [List.length_take, List.length_drop, h] at this
  exact this
theorem rdB_byt {r : Rp} (h : r.ok) : rdB (byt r) = r := by
  have hl := W1.le_length 8 r.inst
  have e1 : (byt r).drop 8 = W1.le 8 r.inst ++ (r.ms ++ r.ch) := rfl
  have e2 : (byt r).drop 16 = r.ms ++ r.ch := by
    rw [show 16 = 8 + 8 from rfl, ← List.drop_drop, e1, List.drop_append_of_le_length (by omega), List.drop_of_length_le (by omega), List.nil_append]
  have e3 : (byt r).drop 48 = r.ch := by
    rw [show 48 = 16 + 32 from rfl, ← List.drop_drop, e2, List.drop_append_of_le_length (by have := h.m; omega), List.drop_of_length_le (by have := h.m; omega), List.nil_append]
  refine Rp.eq ?_ ?_ ?_
  · show W1.num (((byt r).drop 8).take 8) = _
    rw [e1, List.take_append_of_le_length (by omega), List.take_of_length_le (by omega), W1.num_le]
    exact Nat.mod_eq_of_lt h.i
  · show ((byt r).drop 16).take 32 = _
    rw [e2, List.take_append_of_le_length (by have := h.m; omega), List.take_of_length_le (by have := h.m; omega)]
  · show ((byt r).drop 48).take 32 = _
    rw [e3, List.take_of_length_le (by have := h.c; omega)]
theorem byt_inj {a b : Rp} (ha : a.ok) (hb : b.ok) (h : byt a = byt b) : a = b := by
  rw [← rdB_byt ha, h, rdB_byt hb]
def w1 : List UInt8 := [105, 110, 115, 116, 97, 110, 99, 101]
def w2 : List UInt8 := [109, 101, 97, 115, 117, 114, 101]
def w3 : List UInt8 := [99, 104, 97, 108, 108, 101, 110, 103, 101]
/-- Its text's words, its text. -/
def wrds (r : Rp) : List (List UInt8) := [w1, Lib.decDigits r.inst, w2, W1.hex r.ms, w3, W1.hex r.ch]
def tex (r : Rp) : List UInt8 := w1 ++ 32 :: (Lib.decDigits r.inst ++ 32 :: (w2 ++ 32 :: (W1.hex r.ms ++ 32 :: (w3 ++ 32 :: W1.hex r.ch))))
theorem dec_no (u : Nat) : (32 : UInt8) ∉ Lib.decDigits u := fun h => by
  have := dec_dg u 32 h
  unfold dg at this
  revert this; decide
theorem split_tex (r : Rp) : splitR (tex r) = wrds r := by
  unfold tex wrds
  rw [splitR_at _ (by decide), splitR_at _ (dec_no _), splitR_at _ (by decide), splitR_at _ (W1.hex_no _), splitR_at _ (by decide), splitR_no (W1.hex_no _)]
theorem hex_inj {a b : List UInt8} (h : W1.hex a = W1.hex b) : a = b := by
  have := W1.unhex_hex a
  rw [h, W1.unhex_hex] at this
  exact (Option.some.inj this).symm
theorem dec_inj {a b : Nat} (h : Lib.decDigits a = Lib.decDigits b) : a = b := by
  rw [← fdg_dec a, h, fdg_dec]
theorem wrds_inj {a b : Rp} (h : wrds a = wrds b) : a = b := by
  unfold wrds at h
  simp only [List.cons.injEq, and_true, true_and] at h
  exact Rp.eq (dec_inj h.1) (hex_inj h.2.1) (hex_inj h.2.2)
theorem tex_inj {a b : Rp} (h : tex a = tex b) : a = b := by
  refine wrds_inj ?_
  rw [← split_tex, h, split_tex]
theorem dec_len (u : Nat) (h : u < 18446744073709551616) : (Lib.decDigits u).length ≤ 20 := qdec_len 19 u (by omega)
theorem tex_len {r : Rp} (h : r.ok) : (tex r).length ≤ 177 := by
  have := dec_len r.inst h.i
  unfold tex
  simp [w1, w2, w3, W1.hex_length, h.m, h.c]
  omega
theorem join_tex (r : Rp) : Lib.join (wrds r) [32] = tex r := by
  unfold wrds tex
  simp [Lib.join]
theorem parse_dec (u : Nat) (h : u < 18446744073709551616) : Lib.parseUintB 64 (Lib.decDigits u) = .ok u := by
  unfold Lib.parseUintB
  rw [if_neg (dec_ne u)]
  exact pm_dec _ (by decide) u (by have : (2 ^ 64 - 1 : Nat) = 18446744073709551615 := by decide
                                   omega)
theorem parse_lt {l : List UInt8} {u : Nat} (h : Lib.parseUintB 64 l = .ok u) : u < 18446744073709551616 := by
  unfold Lib.parseUintB at h
  split at h
  · cases h
  · have := parseM_le _ l 0 u (by omega) h
    have h2 : (2 ^ 64 - 1 : Nat) = 18446744073709551615 := by decide
    omega
/-- The document's number of a word. -/
def stp (n : Int) (c : UInt8) : Int := (((n * 10 % 18446744073709551616 + (c.toNat : Int)) % 18446744073709551616) - 48) % 18446744073709551616
def nrf (l : List UInt8) : Int := l.foldl stp 0
theorem nrf_snoc (l : List UInt8) (c : UInt8) : nrf (l ++ [c]) = stp (nrf l) c := by
  unfold nrf; rw [List.foldl_append]; rfl
theorem nrf_bd (l : List UInt8) : 0 ≤ nrf l ∧ nrf l < 18446744073709551616 := by
  rcases List.eq_nil_or_concat l with rfl | ⟨a, c, rfl⟩
  · exact ⟨by decide, by decide⟩
  · rw [List.concat_eq_append, nrf_snoc]; unfold stp; omega
theorem nrf_dec : ∀ u : Nat, u < 18446744073709551616 → nrf (Lib.decDigits u) = u := by
  intro u
  induction u using Nat.strongRecOn with
  | ind u ih =>
    intro hu
    rw [Lib.decDigits]
    split
    · next h =>
      have e : (UInt8.ofNat (48 + u)).toNat = 48 + u := by simp [UInt8.toNat_ofNat]; omega
      show nrf ([] ++ [UInt8.ofNat (48 + u)]) = u
      rw [nrf_snoc]
      unfold stp
      rw [e]
      show (((0 * 10 % 18446744073709551616 + ((48 + u : Nat) : Int)) % 18446744073709551616) - 48) % 18446744073709551616 = u
      omega
    · next h =>
      have e : (UInt8.ofNat (48 + u % 10)).toNat = 48 + u % 10 := by simp [UInt8.toNat_ofNat]; omega
      rw [nrf_snoc, ih (u / 10) (by omega) (by omega)]
      unfold stp
      rw [e]
      omega
/-- What is told of a text, of bytes: the report that has them, or none. -/
def TR (s : List UInt8) (r : Rp) (b : Bool) : Prop := (r.ok ∧ tex r = s ∧ b = true) ∨ (r = r0 ∧ b = false ∧ ∀ q : Rp, q.ok → tex q ≠ s)
def BR (s : List UInt8) (r : Rp) (b : Bool) : Prop := (r.ok ∧ byt r = s ∧ b = true) ∨ (r = r0 ∧ b = false ∧ ∀ q : Rp, q.ok → byt q ≠ s)
theorem TR.uniq {s : List UInt8} {r q : Rp} {b c : Bool} (h : TR s r b) (k : TR s q c) : r = q ∧ b = c := by
  rcases h with ⟨h1, h2, rfl⟩ | ⟨rfl, rfl, h2⟩ <;> rcases k with ⟨k1, k2, rfl⟩ | ⟨rfl, rfl, k2⟩
  · exact ⟨tex_inj (h2.trans k2.symm), rfl⟩
  · exact absurd h2 (k2 _ h1)
  · exact absurd k2 (h2 _ k1)
  · exact ⟨rfl, rfl⟩
theorem BR.uniq {s : List UInt8} {r q : Rp} {b c : Bool} (h : BR s r b) (k : BR s q c) : r = q ∧ b = c := by
  rcases h with ⟨h1, h2, rfl⟩ | ⟨rfl, rfl, h2⟩ <;> rcases k with ⟨k1, k2, rfl⟩ | ⟨rfl, rfl, k2⟩
  · exact ⟨byt_inj h1 k1 (h2.trans k2.symm), rfl⟩
  · exact absurd h2 (k2 _ h1)
  · exact absurd k2 (h2 _ k1)
  · exact ⟨rfl, rfl⟩
theorem TR.ok {s : List UInt8} {r : Rp} {b : Bool} (h : TR s r b) : r.ok := by
  rcases h with ⟨h, _, _⟩ | ⟨rfl, _, _⟩
  · exact h
  · exact r0_ok
theorem BR.ok {s : List UInt8} {r : Rp} {b : Bool} (h : BR s r b) : r.ok := by
  rcases h with ⟨h, _, _⟩ | ⟨rfl, _, _⟩
  · exact h
  · exact r0_ok
end RB
end Go.Proofs.YtpklboicgjpmeaaDoor
