/- Contract of wire's Unpack. -/
import Derived.Test.YtojafgilpnnbiaaH1
set_option linter.unusedVariables false
set_option linter.unusedSimpArgs false
namespace Go.Proofs.Ytojafgilpnnbiaa
open Go.RowKit

namespace W1
/-- The lists of which it is packed, at most c of them, or none. -/
def unpack : Nat → List UInt8 → Option (List (List UInt8))
  | 0, b => if b = [] then some [] else none
  | c + 1, b => if b = [] then some [] else if b.length < 4 then none else if 65536 < num (b.take 4) ∨ b.length - 4 < num (b.take 4) then none
    else (unpack c (b.drop (4 + num (b.take 4)))).map fun r => (b.drop 4).take (num (b.take 4)) :: r

theorem unpack_nil (c : Nat) : unpack c [] = some [] := by cases c <;> simp [unpack]
theorem unpack_zero (b : List UInt8) (h : b ≠ []) : unpack 0 b = none := by simp [unpack, h]
theorem unpack_short (c : Nat) (b : List UInt8) (h : b ≠ []) (h4 : b.length < 4) : unpack c b = none := by cases c <;> simp [unpack, h, h4]
theorem unpack_bad (c : Nat) (b : List UInt8) (h : b ≠ []) (hn : 65536 < num (b.take 4) ∨ b.length - 4 < num (b.take 4)) : unpack c b = none := by
  cases c with
  | zero => simp [unpack, h]
  | succ c => simp [unpack, h, hn]
theorem unpack_step (c : Nat) (b : List UInt8) (h : b ≠ []) (h4 : 4 ≤ b.length) (h1 : num (b.take 4) ≤ 65536) (h2 : num (b.take 4) ≤ b.length - 4) :
    unpack (c + 1) b = (unpack c (b.drop (4 + num (b.take 4)))).map fun r => (b.drop 4).take (num (b.take 4)) :: r := by
  simp only [unpack, h, if_false]; rw [if_neg (by omega), if_neg (by omega)]

theorem unpack_pack (c : Nat) (ls : List (List UInt8)) (hc : ls.length ≤ c) (h : ∀ l ∈ ls, l.length ≤ 65536) : unpack c (pack ls) = some ls := by
  induction ls generalizing c with
  | nil => exact unpack_nil c
  | cons x r ih =>
    obtain ⟨c, rfl⟩ : ∃ d, c = d + 1 := ⟨c - 1, by simp at hc; omega⟩
    have hx := h x (by simp)
    have e : pack (x :: r) = le 4 x.length ++ (x ++ pack r) := by simp [pack, frame]
    have hl := le_length 4 x.length
    have ht : (pack (x :: r)).take 4 = le 4 x.length := by rw [e, List.take_append_of_le_length (by omega), List.take_of_length_le (by omega)]
    have hn : num ((pack (x :: r)).take 4) = x.length := by rw [ht, num_le, Nat.mod_eq_of_lt (by omega)]
    have hlen : (pack (x :: r)).length = 4 + (x.length + (pack r).length) := by rw [e]; simp [le_length]
    have hne : pack (x :: r) ≠ [] := by intro h0; rw [h0] at hlen; simp at hlen; omega
    have hd : (pack (x :: r)).drop 4 = x ++ pack r := by
      rw [e]; exact List.drop_left' hl
    rw [unpack_step c _ hne (by omega) (by omega) (by omega), hn, ← List.drop_drop, hd, List.drop_left, List.take_left, ih c (by simpa using hc) (fun l hl => h l (by simp [hl]))]
    rfl
end W1

theorem FB.window {base g cap : Nat} {w : World} {bs : List UInt8} (h : FB base w (.slice (some ⟨g, 0, none⟩) bs.length cap) bs) (at' n c : Nat) (hn : at' + n ≤ bs.length) (hc : n ≤ c) (hm : c ≤ maxLen) :
    HB w (.slice (some ⟨g, at', none⟩) n c) ((bs.drop at').take n) := by
  have hl : ((bs.drop at').take n).length = n := by rw [List.length_take, List.length_drop]; omega
  refine .inr ⟨g, at', c, by rw [hl], by omega, hm, fun i hi => ?_⟩
  have hi2 : at' + i < bs.length := by omega
  rw [h.cellAt (at' + i) (by omega), List.getElem?_map, List.getElem?_eq_getElem hi2]
  simp only [Option.map_some, B8, List.getD]
  rw [List.getElem?_take_of_lt (by omega), List.getElem?_drop, List.getElem?_eq_getElem hi2]
  rfl

theorem FB.block {base : Nat} {w : World} {v : Value} {l : List UInt8} (h : FB base w v l) (hl : 0 < l.length) : ∃ g cap, v = .slice (some ⟨g, 0, none⟩) l.length cap ∧ l.length ≤ cap ∧ cap ≤ maxLen := by
  rcases h.2 with ⟨h1, h2⟩ | ⟨g, cap, cur, h1, h2, h3, h4, h5, _⟩
  · omega
  · exact ⟨g, cap, h1, h4, h5⟩

/-- u is a piece, of the bytes l, of the bytes bs that lie in the block g. -/
def Piece (g : Nat) (bs : List UInt8) (u : Value) (l : List UInt8) : Prop :=
  ∃ q at', u = .slice q l.length l.length ∧ (1 ≤ l.length → q = some ⟨g, at', none⟩) ∧ at' + l.length ≤ bs.length ∧ l = (bs.drop at').take l.length

theorem Piece.hb {base g cap : Nat} {w : World} {bs l : List UInt8} {u : Value} (h : FB base w (.slice (some ⟨g, 0, none⟩) bs.length cap) bs) (hp : Piece g bs u l) (hm : bs.length ≤ maxLen) : HB w u l := by
  obtain ⟨q, at', rfl, hq, ha, hl⟩ := hp
  by_cases h1 : 1 ≤ l.length
  · have := h.window at' l.length l.length ha (Nat.le_refl _) (by omega)
    rw [hq h1]
    rw [← hl] at this
    exact this
  · have : l = [] := List.eq_nil_of_length_eq_zero (by omega)
    subst this
    exact .inl ⟨rfl, q, 0, rfl, fun _ => rfl⟩

theorem Try.infoBytes : (Try.prog.info? 22).map (fun i => (i.zero, i.size, i.bytes)) = some (some (.slice none 0 0), 1, 24) := by kernel_rfl

/-- The value v is a slice of its own, from block 'base' on, of the values vs, slices. -/
def FV (base : Nat) (w : World) (v : Value) (vs : List Value) : Prop := w.ownsRow base 22 1 v vs.length vs

theorem FV.form {base : Nat} {w : World} {v : Value} {vs : List Value} (h : FV base w v vs) : ∃ p cap, v = .slice p vs.length cap ∧ (p = none → vs = [] ∧ cap = 0) := by
  rcases h.2 with ⟨h1, h2⟩ | ⟨g, cap, cur, h1, _⟩
  · exact ⟨none, 0, by rw [h1, h2], fun _ => ⟨List.eq_nil_of_length_eq_zero h2, rfl⟩⟩
  · exact ⟨_, cap, h1, fun h => by cases h⟩

/-- Bytes and slices of bytes lie in different blocks. -/
theorem FB.apart {base base' : Nat} {w : World} {v u : Value} {l : List UInt8} {vs : List Value} (h : FB base w v l) (h' : FV base' w u vs) : v.ownBlock = none ∨ v.ownBlock ≠ u.ownBlock := by
  rcases h.2 with ⟨h1, h2⟩ | ⟨g, cap, cur, h1, _, h3, _⟩
  · subst h1; exact .inl rfl
  · subst h1
    refine .inr ?_
    rcases h'.2 with ⟨k1, k2⟩ | ⟨g', cap', cur', k1, _, k3, _⟩
    · subst k1; simp [Value.ownBlock]
    · subst k1
      simp only [Value.ownBlock, ne_eq, Option.some.injEq]
      intro e
      subst e
      rw [h3] at k3
      simp at k3

/-- Values that are pieces of lists. -/
def Pieces (g : Nat) (bs : List UInt8) (vs : List Value) (ls : List (List UInt8)) : Prop := vs.length = ls.length ∧ ∀ i (h : i < ls.length), ∃ u, vs[i]? = some u ∧ Piece g bs u ls[i]

theorem Pieces.snoc {g : Nat} {bs : List UInt8} {vs : List Value} {ls : List (List UInt8)} {u : Value} {l : List UInt8} (h : Pieces g bs vs ls) (hp : Piece g bs u l) : Pieces g bs (vs ++ [u]) (ls ++ [l]) := by
  refine ⟨by simp [h.1], fun i hi => ?_⟩
  by_cases hlt : i < ls.length
  · obtain ⟨u', h1, h2⟩ := h.2 i hlt
    exact ⟨u', by rw [List.getElem?_append_left (by rw [h.1]; exact hlt)]; exact h1, by rw [List.getElem_append_left hlt]; exact h2⟩
  · have : i = ls.length := by simp at hi; omega
    subst this
    refine ⟨u, by rw [List.getElem?_append_right (by rw [h.1]; exact Nat.le_refl _), h.1]; simp, ?_⟩
    rw [List.getElem_append_right (Nat.le_refl _)]
    simpa using hp

theorem FV.hl {base base' g cap : Nat} {w : World} {bs : List UInt8} {v : Value} {vs : List Value} {ls : List (List UInt8)} (h : FV base w v vs) (hp : Pieces g bs vs ls) (hb : FB base' w (.slice (some ⟨g, 0, none⟩) bs.length cap) bs) (hm : bs.length ≤ maxLen) : HL w v ls := by
  rcases h.2 with ⟨h1, h2⟩ | ⟨g', cap', cur, h1, h2, h3, h4, h5, h6, h7⟩
  · rw [hp.1] at h2
    exact .inl ⟨List.eq_nil_of_length_eq_zero h2, none, 0, h1, fun _ => rfl⟩
  · subst h1
    refine .inr ⟨g', 0, cap', by rw [hp.1], by rw [← hp.1]; exact h4, h5, fun i hi => ?_⟩
    obtain ⟨u, hu, hpu⟩ := hp.2 i hi
    refine ⟨u, ?_, hpu.hb hb hm⟩
    rw [Nat.zero_add]
    have := h.cellAt (g := g') i (by rw [hp.1]; omega)
    rw [this]; exact hu


end Go.Proofs.Ytojafgilpnnbiaa
