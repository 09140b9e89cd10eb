/- Contract of wire's Pack. -/
import Derived.Test.YtojafgilpnnbiaaG1
import Derived.Laws.AppendOwnNone
set_option linter.unusedVariables false
set_option linter.unusedSimpArgs false
namespace Go.Proofs.Ytojafgilpnnbiaa
open Go.RowKit

/-- The value v is a slice of slices of these bytes. -/
def HL (w : World) (v : Value) (ls : List (List UInt8)) : Prop :=
  (ls = [] ∧ ∃ p cap, v = .slice p 0 cap ∧ (p = none → cap = 0)) ∨ ∃ b o cap, v = .slice (some ⟨b, o, none⟩) ls.length cap ∧ ls.length ≤ cap ∧ cap ≤ maxLen ∧ ∀ i, (h : i < ls.length) → ∃ u, w.cell? ⟨b, o + i, none⟩ = some u ∧ HB w u ls[i]

theorem HL.below {w w' : World} {v : Value} {ls : List (List UInt8)} (h : HL w v ls) (hb : Below w.heap.size w w') : HL w' v ls := by
  rcases h with ⟨h1, h2⟩ | ⟨b, o, cap, h1, h2, h3, h4⟩
  · exact .inl ⟨h1, h2⟩
  · refine .inr ⟨b, o, cap, h1, h2, h3, fun i hi => ?_⟩
    obtain ⟨u, hc, hu⟩ := h4 i hi
    exact ⟨u, by rw [hb.cell (p := ⟨b, o + i, none⟩) (block_lt hc)]; exact hc, hu.below hb⟩

theorem FB.below {base : Nat} {w w' : World} {v : Value} {l : List UInt8} (h : FB base w v l) (hb : Below w.heap.size w w') : FB base w' v l := by
  obtain ⟨h1, h2⟩ := h
  refine ⟨h1, ?_⟩
  rcases h2 with h2 | ⟨g, cap, cur, hv, hg, hh, r⟩
  · exact .inl h2
  · have hlt : g < w.heap.size := by
      rcases Nat.lt_or_ge g w.heap.size with h | h
      · exact h
      · rw [Array.getElem?_eq_none h] at hh; cases hh
    exact .inr ⟨g, cap, cur, hv, hg, by rw [hb.block g hlt]; exact hh, r⟩

/-- The cells of bytes at an address. -/
theorem HB.news {w : World} {a : Addr} {n cap : Nat} {l : List UInt8} (h : HB w (.slice (some a) n cap) l) : ∀ (j : Nat) u, (l.map B8)[j]? = some u → w.cell? (a.add j) = some u := by
  obtain ⟨p, c, hv, _, hc⟩ := h.cells
  simp only [Value.slice.injEq] at hv
  exact hc a hv.1.symm

theorem FB.grown {base : Nat} {w w' : World} {v : Value} {l : List UInt8} {row : Option Nat} (h : FB base w v l) (hg : w.grownBy w' row) (hne : v.ownBlock = none ∨ v.ownBlock ≠ row) : FB base w' v l := World.ownsRow.kept h hg hne

namespace W1
def frame (l : List UInt8) : List UInt8 := le 4 l.length ++ l
def pack (ls : List (List UInt8)) : List UInt8 := ls.flatMap frame
def mayPack (ls : List (List UInt8)) : Prop := ls.length ≤ 64 ∧ ∀ l ∈ ls, l.length ≤ 65536
theorem mayPack_nil : mayPack [] := ⟨by decide, by simp⟩
theorem pack_take_succ (ls : List (List UInt8)) (k : Nat) (h : k < ls.length) : pack (ls.take (k + 1)) = pack (ls.take k) ++ le 4 ls[k].length ++ ls[k] := by
  simp only [pack]; rw [List.take_succ_eq_append_getElem h, List.flatMap_append]; simp [frame]
theorem pack_len (ls : List (List UInt8)) (h : ∀ l ∈ ls, l.length ≤ 65536) : (pack ls).length ≤ ls.length * 65540 := by
  induction ls with
  | nil => simp [pack]
  | cons x r ih =>
    have h1 := ih (fun l hl => h l (by simp [hl]))
    have h2 := h x (by simp)
    simp only [pack, List.flatMap_cons, List.length_append, frame, le_length, List.length_cons] at *
    omega
end W1

/-- What Pack answers. -/
def PackEnd (base : Nat) (w' : World) (ls : List (List UInt8)) (e : Ending) : Prop :=
  (W1.mayPack ls → ∃ v, e = .returned (.tuple #[v, .int .i64 0]) ∧ FB base w' v (W1.pack ls)) ∧ (¬ W1.mayPack ls → e = .returned (.tuple #[.slice none 0 0, .int .i64 2]))


end Go.Proofs.Ytojafgilpnnbiaa
