/- Contracts of the inner functions of wire: a digit's worth; a number's bytes, and the number of bytes; a piece of bytes. -/
import Derived.Test.YtkpjfhphohanlaaGreatDoorRows
import Derived.Test.YtkpjfhphohanlaaGreatDoorM1
import Derived.WalkKit
import Derived.WalkSpells
import Derived.WalkLawsBesides
set_option linter.unusedVariables false
set_option linter.unusedSimpArgs false
namespace Go.Proofs.YtkpjfhphohanlaaGreatDoor
open Go.RowKit

/-- The value v is a slice of the bytes l in the world w. -/
def HB (w : World) (v : Value) (l : List UInt8) : Prop :=
  (l = [] ∧ ∃ p cap, v = .slice p 0 cap ∧ (p = none → cap = 0)) ∨ (∃ b o cap, v = .slice (some ⟨b, o, none⟩) l.length cap ∧ l.length ≤ cap ∧ cap ≤ maxLen ∧ ∀ i, i < l.length → w.cell? ⟨b, o + i, none⟩ = some (.int .u8 ((l.getD i 0).toNat : Int)))

theorem ret_int {k : IntKind} {a b : Int} (h : a = b) : Ending.returned (.int k a) = .returned (.int k b) := by rw [h]

theorem block_lt {w : World} {a : Addr} {v : Value} (h : w.cell? a = some v) : a.block < w.heap.size := by
  rcases Nat.lt_or_ge a.block w.heap.size with h1 | h1
  · exact h1
  · have : w.heap[a.block]? = none := Array.getElem?_eq_none h1
    simp [World.cell?, this] at h

/-- What is kept below B keeps a slice that lies below B. -/
theorem HB.below {w w' : World} {v : Value} {l : List UInt8} (h : HB w v l) (hb : Below w.heap.size w w') : HB w' v l := by
  rcases h with ⟨h1, h2⟩ | ⟨b, o, cap, h1, h2, h3, h4⟩
  · exact .inl ⟨h1, h2⟩
  · refine .inr ⟨b, o, cap, h1, h2, h3, fun i hi => ?_⟩
    have hc := h4 i hi
    rw [hb.cell (p := ⟨b, o + i, none⟩) (block_lt hc)]
    exact hc



end Go.Proofs.YtkpjfhphohanlaaGreatDoor
