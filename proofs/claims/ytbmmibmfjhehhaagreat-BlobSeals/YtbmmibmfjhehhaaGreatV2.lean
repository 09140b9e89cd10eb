/- Slices of words of 32 bits: what they hold; such of the call's own. -/
import Derived.Test.YtbmmibmfjhehhaaGreatU2
import Derived.Test.YtbmmibmfjhehhaaGreatWh
set_option linter.unusedVariables false
set_option linter.unusedSimpArgs false
namespace Go.Proofs.YtbmmibmfjhehhaaGreat
open Go.RowKit

def W32 (x : UInt32) : Value := .int .u32 (U x)
def HW (w : World) (v : Value) (l : List UInt32) : Prop := ∃ p cap, v = .slice p l.length cap ∧ ∀ i, i < l.length → ∃ b o, p = some ⟨b, o, none⟩ ∧ w.cell? ⟨b, o + i, none⟩ = some (W32 (l.getD i 0))
def FW (base : Nat) (w : World) (v : Value) (l : List UInt32) : Prop := w.ownsRow base 101 1 v l.length (l.map W32)

theorem Tryz.infoU32 : (Tryz.prog.info? 101).map (fun i => (i.zero, i.size, i.bytes)) = some (some (.int .u32 0), 1, 4) := by kernel_rfl

theorem FW.block {base : Nat} {w : World} {v : Value} {l : List UInt32} (h : FW base w v l) (hl : 0 < l.length) : ∃ g cap, v = .slice (some ⟨g, 0, none⟩) l.length cap ∧ l.length ≤ cap ∧ cap ≤ maxLen := by
  rcases h.2 with ⟨h1, h2⟩ | ⟨g, cap, cur, h1, h2, h3, h4, h5, _⟩
  · omega
  · exact ⟨g, cap, h1, h4, h5⟩
theorem FW.cell {base g cap : Nat} {w : World} {l : List UInt32} (h : FW base w (.slice (some ⟨g, 0, none⟩) l.length cap) l) (i : Nat) (hi : i < l.length) : w.cell? ⟨g, i, none⟩ = some (.int .u32 (U (l.getD i 0))) := by
  have := h.cellAt (g := g) i (by omega)
  rw [this, List.getElem?_map, List.getElem?_eq_getElem hi]
  simp [W32, List.getD, List.getElem?_eq_getElem hi]


theorem FW.hw {base : Nat} {w : World} {v : Value} {l : List UInt32} (h : FW base w v l) : HW w v l := by
  rcases h.2 with ⟨h1, h2⟩ | ⟨g, cap, cur, h1, h2, h3, h4, h5, h6, h7⟩
  · exact ⟨none, 0, by rw [h1, h2], fun i hi => by omega⟩
  · subst h1
    exact ⟨_, cap, rfl, fun i hi => ⟨g, 0, rfl, by rw [Nat.zero_add]; exact h.cell i hi⟩⟩

end Go.Proofs.YtbmmibmfjhehhaaGreat
