/- Contracts of slices.Clone at bytes, and of wire's piece. -/
import Derived.Test.YtbmgfllilcdgcaaE1
import Derived.Lib.LazyBuf
set_option linter.unusedVariables false
set_option linter.unusedSimpArgs false
namespace Go.Proofs.Ytbmgfllilcdgcaa
open Go.RowKit

/-- A slice that holds bytes, with cells at its address. -/
theorem HB.cells {w : World} {v : Value} {l : List UInt8} (h : HB w v l) : ∃ p cap, v = .slice p l.length cap ∧ (p = none → l = [] ∧ cap = 0) ∧ (∀ a, p = some a → ∀ (j : Nat) u, (l.map B8)[j]? = some u → w.cell? (a.add j) = some u) := by
  rcases h with ⟨rfl, p, cap, rfl, hpc⟩ | ⟨b, o, cap, rfl, _, _, hc⟩
  · exact ⟨p, cap, rfl, fun h => ⟨rfl, hpc h⟩, fun a _ j u hu => by simp at hu⟩
  · refine ⟨_, cap, rfl, fun h => by simp at h, fun a ha j u hu => ?_⟩
    simp only [Option.some.injEq] at ha
    subst ha
    have hj : j < l.length := by
      have := (List.getElem?_eq_some_iff.1 hu).1
      simpa using this
    have hadd : (⟨b, o, none⟩ : Addr).add j = ⟨b, o + j, none⟩ := by unfold Addr.add; split <;> simp_all
    rw [hadd, hc j hj]
    rw [List.getElem?_map, List.getElem?_eq_getElem hj] at hu
    simp only [Option.map_some, Option.some.injEq] at hu
    rw [← hu]
    simp [B8, List.getD, List.getElem?_eq_getElem hj]

theorem B8_one (l : List UInt8) : ∀ u ∈ l.map B8, u.oneCell' = true := by
  intro u hu
  obtain ⟨x, _, rfl⟩ := List.mem_map.1 hu
  rfl

theorem cell_alloc_keep {w : World} {a : Addr} {u : Value} (o : Obj) (h : w.cell? a = some u) : (w.alloc o).cell? a = some u := by
  rw [World.cell?_of_block (w := w) (Below.heap_alloc w o a.block (block_lt h))]; exact h



end Go.Proofs.Ytbmgfllilcdgcaa
