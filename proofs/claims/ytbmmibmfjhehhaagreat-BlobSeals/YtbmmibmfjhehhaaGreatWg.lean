/- Several texts in one. -/
import Derived.Test.YtbmmibmfjhehhaaGreatWh
import Derived.Lib.LazyBuf
import Derived.Test.YtbmmibmfjhehhaaGreatY4
import Derived.Laws.BitsAllLaws
set_option linter.unusedVariables false
set_option linter.unusedSimpArgs false
/- Contract of the reference's Hex. -/
namespace Go.Proofs.YtbmmibmfjhehhaaGreat
open Go.RowKit

end Go.Proofs.YtbmmibmfjhehhaaGreat

/- Contract of wire's Unhex. -/
namespace Go.Proofs.YtbmmibmfjhehhaaGreat
open Go.RowKit


end Go.Proofs.YtbmmibmfjhehhaaGreat

/- Contracts of slices.Clone at bytes, and of wire's piece. -/
namespace Go.Proofs.YtbmmibmfjhehhaaGreat
open Go.RowKit

theorem HB.cells {w : World} {v : Value} {l : List UInt8} (h : HB w v l) : ∃ p cap, v = .slice p l.length cap ∧ (p = none → l = [] ∧ cap = 0) ∧ (∀ a, p = some a → ∀ (j : Nat) u, (l.map B8)[j]? = some u → w.cell? (a.add j) = some u) := by
  rcases h with ⟨rfl, p, cap, rfl, hpc⟩ | ⟨b, o, cap, rfl, _, _, hc⟩
  · exact ⟨p, cap, rfl, fun h => ⟨rfl, hpc h⟩, fun a _ j u hu => by simp at hu⟩
  · refine ⟨_, cap, rfl, fun h => by simp at h, fun a ha j u hu => ?_⟩
    simp only [Option.some.injEq] at ha
    subst ha
    have hj : j < l.length := by
      have := (List.getElem?_eq_some_iff.1 hu).1
      simpa using this
    have hadd : (⟨b, o, none⟩ : Addr).add j = ⟨b, o + j, none⟩ := by unfold Addr.add; split <;> simp_all
    rw [hadd, hc j hj]
    rw [List.getElem?_map, List.getElem?_eq_getElem hj] at hu
    simp only [Option.map_some, Option.some.injEq] at hu
    rw [← hu]
    simp [B8, List.getD, List.getElem?_eq_getElem hj]

theorem B8_one (l : List UInt8) : ∀ u ∈ l.map B8, u.oneCell' = true := by
  intro u hu
  obtain ⟨x, _, rfl⟩ := List.mem_map.1 hu
  rfl

end Go.Proofs.YtbmmibmfjhehhaaGreat

/- Contracts of mac's keyBlock, Tag and its closure. -/
namespace Go.Proofs.YtbmmibmfjhehhaaGreat
open Go.RowKit

theorem shaL_len (l : List UInt8) : (shaL l).length = 32 := dig8_len _
def keyL (key : List UInt8) : List UInt8 := if 64 < key.length then shaL key else key
def kblk (key : List UInt8) : List UInt8 := keyL key ++ List.replicate (64 - (keyL key).length) 0
def macL (key b : List UInt8) : List UInt8 := shaL ((kblk key).map (· ^^^ 92) ++ shaL ((kblk key).map (· ^^^ 54) ++ b))
theorem macL_len (key b : List UInt8) : (macL key b).length = 32 := shaL_len _

theorem sliceDig (w : World) (b : Nat) : (Instr.sliceAt 23 (.pointer (some ⟨b, 0, none⟩)) none none none).run Tryz.prog w = .ok (.slice (some ⟨b, 0, none⟩) 32 32) w := by
  have ha : Tryz.prog.arrayLen 23 = 32 := by kernel_rfl
  have hu : Tryz.prog.underlying 23 = some (.array (Tryz.prog.arrayLen 23) (Tryz.prog.elem 23)) := by kernel_rfl
  have he : Tryz.prog.elem 23 = 5 := by kernel_rfl
  rw [run_sliceAt_array_all w 23 _ hu, he, size_u8, ha]
  have hadd : (⟨b, 0, none⟩ : Addr).add (0 * 1) = ⟨b, 0, none⟩ := by unfold Addr.add; split <;> simp_all
  simp only [Result.andThen, slicedAt]
  rw [if_neg (by decide), hadd]

end Go.Proofs.YtbmmibmfjhehhaaGreat

/- Contracts of mac's Tag and its closure. -/
namespace Go.Proofs.YtbmmibmfjhehhaaGreat
open Go.RowKit

end Go.Proofs.YtbmmibmfjhehhaaGreat
