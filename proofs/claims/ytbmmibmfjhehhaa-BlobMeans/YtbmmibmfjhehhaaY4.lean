/- Contract of ref's Sum. -/
import Derived.Test.YtbmmibmfjhehhaaR4
import Derived.Test.YtbmmibmfjhehhaaF3
import Derived.Lib.SlBytesRow
import Derived.Laws.CopyOwn
import Derived.Deep.RegionLaw
set_option linter.unusedVariables false
set_option linter.unusedSimpArgs false
namespace Go.Proofs.Ytbmmibmfjhehhaa
open Go.RowKit

theorem splice_all {α : Type} (Z cs : List α) (h : cs.length = Z.length) : splice Z 0 cs = cs := by
  unfold splice
  simp [h]
theorem start_nat (k : Nat) (h : k < 8) : U (start (k : Int)) = U (H8.getD k 0) := by
  unfold start
  rw [if_pos ⟨by omega, by omega⟩]
  simp
theorem B8_one1 (l : List UInt8) : ∀ v ∈ l.map B8, v.oneCell' = true := by
  intro v hv
  simp only [List.mem_map] at hv
  obtain ⟨x, _, rfl⟩ := hv
  rfl
theorem sliceBlk (w : World) (b : Nat) : (Instr.sliceAt 105 (.pointer (some ⟨b, 0, none⟩)) none none none).run Try.prog w = .ok (.slice (some ⟨b, 0, none⟩) 64 64) w := by
  have ha : Try.prog.arrayLen 105 = 64 := by kernel_rfl
  have hu : Try.prog.underlying 105 = some (.array (Try.prog.arrayLen 105) (Try.prog.elem 105)) := by kernel_rfl
  have he : Try.prog.elem 105 = 5 := by kernel_rfl
  rw [run_sliceAt_array_all w 105 _ hu, he, size_u8, ha]
  have hadd : (⟨b, 0, none⟩ : Addr).add (0 * 1) = ⟨b, 0, none⟩ := by unfold Addr.add; split <;> simp_all
  simp only [Result.andThen, slicedAt]
  rw [if_neg (by decide), hadd]
theorem sliceWin (w : World) (g n cap k : Nat) (h : 64 * k + 64 ≤ cap) : (Instr.slice 57 (.slice (some ⟨g, 0, none⟩) n cap) (some (.int .i64 (64 * (k : Int)))) (some (.int .i64 (64 * (k : Int) + 64))) none).run Try.prog w = .ok (.slice (some ⟨g, 64 * k, none⟩) 64 (cap - 64 * k)) w := by
  have := Lib.run_slice_window (P := Try.prog) w 57 5 Try.underlying57 size_u8 g 0 n cap (64 * k) (64 * k + 64) (by omega) h
  rw [show (64 * k + 64) - 64 * k = 64 by omega, Nat.zero_add] at this
  simpa using this
theorem sliceWinA (w : World) (g n cap k : Nat) (h : 64 * k + 64 ≤ cap) : (Instr.sliceAt 57 (.slice (some ⟨g, 0, none⟩) n cap) (some (.int .i64 (64 * (k : Int)))) (some (.int .i64 (64 * (k : Int) + 64))) none).run Try.prog w = .ok (.slice (some ⟨g, 64 * k, none⟩) 64 (cap - 64 * k)) w := by
  rw [run_sliceAt_slice w 57 _ _ _ _ (by kernel_rfl)]; exact sliceWin w g n cap k h

end Go.Proofs.Ytbmmibmfjhehhaa
