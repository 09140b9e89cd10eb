/- Contracts of the law's hex and known. -/
import Derived.Test.YtojafgilpnnbiaaI3
import Derived.Test.YtojafgilpnnbiaaH3
import Derived.Test.YtojafgilpnnbiaaG4
set_option linter.unusedVariables false
set_option linter.unusedSimpArgs false
namespace Go.Proofs.Ytojafgilpnnbiaa
open Go.RowKit

theorem sliceDig (w : World) (b : Nat) : (Instr.sliceAt 25 (.pointer (some ⟨b, 0, none⟩)) none none none).run Try.prog w = .ok (.slice (some ⟨b, 0, none⟩) 32 32) w := by
  have ha : Try.prog.arrayLen 25 = 32 := by kernel_rfl
  have hu : Try.prog.underlying 25 = some (.array (Try.prog.arrayLen 25) (Try.prog.elem 25)) := by kernel_rfl
  have hz : (sizeOf (Try.prog.elem 25)).run Try.prog w = .ok 1 w := by
    obtain ⟨i0, hi, hz0, hz1, hz2⟩ := info_parts Try.infoU8
    have he : Try.prog.elem 25 = 5 := by kernel_rfl
    rw [he]
    simp [sizeOf, typeInfo, hi, hz1]
  rw [run_sliceAt_array_all w 25 _ hu, hz, ha]
  have hadd : (⟨b, 0, none⟩ : Addr).add (0 * 1) = ⟨b, 0, none⟩ := by unfold Addr.add; split <;> simp_all
  simp only [Result.andThen, slicedAt]
  rw [if_neg (by decide), hadd]

set_option maxHeartbeats 1000000 in
theorem lawHex_any (d : List UInt8) (want : ByteArray) (w : World) (h32 : d.length = 32) (hw : want = txt (W1.hex d)) :
    Calls Try.prog 30 #[.agg (d.map B8).toArray, .string want] w fun e w' => e = .returned (.bool true) ∧ Below w.heap.size w w' := by
  obtain ⟨DA, hDA⟩ : ∃ DA, DA = (d.map B8).toArray := ⟨_, rfl⟩
  rw [← hDA, hw]
  have hc : ∀ (W : World) (o : TypeId), W.heap[w.heap.size]? = some (.cells DA o (0, 0)) → ∀ i, i < d.length → W.cell? ⟨w.heap.size, 0 + i, none⟩ = some (.int .u8 ((d.getD i 0).toNat : Int)) := fun W o hW i hi => by
    rw [Nat.zero_add, cell_of_row _ _ i _ _ _ hW, hDA]
    simp [B8, List.getD, List.getElem?_eq_getElem hi]
  have hhx := fun W hcc => hexr_some w.heap.size 0 32 d W (by omega) hcc
  rw [h32] at hhx
  generalize txt (W1.hex d) = T at *
  have hsl := fun W => sliceDig W w.heap.size
  have HC : Hid _ := hc
  clear hDA hc hw
  go_enter Try.func30, Try.ntmps30
  go_wp2_with fail
  refine (hhx _ (by rw [← h32]; exact HC.out _ _ (heap_alloc_new _ _))).mono ?_
  rintro e w1 ⟨rfl, hb1⟩
  have hbw : Below w.heap.size w w1 := ((Below.refl _ _).alloc (Nat.le_refl _) _).trans (hb1.mono (by simp))
  go_wp2
  go_ret
  exact ⟨retB (by simp), hbw⟩

end Go.Proofs.Ytojafgilpnnbiaa
