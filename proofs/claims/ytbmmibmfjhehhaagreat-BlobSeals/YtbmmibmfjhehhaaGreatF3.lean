/- Contracts of sha's Sum, Constant, Start, Press. -/
import Derived.Test.YtbmmibmfjhehhaaGreatWe
import Derived.Test.YtbmmibmfjhehhaaGreatWf
set_option linter.unusedVariables false
set_option linter.unusedSimpArgs false
namespace Go.Proofs.YtbmmibmfjhehhaaGreat
open Go.RowKit

theorem padL_mod (l : List UInt8) : (padL l).length % 64 = 0 := by
  unfold padL zeros; simp [be8]; omega
theorem padL_pos (l : List UInt8) : 0 < (padL l).length := by unfold padL; simp [be8]; omega
theorem padL_le (l : List UInt8) : (padL l).length ≤ l.length + 72 := by unfold padL zeros; simp [be8]; omega
def shaL (l : List UInt8) : List UInt8 := dig8 (pAll H8 (padL l) ((padL l).length / 64))

set_option maxHeartbeats 1000000 in
theorem shaSum_any (v : Value) (l : List UInt8) (w : World) (hr : l.length ≤ 4294967296) (h : HB w v l) :
    Calls Tryz.prog 70 #[v] w fun e w' => e = .returned (.agg ((shaL l).map B8).toArray) ∧ Below w.heap.size w w' := by
  have hst := fun W => shaStarts_any W
  have hm := padL_mod l
  have hp := padL_pos l
  have hle := padL_le l
  obtain ⟨RS, hRS⟩ : ∃ RS, RS = ((shaL l).map B8).toArray := ⟨_, rfl⟩
  have hdg := fun W => digest_any (pAll H8 (padL l) ((padL l).length / 64)) W (pAll_len _ _ _ rfl)
  have hdg' : ∀ W, Calls Tryz.prog 82 #[.agg ((pAll H8 (padL l) ((padL l).length / 64)).map W32).toArray] W fun e w' => e = .returned (.agg RS) ∧ Below W.heap.size W w' := by rw [hRS]; exact hdg
  have hRl : RS.size = 32 := by rw [hRS]; simp [shaL, dig8_len]
  have hri : (Tryz.prog.info? 23).map (·.size) = some RS.size := by rw [hRl]; kernel_rfl
  have hr1 : RS.all (·.oneCell') = true := by rw [hRS]; exact B8_onea _
  have hpa := fun g cap W => pressAll_some H8 rfl g cap (padL l) W hp hm (by omega)
  rw [← hRS]
  generalize pAll H8 (padL l) ((padL l).length / 64) = SP at *
  obtain ⟨HC, hHC⟩ : ∃ HC, HC = (H8.map W32).toArray := ⟨_, rfl⟩
  rw [← hHC] at hst hpa
  have HV : Hid _ := h
  have HRI : Hid _ := hri
  have HR1 : Hid _ := hr1
  have HR8 : Hid _ := hRl.symm
  have hpl0 : (padL l).length ≠ 0 := by omega
  clear h hri hr1 hRl hRS hHC hdg
  go_enter Tryz.func70, Tryz.ntmps70
  go_wp2_with fail
  refine (hst _).mono ?_
  rintro e w1 ⟨rfl, hb1⟩
  have g0 := below_blk hb1 (i := w.heap.size) (by simp) (heap_alloc_new _ _)
  have hw1 : Below w.heap.size w w1 := ((Below.refl _ _).alloc (Nat.le_refl _) _).trans (hb1.mono (by simp))
  have hs1 : w.heap.size + 1 ≤ w1.heap.size := by have := hb1.size; simpa using this
  have HV1 : Hid _ := HB.below HV.out hw1
  have G0 : Hid _ := g0
  clear g0 hb1 hst
  go_wp2_with fail
  refine (shaPad_any v l w1 hr HV1.out).mono ?_
  rintro e w2 ⟨v2, rfl, hf2, hb2⟩
  have hs2 := hb2.size
  have hw2 : Below w.heap.size w w2 := hw1.trans (hb2.mono (by omega))
  have g0 := (hb2.block w.heap.size (by omega)).trans G0.out
  have G2 : Hid _ := g0
  clear g0 G0
  have hfc := hf2
  rcases hf2.2 with ⟨h1, h2⟩ | ⟨g, cap, cur, h1, h2, h3, h4, h5, h6⟩
  · exact absurd h2 hpl0
  subst h1
  have hcel : ∀ i, i < (padL l).length → w2.cell? ⟨g, i, none⟩ = some (.int .u8 (((padL l).getD i 0).toNat : Int)) := fun i hi => by
    have := hfc.cellAt (g := g) i (by omega)
    rw [this, List.getElem?_map, List.getElem?_eq_getElem hi]
    simp [B8, List.getD, List.getElem?_eq_getElem hi]
  have hpa2 := hpa g cap w2 h4 h5 hcel
  clear hpa hf2 hfc h2 h3 h6 hcel hb2
  go_wp2_with fail
  refine hpa2.mono ?_
  rintro e w3 ⟨rfl, hb3⟩
  have hs3 := hb3.size
  have g0 := (hb3.block w.heap.size (by omega)).trans G2.out
  have G3 : Hid _ := g0
  have hw3 : Below w.heap.size w w3 := hw2.trans (hb3.mono (by omega))
  clear g0 G2 hb3
  go_wp2_with fail
  refine (hdg' _).mono ?_
  rintro e w4 ⟨rfl, hb4⟩
  have g0 := (hb4.block w.heap.size (by omega)).trans G3.out
  have G4 : Hid _ := g0
  have hw4 : Below w.heap.size w w4 := hw3.trans (hb4.mono (by omega))
  clear g0 G3 hb4
  go_wp2_with (refine wpList_store_row rfl 23 _ _ rfl w.heap.size _ rfl rfl 23 _ G4.out HRI.out HR8.out HR1.out ?_)
  refine bodyPost_ret (v := .agg RS) ?_ rfl ⟨rfl, below_setRow hw4 (Nat.le_refl _) _⟩
  exact results_cell_row Tryz.results70 _ _ w.heap.size 23 _ (0, 0) _ rfl (setRow_heap _ _ _ _ _ _ G4.out) Tryz.underlying23 rfl HRI.out

end Go.Proofs.YtbmmibmfjhehhaaGreat
