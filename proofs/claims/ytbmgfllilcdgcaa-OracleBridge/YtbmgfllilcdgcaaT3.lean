/- Contract of sha's Pad. -/
import Derived.Test.YtbmgfllilcdgcaaQ3
set_option linter.unusedVariables false
set_option linter.unusedSimpArgs false
namespace Go.Proofs.Ytbmgfllilcdgcaa
open Go.RowKit

theorem two_cells (X : World) (n : Nat) (a b : Value) (la lb : List UInt8) (hn : n = X.heap.size) (ha : HB (X.alloc (.cells #[a, b] 31)) a la) (hb : HB (X.alloc (.cells #[a, b] 31)) b lb) :
    ∀ i, i < [la, lb].length → ∃ u, (X.alloc (.cells #[a, b] 31)).cell? ⟨n, i, none⟩ = some u ∧ HB (X.alloc (.cells #[a, b] 31)) u ([la, lb].getD i []) := by
  intro i hi
  subst hn
  rcases (show i = 0 ∨ i = 1 by simp at hi; omega) with rfl | rfl
  · exact ⟨a, cell_of_row _ _ 0 _ _ _ (heap_alloc_new X _), ha⟩
  · exact ⟨b, cell_of_row _ _ 1 _ _ _ (heap_alloc_new X _), hb⟩

set_option maxHeartbeats 1000000 in
theorem shaPad_any (v : Value) (l : List UInt8) (w : World) (hr : l.length ≤ 4294967296) (h : HB w v l) :
    Calls Try.prog 51 #[v] w fun e w' => ∃ v', e = .returned v' ∧ FB w.heap.size w' v' (padL l) ∧ Below w.heap.size w w' := by
  have HV : Hid _ := h
  obtain ⟨p, cap, rfl, _, _⟩ := h.cells'
  have hfl : [l, padT l.length].flatten.length ≤ 1099511627776 := by
    unfold padT zeros; simp [be8]; omega
  have HFL : Hid _ := hfl
  have HPL : Hid _ := show padL l = [l, padT l.length].flatten by rw [padL_eq]; simp
  clear h hfl
  go_enter Try.func51, Try.ntmps51
  go_wp2_with fail
  refine (padding_any l.length _ (by omega)).mono ?_
  rintro e w1 ⟨v1, rfl, hf1, hb1⟩
  have hs1 := hb1.size
  have HV1 : Hid _ := HB.below HV.out hb1
  obtain ⟨p1, c1, rfl⟩ := hf1.form'
  have HF1 : Hid _ := hf1.hb
  clear hf1
  go_wp2_with fail
  refine (join_under w.heap.size _ _ [l, padT l.length] w _ (below_alloc (by omega) hb1 _) (by simp; omega) (by simp) HFL.out (two_cells _ _ _ _ _ _ rfl (HB.alloc HV1.out _) (HB.alloc HF1.out _))).mono ?_
  rintro e wj ⟨vj, rfl, hfJ, hbJ⟩
  go_wp2
  go_ret
  rw [HPL.out]
  exact ⟨_, rfl, hfJ, hbJ⟩

end Go.Proofs.Ytbmgfllilcdgcaa
