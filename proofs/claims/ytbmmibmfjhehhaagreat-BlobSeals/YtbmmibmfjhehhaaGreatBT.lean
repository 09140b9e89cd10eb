/- BlobMeans: the mathematics, and the statements' May. -/
import Derived.Test.YtbmmibmfjhehhaaGreatBS
set_option linter.unusedVariables false
set_option linter.unusedSimpArgs false
namespace Go.Proofs.YtbmmibmfjhehhaaGreat.BC
open Go.RowKit

theorem rmay_any (pg c : Int) (w : World) : Calls Tryz.prog 9 #[.int .i64 pg, .int .u64 c] w fun e w' => e = .returned (.bool (mayB pg c)) ∧ w' = w := by
  by_cases h1 : 0 ≤ pg
  · by_cases h2 : pg < 128
    · by_cases h3 : c ≤ 4294967296
      · have hv : mayB pg c = true := decide_eq_true ⟨h1, h2, h3⟩
        rw [hv]
        clear hv
        go_enter Tryz.func9, Tryz.ntmps9
        go_wp2
        go_ret
        exact ⟨rfl, rfl⟩
      · have hv : mayB pg c = false := decide_eq_false (fun h => h3 h.2.2)
        rw [hv]
        clear hv
        go_enter Tryz.func9, Tryz.ntmps9
        go_wp2
        go_ret
        exact ⟨rfl, rfl⟩
    · have hv : mayB pg c = false := decide_eq_false (fun h => h2 h.2.1)
      rw [hv]
      clear hv
      go_enter Tryz.func9, Tryz.ntmps9
      go_wp2
      go_ret
      exact ⟨rfl, rfl⟩
  · have hv : mayB pg c = false := decide_eq_false (fun h => h1 h.1)
    rw [hv]
    clear hv
    go_enter Tryz.func9, Tryz.ntmps9
    go_wp2
    go_ret
    exact ⟨rfl, rfl⟩
theorem mayB_nat {pg c : Int} (h : mayB pg c = true) (hc : 0 ≤ c) : ∃ p n : Nat, pg = (p : Int) ∧ c = (n : Int) ∧ p < 128 ∧ n ≤ 4294967296 := by
  have := of_decide_eq_true h
  exact ⟨pg.toNat, c.toNat, by omega, by omega, by omega, by omega⟩
theorem qLeaf_inj {p c p2 c2 : Nat} {a b : List UInt8} (hp : p < 128) (hc : c ≤ 4294967296) (hp2 : p2 < 128) (hc2 : c2 ≤ 4294967296) (h : qLeaf p c a = qLeaf p2 c2 b) : p = p2 ∧ c = c2 ∧ a = b := by
  have hd : W1.le 8 p ++ (W1.le 8 c ++ a) = W1.le 8 p2 ++ (W1.le 8 c2 ++ b) := congrArg R5.Qn.data h
  obtain ⟨h1, h2⟩ := app_inj hd (by rw [W1.le_length, W1.le_length])
  obtain ⟨h3, h4⟩ := app_inj h2 (by rw [W1.le_length, W1.le_length])
  exact ⟨le_inj (by omega) (by omega) h1, le_inj (by omega) (by omega) h3, h4⟩
/-- Unlike leaves have unlike digests. -/
theorem means {D : List (List UInt8)} {L : Lg} (hd : dst D) (ha : ansOk D L) (hl : L.length < 900000) {p c p2 c2 : Nat} {a b : List UInt8} (hp : p < 128) (hc : c ≤ 4294967296) (hp2 : p2 < 128) (hc2 : c2 ≤ 4294967296) {x y z : List UInt8} {L3 L4 L5 : Lg}
    (h3 : nx2 true D L (qLeaf p c a) = (x, L3)) (h4 : nx2 true D L3 (qLeaf p2 c2 b) = (y, L4)) (h5 : nx2 true D L4 (qNone p2) = (z, L5)) :
    (x == y) = (decide (p = p2) && decide (c = c2) && (a == b)) ∧ (x == z) = false ∧ (y == z) = false := by
  have f3 := nx2_fnd true D L (qLeaf p c a)
  have f4 := nx2_fnd true D L3 (qLeaf p2 c2 b)
  have f5 := nx2_fnd true D L4 (qNone p2)
  obtain ⟨M4, e4⟩ := nx2_ext true D L3 (qLeaf p2 c2 b)
  obtain ⟨M5, e5⟩ := nx2_ext true D L4 (qNone p2)
  have a3 := ha.nx (qLeaf p c a)
  have l3 := nx2_len true D L (qLeaf p c a)
  have l4 := nx2_len true D L3 (qLeaf p2 c2 b)
  have l5 := nx2_len true D L4 (qNone p2)
  rw [h3] at f3 a3 l3
  have a4 := a3.nx (qLeaf p2 c2 b)
  rw [h4] at f4 e4 a4 l4
  have a5 := a4.nx (qNone p2)
  rw [h5] at f5 e5 a5 l5
  simp only at f3 f4 f5 e4 e5 a3 a4 a5 l3 l4 l5
  have g3 : R5.fndA (qLeaf p c a) L5 = some x := by rw [e5, e4, List.append_assoc]; exact fnd_app _ f3
  have g4 : R5.fndA (qLeaf p2 c2 b) L5 = some y := by rw [e5]; exact fnd_app _ f4
  have hl5 : L5.length < 1000000 := by omega
  refine ⟨?_, ?_, ?_⟩
  · by_cases h : x = y
    · subst h
      obtain ⟨e1, e2, e6⟩ := qLeaf_inj hp hc hp2 hc2 (fnd_inj hd a5 hl5 g3 g4)
      subst e1 e2 e6
      simp
    · have h1 : (x == y) = false := beq_eq_false_iff_ne.2 h
      rw [h1]
      by_cases e1 : p = p2
      · by_cases e2 : c = c2
        · by_cases e6 : a = b
          · subst e1 e2 e6
            rw [g3] at g4
            exact absurd (Option.some.inj g4) h
          · rw [beq_eq_false_iff_ne.2 e6]; simp
        · rw [decide_eq_false e2]; simp
      · rw [decide_eq_false e1]; simp
  · refine beq_eq_false_iff_ne.2 (fun h => ?_)
    subst h
    have := congrArg R5.Qn.dom (fnd_inj hd a5 hl5 g3 f5)
    exact absurd this (by show ¬ ((4 : Int) = 6); decide)
  · refine beq_eq_false_iff_ne.2 (fun h => ?_)
    subst h
    have := congrArg R5.Qn.dom (fnd_inj hd a5 hl5 g4 f5)
    exact absurd this (by show ¬ ((4 : Int) = 6); decide)
theorem infoMo (L : List Value) (h : L.length = 34) : (Tryz.prog.info? 26).map (·.size) = some L.length := by rw [h]; kernel_rfl
theorem moL_len (c : Mo) (dv : Value) (h : c.m.length = 32) : (moL c dv).length = 34 := by unfold moL; simp [h]
end Go.Proofs.YtbmmibmfjhehhaaGreat.BC
