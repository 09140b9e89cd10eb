/- rec: contracts of the statements' may and word. -/
import Derived.Test.YtpdafjamhccbnaaCM
import Derived.Test.YtpdafjamhccbnaaCK
import Derived.Deep.Cut
set_option linter.unusedVariables false
set_option linter.unusedSimpArgs false
namespace Go.Proofs.Ytpdafjamhccbnaa.VC
open Go.RowKit

theorem bld4 (W : World) : (Instr.build 29 #[]).run Try.prog W = .ok (.agg (Z4.map U).toArray) W := by kernel_rfl
set_option maxHeartbeats 4000000 in
set_option maxRecDepth 100000 in
theorem lmay_any (o : Ot) (ho : ook o) (w : World) : Calls Try.prog 16 #[.agg (oL o).toArray] w fun e w' => e = .returned (.bool (mt o)) ∧ Below w.heap.size w w' := by
  have R0 := (RS.start w).alloc _ rfl 40 (oL o)
  have h4 := ho.n.len
  have hc0 := R0.cell 0 rfl 0 (oL_re o)
  have hc7 := R0.cell 0 rfl 7 (oL_ran h4)
  have hc5 := R0.cell 0 rfl 5 (oL_ad h4)
  have hc6 := R0.cell 0 rfl 6 (oL_wr h4)
  have hr := rangeAt_part (rangeAt_row (R0.at 0 rfl)) 1 4
  rw [oL_ns h4, Nat.zero_add] at hr
  have HRG : Hid _ := hr
  have HB : Hid _ := R0.bel
  have HNL : Hid ((o.ns.map U).length = 4) := by show _ = _; simpa using h4
  have HB4 : Hid _ := bld4
  have hq := fun W => eq_four W o.ns Z4 h4 rfl _ rfl
  have HMT : Hid (mt o = (isRe o.re && decide (0 ≤ o.ran ∧ o.ran ≤ 10000) && ((decide (o.re = 2) || o.ns == Z4) && (decide (o.re = 3) || (decide (o.ad = 0) && !o.wr))))) := rfl
  generalize mt o = MT at *
  generalize (o.ns == Z4) = NB at *
  generalize o.ns.map U = NL at *
  generalize Z4.map U = ZN at *
  generalize oL o = OL at *
  generalize o.re = re at *
  generalize o.ran = ran at *
  generalize o.ad = ad at *
  generalize o.wr = wr at *
  clear hr R0 h4 ho
  by_cases h1 : re < 1
  · have HM2 : Hid (false = MT) := by show _ = _; rw [HMT.out]; unfold isRe; rw [decide_eq_false (by omega)]; simp
    have hd1 : decide (re < 1) = true := decide_eq_true h1
    clear HMT h1
    go_enter Try.func16, Try.ntmps16
    go_wp2
    go_ret
    exact ⟨ret_bool HM2.out, HB.out⟩
  have hd1 : decide (re < 1) = false := decide_eq_false h1
  by_cases h5 : 5 < re
  · have HM2 : Hid (false = MT) := by show _ = _; rw [HMT.out]; unfold isRe; rw [decide_eq_false (by omega)]; simp
    have hd2 : decide (5 < re) = true := decide_eq_true h5
    clear HMT h1 h5
    go_enter Try.func16, Try.ntmps16
    go_wp2
    go_ret
    exact ⟨ret_bool HM2.out, HB.out⟩
  have hd2 : decide (5 < re) = false := decide_eq_false h5
  by_cases h6 : ran < 0
  · have HM2 : Hid (false = MT) := by show _ = _; rw [HMT.out, decide_eq_false (show ¬ (0 ≤ ran ∧ ran ≤ 10000) by omega)]; simp
    have hd3 : decide (ran < 0) = true := decide_eq_true h6
    clear HMT h1 h5 h6
    go_enter Try.func16, Try.ntmps16
    go_wp2
    go_ret
    exact ⟨ret_bool HM2.out, HB.out⟩
  have hd3 : decide (ran < 0) = false := decide_eq_false h6
  by_cases h7 : 10000 < ran
  · have HM2 : Hid (false = MT) := by show _ = _; rw [HMT.out, decide_eq_false (show ¬ (0 ≤ ran ∧ ran ≤ 10000) by omega)]; simp
    have hd4 : decide (10000 < ran) = true := decide_eq_true h7
    clear HMT h1 h5 h6 h7
    go_enter Try.func16, Try.ntmps16
    go_wp2
    go_ret
    exact ⟨ret_bool HM2.out, HB.out⟩
  have hd4 : decide (10000 < ran) = false := decide_eq_false h7
  have HM3 : Hid (MT = ((decide (re = 2) || NB) && (decide (re = 3) || (decide (ad = 0) && !wr)))) := by
    show _ = _; rw [HMT.out, decide_eq_true (show 0 ≤ ran ∧ ran ≤ 10000 by omega)]; unfold isRe; rw [decide_eq_true (by omega)]; simp
  clear HMT h1 h5 h6 h7
  by_cases e3 : re = 3
  · subst e3
    cases NB
    · have HM4 : Hid (false = MT) := by show _ = _; rw [HM3.out]; rfl
      clear HM3
      go_enter Try.func16, Try.ntmps16
      go_wp2_with (first
        | (refine load_mid_g (by rfl) 29 (.tmp 25) rfl w.heap.size 1 rfl NL _ HRG.out Try.underlying29 rfl (info4r NL HNL.out) ?_)
        | (refine build_g (by rfl) 29 #[] rfl #[] (.agg ZN.toArray) (by simp [Act.eval]) (HB4.out _) ?_))
      go_ret
      exact ⟨ret_bool HM4.out, HB.out⟩
    · have HM4 : Hid (true = MT) := by show _ = _; rw [HM3.out]; rfl
      clear HM3
      go_enter Try.func16, Try.ntmps16
      go_upto_region 5 with (first
        | (refine load_mid_g (by rfl) 29 (.tmp 25) rfl w.heap.size 1 rfl NL _ HRG.out Try.underlying29 rfl (info4r NL HNL.out) ?_)
        | (refine build_g (by rfl) 29 #[] rfl #[] (.agg ZN.toArray) (by simp [Act.eval]) (HB4.out _) ?_))
      go_wp2
      go_ret
      exact ⟨ret_bool HM4.out, HB.out⟩
  have hb3 : (re == 3) = false := by simpa using e3
  obtain ⟨AB, hAB⟩ : ∃ b, (ad == 0) = b := ⟨_, rfl⟩
  have HM5 : Hid (MT = ((decide (re = 2) || NB) && (AB && !wr))) := by
    show _ = _; rw [HM3.out, decide_eq_false e3, ← hAB]; rfl
  clear HM3
  by_cases e2 : re = 2
  · subst e2
    have HM6 : Hid ((AB && !wr) = MT) := by show _ = _; rw [HM5.out]; simp
    clear HM5 e3
    cases AB <;> cases wr
    all_goals
      go_enter Try.func16, Try.ntmps16
      go_wp2
      go_ret
      exact ⟨ret_bool HM6.out, HB.out⟩
  · have hb2 : (re != 2) = true := by simpa using e2
    have HM6 : Hid ((NB && (AB && !wr)) = MT) := by show _ = _; rw [HM5.out, decide_eq_false e2]; simp
    clear HM5 e3 e2
    cases NB
    · have HM7 : Hid (false = MT) := by show _ = _; rw [← HM6.out]; rfl
      clear HM6
      go_enter Try.func16, Try.ntmps16
      go_wp2_with (first
        | (refine load_mid_g (by rfl) 29 (.tmp 25) rfl w.heap.size 1 rfl NL _ HRG.out Try.underlying29 rfl (info4r NL HNL.out) ?_)
        | (refine build_g (by rfl) 29 #[] rfl #[] (.agg ZN.toArray) (by simp [Act.eval]) (HB4.out _) ?_))
      go_ret
      exact ⟨ret_bool HM7.out, HB.out⟩
    · cases AB <;> cases wr
      all_goals
        go_enter Try.func16, Try.ntmps16
        go_upto_region 5 with (first
          | (refine load_mid_g (by rfl) 29 (.tmp 25) rfl w.heap.size 1 rfl NL _ HRG.out Try.underlying29 rfl (info4r NL HNL.out) ?_)
          | (refine build_g (by rfl) 29 #[] rfl #[] (.agg ZN.toArray) (by simp [Act.eval]) (HB4.out _) ?_))
        go_wp2
        go_ret
        exact ⟨ret_bool HM6.out, HB.out⟩
end Go.Proofs.Ytpdafjamhccbnaa.VC
