/- granule: what is found in the map of steps; contracts of both Mays, New, Row, Host. -/
import Derived.Test.YtpmbbnmpldeajaaKC
set_option linter.unusedVariables false
set_option linter.unusedSimpArgs false
namespace Go.Proofs.Ytpmbbnmpldeajaa.GC
open Go.RowKit

/-- Is it a step? -/
def mayB (f t : Int) : Bool := decide ((f = 0 ∧ t = 1) ∨ (f = 1 ∧ t = 0) ∨ (f = 1 ∧ 2 ≤ t ∧ t ≤ 5) ∨ (2 ≤ f ∧ f ≤ 5 ∧ t = 1))
def owB (f t : Int) : Bool := decide (f = 1 ∧ 2 ≤ t ∧ t ≤ 5)
def loB (f t : Int) : Bool := decide (t = 1 ∧ (f = 0 ∨ (2 ≤ f ∧ f ≤ 5)))
theorem ST_may : ∀ i ∈ IL, mayB (ST i).1 (ST i).2.1 = true ∧ owB (ST i).1 (ST i).2.1 = (ST i).2.2.1 ∧ loB (ST i).1 (ST i).2.1 = (ST i).2.2.2 := by decide
theorem mayB_ex {f t : Int} (h : mayB f t = true) : ∃ i ∈ IL, (ST i).1 = f ∧ (ST i).2.1 = t := by
  unfold mayB at h
  simp only [decide_eq_true_eq] at h
  rcases h with ⟨rfl, rfl⟩ | ⟨rfl, rfl⟩ | ⟨rfl, h1, h2⟩ | ⟨h1, h2, rfl⟩
  · exact ⟨3, by decide, rfl, rfl⟩
  · exact ⟨6, by decide, rfl, rfl⟩
  · have : t = 2 ∨ t = 3 ∨ t = 4 ∨ t = 5 := by omega
    rcases this with rfl | rfl | rfl | rfl
    · exact ⟨9, by decide, rfl, rfl⟩
    · exact ⟨12, by decide, rfl, rfl⟩
    · exact ⟨15, by decide, rfl, rfl⟩
    · exact ⟨18, by decide, rfl, rfl⟩
  · have : f = 2 ∨ f = 3 ∨ f = 4 ∨ f = 5 := by omega
    rcases this with rfl | rfl | rfl | rfl
    · exact ⟨21, by decide, rfl, rfl⟩
    · exact ⟨24, by decide, rfl, rfl⟩
    · exact ⟨27, by decide, rfl, rfl⟩
    · exact ⟨30, by decide, rfl, rfl⟩
theorem owB_no {f t : Int} (h : mayB f t = false) : owB f t = false := by
  unfold mayB at h; unfold owB
  simp only [decide_eq_false_iff_not] at h ⊢
  omega
theorem loB_no {f t : Int} (h : mayB f t = false) : loB f t = false := by
  unfold mayB at h; unfold loB
  simp only [decide_eq_false_iff_not] at h ⊢
  omega
theorem owB_yes {f t : Int} (h : mayB f t = true) : owB f t = decide (2 ≤ t) := by
  unfold mayB at h; unfold owB
  simp only [decide_eq_true_eq] at h
  rw [decide_eq_decide]
  omega
theorem loB_yes {f t : Int} (h : mayB f t = true) : loB f t = decide (f ≠ 1) := by
  unfold mayB at h; unfold loB
  simp only [decide_eq_true_eq] at h
  rw [decide_eq_decide]
  omega
theorem zero_step (w : World) : (zeroValue 58).run Try.prog w = .ok (sV false false) w := by kernel_rfl
theorem sm_look {w : World} {mb : Nat} (h : SM w mb) (f t : Int) (hf : (Lit.int .i64 f).wf = true) (ht : (Lit.int .i64 t).wf = true) :
    (Instr.lookup 60 (.map (some mb)) (kV f t) true).run Try.prog w = .ok (.tuple #[sV (owB f t) (loB f t), .bool (mayB f t)]) w := by
  obtain ⟨es, clock, h1, h2⟩ := h
  obtain ⟨kl, hk⟩ := key_ok f t hf ht
  have hmem : ∀ e ∈ es.toList, ∃ j ∈ IL, e.key = (ek j).1 ∧ e.val = (ek j).2 := fun e he => by
    have := h2.subset (List.mem_map.2 ⟨e, he, rfl⟩)
    obtain ⟨j, hj, hje⟩ := List.mem_map.1 this
    exact ⟨j, hj, by rw [hje], by rw [hje]⟩
  rcases lawK.find w hk es.toList (fun e he => by obtain ⟨j, hj, e1, _⟩ := hmem e he; rw [e1]; exact key_ok _ _ (ST_wf j hj).1 (ST_wf j hj).2) with ⟨hr, hn⟩ | ⟨j, e, hr, hj, he⟩
  · have hm : mayB f t = false := by
      cases hq : mayB f t with
      | false => rfl
      | true =>
        exfalso
        obtain ⟨i, hi, e1, e2⟩ := mayB_ex hq
        have := h2.symm.subset (List.mem_map.2 ⟨i, hi, rfl⟩)
        obtain ⟨e, he, hee⟩ := List.mem_map.1 this
        refine hn e he ?_
        have : e.key = (ek i).1 := by rw [← hee]
        rw [this]
        unfold ek
        rw [e1, e2]
    rw [owB_no hm, loB_no hm, hm]
    simp [Instr.lookup, run_underlying Try.underlying60, MapKept.run_getObj_map h1, lawK.check w _ hk, hr, zero_step, Result.andThen]
    rfl
  · obtain ⟨i, hi, e1, e2⟩ := hmem e (List.mem_of_getElem? hj)
    obtain ⟨e3, e4⟩ := kV_inj (e1.symm.trans he)
    obtain ⟨m1, m2, m3⟩ := ST_may i hi
    rw [e3, e4] at m1 m2 m3
    rw [m1, m2, m3]
    have e5 : e.val = sV (ST i).2.2.1 (ST i).2.2.2 := e2
    simp [Instr.lookup, run_underlying Try.underlying60, MapKept.run_getObj_map h1, lawK.check w _ hk, hr, e5, Result.andThen]
theorem SM.below {w w' : World} {mb : Nat} (h : SM w mb) (hb : Below w.heap.size w w') : SM w' mb := by
  obtain ⟨es, clock, h1, h2⟩ := h
  exact ⟨es, clock, (hb.block _ (row_lt h1)).trans h1, h2⟩
set_option maxHeartbeats 1000000 in
theorem may_any (f t : Int) (w : World) (hf : (Lit.int .i64 f).wf = true) (ht : (Lit.int .i64 t).wf = true) : Calls Try.prog 13 #[.int .i64 f, .int .i64 t] w fun e w' => e = .returned (.bool (mayB f t)) ∧ Below w.heap.size w w' := by
  have HS : Hid _ := steps_any w
  have HF : Hid _ := hf
  have HT : Hid _ := ht
  obtain ⟨MB, hMB⟩ : ∃ MB, MB = mayB f t := ⟨_, rfl⟩
  rw [← hMB]
  have HMB : Hid (MB = mayB f t) := hMB
  clear hf ht hMB
  go_enter Try.func13, Try.ntmps13
  go_wp2_with fail
  refine Calls.mono HS.out ?_
  rintro e w1 ⟨mb, rfl, hM, hmb, hb⟩
  have hlk := sm_look hM f t HF.out HT.out
  rw [← HMB.out] at hlk
  unfold kV sV at hlk
  have HB : Hid _ := hb
  generalize owB f t = OW at *
  generalize loB f t = LO at *
  clear hM hb
  go_wp2
  go_ret
  exact ⟨rfl, HB.out.alloc HB.out.size _⟩
set_option maxHeartbeats 1000000 in
theorem rmay_any (f t : Int) (w : World) : Calls Try.prog 14 #[.int .i64 f, .int .i64 t] w fun e w' => e = .returned (.bool (mayB f t)) ∧ w = w' := by
  go_enter Try.func14, Try.ntmps14
  go_wp2
  all_goals go_ret
  all_goals
    refine ⟨ret_bool ?_, rfl⟩
    unfold mayB
    first
      | (symm; rw [decide_eq_false_iff_not]; omega)
      | (by_cases e1 : t = 1 <;> by_cases e2 : f = 0 <;> by_cases e3 : f = 1 <;> simp_all <;> first | omega | (rw [show (t != 1) = true by simpa using e1]; symm; simp; omega))
end Go.Proofs.Ytpmbbnmpldeajaa.GC
