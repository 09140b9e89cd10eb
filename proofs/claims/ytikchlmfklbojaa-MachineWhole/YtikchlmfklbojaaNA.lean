/- MachineWhole: for any number of granules, any two lists of acts, the statement's function answers true and leaves its arguments as they were. No condition. -/
import Derived.Test.YtikchlmfklbojaaMZ
import Derived.Test.YtikchlmfklbojaaRows
import Derived.WalkKit
import Derived.ProofKit
import Derived.OpenShut
import Derived.Carry
set_option linter.unusedVariables false
set_option linter.unusedSimpArgs false
namespace Go.Proofs.Ytikchlmfklbojaa.MC
open Go.RowKit
set_option maxHeartbeats 2000000 in
set_option maxRecDepth 100000 in
theorem whole_much (n : Int) (p q : Option Addr) (N M c d : Nat) (w : World) (h : n < 1 ∨ 64 < n ∨ 40 < N ∨ 40 < M) :
    Calls Try.prog 4 #[.int .i64 n, .slice p N c, .slice q M d] w fun e w' => e = .returned (.bool true) ∧ Below w.heap.size w w' := by
  obtain ⟨V0, hV0⟩ : ∃ V0, V0 = (w.alloc (.cells #[.int .i64 n] 3 (0, 0))).alloc (.cells #[.bool false] 4 (0, 0)) := ⟨_, rfl⟩
  have HC : Hid (C6 w V0 n false) := by
    show C6 _ _ _ _
    rw [hV0]
    exact ⟨((Below.refl _ w).alloc (Nat.le_refl _) _).alloc (by simp) _, alloc2_first _ _ _, heap_at _ _ _ (by simp)⟩
  obtain ⟨hg0, _, _⟩ := HC.out.facts
  rw [hV0] at hg0
  by_cases h1 : n < 1
  · clear h
    refine calls_marks Try.func4 rfl ?_
    simp only [Try.ntmps4, List.size_toArray, List.length_cons, List.length_nil, Nat.reduceAdd, Nat.reduceSub, Array.replicate_succ, Array.replicate_zero, List.push_toArray, List.append_toArray, List.nil_append, List.cons_append]
    go_wp2_with fail
    rw [← hV0] at ⊢
    clear hV0 hg0
    refine Calls.mono (known_any _) ?_
    rintro e wk ⟨rfl, hbk⟩
    have hc6 := HC.out.step hbk
    have HC5 : Hid _ := hc6.set true
    obtain ⟨_, hk1, hk2⟩ := hc6.facts
    clear hc6 hbk
    go_wp2
    refine marks_ret (v := .bool true) [] _ (by simp) (by simp) (fun w' h1 h2 h3 h4 h5 => ⟨results_bool Try.results4 _ _ (w.heap.size + 1) true rfl (by rw [cell_of_row _ _ 0 _ _ _ ((h5 _ (by simp)).trans HC5.out.rc)]; rfl), rfl, ⟨h2.trans HC5.out.bel.os, h3.trans HC5.out.bel.tape, h4.trans HC5.out.bel.output, by rw [h1]; exact HC5.out.bel.size, fun k hk => (h5 k (by simp)).trans (HC5.out.bel.block k hk)⟩⟩)
  · by_cases h2 : 64 < n
    · clear h
      refine calls_marks Try.func4 rfl ?_
      simp only [Try.ntmps4, List.size_toArray, List.length_cons, List.length_nil, Nat.reduceAdd, Nat.reduceSub, Array.replicate_succ, Array.replicate_zero, List.push_toArray, List.append_toArray, List.nil_append, List.cons_append]
      go_wp2_with fail
      rw [← hV0] at ⊢
      clear hV0 hg0
      refine Calls.mono (known_any _) ?_
      rintro e wk ⟨rfl, hbk⟩
      have hc6 := HC.out.step hbk
      have HC5 : Hid _ := hc6.set true
      obtain ⟨_, hk1, hk2⟩ := hc6.facts
      clear hc6 hbk
      go_wp2
      refine marks_ret (v := .bool true) [] _ (by simp) (by simp) (fun w' h1 h2 h3 h4 h5 => ⟨results_bool Try.results4 _ _ (w.heap.size + 1) true rfl (by rw [cell_of_row _ _ 0 _ _ _ ((h5 _ (by simp)).trans HC5.out.rc)]; rfl), rfl, ⟨h2.trans HC5.out.bel.os, h3.trans HC5.out.bel.tape, h4.trans HC5.out.bel.output, by rw [h1]; exact HC5.out.bel.size, fun k hk => (h5 k (by simp)).trans (HC5.out.bel.block k hk)⟩⟩)
    · by_cases h3 : 40 < N
      · have h3I : (40 : Int) < (N : Int) := by omega
        clear h
        refine calls_marks Try.func4 rfl ?_
        simp only [Try.ntmps4, List.size_toArray, List.length_cons, List.length_nil, Nat.reduceAdd, Nat.reduceSub, Array.replicate_succ, Array.replicate_zero, List.push_toArray, List.append_toArray, List.nil_append, List.cons_append]
        go_wp2_with fail
        rw [← hV0] at ⊢
        clear hV0 hg0
        refine Calls.mono (known_any _) ?_
        rintro e wk ⟨rfl, hbk⟩
        have hc6 := HC.out.step hbk
        have HC5 : Hid _ := hc6.set true
        obtain ⟨_, hk1, hk2⟩ := hc6.facts
        clear hc6 hbk
        go_wp2
        refine marks_ret (v := .bool true) [] _ (by simp) (by simp) (fun w' h1 h2 h3 h4 h5 => ⟨results_bool Try.results4 _ _ (w.heap.size + 1) true rfl (by rw [cell_of_row _ _ 0 _ _ _ ((h5 _ (by simp)).trans HC5.out.rc)]; rfl), rfl, ⟨h2.trans HC5.out.bel.os, h3.trans HC5.out.bel.tape, h4.trans HC5.out.bel.output, by rw [h1]; exact HC5.out.bel.size, fun k hk => (h5 k (by simp)).trans (HC5.out.bel.block k hk)⟩⟩)
      · have h3I : ¬ (40 : Int) < (N : Int) := by omega
        have h4I : (40 : Int) < (M : Int) := by omega
        clear h
        refine calls_marks Try.func4 rfl ?_
        simp only [Try.ntmps4, List.size_toArray, List.length_cons, List.length_nil, Nat.reduceAdd, Nat.reduceSub, Array.replicate_succ, Array.replicate_zero, List.push_toArray, List.append_toArray, List.nil_append, List.cons_append]
        go_wp2_with fail
        rw [← hV0] at ⊢
        clear hV0 hg0
        refine Calls.mono (known_any _) ?_
        rintro e wk ⟨rfl, hbk⟩
        have hc6 := HC.out.step hbk
        have HC5 : Hid _ := hc6.set true
        obtain ⟨_, hk1, hk2⟩ := hc6.facts
        clear hc6 hbk
        go_wp2
        refine marks_ret (v := .bool true) [] _ (by simp) (by simp) (fun w' h1 h2 h3 h4 h5 => ⟨results_bool Try.results4 _ _ (w.heap.size + 1) true rfl (by rw [cell_of_row _ _ 0 _ _ _ ((h5 _ (by simp)).trans HC5.out.rc)]; rfl), rfl, ⟨h2.trans HC5.out.bel.os, h3.trans HC5.out.bel.tape, h4.trans HC5.out.bel.output, by rw [h1]; exact HC5.out.bel.size, fun k hk => (h5 k (by simp)).trans (HC5.out.bel.block k hk)⟩⟩)
end Go.Proofs.Ytikchlmfklbojaa.MC
namespace Go.Proofs.Ytikchlmfklbojaa.machineWhole
open Go.ChangeShapes Go.WideShapes Go.ChangeAt Go.RowKit

theorem own : ownKnob Try.prog.godebug = none := by kernel_rfl
theorem laidOut : laidOutB Try.prog = true := by kernel_rfl
theorem walk (n : Int) (v1 : Value) (ls : List MC.Ac) (v2 : Value) (ms : List MC.Ac) (w : World) (hn : (Lit.int .i64 n).wf = true) (hl1 : ls.length ≤ 9223372036854775807) (hA1 : MC.HAc w v1 ls) (hl2 : ms.length ≤ 9223372036854775807) (hA2 : MC.HAc w v2 ms) : Calls Try.prog 4 #[.int .i64 n, v1, v2] w fun e w' => e = .returned (.bool true) ∧ Below w.heap.size w w' := by
  by_cases h : n < 1 ∨ 64 < n ∨ 40 < ls.length ∨ 40 < ms.length
  · obtain ⟨p, c, rfl, _⟩ := hA1
    obtain ⟨q, d, rfl, _⟩ := hA2
    exact MC.whole_much n p q ls.length ms.length c d w h
  · have := MC.whole_walk n.toNat v1 v2 ls ms w (by omega) (by omega) (by omega) (by omega) hA1 hA2
    rw [show ((n.toNat : Nat) : Int) = n by omega] at this
    exact this
set_option maxRecDepth 100000 in
theorem lifted (os : Os) (started : os.Started) (H : Type) (enc : TypeId × Value → H) :
    ReturnsInHanded {} Try.checked os 4 .any (Rows.machineWholeSpec.pre6 enc Try.prog Try.f4 Rows.machineWholeRow.domain false) (Rows.machineWholeSpec.post enc Try.prog Try.f4 false true false false) := by
  refine returnsInHanded_of_change (C := Try.checked) own started (by kernel_rfl) Try.func4
    (ChangeSpec.witness6 (enc := enc) (C := Try.checked) false ⟨#[], #[.int .i64 0, .slice none 0 0, .slice none 0 0], []⟩ 8 (by kernel_rfl) (by kernel_rfl) (by kernel_rfl) (by kernel_rfl)) ?_
  intro W base args ds gs before hval0 hW hcnd _
  have hval : ∀ (j : Nat) t v, Try.f4.params[j]? = some t → args[j]? = some v → Value.okWide Try.prog W .any base t v := hval0
  have hW' := hW
  obtain ⟨p, q, hA0, hV, rfl, hfz, hnd⟩ := hW
  have hA : DataW.TrodAll enc Try.prog W 0 (fun _ => true) true Try.f4.params.toList args.toList ds p := hA0
  rw [Try.params4] at hA hval
  obtain ⟨v0, vs0, d0, ds0, p0, q0, hargs, rfl, rfl, h0, r0⟩ := trodAll_cons hA
  obtain ⟨v1, vs1, d1, ds1, p1, q1, rfl, rfl, rfl, h1, r1⟩ := trodAll_cons r0
  obtain ⟨v2, vs2, d2, ds2, p2, q2, rfl, rfl, rfl, h2, r2⟩ := trodAll_cons r1
  obtain ⟨rfl, rfl, rfl⟩ := trodAll_nil r2
  obtain rfl : args = #[v0, v1, v2] := by cases args; simp_all
  obtain ⟨rfl, rfl⟩ := trodVars_none hV
  obtain ⟨n0, rfl, rfl, rfl, w0⟩ := open_int Try.underlying3 (hval 0 3 v0 rfl rfl) h0
  obtain ⟨a1, len1, cap1, rfl⟩ := okWide_slice Try.underlying22 (hval 1 22 v1 rfl rfl)
  have k1 := h1
  have lt1 : ∀ x ∈ p1, x.block < W.heap.size := by obtain ⟨m, hm⟩ := k1; exact DataW.trod_lt m _ _ _ hm
  obtain ⟨l1, hl1, hm1⟩ : ∃ ls, MC.HAc W (.slice a1 len1 cap1) ls ∧ ls.length ≤ 9223372036854775807 := by obtain ⟨fuel, hf⟩ := h1; exact MC.open_acts hf
  obtain ⟨a2, len2, cap2, rfl⟩ := okWide_slice Try.underlying22 (hval 2 22 v2 rfl rfl)
  have k2 := h2
  have lt2 : ∀ x ∈ p2, x.block < W.heap.size := by obtain ⟨m, hm⟩ := k2; exact DataW.trod_lt m _ _ _ hm
  obtain ⟨l2, hl2, hm2⟩ : ∃ ls, MC.HAc W (.slice a2 len2 cap2) ls ∧ ls.length ≤ 9223372036854775807 := by obtain ⟨fuel, hf⟩ := h2; exact MC.open_acts hf
  clear hA0 hval0
  refine (walk n0 _ l1 _ l2 W w0 hm1 hl1 hm2 hl2).mono fun e W' ⟨he, bel⟩ => ?_
  subst he
  exact ⟨_, rfl, _, _, _, [], _, [], hW', trodAll_mk1 (shut_bool Try.underlying4 _), (trodAll_cons_mk (shut_int Try.underlying3 w0) (trodAll_cons_mk (Below.trod laidOut (by kernel_rfl) (of_decide_eq_true (by kernel_rfl)) k1 bel lt1) (trodAll_cons_mk (Below.trod laidOut (by kernel_rfl) (of_decide_eq_true (by kernel_rfl)) k2 bel lt2) trodAll_mk0))), rfl, bel.frame _, fun h => by cases h⟩

theorem over : Rows.machineWholeRow.holds Try.pinned (OpenSpec.ofChange Rows.machineWholeSpec) :=
  OpenClaim.holds_of_wide 4 Try.f4 rfl rfl rfl rfl rfl rfl rfl ⟨rfl, rfl, rfl, rfl, rfl⟩ rfl rfl rfl rfl rfl (by kernel_rfl) Try.func4 (by kernel_rfl)
    (of_decide_eq_true (by kernel_rfl)) (by unfold Func.isWrapper; first | (rw [if_pos (by decide +kernel)]; kernel_rfl) | (rw [if_neg (by decide +kernel)]; exact ⟨rfl, rfl⟩))
    (fun os started H enc _ => lifted os started H enc)

end Go.Proofs.Ytikchlmfklbojaa.machineWhole
namespace Go.Proofs.Ytikchlmfklbojaa
theorem machineWhole_holds : Rows.MachineWholeSaid := machineWhole.over
#print axioms machineWhole_holds
end Go.Proofs.Ytikchlmfklbojaa
