/- GranuleOwns: for any number of granules, any two lists of acts, any state and owner, the statement's function answers true and leaves its arguments as they were. No condition. -/
import Derived.Test.YtpmbbnmpldeajaaKT
import Derived.WalkKit
import Derived.ProofKit
import Derived.OpenShut
import Derived.Carry
set_option linter.unusedVariables false
set_option linter.unusedSimpArgs false
namespace Go.Proofs.Ytpmbbnmpldeajaa.GC
open Go.RowKit
set_option maxHeartbeats 2000000 in
set_option maxRecDepth 100000 in
theorem owns_much (n s o : Int) (p q : Option Addr) (N M c d : Nat) (w : World) (h : n < 1 ∨ 20 < n ∨ 60 < N ∨ 60 < M) :
    Calls Try.prog 5 #[.int .i64 n, .slice p N c, .slice q M d, .int .i64 s, .int .u64 o] w fun e w' => e = .returned (.bool true) ∧ Below w.heap.size w w' := by
  obtain ⟨V0, hV0⟩ : ∃ V0, V0 = ((w.alloc (.cells #[.int .i64 n] 3 (0, 0))).alloc (.cells #[.int .u64 o] 32 (0, 0))).alloc (.cells #[.bool false] 4 (0, 0)) := ⟨_, rfl⟩
  have HC : Hid (C7 w V0 n o false) := by
    show C7 _ _ _ _ _
    rw [hV0]
    exact C7.new w n o
  obtain ⟨hg0, _, _, _⟩ := HC.out.facts
  rw [hV0] at hg0
  by_cases h1 : n < 1
  · clear h
    refine calls_marks Try.func5 rfl ?_
    simp only [Try.ntmps5, List.size_toArray, List.length_cons, List.length_nil, Nat.reduceAdd, Nat.reduceSub, Array.replicate_succ, Array.replicate_zero, List.push_toArray, List.append_toArray, List.nil_append, List.cons_append]
    go_wp2_with fail
    rw [← hV0] at ⊢
    clear hV0 hg0
    refine Calls.mono (known_any _) ?_
    rintro e wk ⟨rfl, hbk⟩
    have hc7 := HC.out.step hbk
    have HC5 : Hid _ := hc7.set true
    have hk1 : wk.cell? ⟨w.heap.size + 1 + 1, 0, none⟩ = some (.bool false) := hc7.facts.2.2.1
    have hk2 : wk.frozen? ⟨w.heap.size + 1 + 1, 0, none⟩ = false := hc7.facts.2.2.2
    clear hc7 hbk
    go_wp2
    refine marks_ret (v := .bool true) [] _ (by simp) (by simp) (fun w' h1 h2 h3 h4 h5 => ⟨results_bool Try.results5 _ _ (w.heap.size + 2) true rfl (by rw [cell_of_row _ _ 0 _ _ _ ((h5 _ (by simp)).trans HC5.out.rc)]; rfl), rfl, ⟨h2.trans HC5.out.bel.os, h3.trans HC5.out.bel.tape, h4.trans HC5.out.bel.output, by rw [h1]; exact HC5.out.bel.size, fun k hk => (h5 k (by simp)).trans (HC5.out.bel.block k hk)⟩⟩)
  · by_cases h2 : 20 < n
    · clear h
      refine calls_marks Try.func5 rfl ?_
      simp only [Try.ntmps5, List.size_toArray, List.length_cons, List.length_nil, Nat.reduceAdd, Nat.reduceSub, Array.replicate_succ, Array.replicate_zero, List.push_toArray, List.append_toArray, List.nil_append, List.cons_append]
      go_wp2_with fail
      rw [← hV0] at ⊢
      clear hV0 hg0
      refine Calls.mono (known_any _) ?_
      rintro e wk ⟨rfl, hbk⟩
      have hc7 := HC.out.step hbk
      have HC5 : Hid _ := hc7.set true
      have hk1 : wk.cell? ⟨w.heap.size + 1 + 1, 0, none⟩ = some (.bool false) := hc7.facts.2.2.1
      have hk2 : wk.frozen? ⟨w.heap.size + 1 + 1, 0, none⟩ = false := hc7.facts.2.2.2
      clear hc7 hbk
      go_wp2
      refine marks_ret (v := .bool true) [] _ (by simp) (by simp) (fun w' h1 h2 h3 h4 h5 => ⟨results_bool Try.results5 _ _ (w.heap.size + 2) true rfl (by rw [cell_of_row _ _ 0 _ _ _ ((h5 _ (by simp)).trans HC5.out.rc)]; rfl), rfl, ⟨h2.trans HC5.out.bel.os, h3.trans HC5.out.bel.tape, h4.trans HC5.out.bel.output, by rw [h1]; exact HC5.out.bel.size, fun k hk => (h5 k (by simp)).trans (HC5.out.bel.block k hk)⟩⟩)
    · by_cases h3 : 60 < N
      · have h3I : (60 : Int) < (N : Int) := by omega
        clear h
        refine calls_marks Try.func5 rfl ?_
        simp only [Try.ntmps5, List.size_toArray, List.length_cons, List.length_nil, Nat.reduceAdd, Nat.reduceSub, Array.replicate_succ, Array.replicate_zero, List.push_toArray, List.append_toArray, List.nil_append, List.cons_append]
        go_wp2_with fail
        rw [← hV0] at ⊢
        clear hV0 hg0
        refine Calls.mono (known_any _) ?_
        rintro e wk ⟨rfl, hbk⟩
        have hc7 := HC.out.step hbk
        have HC5 : Hid _ := hc7.set true
        have hk1 : wk.cell? ⟨w.heap.size + 1 + 1, 0, none⟩ = some (.bool false) := hc7.facts.2.2.1
        have hk2 : wk.frozen? ⟨w.heap.size + 1 + 1, 0, none⟩ = false := hc7.facts.2.2.2
        clear hc7 hbk
        go_wp2
        refine marks_ret (v := .bool true) [] _ (by simp) (by simp) (fun w' h1 h2 h3 h4 h5 => ⟨results_bool Try.results5 _ _ (w.heap.size + 2) true rfl (by rw [cell_of_row _ _ 0 _ _ _ ((h5 _ (by simp)).trans HC5.out.rc)]; rfl), rfl, ⟨h2.trans HC5.out.bel.os, h3.trans HC5.out.bel.tape, h4.trans HC5.out.bel.output, by rw [h1]; exact HC5.out.bel.size, fun k hk => (h5 k (by simp)).trans (HC5.out.bel.block k hk)⟩⟩)
      · have h3I : ¬ (60 : Int) < (N : Int) := by omega
        have h4I : (60 : Int) < (M : Int) := by omega
        clear h
        refine calls_marks Try.func5 rfl ?_
        simp only [Try.ntmps5, List.size_toArray, List.length_cons, List.length_nil, Nat.reduceAdd, Nat.reduceSub, Array.replicate_succ, Array.replicate_zero, List.push_toArray, List.append_toArray, List.nil_append, List.cons_append]
        go_wp2_with fail
        rw [← hV0] at ⊢
        clear hV0 hg0
        refine Calls.mono (known_any _) ?_
        rintro e wk ⟨rfl, hbk⟩
        have hc7 := HC.out.step hbk
        have HC5 : Hid _ := hc7.set true
        have hk1 : wk.cell? ⟨w.heap.size + 1 + 1, 0, none⟩ = some (.bool false) := hc7.facts.2.2.1
        have hk2 : wk.frozen? ⟨w.heap.size + 1 + 1, 0, none⟩ = false := hc7.facts.2.2.2
        clear hc7 hbk
        go_wp2
        refine marks_ret (v := .bool true) [] _ (by simp) (by simp) (fun w' h1 h2 h3 h4 h5 => ⟨results_bool Try.results5 _ _ (w.heap.size + 2) true rfl (by rw [cell_of_row _ _ 0 _ _ _ ((h5 _ (by simp)).trans HC5.out.rc)]; rfl), rfl, ⟨h2.trans HC5.out.bel.os, h3.trans HC5.out.bel.tape, h4.trans HC5.out.bel.output, by rw [h1]; exact HC5.out.bel.size, fun k hk => (h5 k (by simp)).trans (HC5.out.bel.block k hk)⟩⟩)
end Go.Proofs.Ytpmbbnmpldeajaa.GC
namespace Go.Proofs.Ytpmbbnmpldeajaa.granuleOwns
open Go.ChangeShapes Go.WideShapes Go.ChangeAt Go.RowKit

theorem own : ownKnob Try.prog.godebug = none := by kernel_rfl
theorem laidOut : laidOutB Try.prog = true := by kernel_rfl
theorem walk (n : Int) (v1 : Value) (ls : List GC.Ac) (v2 : Value) (ms : List GC.Ac) (s o : Int) (w : World) (hn : (Lit.int .i64 n).wf = true) (hl1 : ls.length ≤ 9223372036854775807) (hA1 : GC.HAc w v1 ls) (hl2 : ms.length ≤ 9223372036854775807) (hA2 : GC.HAc w v2 ms) (hs : (Lit.int .i64 s).wf = true) (ho : (Lit.int .u64 o).wf = true) : Calls Try.prog 5 #[.int .i64 n, v1, v2, .int .i64 s, .int .u64 o] w fun e w' => e = .returned (.bool true) ∧ Below w.heap.size w w' := by
  have ho := bounds_u64 ho
  by_cases h : n < 1 ∨ 20 < n ∨ 60 < ls.length ∨ 60 < ms.length
  · obtain ⟨p, c, rfl, _⟩ := hA1
    obtain ⟨q, d, rfl, _⟩ := hA2
    exact GC.owns_much n s o p q ls.length ms.length c d w h
  · have := GC.owns_walk n.toNat v1 v2 ls ms s o.toNat w (by omega) (by omega) (by omega) (by omega) hA1 hA2
    rw [show ((n.toNat : Nat) : Int) = n by omega, show ((o.toNat : Nat) : Int) = o by omega] at this
    exact this
set_option maxRecDepth 100000 in
theorem lifted (os : Os) (started : os.Started) (H : Type) (enc : TypeId × Value → H) :
    ReturnsInHanded {} Try.checked os 5 .any (Rows.granuleOwnsSpec.pre6 enc Try.prog Try.f5 Rows.granuleOwnsRow.domain false) (Rows.granuleOwnsSpec.post enc Try.prog Try.f5 false true false false) := by
  refine returnsInHanded_of_change (C := Try.checked) own started (by kernel_rfl) Try.func5
    (ChangeSpec.witness6 (enc := enc) (C := Try.checked) false ⟨#[], #[.int .i64 0, .slice none 0 0, .slice none 0 0, .int .i64 0, .int .u64 0], []⟩ 8 (by kernel_rfl) (by kernel_rfl) (by kernel_rfl) (by kernel_rfl)) ?_
  intro W base args ds gs before hval0 hW hcnd _
  have hval : ∀ (j : Nat) t v, Try.f5.params[j]? = some t → args[j]? = some v → Value.okWide Try.prog W .any base t v := hval0
  have hW' := hW
  obtain ⟨p, q, hA0, hV, rfl, hfz, hnd⟩ := hW
  have hA : DataW.TrodAll enc Try.prog W 0 (fun _ => true) true Try.f5.params.toList args.toList ds p := hA0
  rw [Try.params5] at hA hval
  obtain ⟨v0, vs0, d0, ds0, p0, q0, hargs, rfl, rfl, h0, r0⟩ := trodAll_cons hA
  obtain ⟨v1, vs1, d1, ds1, p1, q1, rfl, rfl, rfl, h1, r1⟩ := trodAll_cons r0
  obtain ⟨v2, vs2, d2, ds2, p2, q2, rfl, rfl, rfl, h2, r2⟩ := trodAll_cons r1
  obtain ⟨v3, vs3, d3, ds3, p3, q3, rfl, rfl, rfl, h3, r3⟩ := trodAll_cons r2
  obtain ⟨v4, vs4, d4, ds4, p4, q4, rfl, rfl, rfl, h4, r4⟩ := trodAll_cons r3
  obtain ⟨rfl, rfl, rfl⟩ := trodAll_nil r4
  obtain rfl : args = #[v0, v1, v2, v3, v4] := by cases args; simp_all
  obtain ⟨rfl, rfl⟩ := trodVars_none hV
  obtain ⟨n0, rfl, rfl, rfl, w0⟩ := open_int Try.underlying3 (hval 0 3 v0 rfl rfl) h0
  obtain ⟨a1, len1, cap1, rfl⟩ := okWide_slice Try.underlying22 (hval 1 22 v1 rfl rfl)
  have k1 := h1
  have lt1 : ∀ x ∈ p1, x.block < W.heap.size := by obtain ⟨m, hm⟩ := k1; exact DataW.trod_lt m _ _ _ hm
  obtain ⟨l1, hl1, hm1⟩ : ∃ ls, GC.HAc W (.slice a1 len1 cap1) ls ∧ ls.length ≤ 9223372036854775807 := by obtain ⟨fuel, hf⟩ := h1; exact GC.open_acts hf
  obtain ⟨a2, len2, cap2, rfl⟩ := okWide_slice Try.underlying22 (hval 2 22 v2 rfl rfl)
  have k2 := h2
  have lt2 : ∀ x ∈ p2, x.block < W.heap.size := by obtain ⟨m, hm⟩ := k2; exact DataW.trod_lt m _ _ _ hm
  obtain ⟨l2, hl2, hm2⟩ : ∃ ls, GC.HAc W (.slice a2 len2 cap2) ls ∧ ls.length ≤ 9223372036854775807 := by obtain ⟨fuel, hf⟩ := h2; exact GC.open_acts hf
  obtain ⟨n3, rfl, rfl, rfl, w3⟩ := open_int Try.underlying31 (hval 3 31 v3 rfl rfl) h3
  obtain ⟨n4, rfl, rfl, rfl, w4⟩ := open_int Try.underlying32 (hval 4 32 v4 rfl rfl) h4
  clear hA0 hval0
  refine (walk n0 _ l1 _ l2 n3 n4 W w0 hm1 hl1 hm2 hl2 w3 w4).mono fun e W' ⟨he, bel⟩ => ?_
  subst he
  exact ⟨_, rfl, _, _, _, [], _, [], hW', trodAll_mk1 (shut_bool Try.underlying4 _), (trodAll_cons_mk (shut_int Try.underlying3 w0) (trodAll_cons_mk (Below.trod laidOut (by kernel_rfl) (of_decide_eq_true (by kernel_rfl)) k1 bel lt1) (trodAll_cons_mk (Below.trod laidOut (by kernel_rfl) (of_decide_eq_true (by kernel_rfl)) k2 bel lt2) (trodAll_cons_mk (shut_int Try.underlying31 w3) (trodAll_cons_mk (shut_int Try.underlying32 w4) trodAll_mk0))))), rfl, bel.frame _, fun h => by cases h⟩

theorem over : Rows.granuleOwnsRow.holds Try.pinned (OpenSpec.ofChange Rows.granuleOwnsSpec) :=
  OpenClaim.holds_of_wide 5 Try.f5 rfl rfl rfl rfl rfl rfl rfl ⟨rfl, rfl, rfl, rfl, rfl⟩ rfl rfl rfl rfl rfl (by kernel_rfl) Try.func5 (by kernel_rfl)
    (of_decide_eq_true (by kernel_rfl)) (by unfold Func.isWrapper; first | (rw [if_pos (by decide +kernel)]; kernel_rfl) | (rw [if_neg (by decide +kernel)]; exact ⟨rfl, rfl⟩))
    (fun os started H enc _ => lifted os started H enc)

end Go.Proofs.Ytpmbbnmpldeajaa.granuleOwns
namespace Go.Proofs.Ytpmbbnmpldeajaa
theorem granuleOwns_holds : Rows.GranuleOwnsSaid := granuleOwns.over
#print axioms granuleOwns_holds
end Go.Proofs.Ytpmbbnmpldeajaa
