import Derived.Test.YtekbppfocnbhbaaGreatQu
import Derived.Test.YtekbppfocnbhbaaGreatRows
import Derived.ChangeOld
import Derived.ProofKit
import Derived.OpenShut
set_option linter.unusedVariables false
set_option linter.unusedSimpArgs false
set_option maxHeartbeats 16000000
set_option maxRecDepth 100000
namespace Go.Proofs.YtekbppfocnbhbaaGreat.realmApart
open Go.ChangeShapes Go.WideShapes Go.ChangeAt Go.RowKit
theorem own : ownKnob Tryz.prog.godebug = none := by kernel_rfl
theorem laidOut : laidOutB Tryz.prog = true := by kernel_rfl
theorem much (p : Option Addr) (N cap : Nat) (v : Option Addr) (M cap1 : Nat) (w : World) (h : 30 < N ∨ 30 < M) : Calls Tryz.prog 5 #[.slice p N cap, .slice v M cap1] w fun e w' => e = .returned (.bool true) ∧ Below w.heap.size w w' := by
  by_cases h1 : 30 < N
  · have hI : (30 : Int) < (N : Int) := by omega
    clear h h1
    refine R5.calls_marks Tryz.func5 rfl ?_
    simp only [Tryz.ntmps5, List.size_toArray, List.length_cons, List.length_nil, Nat.reduceAdd, Nat.reduceSub, Array.replicate_succ, Array.replicate_zero, List.push_toArray, List.append_toArray, List.nil_append, List.cons_append]
    go_wp2_with fail
    refine Calls.mono (XC.known_any _) ?_
    rintro e w1 ⟨rfl, hb⟩
    have hb0 : Below w.heap.size w w1 := ((Below.refl _ w).alloc (Nat.le_refl _) _).trans (hb.mono (by simp))
    have hrr : w1.heap[w.heap.size]? = some (.cells #[.bool false] 4 (0, 0)) := (hb.block _ (by simp)).trans (heap_alloc_new _ _)
    have hcr : w1.cell? ⟨w.heap.size, 0, none⟩ = some (.bool false) := by rw [cell_of_row _ _ 0 _ _ _ hrr]; rfl
    have hfr : w1.frozen? ⟨w.heap.size, 0, none⟩ = false := frozen_of_row _ _ 0 _ _ hrr
    have HBE : Hid (Below w.heap.size w (w1.setCell ⟨w.heap.size, 0, none⟩ (.bool true))) := hb0.setCell (p := ⟨w.heap.size, 0, none⟩) (Nat.le_refl _) _
    have HRE : Hid ((w1.setCell ⟨w.heap.size, 0, none⟩ (.bool true)).heap[w.heap.size]? = some (.cells #[.bool true] 4 (0, 0))) := by show _ = _; rw [heap_setCell_same _ _ 0 _ _ _ hrr]; rfl
    clear hb hb0 hrr
    go_wp2_with fail
    refine R5.marks_ret (v := .bool true) [] _ (fun D hD => (List.not_mem_nil hD).elim) (by simp) (fun w' h1 h2 h3 h4 h5 => ⟨R5.results_bool Tryz.results5 _ _ w.heap.size true rfl ?_, rfl, ⟨h2.trans HBE.out.os, h3.trans HBE.out.tape, h4.trans HBE.out.output, by rw [h1]; exact HBE.out.size, fun i hi => (h5 i (by simp)).trans (HBE.out.block i hi)⟩⟩)
    rw [cell_of_row _ _ 0 _ _ _ ((h5 _ (by simp)).trans HRE.out)]; rfl
  · have hI : ¬ (30 : Int) < (N : Int) := by omega
    have hJ : (30 : Int) < (M : Int) := by omega
    clear h h1
    refine R5.calls_marks Tryz.func5 rfl ?_
    simp only [Tryz.ntmps5, List.size_toArray, List.length_cons, List.length_nil, Nat.reduceAdd, Nat.reduceSub, Array.replicate_succ, Array.replicate_zero, List.push_toArray, List.append_toArray, List.nil_append, List.cons_append]
    go_wp2_with fail
    refine Calls.mono (XC.known_any _) ?_
    rintro e w1 ⟨rfl, hb⟩
    have hb0 : Below w.heap.size w w1 := ((Below.refl _ w).alloc (Nat.le_refl _) _).trans (hb.mono (by simp))
    have hrr : w1.heap[w.heap.size]? = some (.cells #[.bool false] 4 (0, 0)) := (hb.block _ (by simp)).trans (heap_alloc_new _ _)
    have hcr : w1.cell? ⟨w.heap.size, 0, none⟩ = some (.bool false) := by rw [cell_of_row _ _ 0 _ _ _ hrr]; rfl
    have hfr : w1.frozen? ⟨w.heap.size, 0, none⟩ = false := frozen_of_row _ _ 0 _ _ hrr
    have HBE : Hid (Below w.heap.size w (w1.setCell ⟨w.heap.size, 0, none⟩ (.bool true))) := hb0.setCell (p := ⟨w.heap.size, 0, none⟩) (Nat.le_refl _) _
    have HRE : Hid ((w1.setCell ⟨w.heap.size, 0, none⟩ (.bool true)).heap[w.heap.size]? = some (.cells #[.bool true] 4 (0, 0))) := by show _ = _; rw [heap_setCell_same _ _ 0 _ _ _ hrr]; rfl
    clear hb hb0 hrr
    go_wp2_with fail
    refine R5.marks_ret (v := .bool true) [] _ (fun D hD => (List.not_mem_nil hD).elim) (by simp) (fun w' h1 h2 h3 h4 h5 => ⟨R5.results_bool Tryz.results5 _ _ w.heap.size true rfl ?_, rfl, ⟨h2.trans HBE.out.os, h3.trans HBE.out.tape, h4.trans HBE.out.output, by rw [h1]; exact HBE.out.size, fun i hi => (h5 i (by simp)).trans (HBE.out.block i hi)⟩⟩)
    rw [cell_of_row _ _ 0 _ _ _ ((h5 _ (by simp)).trans HRE.out)]; rfl
theorem walk (v1 : Value) (ls1 : List XC.Ac) (v2 : Value) (ls2 : List XC.Ac) (w : World) (hl1 : ls1.length ≤ 9223372036854775807) (h1 : XC.HAc w v1 ls1) (hl2 : ls2.length ≤ 9223372036854775807) (h2 : XC.HAc w v2 ls2) :
    Calls Tryz.prog 5 #[v1, v2] w fun e w' => e = .returned (.bool true) ∧ Below w.heap.size w w' := by
  by_cases h : 30 < ls1.length ∨ 30 < ls2.length
  · obtain ⟨pl, cap, rfl, _⟩ := h1
    obtain ⟨pm, cap1, rfl, _⟩ := h2
    exact much pl ls1.length cap pm ls2.length cap1 w h
  · exact XC.apart_walk v1 v2 ls1 ls2 w (by omega) (by omega) h1 h2
theorem lifted (os : Os) (started : os.Started) (H : Type) (enc : TypeId × Value → H) :
    ReturnsInHanded {} Tryz.checked os 5 .any (Rows.realmApartSpec.pre6 enc Tryz.prog Tryz.f5 Rows.realmApartRow.domain false) (Rows.realmApartSpec.post enc Tryz.prog Tryz.f5 false true false false) := by
  refine returnsInHanded_of_change (C := Tryz.checked) own started (by kernel_rfl) Tryz.func5
    (ChangeSpec.witness6 (enc := enc) (C := Tryz.checked) false ⟨#[], #[.slice none 0 0, .slice none 0 0], []⟩ 8 (by kernel_rfl) (by kernel_rfl) (by kernel_rfl) (by kernel_rfl)) ?_
  intro W base args ds gs before hval0 hW hcnd _
  have hval : ∀ (j : Nat) t v, Tryz.f5.params[j]? = some t → args[j]? = some v → Value.okWide Tryz.prog W .any base t v := hval0
  have hW' := hW
  obtain ⟨p, q, hA0, hV, rfl, hfz, hnd⟩ := hW
  have hA : DataW.TrodAll enc Tryz.prog W 0 (fun _ => true) true Tryz.f5.params.toList args.toList ds p := hA0
  rw [Tryz.params5] at hA hval
  obtain ⟨v0, vs0, d0, ds0, p0, q0, hargs, rfl, rfl, h0, r0⟩ := trodAll_cons hA
  obtain ⟨v1, vs1, d1, ds1, p1, q1, rfl, rfl, rfl, h1, r1⟩ := trodAll_cons r0
  obtain ⟨rfl, rfl, rfl⟩ := trodAll_nil r1
  obtain rfl : args = #[v0, v1] := by cases args; simp_all
  obtain ⟨rfl, rfl⟩ := trodVars_none hV
  obtain ⟨a0, len0, cap0, rfl⟩ := okWide_slice Tryz.underlying23 (hval 0 23 v0 rfl rfl)
  have k0 := h0
  have lt0 : ∀ x ∈ p0, x.block < W.heap.size := by obtain ⟨m, hm⟩ := k0; exact DataW.trod_lt m _ _ _ hm
  obtain ⟨l0, hl0, hm0⟩ : ∃ ls, XC.HAc W (.slice a0 len0 cap0) ls ∧ ls.length ≤ 9223372036854775807 := by obtain ⟨fuel, hf⟩ := h0; exact XC.open_acts hf
  obtain ⟨a1, len1, cap1, rfl⟩ := okWide_slice Tryz.underlying23 (hval 1 23 v1 rfl rfl)
  have k1 := h1
  have lt1 : ∀ x ∈ p1, x.block < W.heap.size := by obtain ⟨m, hm⟩ := k1; exact DataW.trod_lt m _ _ _ hm
  obtain ⟨l1, hl1, hm1⟩ : ∃ ls, XC.HAc W (.slice a1 len1 cap1) ls ∧ ls.length ≤ 9223372036854775807 := by obtain ⟨fuel, hf⟩ := h1; exact XC.open_acts hf
  clear hA0 hval0
  refine (walk _ l0 _ l1 W hm0 hl0 hm1 hl1).mono fun e W' ⟨he, bel⟩ => ?_
  subst he
  exact ⟨_, rfl, _, _, _, [], _, [], hW', trodAll_mk1 (shut_bool Tryz.underlying4 _), (trodAll_cons_mk (Below.trod laidOut (by kernel_rfl) (of_decide_eq_true (by kernel_rfl)) k0 bel lt0) (trodAll_cons_mk (Below.trod laidOut (by kernel_rfl) (of_decide_eq_true (by kernel_rfl)) k1 bel lt1) trodAll_mk0)), rfl, bel.frame _, fun h => by cases h⟩
theorem over : Rows.realmApartRow.holds Tryz.pinned (OpenSpec.ofChange Rows.realmApartSpec) :=
  OpenClaim.holds_of_wide 5 Tryz.f5 rfl rfl rfl rfl rfl rfl rfl ⟨rfl, rfl, rfl, rfl, rfl⟩ rfl rfl rfl rfl rfl (by kernel_rfl) Tryz.func5 (by kernel_rfl)
    (of_decide_eq_true (by kernel_rfl)) (by unfold Func.isWrapper; first | (rw [if_pos (by decide +kernel)]; kernel_rfl) | (rw [if_neg (by decide +kernel)]; exact ⟨rfl, rfl⟩))
    (fun os started H enc _ => lifted os started H enc)
end Go.Proofs.YtekbppfocnbhbaaGreat.realmApart
namespace Go.Proofs.YtekbppfocnbhbaaGreat
theorem realmApart_holds : Rows.RealmApartSaid := realmApart.over
#print axioms realmApart_holds
end Go.Proofs.YtekbppfocnbhbaaGreat
