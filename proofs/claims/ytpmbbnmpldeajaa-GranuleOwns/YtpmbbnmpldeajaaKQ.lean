/- GranuleNil: the statement's function answers true. No condition. -/
import Derived.Test.YtpmbbnmpldeajaaKP
import Derived.WalkKit
import Derived.ProofKit
import Derived.OpenShut
import Derived.Carry
set_option linter.unusedVariables false
set_option linter.unusedSimpArgs false
namespace Go.Proofs.Ytpmbbnmpldeajaa.GC
open Go.RowKit

theorem wpList_bslice {ops : Array Oper} {rest : List Oper} {o : Oper} {a : Act} {Q : Exit → Act → World → Prop} {w w' : World} (hgd : o.guard = none) (t : TypeId) (n : Nat) (parts : Array (Nat × Operand)) (ho : o.op = .buildSlice t n parts) (vals : Array (Nat × Value)) (v : Value) (hp : (parts.map fun (i, x) => (i, a.eval x)) = vals)
    (hr : (Instr.buildSlice t n vals).run Try.prog w = .ok v w') (h : wpList Try.prog ops Q rest (a.put o.dst v) w') : wpList Try.prog ops Q (o :: rest) a w := by
  refine wpList_plain hgd fun K' hK' => ?_
  unfold Oper.wp execOp
  simp only [ho, Sem.run_bind, hp, hr, Result.andThen_ok]
  exact hK' _ _ h
theorem bs_two (w : World) (b : Nat) : (Instr.buildSlice 50 2 #[(0, .pointer none), (1, .pointer (some ⟨b, 0, none⟩))]).run Try.prog w = .ok (.slice (some ⟨w.heap.size, 0, none⟩) 2 2) (w.alloc (.cells #[.pointer none, .pointer (some ⟨b, 0, none⟩)] 24 (0, 0))) := by kernel_rfl
theorem eq_nilf (w : World) (b c : Nat) : (binOp .eql 39 (oFun b c) .nilFunc).run Try.prog w = .ok (.bool false) w := by kernel_rfl
set_option maxHeartbeats 8000000 in
set_option maxRecDepth 100000 in
theorem nil_walk (w : World) : Calls Try.prog 7 #[] w fun e w' => e = .returned (.bool true) ∧ Below w.heap.size w w' := by
  have heqf := fun W b c => eq_nilf W b c
  obtain ⟨W0, hW0⟩ : ∃ W0, W0 = (w.alloc (.cells #[.bool false] 4 (0, 0))).alloc (.cells #[.slice none 0 0] 49 (0, 0)) := ⟨_, rfl⟩
  obtain ⟨V, hV⟩ : ∃ V, V = W0.alloc (.cells #[.pointer none, .pointer (some ⟨w.heap.size + 1, 0, none⟩)] 24 (0, 0)) := ⟨_, rfl⟩
  have hbV : Below w.heap.size w V := by rw [hV, hW0]; exact (((Below.refl _ w).alloc (Nat.le_refl _) _).alloc (by simp) _).alloc (by simp; omega) _
  have hr0 : V.heap[w.heap.size]? = some (.cells #[.bool false] 4 (0, 0)) := by rw [hV, Below.heap_alloc _ _ _ (by rw [hW0]; simp; omega), hW0]; exact alloc2_first _ _ _
  have hr1 : V.heap[w.heap.size + 1]? = some (.cells #[.slice none 0 0] 49 (0, 0)) := by rw [hV, Below.heap_alloc _ _ _ (by rw [hW0]; simp), hW0]; exact heap_at _ _ _ (by simp)
  have hr2 : V.heap[W0.heap.size]? = some (.cells #[.pointer none, .pointer (some ⟨w.heap.size + 1, 0, none⟩)] 24 (0, 0)) := by rw [hV]; exact heap_alloc_new _ _
  have hs0 : W0.heap.size = w.heap.size + 1 + 1 := by rw [hW0]; simp
  have hsV : V.heap.size = w.heap.size + 3 := by rw [hV]; simp [hs0]
  have HN0 : Hid (∀ X, Below V.heap.size V X → Calls Try.prog 31 #[.pointer none] X fun e w' => e = .returned (.slice none 0 0) ∧ X = w') := fun X _ => list_nil X
  have HN1 : Hid (∀ X, Below V.heap.size V X → Calls Try.prog 31 #[.pointer (some ⟨w.heap.size + 1, 0, none⟩)] X fun e w' => e = .returned (.slice none 0 0) ∧ X = w') := fun X hX => list_at _ _ X (by
    rw [(World.cell?_of_block (a := ⟨w.heap.size + 1, 0, none⟩) (hX.block _ (row_lt hr1))), cell_of_row _ _ 0 _ _ _ hr1]; rfl)
  have HR0 : Hid _ := hr0
  have HR2 : Hid _ := hr2
  have HBV : Hid _ := hbV
  have HSV : Hid _ := hsV
  rw [hs0] at HR2
  have HW : Hid (V = ((w.alloc (.cells #[.bool false] 4 (0, 0))).alloc (.cells #[.slice none 0 0] 49 (0, 0))).alloc (.cells #[.pointer none, .pointer (some ⟨w.heap.size + 1, 0, none⟩)] 24 (0, 0))) := by rw [← hW0]; exact hV
  clear hV hW0 hbV hr0 hr1 hr2 hs0 hsV
  refine calls_marks Try.func7 rfl ?_
  simp only [Try.ntmps7, List.size_toArray, List.length_cons, List.length_nil, Nat.reduceAdd, Nat.reduceSub, Array.replicate_succ, Array.replicate_zero, List.push_toArray, List.append_toArray, List.nil_append, List.cons_append]
  go_wp2_with (refine wpList_bslice rfl 50 2 _ rfl #[(0, .pointer none), (1, .pointer (some ⟨w.heap.size + 1, 0, none⟩))] _ (by simp; first | done | rfl | exact ⟨rfl, rfl⟩) (bs_two _ _) ?_)
  rw [← HW.out]
  refine wp_loop_rounds 3 ?_
  rw [rounds_succ]
  have hci : V.cell? ⟨w.heap.size + 1 + 1, 0, none⟩ = some (.pointer none) := by rw [cell_of_row _ _ 0 _ _ _ HR2.out]; rfl
  -- .pointer none the receiver, HN0 list's contract from that world on, V the world
  go_wp2_with fail
  refine Calls.mono (row_bad (.pointer none) 0 1 V (by omega) (fun X hX => fault_nil (.pointer none) none 0 0 X (HN0.out X hX))) ?_
  rintro e X1 ⟨rfl, hb1⟩
  rw [show rV ZR = .agg #[.int .i64 0, .int .u64 0, .int .i64 0] from rfl]
  obtain ⟨Y1, hY1⟩ : ∃ Y1, Y1 = X1.alloc (.cells #[.int .i64 0, .int .u64 0, .int .i64 0] 43 (0, 0)) := ⟨_, rfl⟩
  have HY1 : Hid (Below V.heap.size V Y1) := by rw [hY1]; exact hb1.alloc hb1.size _
  clear hb1
  go_wp2_with fail
  rw [← hY1]
  clear hY1
  refine Calls.mono (step_bad (.pointer none) 0 1 0 1 0 Y1 (by omega) (fault_nil (.pointer none) none 0 0 Y1 (HN0.out Y1 HY1.out))) ?_
  rintro e wl ⟨rfl, rfl⟩
  go_wp2_with fail
  refine Calls.mono (hold_bad (.pointer none) 0 1 Y1 (by omega) (fault_nil (.pointer none) none 0 0 Y1 (HN0.out Y1 HY1.out))) ?_
  rintro e wl ⟨rfl, rfl⟩
  go_wp2_with fail
  refine Calls.mono (let_bad (.pointer none) 0 1 Y1 (by omega) (fault_nil (.pointer none) none 0 0 Y1 (HN0.out Y1 HY1.out))) ?_
  rintro e wl ⟨rfl, rfl⟩
  go_wp2_with fail
  refine Calls.mono (host_bad (.pointer none) 0 1 Y1 (by omega) (fault_nil (.pointer none) none 0 0 Y1 (HN0.out Y1 HY1.out))) ?_
  rintro e wl ⟨rfl, rfl⟩
  go_wp2_with fail
  refine Calls.mono (count_nil (.pointer none) none 0 0 0 Y1 (HN0.out Y1 HY1.out)) ?_
  rintro e wl ⟨rfl, rfl⟩
  go_wp2_with fail
  refine Calls.mono (granules_of (.pointer none) none 0 0 Y1 (HN0.out Y1 HY1.out)) ?_
  rintro e wl ⟨rfl, rfl⟩
  rw [show ((0 : Nat) : Int) = 0 from rfl]
  go_wp2_with fail
  refine Calls.mono (copy_nil (.pointer none) Y1 (HN0.out Y1 HY1.out)) ?_
  rintro e wl ⟨rfl, rfl⟩
  go_wp2_with fail
  refine Calls.mono (same_nil (.pointer none) Y1 (HN0.out Y1 HY1.out)) ?_
  rintro e wl ⟨rfl, rfl⟩
  go_wp2_with fail
  refine Calls.mono (of_nil (.pointer none) 0 Y1 (fun X hX => HN0.out X (HY1.out.trans (hX.mono HY1.out.size)))) ?_
  rintro e X4 ⟨fb4, ob4, rfl, _, _, hb4⟩
  have HX4 : Hid (Below V.heap.size V X4) := HY1.out.trans (hb4.mono HY1.out.size)
  clear hb4
  go_wp2_with fail
  refine Calls.mono (of_nil (.pointer none) 0 X4 (fun X hX => HN0.out X (HX4.out.trans (hX.mono HX4.out.size)))) ?_
  rintro e X5 ⟨fb5, ob5, rfl, hc5, _, hb5⟩
  have HX5 : Hid (Below V.heap.size V X5) := HX4.out.trans (hb5.mono HX4.out.size)
  have HC5 : Hid _ := hc5
  clear hb5 hc5
  go_wp2
  refine wp_rangeFunc_never (gf := 32) (lb := #[.pointer (some ⟨fb5, 0, none⟩), .pointer (some ⟨ob5, 0, none⟩)]) rfl (enters_of Try.func32 (by kernel_rfl) rfl) (fun y W hb => of1_empty y fb5 ob5 none 0 W ((hb.cell (block_lt HC5.out)).trans HC5.out)) ?_
  intro X6 hb6 hlt6 hd6
  have HX6 : Hid (Below V.heap.size V X6) := HX5.out.trans (hb6.mono HX5.out.size)
  have HD1 : Hid _ := hd6
  have hD1l : V.heap.size ≤ X5.heap.size := HX5.out.size
  obtain ⟨D1, hD1⟩ : ∃ D, D = X5.heap.size := ⟨_, rfl⟩
  rw [← hD1] at HD1 hD1l hlt6 ⊢
  have HN2 : Hid (∀ X, Below X6.heap.size X6 X → Calls Try.prog 31 #[.pointer (some ⟨w.heap.size + 1, 0, none⟩)] X fun e w' => e = .returned (.slice none 0 0) ∧ X = w') := fun X hX => HN1.out X (HX6.out.trans (hX.mono HX6.out.size))
  clear hb6 hd6 hci HC5 HY1 HX4 hD1 HX5
  go_wp2
  rw [rounds_succ]
  have hci : X6.cell? ⟨w.heap.size + 1 + 1, 1, none⟩ = some (.pointer (some ⟨w.heap.size + 1, 0, none⟩)) := by
    have hsv := HSV.out
    rw [World.cell?_of_block (a := ⟨w.heap.size + 1 + 1, 1, none⟩) (HX6.out.block _ (by show w.heap.size + 1 + 1 < _; omega)), cell_of_row _ _ 1 _ _ _ HR2.out]; rfl
  -- .pointer (some ⟨w.heap.size + 1, 0, none⟩) the receiver, HN2 list's contract from that world on, X6 the world
  go_wp2_with fail
  refine Calls.mono (row_bad (.pointer (some ⟨w.heap.size + 1, 0, none⟩)) 0 1 X6 (by omega) (fun X hX => fault_nil (.pointer (some ⟨w.heap.size + 1, 0, none⟩)) none 0 0 X (HN2.out X hX))) ?_
  rintro e X1 ⟨rfl, hb1⟩
  rw [show rV ZR = .agg #[.int .i64 0, .int .u64 0, .int .i64 0] from rfl]
  obtain ⟨Y1, hY1⟩ : ∃ Y1, Y1 = X1.alloc (.cells #[.int .i64 0, .int .u64 0, .int .i64 0] 43 (0, 0)) := ⟨_, rfl⟩
  have HY1 : Hid (Below X6.heap.size X6 Y1) := by rw [hY1]; exact hb1.alloc hb1.size _
  clear hb1
  go_wp2_with fail
  rw [← hY1]
  clear hY1
  refine Calls.mono (step_bad (.pointer (some ⟨w.heap.size + 1, 0, none⟩)) 0 1 0 1 0 Y1 (by omega) (fault_nil (.pointer (some ⟨w.heap.size + 1, 0, none⟩)) none 0 0 Y1 (HN2.out Y1 HY1.out))) ?_
  rintro e wl ⟨rfl, rfl⟩
  go_wp2_with fail
  refine Calls.mono (hold_bad (.pointer (some ⟨w.heap.size + 1, 0, none⟩)) 0 1 Y1 (by omega) (fault_nil (.pointer (some ⟨w.heap.size + 1, 0, none⟩)) none 0 0 Y1 (HN2.out Y1 HY1.out))) ?_
  rintro e wl ⟨rfl, rfl⟩
  go_wp2_with fail
  refine Calls.mono (let_bad (.pointer (some ⟨w.heap.size + 1, 0, none⟩)) 0 1 Y1 (by omega) (fault_nil (.pointer (some ⟨w.heap.size + 1, 0, none⟩)) none 0 0 Y1 (HN2.out Y1 HY1.out))) ?_
  rintro e wl ⟨rfl, rfl⟩
  go_wp2_with fail
  refine Calls.mono (host_bad (.pointer (some ⟨w.heap.size + 1, 0, none⟩)) 0 1 Y1 (by omega) (fault_nil (.pointer (some ⟨w.heap.size + 1, 0, none⟩)) none 0 0 Y1 (HN2.out Y1 HY1.out))) ?_
  rintro e wl ⟨rfl, rfl⟩
  go_wp2_with fail
  refine Calls.mono (count_nil (.pointer (some ⟨w.heap.size + 1, 0, none⟩)) none 0 0 0 Y1 (HN2.out Y1 HY1.out)) ?_
  rintro e wl ⟨rfl, rfl⟩
  go_wp2_with fail
  refine Calls.mono (granules_of (.pointer (some ⟨w.heap.size + 1, 0, none⟩)) none 0 0 Y1 (HN2.out Y1 HY1.out)) ?_
  rintro e wl ⟨rfl, rfl⟩
  rw [show ((0 : Nat) : Int) = 0 from rfl]
  go_wp2_with fail
  refine Calls.mono (copy_nil (.pointer (some ⟨w.heap.size + 1, 0, none⟩)) Y1 (HN2.out Y1 HY1.out)) ?_
  rintro e wl ⟨rfl, rfl⟩
  go_wp2_with fail
  refine Calls.mono (same_nil (.pointer (some ⟨w.heap.size + 1, 0, none⟩)) Y1 (HN2.out Y1 HY1.out)) ?_
  rintro e wl ⟨rfl, rfl⟩
  go_wp2_with fail
  refine Calls.mono (of_nil (.pointer (some ⟨w.heap.size + 1, 0, none⟩)) 0 Y1 (fun X hX => HN2.out X (HY1.out.trans (hX.mono HY1.out.size)))) ?_
  rintro e X4 ⟨fb4, ob4, rfl, _, _, hb4⟩
  have HX4 : Hid (Below X6.heap.size X6 X4) := HY1.out.trans (hb4.mono HY1.out.size)
  clear hb4
  go_wp2_with fail
  refine Calls.mono (of_nil (.pointer (some ⟨w.heap.size + 1, 0, none⟩)) 0 X4 (fun X hX => HN2.out X (HX4.out.trans (hX.mono HX4.out.size)))) ?_
  rintro e X5 ⟨fb5, ob5, rfl, hc5, _, hb5⟩
  have HX5 : Hid (Below X6.heap.size X6 X5) := HX4.out.trans (hb5.mono HX4.out.size)
  have HC5 : Hid _ := hc5
  clear hb5 hc5
  go_wp2
  refine wp_rangeFunc_never (gf := 32) (lb := #[.pointer (some ⟨fb5, 0, none⟩), .pointer (some ⟨ob5, 0, none⟩)]) rfl (enters_of Try.func32 (by kernel_rfl) rfl) (fun y W hb => of1_empty y fb5 ob5 none 0 W ((hb.cell (block_lt HC5.out)).trans HC5.out)) ?_
  intro X7 hb7 hlt7 hd7
  have HX7 : Hid (Below X6.heap.size X6 X7) := HX5.out.trans (hb7.mono HX5.out.size)
  have HD2 : Hid _ := hd7
  have hD2l : X6.heap.size ≤ X5.heap.size := HX5.out.size
  obtain ⟨D2, hD2⟩ : ∃ D, D = X5.heap.size := ⟨_, rfl⟩
  rw [← hD2] at HD2 hD2l hlt7 ⊢
  have HD1' : Hid (X7.heap[D1]? = some (.deferred (some []))) := (HX7.out.block _ hlt6).trans HD1.out
  have HR7 : Hid (X7.heap[w.heap.size]? = some (.cells #[.bool false] 4 (0, 0))) := by
    have hsv := HSV.out
    have hs6 := HX6.out.size
    exact (HX7.out.block _ (by omega)).trans ((HX6.out.block _ (by omega)).trans HR0.out)
  have HB7 : Hid (Below w.heap.size w X7) := HBV.out.trans ((HX6.out.trans (HX7.out.mono HX6.out.size)).mono HBV.out.size)
  clear hb7 hd7 hci HC5 HY1 HX4 hD2 HX5
  go_wp2
  rw [rounds_succ]
  have HKN : Hid _ := known_any X7
  go_wp2_with fail
  refine Calls.mono HKN.out ?_
  rintro e X8 ⟨rfl, hb8⟩
  have hr8 := (hb8.block _ (row_lt HR7.out)).trans HR7.out
  have hc8 : X8.cell? ⟨w.heap.size, 0, none⟩ = some (.bool false) := by rw [cell_of_row _ _ 0 _ _ _ hr8]; rfl
  have hf8 := frozen_of_row _ _ 0 _ _ hr8
  have HB8 : Hid (Below w.heap.size w X8) := HB7.out.trans (hb8.mono HB7.out.size)
  have hs7 := HX7.out.size
  have hs8 := hb8.size
  have HE1 : Hid (X8.heap[D1]? = some (.deferred (some []))) := (hb8.block _ (by omega)).trans HD1'.out
  have HE2 : Hid (X8.heap[D2]? = some (.deferred (some []))) := (hb8.block _ hlt7).trans HD2.out
  have HR8 : Hid _ := hr8
  have hsv := HSV.out
  clear hb8 hr8
  go_wp2
  have hw8 : (X8.setCell ⟨w.heap.size, 0, none⟩ (.bool true)).heap[w.heap.size]? = some (.cells #[.bool true] 4 (0, 0)) := heap_setCell_same _ w.heap.size 0 _ _ _ HR8.out
  have hb9 : Below w.heap.size w (X8.setCell ⟨w.heap.size, 0, none⟩ (.bool true)) := HB8.out.setCell (p := ⟨w.heap.size, 0, none⟩) (Nat.le_refl _) _
  refine marks_ret (v := .bool true) [D2, D1] _ (fun D hD => ?_) (by simp; omega) (fun w' h1 h2 h3 h4 h5 => ⟨results_bool Try.results7 _ _ w.heap.size true rfl ?_, rfl, ⟨h2.trans hb9.os, h3.trans hb9.tape, h4.trans hb9.output, by rw [h1]; exact hb9.size, fun k hk => (h5 k (by simp; omega)).trans (hb9.block k hk)⟩⟩)
  · rw [heap_setCell_other _ _ _ _ (by have : D = D2 ∨ D = D1 := (by simpa using hD); show D ≠ w.heap.size; omega)]
    have : D = D2 ∨ D = D1 := by simpa using hD
    rcases this with rfl | rfl
    · exact HE2.out
    · exact HE1.out
  · rw [cell_of_row _ _ 0 _ _ _ ((h5 _ (by simp; omega)).trans hw8)]; rfl
end Go.Proofs.Ytpmbbnmpldeajaa.GC
namespace Go.Proofs.Ytpmbbnmpldeajaa.granuleNil
open Go.ChangeShapes Go.WideShapes Go.ChangeAt Go.RowKit

theorem own : ownKnob Try.prog.godebug = none := by kernel_rfl
theorem laidOut : laidOutB Try.prog = true := by kernel_rfl
theorem walk (w : World) : Calls Try.prog 7 #[] w fun e w' => e = .returned (.bool true) ∧ Below w.heap.size w w' := GC.nil_walk w
set_option maxRecDepth 100000 in
theorem lifted (os : Os) (started : os.Started) (H : Type) (enc : TypeId × Value → H) :
    ReturnsInHanded {} Try.checked os 7 .any (Rows.granuleNilSpec.pre6 enc Try.prog Try.f7 Rows.granuleNilRow.domain false) (Rows.granuleNilSpec.post enc Try.prog Try.f7 false true false false) := by
  refine returnsInHanded_of_change (C := Try.checked) own started (by kernel_rfl) Try.func7
    (ChangeSpec.witness6 (enc := enc) (C := Try.checked) false ⟨#[], #[], []⟩ 8 (by kernel_rfl) (by kernel_rfl) (by kernel_rfl) (by kernel_rfl)) ?_
  intro W base args ds gs before hval0 hW hcnd _
  have hval : ∀ (j : Nat) t v, Try.f7.params[j]? = some t → args[j]? = some v → Value.okWide Try.prog W .any base t v := hval0
  have hW' := hW
  obtain ⟨p, q, hA0, hV, rfl, hfz, hnd⟩ := hW
  have hA : DataW.TrodAll enc Try.prog W 0 (fun _ => true) true Try.f7.params.toList args.toList ds p := hA0
  rw [Try.params7] at hA hval
  obtain ⟨hargs, rfl, rfl⟩ := trodAll_nil hA
  obtain rfl : args = #[] := by cases args; simp_all
  obtain ⟨rfl, rfl⟩ := trodVars_none hV
  clear hA0 hval0
  refine (walk  W ).mono fun e W' ⟨he, bel⟩ => ?_
  subst he
  exact ⟨_, rfl, _, _, _, [], _, [], hW', trodAll_mk1 (shut_bool Try.underlying4 _), trodAll_mk0, rfl, bel.frame _, fun h => by cases h⟩

theorem over : Rows.granuleNilRow.holds Try.pinned (OpenSpec.ofChange Rows.granuleNilSpec) :=
  OpenClaim.holds_of_wide 7 Try.f7 rfl rfl rfl rfl rfl rfl rfl ⟨rfl, rfl, rfl, rfl, rfl⟩ rfl rfl rfl rfl rfl (by kernel_rfl) Try.func7 (by kernel_rfl)
    (of_decide_eq_true (by kernel_rfl)) (by unfold Func.isWrapper; first | (rw [if_pos (by decide +kernel)]; kernel_rfl) | (rw [if_neg (by decide +kernel)]; exact ⟨rfl, rfl⟩))
    (fun os started H enc _ => lifted os started H enc)

end Go.Proofs.Ytpmbbnmpldeajaa.granuleNil
namespace Go.Proofs.Ytpmbbnmpldeajaa
theorem granuleNil_holds : Rows.GranuleNilSaid := granuleNil.over
#print axioms granuleNil_holds
end Go.Proofs.Ytpmbbnmpldeajaa
