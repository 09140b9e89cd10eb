/- Contracts of the program's computed, and Ask in concrete mode. -/
import Derived.Test.YtbmgfllilcdgcaaQH
import Derived.Test.YtbmgfllilcdgcaaQQ
import Derived.Test.YtbmgfllilcdgcaaB5
set_option linter.unusedVariables false
set_option linter.unusedSimpArgs false
namespace Go.Proofs.Ytbmgfllilcdgcaa.R5
open Go.RowKit

/-- What is computed of a question. -/
def compD (q : Qn) : List UInt8 := if q.kind = 1 then shaL (textQ q) else macL q.key (textQ q)
theorem compD_len (q : Qn) : (compD q).length = 32 := by
  unfold compD
  split
  · exact shaL_len _
  · exact macL_len _ _
theorem textQ_len (q : Qn) (h : q.key.length = 32) : (textQ q).length = q.data.length + 34 := by unfold textQ; simp [h]; omega
/-- While computed runs. -/
structure SCo (w : World) (QL : List Value) (X : World) : Prop where
  b : Below w.heap.size w X
  q : X.heap[w.heap.size]? = some (.cells QL.toArray 33 (0, 0))
  z : ∃ Z, Z.size = 32 ∧ X.heap[w.heap.size + 1]? = some (.cells Z 23 (0, 0))
theorem SCo.step {w : World} {QL : List Value} {X Y : World} (h : SCo w QL X) (hb : Below X.heap.size X Y) : SCo w QL Y := by
  obtain ⟨Z, h1, h2⟩ := h.z
  exact ⟨h.b.trans (hb.mono h.b.size), (hb.block _ (row_lt h.q)).trans h.q, Z, h1, (hb.block _ (row_lt h2)).trans h2⟩
set_option maxHeartbeats 4000000 in
set_option maxRecDepth 100000 in
theorem computed_any (v : Value) (q : Qn) (w : World) (hl : q.data.length ≤ 4294000000) (h : HQ w v q) : Calls Try.prog 29 #[v] w fun e w' => e = .returned (.agg ((compD q).map B8).toArray) ∧ Below w.heap.size w w' := by
  obtain ⟨hk, dv, rfl, hd⟩ := h
  have HTX : Hid (∀ X, Below w.heap.size w X → Calls Try.prog 13 #[.agg (qL q dv).toArray] X fun e w' => ∃ u, e = .returned u ∧ FB X.heap.size w' u (textQ q) ∧ Below X.heap.size X w') := fun X hX => ptext_any _ q X (by omega) ⟨hk, dv, rfl, hd.below hX⟩
  have hTL := textQ_len q hk
  have HCL : Hid _ := compD_len q
  have HQI : Hid _ := info35 (qL q dv) (qL_len q dv hk)
  have HUQ : Hid _ := Try.underlying33
  have hzv := fun W => zero_dig W
  obtain ⟨ZL, hZL⟩ : ∃ L, L = (List.replicate 32 (0 : UInt8)).map B8 := ⟨_, rfl⟩
  rw [← hZL] at hzv
  have HZS : Hid (ZL.toArray.size = 32) := by show _ = _; rw [hZL]; simp
  obtain ⟨hb0, hr0, hr1⟩ := w2_facts w (qL q dv) ZL
  obtain ⟨a0, a1, a2, a3⟩ := q_facts hk hr0
  have HRK : Hid (∀ X : World, X.heap[w.heap.size]? = some (.cells (qL q dv).toArray 33 (0, 0)) → HB X (.slice (some ⟨w.heap.size, 1, none⟩) 32 32) q.key) := fun X hX => hb_range 32 hk.symm (by rw [hk]; decide) (q_facts hk hX).2.1
  obtain ⟨CL, hCL⟩ : ∃ L, L = (compD q).map B8 := ⟨_, rfl⟩
  have HCS : Hid (CL.toArray.size = 32) := by show _ = _; rw [hCL]; simpa using HCL.out
  have HC1 : Hid (CL.toArray.all (·.oneCell') = true) := by show _ = _; rw [hCL]; exact B8_onea _
  have HSH : Hid (q.kind = 1 → CL = (shaL (textQ q)).map B8) := fun h => by rw [hCL]; unfold compD; rw [if_pos h]
  have HMC : Hid (¬ q.kind = 1 → CL = (macL q.key (textQ q)).map B8) := fun h => by rw [hCL]; unfold compD; rw [if_neg h]
  rw [← hCL]
  have HKL : Hid _ := hk
  have HS0 : Hid (SCo w (qL q dv) ((w.alloc (.cells (qL q dv).toArray 33 (0, 0))).alloc (.cells ZL.toArray 23 (0, 0)))) := ⟨hb0, hr0, ZL.toArray, HZS.out, hr1⟩
  have HR0 : Hid (((w.alloc (.cells (qL q dv).toArray 33 (0, 0))).alloc (.cells ZL.toArray 23 (0, 0))).rangeAt w.heap.size 0 (qL q dv)) := rangeAt_row hr0
  have hsl := fun W => R5.sliceDig W w.heap.size 1
  obtain ⟨QL, hQL⟩ : ∃ L, L = qL q dv := ⟨_, rfl⟩
  rw [← hQL] at HTX HQI HRK HS0 HR0 a0 ⊢
  generalize textQ q = TX at *
  clear hd hZL hb0 hr0 hr1 a1 a2 a3 hCL hQL hk
  by_cases h1 : q.kind = 1
  · have hk1 : (q.kind == 1) = true := by simp [h1]
    have HE : Hid _ := HSH.out h1
    clear h1
    go_enter Try.func29, Try.ntmps29
    go_wp2_with (first
      | (refine wpList_load_mid rfl 33 _ rfl w.heap.size 0 rfl QL _ HR0.out HUQ.out rfl HQI.out ?_)
      | (go_at_call 13; fail))
    refine Calls.mono (HTX.out _ HS0.out.b) ?_
    rintro e X1 ⟨u, rfl, hf1, hb1⟩
    have hS1 := HS0.out.step hb1
    have hh1 := hf1.hb
    clear hf1 hb1
    go_wp2_with fail
    refine (shaSum_any u TX X1 (by omega) hh1).mono ?_
    rintro e X2 ⟨rfl, hb2⟩
    have hS2 := hS1.step hb2
    rw [← HE.out]
    obtain ⟨Z, hz1, hz2⟩ := hS2.z
    have HZ2 : Hid _ := hz2
    have HZ1 : Hid _ := hz1
    have HB2 : Hid _ := hS2.b
    clear hS1 hS2 hz1 hz2 hh1 hb2
    go_wp2_with (refine wpList_store_row rfl 23 _ _ rfl (w.heap.size + 1) CL.toArray rfl rfl 23 Z HZ2.out (info32a _ HCS.out) (HZ1.out.trans HCS.out.symm) HC1.out ?_)
    refine bodyPost_ret (v := .agg CL.toArray) ?_ rfl ⟨rfl, below_setRow HB2.out (by omega) _⟩
    exact results_cell_row Try.results29 _ _ (w.heap.size + 1) 23 _ (0, 0) _ rfl (setRow_heap _ _ _ _ _ _ HZ2.out) Try.underlying23 rfl (info32a _ HCS.out)
  · have hk1 : (q.kind == 1) = false := by simp [h1]
    have HE : Hid _ := HMC.out h1
    clear h1
    have HSD : Hid (SCo w QL ((w.alloc (.cells QL.toArray 33 (0, 0))).alloc (.cells ZL.toArray 23 (0, 0))).drew) := ⟨HS0.out.b.drew, HS0.out.q, HS0.out.z⟩
    go_enter Try.func29, Try.ntmps29
    go_wp2
    refine wp_region_held_drew (S := SCo w QL) (by kernel_rfl) HSD.out (fun hHeld => ?_)
    generalize ((w.alloc (.cells QL.toArray 33 (0, 0))).alloc (.cells ZL.toArray 23 (0, 0))).drew = W at *
    refine wpAnyH_take (i := 0) (oi := { dst := some 9, op := Go.Op.fieldAddr 33 (Go.Operand.tmp 1) 1, type := 0, pos := _, after := #[], guard := none }) (v := .pointer (some ⟨w.heap.size, 1, none⟩)) rfl (by kernel_rfl) (by kernel_rfl) (by kernel_rfl) (fun _ _ _ h => h) (Or.inl ⟨by rfl, fun w' hw' => ?_⟩) hHeld ?_
    · first | (go_simp; done) | (go_simp; rfl)
    try simp only [Act.put, List.setIfInBounds_toArray, List.set_cons_zero, List.set_cons_succ]
    refine wpAnyH_take (i := 1) (oi := { dst := some 10, op := Go.Op.slice 23 (Go.Operand.tmp 9) none none none, type := 31, pos := _, after := #[{ on := 0, ground := Go.Ground.data }], guard := none }) (v := .slice (some ⟨w.heap.size, 1, none⟩) 32 32) rfl (by kernel_rfl) (by kernel_rfl) (by kernel_rfl) (fun _ _ _ h => h) (Or.inl ⟨by rfl, fun w' hw' => ?_⟩) hHeld ?_
    · first | (go_simp; done) | (go_simp; rfl)
    try simp only [Act.put, List.setIfInBounds_toArray, List.set_cons_zero, List.set_cons_succ]
    refine wpAnyH_take (i := 2) (oi := { dst := some 11, op := Go.Op.load 33 (Go.Operand.tmp 1), type := 33, pos := _, after := #[], guard := none }) rfl (by kernel_rfl) (by kernel_rfl) (by kernel_rfl) (fun _ _ _ h => h) (yieldsIf_load_mid (by rfl) 33 (.tmp 1) rfl (w.heap.size) (0) rfl (QL) _ (fun _ h => rangeAt_row h.q) HUQ.out rfl HQI.out) hHeld ?_
    try simp only [Act.put, List.setIfInBounds_toArray, List.set_cons_zero, List.set_cons_succ]
    refine wpAnyH_ready (rs := [3]) (by kernel_rfl) (by simp) ?_
    refine AllReadyH.cons (o := { dst := some 12, op := Go.Op.call { callee := Go.Callee.value (Go.Operand.func 13), args := #[Go.Operand.tmp 11], argTypes := #[33] }, type := 31, pos := _, after := #[{ on := 2, ground := Go.Ground.data }], guard := none }) rfl (fun K hK => ?_) AllReadyH.nil
    rw [if_pos (by rfl)]
    go_wp2_with fail
    refine Calls.mono (HTX.out _ hHeld.b) ?_
    rintro e X1 ⟨u, rfl, hf1, hb1⟩
    have hS1 := hHeld.step hb1
    have hh1 := hf1.hb
    clear hf1 hb1 hHeld
    refine hK.out _ _ hS1 (fun _ => ?_)
    clear hK K
    try simp only [Act.put, List.setIfInBounds_toArray, List.set_cons_zero, List.set_cons_succ]
    have hHeld := hS1
    refine wpAnyH_ready (rs := [4]) (by kernel_rfl) (by simp) ?_
    refine AllReadyH.cons (o := { dst := some 13, op := Go.Op.call { callee := Go.Callee.value (Go.Operand.func 42), args := #[Go.Operand.tmp 10, Go.Operand.tmp 12], argTypes := #[31, 31] }, type := 23, pos := _, after := #[{ on := 1, ground := Go.Ground.data }, { on := 3, ground := Go.Ground.data }, { on := 3, ground := Go.Ground.chain }], guard := none }) rfl (fun K hK => ?_) AllReadyH.nil
    rw [if_pos (by rfl)]
    go_wp2_with fail
    refine (tag_any _ u q.key TX X1 (by rw [HKL.out]; decide) (by omega) (HRK.out X1 hS1.q) hh1).mono ?_
    rintro e X2 ⟨rfl, hb2⟩
    have hS2 := hS1.step hb2
    rw [← HE.out]
    clear hHeld
    refine hK.out _ _ hS2 (fun _ => ?_)
    clear hK K
    try simp only [Act.put, List.setIfInBounds_toArray, List.set_cons_zero, List.set_cons_succ]
    have hHeld := hS2
    obtain ⟨Z, hz1, hz2⟩ := hS2.z
    refine wpAnyH_ready (rs := [5]) (by kernel_rfl) (by simp) ?_
    refine AllReadyH.cons (o := { dst := none, op := Go.Op.store 23 (Go.Operand.tmp 2) (Go.Operand.tmp 13), type := 0, pos := _, after := #[{ on := 4, ground := Go.Ground.data }, { on := 4, ground := Go.Ground.chain }, { on := 0, ground := Go.Ground.phase }, { on := 1, ground := Go.Ground.phase }, { on := 2, ground := Go.Ground.phase }, { on := 3, ground := Go.Ground.phase }, { on := 4, ground := Go.Ground.phase }], guard := none }) rfl (fun K hK => ?_) AllReadyH.nil
    rw [if_pos (by rfl)]
    refine wp_store_row 23 _ _ rfl (w.heap.size + 1) CL.toArray rfl rfl 23 Z hz2 (info32a _ HCS.out) (hz1.trans HCS.out.symm) HC1.out ?_
    have hr3 := setRow_heap _ _ _ CL.toArray _ _ hz2
    have hS3 : SCo w QL (X2.setRow (w.heap.size + 1) CL.toArray) := ⟨below_setRow hS2.b (by omega) _, (setRow_other _ _ _ _ (by omega)).trans hS2.q, CL.toArray, HCS.out, hr3⟩
    refine hK.out _ _ hS3 (fun _ => ?_)
    clear hK K
    try simp only [Act.put, List.setIfInBounds_toArray, List.set_cons_zero, List.set_cons_succ]
    refine wpAnyH_done (by kernel_rfl) ?_ _
    have HR3 : Hid _ := hr3
    have HB3 : Hid _ := hS3.b
    clear hHeld hS1 hS2 hS3 hz1 hz2 hr3 hh1 hb2
    go_wp2
    refine bodyPost_ret (v := .agg CL.toArray) ?_ rfl ⟨rfl, HB3.out⟩
    exact results_cell_row Try.results29 _ _ (w.heap.size + 1) 23 _ (0, 0) _ rfl HR3.out Try.underlying23 rfl (info32a _ HCS.out)
end Go.Proofs.Ytbmgfllilcdgcaa.R5
