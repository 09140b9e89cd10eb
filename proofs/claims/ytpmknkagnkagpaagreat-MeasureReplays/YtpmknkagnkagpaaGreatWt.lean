/- Several texts in one. -/
import Derived.Test.YtpmknkagnkagpaaGreatWr
import Derived.Test.YtpmknkagnkagpaaGreatWg
set_option linter.unusedVariables false
set_option linter.unusedSimpArgs false
/- Contracts of the program's computed, and Ask in concrete mode. -/
namespace Go.Proofs.YtpmknkagnkagpaaGreat.R5
open scoped Classical
open Go.RowKit

def compD (q : Qn) : List UInt8 := if q.kind = 1 then shaL (textQ q) else macL q.key (textQ q)
theorem compD_len (q : Qn) : (compD q).length = 32 := by
  unfold compD
  split
  · exact shaL_len _
  · exact macL_len _ _
theorem textQ_len (q : Qn) (h : q.key.length = 32) : (textQ q).length = q.data.length + 34 := by unfold textQ; simp [h]; omega
structure SCo (w : World) (QL : List Value) (X : World) : Prop where
  b : Below w.heap.size w X
  q : X.heap[w.heap.size]? = some (.cells QL.toArray 80 (0, 0))
  z : ∃ Z, Z.size = 32 ∧ X.heap[w.heap.size + 1]? = some (.cells Z 24 (0, 0))
theorem SCo.step {w : World} {QL : List Value} {X Y : World} (h : SCo w QL X) (hb : Below X.heap.size X Y) : SCo w QL Y := by
  obtain ⟨Z, h1, h2⟩ := h.z
  exact ⟨h.b.trans (hb.mono h.b.size), (hb.block _ (row_lt h.q)).trans h.q, Z, h1, (hb.block _ (row_lt h2)).trans h2⟩
set_option maxHeartbeats 4000000 in
set_option maxRecDepth 100000 in
theorem computed_any (v : Value) (q : Qn) (w : World) (hl : q.data.length ≤ 4294000000) (h : HQ w v q) : Calls Tryz.prog 57 #[v] w fun e w' => e = .returned (.agg ((compD q).map B8).toArray) ∧ Below w.heap.size w w' := by
  obtain ⟨hk, dv, rfl, hd⟩ := h
  have HTX : Hid (∀ X, Below w.heap.size w X → Calls Tryz.prog 68 #[.agg (qL q dv).toArray] X fun e w' => ∃ u, e = .returned u ∧ FB X.heap.size w' u (textQ q) ∧ Below X.heap.size X w') := fun X hX => ptext_any _ q X (by omega) ⟨hk, dv, rfl, hd.below hX⟩
  have hTL := textQ_len q hk
  have HCL : Hid _ := compD_len q
  have HQI : Hid _ := info35 (qL q dv) (qL_len q dv hk)
  have HUQ : Hid _ := Tryz.underlying80
  have hzv := fun W => zero_dig W
  obtain ⟨ZL, hZL⟩ : ∃ L, L = (List.replicate 32 (0 : UInt8)).map B8 := ⟨_, rfl⟩
  rw [← hZL] at hzv
  have HZS : Hid (ZL.toArray.size = 32) := by show _ = _; rw [hZL]; simp
  obtain ⟨hb0, hr0, hr1⟩ := w2_facts w (qL q dv) ZL
  obtain ⟨a0, a1, a2, a3⟩ := q_facts hk hr0
  have HRK : Hid (∀ X : World, X.heap[w.heap.size]? = some (.cells (qL q dv).toArray 80 (0, 0)) → HB X (.slice (some ⟨w.heap.size, 1, none⟩) 32 32) q.key) := fun X hX => hb_range 32 hk.symm (by rw [hk]; decide) (q_facts hk hX).2.1
  obtain ⟨CL, hCL⟩ : ∃ L, L = (compD q).map B8 := ⟨_, rfl⟩
  have HCS : Hid (CL.toArray.size = 32) := by show _ = _; rw [hCL]; simpa using HCL.out
  have HC1 : Hid (CL.toArray.all (·.oneCell') = true) := by show _ = _; rw [hCL]; exact B8_onea _
  have HSH : Hid (q.kind = 1 → CL = (shaL (textQ q)).map B8) := fun h => by rw [hCL]; unfold compD; rw [if_pos h]
  have HMC : Hid (¬ q.kind = 1 → CL = (macL q.key (textQ q)).map B8) := fun h => by rw [hCL]; unfold compD; rw [if_neg h]
  rw [← hCL]
  have HKL : Hid _ := hk
  have HS0 : Hid (SCo w (qL q dv) ((w.alloc (.cells (qL q dv).toArray 80 (0, 0))).alloc (.cells ZL.toArray 24 (0, 0)))) := ⟨hb0, hr0, ZL.toArray, HZS.out, hr1⟩
  have HR0 : Hid (((w.alloc (.cells (qL q dv).toArray 80 (0, 0))).alloc (.cells ZL.toArray 24 (0, 0))).rangeAt w.heap.size 0 (qL q dv)) := rangeAt_row hr0
  have hsl := fun W => R5.sliceDig W w.heap.size 1
  obtain ⟨QL, hQL⟩ : ∃ L, L = qL q dv := ⟨_, rfl⟩
  rw [← hQL] at HTX HQI HRK HS0 HR0 a0 ⊢
  generalize textQ q = TX at *
  clear hd hZL hb0 hr0 hr1 a1 a2 a3 hCL hQL hk
  by_cases h1 : q.kind = 1
  · have hk1 : (q.kind == 1) = true := by simp [h1]
    have HE : Hid _ := HSH.out h1
    clear h1
    go_enter Tryz.func57, Tryz.ntmps57
    go_wp2_with (first
      | (refine wpList_load_mid rfl 80 _ rfl w.heap.size 0 rfl QL _ HR0.out HUQ.out rfl HQI.out ?_)
      | (go_at_call 68; fail))
    refine Calls.mono (HTX.out _ HS0.out.b) ?_
    rintro e X1 ⟨u, rfl, hf1, hb1⟩
    have hS1 := HS0.out.step hb1
    have hh1 := hf1.hb
    clear hf1 hb1
    go_wp2_with fail
    refine (shaSum_any u TX X1 (by omega) hh1).mono ?_
    rintro e X2 ⟨rfl, hb2⟩
    have hS2 := hS1.step hb2
    rw [← HE.out]
    obtain ⟨Z, hz1, hz2⟩ := hS2.z
    have HZ2 : Hid _ := hz2
    have HZ1 : Hid _ := hz1
    have HB2 : Hid _ := hS2.b
    clear hS1 hS2 hz1 hz2 hh1 hb2
    go_wp2_with (refine wpList_store_row rfl 24 _ _ rfl (w.heap.size + 1) CL.toArray rfl rfl 24 Z HZ2.out (info32a _ HCS.out) (HZ1.out.trans HCS.out.symm) HC1.out ?_)
    refine bodyPost_ret (v := .agg CL.toArray) ?_ rfl ⟨rfl, below_setRow HB2.out (by omega) _⟩
    exact results_cell_row Tryz.results57 _ _ (w.heap.size + 1) 24 _ (0, 0) _ rfl (setRow_heap _ _ _ _ _ _ HZ2.out) Tryz.underlying24 rfl (info32a _ HCS.out)
  · have hk1 : (q.kind == 1) = false := by simp [h1]
    have HE : Hid _ := HMC.out h1
    clear h1
    have HSD : Hid (SCo w QL ((w.alloc (.cells QL.toArray 80 (0, 0))).alloc (.cells ZL.toArray 24 (0, 0))).drew) := ⟨HS0.out.b.drew, HS0.out.q, HS0.out.z⟩
    go_enter Tryz.func57, Tryz.ntmps57
    go_wp2
    refine wp_region_held_drew (S := SCo w QL) (by kernel_rfl) HSD.out (fun hHeld => ?_)
    generalize ((w.alloc (.cells QL.toArray 80 (0, 0))).alloc (.cells ZL.toArray 24 (0, 0))).drew = W at *
    refine wpAnyH_take (i := 0) (oi := ⟨some 9, .fieldAddr 80 (.tmp 1) 1, 0, _, #[], none⟩) (v := .pointer (some ⟨w.heap.size, 1, none⟩)) rfl (by kernel_rfl) (by kernel_rfl) (by kernel_rfl) (fun _ _ _ h => h) (Or.inl ⟨by rfl, fun w' hw' => ?_⟩) hHeld ?_
    · first | (go_simp; done) | (go_simp; rfl)
    try simp only [Act.put, qT, q0, qS]
    refine wpAnyH_take (i := 1) (oi := ⟨some 10, .slice 24 (.tmp 9) none none none, 78, _, #[⟨0, .data⟩], none⟩) (v := .slice (some ⟨w.heap.size, 1, none⟩) 32 32) rfl (by kernel_rfl) (by kernel_rfl) (by kernel_rfl) (fun _ _ _ h => h) (Or.inl ⟨by rfl, fun w' hw' => ?_⟩) hHeld ?_
    · first | (go_simp; done) | (go_simp; rfl)
    try simp only [Act.put, qT, q0, qS]
    refine wpAnyH_take (i := 2) (oi := ⟨some 11, .load 80 (.tmp 1), 80, _, #[], none⟩) rfl (by kernel_rfl) (by kernel_rfl) (by kernel_rfl) (fun _ _ _ h => h) (yieldsIf_load_mid (by rfl) 80 (.tmp 1) rfl (w.heap.size) (0) rfl (QL) _ (fun _ h => rangeAt_row h.q) HUQ.out rfl HQI.out) hHeld ?_
    try simp only [Act.put, qT, q0, qS]
    refine wpAnyH_ready (rs := [3]) (by kernel_rfl) (by simp) ?_
    refine AllReadyH.cons (o := { dst := some 12, op := .call { callee := Go.Callee.value (.func 68), args := #[.tmp 11], argTypes := #[80] }, type := 78, pos := _, after := #[⟨2, .data⟩], guard := none }) rfl (fun K hK => ?_) AllReadyH.nil
    rw [if_pos (by rfl)]
    go_wp2_with fail
    refine Calls.mono (HTX.out _ hHeld.b) ?_
    rintro e X1 ⟨u, rfl, hf1, hb1⟩
    have hS1 := hHeld.step hb1
    have hh1 := hf1.hb
    clear hf1 hb1 hHeld
    refine hK.out _ _ hS1 (fun _ => ?_)
    clear hK K
    try simp only [Act.put, qT, q0, qS]
    have hHeld := hS1
    refine wpAnyH_ready (rs := [4]) (by kernel_rfl) (by simp) ?_
    refine AllReadyH.cons (o := { dst := some 13, op := .call { callee := Go.Callee.value (.func 69), args := #[.tmp 10, .tmp 12], argTypes := #[78, 78] }, type := 24, pos := _, after := #[⟨1, .data⟩, ⟨3, .data⟩, ⟨3, .chain⟩], guard := none }) rfl (fun K hK => ?_) AllReadyH.nil
    rw [if_pos (by rfl)]
    go_wp2_with fail
    refine (tag_any _ u q.key TX X1 (by rw [HKL.out]; decide) (by omega) (HRK.out X1 hS1.q) hh1).mono ?_
    rintro e X2 ⟨rfl, hb2⟩
    have hS2 := hS1.step hb2
    rw [← HE.out]
    clear hHeld
    refine hK.out _ _ hS2 (fun _ => ?_)
    clear hK K
    try simp only [Act.put, qT, q0, qS]
    have hHeld := hS2
    obtain ⟨Z, hz1, hz2⟩ := hS2.z
    refine wpAnyH_ready (rs := [5]) (by kernel_rfl) (by simp) ?_
    refine AllReadyH.cons (o := ⟨none, .store 24 (.tmp 2) (.tmp 13), 0, _, #[⟨4, .data⟩, ⟨4, .chain⟩, ⟨0, .phase⟩, ⟨1, .phase⟩, ⟨2, .phase⟩, ⟨3, .phase⟩, ⟨4, .phase⟩], none⟩) rfl (fun K hK => ?_) AllReadyH.nil
    rw [if_pos (by rfl)]
    refine wp_store_row 24 _ _ rfl (w.heap.size + 1) CL.toArray rfl rfl 24 Z hz2 (info32a _ HCS.out) (hz1.trans HCS.out.symm) HC1.out ?_
    have hr3 := setRow_heap _ _ _ CL.toArray _ _ hz2
    have hS3 : SCo w QL (X2.setRow (w.heap.size + 1) CL.toArray) := ⟨below_setRow hS2.b (by omega) _, (setRow_other _ _ _ _ (by omega)).trans hS2.q, CL.toArray, HCS.out, hr3⟩
    refine hK.out _ _ hS3 (fun _ => ?_)
    clear hK K
    try simp only [Act.put, qT, q0, qS]
    refine wpAnyH_done (by kernel_rfl) ?_ _
    have HR3 : Hid _ := hr3
    have HB3 : Hid _ := hS3.b
    clear hHeld hS1 hS2 hS3 hz1 hz2 hr3 hh1 hb2
    go_wp2
    refine bodyPost_ret (v := .agg CL.toArray) ?_ rfl ⟨rfl, HB3.out⟩
    exact results_cell_row Tryz.results57 _ _ (w.heap.size + 1) 24 _ (0, 0) _ rfl HR3.out Tryz.underlying24 rfl (info32a _ HCS.out)
end Go.Proofs.YtpmknkagnkagpaaGreat.R5

/- Contract of the program's Ask in concrete mode. -/
namespace Go.Proofs.YtpmknkagnkagpaaGreat.R5
open scoped Classical
open Go.RowKit

set_option maxHeartbeats 4000000 in
set_option maxRecDepth 100000 in
theorem ask1_any (qb : Nat) (q : Qn) (dq : Value) (w : World) (hl : q.data.length ≤ 4294000000) (hk : q.key.length = 32) (hr : w.heap[qb]? = some (.cells (qL q dq).toArray 80 (0, 0))) (hd : HB w dq q.data) :
    Calls Tryz.prog 56 #[.pointer (some ⟨qb, 0, none⟩)] w fun e w' => e = .returned (.agg ((compD q).map B8).toArray) ∧ Below w.heap.size w w' := by
  have hzv := fun W => zero_dig W
  obtain ⟨ZL, hZL⟩ : ∃ L, L = (List.replicate 32 (0 : UInt8)).map B8 := ⟨_, rfl⟩
  rw [← hZL] at hzv
  have HZS : Hid (ZL.toArray.size = 32) := by show _ = _; rw [hZL]; simp
  have hb1 : Below w.heap.size w (w.alloc (.cells ZL.toArray 24 (0, 0))) := (Below.refl _ _).alloc (Nat.le_refl _) _
  have HR1 : Hid ((w.alloc (.cells ZL.toArray 24 (0, 0))).heap[w.heap.size]? = some (.cells ZL.toArray 24 (0, 0))) := heap_at _ _ _ rfl
  have HRQ : Hid ((w.alloc (.cells ZL.toArray 24 (0, 0))).rangeAt qb 0 (qL q dq)) := rangeAt_below (rangeAt_row hr) hb1
  have HQI : Hid _ := info35 (qL q dq) (qL_len q dq hk)
  have HUQ : Hid _ := Tryz.underlying80
  have HC : Hid _ := computed_any (.agg (qL q dq).toArray) q (w.alloc (.cells ZL.toArray 24 (0, 0))) hl ⟨hk, dq, rfl, hd.below hb1⟩
  have hCl := compD_len q
  obtain ⟨CL, hCL⟩ : ∃ L, L = (compD q).map B8 := ⟨_, rfl⟩
  have HCS : Hid (CL.toArray.size = 32) := by show _ = _; rw [hCL]; simpa using hCl
  have HC1 : Hid (CL.toArray.all (·.oneCell') = true) := by show _ = _; rw [hCL]; exact B8_onea _
  rw [← hCL] at HC ⊢
  have HB1 : Hid _ := hb1
  obtain ⟨QL, hQL⟩ : ∃ L, L = qL q dq := ⟨_, rfl⟩
  rw [← hQL] at HRQ HQI HC
  clear hZL hb1 hCL hCl hQL hr hd
  go_enter Tryz.func56, Tryz.ntmps56
  go_wp2_with (first
    | (refine wpList_load_mid rfl 80 _ rfl qb 0 rfl QL _ HRQ.out HUQ.out rfl HQI.out ?_)
    | (go_at_call 57; fail))
  refine Calls.mono HC.out ?_
  rintro e w1 ⟨rfl, hb2⟩
  have HR2 : Hid (w1.heap[w.heap.size]? = some (.cells ZL.toArray 24 (0, 0))) := (hb2.block _ (by simp)).trans HR1.out
  have HB2 : Hid (Below w.heap.size w w1) := HB1.out.trans (hb2.mono (by simp))
  clear hb2
  go_wp2_with (refine wpList_store_row rfl 24 _ _ rfl w.heap.size CL.toArray rfl rfl 24 ZL.toArray HR2.out (info32a _ HCS.out) (HZS.out.trans HCS.out.symm) HC1.out ?_)
  refine bodyPost_ret (v := .agg CL.toArray) ?_ rfl ⟨rfl, below_setRow HB2.out (by omega) _⟩
  exact results_cell_row Tryz.results56 _ _ w.heap.size 24 _ (0, 0) _ rfl (setRow_heap _ _ _ _ _ _ HR2.out) Tryz.underlying24 rfl (info32a _ HCS.out)

set_option maxHeartbeats 4000000 in
set_option maxRecDepth 100000 in
theorem pask_conc (B og mb : Nat) (S : Nat → Prop) (dq dv ov : Value) (o : Pra) (q : Qn) (w : World) (hid : o.ideal = false) (hB : B ≤ w.heap.size) (hll : o.log.length < 1000000) (ho : PO B og mb S w o dv ov) (hq : kOk q) (hql : q.data.length ≤ 4294000000) (hdq : HB w dq q.data) (hok : askB q = true) :
    Calls Tryz.prog 41 #[.pointer (some ⟨og, 0, none⟩), .agg (qL q dq).toArray] w fun e w' => PAsk B og mb S w (pAsk o q (compD q)) dv e w' := by
  have hqk := hq.key
  have HAL : Hid _ := pAsk_len (q := q) ho.ok (compD_len q)
  have hans := fun W (hb : Below w.heap.size w W) (hr : W.heap[w.heap.size]? = some (.cells (qL q dq).toArray 80 (0, 0))) => panswer_conc B og mb w.heap.size S dq dv ov o q (compD q) W (Nat.le_trans hB hb.size) hll (ho.below hb) hq (hdq.below hb) (compD_len q) (fun X hX => ask1_any w.heap.size q dq X hql hqk ((hX.block _ (row_lt hr)).trans hr) ((hdq.below hb).below hX))
  generalize pAsk o q (compD q) = r at *
  obtain ⟨A, o'⟩ := r
  unfold PAsk
  simp only at hans HAL ⊢
  have hog := row_lt ho.row
  obtain ⟨c0, c33, c34, hc, cf⟩ := ho.cells
  have hzv := fun W => zero_dig W
  have hbd := fun W => build_dig W
  obtain ⟨ZL, hZL⟩ : ∃ L, L = (List.replicate 32 (0 : UInt8)).map B8 := ⟨_, rfl⟩
  have HZV : Hid (dV (List.replicate 32 0) = .agg ZL.toArray) := by show _ = _; rw [hZL]; rfl
  rw [← hZL] at hzv hbd
  have HZS : Hid (ZL.toArray.size = 32) := by show _ = _; rw [hZL]; simp
  have HZ1 : Hid (ZL.toArray.all (·.oneCell') = true) := by show _ = _; rw [hZL]; exact B8_onea _
  clear hZL
  obtain ⟨hb, hr0, hr1⟩ := w2_facts w (qL q dq) ZL
  have HNN : Hid _ := none_no og mb _ ((hb.cell (block_lt hc)).trans hc)
  have hiq := isq_any dq q ((w.alloc (.cells (qL q dq).toArray 80 (0, 0))).alloc (.cells ZL.toArray 24 (0, 0))) hqk
  have hkc := fun W (h : Aft w W (qL q dq) ZL) => (q_facts hqk h.r0).1
  have HQI : Hid _ := info35 (qL q dq) (qL_len q dq hqk)
  have HUQ : Hid _ := Tryz.underlying80
  obtain ⟨QL, hQL⟩ : ∃ L, L = qL q dq := ⟨_, rfl⟩
  rw [← hQL] at hb hr0 hr1 HNN hiq hkc HQI ⊢
  have HRQ : Hid _ := rangeAt_row hr0
  have h0 : ∀ W, Aft w W QL ZL → W.cell? ⟨og, 0, none⟩ = some (.bool false) := fun W h => ((h.below.cell (show (⟨og, 0, none⟩ : Addr).block < w.heap.size from hog)).trans c0).trans (by rw [hid])
  have hm : mayQ q = true ∧ (q.kind == 4) = false := by unfold askB at hok; simpa using hok
  rw [hm.1] at hiq
  have hk4 := hm.2
  have HIQ : Hid _ := hiq
  rw [← hQL] at hans
  have HO : Hid _ := ho
  clear hr0 hr1 hb hc hok hQL ho c0 c33 c34 cf hdq hm hiq
  go_enter Tryz.func41, Tryz.ntmps41
  go_wp2_with (first
    | (go_at_call 32; refine Calls.mono HNN.out ?_; rintro e w1 ⟨rfl, rfl⟩)
    | (refine wpList_load_mid rfl 80 _ rfl w.heap.size 0 rfl QL _ HRQ.out HUQ.out rfl HQI.out ?_)
    | (go_at_call 53; fail))
  refine Calls.mono HIQ.out ?_
  rintro e w1 ⟨rfl, hq1⟩
  have hA := aft_of hq1
  have a0 := hkc w1 hA
  have HA : Hid _ := hA
  clear hq1 hA
  have h0' := h0 w1 HA.out
  have HCALL : Hid _ := hans w1 HA.out.below HA.out.r0
  have HRQ1 : Hid _ := rangeAt_row HA.out.r0
  clear hans h0 hkc
  go_wp2_with (first
    | (refine wpList_load_mid rfl 80 _ rfl w.heap.size 0 rfl QL _ HRQ1.out HUQ.out rfl HQI.out ?_)
    | (go_at_call 54; fail))
  refine Calls.mono HCALL.out ?_
  rintro e3 w3 hE
  have hPE : PAns B og mb S w1 o' dv A e3 w3 := hE
  obtain ⟨he, hfr, _⟩ := hE
  subst he
  have hA : (A.map B8).toArray.size = 32 := by simpa using HAL.out
  have hr3 : w3.heap[w.heap.size + 1]? = some (.cells ZL.toArray 24 (0, 0)) := (hfr.block _ (row_lt HA.out.r1) (fun h => by have := HO.out.top _ h; omega)).trans HA.out.r1
  have hend := pask_end HO.out hB HA.out.below (show w.heap.size ≤ w.heap.size + 1 by omega) (row_lt HA.out.r1) hPE (A.map B8).toArray
  have HEND : Hid _ := hend
  have HR3 : Hid _ := hr3
  have HAS : Hid _ := hA
  have HA1 : Hid _ := B8_onea A
  have HOK : Hid (okV A = .tuple #[.agg (A.map B8).toArray, .int .i64 0]) := rfl
  clear hPE hfr hr3 hend hA
  unfold dV
  generalize (A.map B8).toArray = AA at *
  go_wp2_with (refine wpList_store_row rfl 24 _ _ rfl (w.heap.size + 1) AA rfl rfl 24 ZL.toArray HR3.out (info32a _ HAS.out) (HZS.out.trans HAS.out.symm) HA1.out ?_)
  refine bodyPost_ret (v := .tuple #[.agg AA, .int .i64 0]) ?_ rfl ⟨by rw [HOK.out], HEND.out⟩
  exact results_dig2 Tryz.results41 _ _ (w.heap.size + 1) 24 _ (0, 0) _ rfl rfl (setRow_heap _ _ _ _ _ _ HR3.out) (info32a _ HAS.out)
end Go.Proofs.YtpmknkagnkagpaaGreat.R5
