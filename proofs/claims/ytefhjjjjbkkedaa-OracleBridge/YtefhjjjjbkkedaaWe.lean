/- Several texts in one. -/
import Derived.Test.YtefhjjjjbkkedaaQH
import Derived.Test.YtefhjjjjbkkedaaQQ
import Derived.Test.YtefhjjjjbkkedaaWc
import Derived.Test.YtefhjjjjbkkedaaWd
import Derived.Test.YtefhjjjjbkkedaaRC
set_option linter.unusedVariables false
set_option linter.unusedSimpArgs false
/- Contracts of the program's computed, and Ask in concrete mode. -/
namespace Go.Proofs.Ytefhjjjjbkkedaa.R5
open scoped Classical
open Go.RowKit

/-- What is computed of a question. -/
def compD (q : Qn) : List UInt8 := if q.kind = 1 then shaL (textQ q) else macL q.key (textQ q)
theorem compD_len (q : Qn) : (compD q).length = 32 := by
  unfold compD
  split
  · exact shaL_len _
  · exact macL_len _ _
theorem textQ_len (q : Qn) (h : q.key.length = 32) : (textQ q).length = q.data.length + 34 := by unfold textQ; simp [h]; omega
/-- While computed runs. -/
structure SCo (w : World) (QL : List Value) (X : World) : Prop where
  b : Below w.heap.size w X
  q : X.heap[w.heap.size]? = some (.cells QL.toArray 33 (0, 0))
  z : ∃ Z, Z.size = 32 ∧ X.heap[w.heap.size + 1]? = some (.cells Z 23 (0, 0))
theorem SCo.step {w : World} {QL : List Value} {X Y : World} (h : SCo w QL X) (hb : Below X.heap.size X Y) : SCo w QL Y := by
  obtain ⟨Z, h1, h2⟩ := h.z
  exact ⟨h.b.trans (hb.mono h.b.size), (hb.block _ (row_lt h.q)).trans h.q, Z, h1, (hb.block _ (row_lt h2)).trans h2⟩
set_option maxHeartbeats 4000000 in
set_option maxRecDepth 100000 in
theorem computed_any (v : Value) (q : Qn) (w : World) (hl : q.data.length ≤ 4294000000) (h : HQ w v q) : Calls Try.prog 29 #[v] w fun e w' => e = .returned (.agg ((compD q).map B8).toArray) ∧ Below w.heap.size w w' := by
  obtain ⟨hk, dv, rfl, hd⟩ := h
  have HTX : Hid (∀ X, Below w.heap.size w X → Calls Try.prog 13 #[.agg (qL q dv).toArray] X fun e w' => ∃ u, e = .returned u ∧ FB X.heap.size w' u (textQ q) ∧ Below X.heap.size X w') := fun X hX => ptext_any _ q X (by omega) ⟨hk, dv, rfl, hd.below hX⟩
  have hTL := textQ_len q hk
  have HCL : Hid _ := compD_len q
  have HQI : Hid _ := info35 (qL q dv) (qL_len q dv hk)
  have HUQ : Hid _ := Try.underlying33
  have hzv := fun W => zero_dig W
  obtain ⟨ZL, hZL⟩ : ∃ L, L = (List.replicate 32 (0 : UInt8)).map B8 := ⟨_, rfl⟩
  rw [← hZL] at hzv
  have HZS : Hid (ZL.toArray.size = 32) := by show _ = _; rw [hZL]; simp
  obtain ⟨hb0, hr0, hr1⟩ := w2_facts w (qL q dv) ZL
  obtain ⟨a0, a1, a2, a3⟩ := q_facts hk hr0
  have HRK : Hid (∀ X : World, X.heap[w.heap.size]? = some (.cells (qL q dv).toArray 33 (0, 0)) → HB X (.slice (some ⟨w.heap.size, 1, none⟩) 32 32) q.key) := fun X hX => hb_range 32 hk.symm (by rw [hk]; decide) (q_facts hk hX).2.1
  obtain ⟨CL, hCL⟩ : ∃ L, L = (compD q).map B8 := ⟨_, rfl⟩
  have HCS : Hid (CL.toArray.size = 32) := by show _ = _; rw [hCL]; simpa using HCL.out
  have HC1 : Hid (CL.toArray.all (·.oneCell') = true) := by show _ = _; rw [hCL]; exact B8_onea _
  have HSH : Hid (q.kind = 1 → CL = (shaL (textQ q)).map B8) := fun h => by rw [hCL]; unfold compD; rw [if_pos h]
  have HMC : Hid (¬ q.kind = 1 → CL = (macL q.key (textQ q)).map B8) := fun h => by rw [hCL]; unfold compD; rw [if_neg h]
  rw [← hCL]
  have HKL : Hid _ := hk
  have HS0 : Hid (SCo w (qL q dv) ((w.alloc (.cells (qL q dv).toArray 33 (0, 0))).alloc (.cells ZL.toArray 23 (0, 0)))) := ⟨hb0, hr0, ZL.toArray, HZS.out, hr1⟩
  have HR0 : Hid (((w.alloc (.cells (qL q dv).toArray 33 (0, 0))).alloc (.cells ZL.toArray 23 (0, 0))).rangeAt w.heap.size 0 (qL q dv)) := rangeAt_row hr0
  have hsl := fun W => R5.sliceDig W w.heap.size 1
  obtain ⟨QL, hQL⟩ : ∃ L, L = qL q dv := ⟨_, rfl⟩
  rw [← hQL] at HTX HQI HRK HS0 HR0 a0 ⊢
  generalize textQ q = TX at *
  clear hd hZL hb0 hr0 hr1 a1 a2 a3 hCL hQL hk
  by_cases h1 : q.kind = 1
  · have hk1 : (q.kind == 1) = true := by simp [h1]
    have HE : Hid _ := HSH.out h1
    clear h1
    go_enter Try.func29, Try.ntmps29
    go_wp2_with (first
      | (refine wpList_load_mid rfl 33 _ rfl w.heap.size 0 rfl QL _ HR0.out HUQ.out rfl HQI.out ?_)
      | (go_at_call 13; fail))
    refine Calls.mono (HTX.out _ HS0.out.b) ?_
    rintro e X1 ⟨u, rfl, hf1, hb1⟩
    have hS1 := HS0.out.step hb1
    have hh1 := hf1.hb
    clear hf1 hb1
    go_wp2_with fail
    refine (shaSum_any u TX X1 (by omega) hh1).mono ?_
    rintro e X2 ⟨rfl, hb2⟩
    have hS2 := hS1.step hb2
    rw [← HE.out]
    obtain ⟨Z, hz1, hz2⟩ := hS2.z
    have HZ2 : Hid _ := hz2
    have HZ1 : Hid _ := hz1
    have HB2 : Hid _ := hS2.b
    clear hS1 hS2 hz1 hz2 hh1 hb2
    go_wp2_with (refine wpList_store_row rfl 23 _ _ rfl (w.heap.size + 1) CL.toArray rfl rfl 23 Z HZ2.out (info32a _ HCS.out) (HZ1.out.trans HCS.out.symm) HC1.out ?_)
    refine bodyPost_ret (v := .agg CL.toArray) ?_ rfl ⟨rfl, below_setRow HB2.out (by omega) _⟩
    exact results_cell_row Try.results29 _ _ (w.heap.size + 1) 23 _ (0, 0) _ rfl (setRow_heap _ _ _ _ _ _ HZ2.out) Try.underlying23 rfl (info32a _ HCS.out)
  · have hk1 : (q.kind == 1) = false := by simp [h1]
    have HE : Hid _ := HMC.out h1
    clear h1
    have HSD : Hid (SCo w QL ((w.alloc (.cells QL.toArray 33 (0, 0))).alloc (.cells ZL.toArray 23 (0, 0))).drew) := ⟨HS0.out.b.drew, HS0.out.q, HS0.out.z⟩
    go_enter Try.func29, Try.ntmps29
    go_wp2
    refine wp_region_held_drew (S := SCo w QL) (by kernel_rfl) HSD.out (fun hHeld => ?_)
    generalize ((w.alloc (.cells QL.toArray 33 (0, 0))).alloc (.cells ZL.toArray 23 (0, 0))).drew = W at *
    refine wpAnyH_take (i := 0) (oi := { dst := some 9, op := Go.Op.fieldAddr 33 (Go.Operand.tmp 1) 1, type := 0, pos := _, after := #[], guard := none }) (v := .pointer (some ⟨w.heap.size, 1, none⟩)) rfl (by kernel_rfl) (by kernel_rfl) (by kernel_rfl) (fun _ _ _ h => h) (Or.inl ⟨by rfl, fun w' hw' => ?_⟩) hHeld ?_
    · first | (go_simp; done) | (go_simp; rfl)
    try simp only [Act.put, List.setIfInBounds_toArray, List.set_cons_zero, List.set_cons_succ]
    refine wpAnyH_take (i := 1) (oi := { dst := some 10, op := Go.Op.slice 23 (Go.Operand.tmp 9) none none none, type := 31, pos := _, after := #[{ on := 0, ground := Go.Ground.data }], guard := none }) (v := .slice (some ⟨w.heap.size, 1, none⟩) 32 32) rfl (by kernel_rfl) (by kernel_rfl) (by kernel_rfl) (fun _ _ _ h => h) (Or.inl ⟨by rfl, fun w' hw' => ?_⟩) hHeld ?_
    · first | (go_simp; done) | (go_simp; rfl)
    try simp only [Act.put, List.setIfInBounds_toArray, List.set_cons_zero, List.set_cons_succ]
    refine wpAnyH_take (i := 2) (oi := { dst := some 11, op := Go.Op.load 33 (Go.Operand.tmp 1), type := 33, pos := _, after := #[], guard := none }) rfl (by kernel_rfl) (by kernel_rfl) (by kernel_rfl) (fun _ _ _ h => h) (yieldsIf_load_mid (by rfl) 33 (.tmp 1) rfl (w.heap.size) (0) rfl (QL) _ (fun _ h => rangeAt_row h.q) HUQ.out rfl HQI.out) hHeld ?_
    try simp only [Act.put, List.setIfInBounds_toArray, List.set_cons_zero, List.set_cons_succ]
    refine wpAnyH_ready (rs := [3]) (by kernel_rfl) (by simp) ?_
    refine AllReadyH.cons (o := { dst := some 12, op := Go.Op.call { callee := Go.Callee.value (Go.Operand.func 13), args := #[Go.Operand.tmp 11], argTypes := #[33] }, type := 31, pos := _, after := #[{ on := 2, ground := Go.Ground.data }], guard := none }) rfl (fun K hK => ?_) AllReadyH.nil
    rw [if_pos (by rfl)]
    go_wp2_with fail
    refine Calls.mono (HTX.out _ hHeld.b) ?_
    rintro e X1 ⟨u, rfl, hf1, hb1⟩
    have hS1 := hHeld.step hb1
    have hh1 := hf1.hb
    clear hf1 hb1 hHeld
    refine hK.out _ _ hS1 (fun _ => ?_)
    clear hK K
    try simp only [Act.put, List.setIfInBounds_toArray, List.set_cons_zero, List.set_cons_succ]
    have hHeld := hS1
    refine wpAnyH_ready (rs := [4]) (by kernel_rfl) (by simp) ?_
    refine AllReadyH.cons (o := { dst := some 13, op := Go.Op.call { callee := Go.Callee.value (Go.Operand.func 42), args := #[Go.Operand.tmp 10, Go.Operand.tmp 12], argTypes := #[31, 31] }, type := 23, pos := _, after := #[{ on := 1, ground := Go.Ground.data }, { on := 3, ground := Go.Ground.data }, { on := 3, ground := Go.Ground.chain }], guard := none }) rfl (fun K hK => ?_) AllReadyH.nil
    rw [if_pos (by rfl)]
    go_wp2_with fail
    refine (tag_any _ u q.key TX X1 (by rw [HKL.out]; decide) (by omega) (HRK.out X1 hS1.q) hh1).mono ?_
    rintro e X2 ⟨rfl, hb2⟩
    have hS2 := hS1.step hb2
    rw [← HE.out]
    clear hHeld
    refine hK.out _ _ hS2 (fun _ => ?_)
    clear hK K
    try simp only [Act.put, List.setIfInBounds_toArray, List.set_cons_zero, List.set_cons_succ]
    have hHeld := hS2
    obtain ⟨Z, hz1, hz2⟩ := hS2.z
    refine wpAnyH_ready (rs := [5]) (by kernel_rfl) (by simp) ?_
    refine AllReadyH.cons (o := { dst := none, op := Go.Op.store 23 (Go.Operand.tmp 2) (Go.Operand.tmp 13), type := 0, pos := _, after := #[{ on := 4, ground := Go.Ground.data }, { on := 4, ground := Go.Ground.chain }, { on := 0, ground := Go.Ground.phase }, { on := 1, ground := Go.Ground.phase }, { on := 2, ground := Go.Ground.phase }, { on := 3, ground := Go.Ground.phase }, { on := 4, ground := Go.Ground.phase }], guard := none }) rfl (fun K hK => ?_) AllReadyH.nil
    rw [if_pos (by rfl)]
    refine wp_store_row 23 _ _ rfl (w.heap.size + 1) CL.toArray rfl rfl 23 Z hz2 (info32a _ HCS.out) (hz1.trans HCS.out.symm) HC1.out ?_
    have hr3 := setRow_heap _ _ _ CL.toArray _ _ hz2
    have hS3 : SCo w QL (X2.setRow (w.heap.size + 1) CL.toArray) := ⟨below_setRow hS2.b (by omega) _, (setRow_other _ _ _ _ (by omega)).trans hS2.q, CL.toArray, HCS.out, hr3⟩
    refine hK.out _ _ hS3 (fun _ => ?_)
    clear hK K
    try simp only [Act.put, List.setIfInBounds_toArray, List.set_cons_zero, List.set_cons_succ]
    refine wpAnyH_done (by kernel_rfl) ?_ _
    have HR3 : Hid _ := hr3
    have HB3 : Hid _ := hS3.b
    clear hHeld hS1 hS2 hS3 hz1 hz2 hr3 hh1 hb2
    go_wp2
    refine bodyPost_ret (v := .agg CL.toArray) ?_ rfl ⟨rfl, HB3.out⟩
    exact results_cell_row Try.results29 _ _ (w.heap.size + 1) 23 _ (0, 0) _ rfl HR3.out Try.underlying23 rfl (info32a _ HCS.out)
end Go.Proofs.Ytefhjjjjbkkedaa.R5

/- Contract of the program's Ask in concrete mode. -/
namespace Go.Proofs.Ytefhjjjjbkkedaa.R5
open scoped Classical
open Go.RowKit

set_option maxHeartbeats 4000000 in
set_option maxRecDepth 100000 in
theorem ask1_any (qb : Nat) (q : Qn) (dq : Value) (w : World) (hl : q.data.length ≤ 4294000000) (hk : q.key.length = 32) (hr : w.heap[qb]? = some (.cells (qL q dq).toArray 33 (0, 0))) (hd : HB w dq q.data) :
    Calls Try.prog 28 #[.pointer (some ⟨qb, 0, none⟩)] w fun e w' => e = .returned (.agg ((compD q).map B8).toArray) ∧ Below w.heap.size w w' := by
  have hzv := fun W => zero_dig W
  obtain ⟨ZL, hZL⟩ : ∃ L, L = (List.replicate 32 (0 : UInt8)).map B8 := ⟨_, rfl⟩
  rw [← hZL] at hzv
  have HZS : Hid (ZL.toArray.size = 32) := by show _ = _; rw [hZL]; simp
  have hb1 : Below w.heap.size w (w.alloc (.cells ZL.toArray 23 (0, 0))) := (Below.refl _ _).alloc (Nat.le_refl _) _
  have HR1 : Hid ((w.alloc (.cells ZL.toArray 23 (0, 0))).heap[w.heap.size]? = some (.cells ZL.toArray 23 (0, 0))) := heap_at _ _ _ rfl
  have HRQ : Hid ((w.alloc (.cells ZL.toArray 23 (0, 0))).rangeAt qb 0 (qL q dq)) := rangeAt_below (rangeAt_row hr) hb1
  have HQI : Hid _ := info35 (qL q dq) (qL_len q dq hk)
  have HUQ : Hid _ := Try.underlying33
  have HC : Hid _ := computed_any (.agg (qL q dq).toArray) q (w.alloc (.cells ZL.toArray 23 (0, 0))) hl ⟨hk, dq, rfl, hd.below hb1⟩
  have hCl := compD_len q
  obtain ⟨CL, hCL⟩ : ∃ L, L = (compD q).map B8 := ⟨_, rfl⟩
  have HCS : Hid (CL.toArray.size = 32) := by show _ = _; rw [hCL]; simpa using hCl
  have HC1 : Hid (CL.toArray.all (·.oneCell') = true) := by show _ = _; rw [hCL]; exact B8_onea _
  rw [← hCL] at HC ⊢
  have HB1 : Hid _ := hb1
  obtain ⟨QL, hQL⟩ : ∃ L, L = qL q dq := ⟨_, rfl⟩
  rw [← hQL] at HRQ HQI HC
  clear hZL hb1 hCL hCl hQL hr hd
  go_enter Try.func28, Try.ntmps28
  go_wp2_with (first
    | (refine wpList_load_mid rfl 33 _ rfl qb 0 rfl QL _ HRQ.out HUQ.out rfl HQI.out ?_)
    | (go_at_call 29; fail))
  refine Calls.mono HC.out ?_
  rintro e w1 ⟨rfl, hb2⟩
  have HR2 : Hid (w1.heap[w.heap.size]? = some (.cells ZL.toArray 23 (0, 0))) := (hb2.block _ (by simp)).trans HR1.out
  have HB2 : Hid (Below w.heap.size w w1) := HB1.out.trans (hb2.mono (by simp))
  clear hb2
  go_wp2_with (refine wpList_store_row rfl 23 _ _ rfl w.heap.size CL.toArray rfl rfl 23 ZL.toArray HR2.out (info32a _ HCS.out) (HZS.out.trans HCS.out.symm) HC1.out ?_)
  refine bodyPost_ret (v := .agg CL.toArray) ?_ rfl ⟨rfl, below_setRow HB2.out (by omega) _⟩
  exact results_cell_row Try.results28 _ _ w.heap.size 23 _ (0, 0) _ rfl (setRow_heap _ _ _ _ _ _ HR2.out) Try.underlying23 rfl (info32a _ HCS.out)

set_option maxHeartbeats 4000000 in
set_option maxRecDepth 100000 in
theorem pask_conc (B og mb : Nat) (S : Nat → Prop) (dq dv ov : Value) (o : Pra) (q : Qn) (w : World) (hid : o.ideal = false) (hB : B ≤ w.heap.size) (hll : o.log.length < 1000000) (ho : PO B og mb S w o dv ov) (hq : kOk q) (hql : q.data.length ≤ 4294000000) (hdq : HB w dq q.data) (hok : askB q = true) :
    Calls Try.prog 9 #[.pointer (some ⟨og, 0, none⟩), .agg (qL q dq).toArray] w fun e w' => PAsk B og mb S w (pAsk o q (compD q)) dv e w' := by
  have hqk := hq.key
  have HAL : Hid _ := pAsk_len (q := q) ho.ok (compD_len q)
  have hans := fun W (hb : Below w.heap.size w W) (hr : W.heap[w.heap.size]? = some (.cells (qL q dq).toArray 33 (0, 0))) => panswer_conc B og mb w.heap.size S dq dv ov o q (compD q) W (Nat.le_trans hB hb.size) hll (ho.below hb) hq (hdq.below hb) (compD_len q) (fun X hX => ask1_any w.heap.size q dq X hql hqk ((hX.block _ (row_lt hr)).trans hr) ((hdq.below hb).below hX))
  generalize pAsk o q (compD q) = r at *
  obtain ⟨A, o'⟩ := r
  unfold PAsk
  simp only at hans HAL ⊢
  have hog := row_lt ho.row
  obtain ⟨c0, c33, c34, hc, cf⟩ := ho.cells
  have hzv := fun W => zero_dig W
  have hbd := fun W => build_dig W
  obtain ⟨ZL, hZL⟩ : ∃ L, L = (List.replicate 32 (0 : UInt8)).map B8 := ⟨_, rfl⟩
  have HZV : Hid (dV (List.replicate 32 0) = .agg ZL.toArray) := by show _ = _; rw [hZL]; rfl
  rw [← hZL] at hzv hbd
  have HZS : Hid (ZL.toArray.size = 32) := by show _ = _; rw [hZL]; simp
  have HZ1 : Hid (ZL.toArray.all (·.oneCell') = true) := by show _ = _; rw [hZL]; exact B8_onea _
  clear hZL
  obtain ⟨hb, hr0, hr1⟩ := w2_facts w (qL q dq) ZL
  have HNN : Hid _ := none_no og mb _ ((hb.cell (block_lt hc)).trans hc)
  have hiq := isq_any dq q ((w.alloc (.cells (qL q dq).toArray 33 (0, 0))).alloc (.cells ZL.toArray 23 (0, 0))) hqk
  have hkc := fun W (h : Aft w W (qL q dq) ZL) => (q_facts hqk h.r0).1
  have HQI : Hid _ := info35 (qL q dq) (qL_len q dq hqk)
  have HUQ : Hid _ := Try.underlying33
  obtain ⟨QL, hQL⟩ : ∃ L, L = qL q dq := ⟨_, rfl⟩
  rw [← hQL] at hb hr0 hr1 HNN hiq hkc HQI ⊢
  have HRQ : Hid _ := rangeAt_row hr0
  have h0 : ∀ W, Aft w W QL ZL → W.cell? ⟨og, 0, none⟩ = some (.bool false) := fun W h => ((h.below.cell (show (⟨og, 0, none⟩ : Addr).block < w.heap.size from hog)).trans c0).trans (by rw [hid])
  have hm : mayQ q = true ∧ (q.kind == 4) = false := by unfold askB at hok; simpa using hok
  rw [hm.1] at hiq
  have hk4 := hm.2
  have HIQ : Hid _ := hiq
  rw [← hQL] at hans
  have HO : Hid _ := ho
  clear hr0 hr1 hb hc hok hQL ho c0 c33 c34 cf hdq hm hiq
  go_enter Try.func9, Try.ntmps9
  go_wp2_with (first
    | (go_at_call 24; refine Calls.mono HNN.out ?_; rintro e w1 ⟨rfl, rfl⟩)
    | (refine wpList_load_mid rfl 33 _ rfl w.heap.size 0 rfl QL _ HRQ.out HUQ.out rfl HQI.out ?_)
    | (go_at_call 25; fail))
  refine Calls.mono HIQ.out ?_
  rintro e w1 ⟨rfl, hq1⟩
  have hA := aft_of hq1
  have a0 := hkc w1 hA
  have HA : Hid _ := hA
  clear hq1 hA
  have h0' := h0 w1 HA.out
  have HCALL : Hid _ := hans w1 HA.out.below HA.out.r0
  have HRQ1 : Hid _ := rangeAt_row HA.out.r0
  clear hans h0 hkc
  go_wp2_with (first
    | (refine wpList_load_mid rfl 33 _ rfl w.heap.size 0 rfl QL _ HRQ1.out HUQ.out rfl HQI.out ?_)
    | (go_at_call 26; fail))
  refine Calls.mono HCALL.out ?_
  rintro e3 w3 hE
  have hPE : PAns B og mb S w1 o' dv A e3 w3 := hE
  obtain ⟨he, hfr, _⟩ := hE
  subst he
  have hA : (A.map B8).toArray.size = 32 := by simpa using HAL.out
  have hr3 : w3.heap[w.heap.size + 1]? = some (.cells ZL.toArray 23 (0, 0)) := (hfr.block _ (row_lt HA.out.r1) (fun h => by have := HO.out.top _ h; omega)).trans HA.out.r1
  have hend := pask_end HO.out hB HA.out.below (show w.heap.size ≤ w.heap.size + 1 by omega) (row_lt HA.out.r1) hPE (A.map B8).toArray
  have HEND : Hid _ := hend
  have HR3 : Hid _ := hr3
  have HAS : Hid _ := hA
  have HA1 : Hid _ := B8_onea A
  have HOK : Hid (okV A = .tuple #[.agg (A.map B8).toArray, .int .i64 0]) := rfl
  clear hPE hfr hr3 hend hA
  unfold dV
  generalize (A.map B8).toArray = AA at *
  go_wp2_with (refine wpList_store_row rfl 23 _ _ rfl (w.heap.size + 1) AA rfl rfl 23 ZL.toArray HR3.out (info32a _ HAS.out) (HZS.out.trans HAS.out.symm) HA1.out ?_)
  refine bodyPost_ret (v := .tuple #[.agg AA, .int .i64 0]) ?_ rfl ⟨by rw [HOK.out], HEND.out⟩
  exact results_dig2 Try.results9 _ _ (w.heap.size + 1) 23 _ (0, 0) _ rfl rfl (setRow_heap _ _ _ _ _ _ HR3.out) (info32a _ HAS.out)
end Go.Proofs.Ytefhjjjjbkkedaa.R5

/- Oracles side by side. -/
namespace Go.Proofs.Ytefhjjjjbkkedaa.R5
open scoped Classical
open Go.RowKit

/-- A new answer. -/
def fresh (o : Pra) (q : Qn) : List UInt8 := if o.ideal then drawD o.draws o.log.length else compD q
/-- What Ask answers, and what the oracle knows then. -/
def ansV (o : Pra) (q : Qn) : Value := if askB q then okV (pAsk o q (fresh o q)).1 else errV 2
def nxtO (o : Pra) (q : Qn) : Pra := if askB q then (pAsk o q (fresh o q)).2 else o
theorem pAsk_master (o : Pra) (q : Qn) (f : List UInt8) : (pAsk o q f).2.master = o.master := by
  unfold pAsk; split <;> rfl
theorem nxtO_master (o : Pra) (q : Qn) : (nxtO o q).master = o.master := by
  unfold nxtO; split
  · exact pAsk_master _ _ _
  · rfl
theorem po_ask {B og mb : Nat} {S : Nat → Prop} {X : World} {o : Pra} {dv ov : Value} (ho : PO B og mb S X o dv ov) (hB : B ≤ X.heap.size) (hll : o.log.length < 1000000) (dq : Value) (q : Qn) (hq : kOk q) (hql : q.data.length ≤ 4294000000) (hdq : HB X dq q.data) :
    Calls Try.prog 9 #[.pointer (some ⟨og, 0, none⟩), .agg (qL q dq).toArray] X fun e Y => e = .returned (ansV o q) ∧ Fr S X Y ∧ ∃ ov', PO B og mb (fun k => S k ∨ (X.heap.size ≤ k ∧ k < Y.heap.size)) Y (nxtO o q) dv ov' := by
  unfold ansV nxtO fresh
  cases hok : askB q with
  | true =>
    simp only [if_true]
    cases hid : o.ideal with
    | true =>
      simp only [if_true]
      exact pask_ideal B og mb S dq dv ov o q X hid hB hll ho hq hdq hok
    | false =>
      simp only [Bool.false_eq_true, if_false]
      exact pask_conc B og mb S dq dv ov o q X hid hB hll ho hq hql hdq hok
  | false =>
    simp only [Bool.false_eq_true, if_false]
    refine (pask_bad og mb dq q X ho.cells.2.2.2.1 hq.key hok).mono ?_
    rintro e Y ⟨rfl, hb⟩
    exact ⟨rfl, Fr.ofBelow hb, ov, ho.grow hb hB⟩
theorem po_key {B og mb : Nat} {S : Nat → Prop} {X : World} {o : Pra} {dv ov : Value} (ho : PO B og mb S X o dv ov) (hB : B ≤ X.heap.size) (hll : o.log.length < 1000000) (pv : Value) (d : Int) (l : List UInt8) (hq : kOk ⟨3, o.master, d, l⟩) (hql : l.length ≤ 4294000000) (hp : HP X pv [l]) :
    Calls Try.prog 10 #[.pointer (some ⟨og, 0, none⟩), .int .i64 d, pv] X fun e Y => e = .returned (ansV o ⟨3, o.master, d, l⟩) ∧ Fr S X Y ∧ ∃ ov', PO B og mb (fun k => S k ∨ (X.heap.size ≤ k ∧ k < Y.heap.size)) Y (nxtO o ⟨3, o.master, d, l⟩) dv ov' := by
  have hfl : [l].flatten = l := by simp
  cases hok : askB ⟨3, o.master, d, l⟩ with
  | true =>
    have hfl32 : (fresh o ⟨3, o.master, d, l⟩).length = 32 := by
      unfold fresh; split
      · exact drawD_len _ _ ho.draws.1
      · exact compD_len _
    refine (pkey_ok B og mb S pv dv ov o d [l] (pAsk o ⟨3, o.master, d, l⟩ (fresh o ⟨3, o.master, d, l⟩)) X hB ho hp (by simp) (by rw [hfl]; omega) (pAsk_len ho.ok hfl32) (pAsk_master _ _ _) (fun W v hb hv => ?_)).mono ?_
    · rw [hfl] at hv ⊢
      refine (po_ask (ho.below hb) (Nat.le_trans hB hb.size) hll v _ hq hql hv).mono ?_
      rintro e Y ⟨rfl, h1, h2⟩
      refine ⟨?_, h1, ?_⟩
      · unfold ansV; rw [hok]; rfl
      · unfold nxtO at h2; rw [hok] at h2; exact h2
    · rintro e Y ⟨rfl, h1, h2⟩
      refine ⟨?_, h1, ?_⟩
      · unfold ansV; rw [hok]; rfl
      · unfold nxtO; rw [hok]; exact h2
  | false =>
    refine (pkey_err og mb pv o.master d [l] 2 X ho.cells.2.2.2.1 ho.master ho.ml hp (by simp) (by rw [hfl]; omega) (fun W v hb hv => ?_)).mono ?_
    · rw [hfl]
      exact pask_bad og mb v _ W (ho.below hb).cells.2.2.2.1 hq.key hok
    · rintro e Y ⟨rfl, hb⟩
      refine ⟨?_, Fr.ofBelow hb, ov, ?_⟩
      · unfold ansV; rw [hok]; rfl
      · unfold nxtO; rw [hok]; exact ho.grow hb hB

/-- What holds wherever these blocks are as they are. -/
def Stab (I : Nat → Prop) (P : World → Prop) (X : World) : Prop := ∀ Y : World, X.heap.size ≤ Y.heap.size → (∀ k, I k → Y.heap[k]? = X.heap[k]?) → P Y
/-- Two oracles side by side, rows of the caller's, and what it may read beside them. -/
structure TW (w : World) (oga mba : Nat) (oa : Pra) (ogb mbb : Nat) (ob : Pra) (rows : List (Nat × List UInt8)) (I : Nat → Prop) (P : World → Prop) (X : World) : Prop where
  ex : ∃ Sa dva ova Sb dvb ovb, PO w.heap.size oga mba Sa X oa dva ova ∧ PO w.heap.size ogb mbb Sb X ob dvb ovb ∧ (∀ k, Sa k → ¬ Sb k) ∧ (∀ k, dva.ownBlock = some k → ¬ Sb k) ∧ (∀ k, dvb.ownBlock = some k → ¬ Sa k)
    ∧ (∀ r ∈ rows, X.heap[r.1]? = some (.cells (r.2.map B8).toArray 23 (0, 0)) ∧ ¬ Sa r.1 ∧ ¬ Sb r.1 ∧ ¬ I r.1 ∧ dva.ownBlock ≠ some r.1 ∧ dvb.ownBlock ≠ some r.1) ∧ (∀ k, I k → ¬ Sa k ∧ ¬ Sb k ∧ k < X.heap.size)
  bel : Below w.heap.size w X
  st : Stab I P X
section
variable {w X : World} {oga mba ogb mbb : Nat} {oa ob : Pra} {rows : List (Nat × List UInt8)} {I : Nat → Prop} {P : World → Prop}
theorem TW.swap (h : TW w oga mba oa ogb mbb ob rows I P X) : TW w ogb mbb ob oga mba oa rows I P X := by
  obtain ⟨Sa, dva, ova, Sb, dvb, ovb, h1, h2, h3, h4, h5, h6, h7⟩ := h.ex
  exact ⟨⟨Sb, dvb, ovb, Sa, dva, ova, h2, h1, fun k hb ha => h3 k ha hb, h5, h4, fun r hr => ⟨(h6 r hr).1, (h6 r hr).2.2.1, (h6 r hr).2.1, (h6 r hr).2.2.2.1, (h6 r hr).2.2.2.2.2, (h6 r hr).2.2.2.2.1⟩, fun k hk => ⟨(h7 k hk).2.1, (h7 k hk).1, (h7 k hk).2.2⟩⟩, h.bel, h.st⟩
theorem TW.step {Y : World} (h : TW w oga mba oa ogb mbb ob rows I P X) (hb : Below X.heap.size X Y) : TW w oga mba oa ogb mbb ob rows I P Y := by
  obtain ⟨Sa, dva, ova, Sb, dvb, ovb, h1, h2, h3, h4, h5, h6, h7⟩ := h.ex
  exact ⟨⟨Sa, dva, ova, Sb, dvb, ovb, h1.below hb, h2.below hb, h3, h4, h5, fun r hr => ⟨(hb.block _ (row_lt (h6 r hr).1)).trans (h6 r hr).1, (h6 r hr).2⟩, fun k hk => ⟨(h7 k hk).1, (h7 k hk).2.1, Nat.lt_of_lt_of_le (h7 k hk).2.2 hb.size⟩⟩, h.bel.trans (hb.mono h.bel.size),
    fun Z hs hk => h.st Z (Nat.le_trans hb.size hs) (fun k hi => (hk k hi).trans (hb.block k (h7 k hi).2.2))⟩
theorem TW.alloc (h : TW w oga mba oa ogb mbb ob rows I P X) (o : Obj) : TW w oga mba oa ogb mbb ob rows I P (X.alloc o) := h.step ((Below.refl _ _).alloc (Nat.le_refl _) _)
theorem TW.newrow {ZL : List Value} (h : TW w oga mba oa ogb mbb ob rows I P X) (A : List UInt8) : TW w oga mba oa ogb mbb ob ((X.heap.size, A) :: rows) I P ((X.alloc (.cells ZL.toArray 23 (0, 0))).setRow X.heap.size (A.map B8).toArray) := by
  have hb : Below X.heap.size X ((X.alloc (.cells ZL.toArray 23 (0, 0))).setRow X.heap.size (A.map B8).toArray) := below_setRow ((Below.refl _ _).alloc (Nat.le_refl _) _) (Nat.le_refl _) _
  obtain ⟨Sa, dva, ova, Sb, dvb, ovb, h1, h2, h3, h4, h5, h6, h7⟩ := h.ex
  refine ⟨⟨Sa, dva, ova, Sb, dvb, ovb, h1.below hb, h2.below hb, h3, h4, h5, fun r hr => ?_, fun k hk => ⟨(h7 k hk).1, (h7 k hk).2.1, Nat.lt_of_lt_of_le (h7 k hk).2.2 hb.size⟩⟩, (h.step hb).bel, (h.step hb).st⟩
  rcases List.mem_cons.1 hr with rfl | hr
  · exact ⟨setRow_heap _ _ _ _ _ _ (heap_alloc_new _ _), fun h => by have := h1.top _ h; simp at this, fun h => by have := h2.top _ h; simp at this, fun h => by have := (h7 _ h).2.2; simp at this, fun e => by have := (h1.dro _ e).2; simp at this, fun e => by have := (h2.dro _ e).2; simp at this⟩
  · exact ⟨(hb.block _ (row_lt (h6 r hr).1)).trans (h6 r hr).1, (h6 r hr).2⟩
theorem TW.forget (h : TW w oga mba oa ogb mbb ob rows I P X) : TW w oga mba oa ogb mbb ob [] I P X := by
  obtain ⟨Sa, dva, ova, Sb, dvb, ovb, h1, h2, h3, h4, h5, h6, h7⟩ := h.ex
  exact ⟨⟨Sa, dva, ova, Sb, dvb, ovb, h1, h2, h3, h4, h5, fun r hr => by simp at hr, h7⟩, h.bel, h.st⟩
/-- A row of the caller's is written. -/
theorem TW.setrow {b : Nat} {z A : List UInt8} (h : TW w oga mba oa ogb mbb ob ((b, z) :: rows) I P X) (hw : w.heap.size ≤ b) (hne : ∀ r ∈ rows, r.1 ≠ b) : TW w oga mba oa ogb mbb ob ((b, A) :: rows) I P (X.setRow b (A.map B8).toArray) := by
  obtain ⟨Sa, dva, ova, Sb, dvb, ovb, h1, h2, h3, h4, h5, h6, h7⟩ := h.ex
  obtain ⟨g1, g2, g3, g4, g5, g6⟩ := h6 (b, z) (by simp)
  simp only at g1 g2 g3 g4 g5 g6
  have hs : (X.setRow b (A.map B8).toArray).heap.size = X.heap.size := by simp
  refine ⟨⟨Sa, dva, ova, Sb, dvb, ovb, h1.keep (Nat.le_of_eq hs.symm) (fun k _ hk => setRow_other _ _ _ _ (fun e => hk.elim (fun h => g2 (e ▸ h)) (fun h => g5 (e ▸ h)))), h2.keep (Nat.le_of_eq hs.symm) (fun k _ hk => setRow_other _ _ _ _ (fun e => hk.elim (fun h => g3 (e ▸ h)) (fun h => g6 (e ▸ h)))), h3, h4, h5, fun r hr => ?_, fun k hk => ⟨(h7 k hk).1, (h7 k hk).2.1, by rw [hs]; exact (h7 k hk).2.2⟩⟩, below_setRow h.bel hw _,
    fun Z hsz hk => h.st Z (by rw [← hs]; exact hsz) (fun k hi => (hk k hi).trans (setRow_other _ _ _ _ (fun e => g4 (e ▸ hi))))⟩
  rcases List.mem_cons.1 hr with rfl | hr
  · exact ⟨setRow_heap _ _ _ _ _ _ g1, g2, g3, g4, g5, g6⟩
  · exact ⟨(setRow_other _ _ _ _ (hne r hr)).trans (h6 r (by simp [hr])).1, (h6 r (by simp [hr])).2⟩
theorem TW.rowAt (h : TW w oga mba oa ogb mbb ob rows I P X) {r : Nat × List UInt8} (hr : r ∈ rows) : X.heap[r.1]? = some (.cells (r.2.map B8).toArray 23 (0, 0)) := by
  obtain ⟨Sa, dva, ova, Sb, dvb, ovb, h1, h2, h3, h4, h5, h6, h7⟩ := h.ex
  exact (h6 r hr).1
/-- A row of noughts is laid. -/
theorem TW.zrow (h : TW w oga mba oa ogb mbb ob rows I P X) : TW w oga mba oa ogb mbb ob ((X.heap.size, List.replicate 32 0) :: rows) I P (X.alloc (.cells ((List.replicate 32 (0 : UInt8)).map B8).toArray 23 (0, 0))) := by
  have hb : Below X.heap.size X (X.alloc (.cells ((List.replicate 32 (0 : UInt8)).map B8).toArray 23 (0, 0))) := (Below.refl _ _).alloc (Nat.le_refl _) _
  obtain ⟨Sa, dva, ova, Sb, dvb, ovb, h1, h2, h3, h4, h5, h6, h7⟩ := h.ex
  refine ⟨⟨Sa, dva, ova, Sb, dvb, ovb, h1.below hb, h2.below hb, h3, h4, h5, fun r hr => ?_, fun k hk => ⟨(h7 k hk).1, (h7 k hk).2.1, Nat.lt_of_lt_of_le (h7 k hk).2.2 hb.size⟩⟩, (h.step hb).bel, (h.step hb).st⟩
  rcases List.mem_cons.1 hr with rfl | hr
  · exact ⟨heap_alloc_new _ _, fun h => by have := h1.top _ h; simp at this, fun h => by have := h2.top _ h; simp at this, fun h => by have := (h7 _ h).2.2; simp at this, fun e => by have := (h1.dro _ e).2; simp at this, fun e => by have := (h2.dro _ e).2; simp at this⟩
  · exact ⟨(hb.block _ (row_lt (h6 r hr).1)).trans (h6 r hr).1, (h6 r hr).2⟩
theorem TW.row (h : TW w oga mba oa ogb mbb ob rows I P X) {r : Nat × List UInt8} (hr : r ∈ rows) : X.rangeAt r.1 0 (r.2.map B8) := by
  obtain ⟨Sa, dva, ova, Sb, dvb, ovb, h1, h2, h3, h4, h5, h6, h7⟩ := h.ex
  exact rangeAt_row (h6 r hr).1
theorem TW.asked {Y : World} {Sa Sb : Nat → Prop} {dva ova dvb ovb : Value} {oa' : Pra} (h1 : PO w.heap.size oga mba Sa X oa dva ova) (h2 : PO w.heap.size ogb mbb Sb X ob dvb ovb) (h3 : ∀ k, Sa k → ¬ Sb k) (h4 : ∀ k, dva.ownBlock = some k → ¬ Sb k) (h5 : ∀ k, dvb.ownBlock = some k → ¬ Sa k)
    (h6 : ∀ r ∈ rows, X.heap[r.1]? = some (.cells (r.2.map B8).toArray 23 (0, 0)) ∧ ¬ Sa r.1 ∧ ¬ Sb r.1 ∧ ¬ I r.1 ∧ dva.ownBlock ≠ some r.1 ∧ dvb.ownBlock ≠ some r.1) (h7 : ∀ k, I k → ¬ Sa k ∧ ¬ Sb k ∧ k < X.heap.size) (hb : Below w.heap.size w X) (hst : Stab I P X) (hf : Fr Sa X Y)
    (hq : ∃ ov', PO w.heap.size oga mba (fun k => Sa k ∨ (X.heap.size ≤ k ∧ k < Y.heap.size)) Y oa' dva ov') : TW w oga mba oa' ogb mbb ob rows I P Y := by
  obtain ⟨ov', hq⟩ := hq
  have hs := hf.size
  have hs2 := hb.size
  refine ⟨⟨_, dva, ov', Sb, dvb, ovb, hq, h2.keep hs (fun k hk hS => hf.block k hk (fun ha => hS.elim (h3 k ha) (fun e => h5 k e ha))), fun k ha hb' => ha.elim (fun ha => h3 k ha hb') (fun hg => by have := h2.top k hb'; omega), h4, fun k e ha => ha.elim (h5 k e) (fun hg => by have := (h2.dro k e).2; omega), fun r hr => ?_, fun k hk => ?_⟩,
    ⟨hf.os.trans hb.os, hf.tape.trans hb.tape, hf.output.trans hb.output, Nat.le_trans hb.size hf.size, fun k hk => (hf.block k (by omega) (fun h => by have := h1.low k h; omega)).trans (hb.block k hk)⟩, fun Z hsz hk => hst Z (Nat.le_trans hs hsz) (fun k hi => (hk k hi).trans (hf.block k (h7 k hi).2.2 (h7 k hi).1))⟩
  · have hl := row_lt (h6 r hr).1
    exact ⟨(hf.block _ hl (h6 r hr).2.1).trans (h6 r hr).1, fun h => h.elim (h6 r hr).2.1 (fun h => by omega), (h6 r hr).2.2⟩
  · exact ⟨fun h => h.elim (h7 k hk).1 (fun h => by have := (h7 k hk).2.2; omega), (h7 k hk).2.1, Nat.lt_of_lt_of_le (h7 k hk).2.2 hs⟩
theorem TW.ask (h : TW w oga mba oa ogb mbb ob rows I P X) (hll : oa.log.length < 1000000) (dq : Value) (q : Qn) (hq : kOk q) (hql : q.data.length ≤ 4294000000) (hdq : HB X dq q.data) :
    Calls Try.prog 9 #[.pointer (some ⟨oga, 0, none⟩), .agg (qL q dq).toArray] X fun e Y => e = .returned (ansV oa q) ∧ TW w oga mba (nxtO oa q) ogb mbb ob rows I P Y := by
  obtain ⟨Sa, dva, ova, Sb, dvb, ovb, h1, h2, h3, h4, h5, h6, h7⟩ := h.ex
  refine (po_ask h1 h.bel.size hll dq q hq hql hdq).mono ?_
  rintro e Y ⟨rfl, hf, hq⟩
  exact ⟨rfl, TW.asked h1 h2 h3 h4 h5 h6 h7 h.bel h.st hf hq⟩
theorem TW.key (h : TW w oga mba oa ogb mbb ob rows I P X) (hll : oa.log.length < 1000000) (pv : Value) (d : Int) (l : List UInt8) (hq : kOk ⟨3, oa.master, d, l⟩) (hql : l.length ≤ 4294000000) (hp : HP X pv [l]) :
    Calls Try.prog 10 #[.pointer (some ⟨oga, 0, none⟩), .int .i64 d, pv] X fun e Y => e = .returned (ansV oa ⟨3, oa.master, d, l⟩) ∧ TW w oga mba (nxtO oa ⟨3, oa.master, d, l⟩) ogb mbb ob rows I P Y := by
  obtain ⟨Sa, dva, ova, Sb, dvb, ovb, h1, h2, h3, h4, h5, h6, h7⟩ := h.ex
  refine (po_key h1 h.bel.size hll pv d l hq hql hp).mono ?_
  rintro e Y ⟨rfl, hf, hq⟩
  exact ⟨rfl, TW.asked h1 h2 h3 h4 h5 h6 h7 h.bel h.st hf hq⟩
end
end Go.Proofs.Ytefhjjjjbkkedaa.R5

/- OracleBridge: the mathematics. -/
namespace Go.Proofs.Ytefhjjjjbkkedaa.R5
open scoped Classical
open Go.RowKit

/-- The question of an ask of the bridge's, for an oracle of that master key. -/
def brQ (m : List UInt8) (a : Ak) : Option Qn := if a.kind = 1 then some a.q else if a.kind = 5 then some ⟨3, m, a.q.dom, a.q.data⟩ else none
/-- What an oracle knows behind an ask. -/
def brN (m : List UInt8) (o : Pra) (a : Ak) : Pra := match brQ m a with | some q => nxtO o q | none => o
def brS (m : List UInt8) (o : Pra) (ls : List Ak) : Pra := ls.foldl (brN m) o
theorem brS_snoc (m : List UInt8) (o : Pra) (ls : List Ak) (k : Nat) (a : Ak) (h : ls[k]? = some a) : brS m o (ls.take (k + 1)) = brN m (brS m o (ls.take k)) a := by
  have hk : k < ls.length := (List.getElem?_eq_some_iff.1 h).1
  have e : ls[k] = a := by rw [List.getElem?_eq_getElem hk] at h; simpa using h
  unfold brS
  rw [List.take_succ_eq_append_getElem hk, List.foldl_append, e]
  rfl
/-- A log grows by at most one. -/
theorem nxt_log (o : Pra) (q : Qn) : ∃ r, (nxtO o q).log = o.log ++ r ∧ r.length ≤ 1 ∧ nxtO o q = { o with log := o.log ++ r } := by
  unfold nxtO
  split
  · unfold pAsk
    split
    · exact ⟨[], by simp, by simp, by simp⟩
    · exact ⟨_, rfl, by simp, rfl⟩
  · exact ⟨[], by simp, by simp, by simp⟩
theorem brN_log (m : List UInt8) (o : Pra) (a : Ak) : ∃ r, r.length ≤ 1 ∧ brN m o a = { o with log := o.log ++ r } := by
  unfold brN
  split
  · obtain ⟨r, _, h2, h3⟩ := nxt_log o ‹Qn›
    exact ⟨r, h2, h3⟩
  · exact ⟨[], by simp, by simp⟩
theorem brS_log (m : List UInt8) : ∀ (ls : List Ak) (o : Pra), ∃ r, r.length ≤ ls.length ∧ brS m o ls = { o with log := o.log ++ r }
  | [], o => ⟨[], by simp, by simp [brS]⟩
  | a :: ls, o => by
    obtain ⟨r, h1, h2⟩ := brN_log m o a
    obtain ⟨r', h3, h4⟩ := brS_log m ls (brN m o a)
    refine ⟨r ++ r', by simp; omega, ?_⟩
    show brS m (brN m o a) ls = _
    rw [h4, h2]
    simp
theorem fnd_app {q : Qn} {A : List UInt8} : ∀ {l : List (Qn × List UInt8)} (r : List (Qn × List UInt8)), fndA q l = some A → fndA q (l ++ r) = some A
  | [], r, h => by simp [fndA] at h
  | x :: l, r, h => by
    unfold fndA at h ⊢
    rw [List.cons_append]
    by_cases hx : x.1 = q
    · rw [if_pos hx] at h
      simp [hx, h]
    · rw [if_neg hx] at h
      simp only [hx, if_false]
      exact fnd_app r h
theorem fnd_new {q : Qn} {A : List UInt8} : ∀ {l : List (Qn × List UInt8)}, fndA q l = none → fndA q (l ++ [(q, A)]) = some A
  | [], _ => by simp [fndA]
  | x :: l, h => by
    unfold fndA at h ⊢
    rw [List.cons_append]
    by_cases hx : x.1 = q
    · rw [if_pos hx] at h; cases h
    · rw [if_neg hx] at h
      simp only [hx, if_false]
      exact fnd_new h
theorem brS_split (m : List UInt8) (o : Pra) (ls : List Ak) (k : Nat) : ∃ r, brS m o ls = { o with log := (brS m o (ls.take k)).log ++ r } := by
  have h : brS m o ls = brS m (brS m o (ls.take k)) (ls.drop k) := by
    unfold brS
    rw [← List.foldl_append, List.take_append_drop]
  obtain ⟨r, _, h2⟩ := brS_log m (ls.drop k) (brS m o (ls.take k))
  obtain ⟨r0, _, h0⟩ := brS_log m (ls.take k) o
  refine ⟨r, ?_⟩
  rw [h, h2, h0]
theorem draw_at (l r : List (Qn × List UInt8)) (x : Qn × List UInt8) : drawD ((l ++ [x] ++ r).map (·.2)) l.length = x.2 := by
  unfold drawD
  rw [if_pos (by simp)]
  simp [List.getD]
/-- One ask of both oracles, what they know being alike. -/
theorem bridge_step (m : List UInt8) (l L r : List (Qn × List UInt8)) (q : Qn) (hr : L = (nxtO ⟨false, m, [], l⟩ q).log ++ r) :
    (nxtO ⟨true, m, L.map (·.2), l⟩ q).log = (nxtO ⟨false, m, [], l⟩ q).log ∧ nxtO ⟨false, m, [], L⟩ q = ⟨false, m, [], L⟩ ∧ ansV ⟨false, m, [], L⟩ q = ansV ⟨true, m, L.map (·.2), l⟩ q := by
  cases hok : askB q with
  | false => simp [nxtO, ansV, hok]
  | true =>
    simp only [nxtO, hok, if_true, fresh, Bool.false_eq_true, if_false] at hr
    cases hf : fndA q l with
    | some A =>
      rw [pAsk_some (o := ⟨false, m, [], l⟩) hf] at hr
      have hL : fndA q L = some A := by rw [hr]; exact fnd_app r hf
      simp only [nxtO, ansV, hok, if_true]
      rw [pAsk_some (o := ⟨true, m, L.map (·.2), l⟩) hf, pAsk_some (o := ⟨false, m, [], l⟩) hf, pAsk_some (o := ⟨false, m, [], L⟩) hL]
      exact ⟨rfl, rfl, rfl⟩
    | none =>
      rw [pAsk_none (o := ⟨false, m, [], l⟩) hf] at hr
      simp only at hr
      have hL : fndA q L = some (compD q) := by rw [hr]; exact fnd_app r (fnd_new hf)
      have hd : drawD (L.map (·.2)) l.length = compD q := by rw [hr]; exact draw_at l r (q, compD q)
      simp only [nxtO, ansV, hok, if_true, fresh, Bool.false_eq_true, if_false]
      rw [hd, pAsk_none (o := ⟨true, m, L.map (·.2), l⟩) hf, pAsk_none (o := ⟨false, m, [], l⟩) hf, pAsk_some (o := ⟨false, m, [], L⟩) hL]
      exact ⟨rfl, rfl, rfl⟩
theorem brS_a (m : List UInt8) (ls : List Ak) : brS m ⟨false, m, [], []⟩ ls = ⟨false, m, [], (brS m ⟨false, m, [], []⟩ ls).log⟩ := by
  obtain ⟨r, _, h⟩ := brS_log m ls ⟨false, m, [], []⟩
  rw [h]
theorem brS_b (m : List UInt8) (D : List (List UInt8)) (ls : List Ak) : brS m ⟨true, m, D, []⟩ ls = ⟨true, m, D, (brS m ⟨true, m, D, []⟩ ls).log⟩ := by
  obtain ⟨r, _, h⟩ := brS_log m ls ⟨true, m, D, []⟩
  rw [h]
theorem brS_len (m : List UInt8) (o : Pra) (ls : List Ak) (h : o.log = []) : (brS m o ls).log.length ≤ ls.length := by
  obtain ⟨r, h1, h2⟩ := brS_log m ls o
  rw [h2]; simp [h]; exact h1
/-- The two oracles of the bridge, behind as many asks, and what both answer to the next one. -/
theorem bridge (m : List UInt8) (ls : List Ak) (L : List (Qn × List UInt8)) (hL : L = (brS m ⟨false, m, [], []⟩ ls).log) :
    (∀ k, k ≤ ls.length → (brS m ⟨true, m, L.map (·.2), []⟩ (ls.take k)).log = (brS m ⟨false, m, [], []⟩ (ls.take k)).log) ∧
    ∀ k a q, ls[k]? = some a → brQ m a = some q → nxtO ⟨false, m, [], L⟩ q = ⟨false, m, [], L⟩ ∧ ansV ⟨false, m, [], L⟩ q = ansV (brS m ⟨true, m, L.map (·.2), []⟩ (ls.take k)) q := by
  have hA : ∀ k, k ≤ ls.length → (brS m ⟨true, m, L.map (·.2), []⟩ (ls.take k)).log = (brS m ⟨false, m, [], []⟩ (ls.take k)).log := by
    intro k
    induction k with
    | zero => intro _; rfl
    | succ k ih =>
      intro hk
      have ih' := ih (by omega)
      obtain ⟨a, ha⟩ : ∃ a, ls[k]? = some a := ⟨_, List.getElem?_eq_getElem (by omega)⟩
      rw [brS_snoc _ _ _ _ _ ha, brS_snoc _ _ _ _ _ ha]
      obtain ⟨r, hr⟩ := brS_split m ⟨false, m, [], []⟩ ls (k + 1)
      rw [brS_snoc _ _ _ _ _ ha] at hr
      rw [hr] at hL
      rw [brS_b, ih']
      rw [brS_a] at hL ⊢
      unfold brN at hL ⊢
      cases hq : brQ m a with
      | none => rfl
      | some q =>
        rw [hq] at hL
        exact (bridge_step m _ L r q hL).1
  refine ⟨hA, fun k a q ha hq => ?_⟩
  have hk : k < ls.length := (List.getElem?_eq_some_iff.1 ha).1
  obtain ⟨r, hr⟩ := brS_split m ⟨false, m, [], []⟩ ls (k + 1)
  rw [brS_snoc _ _ _ _ _ ha] at hr
  rw [hr] at hL
  rw [brS_a] at hL
  unfold brN at hL
  rw [hq] at hL
  have h := bridge_step m _ L r q hL
  rw [brS_b, hA k (by omega)]
  exact h.2
end Go.Proofs.Ytefhjjjjbkkedaa.R5
