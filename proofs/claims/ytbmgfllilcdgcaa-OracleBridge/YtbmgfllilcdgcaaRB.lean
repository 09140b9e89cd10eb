/- Contract of the program's Ask in concrete mode. -/
import Derived.Test.YtbmgfllilcdgcaaRA
set_option linter.unusedVariables false
set_option linter.unusedSimpArgs false
namespace Go.Proofs.Ytbmgfllilcdgcaa.R5
open Go.RowKit

set_option maxHeartbeats 4000000 in
set_option maxRecDepth 100000 in
theorem ask1_any (qb : Nat) (q : Qn) (dq : Value) (w : World) (hl : q.data.length ≤ 4294000000) (hk : q.key.length = 32) (hr : w.heap[qb]? = some (.cells (qL q dq).toArray 33 (0, 0))) (hd : HB w dq q.data) :
    Calls Try.prog 28 #[.pointer (some ⟨qb, 0, none⟩)] w fun e w' => e = .returned (.agg ((compD q).map B8).toArray) ∧ Below w.heap.size w w' := by
  have hzv := fun W => zero_dig W
  obtain ⟨ZL, hZL⟩ : ∃ L, L = (List.replicate 32 (0 : UInt8)).map B8 := ⟨_, rfl⟩
  rw [← hZL] at hzv
  have HZS : Hid (ZL.toArray.size = 32) := by show _ = _; rw [hZL]; simp
  have hb1 : Below w.heap.size w (w.alloc (.cells ZL.toArray 23 (0, 0))) := (Below.refl _ _).alloc (Nat.le_refl _) _
  have HR1 : Hid ((w.alloc (.cells ZL.toArray 23 (0, 0))).heap[w.heap.size]? = some (.cells ZL.toArray 23 (0, 0))) := heap_at _ _ _ rfl
  have HRQ : Hid ((w.alloc (.cells ZL.toArray 23 (0, 0))).rangeAt qb 0 (qL q dq)) := rangeAt_below (rangeAt_row hr) hb1
  have HQI : Hid _ := info35 (qL q dq) (qL_len q dq hk)
  have HUQ : Hid _ := Try.underlying33
  have HC : Hid _ := computed_any (.agg (qL q dq).toArray) q (w.alloc (.cells ZL.toArray 23 (0, 0))) hl ⟨hk, dq, rfl, hd.below hb1⟩
  have hCl := compD_len q
  obtain ⟨CL, hCL⟩ : ∃ L, L = (compD q).map B8 := ⟨_, rfl⟩
  have HCS : Hid (CL.toArray.size = 32) := by show _ = _; rw [hCL]; simpa using hCl
  have HC1 : Hid (CL.toArray.all (·.oneCell') = true) := by show _ = _; rw [hCL]; exact B8_onea _
  rw [← hCL] at HC ⊢
  have HB1 : Hid _ := hb1
  obtain ⟨QL, hQL⟩ : ∃ L, L = qL q dq := ⟨_, rfl⟩
  rw [← hQL] at HRQ HQI HC
  clear hZL hb1 hCL hCl hQL hr hd
  go_enter Try.func28, Try.ntmps28
  go_wp2_with (first
    | (refine wpList_load_mid rfl 33 _ rfl qb 0 rfl QL _ HRQ.out HUQ.out rfl HQI.out ?_)
    | (go_at_call 29; fail))
  refine Calls.mono HC.out ?_
  rintro e w1 ⟨rfl, hb2⟩
  have HR2 : Hid (w1.heap[w.heap.size]? = some (.cells ZL.toArray 23 (0, 0))) := (hb2.block _ (by simp)).trans HR1.out
  have HB2 : Hid (Below w.heap.size w w1) := HB1.out.trans (hb2.mono (by simp))
  clear hb2
  go_wp2_with (refine wpList_store_row rfl 23 _ _ rfl w.heap.size CL.toArray rfl rfl 23 ZL.toArray HR2.out (info32a _ HCS.out) (HZS.out.trans HCS.out.symm) HC1.out ?_)
  refine bodyPost_ret (v := .agg CL.toArray) ?_ rfl ⟨rfl, below_setRow HB2.out (by omega) _⟩
  exact results_cell_row Try.results28 _ _ w.heap.size 23 _ (0, 0) _ rfl (setRow_heap _ _ _ _ _ _ HR2.out) Try.underlying23 rfl (info32a _ HCS.out)

set_option maxHeartbeats 4000000 in
set_option maxRecDepth 100000 in
theorem pask_conc (B og mb : Nat) (S : Nat → Prop) (dq dv ov : Value) (o : Pra) (q : Qn) (w : World) (hid : o.ideal = false) (hB : B ≤ w.heap.size) (hll : o.log.length < 1000000) (ho : PO B og mb S w o dv ov) (hq : kOk q) (hql : q.data.length ≤ 4294000000) (hdq : HB w dq q.data) (hok : askB q = true) :
    Calls Try.prog 9 #[.pointer (some ⟨og, 0, none⟩), .agg (qL q dq).toArray] w fun e w' => PAsk B og mb S w (pAsk o q (compD q)) dv e w' := by
  have hqk := hq.key
  have HAL : Hid _ := pAsk_len (q := q) ho.ok (compD_len q)
  have hans := fun W (hb : Below w.heap.size w W) (hr : W.heap[w.heap.size]? = some (.cells (qL q dq).toArray 33 (0, 0))) => panswer_conc B og mb w.heap.size S dq dv ov o q (compD q) W (Nat.le_trans hB hb.size) hll (ho.below hb) hq (hdq.below hb) (compD_len q) (fun X hX => ask1_any w.heap.size q dq X hql hqk ((hX.block _ (row_lt hr)).trans hr) ((hdq.below hb).below hX))
  generalize pAsk o q (compD q) = r at *
  obtain ⟨A, o'⟩ := r
  unfold PAsk
  simp only at hans HAL ⊢
  have hog := row_lt ho.row
  obtain ⟨c0, c33, c34, hc, cf⟩ := ho.cells
  have hzv := fun W => zero_dig W
  have hbd := fun W => build_dig W
  obtain ⟨ZL, hZL⟩ : ∃ L, L = (List.replicate 32 (0 : UInt8)).map B8 := ⟨_, rfl⟩
  have HZV : Hid (dV (List.replicate 32 0) = .agg ZL.toArray) := by show _ = _; rw [hZL]; rfl
  rw [← hZL] at hzv hbd
  have HZS : Hid (ZL.toArray.size = 32) := by show _ = _; rw [hZL]; simp
  have HZ1 : Hid (ZL.toArray.all (·.oneCell') = true) := by show _ = _; rw [hZL]; exact B8_onea _
  clear hZL
  obtain ⟨hb, hr0, hr1⟩ := w2_facts w (qL q dq) ZL
  obtain ⟨a0, a1, a2, a3⟩ := q_facts hqk hr0
  have HNN : Hid _ := none_no og mb _ ((hb.cell (block_lt hc)).trans hc)
  have HDM : Hid (Calls Try.prog 25 #[.int .i64 q.dom] ((w.alloc (.cells (qL q dq).toArray 33 (0, 0))).alloc (.cells ZL.toArray 23 (0, 0))) fun e w' => e = .returned (.bool (domB q.dom)) ∧ w' = ((w.alloc (.cells (qL q dq).toArray 33 (0, 0))).alloc (.cells ZL.toArray 23 (0, 0)))) := dom_any q.dom _
  obtain ⟨QL, hQL⟩ : ∃ L, L = qL q dq := ⟨_, rfl⟩
  rw [← hQL] at hb hr0 hr1 a0 a1 a2 a3 HNN HDM ⊢
  have HR1 : Hid _ := hr1
  have HR0 : Hid _ := hr0
  have HB0 : Hid _ := hb
  have h0 : ((w.alloc (.cells QL.toArray 33 (0, 0))).alloc (.cells ZL.toArray 23 (0, 0))).cell? ⟨og, 0, none⟩ = some (.bool false) := ((hb.cell (show (⟨og, 0, none⟩ : Addr).block < w.heap.size from hog)).trans c0).trans (by rw [hid])
  have HDF : Hid (domB q.dom = true) := by unfold askB at hok; show domB q.dom = true; unfold domB; simp_all
  have hk1 : ¬ q.kind < 1 := by unfold askB at hok; simp at hok; omega
  have hk3 : ¬ 3 < q.kind := by unfold askB at hok; simp at hok; omega
  have HRQ : Hid (((w.alloc (.cells QL.toArray 33 (0, 0))).alloc (.cells ZL.toArray 23 (0, 0))).rangeAt w.heap.size 0 QL) := rangeAt_row hr0
  have HQI : Hid _ := info35 QL (by rw [hQL]; exact qL_len q dq hqk)
  have HUQ : Hid _ := Try.underlying33
  have hcall := hans _ (by rw [hQL] at hb; exact hb) (by rw [hQL] at hr0; exact hr0)
  rw [← hQL] at hcall
  have HCALL : Hid _ := hcall
  have HO : Hid _ := ho
  clear hr0 hr1 hb a1 a3 hc hok hQL hans hcall ho c0 c33 c34 cf hdq
  go_enter Try.func9, Try.ntmps9
  go_wp2_with (first
    | (go_at_call 24; refine Calls.mono HNN.out ?_; rintro e w1 ⟨rfl, rfl⟩)
    | (go_at_call 25; refine Calls.mono HDM.out ?_; rintro e w1 ⟨rfl, rfl⟩; rw [HDF.out])
    | (refine wpList_load_mid rfl 33 _ rfl w.heap.size 0 rfl QL _ HRQ.out HUQ.out rfl HQI.out ?_)
    | (go_at_call 26; fail))
  refine Calls.mono HCALL.out ?_
  rintro e3 w3 hE
  have hPE : PAns B og mb S ((w.alloc (.cells QL.toArray 33 (0, 0))).alloc (.cells ZL.toArray 23 (0, 0))) o' dv A e3 w3 := hE
  obtain ⟨he, hfr, _⟩ := hE
  subst he
  have hA : (A.map B8).toArray.size = 32 := by simpa using HAL.out
  have hr3 : w3.heap[w.heap.size + 1]? = some (.cells ZL.toArray 23 (0, 0)) := (hfr.block _ (by simp) (fun h => by have := HO.out.top _ h; omega)).trans HR1.out
  have hend := pask_end HO.out hB HB0.out (show w.heap.size ≤ w.heap.size + 1 by omega) (by simp) hPE (A.map B8).toArray
  have HEND : Hid _ := hend
  have HR3 : Hid _ := hr3
  have HAS : Hid _ := hA
  have HA1 : Hid _ := B8_onea A
  have HOK : Hid (okV A = .tuple #[.agg (A.map B8).toArray, .int .i64 0]) := rfl
  clear hPE hfr hr3 hend hA
  unfold dV
  generalize (A.map B8).toArray = AA at *
  go_wp2_with (refine wpList_store_row rfl 23 _ _ rfl (w.heap.size + 1) AA rfl rfl 23 ZL.toArray HR3.out (info32a _ HAS.out) (HZS.out.trans HAS.out.symm) HA1.out ?_)
  refine bodyPost_ret (v := .tuple #[.agg AA, .int .i64 0]) ?_ rfl ⟨by rw [HOK.out], HEND.out⟩
  exact results_dig2 Try.results9 _ _ (w.heap.size + 1) 23 _ (0, 0) _ rfl rfl (setRow_heap _ _ _ _ _ _ HR3.out) (info32a _ HAS.out)
end Go.Proofs.Ytbmgfllilcdgcaa.R5
