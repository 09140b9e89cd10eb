import Derived.Test.YtekbppfocnbhbaaGreatQC
set_option linter.unusedVariables false
set_option linter.unusedSimpArgs false
set_option maxHeartbeats 16000000
set_option maxRecDepth 100000
namespace Go.Proofs.YtekbppfocnbhbaaGreat.R5
open scoped Classical
open Go.RowKit
theorem hb_keepN {w w' : World} {v : Value} {l : List UInt8} (h : HB w v l) (hk : l ≠ [] → ∀ k, v.ownBlock = some k → k < w.heap.size → w'.heap[k]? = w.heap[k]?) : HB w' v l := by
  by_cases hl : l = []
  · subst hl
    rcases h with h | ⟨b, o, cap, h1, h2, h3, h4⟩
    · exact .inl h
    · exact .inr ⟨b, o, cap, h1, h2, h3, fun i hi => by simp at hi⟩
  · exact hb_keep h (hk hl)
def AnsEnd (B og : Nat) (S : Nat → Prop) (w : World) (o : Ora) (dv : Value) (t : TypeId) (q : Qn) (D : List UInt8) (e : Ending) (w' : World) : Prop :=
  e = .returned (.agg (D.map B8).toArray) ∧ Fr S w w' ∧ ∃ lv' lds', OR B og (fun k => S k ∨ (w.heap.size ≤ k ∧ k < w'.heap.size)) w' { o with used := o.used + 1, log := o.log ++ [(q, D)] } dv lv' lds' t
theorem answer_new (B og : Nat) (S : Nat → Prop) (dq dv lv : Value) (o : Ora) (lds : List Value) (t : TypeId) (q : Qn) (C : List UInt8) (w : World) (hC : C.length = 32) (hid : o.ideal = true) (hll : o.log.length < 1000000) (hu : o.used < 1000000) (hql : q.data.length ≤ 1099511627776) (hB : B ≤ w.heap.size)
    (ho : OR B og S w o dv lv lds t) (hqk : q.key.length = 32) (hdq : HB w dq q.data) (hqo : q.data ≠ [] → dq.ownBlock ≠ some og) (hf : fndA q o.log = none) :
    Calls Tryz.prog 102 #[.pointer (some ⟨og, 0, none⟩), .agg (qL q dq).toArray, .agg (C.map B8).toArray] w fun e w' => AnsEnd B og S w o dv t q (drawD o.draws o.used) e w' := by
  have hHQ : HQ w (.agg (qL q dq).toArray) q := ⟨hqk, dq, rfl, hdq⟩
  have hQi := info35 (qL q dq) (qL_len q dq hqk)
  obtain ⟨p, cap, hlv, hrows⟩ := hlg_form ho.log
  have hrow := ho.row
  rw [hid] at hrow
  have hc35 : w.cell? ⟨og, 35, none⟩ = some lv := by rw [cell_of_row _ _ 35 _ _ _ hrow]; exact oL_35 _ _ _ _ _ ho.ml
  have hog := row_lt hrow
  have hDl := drawD_len o.draws o.used ho.draws.1
  have hzv := fun W => zero_dig W
  obtain ⟨ZA, hZA⟩ : ∃ A, A = ((List.replicate 32 (0 : UInt8)).map B8).toArray := ⟨_, rfl⟩
  rw [← hZA] at hzv
  have HZS : Hid (ZA.size = 32) := by show _ = _; rw [hZA]; simp
  have HCI : Hid _ := info32 (C.map B8) (by rw [List.length_map]; exact hC)
  have HCS : Hid ((C.map B8).toArray.size = 32) := by show _ = _; simp [hC]
  have HC1' : Hid _ := B8_onea C
  have hzd := hZA
  obtain ⟨QL, hQL⟩ : ∃ L, L = qL q dq := ⟨_, rfl⟩
  rw [← hQL] at hHQ hQi ⊢
  generalize C.map B8 = CL at *
  obtain ⟨w1, hw1⟩ : ∃ w1, w1 = ((w.alloc (.cells QL.toArray 138 (0, 0))).alloc (.cells CL.toArray 33 (0, 0))).alloc (.cells ZA 33 (0, 0)) := ⟨_, rfl⟩
  obtain ⟨hb1, hs1, hr0, hr1, hr2⟩ := w3_facts w QL CL.toArray ZA w1 hw1
  have HOR : Hid _ := ho
  have HQ1 : Hid _ := hq_below hHQ hb1
  have HC1 : Hid (w1.cell? ⟨og, 35, none⟩ = some (.slice p o.log.length cap)) := by
    show _ = _
    rw [← hlv]; exact (hb1.cell hog).trans hc35
  have HRQ : Hid (w1.rangeAt w.heap.size 0 QL) := rangeAt_row hr0
  have HR0 : Hid _ := hr0
  have HR1 : Hid _ := hr1
  have HRZ : Hid _ := hr2
  have HQI : Hid _ := hQi
  have HB1 : Hid _ := hb1
  have HW1 : Hid _ := hw1
  have HRW : Hid _ := hrows
  have HEN : Hid _ := ho.log.2.2.2
  have HOK : Hid _ := ho.log.1
  have HDL : Hid _ := ho.log.2.1
  have HS1 : Hid _ := hs1
  have HFN : Hid _ := fndA_none hf
  have HQL : Hid _ := hQL
  have HDq : Hid _ := hdq
  have HLV : Hid _ := hlv
  have HROW : Hid _ := hrow
  have HDl : Hid _ := hDl
  have hog1 : og < w1.heap.size := by omega
  have HUQ : Hid _ := Tryz.underlying138
  clear hZA hzd hdq hHQ hrows hc35 hb1 hr0 hr1 hr2 hf hw1 hQi hC hs1 ho hQL hlv hrow hDl
  generalize hLN : o.log.length = N at *
  generalize hUN : o.used = n at *
  have HLN : Hid _ := hLN
  have HUN : Hid _ := hUN
  clear hLN hUN
  go_enter Tryz.func102, Tryz.ntmps102
  go_wp2
  go_loopw [7] (fun i wr => ∃ k : Nat, k ≤ N ∧ i = .int .i64 k ∧ Below w1.heap.size w1 wr) (fun i _ => N - (intOf i).toNat)
  case atStart => exact ⟨0, Nat.zero_le _, rfl, by rw [HW1.out]; exact Below.refl _ _⟩
  case round =>
    obtain ⟨k, hk, rfl, hb⟩ := hrel
    by_cases hlt : k < N
    · have hkI : (k : Int) < (N : Int) := by omega
      have hlt' : k < o.log.length := by rw [HLN.out]; exact hlt
      obtain ⟨e, he⟩ : ∃ e, o.log[k]? = some e := ⟨_, List.getElem?_eq_getElem hlt'⟩
      obtain ⟨d, hd⟩ : ∃ d, lds[k]? = some d := ⟨_, List.getElem?_eq_getElem (by rw [HDL.out]; exact hlt)⟩
      obtain ⟨g, hpg, hBg, hr1, hr2⟩ := HRW.out k e d he hd
      rw [hpg] at HC1
      have hok := HOK.out e (List.mem_of_getElem? he)
      have hE1 : HQ w (.agg (qL e.1 d).toArray) e.1 := ⟨hok.1, d, rfl, HEN.out k e d he hd⟩
      have HEQ : Hid _ := hq_below hE1 HB1.out
      have HEI : Hid _ := info35 (qL e.1 d) (qL_len e.1 d hok.1)
      have HER : Hid _ := rangeAt_below hr1 HB1.out
      have hcW : wr.cell? ⟨og, 35, none⟩ = some (.slice (some ⟨g, 0, none⟩) N cap) := (hb.cell hog1).trans HC1.out
      have HD : Hid (decide (e.1 = q) = false) := decide_eq_false (HFN.out e (List.mem_of_getElem? he))
      obtain ⟨e1, e2⟩ := e
      simp only at *
      generalize qL e1 d = EL at *
      have HBd : Hid (Below w1.heap.size w1 wr.drew) := hb.drew
      clear hr1 hr2 hok hE1 he hd hb HRW HEN hpg hlt'
      go_wp2
      refine wp_region_held_drew (S := fun w' => Below w1.heap.size w1 w') (by kernel_rfl) HBd.out (fun hHeld => ?_)
      generalize wr.drew = W at *
      refine qzI 0 ⟨some 18, .move (.tmp 0), 55, _, #[], none⟩ (.pointer (some ⟨og, 0, none⟩)) rfl (by kernel_rfl) (fun _ _ _ h => h) (by rfl) (fun w' hw' => ?_) hHeld ?_
      · go_simp <;> rfl
      try simp only [Act.put, qT, q0, qS]
      refine qzI 1 ⟨some 19, .nilCheck (.tmp 18), 0, _, #[⟨0, .data⟩], none⟩ (.pointer (some ⟨og, 0, none⟩)) rfl (by kernel_rfl) (fun _ _ _ h => h) (by rfl) (fun w' hw' => ?_) hHeld ?_
      · go_simp <;> rfl
      try simp only [Act.put, qT, q0, qS]
      refine qzI 2 ⟨some 20, .fieldAddr 94 (.tmp 19) 4, 0, _, #[⟨1, .data⟩], none⟩ (.pointer (some ⟨og, 35, none⟩)) rfl (by kernel_rfl) (fun _ _ _ h => h) (by rfl) (fun w' hw' => ?_) hHeld ?_
      · go_simp <;> rfl
      try simp only [Act.put, qT, q0, qS]
      refine qzI 3 ⟨some 21, .load 92 (.tmp 20), 92, _, #[⟨2, .data⟩], none⟩ (.slice (some ⟨g, 0, none⟩) N cap) rfl (by kernel_rfl) (fun _ _ _ h => h) (by rfl) (fun w' hw' => ?_) hHeld ?_
      · have hcc := (hw'.cell hog1).trans HC1.out; go_simp <;> rfl
      try simp only [Act.put, qT, q0, qS]
      refine qzI 4 ⟨some 22, .move (.tmp 7), 3, _, #[], none⟩ (.int .i64 (k : Int)) rfl (by kernel_rfl) (fun _ _ _ h => h) (by rfl) (fun w' hw' => ?_) hHeld ?_
      · go_simp <;> rfl
      try simp only [Act.put, qT, q0, qS]
      refine qzI 5 ⟨some 23, .indexAddr 92 (.tmp 21) (.tmp 22), 0, _, #[⟨3, .data⟩, ⟨4, .data⟩], none⟩ (.pointer (some ⟨g, k * 67, none⟩)) rfl (by kernel_rfl) (fun _ _ _ h => h) (by rfl) (fun w' hw' => ?_) hHeld ?_
      · go_simp <;> rfl
      try simp only [Act.put, qT, q0, qS]
      refine qzI 6 ⟨some 24, .fieldAddr 140 (.tmp 23) 0, 0, _, #[⟨5, .data⟩], none⟩ (.pointer (some ⟨g, k * 67, none⟩)) rfl (by kernel_rfl) (fun _ _ _ h => h) (by rfl) (fun w' hw' => ?_) hHeld ?_
      · go_simp <;> rfl
      try simp only [Act.put, qT, q0, qS]
      refine qzK 7 ⟨some 25, .load 138 (.tmp 24), 138, _, #[⟨6, .data⟩], none⟩ _ rfl (by kernel_rfl) (fun _ _ _ h => h) (yieldsIf_load_mid (by rfl) 138 (.tmp 24) rfl (g) (k * 67) rfl (EL) _ (fun _ h => rangeAt_below HER.out h) HUQ.out rfl HEI.out) hHeld ?_
      try simp only [Act.put, qT, q0, qS]
      refine qzK 8 ⟨some 26, .load 138 (.tmp 4), 138, _, #[], none⟩ _ rfl (by kernel_rfl) (fun _ _ _ h => h) (yieldsIf_load_mid (by rfl) 138 (.tmp 4) rfl (w.heap.size) (0) rfl (QL) _ (fun _ h => rangeAt_below HRQ.out h) HUQ.out rfl HQI.out) hHeld ?_
      try simp only [Act.put, qT, q0, qS]
      refine qzR 9 ⟨some 27, .call ⟨.value (.func 75), #[.tmp 25, .tmp 26], #[138, 138]⟩, 4, _, #[⟨7, .data⟩, ⟨8, .data⟩], none⟩ (by kernel_rfl) rfl (by rfl) (fun K hK => ?_)
      go_wp2_with fail
      refine (qsame_any (.agg EL.toArray) (.agg QL.toArray) e1 q _ (hq_below HEQ.out hHeld) (hq_below HQ1.out hHeld)).mono ?_
      rintro ex W2 ⟨rfl, hb2⟩
      rw [HD.out]
      have hHeld2 : Below w1.heap.size w1 W2 := hHeld.trans (hb2.mono hHeld.size)
      clear hb2
      refine hK.out _ _ hHeld2 (fun _ => ?_)
      clear hK K
      try simp only [Act.put, qT, q0, qS]
      refine wpAnyH_done (by kernel_rfl) ?_ _
      have HBW : Hid (Below w1.heap.size w1 W2) := hHeld2
      clear hHeld hHeld2 hcW
      go_wp2
      go_roundw
      case rel => exact ⟨k + 1, by omega, by go_num, HBW.out⟩
      case measure => simp [intOf]; omega
    · have hkI : ¬ (k : Int) < (N : Int) := by omega
      have hcW : wr.cell? ⟨og, 35, none⟩ = some (.slice p N cap) := (hb.cell hog1).trans HC1.out
      have hs := hb.size
      have hsw : w.heap.size + 3 ≤ wr.heap.size := by have := HS1.out; omega
      have HX1 : Hid (wr.rangeAt (w.heap.size + 1) 0 CL) := rangeAt_row ((hb.block _ (by have := HS1.out; omega)).trans HR1.out)
      have HX8 : Hid ((wr.alloc (.cells ZA 33 (0, 0))).heap[wr.heap.size]? = some (.cells ZA 33 (0, 0))) := heap_at _ _ _ rfl
      have hb6 : Below wr.heap.size wr ((wr.alloc (.cells ZA 33 (0, 0))).setRow wr.heap.size CL.toArray) := below_setRow ((Below.refl _ _).alloc (Nat.le_refl _) _) (Nat.le_refl _) _
      have hrw : wr.heap[og]? = some (.cells (oL true o.master dv n lv).toArray t (0, 0)) := (hb.block _ hog1).trans ((HB1.out.block _ hog).trans HROW.out)
      have hr6 := (hb6.block og (by omega)).trans hrw
      have hi6 : ((wr.alloc (.cells ZA 33 (0, 0))).setRow wr.heap.size CL.toArray).cell? ⟨og, 0, none⟩ = some (.bool true) := by rw [cell_of_row _ _ 0 _ _ _ hr6]; exact oL_0 _ _ _ _ _
      have hu6 : ((wr.alloc (.cells ZA 33 (0, 0))).setRow wr.heap.size CL.toArray).cell? ⟨og, 34, none⟩ = some (.int .i64 (n : Int)) := by rw [cell_of_row _ _ 34 _ _ _ hr6]; exact oL_34 _ _ _ _ _ HOR.out.ml
      have hd6 : ((wr.alloc (.cells ZA 33 (0, 0))).setRow wr.heap.size CL.toArray).cell? ⟨og, 33, none⟩ = some dv := by rw [cell_of_row _ _ 33 _ _ _ hr6]; exact oL_33 _ _ _ _ _ HOR.out.ml
      have HR6 : Hid _ := hr6
      have HB6 : Hid _ := hb6
      have HBr : Hid _ := hb
      have HD6 : Hid _ := hd6
      clear hrw hr6 hb6 hb hd6
      go_wp2_with (first
        | (refine wpList_load_mid rfl 33 _ rfl (w.heap.size + 1) 0 rfl CL _ HX1.out Tryz.underlying33 rfl HCI.out ?_)
        | (refine wpList_store_row rfl 33 _ _ rfl wr.heap.size CL.toArray rfl rfl 33 ZA HX8.out (info32a _ HCS.out) (HZS.out.trans HCS.out.symm) HC1'.out ?_))
      refine (draw_any og n dv o.draws _ (by omega) HD6.out (hds_below (hds_below (hds_below HOR.out.draws HB1.out) HBr.out) HB6.out)).mono ?_
      rintro ex w8 ⟨rfl, hb8⟩
      obtain ⟨DL, hDL⟩ : ∃ L, L = (drawD o.draws n).map B8 := ⟨_, rfl⟩
      rw [← hDL]
      have hDn : DL.length = 32 := by rw [hDL, List.length_map]; exact HDl.out
      have HDS : Hid (DL.toArray.size = 32) := by show _ = _; simpa using hDn
      have HDI : Hid _ := info32 DL hDn
      have HD1 : Hid (DL.toArray.all (·.oneCell') = true) := by show _ = _; rw [hDL]; exact B8_onea _
      have hs8 : wr.heap.size + 1 ≤ w8.heap.size := by have := hb8.size; simpa using this
      have HX9 : Hid (w8.heap[wr.heap.size]? = some (.cells CL.toArray 33 (0, 0))) := (hb8.block _ (by simp)).trans (setRow_heap _ _ _ _ _ _ HX8.out)
      have hf8 : Fr (fun k => k = og ∨ lv.ownBlock = some k) w w8 := (((Fr.ofBelow HB1.out).then HBr.out).then HB6.out).then hb8
      have hf9 : Fr (fun k => k = og ∨ lv.ownBlock = some k) w (w8.setRow wr.heap.size DL.toArray) := hf8.setRow _ _ (.inr (by omega))
      have HF9' : Hid (Fr (fun k => k = og) w (w8.setRow wr.heap.size DL.toArray)) := Fr.setRow ((((Fr.ofBelow HB1.out).then HBr.out).then HB6.out).then hb8) _ _ (.inr (by omega))
      have hr9 : (w8.setRow wr.heap.size DL.toArray).heap[og]? = some (.cells (oL true o.master dv n lv).toArray t (0, 0)) := by rw [setRow_other _ _ _ _ (by omega)]; exact (hb8.block _ (by simp; omega)).trans HR6.out
      have hd9 : (w8.setRow wr.heap.size DL.toArray).heap[wr.heap.size]? = some (.cells DL.toArray 33 (0, 0)) := setRow_heap _ _ _ _ _ _ HX9.out
      have hk8 : ∀ k, w.heap.size ≤ k → k < w.heap.size + 3 → (w8.setRow wr.heap.size DL.toArray).heap[k]? = w1.heap[k]? := fun k h1 h2 => by
        rw [setRow_other _ _ _ _ (by omega)]
        exact (hb8.block _ (by simp; omega)).trans ((HB6.out.block _ (by omega)).trans (HBr.out.block _ (by have := HS1.out; omega)))
      have hq9 := (hk8 _ (Nat.le_refl _) (by omega)).trans HR0.out
      have hz9 := (hk8 (w.heap.size + 1 + 1) (by omega) (by omega)).trans HRZ.out
      have hs9 : (w8.setRow wr.heap.size DL.toArray).heap.size = w8.heap.size := by simp
      have hu9 : (w8.setRow wr.heap.size DL.toArray).cell? ⟨og, 34, none⟩ = some (.int .i64 (n : Int)) := by rw [cell_of_row _ _ 34 _ _ _ hr9]; exact oL_34 _ _ _ _ _ HOR.out.ml
      have f9 := frozen_of_row _ _ 34 _ _ hr9
      have HDL' : Hid _ := hDL
      have HDN : Hid _ := hDn
      have HR9 : Hid _ := hr9
      have HD9 : Hid _ := hd9
      have HF9 : Hid _ := hf9
      have HQ9 : Hid _ := hq9
      have HZ9 : Hid _ := hz9
      have HSZ9 : Hid _ := hs9
      clear hk8 hr9 hd9 hf9 hf8 hq9 hz9 hb8 hDL hDn hs9 HR6 HB6 HD6 hi6 hu6
      have HQ10 : Hid (((w8.setRow wr.heap.size DL.toArray).setCell ⟨og, 34, none⟩ (.int .i64 ((n : Int) + 1))).heap[w.heap.size]? = some (.cells QL.toArray 138 (0, 0))) := (heap_setCell_other _ _ _ _ (by show w.heap.size ≠ og; omega)).trans HQ9.out
      have hq10 : ((w8.setRow wr.heap.size DL.toArray).setCell ⟨og, 34, none⟩ (.int .i64 ((n : Int) + 1))).cell? ⟨w.heap.size, 34, none⟩ = some dq := by
        rw [cell_of_row _ _ 34 _ _ _ ((heap_setCell_other _ _ _ _ (by show w.heap.size ≠ og; omega)).trans HQ9.out), HQL.out]; exact qL_34 q dq hqk
      have HF10 : Hid (Fr (fun k => k = og ∨ lv.ownBlock = some k) w ((w8.setRow wr.heap.size DL.toArray).setCell ⟨og, 34, none⟩ (.int .i64 ((n : Int) + 1)))) := HF9.out.setCell _ _ _ (.inl (.inl rfl))
      have HF10' : Hid (Fr (fun k => k = og) w ((w8.setRow wr.heap.size DL.toArray).setCell ⟨og, 34, none⟩ (.int .i64 ((n : Int) + 1)))) := HF9'.out.setCell _ _ _ (.inl rfl)
      have HDX : Hid (HB ((w8.setRow wr.heap.size DL.toArray).setCell ⟨og, 34, none⟩ (.int .i64 ((n : Int) + 1))) dq q.data) := hb_keepN HDq.out (fun hne k e hl => HF10'.out.block k hl (fun e2 => hqo hne (by rw [e, e2])))
      have HSZ10 : Hid (((w8.setRow wr.heap.size DL.toArray).setCell ⟨og, 34, none⟩ (.int .i64 ((n : Int) + 1))).heap.size = w8.heap.size) := by show _ = _; rw [show ∀ (W : World) (a : Addr) (v : Value), (W.setCell a v).heap.size = W.heap.size from fun W a v => by simp [World.setCell]]; exact HSZ9.out
      go_wp2_with (first
        | (refine wpList_store_row rfl 33 _ _ rfl wr.heap.size DL.toArray rfl rfl 33 CL.toArray HX9.out (info32a _ HDS.out) (HCS.out.trans HDS.out.symm) HD1.out ?_)
        | (at_builtin; refine wpList_appHB rfl (.const (.slice none 0 0)) (.tmp 55) rfl w8.heap.size (.slice none 0 0) dq [] q.data rfl rfl (World.ownsRow_nil _ _ _ _) HDX.out (by simp; omega) (Nat.le_of_eq HSZ10.out.symm) ?_; intro v1 w10 hf1 hg1; rw [List.nil_append] at hf1; obtain ⟨p1, c1, hv1, _, _⟩ := hb_cells hf1.hb; subst hv1; have hc10 := hg1.cell hq10 (by simp [Value.ownBlock]); have f10 : w10.frozen? ⟨w.heap.size, 34, none⟩ = false := frozen_of_row _ _ 34 _ _ ((hg1.block _ (by have := HSZ10.out; omega) (by simp [Value.ownBlock])).trans HQ10.out)))
      have hv1b : ∀ k, (Value.slice p1 q.data.length c1).ownBlock = some k → w8.heap.size ≤ k ∧ k < w10.heap.size := fun k e => World.ownsRow.lt hf1 k e
      have hs10 : w8.heap.size ≤ w10.heap.size := by have := hg1.size; rw [HSZ10.out] at this; exact this
      have hk10 : ∀ k, k < w8.heap.size → w10.heap[k]? = ((w8.setRow wr.heap.size DL.toArray).setCell ⟨og, 34, none⟩ (.int .i64 ((n : Int) + 1))).heap[k]? := fun k h => hg1.block k (by rw [HSZ10.out]; exact h) (by simp [Value.ownBlock])
      have hQ11 : (w10.setCell ⟨w.heap.size, 34, none⟩ (.slice p1 q.data.length c1)).heap[w.heap.size]? = some (.cells (qL q (.slice p1 q.data.length c1)).toArray 138 (0, 0)) := by
        have := heap_setCell_same w10 w.heap.size 34 _ _ (.slice p1 q.data.length c1) ((hk10 _ (by omega)).trans HQ10.out)
        rw [HQL.out, qL_set34 q dq _ hqk] at this
        exact this
      have hko : ∀ k, k ≠ w.heap.size → k < w8.heap.size → (w10.setCell ⟨w.heap.size, 34, none⟩ (.slice p1 q.data.length c1)).heap[k]? = ((w8.setRow wr.heap.size DL.toArray).setCell ⟨og, 34, none⟩ (.int .i64 ((n : Int) + 1))).heap[k]? := fun k h1 h2 => (heap_setCell_other _ _ _ _ h1).trans (hk10 k h2)
      have hE8 : ((w8.setRow wr.heap.size DL.toArray).setCell ⟨og, 34, none⟩ (.int .i64 ((n : Int) + 1))).heap[wr.heap.size]? = some (.cells DL.toArray 33 (0, 0)) := (heap_setCell_other _ _ _ _ (by show wr.heap.size ≠ og; omega)).trans HD9.out
      have hEz : ((w8.setRow wr.heap.size DL.toArray).setCell ⟨og, 34, none⟩ (.int .i64 ((n : Int) + 1))).heap[w.heap.size + 1 + 1]? = some (.cells ZA 33 (0, 0)) := (heap_setCell_other _ _ _ _ (by show w.heap.size + 1 + 1 ≠ og; omega)).trans HZ9.out
      have hEo : ((w8.setRow wr.heap.size DL.toArray).setCell ⟨og, 34, none⟩ (.int .i64 ((n : Int) + 1))).heap[og]? = some (.cells (oL true o.master dv (n + 1) lv).toArray t (0, 0)) :=
        (heap_setCell_same _ og 34 _ _ _ HR9.out).trans (by rw [show (Value.int .i64 ((n : Int) + 1)) = .int .i64 ((n + 1 : Nat) : Int) from by simp, oL_set34 _ _ _ _ _ HOR.out.ml])
      have hF11 : Fr (fun k => k = og ∨ lv.ownBlock = some k) w (w10.setCell ⟨w.heap.size, 34, none⟩ (.slice p1 q.data.length c1)) := (HF10.out.grown hg1 (by simp [Value.ownBlock])).setCell _ _ _ (.inr (Nat.le_refl _))
      have hF11' : Fr (fun k => k = og) w (w10.setCell ⟨w.heap.size, 34, none⟩ (.slice p1 q.data.length c1)) := (HF10'.out.grown hg1 (by simp [Value.ownBlock])).setCell _ _ _ (.inr (Nat.le_refl _))
      have hS0 : S11 w og wr.heap.size w8.heap.size (qL q (.slice p1 q.data.length c1)) DL ZA (fun k => lv.ownBlock = some k) (.slice p1 q.data.length c1) q.data (w10.setCell ⟨w.heap.size, 34, none⟩ (.slice p1 q.data.length c1)).drew :=
        S11.drew ⟨hF11, hQ11, (hko _ (by omega) (by omega)).trans hE8, (hko _ (by omega) (by omega)).trans hEz, hb_keep hf1.hb (fun k e hl => heap_setCell_other _ _ _ _ (by have := (hv1b k e).1; show k ≠ w.heap.size; omega)), fun k e => ⟨(hv1b k e).1, by have := (hv1b k e).2; simpa [World.setCell] using this⟩⟩
      have hlow : ∀ k, (k = og ∨ lv.ownBlock = some k) → k < w.heap.size := fun k h => h.elim (fun e => e ▸ hog) (fun e => (HOR.out.log.2.2.1.lt k e).2)
      have hoW : (w10.setCell ⟨w.heap.size, 34, none⟩ (.slice p1 q.data.length c1)).drew.heap[og]? = some (.cells (oL true o.master dv (n + 1) lv).toArray t (0, 0)) := (hko _ (by omega) (by omega)).trans hEo
      have hLW : HLg B (w10.setCell ⟨w.heap.size, 34, none⟩ (.slice p1 q.data.length c1)).drew lv o.log lds := hlg_keep HOR.out.log (fun k e hl => hF11'.block k hl (fun ek => e.elim (fun e => (HOR.out.slog k e).2 ek) (fun ⟨d, hd, e⟩ => (HOR.out.sdat d hd k e).2.1 ek)))
      have hAN : (qL q (.slice p1 q.data.length c1) ++ DL).length = 67 := by rw [List.length_append, qL_len _ _ hqk, HDN.out]
      have hQn : (qL q (.slice p1 q.data.length c1)).length = 35 := qL_len _ _ hqk
      have HAE : Hid (qL q (.slice p1 q.data.length c1) ++ DL = aL (q, drawD o.draws n) (.slice p1 q.data.length c1)) := by show _ = _; rw [HDL'.out]; rfl
      have HA1 : Hid (∀ u ∈ qL q (.slice p1 q.data.length c1) ++ DL, u.oneCell' = true) := by
        intro u hu
        rcases List.mem_append.1 hu with hu | hu
        · exact qL_one q _ rfl u hu
        · rw [HDL'.out] at hu; exact B8_one _ u hu
      have HBA : Hid (∀ W, (Instr.build 140 #[(0, .agg (qL q (.slice p1 q.data.length c1)).toArray), (1, .agg DL.toArray)]).run Tryz.prog W = .ok (.agg (qL q (.slice p1 q.data.length c1) ++ DL).toArray) W) := fun W => build_asked W _ _ hQn HDN.out
      have HFA : Hid _ := fill_asked (qL q (.slice p1 q.data.length c1) ++ DL) hAN
      have HQN : Hid _ := info35 (qL q (.slice p1 q.data.length c1)) hQn
      obtain ⟨i0, hi, hz0, hz1, hz2⟩ := info_parts infoAk
      have HI0 : Hid _ := hi
      have HI1 : Hid _ := hz0
      have HI2 : Hid _ := hz1
      have HI3 : Hid _ := hz2
      have HAN : Hid _ := hAN
      have HLOW : Hid _ := hlow
      have HLW : Hid _ := hLW
      have HSX : Hid _ := hS0
      have HOW : Hid _ := hoW
      have hsX : w.heap.size + 3 ≤ (w10.setCell ⟨w.heap.size, 34, none⟩ (.slice p1 q.data.length c1)).drew.heap.size := by have := hS0.fr.size; have h2 := row_lt hS0.z; have h3 : w8.heap.size ≤ (w10.setCell ⟨w.heap.size, 34, none⟩ (.slice p1 q.data.length c1)).heap.size := (by simpa [World.setCell] using hs10); exact (by show w.heap.size + 3 ≤ (w10.setCell ⟨w.heap.size, 34, none⟩ (.slice p1 q.data.length c1)).heap.size; omega)
      have hv8 : wr.heap.size < (w10.setCell ⟨w.heap.size, 34, none⟩ (.slice p1 q.data.length c1)).drew.heap.size := row_lt hS0.d
      clear hv1b hs10 hk10 hQ11 hko hE8 hEz hEo hF11 hF11' hS0 hlow hoW hLW hAN hQn hi hz0 hz1 hz2 hg1 hf1 HDX HSZ10 HF10 HF10' HQ10 HF9 HF9' HQ9 HZ9 HSZ9 HD9 HR9 HX9
      refine wp_region_held_drew (S := S11 w og wr.heap.size w8.heap.size (qL q (.slice p1 q.data.length c1)) DL ZA (fun k => lv.ownBlock = some k) (.slice p1 q.data.length c1) q.data) (by kernel_rfl) HSX.out (fun hHeld => ?_)
      generalize (w10.setCell ⟨w.heap.size, 34, none⟩ (.slice p1 q.data.length c1)).drew = W at *
      have hAX := HAE.out
      generalize hAL : qL q (.slice p1 q.data.length c1) ++ DL = AL at *
      generalize hQN : qL q (.slice p1 q.data.length c1) = QN at *
      have HAX : Hid _ := hAX
      clear HAE hAX hAL hQN
      have hcX : W.cell? ⟨og, 35, none⟩ = some (.slice p N cap) := by rw [cell_of_row _ _ 35 _ _ _ HOW.out, ← HLV.out]; exact oL_35 _ _ _ _ _ HOR.out.ml
      have hHA : S11 w og wr.heap.size w8.heap.size QN DL ZA (fun k => lv.ownBlock = some k) (.slice p1 q.data.length c1) q.data (W.alloc (.cells AL.toArray 140 (0, 0))) := hHeld.step (Fr.ofBelow ((Below.refl _ _).alloc (Nat.le_refl _) _)) HLOW.out (by omega) (by omega)
      have hoA : (W.alloc (.cells AL.toArray 140 (0, 0))).heap[og]? = some (.cells (oL true o.master dv (n + 1) lv).toArray t (0, 0)) := (heap_alloc_old _ _ (by omega)).trans HOW.out
      have hcA : (W.alloc (.cells AL.toArray 140 (0, 0))).cell? ⟨og, 35, none⟩ = some (.slice p N cap) := by rw [cell_of_row _ _ 35 _ _ _ hoA, ← HLV.out]; exact oL_35 _ _ _ _ _ HOR.out.ml
      have HOA : Hid _ := hoA
      clear hoA
      have HOWN : Hid ((W.alloc (.cells AL.toArray 140 (0, 0))).ownsRow B 140 67 (.slice p N cap) N (lC o.log lds)) := by
        have h := HLW.out.2.2.1
        rw [HLV.out, HLN.out] at h
        exact h.alloc _
      have HNEW : Hid (∀ j u, AL[j]? = some u → (W.alloc (.cells AL.toArray 140 (0, 0))).cell? ((⟨W.heap.size, 0, none⟩ : Addr).add j) = some u) := fun j u hu => by
        have h := rangeAt_row (heap_alloc_new W (.cells AL.toArray 140 (0, 0))) j u hu
        rw [add_none]; exact h
      refine qzI 0 ⟨some 58, .move (.tmp 0), 55, _, #[], none⟩ (.pointer (some ⟨og, 0, none⟩)) rfl (by kernel_rfl) (fun _ _ _ h => h) (by rfl) (fun w' hw' => ?_) hHeld ?_
      · go_simp <;> rfl
      try simp only [Act.put, qT, q0, qS]
      refine qzI 1 ⟨some 59, .move (.tmp 0), 55, _, #[], none⟩ (.pointer (some ⟨og, 0, none⟩)) rfl (by kernel_rfl) (fun _ _ _ h => h) (by rfl) (fun w' hw' => ?_) hHeld ?_
      · go_simp <;> rfl
      try simp only [Act.put, qT, q0, qS]
      refine qzI 2 ⟨some 60, .nilCheck (.tmp 59), 0, _, #[⟨1, .data⟩], none⟩ (.pointer (some ⟨og, 0, none⟩)) rfl (by kernel_rfl) (fun _ _ _ h => h) (by rfl) (fun w' hw' => ?_) hHeld ?_
      · go_simp <;> rfl
      try simp only [Act.put, qT, q0, qS]
      refine qzI 3 ⟨some 61, .fieldAddr 94 (.tmp 60) 4, 0, _, #[⟨2, .data⟩], none⟩ (.pointer (some ⟨og, 35, none⟩)) rfl (by kernel_rfl) (fun _ _ _ h => h) (by rfl) (fun w' hw' => ?_) hHeld ?_
      · go_simp <;> rfl
      try simp only [Act.put, qT, q0, qS]
      refine qzK 5 ⟨some 63, .load 138 (.tmp 4), 138, _, #[], none⟩ _ rfl (by kernel_rfl) (fun _ _ _ h => h) (yieldsIf_load_mid (by rfl) 138 (.tmp 4) rfl (w.heap.size) (0) rfl (QN) _ (fun _ h => rangeAt_row h.q) HUQ.out rfl HQN.out) hHeld ?_
      try simp only [Act.put, qT, q0, qS]
      refine qzK 6 ⟨some 64, .load 33 (.tmp 8), 33, _, #[], none⟩ _ rfl (by kernel_rfl) (fun _ _ _ h => h) (yieldsIf_load_mid (by rfl) 33 (.tmp 8) rfl (wr.heap.size) (0) rfl (DL) _ (fun _ h => rangeAt_row h.d) Tryz.underlying33 rfl HDI.out) hHeld ?_
      try simp only [Act.put, qT, q0, qS]
      refine qzI 7 ⟨some 65, .build 140 #[(0, .tmp 63), (1, .tmp 64)], 140, _, #[⟨5, .data⟩, ⟨6, .data⟩], none⟩ (.agg AL.toArray) rfl (by kernel_rfl) (fun _ _ _ h => h) (by rfl) (fun w' hw' => ?_) hHeld ?_
      · exact exec_build _ _ 140 _ _ _ w' rfl (by simp; exact ⟨rfl, rfl⟩) (HBA.out w')
      try simp only [Act.put, qT, q0, qS]
      refine wpAnyH_ready (rs := [4, 8]) (by kernel_rfl) (by simp) ?_
      refine AllReadyH.cons (o := ⟨some 62, .load 92 (.tmp 61), 92, _, #[⟨3, .data⟩], none⟩) rfl (fun K hK => ?_) (AllReadyH.cons (o := ⟨some 66, .buildSlice 92 1 #[(0, .tmp 65)], 92, _, #[⟨7, .data⟩], none⟩) rfl (fun K hK => ?_) AllReadyH.nil)
      all_goals rw [if_pos (by rfl)]
      · go_wp2_with fail
        refine hK.out _ _ hHeld (fun _ => ?_)
        clear hK K
        try simp only [Act.put, qT, q0, qS]
        refine qzR 8 ⟨some 66, .buildSlice 92 1 #[(0, .tmp 65)], 92, _, #[⟨7, .data⟩], none⟩ (by kernel_rfl) rfl (by rfl) (fun K hK => ?_)
        refine wp_buildSlice 92 140 1 _ rfl AL.toArray i0 (.agg zAk.toArray) Tryz.underlying92 HI0.out HI1.out (by rw [HI2.out]; decide) (by rw [HI2.out]; decide) (by rw [HI2.out]; refine (congrArg (Instr.fill _ _) ?_).trans HFA.out; simp; rfl) ?_
        refine hK.out _ _ hHA (fun _ => ?_)
        clear hK K
        try simp only [Act.put, qT, q0, qS]
        refine qzR 9 ⟨some 67, .call ⟨.builtin Go.Builtin.append, #[.tmp 62, .tmp 66], #[92, 92]⟩, 92, _, #[⟨4, .data⟩, ⟨8, .data⟩], none⟩ (by kernel_rfl) rfl (by rfl) (fun K hK => ?_)
        refine wp_append_lies _ (.tmp 62) (.tmp 66) 92 rfl B 140 i0 (.agg zAk.toArray) 67 104 Tryz.underlying92 HI0.out HI1.out HI2.out HI3.out rfl (by decide) (.slice p N cap) N (lC o.log lds) rfl HOWN.out ⟨W.heap.size, 0, none⟩ 1 1 AL rfl HAN.out HNEW.out HA1.out (by decide) (by unfold maxLen; omega) (by omega) (by simp; omega) (W.heap.size + 1) (by simp) ?_
        intro g cap2 X hown hgr hgl hgX
        rw [← HLV.out] at hgr hgl
        have hHX := hHA.step (Fr.grown (Fr.refl _ _) hgr (fun k e => .inl (.inr e))) HLOW.out (by omega) (by omega)
        have hoX : X.heap[og]? = some (.cells (oL true o.master dv (n + 1) lv).toArray t (0, 0)) := (hgr.block og (by simp; omega) (fun e => (HOR.out.slog og e.symm).2 rfl)).trans HOA.out
        have cX : X.cell? ⟨og, 35, none⟩ = some (.slice p N cap) := by rw [cell_of_row _ _ 35 _ _ _ hoX, ← HLV.out]; exact oL_35 _ _ _ _ _ HOR.out.ml
        have fX := frozen_of_row _ _ 35 _ _ hoX
        have hHY := hHX.step (Fr.setCell (Fr.refl _ X) og 35 (.slice (some ⟨g, 0, none⟩) (N + 1) cap2) (.inl (.inl rfl))) HLOW.out (by omega) (by omega)
        have HOX : Hid _ := hoX
        have HOWX : Hid _ := hown
        have HGL : Hid _ := hgl
        have HGX : Hid _ := hgX
        clear hoX hown hgl hgr
        refine hK.out _ _ hHX (fun _ => ?_)
        clear hK K
        try simp only [Act.put, qT, q0, qS]
        have hHeld := hHX
        refine qzI 10 ⟨some 68, .nilCheck (.tmp 58), 0, _, #[⟨0, .data⟩, ⟨0, .phase⟩, ⟨1, .phase⟩, ⟨2, .phase⟩, ⟨3, .phase⟩, ⟨4, .phase⟩, ⟨5, .phase⟩, ⟨6, .phase⟩, ⟨7, .phase⟩, ⟨8, .phase⟩, ⟨9, .phase⟩], none⟩ (.pointer (some ⟨og, 0, none⟩)) rfl (by kernel_rfl) (fun _ _ _ h => h) (by rfl) (fun w' hw' => ?_) hHeld ?_
        · go_simp <;> rfl
        try simp only [Act.put, qT, q0, qS]
        refine qzI 11 ⟨some 69, .fieldAddr 94 (.tmp 68) 4, 0, _, #[⟨10, .data⟩, ⟨0, .phase⟩, ⟨1, .phase⟩, ⟨2, .phase⟩, ⟨3, .phase⟩, ⟨4, .phase⟩, ⟨5, .phase⟩, ⟨6, .phase⟩, ⟨7, .phase⟩, ⟨8, .phase⟩, ⟨9, .phase⟩], none⟩ (.pointer (some ⟨og, 35, none⟩)) rfl (by kernel_rfl) (fun _ _ _ h => h) (by rfl) (fun w' hw' => ?_) hHeld ?_
        · go_simp <;> rfl
        try simp only [Act.put, qT, q0, qS]
        refine qzR 12 ⟨none, .store 92 (.tmp 69) (.tmp 67), 0, _, #[⟨11, .data⟩, ⟨9, .data⟩, ⟨9, .chain⟩, ⟨0, .phase⟩, ⟨1, .phase⟩, ⟨2, .phase⟩, ⟨3, .phase⟩, ⟨4, .phase⟩, ⟨5, .phase⟩, ⟨6, .phase⟩, ⟨7, .phase⟩, ⟨8, .phase⟩, ⟨9, .phase⟩], none⟩ (by kernel_rfl) rfl (by rfl) (fun K hK => ?_)
        go_wp2_with fail
        refine hK.out _ _ hHY (fun _ => ?_)
        clear hK K
        try simp only [Act.put, qT, q0, qS]
        refine wpAnyH_done (by kernel_rfl) ?_ _
        have hsY : (X.setCell ⟨og, 35, none⟩ (.slice (some ⟨g, 0, none⟩) (N + 1) cap2)).heap.size = X.heap.size := by simp [World.setCell]
        have hog2 : g ≠ og := HGL.out.elim (fun e => (HOR.out.slog g e).2) (fun e => by omega)
        have hg2 : g ≠ w.heap.size + 1 + 1 := HGL.out.elim (fun e => by have := HLOW.out g (.inr e); omega) (fun e => by omega)
        have hZo : ((X.setCell ⟨og, 35, none⟩ (.slice (some ⟨g, 0, none⟩) (N + 1) cap2)).setRow (w.heap.size + 1 + 1) DL.toArray).heap[og]? = some (.cells (oL true o.master dv (n + 1) (.slice (some ⟨g, 0, none⟩) (N + 1) cap2)).toArray t (0, 0)) := by
          rw [setRow_other _ _ _ _ (by omega)]
          exact (heap_setCell_same _ og 35 _ _ _ HOX.out).trans (by rw [oL_set35 _ _ _ _ _ HOR.out.ml])
        have hZk : ∀ k, k ≠ og → k ≠ w.heap.size + 1 + 1 → ((X.setCell ⟨og, 35, none⟩ (.slice (some ⟨g, 0, none⟩) (N + 1) cap2)).setRow (w.heap.size + 1 + 1) DL.toArray).heap[k]? = X.heap[k]? := fun k h1 h2 => by
          rw [setRow_other _ _ _ _ h2]; exact heap_setCell_other _ _ _ _ h1
        have hsZ : ((X.setCell ⟨og, 35, none⟩ (.slice (some ⟨g, 0, none⟩) (N + 1) cap2)).setRow (w.heap.size + 1 + 1) DL.toArray).heap.size = X.heap.size := by rw [show ∀ (W : World) (a : Nat) (v : Array Value), (W.setRow a v).heap.size = W.heap.size from fun W a v => by simp]; exact hsY
        have HEND : Hid (AnsEnd B og S w o dv t q (drawD o.draws n) (.returned (.agg DL.toArray)) ((X.setCell ⟨og, 35, none⟩ (.slice (some ⟨g, 0, none⟩) (N + 1) cap2)).setRow (w.heap.size + 1 + 1) DL.toArray)) := by
          have hm := or_more (q := q) (D := drawD o.draws n) (v1 := .slice p1 q.data.length c1) (g := g) (cap2 := cap2) (H := W.heap.size + 1) (Z := (X.setCell ⟨og, 35, none⟩ (.slice (some ⟨g, 0, none⟩) (N + 1) cap2)).setRow (w.heap.size + 1 + 1) DL.toArray) HOR.out hB hqk HDl.out (hHY.fr.setRow _ _ (.inr (by omega)))
            (by rw [hid, HUN.out, HLN.out]; exact hZo) (by rw [HLN.out, ← HAX.out]; exact own_keep HOWX.out (fun k e hl => hZk k (by have e' : g = k := (by simpa [Value.ownBlock] using e); exact e' ▸ hog2) (by have e' : g = k := (by simpa [Value.ownBlock] using e); exact e' ▸ hg2)))
            HGL.out (by omega) (by rw [hsZ]; exact HGX.out) (hb_keep hHX.dat (fun k e hl => hZk k (by have := (hHX.vb k e).1; omega) (by have := (hHX.vb k e).1; omega)))
            (fun k e => ⟨by have := (hHX.vb k e).1; omega, by have := (HSX.out.vb k e).2; omega, by rw [hsZ]; exact (hHX.vb k e).2⟩)
          exact ⟨by rw [HDL'.out], hm.1, _, _, hm.2⟩
        have HYD : Hid _ := rangeAt_row hHY.d
        have HYZ : Hid _ := hHY.z
        clear hZo hZk hsZ hog2 hg2 hsY hHY hHX hHeld hHA HOX HOWX HGL HGX cX fX hgX hcX hcA
        generalize (X.setCell ⟨og, 35, none⟩ (.slice (some ⟨g, 0, none⟩) (N + 1) cap2)) = YY at *
        go_wp2_with (first
          | (refine wpList_load_mid rfl 33 _ rfl wr.heap.size 0 rfl DL _ HYD.out Tryz.underlying33 rfl HDI.out ?_)
          | (refine wpList_store_row rfl 33 _ _ rfl (w.heap.size + 1 + 1) DL.toArray rfl rfl 33 ZA HYZ.out (info32a _ HDS.out) (HZS.out.trans HDS.out.symm) HD1.out ?_))
        refine bodyPost_ret (v := .agg DL.toArray) ?_ rfl HEND.out
        exact results_cell_row Tryz.results102 _ _ (w.heap.size + 1 + 1) 33 _ (0, 0) _ rfl (setRow_heap _ _ _ _ _ _ HYZ.out) Tryz.underlying33 rfl (info32a _ HDS.out)
      · have hHB := hHA
        refine wp_buildSlice 92 140 1 _ rfl AL.toArray i0 (.agg zAk.toArray) Tryz.underlying92 HI0.out HI1.out (by rw [HI2.out]; decide) (by rw [HI2.out]; decide) (by rw [HI2.out]; refine (congrArg (Instr.fill _ _) ?_).trans HFA.out; simp; rfl) ?_
        refine hK.out _ _ hHA (fun _ => ?_)
        clear hK K
        try simp only [Act.put, qT, q0, qS]
        have hHeld := hHA
        refine qzR 4 ⟨some 62, .load 92 (.tmp 61), 92, _, #[⟨3, .data⟩], none⟩ (by kernel_rfl) rfl (by rfl) (fun K hK => ?_)
        go_wp2_with fail
        refine hK.out _ _ hHA (fun _ => ?_)
        clear hK K
        try simp only [Act.put, qT, q0, qS]
        refine qzR 9 ⟨some 67, .call ⟨.builtin Go.Builtin.append, #[.tmp 62, .tmp 66], #[92, 92]⟩, 92, _, #[⟨4, .data⟩, ⟨8, .data⟩], none⟩ (by kernel_rfl) rfl (by rfl) (fun K hK => ?_)
        refine wp_append_lies _ (.tmp 62) (.tmp 66) 92 rfl B 140 i0 (.agg zAk.toArray) 67 104 Tryz.underlying92 HI0.out HI1.out HI2.out HI3.out rfl (by decide) (.slice p N cap) N (lC o.log lds) rfl HOWN.out ⟨W.heap.size, 0, none⟩ 1 1 AL rfl HAN.out HNEW.out HA1.out (by decide) (by unfold maxLen; omega) (by omega) (by simp; omega) (W.heap.size + 1) (by simp) ?_
        intro g cap2 X hown hgr hgl hgX
        rw [← HLV.out] at hgr hgl
        have hHX := hHA.step (Fr.grown (Fr.refl _ _) hgr (fun k e => .inl (.inr e))) HLOW.out (by omega) (by omega)
        have hoX : X.heap[og]? = some (.cells (oL true o.master dv (n + 1) lv).toArray t (0, 0)) := (hgr.block og (by simp; omega) (fun e => (HOR.out.slog og e.symm).2 rfl)).trans HOA.out
        have cX : X.cell? ⟨og, 35, none⟩ = some (.slice p N cap) := by rw [cell_of_row _ _ 35 _ _ _ hoX, ← HLV.out]; exact oL_35 _ _ _ _ _ HOR.out.ml
        have fX := frozen_of_row _ _ 35 _ _ hoX
        have hHY := hHX.step (Fr.setCell (Fr.refl _ X) og 35 (.slice (some ⟨g, 0, none⟩) (N + 1) cap2) (.inl (.inl rfl))) HLOW.out (by omega) (by omega)
        have HOX : Hid _ := hoX
        have HOWX : Hid _ := hown
        have HGL : Hid _ := hgl
        have HGX : Hid _ := hgX
        clear hoX hown hgl hgr
        refine hK.out _ _ hHX (fun _ => ?_)
        clear hK K
        try simp only [Act.put, qT, q0, qS]
        have hHeld := hHX
        refine qzI 10 ⟨some 68, .nilCheck (.tmp 58), 0, _, #[⟨0, .data⟩, ⟨0, .phase⟩, ⟨1, .phase⟩, ⟨2, .phase⟩, ⟨3, .phase⟩, ⟨4, .phase⟩, ⟨5, .phase⟩, ⟨6, .phase⟩, ⟨7, .phase⟩, ⟨8, .phase⟩, ⟨9, .phase⟩], none⟩ (.pointer (some ⟨og, 0, none⟩)) rfl (by kernel_rfl) (fun _ _ _ h => h) (by rfl) (fun w' hw' => ?_) hHeld ?_
        · go_simp <;> rfl
        try simp only [Act.put, qT, q0, qS]
        refine qzI 11 ⟨some 69, .fieldAddr 94 (.tmp 68) 4, 0, _, #[⟨10, .data⟩, ⟨0, .phase⟩, ⟨1, .phase⟩, ⟨2, .phase⟩, ⟨3, .phase⟩, ⟨4, .phase⟩, ⟨5, .phase⟩, ⟨6, .phase⟩, ⟨7, .phase⟩, ⟨8, .phase⟩, ⟨9, .phase⟩], none⟩ (.pointer (some ⟨og, 35, none⟩)) rfl (by kernel_rfl) (fun _ _ _ h => h) (by rfl) (fun w' hw' => ?_) hHeld ?_
        · go_simp <;> rfl
        try simp only [Act.put, qT, q0, qS]
        refine qzR 12 ⟨none, .store 92 (.tmp 69) (.tmp 67), 0, _, #[⟨11, .data⟩, ⟨9, .data⟩, ⟨9, .chain⟩, ⟨0, .phase⟩, ⟨1, .phase⟩, ⟨2, .phase⟩, ⟨3, .phase⟩, ⟨4, .phase⟩, ⟨5, .phase⟩, ⟨6, .phase⟩, ⟨7, .phase⟩, ⟨8, .phase⟩, ⟨9, .phase⟩], none⟩ (by kernel_rfl) rfl (by rfl) (fun K hK => ?_)
        go_wp2_with fail
        refine hK.out _ _ hHY (fun _ => ?_)
        clear hK K
        try simp only [Act.put, qT, q0, qS]
        refine wpAnyH_done (by kernel_rfl) ?_ _
        have hsY : (X.setCell ⟨og, 35, none⟩ (.slice (some ⟨g, 0, none⟩) (N + 1) cap2)).heap.size = X.heap.size := by simp [World.setCell]
        have hog2 : g ≠ og := HGL.out.elim (fun e => (HOR.out.slog g e).2) (fun e => by omega)
        have hg2 : g ≠ w.heap.size + 1 + 1 := HGL.out.elim (fun e => by have := HLOW.out g (.inr e); omega) (fun e => by omega)
        have hZo : ((X.setCell ⟨og, 35, none⟩ (.slice (some ⟨g, 0, none⟩) (N + 1) cap2)).setRow (w.heap.size + 1 + 1) DL.toArray).heap[og]? = some (.cells (oL true o.master dv (n + 1) (.slice (some ⟨g, 0, none⟩) (N + 1) cap2)).toArray t (0, 0)) := by
          rw [setRow_other _ _ _ _ (by omega)]
          exact (heap_setCell_same _ og 35 _ _ _ HOX.out).trans (by rw [oL_set35 _ _ _ _ _ HOR.out.ml])
        have hZk : ∀ k, k ≠ og → k ≠ w.heap.size + 1 + 1 → ((X.setCell ⟨og, 35, none⟩ (.slice (some ⟨g, 0, none⟩) (N + 1) cap2)).setRow (w.heap.size + 1 + 1) DL.toArray).heap[k]? = X.heap[k]? := fun k h1 h2 => by
          rw [setRow_other _ _ _ _ h2]; exact heap_setCell_other _ _ _ _ h1
        have hsZ : ((X.setCell ⟨og, 35, none⟩ (.slice (some ⟨g, 0, none⟩) (N + 1) cap2)).setRow (w.heap.size + 1 + 1) DL.toArray).heap.size = X.heap.size := by rw [show ∀ (W : World) (a : Nat) (v : Array Value), (W.setRow a v).heap.size = W.heap.size from fun W a v => by simp]; exact hsY
        have HEND : Hid (AnsEnd B og S w o dv t q (drawD o.draws n) (.returned (.agg DL.toArray)) ((X.setCell ⟨og, 35, none⟩ (.slice (some ⟨g, 0, none⟩) (N + 1) cap2)).setRow (w.heap.size + 1 + 1) DL.toArray)) := by
          have hm := or_more (q := q) (D := drawD o.draws n) (v1 := .slice p1 q.data.length c1) (g := g) (cap2 := cap2) (H := W.heap.size + 1) (Z := (X.setCell ⟨og, 35, none⟩ (.slice (some ⟨g, 0, none⟩) (N + 1) cap2)).setRow (w.heap.size + 1 + 1) DL.toArray) HOR.out hB hqk HDl.out (hHY.fr.setRow _ _ (.inr (by omega)))
            (by rw [hid, HUN.out, HLN.out]; exact hZo) (by rw [HLN.out, ← HAX.out]; exact own_keep HOWX.out (fun k e hl => hZk k (by have e' : g = k := (by simpa [Value.ownBlock] using e); exact e' ▸ hog2) (by have e' : g = k := (by simpa [Value.ownBlock] using e); exact e' ▸ hg2)))
            HGL.out (by omega) (by rw [hsZ]; exact HGX.out) (hb_keep hHX.dat (fun k e hl => hZk k (by have := (hHX.vb k e).1; omega) (by have := (hHX.vb k e).1; omega)))
            (fun k e => ⟨by have := (hHX.vb k e).1; omega, by have := (HSX.out.vb k e).2; omega, by rw [hsZ]; exact (hHX.vb k e).2⟩)
          exact ⟨by rw [HDL'.out], hm.1, _, _, hm.2⟩
        have HYD : Hid _ := rangeAt_row hHY.d
        have HYZ : Hid _ := hHY.z
        clear hZo hZk hsZ hog2 hg2 hsY hHY hHX hHeld hHA HOX HOWX HGL HGX cX fX hgX hcX hcA
        generalize (X.setCell ⟨og, 35, none⟩ (.slice (some ⟨g, 0, none⟩) (N + 1) cap2)) = YY at *
        go_wp2_with (first
          | (refine wpList_load_mid rfl 33 _ rfl wr.heap.size 0 rfl DL _ HYD.out Tryz.underlying33 rfl HDI.out ?_)
          | (refine wpList_store_row rfl 33 _ _ rfl (w.heap.size + 1 + 1) DL.toArray rfl rfl 33 ZA HYZ.out (info32a _ HDS.out) (HZS.out.trans HDS.out.symm) HD1.out ?_))
        refine bodyPost_ret (v := .agg DL.toArray) ?_ rfl HEND.out
        exact results_cell_row Tryz.results102 _ _ (w.heap.size + 1 + 1) 33 _ (0, 0) _ rfl (setRow_heap _ _ _ _ _ _ HYZ.out) Tryz.underlying33 rfl (info32a _ HDS.out)
end Go.Proofs.YtekbppfocnbhbaaGreat.R5
