import Derived.Test.YtekbppfocnbhbaaGreatQB
set_option linter.unusedVariables false
set_option linter.unusedSimpArgs false
set_option maxHeartbeats 16000000
set_option maxRecDepth 100000
namespace Go.Proofs.YtekbppfocnbhbaaGreat.R5
open scoped Classical
open Go.RowKit
theorem w3_facts (w : World) (QL : List Value) (CA ZA : Array Value) (w1 : World) (h : w1 = ((w.alloc (.cells QL.toArray 138 (0, 0))).alloc (.cells CA 33 (0, 0))).alloc (.cells ZA 33 (0, 0))) :
    Below w.heap.size w w1 ∧ w1.heap.size = w.heap.size + 3 ∧ w1.heap[w.heap.size]? = some (.cells QL.toArray 138 (0, 0)) ∧ w1.heap[w.heap.size + 1]? = some (.cells CA 33 (0, 0)) ∧ w1.heap[w.heap.size + 1 + 1]? = some (.cells ZA 33 (0, 0)) := by
  subst h
  refine ⟨(((Below.refl _ _).alloc (Nat.le_refl _) _).alloc (by simp) _).alloc (by simp; omega) _, by simp, ?_, ?_, heap_at _ _ _ (by simp)⟩
  · rw [heap_alloc_old _ _ (by simp; omega)]; exact alloc2_first _ _ _
  · rw [heap_alloc_old _ _ (by simp)]; exact heap_at _ _ _ (by simp)
theorem answer_found (og B : Nat) (lv qv : Value) (l : List (Qn × List UInt8)) (lds : List Value) (q : Qn) (C A : List UInt8) (w : World) (hC : C.length = 32) (hll : l.length < 9223372036854775807) (hc : w.cell? ⟨og, 35, none⟩ = some lv) (hl : HLg B w lv l lds) (hq : HQ w qv q) (hf : fndA q l = some A) :
    Calls Tryz.prog 102 #[.pointer (some ⟨og, 0, none⟩), qv, .agg (C.map B8).toArray] w fun e w' => e = .returned (.agg (A.map B8).toArray) ∧ Below w.heap.size w w' := by
  obtain ⟨hqk, dv, rfl, hdv⟩ := hq
  have hHQ : HQ w (.agg (qL q dv).toArray) q := ⟨hqk, dv, rfl, hdv⟩
  have hQi := info35 (qL q dv) (qL_len q dv hqk)
  obtain ⟨p, cap, rfl, hrows⟩ := hlg_form hl
  obtain ⟨hlok, hdl, _, hent⟩ := hl
  have hog := block_lt hc
  simp only at hog
  have hzv := fun W => zero_dig W
  obtain ⟨ZA, hZA⟩ : ∃ A, A = ((List.replicate 32 (0 : UInt8)).map B8).toArray := ⟨_, rfl⟩
  rw [← hZA] at hzv
  have HZS : Hid (ZA.size = 32) := by show _ = _; rw [hZA]; simp
  generalize qL q dv = QL at *
  generalize (C.map B8).toArray = CA at *
  obtain ⟨w1, hw1⟩ : ∃ w1, w1 = ((w.alloc (.cells QL.toArray 138 (0, 0))).alloc (.cells CA 33 (0, 0))).alloc (.cells ZA 33 (0, 0)) := ⟨_, rfl⟩
  obtain ⟨hb1, hs1, hr0, _, hr2⟩ := w3_facts w QL CA ZA w1 hw1
  have HQ1 : Hid _ := hq_below hHQ hb1
  have HC1 : Hid (w1.cell? ⟨og, 35, none⟩ = some (.slice p l.length cap)) := (hb1.cell hog).trans hc
  have HRQ : Hid (w1.rangeAt w.heap.size 0 QL) := rangeAt_row hr0
  have HRZ : Hid _ := hr2
  have HQI : Hid _ := hQi
  have HB1 : Hid _ := hb1
  have HW1 : Hid _ := hw1
  have HF : Hid _ := hf
  have HRW : Hid _ := hrows
  have HEN : Hid _ := hent
  have HOK : Hid _ := hlok
  have HDL : Hid _ := hdl
  have HS1 : Hid _ := hs1
  have hog1 : og < w1.heap.size := by omega
  have huQ := Tryz.underlying138
  have HUQ : Hid _ := huQ
  clear hZA hdv hHQ hrows hent hc hb1 hr0 hr2 hf hlok hdl hw1 hQi hqk hC hs1 huQ
  go_enter Tryz.func102, Tryz.ntmps102
  go_wp2
  go_loopw [7] (fun i wr => ∃ k : Nat, k ≤ l.length ∧ i = .int .i64 k ∧ fndA q (l.drop k) = some A ∧ Below w1.heap.size w1 wr) (fun i _ => l.length - (intOf i).toNat)
  case atStart => exact ⟨0, Nat.zero_le _, rfl, HF.out, by rw [HW1.out]; exact Below.refl _ _⟩
  case round =>
    obtain ⟨k, hk, rfl, hfk, hb⟩ := hrel
    by_cases hlt : k < l.length
    · have hkI : (k : Int) < (l.length : Int) := by omega
      obtain ⟨e, he⟩ : ∃ e, l[k]? = some e := ⟨_, List.getElem?_eq_getElem hlt⟩
      obtain ⟨d, hd⟩ : ∃ d, lds[k]? = some d := ⟨_, List.getElem?_eq_getElem (by rw [HDL.out]; exact hlt)⟩
      obtain ⟨g, rfl, hBg, hr1, hr2⟩ := HRW.out k e d he hd
      have hok := HOK.out e (List.mem_of_getElem? he)
      have hE1 : HQ w (.agg (qL e.1 d).toArray) e.1 := ⟨hok.1, d, rfl, HEN.out k e d he hd⟩
      have HEQ : Hid _ := hq_below hE1 HB1.out
      have HEI : Hid _ := info35 (qL e.1 d) (qL_len e.1 d hok.1)
      have HER : Hid _ := rangeAt_below hr1 HB1.out
      have HAR : Hid _ := rangeAt_below hr2 HB1.out
      have HAI : Hid _ := info32 (e.2.map B8) (by rw [List.length_map]; exact hok.2)
      have HAS : Hid ((e.2.map B8).toArray.size = 32) := by show _ = _; simp [hok.2]
      have HA1 : Hid _ := B8_onea e.2
      have hcW : wr.cell? ⟨og, 35, none⟩ = some (.slice (some ⟨g, 0, none⟩) l.length cap) := (hb.cell hog1).trans HC1.out
      have hdr := fndA_drop q l k e he
      rw [hfk] at hdr
      obtain ⟨e1, e2⟩ := e
      simp only at *
      generalize qL e1 d = EL at *
      have HBd : Hid (Below w1.heap.size w1 wr.drew) := hb.drew
      have HDR : Hid _ := hdr
      clear hr1 hr2 hok hE1 he hd hfk hdr hb HRW HEN
      by_cases heq : e1 = q
      · have HD : Hid (decide (e1 = q) = true) := decide_eq_true heq
        have HE2 : Hid (some A = some e2) := by show _ = _; rw [HDR.out, if_pos heq]
        clear heq HDR
        go_wp2
        refine wp_region_held_drew (S := fun w' => Below w1.heap.size w1 w') (by kernel_rfl) HBd.out (fun hHeld => ?_)
        generalize wr.drew = W at *
        refine qzI 0 ⟨some 18, .move (.tmp 0), 55, _, #[], none⟩ (.pointer (some ⟨og, 0, none⟩)) rfl (by kernel_rfl) (fun _ _ _ h => h) (by rfl) (fun w' hw' => ?_) hHeld ?_
        · go_simp <;> rfl
        try simp only [Act.put, qT, q0, qS]
        refine qzI 1 ⟨some 19, .nilCheck (.tmp 18), 0, _, #[⟨0, .data⟩], none⟩ (.pointer (some ⟨og, 0, none⟩)) rfl (by kernel_rfl) (fun _ _ _ h => h) (by rfl) (fun w' hw' => ?_) hHeld ?_
        · go_simp <;> rfl
        try simp only [Act.put, qT, q0, qS]
        refine qzI 2 ⟨some 20, .fieldAddr 94 (.tmp 19) 4, 0, _, #[⟨1, .data⟩], none⟩ (.pointer (some ⟨og, 35, none⟩)) rfl (by kernel_rfl) (fun _ _ _ h => h) (by rfl) (fun w' hw' => ?_) hHeld ?_
        · go_simp <;> rfl
        try simp only [Act.put, qT, q0, qS]
        refine qzI 3 ⟨some 21, .load 92 (.tmp 20), 92, _, #[⟨2, .data⟩], none⟩ (.slice (some ⟨g, 0, none⟩) l.length cap) rfl (by kernel_rfl) (fun _ _ _ h => h) (by rfl) (fun w' hw' => ?_) hHeld ?_
        · have hcc := (hw'.cell hog1).trans HC1.out; go_simp <;> rfl
        try simp only [Act.put, qT, q0, qS]
        refine qzI 4 ⟨some 22, .move (.tmp 7), 3, _, #[], none⟩ (.int .i64 (k : Int)) rfl (by kernel_rfl) (fun _ _ _ h => h) (by rfl) (fun w' hw' => ?_) hHeld ?_
        · go_simp <;> rfl
        try simp only [Act.put, qT, q0, qS]
        refine qzI 5 ⟨some 23, .indexAddr 92 (.tmp 21) (.tmp 22), 0, _, #[⟨3, .data⟩, ⟨4, .data⟩], none⟩ (.pointer (some ⟨g, k * 67, none⟩)) rfl (by kernel_rfl) (fun _ _ _ h => h) (by rfl) (fun w' hw' => ?_) hHeld ?_
        · go_simp <;> rfl
        try simp only [Act.put, qT, q0, qS]
        refine qzI 6 ⟨some 24, .fieldAddr 140 (.tmp 23) 0, 0, _, #[⟨5, .data⟩], none⟩ (.pointer (some ⟨g, k * 67, none⟩)) rfl (by kernel_rfl) (fun _ _ _ h => h) (by rfl) (fun w' hw' => ?_) hHeld ?_
        · go_simp <;> rfl
        try simp only [Act.put, qT, q0, qS]
        refine qzK 7 ⟨some 25, .load 138 (.tmp 24), 138, _, #[⟨6, .data⟩], none⟩ _ rfl (by kernel_rfl) (fun _ _ _ h => h) (yieldsIf_load_mid (by rfl) 138 (.tmp 24) rfl (g) (k * 67) rfl (EL) _ (fun _ h => rangeAt_below HER.out h) HUQ.out rfl HEI.out) hHeld ?_
        try simp only [Act.put, qT, q0, qS]
        refine qzK 8 ⟨some 26, .load 138 (.tmp 4), 138, _, #[], none⟩ _ rfl (by kernel_rfl) (fun _ _ _ h => h) (yieldsIf_load_mid (by rfl) 138 (.tmp 4) rfl (w.heap.size) (0) rfl (QL) _ (fun _ h => rangeAt_below HRQ.out h) HUQ.out rfl HQI.out) hHeld ?_
        try simp only [Act.put, qT, q0, qS]
        refine qzR 9 ⟨some 27, .call ⟨.value (.func 75), #[.tmp 25, .tmp 26], #[138, 138]⟩, 4, _, #[⟨7, .data⟩, ⟨8, .data⟩], none⟩ (by kernel_rfl) rfl (by rfl) (fun K hK => ?_)
        go_wp2_with fail
        refine (qsame_any (.agg EL.toArray) (.agg QL.toArray) e1 q _ (hq_below HEQ.out hHeld) (hq_below HQ1.out hHeld)).mono ?_
        rintro ex W2 ⟨rfl, hb2⟩
        rw [HD.out]
        have hHeld2 : Below w1.heap.size w1 W2 := hHeld.trans (hb2.mono hHeld.size)
        clear hb2
        refine hK.out _ _ hHeld2 (fun _ => ?_)
        clear hK K
        try simp only [Act.put, qT, q0, qS]
        refine wpAnyH_done (by kernel_rfl) ?_ _
        have HAW : Hid (W2.rangeAt g (k * 67 + 35) (e2.map B8)) := rangeAt_below HAR.out hHeld2
        have HZW : Hid (W2.heap[w.heap.size + 1 + 1]? = some (.cells ZA 33 (0, 0))) := (hHeld2.block _ (by have := HS1.out; omega)).trans HRZ.out
        have HBW : Hid (Below w.heap.size w W2) := HB1.out.trans (hHeld2.mono (by have := HS1.out; omega))
        have hcW2 : W2.cell? ⟨og, 35, none⟩ = some (.slice (some ⟨g, 0, none⟩) l.length cap) := (hHeld2.cell hog1).trans HC1.out
        clear hHeld hHeld2 hcW
        go_wp2_with (first
          | (refine wpList_load_mid rfl 33 _ rfl g (k * 67 + 35) rfl (e2.map B8) _ HAW.out Tryz.underlying33 rfl HAI.out ?_)
          | (refine wpList_store_row rfl 33 _ _ rfl (w.heap.size + 1 + 1) (e2.map B8).toArray rfl rfl 33 ZA HZW.out (info32a _ HAS.out) (HZS.out.trans HAS.out.symm) HA1.out ?_))
        refine bodyPost_ret (v := .agg (e2.map B8).toArray) ?_ rfl ⟨by rw [Option.some.inj HE2.out], below_setRow HBW.out (by omega) _⟩
        exact results_cell_row Tryz.results102 _ _ (w.heap.size + 1 + 1) 33 _ (0, 0) _ rfl (setRow_heap _ _ _ _ _ _ HZW.out) Tryz.underlying33 rfl (info32a _ HAS.out)
      · have HD : Hid (decide (e1 = q) = false) := decide_eq_false heq
        have HE2 : Hid (fndA q (l.drop (k + 1)) = some A) := by show _ = _; rw [HDR.out, if_neg heq]
        clear heq HDR
        go_wp2
        refine wp_region_held_drew (S := fun w' => Below w1.heap.size w1 w') (by kernel_rfl) HBd.out (fun hHeld => ?_)
        generalize wr.drew = W at *
        refine qzI 0 ⟨some 18, .move (.tmp 0), 55, _, #[], none⟩ (.pointer (some ⟨og, 0, none⟩)) rfl (by kernel_rfl) (fun _ _ _ h => h) (by rfl) (fun w' hw' => ?_) hHeld ?_
        · go_simp <;> rfl
        try simp only [Act.put, qT, q0, qS]
        refine qzI 1 ⟨some 19, .nilCheck (.tmp 18), 0, _, #[⟨0, .data⟩], none⟩ (.pointer (some ⟨og, 0, none⟩)) rfl (by kernel_rfl) (fun _ _ _ h => h) (by rfl) (fun w' hw' => ?_) hHeld ?_
        · go_simp <;> rfl
        try simp only [Act.put, qT, q0, qS]
        refine qzI 2 ⟨some 20, .fieldAddr 94 (.tmp 19) 4, 0, _, #[⟨1, .data⟩], none⟩ (.pointer (some ⟨og, 35, none⟩)) rfl (by kernel_rfl) (fun _ _ _ h => h) (by rfl) (fun w' hw' => ?_) hHeld ?_
        · go_simp <;> rfl
        try simp only [Act.put, qT, q0, qS]
        refine qzI 3 ⟨some 21, .load 92 (.tmp 20), 92, _, #[⟨2, .data⟩], none⟩ (.slice (some ⟨g, 0, none⟩) l.length cap) rfl (by kernel_rfl) (fun _ _ _ h => h) (by rfl) (fun w' hw' => ?_) hHeld ?_
        · have hcc := (hw'.cell hog1).trans HC1.out; go_simp <;> rfl
        try simp only [Act.put, qT, q0, qS]
        refine qzI 4 ⟨some 22, .move (.tmp 7), 3, _, #[], none⟩ (.int .i64 (k : Int)) rfl (by kernel_rfl) (fun _ _ _ h => h) (by rfl) (fun w' hw' => ?_) hHeld ?_
        · go_simp <;> rfl
        try simp only [Act.put, qT, q0, qS]
        refine qzI 5 ⟨some 23, .indexAddr 92 (.tmp 21) (.tmp 22), 0, _, #[⟨3, .data⟩, ⟨4, .data⟩], none⟩ (.pointer (some ⟨g, k * 67, none⟩)) rfl (by kernel_rfl) (fun _ _ _ h => h) (by rfl) (fun w' hw' => ?_) hHeld ?_
        · go_simp <;> rfl
        try simp only [Act.put, qT, q0, qS]
        refine qzI 6 ⟨some 24, .fieldAddr 140 (.tmp 23) 0, 0, _, #[⟨5, .data⟩], none⟩ (.pointer (some ⟨g, k * 67, none⟩)) rfl (by kernel_rfl) (fun _ _ _ h => h) (by rfl) (fun w' hw' => ?_) hHeld ?_
        · go_simp <;> rfl
        try simp only [Act.put, qT, q0, qS]
        refine qzK 7 ⟨some 25, .load 138 (.tmp 24), 138, _, #[⟨6, .data⟩], none⟩ _ rfl (by kernel_rfl) (fun _ _ _ h => h) (yieldsIf_load_mid (by rfl) 138 (.tmp 24) rfl (g) (k * 67) rfl (EL) _ (fun _ h => rangeAt_below HER.out h) HUQ.out rfl HEI.out) hHeld ?_
        try simp only [Act.put, qT, q0, qS]
        refine qzK 8 ⟨some 26, .load 138 (.tmp 4), 138, _, #[], none⟩ _ rfl (by kernel_rfl) (fun _ _ _ h => h) (yieldsIf_load_mid (by rfl) 138 (.tmp 4) rfl (w.heap.size) (0) rfl (QL) _ (fun _ h => rangeAt_below HRQ.out h) HUQ.out rfl HQI.out) hHeld ?_
        try simp only [Act.put, qT, q0, qS]
        refine qzR 9 ⟨some 27, .call ⟨.value (.func 75), #[.tmp 25, .tmp 26], #[138, 138]⟩, 4, _, #[⟨7, .data⟩, ⟨8, .data⟩], none⟩ (by kernel_rfl) rfl (by rfl) (fun K hK => ?_)
        go_wp2_with fail
        refine (qsame_any (.agg EL.toArray) (.agg QL.toArray) e1 q _ (hq_below HEQ.out hHeld) (hq_below HQ1.out hHeld)).mono ?_
        rintro ex W2 ⟨rfl, hb2⟩
        rw [HD.out]
        have hHeld2 : Below w1.heap.size w1 W2 := hHeld.trans (hb2.mono hHeld.size)
        clear hb2
        refine hK.out _ _ hHeld2 (fun _ => ?_)
        clear hK K
        try simp only [Act.put, qT, q0, qS]
        refine wpAnyH_done (by kernel_rfl) ?_ _
        have HBW : Hid (Below w1.heap.size w1 W2) := hHeld2
        clear hHeld hHeld2 hcW
        go_wp2
        go_roundw
        case rel => exact ⟨k + 1, by omega, by go_num, HE2.out, HBW.out⟩
        case measure => simp [intOf]; omega
    · have : k = l.length := by omega
      subst this
      rw [List.drop_length] at hfk
      exact absurd hfk (by simp [fndA])
end Go.Proofs.YtekbppfocnbhbaaGreat.R5
