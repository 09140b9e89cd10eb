import Derived.Test.YtekbppfocnbhbaaGreatQs
import Derived.Test.YtekbppfocnbhbaaGreatRs
import Derived.Test.YtekbppfocnbhbaaGreatXW
import Derived.Deep.CutRange
set_option linter.unusedVariables false
set_option linter.unusedSimpArgs false
set_option maxHeartbeats 16000000
set_option maxRecDepth 100000
namespace Go.Proofs.YtekbppfocnbhbaaGreat.XC
open Go.RowKit
theorem KX.put {og xb mo mb last cb : Nat} {X : World} {l : List En} {v : Value} (h : KX og xb mo mb last X l) (hrow : X.heap[cb]? = some (.cells #[.pointer none] 26 (0, 0))) : KX og xb mo mb last (X.setCell ⟨cb, 0, none⟩ v) l := by
  have h0 : X.cell? ⟨cb, 0, none⟩ = some (.pointer none) := by rw [cell_of_row _ _ 0 _ _ _ hrow]; rfl
  have h35 : X.cell? ⟨cb, 35, none⟩ = none := by rw [cell_of_row _ _ 35 _ _ _ hrow]; rfl
  obtain ⟨es, ck, hm, _⟩ := h.map.ex
  have h1 : og ≠ cb := fun e => by have := h.oc; rw [e, h35] at this; cases this
  have h2 : xb ≠ cb := fun e => by have := h.row; rw [e, hrow] at this; cases this
  have h3 : mb ≠ cb := fun e => by rw [e, hrow] at hm; cases hm
  have hk : ∀ k, k ≠ cb → (X.setCell ⟨cb, 0, none⟩ v).heap[k]? = X.heap[k]? := fun k hk => heap_setCell_other _ _ _ _ hk
  refine ⟨(hk xb h2).trans h.row, (World.cell?_of_block (a := ⟨og, 35, none⟩) (hk og h1)).trans h.oc, h.map.keep (hk mb h3), fun x hx => ⟨(h.ok x hx).1, (h.ok x hx).2.1, ?_⟩⟩
  rcases (h.ok x hx).2.2 with e | ⟨g, cap, hv, hc⟩
  · exact .inl e
  · refine .inr ⟨g, cap, hv, fun j u hu => ?_⟩
    have hg : g ≠ cb := fun e => by
      generalize x.2.1.log = lg at hc hu
      cases lg with
      | nil => simp [lgC] at hu
      | cons y ys =>
        have h4 := hc 0 (.int .i64 y.kind) rfl
        rw [e, h0] at h4
        cases h4
    exact (World.cell?_of_block (a := ⟨g, j, none⟩) (hk g hg)).trans (hc j u hu)
theorem kc_mk {N0 cb og2 xb2 mo2 mb2 last B : Nat} {sl : List (Int × Rm)} {l2 : List En} {X : World} (hkx : KX og2 xb2 mo2 mb2 last X l2) (hrow : X.heap[cb]? = some (.cells #[.pointer none] 26 (0, 0))) (hcb : N0 ≤ cb) (hog : N0 ≤ og2) (hB : N0 ≤ B) (hx : B ≤ xb2) (hm : B ≤ mb2) (hl : ∀ x ∈ l2, ∀ k, x.2.2.ownBlock = some k → B ≤ k) (hmem : ∀ z r, (z, r) ∈ sl → ∃ lv, (z, r, lv) ∈ l2) :
    KC N0 cb sl og2 xb2 mo2 mb2 last l2 (X.setCell ⟨cb, 0, none⟩ (.pointer (some ⟨xb2, 0, none⟩))) :=
  ⟨xl_cell (by rw [heap_setCell_same _ _ 0 _ _ _ hrow]; rfl), hkx.put hrow, ⟨hog, by omega, by omega, fun x hx k e => by have := hl x hx k e; omega⟩, hcb, hmem⟩
theorem apart_walk (v1 v2 : Value) (ls1 ls2 : List Ac) (w : World) (hl1 : ls1.length ≤ 30) (hl2 : ls2.length ≤ 30) (hA1 : HAc w v1 ls1) (hA2 : HAc w v2 ls2) :
    Calls Tryz.prog 5 #[v1, v2] w fun e w' => e = .returned (.bool true) ∧ Below w.heap.size w w' := by
  obtain ⟨w0, hw0⟩ : ∃ w0, w0 = w.alloc (.cells #[.bool false] 4 (0, 0)) := ⟨_, rfl⟩
  have hb0 : Below w.heap.size w w0 := by rw [hw0]; exact (Below.refl _ _).alloc (Nat.le_refl _) _
  have hs0 : w0.heap.size = w.heap.size + 1 := by rw [hw0]; simp
  have hr0 : w0.heap[w.heap.size]? = some (.cells #[.bool false] 4 (0, 0)) := by rw [hw0]; exact heap_alloc_new _ _
  obtain ⟨p1, cap1, rfl, hls1⟩ := hA1.below hb0
  obtain ⟨p2, cap2, rfl, hls2⟩ := hA2.below hb0
  have HLS1 : Hid _ := hls1
  have HLS2 : Hid _ := hls2
  have HBG : Hid (Calls Tryz.prog 9 #[.slice none 0 0] w0 fun e Y => BgEnd w0 [] e Y) := begin_any none 0 0 [] w0 (fun _ => rfl) (by simp) ⟨fun d hd => (List.not_mem_nil hd).elim, none, 0, rfl, fun i hi => by simp at hi⟩
  have HB0 : Hid _ := hb0
  have HS0 : Hid _ := hs0
  have HR0 : Hid _ := hr0
  have hz := fun W => zero_rm W
  obtain ⟨ZL, hZL⟩ : ∃ L, L = rmL zR (.slice none 0 0) := ⟨_, rfl⟩
  rw [← hZL] at hz
  have HZS : Hid (ZL.toArray.size = 103) := by show _ = _; rw [hZL]; simpa using rmL_len zR_ok _
  have hlI : ¬ ((30 : Int) < (ls1.length : Int)) := by omega
  have hdI : ¬ ((30 : Int) < (ls2.length : Int)) := by omega
  have hzp : ∀ W, (zeroValue 29).run Tryz.prog W = .ok (.agg #[.pointer none, .pointer none, .pointer none]) W := fun W => by kernel_rfl
  clear hls1 hls2 hA1 hA2 hZL hb0 hs0 hr0
  refine R5.calls_marks Tryz.func5 rfl ?_
  simp only [Tryz.ntmps5, List.size_toArray, List.length_cons, List.length_nil, Nat.reduceAdd, Nat.reduceSub, Array.replicate_succ, Array.replicate_zero, List.push_toArray, List.append_toArray, List.nil_append, List.cons_append]
  go_wp2_with fail
  rw [← hw0]
  refine Calls.mono HBG.out ?_
  rintro e X0 ⟨c, rb, tn, I0, rfl, hcw, hcm, hcD, hJR⟩
  obtain ⟨X2, hX2⟩ : ∃ X2, X2 = X0.alloc (.cells #[.pointer (some ⟨c.og, 0, none⟩), .pointer (some ⟨c.xb, 0, none⟩), .pointer (some ⟨rb, 0, none⟩)] 29 (0, 0)) := ⟨_, rfl⟩
  have HT0 : Hid (ST w0 c rb ⟨[], 0, []⟩ (fun k => k = X0.heap.size ∨ (Value.slice none 0 0).ownBlock = some k) X0.heap.size (.slice none 0 0) [] X2) := st_start hcw hcD.2 hJR rfl hX2
  have HX2 : Hid _ := hX2
  clear hcw hcm hcD hJR HBG hX2
  go_upto_region 4 with fail
  rw [← HX2.out]
  generalize X0.heap.size = pb at *
  clear HX2 hw0
  go_wp2
  go_loopw [6] (fun i wr => ∃ (k : Nat) (s : Am), k ≤ ls1.length ∧ i = .int .i64 k ∧ ST w0 c rb s (fun k => k = pb ∨ (Value.slice none 0 0).ownBlock = some k) pb (.slice none 0 0) [] wr ∧ Bd k s ∧ PI s) (fun i _ => ls1.length - (intOf i).toNat)
  case atStart => exact ⟨0, _, Nat.zero_le _, rfl, HT0.out, bd_start, pi_start⟩
  case round =>
    clear HT0
    obtain ⟨k, s, hk, rfl, hST, hBd, hPI⟩ := hrel
    generalize wr = W at *
    obtain ⟨CP, hCP⟩ : ∃ CP : Nat → Prop, CP = (fun k => k = pb ∨ (Value.slice none 0 0).ownBlock = some k) := ⟨_, rfl⟩
    rw [← hCP] at hST ⊢
    have HCP : Hid (CP pb ∧ ∀ k, (Value.slice none 0 0).ownBlock = some k → CP k) := ⟨by rw [hCP]; exact .inl rfl, fun k e => by rw [hCP]; exact .inr e⟩
    clear hCP
    have HT : Hid (ST w0 c rb s CP pb (.slice none 0 0) [] W) := hST
    have HBD : Hid (Bd k s) := hBd
    have HPI : Hid (PI s) := hPI
    clear hST hBd hPI
    by_cases hlt : k < ls1.length
    · have hkI : (k : Int) < (ls1.length : Int) := by omega
      obtain ⟨ac, hac⟩ : ∃ ac, ls1[k]? = some ac := ⟨_, List.getElem?_eq_getElem hlt⟩
      obtain ⟨hok, g, o, rfl, hra⟩ := HLS1.out k ac hac
      have HRA : Hid (w0.rangeAt g (o + k * 207) (acL ac)) := hra
      have hT1 : ST w0 c rb s CP pb (.slice none 0 0) [] W.drew := HT.out.step (Below.refl _ _).drew
      have HDO : Hid _ := do_any hT1.ja HBD.out (by omega) hok
      have HT1 : Hid _ := hT1
      have HSA : Hid (∀ (X : World) (s0 : Am), ST w0 c rb s0 CP pb (.slice none 0 0) [] X → SA c rb pb g (o + k * 207) (acL ac) X) := fun X s h => h.sa HRA.out
      obtain ⟨kd, hkd⟩ : ∃ kd, kd = ac.kind := ⟨_, rfl⟩
      have hAN := acL_len hok
      rw [← hkd] at HDO
      obtain ⟨AL, hAL⟩ : ∃ AL, AL = acL ac := ⟨_, rfl⟩
      rw [← hAL] at HDO HSA hAN
      have HAI : Hid ((Tryz.prog.info? 43).map (·.size) = some AL.length) := by show _ = _; rw [hAN]; kernel_rfl
      obtain ⟨PL, hPL⟩ : ∃ PL, PL = prL c rb := ⟨_, rfl⟩
      rw [← hPL] at HDO
      have HPJ : Hid ((Tryz.prog.info? 29).map (·.size) = some PL.length) := by rw [hPL]; show _ = _; kernel_rfl
      have HPL : Hid (PL = prL c rb) := hPL
      clear hkd hAN hAL hPL hT1 HT hok hra
      go_upto_region 7 with fail
      refine wp_only ?_
      refine wp_region_held_drew (S := SA c rb pb g (o + k * 207) AL) (by kernel_rfl) (HSA.out _ _ HT1.out) (fun hHeld => ?_)
      generalize W.drew = W6 at *
      refine qzK 0 ⟨some 33, .load 29 (.tmp 5), 29, _, #[], none⟩ _ rfl (by kernel_rfl) (fun _ _ _ h => h) (yieldsIf_load_mid (by rfl) 29 (.tmp 5) rfl (pb) (0) rfl (PL) _ (fun _ h => (by rw [HPL.out]; exact PC.rangeAt_row h.pr)) Tryz.underlying29 rfl HPJ.out) hHeld ?_
      try simp only [Act.put, qT, q0, qS]
      refine qzI 1 ⟨some 34, .move (.tmp 0), 23, _, #[], none⟩ (.slice (some ⟨g, o, none⟩) ls1.length cap1) rfl (by kernel_rfl) (fun _ _ _ h => h) (by rfl) (fun w' hw' => ?_) hHeld ?_
      · go_simp <;> rfl
      try simp only [Act.put, qT, q0, qS]
      refine qzI 2 ⟨some 35, .move (.tmp 6), 3, _, #[], none⟩ (.int .i64 k) rfl (by kernel_rfl) (fun _ _ _ h => h) (by rfl) (fun w' hw' => ?_) hHeld ?_
      · go_simp <;> rfl
      try simp only [Act.put, qT, q0, qS]
      refine qzI 3 ⟨some 36, .indexAddr 23 (.tmp 34) (.tmp 35), 0, _, #[⟨1, .data⟩, ⟨2, .data⟩], none⟩ (.pointer (some ⟨g, o + k * 207, none⟩)) rfl (by kernel_rfl) (fun _ _ _ h => h) (by rfl) (fun w' hw' => ?_) hHeld ?_
      · first | (go_simp; done) | (go_simp; rfl) | (go_simp; intro hbad; omega)
      try simp only [Act.put, qT, q0, qS]
      refine qzK 4 ⟨some 37, .load 43 (.tmp 36), 43, _, #[⟨3, .data⟩], none⟩ _ rfl (by kernel_rfl) (fun _ _ _ h => h) (yieldsIf_load_mid (by rfl) 43 (.tmp 36) rfl (g) (o + k * 207) rfl (AL) _ (fun _ h => h.ra) Tryz.underlying43 rfl HAI.out) hHeld ?_
      try simp only [Act.put, qT, q0, qS]
      refine qzR 5 ⟨some 38, .call ⟨.value (.func 10), #[.tmp 33, .tmp 37], #[29, 43]⟩, 4, _, #[⟨0, .data⟩, ⟨4, .data⟩], none⟩ (by kernel_rfl) rfl (by rfl) (fun K hK => ?_)
      go_wp2_with fail
      refine Calls.mono HDO.out ?_
      rintro e W7 ⟨rfl, s', hat, hJA, hfr⟩
      have HT2 : Hid (ST w0 c rb s' CP pb (.slice none 0 0) [] W7) := HT1.out.call hJA hfr
      have HBD2 : Hid (Bd _ s') := HBD.out.step hat
      have HPI2 : Hid (PI s') := HPI.out.step hat
      have HFR : Hid (∀ j, CP j → W7.heap[j]? = W6.heap[j]?) := hfr
      clear hHeld hJA hfr hat HBD HPI HDO HT1
      have hHeld := HSA.out _ _ HT2.out
      refine hK.out _ _ hHeld (fun _ => ?_)
      clear hK K
      try simp only [Act.put, qT, q0, qS]
      refine qzI 6 ⟨some 39, .unOp .not 4 (.tmp 38), 4, _, #[⟨5, .data⟩], none⟩ (.bool false) rfl (by kernel_rfl) (fun _ _ _ h => h) (by rfl) (fun w' hw' => ?_) hHeld ?_
      · go_simp <;> rfl
      try simp only [Act.put, qT, q0, qS]
      refine wpAnyH_done (by kernel_rfl) ?_ _
      clear hHeld HSA HAI HPJ HPL
      go_wp2
      go_roundw
      case rel => exact ⟨k + 1, s', by omega, by go_num, HT2.out, HBD2.out, HPI2.out⟩
      case measure => simp [intOf]; omega
    · have hke : k = ls1.length := by omega
      subst hke
      clear HLS1 hlI
      have hT1 : ST w0 c rb s CP pb (.slice none 0 0) [] W.drew := HT.out.step (Below.refl _ _).drew
      have HPC : Hid (∀ V, Below W.drew.heap.size W.drew V → Calls Tryz.prog 20 #[.pointer (some ⟨c.og, 0, none⟩)] V fun e Y => PCE V e Y) := fun V hb => (hT1.step hb).ja.pcopy HBD.out (by omega)
      have HRC : Hid (∀ V og2 mo2, Below W.drew.heap.size W.drew V → V.cell? ⟨og2, 35, none⟩ = some (.map (some mo2)) → Calls Tryz.prog 19 #[.pointer (some ⟨c.xb, 0, none⟩), .pointer (some ⟨og2, 0, none⟩)] V fun e Y => RCE V s.l s.last og2 mo2 e Y) := fun V og2 mo2 hb ho => (hT1.step hb).ja.rcopy HBD.out (by omega) ho
      have HC9 : Hid (∀ V, Below W.drew.heap.size W.drew V → V.cell? ⟨pb, 1, none⟩ = some (.pointer (some ⟨c.xb, 0, none⟩)) ∧ V.cell? ⟨pb, 0, none⟩ = some (.pointer (some ⟨c.og, 0, none⟩))) := fun V hb => by
        have hp := (hT1.step hb).pr
        exact ⟨by rw [cell_of_row _ _ 1 _ _ _ hp]; rfl, by rw [cell_of_row _ _ 0 _ _ _ hp]; rfl⟩
      have HT1 : Hid _ := hT1
      clear hT1 HT
      go_upto_region 9 with fail
      go_cut [7] from 40 to 45 (fun px X => ∃ cb og2 xb2 mo2 mb2 l2, px = .pointer (some ⟨cb, 0, none⟩) ∧ KC W.drew.heap.size cb s.l og2 xb2 mo2 mb2 s.last l2 X ∧ Below W.drew.heap.size W.drew X)
      case first =>
        clear HT1 HBD HPI HCP HLS2
        refine wp_only ?_
        refine wp_region_held_drew (S := Below W.drew.heap.size W.drew) (by kernel_rfl) (Below.refl _ _) (fun hHeld => ?_)
        generalize W.drew = W6 at *
        refine qzI 0 ⟨some 40, .fieldAddr 29 (.tmp 5) 1, 0, _, #[], none⟩ (.pointer (some ⟨pb, 1, none⟩)) rfl (by kernel_rfl) (fun _ _ _ h => h) (by rfl) (fun w' hw' => ?_) hHeld ?_
        · go_simp <;> rfl
        try simp only [Act.put, qT, q0, qS]
        refine qzI 1 ⟨some 41, .load 26 (.tmp 40), 26, _, #[⟨0, .data⟩], none⟩ (.pointer (some ⟨c.xb, 0, none⟩)) rfl (by kernel_rfl) (fun _ _ _ h => h) (by rfl) (fun w' hw' => ?_) hHeld ?_
        · have hcc := (HC9.out _ hw').1; go_simp <;> rfl
        try simp only [Act.put, qT, q0, qS]
        refine qzI 2 ⟨some 42, .fieldAddr 29 (.tmp 5) 0, 0, _, #[], none⟩ (.pointer (some ⟨pb, 0, none⟩)) rfl (by kernel_rfl) (fun _ _ _ h => h) (by rfl) (fun w' hw' => ?_) hHeld ?_
        · go_simp <;> rfl
        try simp only [Act.put, qT, q0, qS]
        refine qzI 3 ⟨some 43, .load 25 (.tmp 42), 25, _, #[⟨2, .data⟩], none⟩ (.pointer (some ⟨c.og, 0, none⟩)) rfl (by kernel_rfl) (fun _ _ _ h => h) (by rfl) (fun w' hw' => ?_) hHeld ?_
        · have hcc := (HC9.out _ hw').2; go_simp <;> rfl
        try simp only [Act.put, qT, q0, qS]
        clear HC9
        refine wpAnyH_ready (rs := [4, 6]) (by kernel_rfl) (by simp) ?_
        refine AllReadyH.cons (o := ⟨some 44, .call ⟨.value (.func 20), #[.tmp 43], #[25]⟩, 25, _, #[⟨3, .data⟩], none⟩) rfl (fun K hK => ?_) (AllReadyH.cons (o := ⟨some 7, .alloc 26, 0, _, #[], none⟩) rfl (fun K hK => ?_) AllReadyH.nil)
        all_goals rw [if_pos (by rfl)]
        · skip
          go_wp2_with fail
          refine Calls.mono (HPC.out _ hHeld) ?_
          rintro e W1 ⟨og2, mo2, rfl, ho, hog, hb1⟩
          have hB1 : Below W6.heap.size W6 W1 := hHeld.trans (hb1.mono hHeld.size)
          have hs1 := hB1.size
          clear hHeld hb1
          refine hK.out _ _ hB1 (fun _ => ?_)
          clear hK K
          try simp only [Act.put, qT, q0, qS]
          refine wpAnyH_ready (rs := [5, 6]) (by kernel_rfl) (by simp) ?_
          refine AllReadyH.cons (o := ⟨some 45, .call ⟨.value (.func 19), #[.tmp 41, .tmp 44], #[26, 25]⟩, 26, _, #[⟨1, .data⟩, ⟨4, .data⟩, ⟨4, .chain⟩], none⟩) rfl (fun K hK => ?_) (AllReadyH.cons (o := ⟨some 7, .alloc 26, 0, _, #[], none⟩) rfl (fun K hK => ?_) AllReadyH.nil)
          all_goals rw [if_pos (by rfl)]
          · skip
            go_wp2_with fail
            refine Calls.mono (HRC.out W1 og2 mo2 hB1 ho) ?_
            rintro e W2 ⟨xb2, mb2, l2, rfl, hkx, hx, hm, hf, hmem, hb2⟩
            have hB2 : Below W6.heap.size W6 W2 := hB1.trans (hb2.mono hs1)
            have hs2 := hb2.size
            clear hb2 hB1
            refine hK.out _ _ hB2 (fun _ => ?_)
            clear hK K
            try simp only [Act.put, qT, q0, qS]
            refine qzR 6 ⟨some 7, .alloc 26, 0, _, #[], none⟩ (by kernel_rfl) rfl (by rfl) (fun K hK => ?_)
            go_wp2_with fail
            obtain ⟨W3, hW3⟩ : ∃ W, W = W2.alloc (.cells #[.pointer none] 26 (0, 0)) := ⟨_, rfl⟩
            have hB3 : Below W6.heap.size W6 W3 := by rw [hW3]; exact hB2.alloc hB2.size _
            have hrow : W3.heap[W2.heap.size]? = some (.cells #[.pointer none] 26 (0, 0)) := by rw [hW3]; exact heap_alloc_new _ _
            have hkx3 : KX og2 xb2 mo2 mb2 s.last W3 l2 := by rw [hW3]; exact hkx.step ((Below.refl _ _).alloc (Nat.le_refl _) _)
            have hcb : W6.heap.size ≤ W2.heap.size := by omega
            rw [← hW3]
            clear hW3 hkx hB2 hs2
            generalize W2.heap.size = cb at *
            have hKC := kc_mk (N0 := W6.heap.size) (sl := s.l) hkx3 hrow hcb (by omega) hs1 hx hm hf hmem
            clear hkx3 hx hm hf hmem
            refine hK.out _ _ hB3 (fun _ => ?_)
            clear hK K
            try simp only [Act.put, qT, q0, qS]
            have hc7 : W3.cell? ⟨cb, 0, none⟩ = some (.pointer none) := by rw [cell_of_row _ _ 0 _ _ _ hrow]; rfl
            have hf7 : W3.frozen? ⟨cb, 0, none⟩ = false := frozen_of_row _ _ 0 _ _ hrow
            have hBE : Below W6.heap.size W6 (W3.setCell ⟨cb, 0, none⟩ (.pointer (some ⟨xb2, 0, none⟩))) := hB3.setCell (p := ⟨cb, 0, none⟩) hcb _
            refine qzR 7 ⟨none, .store 26 (.tmp 7) (.tmp 45), 0, _, #[⟨6, .data⟩, ⟨5, .data⟩, ⟨5, .chain⟩, ⟨0, .phase⟩, ⟨1, .phase⟩, ⟨2, .phase⟩, ⟨3, .phase⟩, ⟨4, .phase⟩, ⟨5, .phase⟩, ⟨6, .phase⟩], none⟩ (by kernel_rfl) rfl (by rfl) (fun K hK => ?_)
            go_wp2_with fail
            refine hK.out _ _ hBE (fun _ => ?_)
            clear hK K
            try simp only [Act.put, qT, q0, qS]
            refine wpAnyH_done (by kernel_rfl) ?_ _
            go_wp2_with fail
            go_meet
            case rel => exact ⟨_, _, _, _, _, _, rfl, hKC, hBE⟩
          · skip
            go_wp2_with fail
            obtain ⟨W3, hW3⟩ : ∃ W, W = W1.alloc (.cells #[.pointer none] 26 (0, 0)) := ⟨_, rfl⟩
            have hB4 : Below W6.heap.size W6 W3 := by rw [hW3]; exact hB1.alloc hs1 _
            have hrow3 : W3.heap[W1.heap.size]? = some (.cells #[.pointer none] 26 (0, 0)) := by rw [hW3]; exact heap_alloc_new _ _
            have ho3 : W3.cell? ⟨og2, 35, none⟩ = some (.map (some mo2)) := by rw [hW3]; exact (((Below.refl _ W1).alloc (Nat.le_refl _) _).cell (p := ⟨og2, 35, none⟩) (cell_lt ho)).trans ho
            have hcb : W6.heap.size ≤ W1.heap.size := hs1
            rw [← hW3]
            clear hW3 ho hB1
            generalize W1.heap.size = cb at *
            refine hK.out _ _ hB4 (fun _ => ?_)
            clear hK K
            try simp only [Act.put, qT, q0, qS]
            refine qzR 5 ⟨some 45, .call ⟨.value (.func 19), #[.tmp 41, .tmp 44], #[26, 25]⟩, 26, _, #[⟨1, .data⟩, ⟨4, .data⟩, ⟨4, .chain⟩], none⟩ (by kernel_rfl) rfl (by rfl) (fun K hK => ?_)
            go_wp2_with fail
            refine Calls.mono (HRC.out W3 og2 mo2 hB4 ho3) ?_
            rintro e W2 ⟨xb2, mb2, l2, rfl, hkx, hx, hm, hf, hmem, hb2⟩
            have hB3 : Below W6.heap.size W6 W2 := hB4.trans (hb2.mono hB4.size)
            have hrow : W2.heap[cb]? = some (.cells #[.pointer none] 26 (0, 0)) := (hb2.block _ (PC.row_lt hrow3)).trans hrow3
            have hKC := kc_mk (N0 := W6.heap.size) (sl := s.l) hkx hrow hcb (by omega) hB4.size hx hm hf hmem
            clear hkx hx hm hf hmem hb2 hB4 hrow3 ho3
            generalize W2 = W3 at *
            refine hK.out _ _ hB3 (fun _ => ?_)
            clear hK K
            try simp only [Act.put, qT, q0, qS]
            have hc7 : W3.cell? ⟨cb, 0, none⟩ = some (.pointer none) := by rw [cell_of_row _ _ 0 _ _ _ hrow]; rfl
            have hf7 : W3.frozen? ⟨cb, 0, none⟩ = false := frozen_of_row _ _ 0 _ _ hrow
            have hBE : Below W6.heap.size W6 (W3.setCell ⟨cb, 0, none⟩ (.pointer (some ⟨xb2, 0, none⟩))) := hB3.setCell (p := ⟨cb, 0, none⟩) hcb _
            refine qzR 7 ⟨none, .store 26 (.tmp 7) (.tmp 45), 0, _, #[⟨6, .data⟩, ⟨5, .data⟩, ⟨5, .chain⟩, ⟨0, .phase⟩, ⟨1, .phase⟩, ⟨2, .phase⟩, ⟨3, .phase⟩, ⟨4, .phase⟩, ⟨5, .phase⟩, ⟨6, .phase⟩], none⟩ (by kernel_rfl) rfl (by rfl) (fun K hK => ?_)
            go_wp2_with fail
            refine hK.out _ _ hBE (fun _ => ?_)
            clear hK K
            try simp only [Act.put, qT, q0, qS]
            refine wpAnyH_done (by kernel_rfl) ?_ _
            go_wp2_with fail
            go_meet
            case rel => exact ⟨_, _, _, _, _, _, rfl, hKC, hBE⟩
        · skip
          go_wp2_with fail
          obtain ⟨W0, hW0⟩ : ∃ W, W = W6.alloc (.cells #[.pointer none] 26 (0, 0)) := ⟨_, rfl⟩
          have hB0 : Below W6.heap.size W6 W0 := by rw [hW0]; exact (Below.refl _ _).alloc (Nat.le_refl _) _
          have hrow0 : W0.heap[W6.heap.size]? = some (.cells #[.pointer none] 26 (0, 0)) := by rw [hW0]; exact heap_alloc_new _ _
          rw [← hW0]
          clear hW0 hHeld
          obtain ⟨cb, hcbe⟩ : ∃ cb, cb = W6.heap.size := ⟨_, rfl⟩
          have hrow1 : W0.heap[cb]? = some (.cells #[.pointer none] 26 (0, 0)) := by rw [hcbe]; exact hrow0
          have hcb : W6.heap.size ≤ cb := by omega
          rw [← hcbe]
          clear hrow0 hcbe
          refine hK.out _ _ hB0 (fun _ => ?_)
          clear hK K
          try simp only [Act.put, qT, q0, qS]
          refine qzR 4 ⟨some 44, .call ⟨.value (.func 20), #[.tmp 43], #[25]⟩, 25, _, #[⟨3, .data⟩], none⟩ (by kernel_rfl) rfl (by rfl) (fun K hK => ?_)
          go_wp2_with fail
          refine Calls.mono (HPC.out _ hB0) ?_
          rintro e W1 ⟨og2, mo2, rfl, ho, hog, hb1⟩
          have hB1 : Below W6.heap.size W6 W1 := hB0.trans (hb1.mono hB0.size)
          have hrow2 : W1.heap[cb]? = some (.cells #[.pointer none] 26 (0, 0)) := (hb1.block _ (PC.row_lt hrow1)).trans hrow1
          have hog6 : W6.heap.size ≤ og2 := by have := hB0.size; omega
          clear hb1 hB0 hrow1 hog
          refine hK.out _ _ hB1 (fun _ => ?_)
          clear hK K
          try simp only [Act.put, qT, q0, qS]
          refine qzR 5 ⟨some 45, .call ⟨.value (.func 19), #[.tmp 41, .tmp 44], #[26, 25]⟩, 26, _, #[⟨1, .data⟩, ⟨4, .data⟩, ⟨4, .chain⟩], none⟩ (by kernel_rfl) rfl (by rfl) (fun K hK => ?_)
          go_wp2_with fail
          refine Calls.mono (HRC.out W1 og2 mo2 hB1 ho) ?_
          rintro e W3 ⟨xb2, mb2, l2, rfl, hkx, hx, hm, hf, hmem, hb2⟩
          have hB3 : Below W6.heap.size W6 W3 := hB1.trans (hb2.mono hB1.size)
          have hrow : W3.heap[cb]? = some (.cells #[.pointer none] 26 (0, 0)) := (hb2.block _ (PC.row_lt hrow2)).trans hrow2
          have hKC := kc_mk (N0 := W6.heap.size) (sl := s.l) hkx hrow hcb hog6 hB1.size hx hm hf hmem
          clear hkx hx hm hf hmem hb2 hB1 hrow2 ho
          refine hK.out _ _ hB3 (fun _ => ?_)
          clear hK K
          try simp only [Act.put, qT, q0, qS]
          have hc7 : W3.cell? ⟨cb, 0, none⟩ = some (.pointer none) := by rw [cell_of_row _ _ 0 _ _ _ hrow]; rfl
          have hf7 : W3.frozen? ⟨cb, 0, none⟩ = false := frozen_of_row _ _ 0 _ _ hrow
          have hBE : Below W6.heap.size W6 (W3.setCell ⟨cb, 0, none⟩ (.pointer (some ⟨xb2, 0, none⟩))) := hB3.setCell (p := ⟨cb, 0, none⟩) hcb _
          refine qzR 7 ⟨none, .store 26 (.tmp 7) (.tmp 45), 0, _, #[⟨6, .data⟩, ⟨5, .data⟩, ⟨5, .chain⟩, ⟨0, .phase⟩, ⟨1, .phase⟩, ⟨2, .phase⟩, ⟨3, .phase⟩, ⟨4, .phase⟩, ⟨5, .phase⟩, ⟨6, .phase⟩], none⟩ (by kernel_rfl) rfl (by rfl) (fun K hK => ?_)
          go_wp2_with fail
          refine hK.out _ _ hBE (fun _ => ?_)
          clear hK K
          try simp only [Act.put, qT, q0, qS]
          refine wpAnyH_done (by kernel_rfl) ?_ _
          go_wp2_with fail
          go_meet
          case rel => exact ⟨_, _, _, _, _, _, rfl, hKC, hBE⟩
      case rest =>
        clear HPC HRC HC9
        obtain ⟨cb, og2, xb2, mo2, mb2, l2, rfl, hKC, hB9⟩ := hcut
        generalize wc = X9 at *
        obtain ⟨N0, hN0⟩ : ∃ n, n = W.drew.heap.size := ⟨_, rfl⟩
        rw [← hN0] at hKC
        have hN9 : N0 ≤ X9.heap.size := by rw [hN0]; exact hB9.size
        have HN9 : Hid _ := hN9
        have HKC9 : Hid (KC N0 cb s.l og2 xb2 mo2 mb2 s.last l2 X9) := hKC
        have HT9 : Hid (ST w0 c rb s (fun k => CP k ∨ (N0 ≤ k ∧ k < X9.heap.size)) pb (.slice none 0 0) [] X9) := HT1.out.new hB9 (fun k hk => by rw [← hN0]; exact hk)
        have HPX : Hid (∀ V, Below X9.heap.size X9 V → V.cell? ⟨pb, 1, none⟩ = some (.pointer (some ⟨c.xb, 0, none⟩))) := fun V hb => by
          have hp := (HT9.out.step hb).pr
          rw [cell_of_row _ _ 1 _ _ _ hp]; rfl
        have HCN : Hid _ := HT9.out.ja.copyNil
        have hc7 := HKC9.out.cell
        have hc1 := HPX.out X9 (Below.refl _ _)
        clear hKC hB9 hN0 hN9 HT1
        go_wp2_with fail
        refine Calls.mono HCN.out ?_
        rintro e X10 ⟨rfl, hb10⟩
        have HB10 : Hid _ := hb10
        have HKC10 : Hid _ := HKC9.out.step hb10
        obtain ⟨C1, hC1⟩ : ∃ C1 : Nat → Prop, C1 = (fun k => CP k ∨ (N0 ≤ k ∧ k < X10.heap.size)) := ⟨_, rfl⟩
        have HT10 : Hid (ST w0 c rb s C1 pb (.slice none 0 0) [] X10) := by
          rw [hC1]
          refine (HT9.out.new hb10 (C2 := fun k => X9.heap.size ≤ k ∧ k < X10.heap.size) (fun k hk => hk)).sub (fun k hk => ?_) (.inl HCP.out.1) (fun k e => .inl (HCP.out.2 k e))
          rcases hk with hk | hk
          · exact .inl (.inl hk)
          · by_cases h : k < X9.heap.size
            · exact .inl (.inr ⟨hk.1, h⟩)
            · exact .inr ⟨by omega, hk.2⟩
        have HC1 : Hid (∀ j, CP j ∨ (N0 ≤ j ∧ j < X10.heap.size) → C1 j) := fun j hj => by rw [hC1]; exact hj
        obtain ⟨c', l, hAF⟩ := HT10.out.ja.all2 HBD.out (by omega)
        have HAF : Hid (AF c c' rb s C1 X10 l) := hAF
        have hc2 := HPX.out X10 hb10
        have HN10 : Hid (N0 ≤ X9.heap.size ∧ X9.heap.size ≤ X10.heap.size) := ⟨HN9.out, hb10.size⟩
        clear hb10 hc1 hc7 HCN HPX hAF hC1 HT9 HKC9
        go_wp2_with fail
        refine Calls.mono HAF.out.all ?_
        rintro e X11 ⟨kb, nb, nw, cap, p, ks, rfl, hAS, hperm, hsort⟩
        have HAS : Hid (AS X10 X11 kb nb nw cap p l ks) := hAS
        have HPM : Hid (List.Perm ks (l.map (·.1))) := hperm
        have HKC11 : Hid (KC N0 cb s.l og2 xb2 mo2 mb2 s.last l2 X11) := HKC10.out.step hAS.bel
        obtain ⟨C2, hC2⟩ : ∃ C2 : Nat → Prop, C2 = (fun k => CP k ∨ (N0 ≤ k ∧ k < X11.heap.size)) := ⟨_, rfl⟩
        have HC2 : Hid (C2 pb ∧ ∀ j, N0 ≤ j → j < X11.heap.size → C2 j) := ⟨by rw [hC2]; exact .inl HCP.out.1, fun j h1 h2 => by rw [hC2]; exact .inr ⟨h1, h2⟩⟩
        have HT11 : Hid (ST w0 c' rb s C2 pb (.slice none 0 0) [] X11) := by
          have h1 := ST.new (HT10.out.to HAF.out.w HAF.out.n HAF.out.pr HAF.out.ja) (C2 := fun k => X10.heap.size ≤ k ∧ k < X11.heap.size) hAS.bel (fun k hk => hk)
          rw [hC2]
          refine h1.sub (fun k hk => ?_) (.inl HCP.out.1) (fun k e => .inl (HCP.out.2 k e))
          rcases hk with hk | hk
          · exact .inl (HC1.out k (.inl hk))
          · by_cases h : k < X10.heap.size
            · exact .inl (HC1.out k (.inr ⟨hk.1, h⟩))
            · exact .inr ⟨by omega, hk.2⟩
        have HBD0 : Hid (Bd ls1.length s) := HBD.out
        have HPI0 : Hid (PI s) := HPI.out
        clear hAS hperm hsort hc2 HT10 HKC10 HC1 HCP hC2
        go_wp2
        go_loopw [9] (fun i wr => ∃ (k : Nat) (s2 : Am), k ≤ ls2.length ∧ i = .int .i64 k ∧ ST w0 c' rb s2 C2 pb (.slice none 0 0) [] wr ∧ Bd (ls1.length + k) s2 ∧ PI s2 ∧ ∀ j, N0 ≤ j → j < X11.heap.size → wr.heap[j]? = X11.heap[j]?) (fun i _ => ls2.length - (intOf i).toNat)
        case atStart => exact ⟨0, _, Nat.zero_le _, rfl, HT11.out, HBD0.out, HPI0.out, fun j _ _ => rfl⟩
        case round =>
          clear HT11 HBD0 HPI0 HBD HPI
          obtain ⟨k, s2, hk, rfl, hST, hBd, hPI, hEQ⟩ := hrel
          generalize wr = W at *
          have HT : Hid (ST w0 c' rb s2 C2 pb (.slice none 0 0) [] W) := hST
          have HBD : Hid (Bd (ls1.length + k) s2) := hBd
          have HPI : Hid (PI s2) := hPI
          have HEQ : Hid (∀ j, N0 ≤ j → j < X11.heap.size → W.drew.heap[j]? = X11.heap[j]?) := hEQ
          clear hST hBd hPI hEQ
          by_cases hlt : k < ls2.length
          · have hkI : (k : Int) < (ls2.length : Int) := by omega
            obtain ⟨ac, hac⟩ : ∃ ac, ls2[k]? = some ac := ⟨_, List.getElem?_eq_getElem hlt⟩
            obtain ⟨hok, g, o, rfl, hra⟩ := HLS2.out k ac hac
            have HRA : Hid (w0.rangeAt g (o + k * 207) (acL ac)) := hra
            have hT1 : ST w0 c' rb s2 C2 pb (.slice none 0 0) [] W.drew := HT.out.step (Below.refl _ _).drew
            have HDO : Hid _ := do_any hT1.ja HBD.out (by omega) hok
            have HT1 : Hid _ := hT1
            have HSA : Hid (∀ (X : World) (s0 : Am), ST w0 c' rb s0 C2 pb (.slice none 0 0) [] X → SA c' rb pb g (o + k * 207) (acL ac) X) := fun X s h => h.sa HRA.out
            obtain ⟨kd, hkd⟩ : ∃ kd, kd = ac.kind := ⟨_, rfl⟩
            have hAN := acL_len hok
            rw [← hkd] at HDO
            obtain ⟨AL, hAL⟩ : ∃ AL, AL = acL ac := ⟨_, rfl⟩
            rw [← hAL] at HDO HSA hAN
            have HAI : Hid ((Tryz.prog.info? 43).map (·.size) = some AL.length) := by show _ = _; rw [hAN]; kernel_rfl
            obtain ⟨PL, hPL⟩ : ∃ PL, PL = prL c' rb := ⟨_, rfl⟩
            rw [← hPL] at HDO
            have HPJ : Hid ((Tryz.prog.info? 29).map (·.size) = some PL.length) := by rw [hPL]; show _ = _; kernel_rfl
            have HPL : Hid (PL = prL c' rb) := hPL
            clear hkd hAN hAL hPL hT1 HT hok hra
            go_upto_region 16 with fail
            refine wp_only ?_
            refine wp_region_held_drew (S := SA c' rb pb g (o + k * 207) AL) (by kernel_rfl) (HSA.out _ _ HT1.out) (fun hHeld => ?_)
            generalize W.drew = W6 at *
            refine qzK 0 ⟨some 63, .load 29 (.tmp 5), 29, _, #[], none⟩ _ rfl (by kernel_rfl) (fun _ _ _ h => h) (yieldsIf_load_mid (by rfl) 29 (.tmp 5) rfl (pb) (0) rfl (PL) _ (fun _ h => (by rw [HPL.out]; exact PC.rangeAt_row h.pr)) Tryz.underlying29 rfl HPJ.out) hHeld ?_
            try simp only [Act.put, qT, q0, qS]
            refine qzI 1 ⟨some 64, .move (.tmp 1), 23, _, #[], none⟩ (.slice (some ⟨g, o, none⟩) ls2.length cap2) rfl (by kernel_rfl) (fun _ _ _ h => h) (by rfl) (fun w' hw' => ?_) hHeld ?_
            · go_simp <;> rfl
            try simp only [Act.put, qT, q0, qS]
            refine qzI 2 ⟨some 65, .move (.tmp 9), 3, _, #[], none⟩ (.int .i64 k) rfl (by kernel_rfl) (fun _ _ _ h => h) (by rfl) (fun w' hw' => ?_) hHeld ?_
            · go_simp <;> rfl
            try simp only [Act.put, qT, q0, qS]
            refine qzI 3 ⟨some 66, .indexAddr 23 (.tmp 64) (.tmp 65), 0, _, #[⟨1, .data⟩, ⟨2, .data⟩], none⟩ (.pointer (some ⟨g, o + k * 207, none⟩)) rfl (by kernel_rfl) (fun _ _ _ h => h) (by rfl) (fun w' hw' => ?_) hHeld ?_
            · first | (go_simp; done) | (go_simp; rfl) | (go_simp; intro hbad; omega)
            try simp only [Act.put, qT, q0, qS]
            refine qzK 4 ⟨some 67, .load 43 (.tmp 66), 43, _, #[⟨3, .data⟩], none⟩ _ rfl (by kernel_rfl) (fun _ _ _ h => h) (yieldsIf_load_mid (by rfl) 43 (.tmp 66) rfl (g) (o + k * 207) rfl (AL) _ (fun _ h => h.ra) Tryz.underlying43 rfl HAI.out) hHeld ?_
            try simp only [Act.put, qT, q0, qS]
            refine qzR 5 ⟨some 68, .call ⟨.value (.func 10), #[.tmp 63, .tmp 67], #[29, 43]⟩, 4, _, #[⟨0, .data⟩, ⟨4, .data⟩], none⟩ (by kernel_rfl) rfl (by rfl) (fun K hK => ?_)
            go_wp2_with fail
            refine Calls.mono HDO.out ?_
            rintro e W7 ⟨rfl, s', hat, hJA, hfr⟩
            have HT2 : Hid (ST w0 c' rb s' C2 pb (.slice none 0 0) [] W7) := HT1.out.call hJA hfr
            have HBD2 : Hid (Bd _ s') := HBD.out.step hat
            have HPI2 : Hid (PI s') := HPI.out.step hat
            have HFR : Hid (∀ j, C2 j → W7.heap[j]? = W6.heap[j]?) := hfr
            clear hHeld hJA hfr hat HBD HPI HDO HT1
            have hHeld := HSA.out _ _ HT2.out
            refine hK.out _ _ hHeld (fun _ => ?_)
            clear hK K
            try simp only [Act.put, qT, q0, qS]
            refine qzI 6 ⟨some 69, .unOp .not 4 (.tmp 68), 4, _, #[⟨5, .data⟩], none⟩ (.bool false) rfl (by kernel_rfl) (fun _ _ _ h => h) (by rfl) (fun w' hw' => ?_) hHeld ?_
            · go_simp <;> rfl
            try simp only [Act.put, qT, q0, qS]
            refine wpAnyH_done (by kernel_rfl) ?_ _
            clear hHeld HSA HAI HPJ HPL
            go_wp2
            go_roundw
            case rel => exact ⟨k + 1, s', by omega, by go_num, HT2.out, by have := HBD2.out; rw [Nat.add_assoc] at this; exact this, HPI2.out, fun j h1 h2 => (HFR.out j (HC2.out.2 j h1 h2)).trans (HEQ.out j h1 h2)⟩
            case measure => simp [intOf]; omega
          · have hke : k = ls2.length := by omega
            subst hke
            have HKCW : Hid (KC N0 cb s.l og2 xb2 mo2 mb2 s.last l2 W) := HKC11.out.keep (fun k h1 h2 => HEQ.out k h1 h2)
            have hsX : X10.heap.size ≤ W.heap.size := by
              have h1 := HAS.out.kc
              have h2 := PC.row_lt ((HEQ.out kb (by have := HN10.out; have := HAS.out.lo; omega) (PC.row_lt h1)).trans h1)
              have h3 : kb < W.heap.size := h2
              have := HAS.out.lo
              omega
            have HASW : Hid (AS (cutW W X10.heap.size) W kb nb nw cap p l ks) := HAS.out.rebase hsX (fun k h1 h2 => HEQ.out k (by have := HN10.out; omega) h2)
            have HOKL : Hid (∀ x ∈ l, x.2.1.ok ∧ x.2.1.log.length < 1000000 ∧ HR (cutW W X10.heap.size) x.2.2 x.2.1.log) := fun x hx => ⟨(HAF.out.ok x hx).1, (HAF.out.ok x hx).2.1, cutW_hr hsX (HAF.out.hr W s2 C2 HT.out.ja x hx) (HAF.out.ok x hx).2.2.2⟩
            have HKL : Hid (∀ z ∈ ks, ∃ a r lv b, l = a ++ (z, r, lv) :: b) := fun z hz => by
              obtain ⟨x, hx, rfl⟩ := List.mem_map.1 (HPM.out.mem_iff.1 hz)
              obtain ⟨a, b, hl⟩ := List.append_of_mem hx
              exact ⟨a, x.2.1, x.2.2, b, hl⟩
            have HKN : Hid (ks.length ≤ 1000000) := by have h1 := HPM.out.length_eq; have h2 := HAF.out.n1; show _ ≤ _; simp at h1; omega
            have HSX : Hid (X10.heap.size ≤ W.heap.size) := hsX
            have HSAM : Hid (∀ V, Below W.heap.size W V → Calls Tryz.prog 11 #[.agg (prL c' rb).toArray] V fun e Y => e = .returned (.bool true) ∧ Below V.heap.size V Y) := fun V hb => same_any (HT.out.step hb).ja HBD.out (by omega) HPI.out
            have HWW : Hid (w.heap.size < W.heap.size) := by have h1 := HT.out.bel.size; have h2 := HS0.out; show _ < _; omega
            clear hsX HAS HPM HKC11 HEQ HBD HPI HLS2 hdI
            go_wp2
            refine range_own (X := cutW W X10.heap.size) (kb := kb) (nb := nb) (nw := nw) (cap := cap) (p := p) (l := l) (ks := ks) rfl rfl HASW.out HKL.out HOKL.out HKN.out (fun k U => Below W.heap.size W U) (fun k U V h hb => h.trans (hb.mono h.size)) (fun k U lp ob h hl => below_put h hl ob) (Below.refl _ _) ?_ ?_
            · intro lp k z r lv v' U hz hm hown hI hAU hlp hsU hlr
              simp only [List.zip_toArray, List.zip_cons_cons, List.zip_nil_left, List.zip_nil_right, List.foldl_toArray, List.foldl_cons, List.foldl_nil, List.setIfInBounds_toArray, List.set_cons_succ, List.set_cons_zero]
              have hmx := HAF.out.ok _ hm
              have HOK : Hid r.ok := hmx.1
              have HLL : Hid (r.log.length < 1000000) := hmx.2.1
              have HZ : Hid (iOk z) := hmx.2.2.1
              have HMEM : Hid (∃ lv, (z, r, lv) ∈ l2) := HKCW.out.mem z r (by rw [← HAF.out.ab]; exact List.mem_map.2 ⟨_, hm, rfl⟩)
              have HOWN : Hid (U.ownsRow (W.heap.size + 2) 69 172 v' r.log.length (lgC r.log)) := hown
              have HIU : Hid (Below W.heap.size W U) := hI
              have HLP : Hid (lp = W.heap.size + 1) := hlp
              have HSU : Hid (W.heap.size + 2 ≤ U.heap.size) := hsU
              have HNE : Hid (ks ≠ []) := fun e => by rw [e] at hz; simp at hz
              have HNN : Hid ((rmL r v').length = 103) := rmL_len hmx.1 _
              have HN1 : Hid ((rmL r v').toArray.all (·.oneCell') = true) := rmL_onea r (HO.hr hown)
              obtain ⟨NL, hNL⟩ : ∃ NL, NL = rmL r v' := ⟨_, rfl⟩
              rw [← hNL] at HNN HN1 ⊢
              have HNL : Hid (NL = rmL r v') := hNL
              have HNS : Hid (NL.toArray.size = 103) := by show _ = _; simpa using HNN.out
              have HNI : Hid ((Tryz.prog.info? 47).map (·.size) = some NL.toArray.size) := info103a _ HNS.out
              have HZM : Hid (ZL.toArray.size = NL.toArray.size) := HZS.out.trans HNS.out.symm
              obtain ⟨U1, hU1⟩ : ∃ V, V = (U.alloc (.cells ZL.toArray 47 (0, 0))).setRow U.heap.size NL.toArray := ⟨_, rfl⟩
              have HRA : Hid ((U.alloc (.cells ZL.toArray 47 (0, 0))).heap[U.heap.size]? = some (.cells ZL.toArray 47 (0, 0))) := heap_alloc_new _ _
              have HBU : Hid (Below U.heap.size U U1) := by rw [hU1]; exact below_setRow ((Below.refl _ _).alloc (Nat.le_refl _) _) (Nat.le_refl _) _
              have HRU : Hid (U1.heap[U.heap.size]? = some (.cells NL.toArray 47 (0, 0))) := by rw [hU1]; exact setRow_heap _ _ _ _ _ _ HRA.out
              clear hz hm hown hI hAU hlp hsU hlr hmx hNL
              refine wpIn_seq ?_
              refine region_plain (by kernel_rfl) (fun h => by obtain ⟨_, _, h⟩ := h; exact h) ?_
              go_wp2_with fail
              change Code.wpIn _ _ _ _ _ _ _
              refine region_plain (by kernel_rfl) (fun h => by obtain ⟨_, _, h⟩ := h; exact h) ?_
              go_wp2_with (refine wpList_store_row rfl 47 _ _ rfl U.heap.size NL.toArray rfl rfl 47 ZL.toArray HRA.out HNI.out HZM.out HN1.out ?_)
              rw [← hU1]
              refine ⟨HBU.out, ?_⟩
              rintro X3 ⟨ob, hX3⟩
              have hsU1 := HBU.out.size
              have hsU := HSU.out
              have hlp := HLP.out
              have hb3 : Below W.heap.size W X3 := by rw [hX3]; exact below_put (HIU.out.trans (HBU.out.mono HIU.out.size)) (by omega) ob
              have h11 : X3.heap[U.heap.size]? = some (.cells (rmL r v').toArray 47 (0, 0)) := by rw [hX3, World.putObj_heap_other (by omega), ← HNL.out]; exact HRU.out
              have hown3 : X3.ownsRow (W.heap.size + 2) 69 172 v' r.log.length (lgC r.log) := R5.own_keep HOWN.out (fun k e hl => by
                have h1 := (World.ownsRow.lt HOWN.out k e).1
                rw [hX3, World.putObj_heap_other (by omega)]
                exact HBU.out.block k hl)
              have hne : v'.ownBlock ≠ some U.heap.size := fun e => by have := (World.ownsRow.lt HOWN.out _ e).2; omega
              refine Code.wpIn_mono (fun e a X h => ?_) (ap_round (V0 := W) (X2 := X3) (lp := lp) (B := W.heap.size + 2) (q11 := U.heap.size) HZ.out HOK.out HLL.out HKCW.out.kx HMEM.out HKCW.out.cell (by omega) hb3 h11 (by omega) hown3 hne)
              obtain ⟨rfl, hb⟩ := h
              have hs3 : X3.heap.size = U1.heap.size := by rw [hX3]; simp
              have hbX : Below W.heap.size W X := hb3.trans (hb.mono (by omega))
              refine ⟨rfl, hbX, (cutW_below W _ HSX.out).trans (hbX.mono (by rw [cutW_size W _ HSX.out]; exact HSX.out)), hb.size, fun i hi hS => hb.block i ?_⟩
              rcases hS with rfl | rfl | hS
              · omega
              · omega
              · have := HASW.out.lt HNE.out i hS; omega
            · intro U hI hbU hd
              have HTU : Hid (ST w0 c' rb s2 C2 pb (.slice none 0 0) [] U) := HT.out.step hI
              have HDU : Hid (U.heap[W.heap.size]? = some (.deferred (some []))) := hd
              have HIU : Hid (Below W.heap.size W U) := hI
              have HSU : Hid _ := HSAM.out U hI
              obtain ⟨PL, hPL⟩ : ∃ PL, PL = prL c' rb := ⟨_, rfl⟩
              rw [← hPL] at HSU
              have HPR : Hid (U.rangeAt pb 0 PL) := by show World.rangeAt _ _ _ _; rw [hPL]; exact PC.rangeAt_row HTU.out.pr
              have HPJ : Hid ((Tryz.prog.info? 29).map (·.size) = some PL.length) := by rw [hPL]; show _ = _; kernel_rfl
              clear hI hbU hd hPL HASW HOKL HKL HKCW HAF HSAM
              go_wp2_with (refine wpList_load_mid rfl 29 (.tmp 5) rfl pb 0 rfl PL _ HPR.out Tryz.underlying29 rfl HPJ.out ?_)
              refine Calls.mono HSU.out ?_
              rintro e V1 ⟨rfl, hv1⟩
              have HV1 : Hid (Below U.heap.size U V1) := hv1
              clear hv1 HSU HPR
              go_wp2_with fail
              refine Calls.mono (known_any V1) ?_
              rintro e V2 ⟨rfl, hv2⟩
              have hV2 : Below U.heap.size U V2 := HV1.out.trans (hv2.mono HV1.out.size)
              have hU0 : Below w0.heap.size w0 V2 := HTU.out.bel.trans (hV2.mono HTU.out.bel.size)
              have hrr : V2.heap[w.heap.size]? = some (.cells #[.bool false] 4 (0, 0)) := (hU0.block _ (by have := HS0.out; omega)).trans HR0.out
              have hcr : V2.cell? ⟨w.heap.size, 0, none⟩ = some (.bool false) := by rw [cell_of_row _ _ 0 _ _ _ hrr]; rfl
              have hfr : V2.frozen? ⟨w.heap.size, 0, none⟩ = false := frozen_of_row _ _ 0 _ _ hrr
              have HDV : Hid ((V2.setCell ⟨w.heap.size, 0, none⟩ (.bool true)).heap[W.heap.size]? = some (.deferred (some []))) := (heap_setCell_other _ _ _ _ (by have := HWW.out; show W.heap.size ≠ w.heap.size; omega)).trans ((hV2.block _ (PC.row_lt HDU.out)).trans HDU.out)
              have HBE : Hid (Below w.heap.size w (V2.setCell ⟨w.heap.size, 0, none⟩ (.bool true))) := (HB0.out.trans (hU0.mono HB0.out.size)).setCell (p := ⟨w.heap.size, 0, none⟩) (Nat.le_refl _) _
              have HRE : Hid ((V2.setCell ⟨w.heap.size, 0, none⟩ (.bool true)).heap[w.heap.size]? = some (.cells #[.bool true] 4 (0, 0))) := by show _ = _; rw [heap_setCell_same _ _ 0 _ _ _ hrr]; rfl
              clear hv2 hV2 hU0 hrr
              go_wp2_with fail
              refine R5.marks_ret (v := .bool true) [W.heap.size] _ (fun D hD => ?_) (by simp) (fun w' h1 h2 h3 h4 h5 => ⟨R5.results_bool Tryz.results5 _ _ w.heap.size true rfl ?_, rfl, ⟨h2.trans HBE.out.os, h3.trans HBE.out.tape, h4.trans HBE.out.output, by rw [h1]; exact HBE.out.size, fun i hi => (h5 i (by have := HWW.out; simp; omega)).trans (HBE.out.block i hi)⟩⟩)
              · rw [List.mem_singleton.1 hD]; exact HDV.out
              · rw [cell_of_row _ _ 0 _ _ _ ((h5 _ (by have := HWW.out; simp; omega)).trans HRE.out)]; rfl
end Go.Proofs.YtekbppfocnbhbaaGreat.XC
