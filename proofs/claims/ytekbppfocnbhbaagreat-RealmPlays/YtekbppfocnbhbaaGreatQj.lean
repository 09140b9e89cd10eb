/- RealmPlays, the walk. -/
import Derived.Test.YtekbppfocnbhbaaGreatQi
import Derived.Test.YtekbppfocnbhbaaGreatRt
import Derived.Test.YtekbppfocnbhbaaGreatRl
import Derived.Test.YtekbppfocnbhbaaGreatXW
import Derived.Deep.CutRange
set_option linter.unusedVariables false
set_option linter.unusedSimpArgs false
namespace Go.Proofs.YtekbppfocnbhbaaGreat.XC
open Go.RowKit

set_option maxHeartbeats 8000000 in
set_option maxRecDepth 100000 in
theorem plays_walk (p : Option Addr) (cap0 : Nat) (ds : List (List UInt8)) (v : Value) (ls : List Ac) (w : World) (hl : ls.length ≤ 60) (hdl : ds.length ≤ 100) (hpc : p = none → cap0 = 0) (hD : R5.HDs w (.slice p ds.length cap0) ds) (hA : HAc w v ls) :
    Calls Tryz.prog 3 #[.slice p ds.length cap0, v] w fun e w' => e = .returned (.bool true) ∧ Below w.heap.size w w' := by
  obtain ⟨pl, cap, rfl, hls⟩ := hA
  have HLS : Hid _ := hls
  have HBG : Hid (Calls Tryz.prog 9 #[.slice p ds.length cap0] w fun e Y => BgEnd w ds e Y) := begin_any p ds.length cap0 ds w hpc (by omega) hD
  have hz := fun W => zero_rm W
  obtain ⟨ZL, hZL⟩ : ∃ L, L = rmL zR (.slice none 0 0) := ⟨_, rfl⟩
  rw [← hZL] at hz
  have HZS : Hid (ZL.toArray.size = 103) := by show _ = _; rw [hZL]; simpa using rmL_len zR_ok _
  clear hZL
  have hlI : ¬ ((60 : Int) < (ls.length : Int)) := by omega
  have hdI : ¬ ((100 : Int) < (ds.length : Int)) := by omega
  have hzp : ∀ W, (zeroValue 29).run Tryz.prog W = .ok (.agg #[.pointer none, .pointer none, .pointer none]) W := fun W => by kernel_rfl
  clear hls hD
  go_enter Tryz.func3, Tryz.ntmps3
  go_wp2_with fail
  refine Calls.mono HBG.out ?_
  rintro e X0 ⟨c, rb, tn, I0, rfl, hcw, hcm, hcD, hJR⟩
  obtain ⟨X2, hX2⟩ : ∃ X2, X2 = X0.alloc (.cells #[.pointer (some ⟨c.og, 0, none⟩), .pointer (some ⟨c.xb, 0, none⟩), .pointer (some ⟨rb, 0, none⟩)] 29 (0, 0)) := ⟨_, rfl⟩
  have HT0 : Hid (ST w c rb ⟨[], 0, []⟩ (fun k => k = X0.heap.size ∨ (Value.slice none 0 0).ownBlock = some k) X0.heap.size (.slice none 0 0) [] X2) := st_start hcw hJR rfl hX2
  have HX2 : Hid _ := hX2
  clear hcw hcm hcD hJR HBG hX2
  go_upto_region 4 with fail
  rw [← HX2.out]
  generalize X0.heap.size = pb at *
  clear HX2
  go_wp2
  go_loopw [6] (fun i wr => ∃ (k : Nat) (s : Am), k ≤ ls.length ∧ i = .int .i64 k ∧ ST w c rb s (fun k => k = pb ∨ (Value.slice none 0 0).ownBlock = some k) pb (.slice none 0 0) [] wr ∧ Bd k s ∧ PI s) (fun i _ => ls.length - (intOf i).toNat)
  case atStart => exact ⟨0, _, Nat.zero_le _, rfl, HT0.out, bd_start, pi_start⟩
  case round =>
    clear HT0
    obtain ⟨k, s, hk, rfl, hST, hBd, hPI⟩ := hrel
    generalize wr = W at *
    obtain ⟨CP, hCP⟩ : ∃ CP : Nat → Prop, CP = (fun k => k = pb ∨ (Value.slice none 0 0).ownBlock = some k) := ⟨_, rfl⟩
    rw [← hCP] at hST ⊢
    have HCP : Hid (CP pb ∧ ∀ k, (Value.slice none 0 0).ownBlock = some k → CP k) := ⟨by rw [hCP]; exact .inl rfl, fun k e => by rw [hCP]; exact .inr e⟩
    clear hCP
    have HT : Hid (ST w c rb s CP pb (.slice none 0 0) [] W) := hST
    have HBD : Hid (Bd k s) := hBd
    have HPI : Hid (PI s) := hPI
    by_cases hlt : k < ls.length
    · have hkI : (k : Int) < (ls.length : Int) := by omega
      obtain ⟨ac, hac⟩ : ∃ ac, ls[k]? = some ac := ⟨_, List.getElem?_eq_getElem hlt⟩
      obtain ⟨hok, g, o, rfl, hra⟩ := HLS.out k ac hac
      have HRA : Hid (w.rangeAt g (o + k * 207) (acL ac)) := hra
      obtain ⟨rd, hrd⟩ : ∃ rd, rd = ac.rd := ⟨_, rfl⟩
      have HRD : Hid (iOk rd) := by rw [hrd]; exact hok.rd
      have HSQR : Hid (∀ (X : World) (C : Nat → Prop) (s : Am) (sv : Value) (ms : List Nat), ST w c rb s C pb sv ms X → SQ c rb pb g (o + k * 207) rd X) := fun X C s sv ms h => by rw [hrd]; exact h.sq hra
      have hT1 : ST w c rb s CP pb (.slice none 0 0) [] W.drew := HT.out.step (Below.refl _ _).drew
      have HDO : Hid _ := do_any hT1.ja HBD.out (by omega) hok
      have HT1 : Hid _ := hT1
      have HSA : Hid (∀ (X : World) (s : Am), ST w c rb s CP pb (.slice none 0 0) [] X → SA c rb pb g (o + k * 207) (acL ac) X) := fun X s h => h.sa HRA.out
      obtain ⟨kd, hkd⟩ : ∃ kd, kd = ac.kind := ⟨_, rfl⟩
      have hAN := acL_len hok
      rw [← hkd] at HDO
      obtain ⟨AL, hAL⟩ : ∃ AL, AL = acL ac := ⟨_, rfl⟩
      rw [← hAL] at HDO HSA hAN
      have HAI : Hid ((Tryz.prog.info? 43).map (·.size) = some AL.length) := by show _ = _; rw [hAN]; kernel_rfl
      obtain ⟨PL, hPL⟩ : ∃ PL, PL = prL c rb := ⟨_, rfl⟩
      rw [← hPL] at HDO
      have HPJ : Hid ((Tryz.prog.info? 29).map (·.size) = some PL.length) := by rw [hPL]; show _ = _; kernel_rfl
      have HPL : Hid (PL = prL c rb) := hPL
      clear hkd hAN hAL hPL hT1 HT hST hBd hPI hok hra hrd
      go_upto_region 7 with fail
      refine wp_region_held_drew (S := SA c rb pb g (o + k * 207) AL) (by kernel_rfl) (HSA.out _ _ HT1.out) (fun hHeld => ?_)
      generalize W.drew = W6 at *
      refine wpAnyH_take (i := 0) (oi := ⟨some 29, .load 29 (.tmp 5), 29, _, #[], none⟩) rfl (by kernel_rfl) (by kernel_rfl) (by kernel_rfl) (fun _ _ _ h => h) (yieldsIf_load_mid (by rfl) 29 (.tmp 5) rfl (pb) (0) rfl (PL) _ (fun _ h => (by rw [HPL.out]; exact PC.rangeAt_row h.pr)) Tryz.underlying29 rfl HPJ.out) hHeld ?_
      try simp only [Act.put, qT, q0, qS]
      refine wpAnyH_take (i := 1) (oi := ⟨some 30, .move (.tmp 1), 23, _, #[], none⟩) (v := .slice (some ⟨g, o, none⟩) ls.length cap) rfl (by kernel_rfl) (by kernel_rfl) (by kernel_rfl) (fun _ _ _ h => h) (Or.inl ⟨by rfl, fun w' hw' => ?_⟩) hHeld ?_
      · first | (go_simp; done) | (go_simp; rfl)
      try simp only [Act.put, qT, q0, qS]
      refine wpAnyH_take (i := 2) (oi := ⟨some 31, .move (.tmp 6), 3, _, #[], none⟩) (v := .int .i64 k) rfl (by kernel_rfl) (by kernel_rfl) (by kernel_rfl) (fun _ _ _ h => h) (Or.inl ⟨by rfl, fun w' hw' => ?_⟩) hHeld ?_
      · first | (go_simp; done) | (go_simp; rfl)
      try simp only [Act.put, qT, q0, qS]
      refine wpAnyH_take (i := 3) (oi := ⟨some 32, .indexAddr 23 (.tmp 30) (.tmp 31), 0, _, #[⟨1, .data⟩, ⟨2, .data⟩], none⟩) (v := .pointer (some ⟨g, o + k * 207, none⟩)) rfl (by kernel_rfl) (by kernel_rfl) (by kernel_rfl) (fun _ _ _ h => h) (Or.inl ⟨by rfl, fun w' hw' => ?_⟩) hHeld ?_
      · first | (go_simp; done) | (go_simp; rfl) | (go_simp; intro hbad; omega)
      try simp only [Act.put, qT, q0, qS]
      refine wpAnyH_take (i := 4) (oi := ⟨some 33, .load 43 (.tmp 32), 43, _, #[⟨3, .data⟩], none⟩) rfl (by kernel_rfl) (by kernel_rfl) (by kernel_rfl) (fun _ _ _ h => h) (yieldsIf_load_mid (by rfl) 43 (.tmp 32) rfl (g) (o + k * 207) rfl (AL) _ (fun _ h => h.ra) Tryz.underlying43 rfl HAI.out) hHeld ?_
      try simp only [Act.put, qT, q0, qS]
      refine wpAnyH_ready (rs := [5]) (by kernel_rfl) (by simp) ?_
      refine AllReadyH.cons (o := { dst := some 34, op := .call { callee := Go.Callee.value (.func 10), args := #[.tmp 29, .tmp 33], argTypes := #[29, 43] }, type := 4, pos := _, after := #[⟨0, .data⟩, ⟨4, .data⟩], guard := none }) rfl (fun K hK => ?_) AllReadyH.nil
      rw [if_pos (by rfl)]
      go_wp2_with fail
      refine Calls.mono HDO.out ?_
      rintro e W7 ⟨rfl, s', hat, hJA, hfr⟩
      have hT2 : ST w c rb s' CP pb (.slice none 0 0) [] W7 := HT1.out.call hJA hfr
      have HBD2 : Hid (Bd (k + 1) s') := HBD.out.step hat
      have HPI2 : Hid (PI s') := HPI.out.step hat
      have HSAM : Hid (Calls Tryz.prog 11 #[.agg PL.toArray] W7 fun e Y => e = .returned (.bool true) ∧ Below W7.heap.size W7 Y) := by show Calls _ _ _ _ _; rw [HPL.out]; exact same_any hT2.ja HBD2.out (by omega) HPI2.out
      have HT2 : Hid _ := hT2
      clear hHeld hJA hfr hat HBD HPI HDO HT1
      have hHeld := HSA.out _ _ hT2
      clear hT2
      refine hK.out _ _ hHeld (fun _ => ?_)
      clear hK K
      try simp only [Act.put, qT, q0, qS]
      refine wpAnyH_take (i := 6) (oi := ⟨some 35, .unOp .not 4 (.tmp 34), 4, _, #[⟨5, .data⟩], none⟩) (v := .bool false) rfl (by kernel_rfl) (by kernel_rfl) (by kernel_rfl) (fun _ _ _ h => h) (Or.inl ⟨by rfl, fun w' hw' => ?_⟩) hHeld ?_
      · first | (go_simp; done) | (go_simp; rfl)
      try simp only [Act.put, qT, q0, qS]
      refine wpAnyH_take (i := 7) (oi := ⟨some 36, .move (.tmp 35), 4, _, #[⟨6, .data⟩, ⟨5, .chain⟩], none⟩) (v := .bool false) rfl (by kernel_rfl) (by kernel_rfl) (by kernel_rfl) (fun _ _ _ h => h) (Or.inl ⟨by rfl, fun w' hw' => ?_⟩) hHeld ?_
      · first | (go_simp; done) | (go_simp; rfl)
      try simp only [Act.put, qT, q0, qS]
      refine wpAnyH_take (i := 8) (oi := ⟨some 37, .load 29 (.tmp 5), 29, _, #[⟨7, .guard⟩], some (7, false)⟩) rfl (by kernel_rfl) (by kernel_rfl) (by kernel_rfl) (fun _ _ _ h => h) (yieldsIf_load_mid (by rfl) 29 (.tmp 5) rfl (pb) (0) rfl (PL) _ (fun _ h => (by rw [HPL.out]; exact PC.rangeAt_row h.pr)) Tryz.underlying29 rfl HPJ.out) hHeld ?_
      try simp only [Act.put, qT, q0, qS]
      refine wpAnyH_ready (rs := [9]) (by kernel_rfl) (by simp) ?_
      refine AllReadyH.cons (o := { dst := some 38, op := .call { callee := Go.Callee.value (.func 11), args := #[.tmp 37], argTypes := #[29] }, type := 4, pos := _, after := #[⟨8, .data⟩, ⟨7, .chain⟩, ⟨7, .guard⟩], guard := some (7, false) }) rfl (fun K hK => ?_) AllReadyH.nil
      rw [if_pos (by rfl)]
      go_wp2_with fail
      refine Calls.mono HSAM.out ?_
      rintro e W8 ⟨rfl, hb8⟩
      have HT8 : Hid _ := HT2.out.step hb8
      clear hHeld hb8 HSAM HT2
      have hHeld := HSA.out _ _ HT8.out
      refine hK.out _ _ hHeld (fun _ => ?_)
      clear hK K
      try simp only [Act.put, qT, q0, qS]
      refine wpAnyH_take (i := 10) (oi := ⟨some 39, .unOp .not 4 (.tmp 38), 4, _, #[⟨9, .data⟩, ⟨7, .guard⟩], some (7, false)⟩) (v := .bool false) rfl (by kernel_rfl) (by kernel_rfl) (by kernel_rfl) (fun _ _ _ h => h) (Or.inl ⟨by rfl, fun w' hw' => ?_⟩) hHeld ?_
      · first | (go_simp; done) | (go_simp; rfl)
      try simp only [Act.put, qT, q0, qS]
      refine wpAnyH_take (i := 11) (oi := ⟨some 40, .pick (.tmp 36) (.const (Go.Value.bool true)) (.tmp 39), 4, _, #[⟨7, .data⟩, ⟨10, .data⟩], none⟩) (v := .bool false) rfl (by kernel_rfl) (by kernel_rfl) (by kernel_rfl) (fun _ _ _ h => h) (Or.inl ⟨by rfl, fun w' hw' => ?_⟩) hHeld ?_
      · first | (go_simp; done) | (go_simp; rfl)
      try simp only [Act.put, qT, q0, qS]
      refine wpAnyH_done (by kernel_rfl) ?_ _
      clear hHeld HSA HAI HPJ HPL
      obtain ⟨r, E, hro, hrl, hcase, hget⟩ := get_both2 HT8.out.ja HBD2.out (by omega) HRD.out
      have HRO : Hid r.ok := hro
      have HRL : Hid (r.log.length < 1000000) := hrl
      have HCS : Hid _ := hcase
      have HGET : Hid _ := hget
      clear hro hrl hcase hget
      go_upto_region 9 with fail
      have HT1 : Hid (ST w c rb s' CP pb (.slice none 0 0) [] W8.drew) := HT8.out.step (Below.refl _ _).drew
      clear HT8
      go_cut [7, 8] from 23 to 92 (fun px x X => ∃ q v', px = .pointer (some ⟨q, 0, none⟩) ∧ x = .int .i64 E ∧ ST w c rb s' (fun k => CP k ∨ (k = q ∨ v'.ownBlock = some k)) pb (.slice none 0 0) [] X ∧ X.heap[q]? = some (.cells (rmL r v').toArray 47 (0, 0)) ∧ HR X v' r.log ∧ ∀ k, k < W8.drew.heap.size → X.heap[k]? = W8.drew.heap[k]?)
      case first =>
        refine wp_region_held_drew (S := SQ c rb pb g (o + k * 207) rd) (by kernel_rfl) (HSQR.out _ _ _ _ _ HT1.out) (fun hHeld => ?_)
        generalize World.drew _ = W1 at *
        have HSQ : Hid (∀ X, Below W1.heap.size W1 X → SQ c rb pb g (o + k * 207) rd X) := fun X hb => HSQR.out _ _ _ _ _ (HT1.out.step hb)
        have HGT : Hid (∀ X, Below W1.heap.size W1 X → Calls Tryz.prog 12 #[.pointer (some ⟨c.xb, 0, none⟩), .int .i64 rd] X fun e Y => GEnd X r E e Y) := fun X hb => HGET.out _ _ (HT1.out.step hb).ja
        refine wpAnyH_take (i := 0) (oi := ⟨some 42, .fieldAddr 29 (.tmp 5) 1, 0, _, #[], none⟩) (v := .pointer (some ⟨pb, 1, none⟩)) rfl (by kernel_rfl) (by kernel_rfl) (by kernel_rfl) (fun _ _ _ h => h) (Or.inl ⟨by rfl, fun w' hw' => ?_⟩) hHeld ?_
        · first | (go_simp; done) | (go_simp; rfl)
        try simp only [Act.put, qT, q0, qS]
        refine wpAnyH_take (i := 1) (oi := ⟨some 43, .load 26 (.tmp 42), 26, _, #[⟨0, .data⟩], none⟩) (v := .pointer (some ⟨c.xb, 0, none⟩)) rfl (by kernel_rfl) (by kernel_rfl) (by kernel_rfl) (fun _ _ _ h => h) (Or.inl ⟨by rfl, fun w' hw' => ?_⟩) hHeld ?_
        · have hcc := hw'.c1; first | (go_simp; done) | (go_simp; rfl)
        try simp only [Act.put, qT, q0, qS]
        refine wpAnyH_take (i := 2) (oi := ⟨some 44, .move (.tmp 1), 23, _, #[], none⟩) (v := .slice (some ⟨g, o, none⟩) ls.length cap) rfl (by kernel_rfl) (by kernel_rfl) (by kernel_rfl) (fun _ _ _ h => h) (Or.inl ⟨by rfl, fun w' hw' => ?_⟩) hHeld ?_
        · first | (go_simp; done) | (go_simp; rfl)
        try simp only [Act.put, qT, q0, qS]
        refine wpAnyH_take (i := 3) (oi := ⟨some 45, .move (.tmp 6), 3, _, #[], none⟩) (v := .int .i64 k) rfl (by kernel_rfl) (by kernel_rfl) (by kernel_rfl) (fun _ _ _ h => h) (Or.inl ⟨by rfl, fun w' hw' => ?_⟩) hHeld ?_
        · first | (go_simp; done) | (go_simp; rfl)
        try simp only [Act.put, qT, q0, qS]
        refine wpAnyH_take (i := 4) (oi := ⟨some 46, .indexAddr 23 (.tmp 44) (.tmp 45), 0, _, #[⟨2, .data⟩, ⟨3, .data⟩], none⟩) (v := .pointer (some ⟨g, o + k * 207, none⟩)) rfl (by kernel_rfl) (by kernel_rfl) (by kernel_rfl) (fun _ _ _ h => h) (Or.inl ⟨by rfl, fun w' hw' => ?_⟩) hHeld ?_
        · first | (go_simp; done) | (go_simp; rfl) | (go_simp; intro hbad; omega)
        try simp only [Act.put, qT, q0, qS]
        refine wpAnyH_take (i := 5) (oi := ⟨some 47, .fieldAddr 43 (.tmp 46) 1, 0, _, #[⟨4, .data⟩], none⟩) (v := .pointer (some ⟨g, o + k * 207 + 1, none⟩)) rfl (by kernel_rfl) (by kernel_rfl) (by kernel_rfl) (fun _ _ _ h => h) (Or.inl ⟨by rfl, fun w' hw' => ?_⟩) hHeld ?_
        · first | (go_simp; done) | (go_simp; rfl)
        try simp only [Act.put, qT, q0, qS]
        refine wpAnyH_take (i := 6) (oi := ⟨some 48, .load 3 (.tmp 47), 3, _, #[⟨5, .data⟩], none⟩) (v := .int .i64 rd) rfl (by kernel_rfl) (by kernel_rfl) (by kernel_rfl) (fun _ _ _ h => h) (Or.inl ⟨by rfl, fun w' hw' => ?_⟩) hHeld ?_
        · have hcc := hw'.k1; first | (go_simp; done) | (go_simp; rfl)
        try simp only [Act.put, qT, q0, qS]
        refine wpAnyH_ready (rs := [7, 11]) (by kernel_rfl) (by simp) ?_
        refine AllReadyH.cons (o := { dst := some 49, op := .call { callee := Go.Callee.value (.func 12), args := #[.tmp 43, .tmp 48], argTypes := #[26, 3] }, type := 49, pos := _, after := #[⟨1, .data⟩, ⟨6, .data⟩], guard := none }) rfl (fun K hK => ?_) (AllReadyH.cons (o := ⟨some 7, .alloc 47, 0, _, #[], none⟩) rfl (fun K hK => ?_) AllReadyH.nil)
        all_goals rw [if_pos (by rfl)]
        · skip
          go_wp2_with fail
          refine Calls.mono (HGT.out W1 (Below.refl _ _)) ?_
          rintro e W2 ⟨v', rfl, hown, hb2⟩
          have hok := HRO.out
          have HNN : Hid ((rmL r v').length = 103) := rmL_len hok _
          have HN1 : Hid ((rmL r v').toArray.all (·.oneCell') = true) := rmL_onea r (HO.hr hown)
          obtain ⟨NL, hNL⟩ : ∃ NL, NL = rmL r v' := ⟨_, rfl⟩
          rw [← hNL] at HNN HN1 ⊢
          have HNL : Hid (NL = rmL r v') := hNL
          have HNS : Hid (NL.toArray.size = 103) := by show _ = _; simpa using HNN.out
          have HNI : Hid ((Tryz.prog.info? 47).map (·.size) = some NL.toArray.size) := info103a _ HNS.out
          have HZM : Hid (ZL.toArray.size = NL.toArray.size) := HZS.out.trans HNS.out.symm
          clear hok hNL
          clear hHeld
          have hHeld := HSQ.out _ hb2
          refine hK.out _ _ hHeld (fun _ => ?_)
          clear hK K
          try simp only [Act.put, qT, q0, qS]
          refine wpAnyH_take (i := 8) (oi := ⟨some 41, .move (.tmp 49), 49, _, #[⟨7, .data⟩], none⟩) (v := .tuple #[.agg NL.toArray, .int .i64 E]) rfl (by kernel_rfl) (by kernel_rfl) (by kernel_rfl) (fun _ _ _ h => h) (Or.inl ⟨by rfl, fun w' hw' => ?_⟩) hHeld ?_
          · first | (go_simp; done) | (go_simp; rfl)
          try simp only [Act.put, qT, q0, qS]
          refine wpAnyH_take (i := 9) (oi := ⟨some 50, .extract (.tmp 41) 0, 47, _, #[⟨8, .data⟩], none⟩) (v := .agg NL.toArray) rfl (by kernel_rfl) (by kernel_rfl) (by kernel_rfl) (fun _ _ _ h => h) (Or.inl ⟨by rfl, fun w' hw' => ?_⟩) hHeld ?_
          · first | (go_simp; done) | (go_simp; rfl)
          try simp only [Act.put, qT, q0, qS]
          refine wpAnyH_take (i := 10) (oi := { dst := some 51, op := .extract (.tmp 41) 1, type := 48, pos := _, after := #[⟨8, .data⟩, { on := 12, ground := .gcOnly Go.Departure.lateStores }], guard := none }) (v := .int .i64 E) rfl (by kernel_rfl) (by kernel_rfl) (by kernel_rfl) (fun _ _ _ h => h) (Or.inl ⟨by rfl, fun w' hw' => ?_⟩) hHeld ?_
          · first | (go_simp; done) | (go_simp; rfl)
          try simp only [Act.put, qT, q0, qS]
          refine wpAnyH_ready (rs := [11]) (by kernel_rfl) (by simp) ?_
          refine AllReadyH.cons (o := ⟨some 7, .alloc 47, 0, _, #[], none⟩) rfl (fun K hK => ?_) AllReadyH.nil
          rw [if_pos (by rfl)]
          go_wp2_with fail
          obtain ⟨W3, hW3⟩ : ∃ W3, W3 = W2.alloc (.cells ZL.toArray 47 (0, 0)) := ⟨_, rfl⟩
          have hbW : Below W1.heap.size W1 W3 := by rw [hW3]; exact hb2.alloc hb2.size _
          have hrow : W3.heap[W2.heap.size]? = some (.cells ZL.toArray 47 (0, 0)) := by rw [hW3]; exact heap_alloc_new _ _
          have hq : W1.heap.size ≤ W2.heap.size ∧ W2.heap.size < W3.heap.size := ⟨hb2.size, by rw [hW3]; simp⟩
          have hownW : W3.ownsRow W1.heap.size 69 172 v' r.log.length (lgC r.log) := by rw [hW3]; exact World.ownsRow.alloc hown _
          have hqv : v'.ownBlock ≠ some W2.heap.size := fun e => by have := (World.ownsRow.lt hown _ e).2; omega
          rw [← hW3]
          clear hHeld hW3 hb2 hown
          generalize W2.heap.size = q at *
          have hHeld := HSQ.out _ hbW
          refine hK.out _ _ hHeld (fun _ => ?_)
          clear hK K
          try simp only [Act.put, qT, q0, qS]
          refine wpAnyH_ready (rs := [12]) (by kernel_rfl) (by simp) ?_
          refine AllReadyH.cons (o := { dst := none, op := .store 47 (.tmp 7) (.tmp 50), type := 0, pos := _, after := #[⟨11, .data⟩, ⟨9, .data⟩, ⟨7, .chain⟩, ⟨0, .phase⟩, ⟨1, .phase⟩, ⟨2, .phase⟩, ⟨3, .phase⟩, ⟨4, .phase⟩, ⟨5, .phase⟩, ⟨6, .phase⟩, ⟨7, .phase⟩, ⟨8, .phase⟩, ⟨9, .phase⟩, { on := 10, ground := .textOnly Go.Departure.lateStores }, ⟨11, .phase⟩], guard := none }) rfl (fun K hK => ?_) AllReadyH.nil
          rw [if_pos (by rfl)]
          refine wp_store_row 47 _ _ rfl q NL.toArray rfl rfl 47 ZL.toArray hrow HNI.out HZM.out HN1.out ?_
          have hbS := below_setRow hbW hq.1 NL.toArray
          have hvq : ∀ k, v'.ownBlock = some k → k ≠ q := fun k e h => hqv (by rw [← h]; exact e)
          have hown9 : (W3.setRow q NL.toArray).ownsRow W1.heap.size 69 172 v' r.log.length (lgC r.log) := R5.own_keep hownW (fun k e _ => setRow_other _ _ _ _ (hvq k e))
          have hT9 := HT1.out.new (C2 := fun k => k = q ∨ v'.ownBlock = some k) hbS (fun k hk => by
            rcases hk with rfl | hk
            · exact ⟨hq.1, by simpa using hq.2⟩
            · exact World.ownsRow.lt hown9 k hk)
          have hrow9 : (W3.setRow q NL.toArray).heap[q]? = some (.cells NL.toArray 47 (0, 0)) := setRow_heap _ _ _ _ _ _ hrow
          clear hHeld
          have hHeld := HSQ.out _ hbS
          refine hK.out _ _ hHeld (fun _ => ?_)
          clear hK K
          try simp only [Act.put, qT, q0, qS]
          refine wpAnyH_ready (rs := [13]) (by kernel_rfl) (by simp) ?_
          refine AllReadyH.cons (o := ⟨some 8, .assign (.tmp 51), 48, _, #[⟨10, .data⟩, ⟨12, .chain⟩, ⟨0, .phase⟩, ⟨1, .phase⟩, ⟨2, .phase⟩, ⟨3, .phase⟩, ⟨4, .phase⟩, ⟨5, .phase⟩, ⟨6, .phase⟩, ⟨7, .phase⟩, ⟨8, .phase⟩, ⟨9, .phase⟩, ⟨10, .phase⟩, ⟨11, .phase⟩, ⟨12, .phase⟩], none⟩) rfl (fun K hK => ?_) AllReadyH.nil
          rw [if_pos (by rfl)]
          go_wp2_with fail
          refine hK.out _ _ hHeld (fun _ => ?_)
          clear hK K
          try simp only [Act.put, qT, q0, qS]
          refine wpAnyH_done (by kernel_rfl) ?_ _
          go_wp2_with fail
          go_meet
          case rel => exact ⟨q, v', rfl, rfl, hT9, by rw [← HNL.out]; exact hrow9, HO.hr hown9, fun k hk => hbS.block k hk⟩
        · skip
          go_wp2_with fail
          obtain ⟨W3, hW3⟩ : ∃ W3, W3 = W1.alloc (.cells ZL.toArray 47 (0, 0)) := ⟨_, rfl⟩
          have hb3 : Below W1.heap.size W1 W3 := by rw [hW3]; exact (Below.refl _ _).alloc (Nat.le_refl _) _
          have hrow0 : W3.heap[W1.heap.size]? = some (.cells ZL.toArray 47 (0, 0)) := by rw [hW3]; exact heap_alloc_new _ _
          have hq0 : W1.heap.size ≤ W1.heap.size ∧ W1.heap.size < W3.heap.size := ⟨Nat.le_refl _, by rw [hW3]; simp⟩
          rw [← hW3]
          clear hHeld hW3
          obtain ⟨q, hqe⟩ : ∃ q, q = W1.heap.size := ⟨_, rfl⟩
          have hrow1 : W3.heap[q]? = some (.cells ZL.toArray 47 (0, 0)) := by rw [hqe]; exact hrow0
          have hq1 : W1.heap.size ≤ q ∧ q < W3.heap.size := by rw [hqe]; exact hq0
          rw [← hqe]
          clear hrow0 hq0 hqe
          have hHeld := HSQ.out _ hb3
          refine hK.out _ _ hHeld (fun _ => ?_)
          clear hK K
          try simp only [Act.put, qT, q0, qS]
          refine wpAnyH_ready (rs := [7]) (by kernel_rfl) (by simp) ?_
          refine AllReadyH.cons (o := { dst := some 49, op := .call { callee := Go.Callee.value (.func 12), args := #[.tmp 43, .tmp 48], argTypes := #[26, 3] }, type := 49, pos := _, after := #[⟨1, .data⟩, ⟨6, .data⟩], guard := none }) rfl (fun K hK => ?_) AllReadyH.nil
          rw [if_pos (by rfl)]
          go_wp2_with fail
          refine Calls.mono (HGT.out W3 hb3) ?_
          rintro e W4 ⟨v', rfl, hown, hb4⟩
          have hbW : Below W1.heap.size W1 W4 := hb3.trans (hb4.mono hb3.size)
          have hrow : W4.heap[q]? = some (.cells ZL.toArray 47 (0, 0)) := (hb4.block q hq1.2).trans hrow1
          have hq : W1.heap.size ≤ q ∧ q < W4.heap.size := ⟨hq1.1, Nat.lt_of_lt_of_le hq1.2 hb4.size⟩
          have hownW : W4.ownsRow W1.heap.size 69 172 v' r.log.length (lgC r.log) := R5.own_lower hown hb3.size
          have hqv : v'.ownBlock ≠ some q := fun e => by have := (World.ownsRow.lt hown _ e).1; have := hq1.2; omega
          have hok := HRO.out
          have HNN : Hid ((rmL r v').length = 103) := rmL_len hok _
          have HN1 : Hid ((rmL r v').toArray.all (·.oneCell') = true) := rmL_onea r (HO.hr hown)
          obtain ⟨NL, hNL⟩ : ∃ NL, NL = rmL r v' := ⟨_, rfl⟩
          rw [← hNL] at HNN HN1 ⊢
          have HNL : Hid (NL = rmL r v') := hNL
          have HNS : Hid (NL.toArray.size = 103) := by show _ = _; simpa using HNN.out
          have HNI : Hid ((Tryz.prog.info? 47).map (·.size) = some NL.toArray.size) := info103a _ HNS.out
          have HZM : Hid (ZL.toArray.size = NL.toArray.size) := HZS.out.trans HNS.out.symm
          clear hok hNL
          clear hHeld hb3 hb4 hrow1 hq1 hown
          have hHeld := HSQ.out _ hbW
          refine hK.out _ _ hHeld (fun _ => ?_)
          clear hK K
          try simp only [Act.put, qT, q0, qS]
          refine wpAnyH_take (i := 8) (oi := ⟨some 41, .move (.tmp 49), 49, _, #[⟨7, .data⟩], none⟩) (v := .tuple #[.agg NL.toArray, .int .i64 E]) rfl (by kernel_rfl) (by kernel_rfl) (by kernel_rfl) (fun _ _ _ h => h) (Or.inl ⟨by rfl, fun w' hw' => ?_⟩) hHeld ?_
          · first | (go_simp; done) | (go_simp; rfl)
          try simp only [Act.put, qT, q0, qS]
          refine wpAnyH_take (i := 9) (oi := ⟨some 50, .extract (.tmp 41) 0, 47, _, #[⟨8, .data⟩], none⟩) (v := .agg NL.toArray) rfl (by kernel_rfl) (by kernel_rfl) (by kernel_rfl) (fun _ _ _ h => h) (Or.inl ⟨by rfl, fun w' hw' => ?_⟩) hHeld ?_
          · first | (go_simp; done) | (go_simp; rfl)
          try simp only [Act.put, qT, q0, qS]
          refine wpAnyH_take (i := 10) (oi := { dst := some 51, op := .extract (.tmp 41) 1, type := 48, pos := _, after := #[⟨8, .data⟩, { on := 12, ground := .gcOnly Go.Departure.lateStores }], guard := none }) (v := .int .i64 E) rfl (by kernel_rfl) (by kernel_rfl) (by kernel_rfl) (fun _ _ _ h => h) (Or.inl ⟨by rfl, fun w' hw' => ?_⟩) hHeld ?_
          · first | (go_simp; done) | (go_simp; rfl)
          try simp only [Act.put, qT, q0, qS]
          refine wpAnyH_ready (rs := [12]) (by kernel_rfl) (by simp) ?_
          refine AllReadyH.cons (o := { dst := none, op := .store 47 (.tmp 7) (.tmp 50), type := 0, pos := _, after := #[⟨11, .data⟩, ⟨9, .data⟩, ⟨7, .chain⟩, ⟨0, .phase⟩, ⟨1, .phase⟩, ⟨2, .phase⟩, ⟨3, .phase⟩, ⟨4, .phase⟩, ⟨5, .phase⟩, ⟨6, .phase⟩, ⟨7, .phase⟩, ⟨8, .phase⟩, ⟨9, .phase⟩, { on := 10, ground := .textOnly Go.Departure.lateStores }, ⟨11, .phase⟩], guard := none }) rfl (fun K hK => ?_) AllReadyH.nil
          rw [if_pos (by rfl)]
          refine wp_store_row 47 _ _ rfl q NL.toArray rfl rfl 47 ZL.toArray hrow HNI.out HZM.out HN1.out ?_
          have hbS := below_setRow hbW hq.1 NL.toArray
          have hvq : ∀ k, v'.ownBlock = some k → k ≠ q := fun k e h => hqv (by rw [← h]; exact e)
          have hown9 : (W4.setRow q NL.toArray).ownsRow W1.heap.size 69 172 v' r.log.length (lgC r.log) := R5.own_keep hownW (fun k e _ => setRow_other _ _ _ _ (hvq k e))
          have hT9 := HT1.out.new (C2 := fun k => k = q ∨ v'.ownBlock = some k) hbS (fun k hk => by
            rcases hk with rfl | hk
            · exact ⟨hq.1, by simpa using hq.2⟩
            · exact World.ownsRow.lt hown9 k hk)
          have hrow9 : (W4.setRow q NL.toArray).heap[q]? = some (.cells NL.toArray 47 (0, 0)) := setRow_heap _ _ _ _ _ _ hrow
          clear hHeld
          have hHeld := HSQ.out _ hbS
          refine hK.out _ _ hHeld (fun _ => ?_)
          clear hK K
          try simp only [Act.put, qT, q0, qS]
          refine wpAnyH_ready (rs := [13]) (by kernel_rfl) (by simp) ?_
          refine AllReadyH.cons (o := ⟨some 8, .assign (.tmp 51), 48, _, #[⟨10, .data⟩, ⟨12, .chain⟩, ⟨0, .phase⟩, ⟨1, .phase⟩, ⟨2, .phase⟩, ⟨3, .phase⟩, ⟨4, .phase⟩, ⟨5, .phase⟩, ⟨6, .phase⟩, ⟨7, .phase⟩, ⟨8, .phase⟩, ⟨9, .phase⟩, ⟨10, .phase⟩, ⟨11, .phase⟩, ⟨12, .phase⟩], none⟩) rfl (fun K hK => ?_) AllReadyH.nil
          rw [if_pos (by rfl)]
          go_wp2_with fail
          refine hK.out _ _ hHeld (fun _ => ?_)
          clear hK K
          try simp only [Act.put, qT, q0, qS]
          refine wpAnyH_done (by kernel_rfl) ?_ _
          go_wp2_with fail
          go_meet
          case rel => exact ⟨q, v', rfl, rfl, hT9, by rw [← HNL.out]; exact hrow9, HO.hr hown9, fun k hk => hbS.block k hk⟩
      case rest =>
        clear HT1 HGET
        obtain ⟨q, v', rfl, rfl, hT5, hr5, hh5, -⟩ := hcut
        generalize wc = W5 at *
        have HT5 : Hid (ST w c rb s' CP pb (.slice none 0 0) [] W5.drew) := (hT5.sub (D := CP) (fun k hk => .inl hk) HCP.out.1 HCP.out.2).step (Below.refl _ _).drew
        have HR5 : Hid (W5.drew.heap[q]? = some (.cells (rmL r v').toArray 47 (0, 0))) := hr5
        have HH5 : Hid (HR W5.drew v' r.log) := hh5.below (Below.refl _ _).drew
        obtain ⟨l, pa, capa, lvR, hF⟩ := same_facts HT5.out.ja HBD2.out (by omega) HPI2.out
        have HF : Hid (SFx c rb s' W5.drew l pa capa lvR) := hF
        clear hT5 hr5 hh5 hF
        have HPX : Hid (∀ V, Below W5.drew.heap.size W5.drew V → SQ c rb pb g (o + k * 207) rd V) := fun V hb => HSQR.out _ _ _ _ _ (HT5.out.step hb)
        go_upto_region 10 with fail
        rcases HCS.out with ⟨rfl, rfl, hno⟩ | ⟨rfl, hmem⟩
        · have HAT : Hid _ := HF.out.no rd hno W5.drew (Below.refl _ _)
          clear hno HCS
          refine wp_region_held_drew (S := SQ c rb pb g (o + k * 207) rd) (by kernel_rfl) (HPX.out _ (Below.refl _ _)) (fun hHeld => ?_)
          generalize W5.drew = W6 at *
          refine wpAnyH_take (i := 0) (oi := ⟨some 52, .fieldAddr 29 (.tmp 5) 2, 0, _, #[], none⟩) (v := .pointer (some ⟨pb, 2, none⟩)) rfl (by kernel_rfl) (by kernel_rfl) (by kernel_rfl) (fun _ _ _ h => h) (Or.inl ⟨by rfl, fun w' hw' => ?_⟩) hHeld ?_
          · first | (go_simp; done) | (go_simp; rfl)
          try simp only [Act.put, qT, q0, qS]
          refine wpAnyH_take (i := 1) (oi := ⟨some 53, .load 27 (.tmp 52), 27, _, #[⟨0, .data⟩], none⟩) (v := .pointer (some ⟨rb, 0, none⟩)) rfl (by kernel_rfl) (by kernel_rfl) (by kernel_rfl) (fun _ _ _ h => h) (Or.inl ⟨by rfl, fun w' hw' => ?_⟩) hHeld ?_
          · have hcc := hw'.c2; first | (go_simp; done) | (go_simp; rfl)
          try simp only [Act.put, qT, q0, qS]
          refine wpAnyH_take (i := 2) (oi := ⟨some 54, .move (.tmp 1), 23, _, #[], none⟩) (v := .slice (some ⟨g, o, none⟩) ls.length cap) rfl (by kernel_rfl) (by kernel_rfl) (by kernel_rfl) (fun _ _ _ h => h) (Or.inl ⟨by rfl, fun w' hw' => ?_⟩) hHeld ?_
          · first | (go_simp; done) | (go_simp; rfl)
          try simp only [Act.put, qT, q0, qS]
          refine wpAnyH_take (i := 3) (oi := ⟨some 55, .move (.tmp 6), 3, _, #[], none⟩) (v := .int .i64 k) rfl (by kernel_rfl) (by kernel_rfl) (by kernel_rfl) (fun _ _ _ h => h) (Or.inl ⟨by rfl, fun w' hw' => ?_⟩) hHeld ?_
          · first | (go_simp; done) | (go_simp; rfl)
          try simp only [Act.put, qT, q0, qS]
          refine wpAnyH_take (i := 4) (oi := ⟨some 56, .indexAddr 23 (.tmp 54) (.tmp 55), 0, _, #[⟨2, .data⟩, ⟨3, .data⟩], none⟩) (v := .pointer (some ⟨g, o + k * 207, none⟩)) rfl (by kernel_rfl) (by kernel_rfl) (by kernel_rfl) (fun _ _ _ h => h) (Or.inl ⟨by rfl, fun w' hw' => ?_⟩) hHeld ?_
          · first | (go_simp; done) | (go_simp; rfl) | (go_simp; intro hbad; omega)
          try simp only [Act.put, qT, q0, qS]
          refine wpAnyH_take (i := 5) (oi := ⟨some 57, .fieldAddr 43 (.tmp 56) 1, 0, _, #[⟨4, .data⟩], none⟩) (v := .pointer (some ⟨g, o + k * 207 + 1, none⟩)) rfl (by kernel_rfl) (by kernel_rfl) (by kernel_rfl) (fun _ _ _ h => h) (Or.inl ⟨by rfl, fun w' hw' => ?_⟩) hHeld ?_
          · first | (go_simp; done) | (go_simp; rfl)
          try simp only [Act.put, qT, q0, qS]
          refine wpAnyH_take (i := 6) (oi := ⟨some 58, .load 3 (.tmp 57), 3, _, #[⟨5, .data⟩], none⟩) (v := .int .i64 rd) rfl (by kernel_rfl) (by kernel_rfl) (by kernel_rfl) (fun _ _ _ h => h) (Or.inl ⟨by rfl, fun w' hw' => ?_⟩) hHeld ?_
          · have hcc := hw'.k1; first | (go_simp; done) | (go_simp; rfl)
          try simp only [Act.put, qT, q0, qS]
          refine wpAnyH_ready (rs := [7]) (by kernel_rfl) (by simp) ?_
          refine AllReadyH.cons (o := { dst := some 59, op := .call { callee := Go.Callee.value (.func 13), args := #[.tmp 53, .tmp 58], argTypes := #[27, 3] }, type := 3, pos := _, after := #[⟨1, .data⟩, ⟨6, .data⟩], guard := none }) rfl (fun K hK => ?_) AllReadyH.nil
          rw [if_pos (by rfl)]
          go_wp2_with fail
          refine Calls.mono HAT.out ?_
          rintro e V0 ⟨rfl, hV0⟩
          rw [← hV0]
          clear hV0 V0
          refine hK.out _ _ hHeld (fun _ => ?_)
          clear hK K
          try simp only [Act.put, qT, q0, qS]
          refine wpAnyH_ready (rs := [8]) (by kernel_rfl) (by simp) ?_
          refine AllReadyH.cons (o := ⟨some 9, .assign (.tmp 59), 3, _, #[⟨7, .data⟩, ⟨7, .chain⟩, ⟨0, .phase⟩, ⟨1, .phase⟩, ⟨2, .phase⟩, ⟨3, .phase⟩, ⟨4, .phase⟩, ⟨5, .phase⟩, ⟨6, .phase⟩, ⟨7, .phase⟩], none⟩) rfl (fun K hK => ?_) AllReadyH.nil
          rw [if_pos (by rfl)]
          go_wp2_with fail
          refine hK.out _ _ hHeld (fun _ => ?_)
          clear hK K
          try simp only [Act.put, qT, q0, qS]
          refine wpAnyH_done (by kernel_rfl) ?_ _
          clear hHeld HAT
          have hTE := HT5.out
          have HRE : Hid (W6.drew.heap[q]? = some (.cells (rmL zR v').toArray 47 (0, 0))) := HR5.out
          have HC0 : Hid (∀ V, Below W6.heap.size W6 V → V.cell? ⟨q, 0, none⟩ = some (.int .u64 0)) := fun V hb => by rw [cell_of_row _ _ 0 _ _ _ ((hb.block _ (PC.row_lt HR5.out)).trans HR5.out)]; rfl
          have HTE : Hid (ST w c rb s' CP pb (.slice none 0 0) [] W6.drew) := hTE.step (Below.refl _ _).drew
          clear hTE
          go_upto_region 11 with fail
          refine wp_region_held_drew (S := Below W6.heap.size W6) (by kernel_rfl) ((Below.refl _ _).drew) (fun hHeld => ?_)
          refine wpAnyH_take (i := 0) (oi := ⟨some 60, .move (.tmp 9), 3, _, #[], none⟩) (v := .int .i64 (-1)) rfl (by kernel_rfl) (by kernel_rfl) (by kernel_rfl) (fun _ _ _ h => h) (Or.inl ⟨by rfl, fun w' hw' => ?_⟩) hHeld ?_
          · first | (go_simp; done) | (go_simp; rfl)
          try simp only [Act.put, qT, q0, qS]
          refine wpAnyH_take (i := 1) (oi := ⟨some 61, .binOp .lss 3 (.tmp 60) (.const (Go.Value.int Go.IntKind.i64 0)) 3, 4, _, #[⟨0, .data⟩], none⟩) (v := .bool true) rfl (by kernel_rfl) (by kernel_rfl) (by kernel_rfl) (fun _ _ _ h => h) (Or.inl ⟨by rfl, fun w' hw' => ?_⟩) hHeld ?_
          · first | (go_simp; done) | (go_simp; rfl)
          try simp only [Act.put, qT, q0, qS]
          refine wpAnyH_take (i := 2) (oi := ⟨some 62, .move (.tmp 61), 4, _, #[⟨1, .data⟩], none⟩) (v := .bool true) rfl (by kernel_rfl) (by kernel_rfl) (by kernel_rfl) (fun _ _ _ h => h) (Or.inl ⟨by rfl, fun w' hw' => ?_⟩) hHeld ?_
          · first | (go_simp; done) | (go_simp; rfl)
          try simp only [Act.put, qT, q0, qS]
          refine wpAnyH_take (i := 3) (oi := ⟨some 63, .move (.tmp 8), 48, _, #[⟨2, .guard⟩], some (2, true)⟩) (v := .int .i64 6) rfl (by kernel_rfl) (by kernel_rfl) (by kernel_rfl) (fun _ _ _ h => h) (Or.inl ⟨by rfl, fun w' hw' => ?_⟩) hHeld ?_
          · first | (go_simp; done) | (go_simp; rfl)
          try simp only [Act.put, qT, q0, qS]
          refine wpAnyH_take (i := 4) (oi := ⟨some 64, .binOp .neq 48 (.tmp 63) (.const (Go.Value.int Go.IntKind.i64 6)) 48, 4, _, #[⟨3, .data⟩, ⟨2, .guard⟩], some (2, true)⟩) (v := .bool false) rfl (by kernel_rfl) (by kernel_rfl) (by kernel_rfl) (fun _ _ _ h => h) (Or.inl ⟨by rfl, fun w' hw' => ?_⟩) hHeld ?_
          · first | (go_simp; done) | (go_simp; rfl)
          try simp only [Act.put, qT, q0, qS]
          refine wpAnyH_take (i := 5) (oi := ⟨some 65, .move (.tmp 64), 4, _, #[⟨4, .data⟩, ⟨2, .chain⟩, ⟨2, .guard⟩], some (2, true)⟩) (v := .bool false) rfl (by kernel_rfl) (by kernel_rfl) (by kernel_rfl) (fun _ _ _ h => h) (Or.inl ⟨by rfl, fun w' hw' => ?_⟩) hHeld ?_
          · first | (go_simp; done) | (go_simp; rfl)
          try simp only [Act.put, qT, q0, qS]
          refine wpAnyH_take (i := 6) (oi := ⟨some 66, .fieldAddr 47 (.tmp 7) 0, 0, _, #[⟨5, .guard⟩], some (5, false)⟩) (v := .pointer (some ⟨q, 0, none⟩)) rfl (by kernel_rfl) (by kernel_rfl) (by kernel_rfl) (fun _ _ _ h => h) (Or.inl ⟨by rfl, fun w' hw' => ?_⟩) hHeld ?_
          · first | (go_simp; done) | (go_simp; rfl)
          try simp only [Act.put, qT, q0, qS]
          refine wpAnyH_take (i := 7) (oi := ⟨some 67, .load 34 (.tmp 66), 34, _, #[⟨6, .data⟩, ⟨5, .guard⟩], some (5, false)⟩) (v := .int .u64 0) rfl (by kernel_rfl) (by kernel_rfl) (by kernel_rfl) (fun _ _ _ h => h) (Or.inl ⟨by rfl, fun w' hw' => ?_⟩) hHeld ?_
          · have hcc := HC0.out _ hw'; first | (go_simp; done) | (go_simp; rfl)
          try simp only [Act.put, qT, q0, qS]
          refine wpAnyH_take (i := 8) (oi := ⟨some 68, .binOp .neq 34 (.tmp 67) (.const (Go.Value.int Go.IntKind.u64 0)) 34, 4, _, #[⟨7, .data⟩, ⟨5, .guard⟩], some (5, false)⟩) (v := .bool false) rfl (by kernel_rfl) (by kernel_rfl) (by kernel_rfl) (fun _ _ _ h => h) (Or.inl ⟨by rfl, fun w' hw' => ?_⟩) hHeld ?_
          · first | (go_simp; done) | (go_simp; rfl)
          try simp only [Act.put, qT, q0, qS]
          refine wpAnyH_take (i := 9) (oi := ⟨some 69, .pick (.tmp 65) (.const (Go.Value.bool true)) (.tmp 68), 4, _, #[⟨5, .data⟩, ⟨8, .data⟩, ⟨2, .guard⟩], some (2, true)⟩) (v := .bool false) rfl (by kernel_rfl) (by kernel_rfl) (by kernel_rfl) (fun _ _ _ h => h) (Or.inl ⟨by rfl, fun w' hw' => ?_⟩) hHeld ?_
          · first | (go_simp; done) | (go_simp; rfl)
          try simp only [Act.put, qT, q0, qS]
          refine wpAnyH_take (i := 10) (oi := ⟨some 70, .pick (.tmp 62) (.tmp 69) (.const (Go.Value.bool false)), 4, _, #[⟨2, .data⟩, ⟨9, .data⟩], none⟩) (v := .bool false) rfl (by kernel_rfl) (by kernel_rfl) (by kernel_rfl) (fun _ _ _ h => h) (Or.inl ⟨by rfl, fun w' hw' => ?_⟩) hHeld ?_
          · first | (go_simp; done) | (go_simp; rfl)
          try simp only [Act.put, qT, q0, qS]
          refine wpAnyH_take (i := 11) (oi := ⟨some 71, .move (.tmp 70), 4, _, #[⟨10, .data⟩, ⟨5, .chain⟩], none⟩) (v := .bool false) rfl (by kernel_rfl) (by kernel_rfl) (by kernel_rfl) (fun _ _ _ h => h) (Or.inl ⟨by rfl, fun w' hw' => ?_⟩) hHeld ?_
          · first | (go_simp; done) | (go_simp; rfl)
          try simp only [Act.put, qT, q0, qS]
          refine wpAnyH_take (i := 12) (oi := ⟨some 72, .move (.tmp 9), 3, _, #[⟨11, .guard⟩], some (11, false)⟩) (v := .int .i64 (-1)) rfl (by kernel_rfl) (by kernel_rfl) (by kernel_rfl) (fun _ _ _ h => h) (Or.inl ⟨by rfl, fun w' hw' => ?_⟩) hHeld ?_
          · first | (go_simp; done) | (go_simp; rfl)
          try simp only [Act.put, qT, q0, qS]
          refine wpAnyH_take (i := 13) (oi := ⟨some 73, .binOp .geq 3 (.tmp 72) (.const (Go.Value.int Go.IntKind.i64 0)) 3, 4, _, #[⟨12, .data⟩, ⟨11, .guard⟩], some (11, false)⟩) (v := .bool false) rfl (by kernel_rfl) (by kernel_rfl) (by kernel_rfl) (fun _ _ _ h => h) (Or.inl ⟨by rfl, fun w' hw' => ?_⟩) hHeld ?_
          · first | (go_simp; done) | (go_simp; rfl)
          try simp only [Act.put, qT, q0, qS]
          refine wpAnyH_take (i := 14) (oi := ⟨some 74, .move (.tmp 73), 4, _, #[⟨13, .data⟩, ⟨11, .chain⟩, ⟨11, .guard⟩], some (11, false)⟩) (v := .bool false) rfl (by kernel_rfl) (by kernel_rfl) (by kernel_rfl) (fun _ _ _ h => h) (Or.inl ⟨by rfl, fun w' hw' => ?_⟩) hHeld ?_
          · first | (go_simp; done) | (go_simp; rfl)
          try simp only [Act.put, qT, q0, qS]
          refine wpAnyH_take (i := 15) (oi := ⟨some 75, .move (.tmp 8), 48, _, #[⟨14, .guard⟩], some (14, true)⟩) (v := undef) rfl (by kernel_rfl) (by kernel_rfl) (by kernel_rfl) (fun _ _ _ h => h) (Or.inr ⟨by rfl, rfl⟩) hHeld ?_
          try simp only [Act.put, qT, q0, qS]
          refine wpAnyH_take (i := 16) (oi := ⟨some 76, .binOp .neq 48 (.tmp 75) (.const (Go.Value.int Go.IntKind.i64 0)) 48, 4, _, #[⟨15, .data⟩, ⟨14, .guard⟩], some (14, true)⟩) (v := undef) rfl (by kernel_rfl) (by kernel_rfl) (by kernel_rfl) (fun _ _ _ h => h) (Or.inr ⟨by rfl, rfl⟩) hHeld ?_
          try simp only [Act.put, qT, q0, qS]
          refine wpAnyH_take (i := 17) (oi := ⟨some 77, .move (.tmp 76), 4, _, #[⟨16, .data⟩, ⟨14, .chain⟩, ⟨14, .guard⟩], some (14, true)⟩) (v := undef) rfl (by kernel_rfl) (by kernel_rfl) (by kernel_rfl) (fun _ _ _ h => h) (Or.inr ⟨by rfl, rfl⟩) hHeld ?_
          try simp only [Act.put, qT, q0, qS]
          refine wpAnyH_take (i := 18) (oi := ⟨some 78, .load 47 (.tmp 7), 47, _, #[⟨17, .guard⟩], some (17, false)⟩) (v := undef) rfl (by kernel_rfl) (by kernel_rfl) (by kernel_rfl) (fun _ _ _ h => h) (Or.inr ⟨by rfl, rfl⟩) hHeld ?_
          try simp only [Act.put, qT, q0, qS]
          refine wpAnyH_take (i := 19) (oi := ⟨some 79, .fieldAddr 29 (.tmp 5) 2, 0, _, #[⟨17, .guard⟩], some (17, false)⟩) (v := undef) rfl (by kernel_rfl) (by kernel_rfl) (by kernel_rfl) (fun _ _ _ h => h) (Or.inr ⟨by rfl, rfl⟩) hHeld ?_
          try simp only [Act.put, qT, q0, qS]
          refine wpAnyH_take (i := 20) (oi := ⟨some 80, .load 27 (.tmp 79), 27, _, #[⟨19, .data⟩, ⟨17, .guard⟩], some (17, false)⟩) (v := undef) rfl (by kernel_rfl) (by kernel_rfl) (by kernel_rfl) (fun _ _ _ h => h) (Or.inr ⟨by rfl, rfl⟩) hHeld ?_
          try simp only [Act.put, qT, q0, qS]
          refine wpAnyH_take (i := 21) (oi := ⟨some 81, .nilCheck (.tmp 80), 0, _, #[⟨20, .data⟩, ⟨17, .guard⟩], some (17, false)⟩) (v := undef) rfl (by kernel_rfl) (by kernel_rfl) (by kernel_rfl) (fun _ _ _ h => h) (Or.inr ⟨by rfl, rfl⟩) hHeld ?_
          try simp only [Act.put, qT, q0, qS]
          refine wpAnyH_take (i := 22) (oi := ⟨some 82, .fieldAddr 58 (.tmp 81) 1, 0, _, #[⟨21, .data⟩, ⟨17, .guard⟩], some (17, false)⟩) (v := undef) rfl (by kernel_rfl) (by kernel_rfl) (by kernel_rfl) (fun _ _ _ h => h) (Or.inr ⟨by rfl, rfl⟩) hHeld ?_
          try simp only [Act.put, qT, q0, qS]
          refine wpAnyH_take (i := 23) (oi := ⟨some 83, .load 56 (.tmp 82), 56, _, #[⟨22, .data⟩, ⟨17, .guard⟩], some (17, false)⟩) (v := undef) rfl (by kernel_rfl) (by kernel_rfl) (by kernel_rfl) (fun _ _ _ h => h) (Or.inr ⟨by rfl, rfl⟩) hHeld ?_
          try simp only [Act.put, qT, q0, qS]
          refine wpAnyH_take (i := 24) (oi := ⟨some 84, .move (.tmp 9), 3, _, #[⟨17, .guard⟩], some (17, false)⟩) (v := undef) rfl (by kernel_rfl) (by kernel_rfl) (by kernel_rfl) (fun _ _ _ h => h) (Or.inr ⟨by rfl, rfl⟩) hHeld ?_
          try simp only [Act.put, qT, q0, qS]
          refine wpAnyH_take (i := 25) (oi := ⟨some 85, .indexAddr 56 (.tmp 83) (.tmp 84), 0, _, #[⟨23, .data⟩, ⟨24, .data⟩, ⟨17, .guard⟩], some (17, false)⟩) (v := undef) rfl (by kernel_rfl) (by kernel_rfl) (by kernel_rfl) (fun _ _ _ h => h) (Or.inr ⟨by rfl, rfl⟩) hHeld ?_
          try simp only [Act.put, qT, q0, qS]
          refine wpAnyH_take (i := 26) (oi := ⟨some 86, .fieldAddr 54 (.tmp 85) 1, 0, _, #[⟨25, .data⟩, ⟨17, .guard⟩], some (17, false)⟩) (v := undef) rfl (by kernel_rfl) (by kernel_rfl) (by kernel_rfl) (fun _ _ _ h => h) (Or.inr ⟨by rfl, rfl⟩) hHeld ?_
          try simp only [Act.put, qT, q0, qS]
          refine wpAnyH_take (i := 27) (oi := ⟨some 87, .load 47 (.tmp 86), 47, _, #[⟨26, .data⟩, ⟨17, .guard⟩], some (17, false)⟩) (v := undef) rfl (by kernel_rfl) (by kernel_rfl) (by kernel_rfl) (fun _ _ _ h => h) (Or.inr ⟨by rfl, rfl⟩) hHeld ?_
          try simp only [Act.put, qT, q0, qS]
          refine wpAnyH_take (i := 28) (oi := { dst := some 88, op := .call { callee := Go.Callee.value (.func 14), args := #[.tmp 78, .tmp 87], argTypes := #[47, 47] }, type := 4, pos := _, after := #[⟨18, .data⟩, ⟨27, .data⟩, ⟨17, .chain⟩, ⟨17, .guard⟩], guard := some (17, false) }) (v := undef) rfl (by kernel_rfl) (by kernel_rfl) (by kernel_rfl) (fun _ _ _ h => h) (Or.inr ⟨by rfl, rfl⟩) hHeld ?_
          try simp only [Act.put, qT, q0, qS]
          refine wpAnyH_take (i := 29) (oi := ⟨some 89, .unOp .not 4 (.tmp 88), 4, _, #[⟨28, .data⟩, ⟨17, .guard⟩], some (17, false)⟩) (v := undef) rfl (by kernel_rfl) (by kernel_rfl) (by kernel_rfl) (fun _ _ _ h => h) (Or.inr ⟨by rfl, rfl⟩) hHeld ?_
          try simp only [Act.put, qT, q0, qS]
          refine wpAnyH_take (i := 30) (oi := ⟨some 90, .pick (.tmp 77) (.const (Go.Value.bool true)) (.tmp 89), 4, _, #[⟨17, .data⟩, ⟨29, .data⟩, ⟨14, .guard⟩], some (14, true)⟩) (v := undef) rfl (by kernel_rfl) (by kernel_rfl) (by kernel_rfl) (fun _ _ _ h => h) (Or.inr ⟨by rfl, rfl⟩) hHeld ?_
          try simp only [Act.put, qT, q0, qS]
          refine wpAnyH_take (i := 31) (oi := ⟨some 91, .pick (.tmp 74) (.tmp 90) (.const (Go.Value.bool false)), 4, _, #[⟨14, .data⟩, ⟨30, .data⟩, ⟨11, .guard⟩], some (11, false)⟩) (v := .bool false) rfl (by kernel_rfl) (by kernel_rfl) (by kernel_rfl) (fun _ _ _ h => h) (Or.inl ⟨by rfl, fun w' hw' => ?_⟩) hHeld ?_
          · first | (go_simp; done) | (go_simp; rfl)
          try simp only [Act.put, qT, q0, qS]
          refine wpAnyH_take (i := 32) (oi := ⟨some 92, .pick (.tmp 71) (.const (Go.Value.bool true)) (.tmp 91), 4, _, #[⟨11, .data⟩, ⟨31, .data⟩], none⟩) (v := .bool false) rfl (by kernel_rfl) (by kernel_rfl) (by kernel_rfl) (fun _ _ _ h => h) (Or.inl ⟨by rfl, fun w' hw' => ?_⟩) hHeld ?_
          · first | (go_simp; done) | (go_simp; rfl)
          try simp only [Act.put, qT, q0, qS]
          refine wpAnyH_done (by kernel_rfl) ?_ _
          clear hHeld HC0
          go_wp2
          go_roundw
          case rel => exact ⟨k + 1, s', by omega, by go_num, HTE.out, HBD2.out, HPI2.out⟩
          case measure => simp [intOf]; omega
        · obtain ⟨lv, hlv⟩ := HF.out.mem rd r hmem
          obtain ⟨j, ga, lv2, hj, hpa, hat⟩ := HF.out.at_ rd r lv hlv
          subst hpa
          have HAT : Hid _ := (hat W5.drew (Below.refl _ _)).1
          have HRW : Hid (∀ V, Below W5.drew.heap.size W5.drew V → V.rangeAt ga (j * 104 + 1) (rmL r lv2) ∧ HR V lv2 r.log) := fun V hb => (hat V hb).2
          have HJ : Hid (j < l.length) := hj
          clear hmem HCS hlv hat hj
          refine wp_region_held_drew (S := SQ c rb pb g (o + k * 207) rd) (by kernel_rfl) (HPX.out _ (Below.refl _ _)) (fun hHeld => ?_)
          generalize W5.drew = W6 at *
          refine wpAnyH_take (i := 0) (oi := ⟨some 52, .fieldAddr 29 (.tmp 5) 2, 0, _, #[], none⟩) (v := .pointer (some ⟨pb, 2, none⟩)) rfl (by kernel_rfl) (by kernel_rfl) (by kernel_rfl) (fun _ _ _ h => h) (Or.inl ⟨by rfl, fun w' hw' => ?_⟩) hHeld ?_
          · first | (go_simp; done) | (go_simp; rfl)
          try simp only [Act.put, qT, q0, qS]
          refine wpAnyH_take (i := 1) (oi := ⟨some 53, .load 27 (.tmp 52), 27, _, #[⟨0, .data⟩], none⟩) (v := .pointer (some ⟨rb, 0, none⟩)) rfl (by kernel_rfl) (by kernel_rfl) (by kernel_rfl) (fun _ _ _ h => h) (Or.inl ⟨by rfl, fun w' hw' => ?_⟩) hHeld ?_
          · have hcc := hw'.c2; first | (go_simp; done) | (go_simp; rfl)
          try simp only [Act.put, qT, q0, qS]
          refine wpAnyH_take (i := 2) (oi := ⟨some 54, .move (.tmp 1), 23, _, #[], none⟩) (v := .slice (some ⟨g, o, none⟩) ls.length cap) rfl (by kernel_rfl) (by kernel_rfl) (by kernel_rfl) (fun _ _ _ h => h) (Or.inl ⟨by rfl, fun w' hw' => ?_⟩) hHeld ?_
          · first | (go_simp; done) | (go_simp; rfl)
          try simp only [Act.put, qT, q0, qS]
          refine wpAnyH_take (i := 3) (oi := ⟨some 55, .move (.tmp 6), 3, _, #[], none⟩) (v := .int .i64 k) rfl (by kernel_rfl) (by kernel_rfl) (by kernel_rfl) (fun _ _ _ h => h) (Or.inl ⟨by rfl, fun w' hw' => ?_⟩) hHeld ?_
          · first | (go_simp; done) | (go_simp; rfl)
          try simp only [Act.put, qT, q0, qS]
          refine wpAnyH_take (i := 4) (oi := ⟨some 56, .indexAddr 23 (.tmp 54) (.tmp 55), 0, _, #[⟨2, .data⟩, ⟨3, .data⟩], none⟩) (v := .pointer (some ⟨g, o + k * 207, none⟩)) rfl (by kernel_rfl) (by kernel_rfl) (by kernel_rfl) (fun _ _ _ h => h) (Or.inl ⟨by rfl, fun w' hw' => ?_⟩) hHeld ?_
          · first | (go_simp; done) | (go_simp; rfl) | (go_simp; intro hbad; omega)
          try simp only [Act.put, qT, q0, qS]
          refine wpAnyH_take (i := 5) (oi := ⟨some 57, .fieldAddr 43 (.tmp 56) 1, 0, _, #[⟨4, .data⟩], none⟩) (v := .pointer (some ⟨g, o + k * 207 + 1, none⟩)) rfl (by kernel_rfl) (by kernel_rfl) (by kernel_rfl) (fun _ _ _ h => h) (Or.inl ⟨by rfl, fun w' hw' => ?_⟩) hHeld ?_
          · first | (go_simp; done) | (go_simp; rfl)
          try simp only [Act.put, qT, q0, qS]
          refine wpAnyH_take (i := 6) (oi := ⟨some 58, .load 3 (.tmp 57), 3, _, #[⟨5, .data⟩], none⟩) (v := .int .i64 rd) rfl (by kernel_rfl) (by kernel_rfl) (by kernel_rfl) (fun _ _ _ h => h) (Or.inl ⟨by rfl, fun w' hw' => ?_⟩) hHeld ?_
          · have hcc := hw'.k1; first | (go_simp; done) | (go_simp; rfl)
          try simp only [Act.put, qT, q0, qS]
          refine wpAnyH_ready (rs := [7]) (by kernel_rfl) (by simp) ?_
          refine AllReadyH.cons (o := { dst := some 59, op := .call { callee := Go.Callee.value (.func 13), args := #[.tmp 53, .tmp 58], argTypes := #[27, 3] }, type := 3, pos := _, after := #[⟨1, .data⟩, ⟨6, .data⟩], guard := none }) rfl (fun K hK => ?_) AllReadyH.nil
          rw [if_pos (by rfl)]
          go_wp2_with fail
          refine Calls.mono HAT.out ?_
          rintro e V0 ⟨rfl, hV0⟩
          rw [← hV0]
          clear hV0 V0
          refine hK.out _ _ hHeld (fun _ => ?_)
          clear hK K
          try simp only [Act.put, qT, q0, qS]
          refine wpAnyH_ready (rs := [8]) (by kernel_rfl) (by simp) ?_
          refine AllReadyH.cons (o := ⟨some 9, .assign (.tmp 59), 3, _, #[⟨7, .data⟩, ⟨7, .chain⟩, ⟨0, .phase⟩, ⟨1, .phase⟩, ⟨2, .phase⟩, ⟨3, .phase⟩, ⟨4, .phase⟩, ⟨5, .phase⟩, ⟨6, .phase⟩, ⟨7, .phase⟩], none⟩) rfl (fun K hK => ?_) AllReadyH.nil
          rw [if_pos (by rfl)]
          go_wp2_with fail
          refine hK.out _ _ hHeld (fun _ => ?_)
          clear hK K
          try simp only [Act.put, qT, q0, qS]
          refine wpAnyH_done (by kernel_rfl) ?_ _
          clear hHeld HAT
          have HMN : Hid ((rmL r lv2).length = 103) := rmL_len HRO.out _
          have HNN : Hid ((rmL r v').length = 103) := rmL_len HRO.out _
          have HSM : Hid (∀ V, Below W6.heap.size W6 V → Calls Tryz.prog 14 #[.agg (rmL r v').toArray, .agg (rmL r lv2).toArray] V fun e Y => e = .returned (.bool true) ∧ Below V.heap.size V Y) := fun V hb => same_eq r v' lv2 V HRO.out HRL.out (HH5.out.below hb) (HRW.out V hb).2
          obtain ⟨NL, hNL⟩ : ∃ NL, NL = rmL r v' := ⟨_, rfl⟩
          obtain ⟨ML, hML⟩ : ∃ ML, ML = rmL r lv2 := ⟨_, rfl⟩
          have hrr := HR5.out
          rw [← hNL] at hrr HNN HSM
          rw [← hML] at HRW HMN HSM
          have HC9 : Hid (∀ V, Below W6.heap.size W6 V → V.cell? ⟨pb, 2, none⟩ = some (.pointer (some ⟨rb, 0, none⟩)) ∧ V.cell? ⟨rb, 1, none⟩ = some (.slice (some ⟨ga, 0, none⟩) l.length capa) ∧ V.rangeAt ga (j * 104 + 1) ML ∧ V.rangeAt q 0 NL) := fun V hV => ⟨(HPX.out V hV).c2, (HF.out.len V hV).2.1, (HRW.out V hV).1, PC.rangeAt_row ((hV.block _ (PC.row_lt hrr)).trans hrr)⟩
          have HNJ : Hid _ := info103 NL HNN.out
          have HMJ : Hid _ := info103 ML HMN.out
          have HTE : Hid (ST w c rb s' CP pb (.slice none 0 0) [] W6) := HT5.out
          have hjI : (j : Int) < (l.length : Int) := by have := HJ.out; omega
          clear hNL hML hrr HRW
          go_upto_region 11 with fail
          refine wp_region_held_drew (S := Below W6.heap.size W6) (by kernel_rfl) ((Below.refl _ _).drew) (fun hHeld => ?_)
          refine wpAnyH_take (i := 0) (oi := ⟨some 60, .move (.tmp 9), 3, _, #[], none⟩) (v := .int .i64 (j : Int)) rfl (by kernel_rfl) (by kernel_rfl) (by kernel_rfl) (fun _ _ _ h => h) (Or.inl ⟨by rfl, fun w' hw' => ?_⟩) hHeld ?_
          · first | (go_simp; done) | (go_simp; rfl)
          try simp only [Act.put, qT, q0, qS]
          refine wpAnyH_take (i := 1) (oi := ⟨some 61, .binOp .lss 3 (.tmp 60) (.const (Go.Value.int Go.IntKind.i64 0)) 3, 4, _, #[⟨0, .data⟩], none⟩) (v := .bool false) rfl (by kernel_rfl) (by kernel_rfl) (by kernel_rfl) (fun _ _ _ h => h) (Or.inl ⟨by rfl, fun w' hw' => ?_⟩) hHeld ?_
          · first | (go_simp; done) | (go_simp; rfl) | (go_simp; omega)
          try simp only [Act.put, qT, q0, qS]
          refine wpAnyH_take (i := 2) (oi := ⟨some 62, .move (.tmp 61), 4, _, #[⟨1, .data⟩], none⟩) (v := .bool false) rfl (by kernel_rfl) (by kernel_rfl) (by kernel_rfl) (fun _ _ _ h => h) (Or.inl ⟨by rfl, fun w' hw' => ?_⟩) hHeld ?_
          · first | (go_simp; done) | (go_simp; rfl)
          try simp only [Act.put, qT, q0, qS]
          refine wpAnyH_take (i := 3) (oi := ⟨some 63, .move (.tmp 8), 48, _, #[⟨2, .guard⟩], some (2, true)⟩) (v := undef) rfl (by kernel_rfl) (by kernel_rfl) (by kernel_rfl) (fun _ _ _ h => h) (Or.inr ⟨by rfl, rfl⟩) hHeld ?_
          try simp only [Act.put, qT, q0, qS]
          refine wpAnyH_take (i := 4) (oi := ⟨some 64, .binOp .neq 48 (.tmp 63) (.const (Go.Value.int Go.IntKind.i64 6)) 48, 4, _, #[⟨3, .data⟩, ⟨2, .guard⟩], some (2, true)⟩) (v := undef) rfl (by kernel_rfl) (by kernel_rfl) (by kernel_rfl) (fun _ _ _ h => h) (Or.inr ⟨by rfl, rfl⟩) hHeld ?_
          try simp only [Act.put, qT, q0, qS]
          refine wpAnyH_take (i := 5) (oi := ⟨some 65, .move (.tmp 64), 4, _, #[⟨4, .data⟩, ⟨2, .chain⟩, ⟨2, .guard⟩], some (2, true)⟩) (v := undef) rfl (by kernel_rfl) (by kernel_rfl) (by kernel_rfl) (fun _ _ _ h => h) (Or.inr ⟨by rfl, rfl⟩) hHeld ?_
          try simp only [Act.put, qT, q0, qS]
          refine wpAnyH_take (i := 6) (oi := ⟨some 66, .fieldAddr 47 (.tmp 7) 0, 0, _, #[⟨5, .guard⟩], some (5, false)⟩) (v := undef) rfl (by kernel_rfl) (by kernel_rfl) (by kernel_rfl) (fun _ _ _ h => h) (Or.inr ⟨by rfl, rfl⟩) hHeld ?_
          try simp only [Act.put, qT, q0, qS]
          refine wpAnyH_take (i := 7) (oi := ⟨some 67, .load 34 (.tmp 66), 34, _, #[⟨6, .data⟩, ⟨5, .guard⟩], some (5, false)⟩) (v := undef) rfl (by kernel_rfl) (by kernel_rfl) (by kernel_rfl) (fun _ _ _ h => h) (Or.inr ⟨by rfl, rfl⟩) hHeld ?_
          try simp only [Act.put, qT, q0, qS]
          refine wpAnyH_take (i := 8) (oi := ⟨some 68, .binOp .neq 34 (.tmp 67) (.const (Go.Value.int Go.IntKind.u64 0)) 34, 4, _, #[⟨7, .data⟩, ⟨5, .guard⟩], some (5, false)⟩) (v := undef) rfl (by kernel_rfl) (by kernel_rfl) (by kernel_rfl) (fun _ _ _ h => h) (Or.inr ⟨by rfl, rfl⟩) hHeld ?_
          try simp only [Act.put, qT, q0, qS]
          refine wpAnyH_take (i := 9) (oi := ⟨some 69, .pick (.tmp 65) (.const (Go.Value.bool true)) (.tmp 68), 4, _, #[⟨5, .data⟩, ⟨8, .data⟩, ⟨2, .guard⟩], some (2, true)⟩) (v := undef) rfl (by kernel_rfl) (by kernel_rfl) (by kernel_rfl) (fun _ _ _ h => h) (Or.inr ⟨by rfl, rfl⟩) hHeld ?_
          try simp only [Act.put, qT, q0, qS]
          refine wpAnyH_take (i := 10) (oi := ⟨some 70, .pick (.tmp 62) (.tmp 69) (.const (Go.Value.bool false)), 4, _, #[⟨2, .data⟩, ⟨9, .data⟩], none⟩) (v := .bool false) rfl (by kernel_rfl) (by kernel_rfl) (by kernel_rfl) (fun _ _ _ h => h) (Or.inl ⟨by rfl, fun w' hw' => ?_⟩) hHeld ?_
          · first | (go_simp; done) | (go_simp; rfl)
          try simp only [Act.put, qT, q0, qS]
          refine wpAnyH_take (i := 11) (oi := ⟨some 71, .move (.tmp 70), 4, _, #[⟨10, .data⟩, ⟨5, .chain⟩], none⟩) (v := .bool false) rfl (by kernel_rfl) (by kernel_rfl) (by kernel_rfl) (fun _ _ _ h => h) (Or.inl ⟨by rfl, fun w' hw' => ?_⟩) hHeld ?_
          · first | (go_simp; done) | (go_simp; rfl)
          try simp only [Act.put, qT, q0, qS]
          refine wpAnyH_take (i := 12) (oi := ⟨some 72, .move (.tmp 9), 3, _, #[⟨11, .guard⟩], some (11, false)⟩) (v := .int .i64 (j : Int)) rfl (by kernel_rfl) (by kernel_rfl) (by kernel_rfl) (fun _ _ _ h => h) (Or.inl ⟨by rfl, fun w' hw' => ?_⟩) hHeld ?_
          · first | (go_simp; done) | (go_simp; rfl)
          try simp only [Act.put, qT, q0, qS]
          refine wpAnyH_take (i := 13) (oi := ⟨some 73, .binOp .geq 3 (.tmp 72) (.const (Go.Value.int Go.IntKind.i64 0)) 3, 4, _, #[⟨12, .data⟩, ⟨11, .guard⟩], some (11, false)⟩) (v := .bool true) rfl (by kernel_rfl) (by kernel_rfl) (by kernel_rfl) (fun _ _ _ h => h) (Or.inl ⟨by rfl, fun w' hw' => ?_⟩) hHeld ?_
          · first | (go_simp; done) | (go_simp; rfl) | (go_simp; omega)
          try simp only [Act.put, qT, q0, qS]
          refine wpAnyH_take (i := 14) (oi := ⟨some 74, .move (.tmp 73), 4, _, #[⟨13, .data⟩, ⟨11, .chain⟩, ⟨11, .guard⟩], some (11, false)⟩) (v := .bool true) rfl (by kernel_rfl) (by kernel_rfl) (by kernel_rfl) (fun _ _ _ h => h) (Or.inl ⟨by rfl, fun w' hw' => ?_⟩) hHeld ?_
          · first | (go_simp; done) | (go_simp; rfl)
          try simp only [Act.put, qT, q0, qS]
          refine wpAnyH_take (i := 15) (oi := ⟨some 75, .move (.tmp 8), 48, _, #[⟨14, .guard⟩], some (14, true)⟩) (v := .int .i64 0) rfl (by kernel_rfl) (by kernel_rfl) (by kernel_rfl) (fun _ _ _ h => h) (Or.inl ⟨by rfl, fun w' hw' => ?_⟩) hHeld ?_
          · first | (go_simp; done) | (go_simp; rfl)
          try simp only [Act.put, qT, q0, qS]
          refine wpAnyH_take (i := 16) (oi := ⟨some 76, .binOp .neq 48 (.tmp 75) (.const (Go.Value.int Go.IntKind.i64 0)) 48, 4, _, #[⟨15, .data⟩, ⟨14, .guard⟩], some (14, true)⟩) (v := .bool false) rfl (by kernel_rfl) (by kernel_rfl) (by kernel_rfl) (fun _ _ _ h => h) (Or.inl ⟨by rfl, fun w' hw' => ?_⟩) hHeld ?_
          · first | (go_simp; done) | (go_simp; rfl)
          try simp only [Act.put, qT, q0, qS]
          refine wpAnyH_take (i := 17) (oi := ⟨some 77, .move (.tmp 76), 4, _, #[⟨16, .data⟩, ⟨14, .chain⟩, ⟨14, .guard⟩], some (14, true)⟩) (v := .bool false) rfl (by kernel_rfl) (by kernel_rfl) (by kernel_rfl) (fun _ _ _ h => h) (Or.inl ⟨by rfl, fun w' hw' => ?_⟩) hHeld ?_
          · first | (go_simp; done) | (go_simp; rfl)
          try simp only [Act.put, qT, q0, qS]
          refine wpAnyH_take (i := 18) (oi := ⟨some 78, .load 47 (.tmp 7), 47, _, #[⟨17, .guard⟩], some (17, false)⟩) rfl (by kernel_rfl) (by kernel_rfl) (by kernel_rfl) (fun _ _ _ h => h) (yieldsIf_load_mid (by rfl) 47 (.tmp 7) rfl (q) (0) rfl (NL) _ (fun _ h => (HC9.out _ h).2.2.2) Tryz.underlying47 rfl HNJ.out) hHeld ?_
          try simp only [Act.put, qT, q0, qS]
          refine wpAnyH_take (i := 19) (oi := ⟨some 79, .fieldAddr 29 (.tmp 5) 2, 0, _, #[⟨17, .guard⟩], some (17, false)⟩) (v := .pointer (some ⟨pb, 2, none⟩)) rfl (by kernel_rfl) (by kernel_rfl) (by kernel_rfl) (fun _ _ _ h => h) (Or.inl ⟨by rfl, fun w' hw' => ?_⟩) hHeld ?_
          · first | (go_simp; done) | (go_simp; rfl)
          try simp only [Act.put, qT, q0, qS]
          refine wpAnyH_take (i := 20) (oi := ⟨some 80, .load 27 (.tmp 79), 27, _, #[⟨19, .data⟩, ⟨17, .guard⟩], some (17, false)⟩) (v := .pointer (some ⟨rb, 0, none⟩)) rfl (by kernel_rfl) (by kernel_rfl) (by kernel_rfl) (fun _ _ _ h => h) (Or.inl ⟨by rfl, fun w' hw' => ?_⟩) hHeld ?_
          · have hcc := (HC9.out _ hw').1; first | (go_simp; done) | (go_simp; rfl)
          try simp only [Act.put, qT, q0, qS]
          refine wpAnyH_take (i := 21) (oi := ⟨some 81, .nilCheck (.tmp 80), 0, _, #[⟨20, .data⟩, ⟨17, .guard⟩], some (17, false)⟩) (v := .pointer (some ⟨rb, 0, none⟩)) rfl (by kernel_rfl) (by kernel_rfl) (by kernel_rfl) (fun _ _ _ h => h) (Or.inl ⟨by rfl, fun w' hw' => ?_⟩) hHeld ?_
          · first | (go_simp; done) | (go_simp; rfl)
          try simp only [Act.put, qT, q0, qS]
          refine wpAnyH_take (i := 22) (oi := ⟨some 82, .fieldAddr 58 (.tmp 81) 1, 0, _, #[⟨21, .data⟩, ⟨17, .guard⟩], some (17, false)⟩) (v := .pointer (some ⟨rb, 1, none⟩)) rfl (by kernel_rfl) (by kernel_rfl) (by kernel_rfl) (fun _ _ _ h => h) (Or.inl ⟨by rfl, fun w' hw' => ?_⟩) hHeld ?_
          · first | (go_simp; done) | (go_simp; rfl)
          try simp only [Act.put, qT, q0, qS]
          refine wpAnyH_take (i := 23) (oi := ⟨some 83, .load 56 (.tmp 82), 56, _, #[⟨22, .data⟩, ⟨17, .guard⟩], some (17, false)⟩) (v := .slice (some ⟨ga, 0, none⟩) l.length capa) rfl (by kernel_rfl) (by kernel_rfl) (by kernel_rfl) (fun _ _ _ h => h) (Or.inl ⟨by rfl, fun w' hw' => ?_⟩) hHeld ?_
          · have hcc := (HC9.out _ hw').2.1; first | (go_simp; done) | (go_simp; rfl)
          try simp only [Act.put, qT, q0, qS]
          refine wpAnyH_take (i := 24) (oi := ⟨some 84, .move (.tmp 9), 3, _, #[⟨17, .guard⟩], some (17, false)⟩) (v := .int .i64 (j : Int)) rfl (by kernel_rfl) (by kernel_rfl) (by kernel_rfl) (fun _ _ _ h => h) (Or.inl ⟨by rfl, fun w' hw' => ?_⟩) hHeld ?_
          · first | (go_simp; done) | (go_simp; rfl)
          try simp only [Act.put, qT, q0, qS]
          refine wpAnyH_take (i := 25) (oi := ⟨some 85, .indexAddr 56 (.tmp 83) (.tmp 84), 0, _, #[⟨23, .data⟩, ⟨24, .data⟩, ⟨17, .guard⟩], some (17, false)⟩) (v := .pointer (some ⟨ga, j * 104, none⟩)) rfl (by kernel_rfl) (by kernel_rfl) (by kernel_rfl) (fun _ _ _ h => h) (Or.inl ⟨by rfl, fun w' hw' => ?_⟩) hHeld ?_
          · first | (go_simp; done) | (go_simp; rfl) | (go_simp; intro hbad; omega)
          try simp only [Act.put, qT, q0, qS]
          refine wpAnyH_take (i := 26) (oi := ⟨some 86, .fieldAddr 54 (.tmp 85) 1, 0, _, #[⟨25, .data⟩, ⟨17, .guard⟩], some (17, false)⟩) (v := .pointer (some ⟨ga, j * 104 + 1, none⟩)) rfl (by kernel_rfl) (by kernel_rfl) (by kernel_rfl) (fun _ _ _ h => h) (Or.inl ⟨by rfl, fun w' hw' => ?_⟩) hHeld ?_
          · first | (go_simp; done) | (go_simp; rfl)
          try simp only [Act.put, qT, q0, qS]
          refine wpAnyH_take (i := 27) (oi := ⟨some 87, .load 47 (.tmp 86), 47, _, #[⟨26, .data⟩, ⟨17, .guard⟩], some (17, false)⟩) rfl (by kernel_rfl) (by kernel_rfl) (by kernel_rfl) (fun _ _ _ h => h) (yieldsIf_load_mid (by rfl) 47 (.tmp 86) rfl (ga) (j * 104 + 1) rfl (ML) _ (fun _ h => (HC9.out _ h).2.2.1) Tryz.underlying47 rfl HMJ.out) hHeld ?_
          try simp only [Act.put, qT, q0, qS]
          refine wpAnyH_ready (rs := [28]) (by kernel_rfl) (by simp) ?_
          refine AllReadyH.cons (o := { dst := some 88, op := .call { callee := Go.Callee.value (.func 14), args := #[.tmp 78, .tmp 87], argTypes := #[47, 47] }, type := 4, pos := _, after := #[⟨18, .data⟩, ⟨27, .data⟩, ⟨17, .chain⟩, ⟨17, .guard⟩], guard := some (17, false) }) rfl (fun K hK => ?_) AllReadyH.nil
          rw [if_pos (by rfl)]
          go_wp2_with fail
          refine Calls.mono (HSM.out _ hHeld) ?_
          rintro e V2 ⟨rfl, hv2⟩
          have hHeld2 : Below W6.heap.size W6 V2 := hHeld.trans (hv2.mono hHeld.size)
          have HTF : Hid (ST w c rb s' CP pb (.slice none 0 0) [] V2) := HTE.out.step hHeld2
          clear hHeld hv2
          have hHeld := hHeld2
          clear hHeld2
          refine hK.out _ _ hHeld (fun _ => ?_)
          clear hK K
          try simp only [Act.put, qT, q0, qS]
          refine wpAnyH_take (i := 29) (oi := ⟨some 89, .unOp .not 4 (.tmp 88), 4, _, #[⟨28, .data⟩, ⟨17, .guard⟩], some (17, false)⟩) (v := .bool false) rfl (by kernel_rfl) (by kernel_rfl) (by kernel_rfl) (fun _ _ _ h => h) (Or.inl ⟨by rfl, fun w' hw' => ?_⟩) hHeld ?_
          · first | (go_simp; done) | (go_simp; rfl)
          try simp only [Act.put, qT, q0, qS]
          refine wpAnyH_take (i := 30) (oi := ⟨some 90, .pick (.tmp 77) (.const (Go.Value.bool true)) (.tmp 89), 4, _, #[⟨17, .data⟩, ⟨29, .data⟩, ⟨14, .guard⟩], some (14, true)⟩) (v := .bool false) rfl (by kernel_rfl) (by kernel_rfl) (by kernel_rfl) (fun _ _ _ h => h) (Or.inl ⟨by rfl, fun w' hw' => ?_⟩) hHeld ?_
          · first | (go_simp; done) | (go_simp; rfl)
          try simp only [Act.put, qT, q0, qS]
          refine wpAnyH_take (i := 31) (oi := ⟨some 91, .pick (.tmp 74) (.tmp 90) (.const (Go.Value.bool false)), 4, _, #[⟨14, .data⟩, ⟨30, .data⟩, ⟨11, .guard⟩], some (11, false)⟩) (v := .bool false) rfl (by kernel_rfl) (by kernel_rfl) (by kernel_rfl) (fun _ _ _ h => h) (Or.inl ⟨by rfl, fun w' hw' => ?_⟩) hHeld ?_
          · first | (go_simp; done) | (go_simp; rfl)
          try simp only [Act.put, qT, q0, qS]
          refine wpAnyH_take (i := 32) (oi := ⟨some 92, .pick (.tmp 71) (.const (Go.Value.bool true)) (.tmp 91), 4, _, #[⟨11, .data⟩, ⟨31, .data⟩], none⟩) (v := .bool false) rfl (by kernel_rfl) (by kernel_rfl) (by kernel_rfl) (fun _ _ _ h => h) (Or.inl ⟨by rfl, fun w' hw' => ?_⟩) hHeld ?_
          · first | (go_simp; done) | (go_simp; rfl)
          try simp only [Act.put, qT, q0, qS]
          refine wpAnyH_done (by kernel_rfl) ?_ _
          clear hHeld HC9 HSM hjI
          go_wp2
          go_roundw
          case rel => exact ⟨k + 1, s', by omega, by go_num, HTF.out, HBD2.out, HPI2.out⟩
          case measure => simp [intOf]; omega
    · have hke : k = ls.length := by omega
      subst hke
      obtain ⟨l, pa, capa, lvR, hF⟩ := same_facts HT.out.ja HBD.out (by omega) HPI.out
      have hcx := HT.out.pr
      have hc1 : W.cell? ⟨pb, 1, none⟩ = some (.pointer (some ⟨c.xb, 0, none⟩)) := by rw [cell_of_row _ _ 1 _ _ _ hcx]; rfl
      have HFI : Hid _ := hF.find W 0 (Below.refl _ _)
      have HGE : Hid (∀ x ∈ l, 1 ≤ x.2.1.inst) := hF.ge
      clear hF hBd hPI HBD HPI hk hlt HLS hcx hST
      go_wp2_with fail
      refine Calls.mono HFI.out ?_
      rintro e W1 ⟨rd', b', rfl, hFD, hb1⟩
      have hbf : b' = false := by
        rcases hFD with ⟨h1, x, hx, h2, h3⟩ | ⟨h1, h2, h3⟩
        · have := HGE.out x hx; omega
        · exact h1
      subst hbf
      have HB1 : Hid (Below w.heap.size w W1) := HT.out.bel.trans (hb1.mono HT.out.bel.size)
      clear hFD hb1 HFI HGE hc1 HT
      go_wp2_with fail
      refine Calls.mono (known_any W1) ?_
      rintro e wk ⟨rfl, hbk⟩
      have HBF : Hid (Below w.heap.size w wk) := HB1.out.trans (hbk.mono HB1.out.size)
      clear hbk HB1
      go_wp2
      go_ret
      exact ⟨rfl, HBF.out⟩
end Go.Proofs.YtekbppfocnbhbaaGreat.XC
