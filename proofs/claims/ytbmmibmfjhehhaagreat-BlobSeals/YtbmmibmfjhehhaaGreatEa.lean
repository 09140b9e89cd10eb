/- The document's Stream in either mode; its Seal. -/
import Derived.Test.YtbmmibmfjhehhaaGreatBZ
import Derived.Test.YtbmmibmfjhehhaaGreatN9
set_option linter.unusedVariables false
set_option linter.unusedSimpArgs false
namespace Go.Proofs.YtbmmibmfjhehhaaGreat.BC
open Go.RowKit

theorem strO_sx (m : List UInt8) (D : List (List UInt8)) (L : Lg) (q : R5.Qn) : ∀ k, R5.strO q (rrG true m D L) k = ((sxL D L q k).1, rrG true m D (sxL D L q k).2)
  | 0 => rfl
  | k + 1 => by
    have ih := strO_sx m D L q k
    have hn := rNx_nx2 true m D (sxL D L q k).2 (R5.PS.sQ q k)
    unfold R5.rNx at hn
    rw [if_pos (show (rrG true m D (sxL D L q k).2).ideal = true from rfl)] at hn
    show ((R5.strO q (rrG true m D L) k).1 ++ (R5.askO (R5.strO q (rrG true m D L) k).2 (R5.PS.sQ q k)).1, (R5.askO (R5.strO q (rrG true m D L) k).2 (R5.PS.sQ q k)).2) = _
    rw [ih]
    show ((sxL D L q k).1 ++ (R5.askO (rrG true m D (sxL D L q k).2) (R5.PS.sQ q k)).1, (R5.askO (rrG true m D (sxL D L q k).2) (R5.PS.sQ q k)).2) = _
    rw [hn]
    rfl
theorem rstr_any (B og : Nat) (S : Nat → Prop) (i : Bool) (m : List UInt8) (D : List (List UInt8)) (L : Lg) (key data : List UInt8) (dq dv lv : Value) (lds : List Value) (t : TypeId) (w : World) (hk : key.length = 32) (hd : data.length ≤ 1000000) (hB : B ≤ w.heap.size) (hll : L.length < 900000) (ho : R5.OR B og S w (rrG i m D L) dv lv lds t) (hdq : HB w dq data) (hqo : data ≠ [] → ∀ j, dq.ownBlock = some j → ¬ S j) :
    Calls Tryz.prog 24 #[.pointer (some ⟨og, 0, none⟩), .agg (R5.qL ⟨4, key, 10, data⟩ dq).toArray, .int .i64 128] w fun e w' => SQE B og S w ((st2 i D L ⟨4, key, 10, data⟩).1, rrG i m D (st2 i D L ⟨4, key, 10, data⟩).2) dv t e w' := by
  cases i with
  | true =>
    refine (R5.stream_any B og S dq dv lv (rrG true m D L) lds t ⟨4, key, 10, data⟩ 128 w rfl hll (Nat.lt_of_le_of_lt (rrG_used true m D L) hll) hd (by decide) hB ho hk hdq (fun hne j e => ⟨R5.hb_lt hdq hne j e, hqo hne j e⟩)).mono ?_
    rintro e w' ⟨v, m4, rfl, h1, h2, h3, h4, h5, h6⟩
    obtain rfl : m4 = 4 := by omega
    rw [strO_sx] at h3 h6
    unfold st2
    rw [if_pos rfl]
    exact ⟨v, rfl, h3, h5, h6⟩
  | false =>
    have q := rstream_conc B og S dq dv lv (rrG false m D L) lds t ⟨4, key, 10, data⟩ w rfl (Nat.lt_trans hll (by decide)) (Nat.lt_of_le_of_lt (rrG_used false m D L) (Nat.lt_trans hll (by decide))) hd hB ho hk hdq (fun hne e => hqo hne og e ho.sog)
    have e : ∀ f, (R5.askC (rrG false m D L) ⟨4, key, 10, data⟩ f).2 = rrG false m D (ad2 L ⟨4, key, 10, data⟩ f) := fun f => by
      unfold ad2 R5.askC
      simp only [rrG]
      cases R5.fndA (⟨4, key, 10, data⟩ : R5.Qn) L <;> rfl
    rw [e] at q
    rw [st2_co]
    clear e
    generalize bg (cst ⟨4, key, 10, data⟩) = f at *
    generalize cst ⟨4, key, 10, data⟩ = c at *
    exact q
set_option maxHeartbeats 4000000 in
set_option maxRecDepth 100000 in
theorem rseal_any (B og : Nat) (S : Nat → Prop) (key g x : List UInt8) (p c : Nat) (dv lv : Value) (o o2 : R5.Ora) (lds : List Value) (t : TypeId) (w : World) (hk : key.length = 32) (hg : g.length = 128) (hp : p < 128) (hc : c ≤ 4294967296) (hB : B ≤ w.heap.size) (ho : R5.OR B og S w o dv lv lds t) (hx : x.length = 128)
    (hS : ∀ W dq, Below w.heap.size w W → HB W dq (W1.le 8 p ++ W1.le 8 c) → (∀ j, dq.ownBlock = some j → w.heap.size ≤ j) → Calls Tryz.prog 24 #[.pointer (some ⟨og, 0, none⟩), .agg (R5.qL ⟨4, key, 10, W1.le 8 p ++ W1.le 8 c⟩ dq).toArray, .int .i64 128] W fun e w' => SQE B og S W (x, o2) dv t e w') :
    Calls Tryz.prog 12 #[.pointer (some ⟨og, 0, none⟩), .agg (key.map B8).toArray, .int .i64 (p : Int), .int .u64 (c : Int), .agg (g.map B8).toArray] w fun e w' => R5.QEnd B og S w (mx g x, o2) dv t e w' := by
  have hz := fun W => zero_gr W
  obtain ⟨ZL, hZL⟩ : ∃ L, L = Z128.map B8 := ⟨_, rfl⟩
  rw [← hZL] at hz
  have HZN : Hid (ZL.length = 128) := by show _ = _; rw [hZL]; simp [z128_len]
  obtain ⟨QF, hQF⟩ : ∃ QF : Option Addr → Nat → List Value, QF = fun p' c' => R5.qL ⟨4, key, 10, W1.le 8 p ++ W1.le 8 c⟩ (.slice p' 16 c') := ⟨_, rfl⟩
  have HBK : Hid (∀ (p' : Option Addr) (c' : Nat) (W : World), (Instr.build 66 #[(0, .int .i64 4), (1, .agg (key.map B8).toArray), (2, .int .i64 10), (3, .slice p' 16 c')]).run Tryz.prog W = .ok (.agg (QF p' c').toArray) W) := fun p' c' W => by rw [hQF]; exact R5.build_q4 W 4 10 (key.map B8) (by simpa using hk) p' 16 c'
  have HLL : Hid ((W1.le 8 p ++ W1.le 8 c).length = 16) := by show _ = _; simp [W1.le_length]
  have HBO : Hid (∀ W, Calls Tryz.prog 25 #[.int .i64 (p : Int), .int .u64 (c : Int)] W fun e w' => ∃ v, e = .returned v ∧ FB W.heap.size w' v (W1.le 8 p ++ W1.le 8 c) ∧ Below W.heap.size W w') := fun W => rboth_any p c W hp hc
  have HS : Hid (∀ (W : World) (p' : Option Addr) (c' : Nat), Below w.heap.size w W → HB W (.slice p' 16 c') (W1.le 8 p ++ W1.le 8 c) → (∀ j, (Value.slice p' 16 c').ownBlock = some j → w.heap.size ≤ j) → Calls Tryz.prog 24 #[.pointer (some ⟨og, 0, none⟩), .agg (QF p' c').toArray, .int .i64 128] W fun e w' => SQE B og S W (x, o2) dv t e w') := fun W p' c' h1 h2 h3 => by rw [hQF]; exact hS W _ h1 h2 h3
  have HMX : Hid (∀ W, Calls Tryz.prog 26 #[.agg (g.map B8).toArray, .agg (x.map B8).toArray] W fun e w' => e = .returned (.agg ((mx g x).map B8).toArray) ∧ Below W.heap.size W w') := fun W => rmix_any g x W hg hx
  have HML : Hid (((mx g x).map B8).length = 128) := by show _ = _; rw [List.length_map]; exact mx_len _ _ hg hx
  have HM1 : Hid _ := B8_onea (mx g x)
  have HXN : Hid ((x.map B8).length = 128) := by show _ = _; simpa using hx
  have HX1 : Hid _ := B8_one' x
  have HPN : Hid ((g.map B8).length = 128) := by show _ = _; simpa using hg
  have HKN : Hid ((key.map B8).length = 32) := by show _ = _; simpa using hk
  have HSP : Hid (splice ZL 0 (x.map B8) = x.map B8) := splice_whole _ _ (HXN.out.trans HZN.out.symm)
  have HSRC : Hid (∀ (X : World) (v : Value), HB X v x → ∃ p' cap ad, v = .slice p' 128 cap ∧ p' = some ad ∧ ∀ (j : Nat) u, (x.map B8)[j]? = some u → X.cell? (ad.add j) = some u) := fun X v hv => by
    obtain ⟨p', cap, hve, _, hcx⟩ := R5.hb_cells hv
    rw [hx] at hve
    rcases p' with _ | ad
    · rcases hv with ⟨h, _⟩ | ⟨b, o, c, h, _⟩
      · rw [h] at hx; simp at hx
      · rw [hve] at h; simp at h
    · exact ⟨_, cap, ad, hve, rfl, hcx ad rfl⟩
  have HLO : Hid (∀ k, S k → k < w.heap.size) := ho.top
  have HEND : Hid (∀ (Y1 Y2 Y5 : World), Below w.heap.size w Y1 → R5.Fr S Y1 Y2 → (∃ lv' lds', R5.OR B og (fun k => S k ∨ (Y1.heap.size ≤ k ∧ k < Y2.heap.size)) Y2 o2 dv lv' lds' t) → R5.Fr (fun k => w.heap.size ≤ k ∧ k < Y1.heap.size) Y2 Y5 → R5.QEnd B og S w (mx g x, o2) dv t (.returned (.agg ((mx g x).map B8).toArray)) Y5) := fun Y1 Y2 Y5 h1 h2 h3 h4 => ⟨rfl, R5.rfin ho hB h1 h2 h3 h4⟩
  have HT0 : Hid _ := ((((RS.start w).alloc w.heap.size rfl 23 (key.map B8)).alloc (w.heap.size + 1) (by simp) 29 (g.map B8)).alloc (w.heap.size + 1 + 1) (by simp) 29 ZL).alloc (w.heap.size + 1 + 1 + 1) (by simp) 29 ZL
  have hsl := fun W => sliceGr W (w.heap.size + 1 + 1 + 1)
  clear hS ho hB hk hg hx hp hc hZL hQF
  generalize (mx g x).map B8 = ML at *
  generalize (mx g x, o2) = RR at *
  generalize W1.le 8 p ++ W1.le 8 c = DA at *
  generalize key.map B8 = KL at *
  generalize g.map B8 = GL at *
  generalize x.map B8 = XL at *
  go_enter Tryz.func12, Tryz.ntmps12
  go_upto_region 2 with fail
  generalize World.alloc _ _ = X0 at *
  have HT1 : Hid _ := HT0.out.step (Below.refl _ _).drew
  refine wp_region_held_drew (S := fun X => X.rangeAt w.heap.size 0 KL) (by kernel_rfl) (rangeAt_row (HT1.out.at 3 rfl)) (fun hHeld => ?_)
  clear HT0
  generalize World.drew _ = Y0 at *
  refine wpAnyH_take (i := 0) (oi := ⟨some 12, .slice 29 (.tmp 11) none none none, 64, _, #[], none⟩) (v := .slice (some ⟨w.heap.size + 1 + 1 + 1, 0, none⟩) 128 128) rfl (by kernel_rfl) (by kernel_rfl) (by kernel_rfl) (fun _ _ _ h => h) (Or.inl ⟨by rfl, fun w' hw' => ?_⟩) hHeld ?_
  · first | (go_simp; done) | (go_simp; rfl)
  try simp only [Act.put, qT, q0, qS]
  refine wpAnyH_take (i := 1) (oi := ⟨some 13, .move (.tmp 0), 32, _, #[], none⟩) (v := .pointer (some ⟨og, 0, none⟩)) rfl (by kernel_rfl) (by kernel_rfl) (by kernel_rfl) (fun _ _ _ h => h) (Or.inl ⟨by rfl, fun w' hw' => ?_⟩) hHeld ?_
  · first | (go_simp; done) | (go_simp; rfl)
  try simp only [Act.put, qT, q0, qS]
  refine wpAnyH_take (i := 2) (oi := ⟨some 14, .load 23 (.tmp 6), 23, _, #[], none⟩) rfl (by kernel_rfl) (by kernel_rfl) (by kernel_rfl) (fun _ _ _ h => h) (yieldsIf_load_mid (by rfl) 23 (.tmp 6) rfl (w.heap.size) (0) rfl (KL) _ (fun _ h => h) Tryz.underlying23 rfl (R5.info32 KL HKN.out)) hHeld ?_
  try simp only [Act.put, qT, q0, qS]
  refine wpAnyH_take (i := 3) (oi := ⟨some 15, .move (.tmp 2), 3, _, #[], none⟩) (v := .int .i64 (p : Int)) rfl (by kernel_rfl) (by kernel_rfl) (by kernel_rfl) (fun _ _ _ h => h) (Or.inl ⟨by rfl, fun w' hw' => ?_⟩) hHeld ?_
  · first | (go_simp; done) | (go_simp; rfl)
  try simp only [Act.put, qT, q0, qS]
  refine wpAnyH_take (i := 4) (oi := ⟨some 16, .move (.tmp 3), 27, _, #[], none⟩) (v := .int .u64 (c : Int)) rfl (by kernel_rfl) (by kernel_rfl) (by kernel_rfl) (fun _ _ _ h => h) (Or.inl ⟨by rfl, fun w' hw' => ?_⟩) hHeld ?_
  · first | (go_simp; done) | (go_simp; rfl)
  try simp only [Act.put, qT, q0, qS]
  refine wpAnyH_ready (rs := [5]) (by kernel_rfl) (by simp) ?_
  refine AllReadyH.cons (o := { dst := some 17, op := .call { callee := Go.Callee.value (.func 25), args := #[.tmp 15, .tmp 16], argTypes := #[3, 27] }, type := 64, pos := _, after := #[⟨3, .data⟩, ⟨4, .data⟩], guard := none }) rfl (fun K hK => ?_) AllReadyH.nil
  rw [if_pos (by rfl)]
  go_wp2_with fail
  refine Calls.mono (HBO.out Y0) ?_
  rintro e Y1 ⟨v, rfl, hf, hb⟩
  obtain ⟨p1, c1, hv1, _⟩ := R5.hb_cells hf.hb
  rw [HLL.out] at hv1
  subst hv1
  have hs0 := HT1.out.bel.size
  have HT2 : Hid _ := HT1.out.step hb
  have HC : Hid (Calls Tryz.prog 24 #[.pointer (some ⟨og, 0, none⟩), .agg (QF p1 c1).toArray, .int .i64 128] Y1 fun e w' => SQE B og S Y1 (x, o2) dv t e w') := HS.out Y1 p1 c1 HT2.out.bel hf.hb (fun j e => by have := (World.ownsRow.lt hf j e).1; omega)
  have hH1 : Y1.rangeAt w.heap.size 0 KL := rangeAt_row (HT2.out.at 3 rfl)
  clear hf hb hs0 HT1 HS HBO
  refine hK.out _ _ hH1 (fun _ => ?_)
  clear hK K
  try simp only [Act.put, qT, q0, qS]
  clear hHeld
  have hHeld := hH1
  clear hH1
  refine wpAnyH_take (i := 6) (oi := ⟨some 18, .build 66 #[(0, .const (Go.Value.int Go.IntKind.i64 4)), (1, .tmp 14), (2, .const (Go.Value.int Go.IntKind.i64 10)), (3, .tmp 17)], 66, _, #[⟨2, .data⟩, ⟨5, .data⟩], none⟩) (v := .agg (QF p1 c1).toArray) rfl (by kernel_rfl) (by kernel_rfl) (by kernel_rfl) (fun _ _ _ h => h) (Or.inl ⟨by rfl, fun w' hw' => ?_⟩) hHeld ?_
  · exact R5.exec_build _ _ 66 _ _ _ w' rfl (by simp; exact ⟨rfl, rfl, rfl, rfl⟩) (HBK.out p1 c1 w')
  try simp only [Act.put, qT, q0, qS]
  refine wpAnyH_ready (rs := [7]) (by kernel_rfl) (by simp) ?_
  refine AllReadyH.cons (o := { dst := some 19, op := .call { callee := Go.Callee.value (.func 24), args := #[.tmp 13, .tmp 18, .const (Go.Value.int Go.IntKind.i64 128)], argTypes := #[32, 66, 3] }, type := 64, pos := _, after := #[⟨1, .data⟩, ⟨6, .data⟩, ⟨5, .chain⟩], guard := none }) rfl (fun K hK => ?_) AllReadyH.nil
  rw [if_pos (by rfl)]
  go_wp2_with fail
  refine Calls.mono HC.out ?_
  rintro e Y2 ⟨v2, rfl, hv2, hfr, hor⟩
  obtain ⟨_, c2, ad, rfl, rfl, hcx⟩ := HSRC.out Y2 v2 hv2
  have r0 := (hfr.block _ (R5.row_lt (HT2.out.at 0 rfl)) (fun h => by have := HLO.out _ h; omega)).trans (HT2.out.at 0 rfl)
  have r1 := (hfr.block _ (R5.row_lt (HT2.out.at 1 rfl)) (fun h => by have := HLO.out _ h; omega)).trans (HT2.out.at 1 rfl)
  have r2 := (hfr.block _ (R5.row_lt (HT2.out.at 2 rfl)) (fun h => by have := HLO.out _ h; omega)).trans (HT2.out.at 2 rfl)
  have r3 := (hfr.block _ (R5.row_lt (HT2.out.at 3 rfl)) (fun h => by have := HLO.out _ h; omega)).trans (HT2.out.at 3 rfl)
  have HLT : Hid (w.heap.size + 1 + 1 + 1 < Y1.heap.size) := R5.row_lt (HT2.out.at 0 rfl)
  have HQ : Hid (∀ Y5, R5.Fr (fun k => w.heap.size ≤ k ∧ k < Y1.heap.size) Y2 Y5 → R5.QEnd B og S w RR dv t (.returned (.agg ML.toArray)) Y5) := fun Y5 h => HEND.out Y1 Y2 Y5 HT2.out.bel hfr hor h
  have hH2 : Y2.rangeAt w.heap.size 0 KL := rangeAt_row r3
  clear hfr hor hv2 HEND HT2 HC
  refine hK.out _ _ hH2 (fun _ => ?_)
  clear hK K
  try simp only [Act.put, qT, q0, qS]
  refine wpAnyH_ready (rs := [8]) (by kernel_rfl) (by simp) ?_
  refine AllReadyH.cons (o := { dst := some 20, op := .call { callee := Go.Callee.builtin Go.Builtin.copy, args := #[.tmp 12, .tmp 19], argTypes := #[64, 64] }, type := 3, pos := _, after := #[⟨0, .data⟩, ⟨7, .data⟩, ⟨7, .chain⟩], guard := none }) rfl (fun K hK => ?_) AllReadyH.nil
  rw [if_pos (by rfl)]
  refine R5.wp_copy_seg (.tmp 12) (.tmp 19) rfl (w.heap.size + 1 + 1 + 1) 0 128 128 (some ad) 128 c2 rfl rfl ZL 29 r0 XL (by rw [HXN.out]; rfl) (fun _ => ⟨ad, rfl, hcx⟩) (by rw [HXN.out, HZN.out]; decide) HX1.out ?_
  rw [HSP.out]
  have hH3 : (Y2.setRow (w.heap.size + 1 + 1 + 1) XL.toArray).rangeAt w.heap.size 0 KL := rangeAt_setRow hH2 (by omega)
  refine hK.out _ _ hH3 (fun _ => ?_)
  clear hK K
  try simp only [Act.put, qT, q0, qS]
  refine wpAnyH_done (by kernel_rfl) ?_ _
  have HS0 : Hid ((Y2.setRow (w.heap.size + 1 + 1 + 1) XL.toArray).heap[w.heap.size + 1 + 1 + 1]? = some (.cells XL.toArray 29 (0, 0))) := setRow_heap _ _ _ _ _ _ r0
  have HS1 : Hid ((Y2.setRow (w.heap.size + 1 + 1 + 1) XL.toArray).heap[w.heap.size + 1 + 1]? = some (.cells ZL.toArray 29 (0, 0))) := (setRow_other _ _ _ _ (by omega)).trans r1
  have HS2 : Hid ((Y2.setRow (w.heap.size + 1 + 1 + 1) XL.toArray).heap[w.heap.size + 1]? = some (.cells GL.toArray 29 (0, 0))) := (setRow_other _ _ _ _ (by omega)).trans r2
  have HF3 : Hid (R5.Fr (fun k => w.heap.size ≤ k ∧ k < Y1.heap.size) Y2 (Y2.setRow (w.heap.size + 1 + 1 + 1) XL.toArray)) := (R5.Fr.refl _ _).setRow _ _ (.inl ⟨by omega, HLT.out⟩)
  clear hHeld hH2 hH3 r0 r1 r2 r3 hcx
  generalize Y2.setRow (w.heap.size + 1 + 1 + 1) XL.toArray = Y3 at *
  go_wp2_with (first
    | (refine wpList_load_mid rfl 29 (.tmp 9) rfl (w.heap.size + 1) 0 rfl GL _ (rangeAt_row HS2.out) Tryz.underlying29 rfl (info128 GL HPN.out) ?_)
    | (refine wpList_load_mid rfl 29 (.tmp 11) rfl (w.heap.size + 1 + 1 + 1) 0 rfl XL _ (rangeAt_row HS0.out) Tryz.underlying29 rfl (info128 XL HXN.out) ?_))
  refine Calls.mono (HMX.out Y3) ?_
  rintro e Y4 ⟨rfl, hb4⟩
  have HR1 : Hid (Y4.heap[w.heap.size + 1 + 1]? = some (.cells ZL.toArray 29 (0, 0))) := (hb4.block _ (R5.row_lt HS1.out)).trans HS1.out
  have HE : Hid (R5.QEnd B og S w RR dv t (.returned (.agg ML.toArray)) (Y4.setRow (w.heap.size + 1 + 1) ML.toArray)) := HQ.out _ ((HF3.out.then hb4).setRow _ _ (.inl ⟨by omega, by have := HLT.out; omega⟩))
  clear hb4 HS0 HS1 HS2 HF3
  go_wp2_with (refine wpList_store_row rfl 29 _ _ rfl (w.heap.size + 1 + 1) ML.toArray rfl rfl 29 ZL.toArray HR1.out (info128a ML HML.out) (by simp [HML.out, HZN.out]) HM1.out ?_)
  refine bodyPost_ret (v := .agg ML.toArray) ?_ rfl HE.out
  exact results_cell_row Tryz.results12 _ _ (w.heap.size + 1 + 1) 29 _ (0, 0) _ rfl (setRow_heap _ _ _ _ _ _ HR1.out) Tryz.underlying29 rfl (info128a ML HML.out)
section
variable {w X Y : World} {og mb rg : Nat} {i : Bool} {m : List UInt8} {D : List (List UInt8)} {L L' R R' : Lg} {rows : Rws}
theorem TB.rseal (h : TB w og mb rg i m D L R rows X) (hll : R.length < 900000) (key g : List UInt8) (p c : Nat) (hgl : gL D R) (hk : key.length = 32) (hg : g.length = 128) (hp : p < 128) (hc : c ≤ 4294967296) :
    Calls Tryz.prog 12 #[.pointer (some ⟨rg, 0, none⟩), .agg (key.map B8).toArray, .int .i64 (p : Int), .int .u64 (c : Int), .agg (g.map B8).toArray] X fun e Y => e = .returned (.agg ((mx g (st2 i D R ⟨4, key, 10, W1.le 8 p ++ W1.le 8 c⟩).1).map B8).toArray) ∧ TB w og mb rg i m D L (st2 i D R ⟨4, key, 10, W1.le 8 p ++ W1.le 8 c⟩).2 rows Y :=
  h.rask fun T dr lv lds ho => rseal_any w.heap.size rg T key g (st2 i D R ⟨4, key, 10, W1.le 8 p ++ W1.le 8 c⟩).1 p c dr lv _ (rrG i m D (st2 i D R ⟨4, key, 10, W1.le 8 p ++ W1.le 8 c⟩).2) lds _ X hk hg hp hc h.bel.size ho (st2_len hgl hk).1
    (fun W dq hW hd hown => rstr_any w.heap.size rg T i m D R key _ dq dr lv lds _ W hk (by simp [W1.le_length]) (Nat.le_trans h.bel.size hW.size) hll (ho.keep hW.size (fun k hk _ => hW.block k hk)) hd (fun _ j e hT => by have := hown j e; have := ho.top j hT; omega))
end
end Go.Proofs.YtbmmibmfjhehhaaGreat.BC
