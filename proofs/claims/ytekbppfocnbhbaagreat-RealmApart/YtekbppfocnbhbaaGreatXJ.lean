import Derived.Test.YtekbppfocnbhbaaGreatWk
set_option linter.unusedVariables false
set_option linter.unusedSimpArgs false
set_option maxHeartbeats 16000000
set_option maxRecDepth 100000
namespace Go.Proofs.YtekbppfocnbhbaaGreat.XC
open Go.RowKit
open Go.ChangeMaps (setBlock)
section
variable {c : Cx} {tn last last' : Nat} {L L' R : Lg} {I J : Nat → Prop} {X Y Z W W' : World} {l l' : List En} {E : Nat → Prop}
def ChEnd (c : Cx) (tn : Nat) (L' R : Lg) (I : Nat → Prop) (X : World) (l a b : List En) (rd : Int) (r' : Rm) (last : Nat) (E : Nat → Prop) (e : Ending) (Y : World) : Prop := ∃ lv', e = .returned (.int .i64 0) ∧ PD c tn L' R I X Y l (a ++ (rd, r', lv') :: b) last E
def ClOk (c : Cx) (tn : Nat) (L' R : Lg) (I : Nat → Prop) (W : World) (bb : Nat) (E : Nat → Prop) (lg : List Rd) (lv : Value) (r' : Rm) (e : Ending) (W' : World) : Prop := ∃ lv', e = .returned (.int .i64 0) ∧ CD c tn L' R I W W' bb E lg lv r' lv'
structure Ahd (c : Cx) (tn : Nat) (L R : Lg) (I : Nat → Prop) (X W : World) (l : List En) (last bb : Nat) (RL : List Value) : Prop where
  bel : Below X.heap.size X W
  jp : JP c tn L R (up I X W) W l last
  low : X.heap.size ≤ bb
  row : W.heap[bb]? = some (.cells RL.toArray 47 (0, 0))
  nlow : c.n ≤ X.heap.size
theorem ahd_mk {w1 : World} {ZL NL : List Value} (h : JP c tn L R I X l last) (hb1 : Below X.heap.size X w1) :
    Ahd c tn L R I X ((w1.alloc (.cells ZL.toArray 47 (0, 0))).setRow w1.heap.size NL.toArray) l last w1.heap.size NL := by
  have hB : Below X.heap.size X ((w1.alloc (.cells ZL.toArray 47 (0, 0))).setRow w1.heap.size NL.toArray) := below_setRow (hb1.alloc hb1.size _) hb1.size _
  exact ⟨hB, h.grow hB, hb1.size, setRow_heap _ _ _ _ _ _ (heap_alloc_new _ _), h.mm.low.2⟩
structure SC (og xb mb last bb : Nat) (NL : List Value) (Y : World) : Prop where
  x : Y.heap[xb]? = some (.cells (xL og mb last).toArray 80 (0, 0))
  r : Y.heap[bb]? = some (.cells NL.toArray 47 (0, 0))
theorem SC.cell {og xb mb last bb : Nat} {NL : List Value} {Y : World} (h : SC og xb mb last bb NL Y) : Y.cell? ⟨xb, 1, none⟩ = some (.map (some mb)) := by rw [cell_of_row _ _ _ _ _ _ h.x]; rfl
theorem chg_no (h : JP c tn L R I X l last) {rd : Int} (hrd : iOk rd) (hno : NoRd l rd) (fv : Value) :
    Calls Tryz.prog 63 #[.pointer (some ⟨c.xb, 0, none⟩), .int .i64 rd, fv] X fun e Y => e = .returned (.int .i64 6) ∧ Below X.heap.size X Y := by
  have hok := zR_ok
  have hhr : HR X (.slice none 0 0) zR.log := .inl ⟨rfl, rfl⟩
  have HAT : Hid _ := h.at_no hrd hno
  generalize (zR : Rm) = r at *
  generalize hlv : (Value.slice none 0 0) = lv at *
  clear hlv hno
  have hz := fun W => zero_rm W
  obtain ⟨ZL, hZL⟩ : ∃ L, L = rmL zR (.slice none 0 0) := ⟨_, rfl⟩
  rw [← hZL] at hz
  have HZN : Hid (ZL.toArray.size = 103) := by show _ = _; rw [hZL]; simpa using rmL_len zR_ok _
  have HNN : Hid ((rmL r lv).length = 103) := rmL_len hok _
  have HN1 : Hid ((rmL r lv).toArray.all (·.oneCell') = true) := rmL_onea r hhr
  obtain ⟨NL, hNL⟩ : ∃ L, L = rmL r lv := ⟨_, rfl⟩
  rw [← hNL] at HNN HN1 HAT
  have HNS : Hid (NL.toArray.size = 103) := by show _ = _; simpa using HNN.out
  have HNI : Hid ((Tryz.prog.info? 47).map (·.size) = some NL.toArray.size) := info103a _ HNS.out
  have HZN2 : Hid (ZL.toArray.size = NL.toArray.size) := HZN.out.trans HNS.out.symm
  clear hok hhr hZL h hNL
  go_enter Tryz.func63, Tryz.ntmps63
  go_wp2_with fail
  refine Calls.mono HAT.out ?_
  rintro e w1 ⟨rfl, hb1⟩
  have hs1 := hb1.size
  have HRA : Hid ((w1.alloc (.cells ZL.toArray 47 (0, 0))).heap[w1.heap.size]? = some (.cells ZL.toArray 47 (0, 0))) := heap_alloc_new _ _
  have HB2 : Hid (Below X.heap.size X ((w1.alloc (.cells ZL.toArray 47 (0, 0))).setRow w1.heap.size NL.toArray)) := below_setRow (hb1.alloc hs1 _) hs1 _
  clear hb1 HAT
  go_wp2_with (refine wpList_store_row rfl 47 _ _ rfl w1.heap.size NL.toArray rfl rfl 47 ZL.toArray HRA.out HNI.out HZN2.out HN1.out ?_)
  go_ret
  exact ⟨rfl, HB2.out⟩
theorem cActivate_err (h : JP c tn L R I X l last) {rd : Int} (hrd : iOk rd) {a b : List En} {r : Rm} {lv : Value} (hl : l = a ++ (rd, r, lv) :: b) (p q s : Nat) (er : Int) (her : er ≠ 0)
    (hdo : ∀ W bb, Ahd c tn L R I X W l last bb (rmL r lv) → Calls Tryz.prog 69 (#[.pointer (some ⟨bb, 0, none⟩)] ++ #[]) W fun e W' => e = .returned (.int .i64 er) ∧ Below W.heap.size W W') :
    Calls Tryz.prog 63 #[.pointer (some ⟨c.xb, 0, none⟩), .int .i64 rd, .func (.func 69) #[] #[]] X fun e Y => e = .returned (.int .i64 er) ∧ Below X.heap.size X Y := by
  have hmem : (rd, r, lv) ∈ l := by rw [hl]; simp
  have hok := h.px.ok _ hmem
  have hhr := h.px.hr hmem
  have HAT : Hid _ := h.at_is hrd hl
  have her1 : (er == 0) = false := by simpa using her
  have HDO : Hid (∀ W bb, Ahd c tn L R I X W l last bb (rmL r lv) → Calls Tryz.prog 69 (#[.pointer (some ⟨bb, 0, none⟩)] ++ #[]) W fun e W' => e = .returned (.int .i64 er) ∧ Below W.heap.size W W') := hdo
  clear hdo her hmem
  have hz := fun W => zero_rm W
  obtain ⟨ZL, hZL⟩ : ∃ L, L = rmL zR (.slice none 0 0) := ⟨_, rfl⟩
  rw [← hZL] at hz
  have HZN : Hid (ZL.toArray.size = 103) := by show _ = _; rw [hZL]; simpa using rmL_len zR_ok _
  have HNN : Hid ((rmL r lv).length = 103) := rmL_len hok _
  have HN1 : Hid ((rmL r lv).toArray.all (·.oneCell') = true) := rmL_onea r hhr
  obtain ⟨NL, hNL⟩ : ∃ L, L = rmL r lv := ⟨_, rfl⟩
  rw [← hNL] at HNN HN1 HAT
  have HNL : Hid (NL = rmL r lv) := hNL
  have HNS : Hid (NL.toArray.size = 103) := by show _ = _; simpa using HNN.out
  have HNI : Hid ((Tryz.prog.info? 47).map (·.size) = some NL.toArray.size) := info103a _ HNS.out
  have HZN2 : Hid (ZL.toArray.size = NL.toArray.size) := HZN.out.trans HNS.out.symm
  have HJ : Hid (JP c tn L R I X l last) := h
  clear hok hhr hZL h hNL
  go_enter Tryz.func63, Tryz.ntmps63
  go_wp2_with fail
  refine Calls.mono HAT.out ?_
  rintro e w1 ⟨rfl, hb1⟩
  have hs1 := hb1.size
  have HRA : Hid ((w1.alloc (.cells ZL.toArray 47 (0, 0))).heap[w1.heap.size]? = some (.cells ZL.toArray 47 (0, 0))) := heap_alloc_new _ _
  have HAH : Hid (Ahd c tn L R I X ((w1.alloc (.cells ZL.toArray 47 (0, 0))).setRow w1.heap.size NL.toArray) l last w1.heap.size NL) := ahd_mk HJ.out hb1
  clear hb1 HAT
  go_wp2_with (refine wpList_store_row rfl 47 _ _ rfl w1.heap.size NL.toArray rfl rfl 47 ZL.toArray HRA.out HNI.out HZN2.out HN1.out ?_)
  refine Calls.mono (HDO.out _ _ (HNL.out ▸ HAH.out)) ?_
  rintro e w2 ⟨rfl, hb2⟩
  have HB3 : Hid (Below X.heap.size X w2) := HAH.out.bel.trans (hb2.mono HAH.out.bel.size)
  clear hb2
  go_wp2
  go_ret
  exact ⟨rfl, HB3.out⟩
theorem cActivate_ok (h : JP c tn L R I X l last) {rd : Int} (hrd : iOk rd) {a b : List En} {r r' : Rm} {lv : Value} (hl : l = a ++ (rd, r, lv) :: b) (p q s : Nat) (hE : ∀ k, E k → ¬ FP c.xb c.mb l k)
    (hdo : ∀ W bb, Ahd c tn L R I X W l last bb (rmL r lv) → Calls Tryz.prog 69 (#[.pointer (some ⟨bb, 0, none⟩)] ++ #[]) W fun e W' => ClOk c tn L' R (up I X W) W bb E r.log lv r' e W') :
    Calls Tryz.prog 63 #[.pointer (some ⟨c.xb, 0, none⟩), .int .i64 rd, .func (.func 69) #[] #[]] X fun e Y => ChEnd c tn L' R I X l a b rd r' last E e Y := by
  have hmem : (rd, r, lv) ∈ l := by rw [hl]; simp
  have hok := h.px.ok _ hmem
  have hhr := h.px.hr hmem
  have HFX : Hid (lv.ownBlock ≠ some c.xb ∧ lv.ownBlock ≠ some c.mb) := ⟨fun e => (h.px.far _ hmem _ e).1 rfl, fun e => (h.px.far _ hmem _ e).2 rfl⟩
  have HAT : Hid _ := h.at_is hrd hl
  have HLL : Hid (l = a ++ (rd, r, lv) :: b) := hl
  have HE : Hid (∀ k, E k → ¬ FP c.xb c.mb l k) := hE
  have HDO : Hid (∀ W bb, Ahd c tn L R I X W l last bb (rmL r lv) → Calls Tryz.prog 69 (#[.pointer (some ⟨bb, 0, none⟩)] ++ #[]) W fun e W' => ClOk c tn L' R (up I X W) W bb E r.log lv r' e W') := hdo
  clear hdo hmem hl hE
  have hz := fun W => zero_rm W
  obtain ⟨ZL, hZL⟩ : ∃ L, L = rmL zR (.slice none 0 0) := ⟨_, rfl⟩
  rw [← hZL] at hz
  have HZN : Hid (ZL.toArray.size = 103) := by show _ = _; rw [hZL]; simpa using rmL_len zR_ok _
  have HNN : Hid ((rmL r lv).length = 103) := rmL_len hok _
  have HN1 : Hid ((rmL r lv).toArray.all (·.oneCell') = true) := rmL_onea r hhr
  obtain ⟨NL, hNL⟩ : ∃ L, L = rmL r lv := ⟨_, rfl⟩
  rw [← hNL] at HNN HN1 HAT
  have HNL : Hid (NL = rmL r lv) := hNL
  have HNS : Hid (NL.toArray.size = 103) := by show _ = _; simpa using HNN.out
  have HNI : Hid ((Tryz.prog.info? 47).map (·.size) = some NL.toArray.size) := info103a _ HNS.out
  have HZN2 : Hid (ZL.toArray.size = NL.toArray.size) := HZN.out.trans HNS.out.symm
  have HJ : Hid (JP c tn L R I X l last) := h
  clear hok hhr hZL h hNL
  go_enter Tryz.func63, Tryz.ntmps63
  go_wp2_with fail
  refine Calls.mono HAT.out ?_
  rintro e w1 ⟨rfl, hb1⟩
  have hs1 := hb1.size
  have HRA : Hid ((w1.alloc (.cells ZL.toArray 47 (0, 0))).heap[w1.heap.size]? = some (.cells ZL.toArray 47 (0, 0))) := heap_alloc_new _ _
  have HAH : Hid (Ahd c tn L R I X ((w1.alloc (.cells ZL.toArray 47 (0, 0))).setRow w1.heap.size NL.toArray) l last w1.heap.size NL) := ahd_mk HJ.out hb1
  clear hb1 HAT
  go_wp2_with (refine wpList_store_row rfl 47 _ _ rfl w1.heap.size NL.toArray rfl rfl 47 ZL.toArray HRA.out HNI.out HZN2.out HN1.out ?_)
  refine Calls.mono (HDO.out _ _ (HNL.out ▸ HAH.out)) ?_
  rintro e w2 ⟨lv', rfl, hcd⟩
  have hA := HAH.out
  have hbW := hA.bel
  have hlow := hA.low
  have hAj := hA.jp
  generalize hW : (w1.alloc (.cells ZL.toArray 47 (0, 0))).setRow w1.heap.size NL.toArray = W at *
  have hsW := hbW.size
  have hsW2 := hcd.size
  have hxl := PC.row_lt HJ.out.px.row
  have hml := HJ.out.px.map.lt
  have hxW : w2.heap[c.xb]? = some (.cells (xL c.og c.mb last).toArray 80 (0, 0)) := (hcd.fr c.xb (by omega) (.inl (HJ.out.px.fI _ (.inl rfl)).1) (by omega) (fun hE' => HE.out _ hE' (.inl rfl)) HFX.out.1).trans hAj.px.row
  have hmW : w2.heap[c.mb]? = W.heap[c.mb]? := hcd.fr c.mb (by omega) (.inl (HJ.out.px.fI _ (.inr (.inl rfl))).1) (by omega) (fun hE' => HE.out _ hE' (.inr (.inl rfl))) HFX.out.2
  have hMR : MR w2 c.mb l := hAj.px.map.keep hmW
  have HMN : Hid ((rmL r' lv').length = 103) := rmL_len hcd.ok _
  have HSC : Hid (SC c.og c.xb c.mb last w1.heap.size (rmL r' lv') w2.drew) := ⟨hxW, hcd.row⟩
  have HPUT : Hid (∃ o, (Instr.mapUpdate 78 (.map (some c.mb)) (.int .i64 rd) (.agg (rmL r' lv').toArray)).run Tryz.prog w2.drew = .ok () (setBlock w2.drew c.mb o) ∧ MR (setBlock w2.drew c.mb o) c.mb (a ++ (rd, r', lv') :: b) ∧ w2.drew.grownBy (setBlock w2.drew c.mb o) (some c.mb)) := mr_put (hMR.keep (w' := w2.drew) rfl) hrd HLL.out r' lv'
  have HFIN : Hid (∀ o, MR (setBlock w2.drew c.mb o) c.mb (a ++ (rd, r', lv') :: b) → w2.drew.grownBy (setBlock w2.drew c.mb o) (some c.mb) → ChEnd c tn L' R I X l a b rd r' last E (.returned (.int .i64 0)) (setBlock w2.drew c.mb o)) := fun o hm hg => ⟨lv', rfl, pd_of_cd HJ.out HLL.out hbW hlow hcd HE.out hm ⟨hg.os, hg.tape, hg.output, hg.size, hg.block⟩⟩
  clear hcd hA hbW hAj hW hxW hmW hMR HAH hml hxl hsW2 hsW hlow
  generalize rmL r' lv' = ML at *
  have HMI : Hid _ := info103 ML HMN.out
  go_wp2_with fail
  refine wp_region_held_drew (S := SC c.og c.xb c.mb last w1.heap.size ML) (by kernel_rfl) HSC.out (fun hHeld => ?_)
  generalize w2.drew = U at *
  refine qzI 0 ⟨some 22, .move (.tmp 0), 26, _, #[], none⟩ (.pointer (some ⟨c.xb, 0, none⟩)) rfl (by kernel_rfl) (fun _ _ _ h => h) (by rfl) (fun w' hw' => ?_) hHeld ?_
  · go_simp <;> rfl
  try simp only [Act.put, qT, q0, qS]
  refine qzI 1 ⟨some 23, .nilCheck (.tmp 22), 0, _, #[⟨0, .data⟩], none⟩ (.pointer (some ⟨c.xb, 0, none⟩)) rfl (by kernel_rfl) (fun _ _ _ h => h) (by rfl) (fun w' hw' => ?_) hHeld ?_
  · go_simp <;> rfl
  try simp only [Act.put, qT, q0, qS]
  refine qzI 2 ⟨some 24, .fieldAddr 80 (.tmp 23) 1, 0, _, #[⟨1, .data⟩], none⟩ (.pointer (some ⟨c.xb, 1, none⟩)) rfl (by kernel_rfl) (fun _ _ _ h => h) (by rfl) (fun w' hw' => ?_) hHeld ?_
  · go_simp <;> rfl
  try simp only [Act.put, qT, q0, qS]
  refine qzI 3 ⟨some 25, .load 78 (.tmp 24), 78, _, #[⟨2, .data⟩], none⟩ (.map (some c.mb)) rfl (by kernel_rfl) (fun _ _ _ h => h) (by rfl) (fun w' hw' => ?_) hHeld ?_
  · have hcc := hw'.cell; go_simp <;> rfl
  try simp only [Act.put, qT, q0, qS]
  refine qzI 4 ⟨some 26, .move (.tmp 1), 3, _, #[], none⟩ (.int .i64 rd) rfl (by kernel_rfl) (fun _ _ _ h => h) (by rfl) (fun w' hw' => ?_) hHeld ?_
  · go_simp <;> rfl
  try simp only [Act.put, qT, q0, qS]
  refine qzK 5 ⟨some 27, .load 47 (.tmp 7), 47, _, #[], none⟩ _ rfl (by kernel_rfl) (fun _ _ _ h => h) (yieldsIf_load_mid (by rfl) 47 (.tmp 7) rfl (w1.heap.size) (0) rfl (ML) _ (fun _ h => PC.rangeAt_row h.r) Tryz.underlying47 rfl HMI.out) hHeld ?_
  try simp only [Act.put, qT, q0, qS]
  refine qzR 6 ⟨none, .mapUpdate 78 (.tmp 25) (.tmp 26) (.tmp 27), 0, _, #[⟨3, .data⟩, ⟨4, .data⟩, ⟨5, .data⟩, ⟨0, .phase⟩, ⟨1, .phase⟩, ⟨2, .phase⟩, ⟨3, .phase⟩, ⟨4, .phase⟩, ⟨5, .phase⟩], none⟩ (by kernel_rfl) rfl (by rfl) (fun K hK => ?_)
  obtain ⟨o, hrun, hmr, hgr⟩ := HPUT.out
  refine R5.wp_mapUpd _ _ _ 78 rfl _ _ _ rfl rfl rfl hrun ?_
  have HEND : Hid (ChEnd c tn L' R I X l a b rd r' last E (.returned (.int .i64 0)) (setBlock U c.mb o)) := HFIN.out o hmr hgr
  have hS2 : SC c.og c.xb c.mb last w1.heap.size ML (setBlock U c.mb o) := ⟨(hgr.block c.xb (PC.row_lt hHeld.x) (fun e => by have e' : c.xb = c.mb := (by simpa using e); exact HJ.out.px.ne e'.symm)).trans hHeld.x, (hgr.block _ (PC.row_lt hHeld.r) (fun e => by have e' : w1.heap.size = c.mb := (by simpa using e); have := HJ.out.px.map.lt; omega)).trans hHeld.r⟩
  refine hK.out _ _ hS2 (fun _ => ?_)
  clear hK K
  try simp only [Act.put, qT, q0, qS]
  refine wpAnyH_done (by kernel_rfl) ?_ _
  clear hS2 hHeld hgr hmr hrun HPUT HFIN HSC
  generalize setBlock U c.mb o = V at *
  go_wp2
  go_ret
  exact HEND.out
theorem cDropRec_err (h : JP c tn L R I X l last) {rd : Int} (hrd : iOk rd) {a b : List En} {r : Rm} {lv : Value} (hl : l = a ++ (rd, r, lv) :: b) (p q s : Nat) (er : Int) (her : er ≠ 0)
    (hdo : ∀ W bb, Ahd c tn L R I X W l last bb (rmL r lv) → Calls Tryz.prog 68 (#[.pointer (some ⟨bb, 0, none⟩)] ++ #[]) W fun e W' => e = .returned (.int .i64 er) ∧ Below W.heap.size W W') :
    Calls Tryz.prog 63 #[.pointer (some ⟨c.xb, 0, none⟩), .int .i64 rd, .func (.func 68) #[] #[]] X fun e Y => e = .returned (.int .i64 er) ∧ Below X.heap.size X Y := by
  have hmem : (rd, r, lv) ∈ l := by rw [hl]; simp
  have hok := h.px.ok _ hmem
  have hhr := h.px.hr hmem
  have HAT : Hid _ := h.at_is hrd hl
  have her1 : (er == 0) = false := by simpa using her
  have HDO : Hid (∀ W bb, Ahd c tn L R I X W l last bb (rmL r lv) → Calls Tryz.prog 68 (#[.pointer (some ⟨bb, 0, none⟩)] ++ #[]) W fun e W' => e = .returned (.int .i64 er) ∧ Below W.heap.size W W') := hdo
  clear hdo her hmem
  have hz := fun W => zero_rm W
  obtain ⟨ZL, hZL⟩ : ∃ L, L = rmL zR (.slice none 0 0) := ⟨_, rfl⟩
  rw [← hZL] at hz
  have HZN : Hid (ZL.toArray.size = 103) := by show _ = _; rw [hZL]; simpa using rmL_len zR_ok _
  have HNN : Hid ((rmL r lv).length = 103) := rmL_len hok _
  have HN1 : Hid ((rmL r lv).toArray.all (·.oneCell') = true) := rmL_onea r hhr
  obtain ⟨NL, hNL⟩ : ∃ L, L = rmL r lv := ⟨_, rfl⟩
  rw [← hNL] at HNN HN1 HAT
  have HNL : Hid (NL = rmL r lv) := hNL
  have HNS : Hid (NL.toArray.size = 103) := by show _ = _; simpa using HNN.out
  have HNI : Hid ((Tryz.prog.info? 47).map (·.size) = some NL.toArray.size) := info103a _ HNS.out
  have HZN2 : Hid (ZL.toArray.size = NL.toArray.size) := HZN.out.trans HNS.out.symm
  have HJ : Hid (JP c tn L R I X l last) := h
  clear hok hhr hZL h hNL
  go_enter Tryz.func63, Tryz.ntmps63
  go_wp2_with fail
  refine Calls.mono HAT.out ?_
  rintro e w1 ⟨rfl, hb1⟩
  have hs1 := hb1.size
  have HRA : Hid ((w1.alloc (.cells ZL.toArray 47 (0, 0))).heap[w1.heap.size]? = some (.cells ZL.toArray 47 (0, 0))) := heap_alloc_new _ _
  have HAH : Hid (Ahd c tn L R I X ((w1.alloc (.cells ZL.toArray 47 (0, 0))).setRow w1.heap.size NL.toArray) l last w1.heap.size NL) := ahd_mk HJ.out hb1
  clear hb1 HAT
  go_wp2_with (refine wpList_store_row rfl 47 _ _ rfl w1.heap.size NL.toArray rfl rfl 47 ZL.toArray HRA.out HNI.out HZN2.out HN1.out ?_)
  refine Calls.mono (HDO.out _ _ (HNL.out ▸ HAH.out)) ?_
  rintro e w2 ⟨rfl, hb2⟩
  have HB3 : Hid (Below X.heap.size X w2) := HAH.out.bel.trans (hb2.mono HAH.out.bel.size)
  clear hb2
  go_wp2
  go_ret
  exact ⟨rfl, HB3.out⟩
theorem cDropRec_ok (h : JP c tn L R I X l last) {rd : Int} (hrd : iOk rd) {a b : List En} {r r' : Rm} {lv : Value} (hl : l = a ++ (rd, r, lv) :: b) (p q s : Nat) (hE : ∀ k, E k → ¬ FP c.xb c.mb l k)
    (hdo : ∀ W bb, Ahd c tn L R I X W l last bb (rmL r lv) → Calls Tryz.prog 68 (#[.pointer (some ⟨bb, 0, none⟩)] ++ #[]) W fun e W' => ClOk c tn L' R (up I X W) W bb E r.log lv r' e W') :
    Calls Tryz.prog 63 #[.pointer (some ⟨c.xb, 0, none⟩), .int .i64 rd, .func (.func 68) #[] #[]] X fun e Y => ChEnd c tn L' R I X l a b rd r' last E e Y := by
  have hmem : (rd, r, lv) ∈ l := by rw [hl]; simp
  have hok := h.px.ok _ hmem
  have hhr := h.px.hr hmem
  have HFX : Hid (lv.ownBlock ≠ some c.xb ∧ lv.ownBlock ≠ some c.mb) := ⟨fun e => (h.px.far _ hmem _ e).1 rfl, fun e => (h.px.far _ hmem _ e).2 rfl⟩
  have HAT : Hid _ := h.at_is hrd hl
  have HLL : Hid (l = a ++ (rd, r, lv) :: b) := hl
  have HE : Hid (∀ k, E k → ¬ FP c.xb c.mb l k) := hE
  have HDO : Hid (∀ W bb, Ahd c tn L R I X W l last bb (rmL r lv) → Calls Tryz.prog 68 (#[.pointer (some ⟨bb, 0, none⟩)] ++ #[]) W fun e W' => ClOk c tn L' R (up I X W) W bb E r.log lv r' e W') := hdo
  clear hdo hmem hl hE
  have hz := fun W => zero_rm W
  obtain ⟨ZL, hZL⟩ : ∃ L, L = rmL zR (.slice none 0 0) := ⟨_, rfl⟩
  rw [← hZL] at hz
  have HZN : Hid (ZL.toArray.size = 103) := by show _ = _; rw [hZL]; simpa using rmL_len zR_ok _
  have HNN : Hid ((rmL r lv).length = 103) := rmL_len hok _
  have HN1 : Hid ((rmL r lv).toArray.all (·.oneCell') = true) := rmL_onea r hhr
  obtain ⟨NL, hNL⟩ : ∃ L, L = rmL r lv := ⟨_, rfl⟩
  rw [← hNL] at HNN HN1 HAT
  have HNL : Hid (NL = rmL r lv) := hNL
  have HNS : Hid (NL.toArray.size = 103) := by show _ = _; simpa using HNN.out
  have HNI : Hid ((Tryz.prog.info? 47).map (·.size) = some NL.toArray.size) := info103a _ HNS.out
  have HZN2 : Hid (ZL.toArray.size = NL.toArray.size) := HZN.out.trans HNS.out.symm
  have HJ : Hid (JP c tn L R I X l last) := h
  clear hok hhr hZL h hNL
  go_enter Tryz.func63, Tryz.ntmps63
  go_wp2_with fail
  refine Calls.mono HAT.out ?_
  rintro e w1 ⟨rfl, hb1⟩
  have hs1 := hb1.size
  have HRA : Hid ((w1.alloc (.cells ZL.toArray 47 (0, 0))).heap[w1.heap.size]? = some (.cells ZL.toArray 47 (0, 0))) := heap_alloc_new _ _
  have HAH : Hid (Ahd c tn L R I X ((w1.alloc (.cells ZL.toArray 47 (0, 0))).setRow w1.heap.size NL.toArray) l last w1.heap.size NL) := ahd_mk HJ.out hb1
  clear hb1 HAT
  go_wp2_with (refine wpList_store_row rfl 47 _ _ rfl w1.heap.size NL.toArray rfl rfl 47 ZL.toArray HRA.out HNI.out HZN2.out HN1.out ?_)
  refine Calls.mono (HDO.out _ _ (HNL.out ▸ HAH.out)) ?_
  rintro e w2 ⟨lv', rfl, hcd⟩
  have hA := HAH.out
  have hbW := hA.bel
  have hlow := hA.low
  have hAj := hA.jp
  generalize hW : (w1.alloc (.cells ZL.toArray 47 (0, 0))).setRow w1.heap.size NL.toArray = W at *
  have hsW := hbW.size
  have hsW2 := hcd.size
  have hxl := PC.row_lt HJ.out.px.row
  have hml := HJ.out.px.map.lt
  have hxW : w2.heap[c.xb]? = some (.cells (xL c.og c.mb last).toArray 80 (0, 0)) := (hcd.fr c.xb (by omega) (.inl (HJ.out.px.fI _ (.inl rfl)).1) (by omega) (fun hE' => HE.out _ hE' (.inl rfl)) HFX.out.1).trans hAj.px.row
  have hmW : w2.heap[c.mb]? = W.heap[c.mb]? := hcd.fr c.mb (by omega) (.inl (HJ.out.px.fI _ (.inr (.inl rfl))).1) (by omega) (fun hE' => HE.out _ hE' (.inr (.inl rfl))) HFX.out.2
  have hMR : MR w2 c.mb l := hAj.px.map.keep hmW
  have HMN : Hid ((rmL r' lv').length = 103) := rmL_len hcd.ok _
  have HSC : Hid (SC c.og c.xb c.mb last w1.heap.size (rmL r' lv') w2.drew) := ⟨hxW, hcd.row⟩
  have HPUT : Hid (∃ o, (Instr.mapUpdate 78 (.map (some c.mb)) (.int .i64 rd) (.agg (rmL r' lv').toArray)).run Tryz.prog w2.drew = .ok () (setBlock w2.drew c.mb o) ∧ MR (setBlock w2.drew c.mb o) c.mb (a ++ (rd, r', lv') :: b) ∧ w2.drew.grownBy (setBlock w2.drew c.mb o) (some c.mb)) := mr_put (hMR.keep (w' := w2.drew) rfl) hrd HLL.out r' lv'
  have HFIN : Hid (∀ o, MR (setBlock w2.drew c.mb o) c.mb (a ++ (rd, r', lv') :: b) → w2.drew.grownBy (setBlock w2.drew c.mb o) (some c.mb) → ChEnd c tn L' R I X l a b rd r' last E (.returned (.int .i64 0)) (setBlock w2.drew c.mb o)) := fun o hm hg => ⟨lv', rfl, pd_of_cd HJ.out HLL.out hbW hlow hcd HE.out hm ⟨hg.os, hg.tape, hg.output, hg.size, hg.block⟩⟩
  clear hcd hA hbW hAj hW hxW hmW hMR HAH hml hxl hsW2 hsW hlow
  generalize rmL r' lv' = ML at *
  have HMI : Hid _ := info103 ML HMN.out
  go_wp2_with fail
  refine wp_region_held_drew (S := SC c.og c.xb c.mb last w1.heap.size ML) (by kernel_rfl) HSC.out (fun hHeld => ?_)
  generalize w2.drew = U at *
  refine qzI 0 ⟨some 22, .move (.tmp 0), 26, _, #[], none⟩ (.pointer (some ⟨c.xb, 0, none⟩)) rfl (by kernel_rfl) (fun _ _ _ h => h) (by rfl) (fun w' hw' => ?_) hHeld ?_
  · go_simp <;> rfl
  try simp only [Act.put, qT, q0, qS]
  refine qzI 1 ⟨some 23, .nilCheck (.tmp 22), 0, _, #[⟨0, .data⟩], none⟩ (.pointer (some ⟨c.xb, 0, none⟩)) rfl (by kernel_rfl) (fun _ _ _ h => h) (by rfl) (fun w' hw' => ?_) hHeld ?_
  · go_simp <;> rfl
  try simp only [Act.put, qT, q0, qS]
  refine qzI 2 ⟨some 24, .fieldAddr 80 (.tmp 23) 1, 0, _, #[⟨1, .data⟩], none⟩ (.pointer (some ⟨c.xb, 1, none⟩)) rfl (by kernel_rfl) (fun _ _ _ h => h) (by rfl) (fun w' hw' => ?_) hHeld ?_
  · go_simp <;> rfl
  try simp only [Act.put, qT, q0, qS]
  refine qzI 3 ⟨some 25, .load 78 (.tmp 24), 78, _, #[⟨2, .data⟩], none⟩ (.map (some c.mb)) rfl (by kernel_rfl) (fun _ _ _ h => h) (by rfl) (fun w' hw' => ?_) hHeld ?_
  · have hcc := hw'.cell; go_simp <;> rfl
  try simp only [Act.put, qT, q0, qS]
  refine qzI 4 ⟨some 26, .move (.tmp 1), 3, _, #[], none⟩ (.int .i64 rd) rfl (by kernel_rfl) (fun _ _ _ h => h) (by rfl) (fun w' hw' => ?_) hHeld ?_
  · go_simp <;> rfl
  try simp only [Act.put, qT, q0, qS]
  refine qzK 5 ⟨some 27, .load 47 (.tmp 7), 47, _, #[], none⟩ _ rfl (by kernel_rfl) (fun _ _ _ h => h) (yieldsIf_load_mid (by rfl) 47 (.tmp 7) rfl (w1.heap.size) (0) rfl (ML) _ (fun _ h => PC.rangeAt_row h.r) Tryz.underlying47 rfl HMI.out) hHeld ?_
  try simp only [Act.put, qT, q0, qS]
  refine qzR 6 ⟨none, .mapUpdate 78 (.tmp 25) (.tmp 26) (.tmp 27), 0, _, #[⟨3, .data⟩, ⟨4, .data⟩, ⟨5, .data⟩, ⟨0, .phase⟩, ⟨1, .phase⟩, ⟨2, .phase⟩, ⟨3, .phase⟩, ⟨4, .phase⟩, ⟨5, .phase⟩], none⟩ (by kernel_rfl) rfl (by rfl) (fun K hK => ?_)
  obtain ⟨o, hrun, hmr, hgr⟩ := HPUT.out
  refine R5.wp_mapUpd _ _ _ 78 rfl _ _ _ rfl rfl rfl hrun ?_
  have HEND : Hid (ChEnd c tn L' R I X l a b rd r' last E (.returned (.int .i64 0)) (setBlock U c.mb o)) := HFIN.out o hmr hgr
  have hS2 : SC c.og c.xb c.mb last w1.heap.size ML (setBlock U c.mb o) := ⟨(hgr.block c.xb (PC.row_lt hHeld.x) (fun e => by have e' : c.xb = c.mb := (by simpa using e); exact HJ.out.px.ne e'.symm)).trans hHeld.x, (hgr.block _ (PC.row_lt hHeld.r) (fun e => by have e' : w1.heap.size = c.mb := (by simpa using e); have := HJ.out.px.map.lt; omega)).trans hHeld.r⟩
  refine hK.out _ _ hS2 (fun _ => ?_)
  clear hK K
  try simp only [Act.put, qT, q0, qS]
  refine wpAnyH_done (by kernel_rfl) ?_ _
  clear hS2 hHeld hgr hmr hrun HPUT HFIN HSC
  generalize setBlock U c.mb o = V at *
  go_wp2
  go_ret
  exact HEND.out
theorem cKill_ok (h : JP c tn L R I X l last) {rd : Int} (hrd : iOk rd) {a b : List En} {r r' : Rm} {lv : Value} (hl : l = a ++ (rd, r, lv) :: b) (p q s : Nat) (hE : ∀ k, E k → ¬ FP c.xb c.mb l k)
    (hdo : ∀ W bb, Ahd c tn L R I X W l last bb (rmL r lv) → Calls Tryz.prog 70 (#[.pointer (some ⟨bb, 0, none⟩)] ++ #[]) W fun e W' => ClOk c tn L' R (up I X W) W bb E r.log lv r' e W') :
    Calls Tryz.prog 63 #[.pointer (some ⟨c.xb, 0, none⟩), .int .i64 rd, .func (.func 70) #[] #[]] X fun e Y => ChEnd c tn L' R I X l a b rd r' last E e Y := by
  have hmem : (rd, r, lv) ∈ l := by rw [hl]; simp
  have hok := h.px.ok _ hmem
  have hhr := h.px.hr hmem
  have HFX : Hid (lv.ownBlock ≠ some c.xb ∧ lv.ownBlock ≠ some c.mb) := ⟨fun e => (h.px.far _ hmem _ e).1 rfl, fun e => (h.px.far _ hmem _ e).2 rfl⟩
  have HAT : Hid _ := h.at_is hrd hl
  have HLL : Hid (l = a ++ (rd, r, lv) :: b) := hl
  have HE : Hid (∀ k, E k → ¬ FP c.xb c.mb l k) := hE
  have HDO : Hid (∀ W bb, Ahd c tn L R I X W l last bb (rmL r lv) → Calls Tryz.prog 70 (#[.pointer (some ⟨bb, 0, none⟩)] ++ #[]) W fun e W' => ClOk c tn L' R (up I X W) W bb E r.log lv r' e W') := hdo
  clear hdo hmem hl hE
  have hz := fun W => zero_rm W
  obtain ⟨ZL, hZL⟩ : ∃ L, L = rmL zR (.slice none 0 0) := ⟨_, rfl⟩
  rw [← hZL] at hz
  have HZN : Hid (ZL.toArray.size = 103) := by show _ = _; rw [hZL]; simpa using rmL_len zR_ok _
  have HNN : Hid ((rmL r lv).length = 103) := rmL_len hok _
  have HN1 : Hid ((rmL r lv).toArray.all (·.oneCell') = true) := rmL_onea r hhr
  obtain ⟨NL, hNL⟩ : ∃ L, L = rmL r lv := ⟨_, rfl⟩
  rw [← hNL] at HNN HN1 HAT
  have HNL : Hid (NL = rmL r lv) := hNL
  have HNS : Hid (NL.toArray.size = 103) := by show _ = _; simpa using HNN.out
  have HNI : Hid ((Tryz.prog.info? 47).map (·.size) = some NL.toArray.size) := info103a _ HNS.out
  have HZN2 : Hid (ZL.toArray.size = NL.toArray.size) := HZN.out.trans HNS.out.symm
  have HJ : Hid (JP c tn L R I X l last) := h
  clear hok hhr hZL h hNL
  go_enter Tryz.func63, Tryz.ntmps63
  go_wp2_with fail
  refine Calls.mono HAT.out ?_
  rintro e w1 ⟨rfl, hb1⟩
  have hs1 := hb1.size
  have HRA : Hid ((w1.alloc (.cells ZL.toArray 47 (0, 0))).heap[w1.heap.size]? = some (.cells ZL.toArray 47 (0, 0))) := heap_alloc_new _ _
  have HAH : Hid (Ahd c tn L R I X ((w1.alloc (.cells ZL.toArray 47 (0, 0))).setRow w1.heap.size NL.toArray) l last w1.heap.size NL) := ahd_mk HJ.out hb1
  clear hb1 HAT
  go_wp2_with (refine wpList_store_row rfl 47 _ _ rfl w1.heap.size NL.toArray rfl rfl 47 ZL.toArray HRA.out HNI.out HZN2.out HN1.out ?_)
  refine Calls.mono (HDO.out _ _ (HNL.out ▸ HAH.out)) ?_
  rintro e w2 ⟨lv', rfl, hcd⟩
  have hA := HAH.out
  have hbW := hA.bel
  have hlow := hA.low
  have hAj := hA.jp
  generalize hW : (w1.alloc (.cells ZL.toArray 47 (0, 0))).setRow w1.heap.size NL.toArray = W at *
  have hsW := hbW.size
  have hsW2 := hcd.size
  have hxl := PC.row_lt HJ.out.px.row
  have hml := HJ.out.px.map.lt
  have hxW : w2.heap[c.xb]? = some (.cells (xL c.og c.mb last).toArray 80 (0, 0)) := (hcd.fr c.xb (by omega) (.inl (HJ.out.px.fI _ (.inl rfl)).1) (by omega) (fun hE' => HE.out _ hE' (.inl rfl)) HFX.out.1).trans hAj.px.row
  have hmW : w2.heap[c.mb]? = W.heap[c.mb]? := hcd.fr c.mb (by omega) (.inl (HJ.out.px.fI _ (.inr (.inl rfl))).1) (by omega) (fun hE' => HE.out _ hE' (.inr (.inl rfl))) HFX.out.2
  have hMR : MR w2 c.mb l := hAj.px.map.keep hmW
  have HMN : Hid ((rmL r' lv').length = 103) := rmL_len hcd.ok _
  have HSC : Hid (SC c.og c.xb c.mb last w1.heap.size (rmL r' lv') w2.drew) := ⟨hxW, hcd.row⟩
  have HPUT : Hid (∃ o, (Instr.mapUpdate 78 (.map (some c.mb)) (.int .i64 rd) (.agg (rmL r' lv').toArray)).run Tryz.prog w2.drew = .ok () (setBlock w2.drew c.mb o) ∧ MR (setBlock w2.drew c.mb o) c.mb (a ++ (rd, r', lv') :: b) ∧ w2.drew.grownBy (setBlock w2.drew c.mb o) (some c.mb)) := mr_put (hMR.keep (w' := w2.drew) rfl) hrd HLL.out r' lv'
  have HFIN : Hid (∀ o, MR (setBlock w2.drew c.mb o) c.mb (a ++ (rd, r', lv') :: b) → w2.drew.grownBy (setBlock w2.drew c.mb o) (some c.mb) → ChEnd c tn L' R I X l a b rd r' last E (.returned (.int .i64 0)) (setBlock w2.drew c.mb o)) := fun o hm hg => ⟨lv', rfl, pd_of_cd HJ.out HLL.out hbW hlow hcd HE.out hm ⟨hg.os, hg.tape, hg.output, hg.size, hg.block⟩⟩
  clear hcd hA hbW hAj hW hxW hmW hMR HAH hml hxl hsW2 hsW hlow
  generalize rmL r' lv' = ML at *
  have HMI : Hid _ := info103 ML HMN.out
  go_wp2_with fail
  refine wp_region_held_drew (S := SC c.og c.xb c.mb last w1.heap.size ML) (by kernel_rfl) HSC.out (fun hHeld => ?_)
  generalize w2.drew = U at *
  refine qzI 0 ⟨some 22, .move (.tmp 0), 26, _, #[], none⟩ (.pointer (some ⟨c.xb, 0, none⟩)) rfl (by kernel_rfl) (fun _ _ _ h => h) (by rfl) (fun w' hw' => ?_) hHeld ?_
  · go_simp <;> rfl
  try simp only [Act.put, qT, q0, qS]
  refine qzI 1 ⟨some 23, .nilCheck (.tmp 22), 0, _, #[⟨0, .data⟩], none⟩ (.pointer (some ⟨c.xb, 0, none⟩)) rfl (by kernel_rfl) (fun _ _ _ h => h) (by rfl) (fun w' hw' => ?_) hHeld ?_
  · go_simp <;> rfl
  try simp only [Act.put, qT, q0, qS]
  refine qzI 2 ⟨some 24, .fieldAddr 80 (.tmp 23) 1, 0, _, #[⟨1, .data⟩], none⟩ (.pointer (some ⟨c.xb, 1, none⟩)) rfl (by kernel_rfl) (fun _ _ _ h => h) (by rfl) (fun w' hw' => ?_) hHeld ?_
  · go_simp <;> rfl
  try simp only [Act.put, qT, q0, qS]
  refine qzI 3 ⟨some 25, .load 78 (.tmp 24), 78, _, #[⟨2, .data⟩], none⟩ (.map (some c.mb)) rfl (by kernel_rfl) (fun _ _ _ h => h) (by rfl) (fun w' hw' => ?_) hHeld ?_
  · have hcc := hw'.cell; go_simp <;> rfl
  try simp only [Act.put, qT, q0, qS]
  refine qzI 4 ⟨some 26, .move (.tmp 1), 3, _, #[], none⟩ (.int .i64 rd) rfl (by kernel_rfl) (fun _ _ _ h => h) (by rfl) (fun w' hw' => ?_) hHeld ?_
  · go_simp <;> rfl
  try simp only [Act.put, qT, q0, qS]
  refine qzK 5 ⟨some 27, .load 47 (.tmp 7), 47, _, #[], none⟩ _ rfl (by kernel_rfl) (fun _ _ _ h => h) (yieldsIf_load_mid (by rfl) 47 (.tmp 7) rfl (w1.heap.size) (0) rfl (ML) _ (fun _ h => PC.rangeAt_row h.r) Tryz.underlying47 rfl HMI.out) hHeld ?_
  try simp only [Act.put, qT, q0, qS]
  refine qzR 6 ⟨none, .mapUpdate 78 (.tmp 25) (.tmp 26) (.tmp 27), 0, _, #[⟨3, .data⟩, ⟨4, .data⟩, ⟨5, .data⟩, ⟨0, .phase⟩, ⟨1, .phase⟩, ⟨2, .phase⟩, ⟨3, .phase⟩, ⟨4, .phase⟩, ⟨5, .phase⟩], none⟩ (by kernel_rfl) rfl (by rfl) (fun K hK => ?_)
  obtain ⟨o, hrun, hmr, hgr⟩ := HPUT.out
  refine R5.wp_mapUpd _ _ _ 78 rfl _ _ _ rfl rfl rfl hrun ?_
  have HEND : Hid (ChEnd c tn L' R I X l a b rd r' last E (.returned (.int .i64 0)) (setBlock U c.mb o)) := HFIN.out o hmr hgr
  have hS2 : SC c.og c.xb c.mb last w1.heap.size ML (setBlock U c.mb o) := ⟨(hgr.block c.xb (PC.row_lt hHeld.x) (fun e => by have e' : c.xb = c.mb := (by simpa using e); exact HJ.out.px.ne e'.symm)).trans hHeld.x, (hgr.block _ (PC.row_lt hHeld.r) (fun e => by have e' : w1.heap.size = c.mb := (by simpa using e); have := HJ.out.px.map.lt; omega)).trans hHeld.r⟩
  refine hK.out _ _ hS2 (fun _ => ?_)
  clear hK K
  try simp only [Act.put, qT, q0, qS]
  refine wpAnyH_done (by kernel_rfl) ?_ _
  clear hS2 hHeld hgr hmr hrun HPUT HFIN HSC
  generalize setBlock U c.mb o = V at *
  go_wp2
  go_ret
  exact HEND.out
theorem cSetTree_ok (h : JP c tn L R I X l last) {rd : Int} (hrd : iOk rd) {a b : List En} {r r' : Rm} {lv : Value} (hl : l = a ++ (rd, r, lv) :: b) (p q s : Nat) (hE : ∀ k, E k → ¬ FP c.xb c.mb l k)
    (hdo : ∀ W bb, Ahd c tn L R I X W l last bb (rmL r lv) → Calls Tryz.prog 71 (#[.pointer (some ⟨bb, 0, none⟩)] ++ #[.pointer (some ⟨p, 0, none⟩)]) W fun e W' => ClOk c tn L' R (up I X W) W bb E r.log lv r' e W') :
    Calls Tryz.prog 63 #[.pointer (some ⟨c.xb, 0, none⟩), .int .i64 rd, .func (.func 71) #[] #[.pointer (some ⟨p, 0, none⟩)]] X fun e Y => ChEnd c tn L' R I X l a b rd r' last E e Y := by
  have hmem : (rd, r, lv) ∈ l := by rw [hl]; simp
  have hok := h.px.ok _ hmem
  have hhr := h.px.hr hmem
  have HFX : Hid (lv.ownBlock ≠ some c.xb ∧ lv.ownBlock ≠ some c.mb) := ⟨fun e => (h.px.far _ hmem _ e).1 rfl, fun e => (h.px.far _ hmem _ e).2 rfl⟩
  have HAT : Hid _ := h.at_is hrd hl
  have HLL : Hid (l = a ++ (rd, r, lv) :: b) := hl
  have HE : Hid (∀ k, E k → ¬ FP c.xb c.mb l k) := hE
  have HDO : Hid (∀ W bb, Ahd c tn L R I X W l last bb (rmL r lv) → Calls Tryz.prog 71 (#[.pointer (some ⟨bb, 0, none⟩)] ++ #[.pointer (some ⟨p, 0, none⟩)]) W fun e W' => ClOk c tn L' R (up I X W) W bb E r.log lv r' e W') := hdo
  clear hdo hmem hl hE
  have hz := fun W => zero_rm W
  obtain ⟨ZL, hZL⟩ : ∃ L, L = rmL zR (.slice none 0 0) := ⟨_, rfl⟩
  rw [← hZL] at hz
  have HZN : Hid (ZL.toArray.size = 103) := by show _ = _; rw [hZL]; simpa using rmL_len zR_ok _
  have HNN : Hid ((rmL r lv).length = 103) := rmL_len hok _
  have HN1 : Hid ((rmL r lv).toArray.all (·.oneCell') = true) := rmL_onea r hhr
  obtain ⟨NL, hNL⟩ : ∃ L, L = rmL r lv := ⟨_, rfl⟩
  rw [← hNL] at HNN HN1 HAT
  have HNL : Hid (NL = rmL r lv) := hNL
  have HNS : Hid (NL.toArray.size = 103) := by show _ = _; simpa using HNN.out
  have HNI : Hid ((Tryz.prog.info? 47).map (·.size) = some NL.toArray.size) := info103a _ HNS.out
  have HZN2 : Hid (ZL.toArray.size = NL.toArray.size) := HZN.out.trans HNS.out.symm
  have HJ : Hid (JP c tn L R I X l last) := h
  clear hok hhr hZL h hNL
  go_enter Tryz.func63, Tryz.ntmps63
  go_wp2_with fail
  refine Calls.mono HAT.out ?_
  rintro e w1 ⟨rfl, hb1⟩
  have hs1 := hb1.size
  have HRA : Hid ((w1.alloc (.cells ZL.toArray 47 (0, 0))).heap[w1.heap.size]? = some (.cells ZL.toArray 47 (0, 0))) := heap_alloc_new _ _
  have HAH : Hid (Ahd c tn L R I X ((w1.alloc (.cells ZL.toArray 47 (0, 0))).setRow w1.heap.size NL.toArray) l last w1.heap.size NL) := ahd_mk HJ.out hb1
  clear hb1 HAT
  go_wp2_with (refine wpList_store_row rfl 47 _ _ rfl w1.heap.size NL.toArray rfl rfl 47 ZL.toArray HRA.out HNI.out HZN2.out HN1.out ?_)
  refine Calls.mono (HDO.out _ _ (HNL.out ▸ HAH.out)) ?_
  rintro e w2 ⟨lv', rfl, hcd⟩
  have hA := HAH.out
  have hbW := hA.bel
  have hlow := hA.low
  have hAj := hA.jp
  generalize hW : (w1.alloc (.cells ZL.toArray 47 (0, 0))).setRow w1.heap.size NL.toArray = W at *
  have hsW := hbW.size
  have hsW2 := hcd.size
  have hxl := PC.row_lt HJ.out.px.row
  have hml := HJ.out.px.map.lt
  have hxW : w2.heap[c.xb]? = some (.cells (xL c.og c.mb last).toArray 80 (0, 0)) := (hcd.fr c.xb (by omega) (.inl (HJ.out.px.fI _ (.inl rfl)).1) (by omega) (fun hE' => HE.out _ hE' (.inl rfl)) HFX.out.1).trans hAj.px.row
  have hmW : w2.heap[c.mb]? = W.heap[c.mb]? := hcd.fr c.mb (by omega) (.inl (HJ.out.px.fI _ (.inr (.inl rfl))).1) (by omega) (fun hE' => HE.out _ hE' (.inr (.inl rfl))) HFX.out.2
  have hMR : MR w2 c.mb l := hAj.px.map.keep hmW
  have HMN : Hid ((rmL r' lv').length = 103) := rmL_len hcd.ok _
  have HSC : Hid (SC c.og c.xb c.mb last w1.heap.size (rmL r' lv') w2.drew) := ⟨hxW, hcd.row⟩
  have HPUT : Hid (∃ o, (Instr.mapUpdate 78 (.map (some c.mb)) (.int .i64 rd) (.agg (rmL r' lv').toArray)).run Tryz.prog w2.drew = .ok () (setBlock w2.drew c.mb o) ∧ MR (setBlock w2.drew c.mb o) c.mb (a ++ (rd, r', lv') :: b) ∧ w2.drew.grownBy (setBlock w2.drew c.mb o) (some c.mb)) := mr_put (hMR.keep (w' := w2.drew) rfl) hrd HLL.out r' lv'
  have HFIN : Hid (∀ o, MR (setBlock w2.drew c.mb o) c.mb (a ++ (rd, r', lv') :: b) → w2.drew.grownBy (setBlock w2.drew c.mb o) (some c.mb) → ChEnd c tn L' R I X l a b rd r' last E (.returned (.int .i64 0)) (setBlock w2.drew c.mb o)) := fun o hm hg => ⟨lv', rfl, pd_of_cd HJ.out HLL.out hbW hlow hcd HE.out hm ⟨hg.os, hg.tape, hg.output, hg.size, hg.block⟩⟩
  clear hcd hA hbW hAj hW hxW hmW hMR HAH hml hxl hsW2 hsW hlow
  generalize rmL r' lv' = ML at *
  have HMI : Hid _ := info103 ML HMN.out
  go_wp2_with fail
  refine wp_region_held_drew (S := SC c.og c.xb c.mb last w1.heap.size ML) (by kernel_rfl) HSC.out (fun hHeld => ?_)
  generalize w2.drew = U at *
  refine qzI 0 ⟨some 22, .move (.tmp 0), 26, _, #[], none⟩ (.pointer (some ⟨c.xb, 0, none⟩)) rfl (by kernel_rfl) (fun _ _ _ h => h) (by rfl) (fun w' hw' => ?_) hHeld ?_
  · go_simp <;> rfl
  try simp only [Act.put, qT, q0, qS]
  refine qzI 1 ⟨some 23, .nilCheck (.tmp 22), 0, _, #[⟨0, .data⟩], none⟩ (.pointer (some ⟨c.xb, 0, none⟩)) rfl (by kernel_rfl) (fun _ _ _ h => h) (by rfl) (fun w' hw' => ?_) hHeld ?_
  · go_simp <;> rfl
  try simp only [Act.put, qT, q0, qS]
  refine qzI 2 ⟨some 24, .fieldAddr 80 (.tmp 23) 1, 0, _, #[⟨1, .data⟩], none⟩ (.pointer (some ⟨c.xb, 1, none⟩)) rfl (by kernel_rfl) (fun _ _ _ h => h) (by rfl) (fun w' hw' => ?_) hHeld ?_
  · go_simp <;> rfl
  try simp only [Act.put, qT, q0, qS]
  refine qzI 3 ⟨some 25, .load 78 (.tmp 24), 78, _, #[⟨2, .data⟩], none⟩ (.map (some c.mb)) rfl (by kernel_rfl) (fun _ _ _ h => h) (by rfl) (fun w' hw' => ?_) hHeld ?_
  · have hcc := hw'.cell; go_simp <;> rfl
  try simp only [Act.put, qT, q0, qS]
  refine qzI 4 ⟨some 26, .move (.tmp 1), 3, _, #[], none⟩ (.int .i64 rd) rfl (by kernel_rfl) (fun _ _ _ h => h) (by rfl) (fun w' hw' => ?_) hHeld ?_
  · go_simp <;> rfl
  try simp only [Act.put, qT, q0, qS]
  refine qzK 5 ⟨some 27, .load 47 (.tmp 7), 47, _, #[], none⟩ _ rfl (by kernel_rfl) (fun _ _ _ h => h) (yieldsIf_load_mid (by rfl) 47 (.tmp 7) rfl (w1.heap.size) (0) rfl (ML) _ (fun _ h => PC.rangeAt_row h.r) Tryz.underlying47 rfl HMI.out) hHeld ?_
  try simp only [Act.put, qT, q0, qS]
  refine qzR 6 ⟨none, .mapUpdate 78 (.tmp 25) (.tmp 26) (.tmp 27), 0, _, #[⟨3, .data⟩, ⟨4, .data⟩, ⟨5, .data⟩, ⟨0, .phase⟩, ⟨1, .phase⟩, ⟨2, .phase⟩, ⟨3, .phase⟩, ⟨4, .phase⟩, ⟨5, .phase⟩], none⟩ (by kernel_rfl) rfl (by rfl) (fun K hK => ?_)
  obtain ⟨o, hrun, hmr, hgr⟩ := HPUT.out
  refine R5.wp_mapUpd _ _ _ 78 rfl _ _ _ rfl rfl rfl hrun ?_
  have HEND : Hid (ChEnd c tn L' R I X l a b rd r' last E (.returned (.int .i64 0)) (setBlock U c.mb o)) := HFIN.out o hmr hgr
  have hS2 : SC c.og c.xb c.mb last w1.heap.size ML (setBlock U c.mb o) := ⟨(hgr.block c.xb (PC.row_lt hHeld.x) (fun e => by have e' : c.xb = c.mb := (by simpa using e); exact HJ.out.px.ne e'.symm)).trans hHeld.x, (hgr.block _ (PC.row_lt hHeld.r) (fun e => by have e' : w1.heap.size = c.mb := (by simpa using e); have := HJ.out.px.map.lt; omega)).trans hHeld.r⟩
  refine hK.out _ _ hS2 (fun _ => ?_)
  clear hK K
  try simp only [Act.put, qT, q0, qS]
  refine wpAnyH_done (by kernel_rfl) ?_ _
  clear hS2 hHeld hgr hmr hrun HPUT HFIN HSC
  generalize setBlock U c.mb o = V at *
  go_wp2
  go_ret
  exact HEND.out
theorem cData_err (h : JP c tn L R I X l last) {rd : Int} (hrd : iOk rd) {a b : List En} {r : Rm} {lv : Value} (hl : l = a ++ (rd, r, lv) :: b) (p q s : Nat) (er : Int) (her : er ≠ 0)
    (hdo : ∀ W bb, Ahd c tn L R I X W l last bb (rmL r lv) → Calls Tryz.prog 65 (#[.pointer (some ⟨bb, 0, none⟩)] ++ #[.pointer (some ⟨p, 0, none⟩), .pointer (some ⟨q, 0, none⟩), .pointer (some ⟨s, 0, none⟩)]) W fun e W' => e = .returned (.int .i64 er) ∧ Below W.heap.size W W') :
    Calls Tryz.prog 63 #[.pointer (some ⟨c.xb, 0, none⟩), .int .i64 rd, .func (.func 65) #[] #[.pointer (some ⟨p, 0, none⟩), .pointer (some ⟨q, 0, none⟩), .pointer (some ⟨s, 0, none⟩)]] X fun e Y => e = .returned (.int .i64 er) ∧ Below X.heap.size X Y := by
  have hmem : (rd, r, lv) ∈ l := by rw [hl]; simp
  have hok := h.px.ok _ hmem
  have hhr := h.px.hr hmem
  have HAT : Hid _ := h.at_is hrd hl
  have her1 : (er == 0) = false := by simpa using her
  have HDO : Hid (∀ W bb, Ahd c tn L R I X W l last bb (rmL r lv) → Calls Tryz.prog 65 (#[.pointer (some ⟨bb, 0, none⟩)] ++ #[.pointer (some ⟨p, 0, none⟩), .pointer (some ⟨q, 0, none⟩), .pointer (some ⟨s, 0, none⟩)]) W fun e W' => e = .returned (.int .i64 er) ∧ Below W.heap.size W W') := hdo
  clear hdo her hmem
  have hz := fun W => zero_rm W
  obtain ⟨ZL, hZL⟩ : ∃ L, L = rmL zR (.slice none 0 0) := ⟨_, rfl⟩
  rw [← hZL] at hz
  have HZN : Hid (ZL.toArray.size = 103) := by show _ = _; rw [hZL]; simpa using rmL_len zR_ok _
  have HNN : Hid ((rmL r lv).length = 103) := rmL_len hok _
  have HN1 : Hid ((rmL r lv).toArray.all (·.oneCell') = true) := rmL_onea r hhr
  obtain ⟨NL, hNL⟩ : ∃ L, L = rmL r lv := ⟨_, rfl⟩
  rw [← hNL] at HNN HN1 HAT
  have HNL : Hid (NL = rmL r lv) := hNL
  have HNS : Hid (NL.toArray.size = 103) := by show _ = _; simpa using HNN.out
  have HNI : Hid ((Tryz.prog.info? 47).map (·.size) = some NL.toArray.size) := info103a _ HNS.out
  have HZN2 : Hid (ZL.toArray.size = NL.toArray.size) := HZN.out.trans HNS.out.symm
  have HJ : Hid (JP c tn L R I X l last) := h
  clear hok hhr hZL h hNL
  go_enter Tryz.func63, Tryz.ntmps63
  go_wp2_with fail
  refine Calls.mono HAT.out ?_
  rintro e w1 ⟨rfl, hb1⟩
  have hs1 := hb1.size
  have HRA : Hid ((w1.alloc (.cells ZL.toArray 47 (0, 0))).heap[w1.heap.size]? = some (.cells ZL.toArray 47 (0, 0))) := heap_alloc_new _ _
  have HAH : Hid (Ahd c tn L R I X ((w1.alloc (.cells ZL.toArray 47 (0, 0))).setRow w1.heap.size NL.toArray) l last w1.heap.size NL) := ahd_mk HJ.out hb1
  clear hb1 HAT
  go_wp2_with (refine wpList_store_row rfl 47 _ _ rfl w1.heap.size NL.toArray rfl rfl 47 ZL.toArray HRA.out HNI.out HZN2.out HN1.out ?_)
  refine Calls.mono (HDO.out _ _ (HNL.out ▸ HAH.out)) ?_
  rintro e w2 ⟨rfl, hb2⟩
  have HB3 : Hid (Below X.heap.size X w2) := HAH.out.bel.trans (hb2.mono HAH.out.bel.size)
  clear hb2
  go_wp2
  go_ret
  exact ⟨rfl, HB3.out⟩
theorem cData_ok (h : JP c tn L R I X l last) {rd : Int} (hrd : iOk rd) {a b : List En} {r r' : Rm} {lv : Value} (hl : l = a ++ (rd, r, lv) :: b) (p q s : Nat) (hE : ∀ k, E k → ¬ FP c.xb c.mb l k)
    (hdo : ∀ W bb, Ahd c tn L R I X W l last bb (rmL r lv) → Calls Tryz.prog 65 (#[.pointer (some ⟨bb, 0, none⟩)] ++ #[.pointer (some ⟨p, 0, none⟩), .pointer (some ⟨q, 0, none⟩), .pointer (some ⟨s, 0, none⟩)]) W fun e W' => ClOk c tn L' R (up I X W) W bb E r.log lv r' e W') :
    Calls Tryz.prog 63 #[.pointer (some ⟨c.xb, 0, none⟩), .int .i64 rd, .func (.func 65) #[] #[.pointer (some ⟨p, 0, none⟩), .pointer (some ⟨q, 0, none⟩), .pointer (some ⟨s, 0, none⟩)]] X fun e Y => ChEnd c tn L' R I X l a b rd r' last E e Y := by
  have hmem : (rd, r, lv) ∈ l := by rw [hl]; simp
  have hok := h.px.ok _ hmem
  have hhr := h.px.hr hmem
  have HFX : Hid (lv.ownBlock ≠ some c.xb ∧ lv.ownBlock ≠ some c.mb) := ⟨fun e => (h.px.far _ hmem _ e).1 rfl, fun e => (h.px.far _ hmem _ e).2 rfl⟩
  have HAT : Hid _ := h.at_is hrd hl
  have HLL : Hid (l = a ++ (rd, r, lv) :: b) := hl
  have HE : Hid (∀ k, E k → ¬ FP c.xb c.mb l k) := hE
  have HDO : Hid (∀ W bb, Ahd c tn L R I X W l last bb (rmL r lv) → Calls Tryz.prog 65 (#[.pointer (some ⟨bb, 0, none⟩)] ++ #[.pointer (some ⟨p, 0, none⟩), .pointer (some ⟨q, 0, none⟩), .pointer (some ⟨s, 0, none⟩)]) W fun e W' => ClOk c tn L' R (up I X W) W bb E r.log lv r' e W') := hdo
  clear hdo hmem hl hE
  have hz := fun W => zero_rm W
  obtain ⟨ZL, hZL⟩ : ∃ L, L = rmL zR (.slice none 0 0) := ⟨_, rfl⟩
  rw [← hZL] at hz
  have HZN : Hid (ZL.toArray.size = 103) := by show _ = _; rw [hZL]; simpa using rmL_len zR_ok _
  have HNN : Hid ((rmL r lv).length = 103) := rmL_len hok _
  have HN1 : Hid ((rmL r lv).toArray.all (·.oneCell') = true) := rmL_onea r hhr
  obtain ⟨NL, hNL⟩ : ∃ L, L = rmL r lv := ⟨_, rfl⟩
  rw [← hNL] at HNN HN1 HAT
  have HNL : Hid (NL = rmL r lv) := hNL
  have HNS : Hid (NL.toArray.size = 103) := by show _ = _; simpa using HNN.out
  have HNI : Hid ((Tryz.prog.info? 47).map (·.size) = some NL.toArray.size) := info103a _ HNS.out
  have HZN2 : Hid (ZL.toArray.size = NL.toArray.size) := HZN.out.trans HNS.out.symm
  have HJ : Hid (JP c tn L R I X l last) := h
  clear hok hhr hZL h hNL
  go_enter Tryz.func63, Tryz.ntmps63
  go_wp2_with fail
  refine Calls.mono HAT.out ?_
  rintro e w1 ⟨rfl, hb1⟩
  have hs1 := hb1.size
  have HRA : Hid ((w1.alloc (.cells ZL.toArray 47 (0, 0))).heap[w1.heap.size]? = some (.cells ZL.toArray 47 (0, 0))) := heap_alloc_new _ _
  have HAH : Hid (Ahd c tn L R I X ((w1.alloc (.cells ZL.toArray 47 (0, 0))).setRow w1.heap.size NL.toArray) l last w1.heap.size NL) := ahd_mk HJ.out hb1
  clear hb1 HAT
  go_wp2_with (refine wpList_store_row rfl 47 _ _ rfl w1.heap.size NL.toArray rfl rfl 47 ZL.toArray HRA.out HNI.out HZN2.out HN1.out ?_)
  refine Calls.mono (HDO.out _ _ (HNL.out ▸ HAH.out)) ?_
  rintro e w2 ⟨lv', rfl, hcd⟩
  have hA := HAH.out
  have hbW := hA.bel
  have hlow := hA.low
  have hAj := hA.jp
  generalize hW : (w1.alloc (.cells ZL.toArray 47 (0, 0))).setRow w1.heap.size NL.toArray = W at *
  have hsW := hbW.size
  have hsW2 := hcd.size
  have hxl := PC.row_lt HJ.out.px.row
  have hml := HJ.out.px.map.lt
  have hxW : w2.heap[c.xb]? = some (.cells (xL c.og c.mb last).toArray 80 (0, 0)) := (hcd.fr c.xb (by omega) (.inl (HJ.out.px.fI _ (.inl rfl)).1) (by omega) (fun hE' => HE.out _ hE' (.inl rfl)) HFX.out.1).trans hAj.px.row
  have hmW : w2.heap[c.mb]? = W.heap[c.mb]? := hcd.fr c.mb (by omega) (.inl (HJ.out.px.fI _ (.inr (.inl rfl))).1) (by omega) (fun hE' => HE.out _ hE' (.inr (.inl rfl))) HFX.out.2
  have hMR : MR w2 c.mb l := hAj.px.map.keep hmW
  have HMN : Hid ((rmL r' lv').length = 103) := rmL_len hcd.ok _
  have HSC : Hid (SC c.og c.xb c.mb last w1.heap.size (rmL r' lv') w2.drew) := ⟨hxW, hcd.row⟩
  have HPUT : Hid (∃ o, (Instr.mapUpdate 78 (.map (some c.mb)) (.int .i64 rd) (.agg (rmL r' lv').toArray)).run Tryz.prog w2.drew = .ok () (setBlock w2.drew c.mb o) ∧ MR (setBlock w2.drew c.mb o) c.mb (a ++ (rd, r', lv') :: b) ∧ w2.drew.grownBy (setBlock w2.drew c.mb o) (some c.mb)) := mr_put (hMR.keep (w' := w2.drew) rfl) hrd HLL.out r' lv'
  have HFIN : Hid (∀ o, MR (setBlock w2.drew c.mb o) c.mb (a ++ (rd, r', lv') :: b) → w2.drew.grownBy (setBlock w2.drew c.mb o) (some c.mb) → ChEnd c tn L' R I X l a b rd r' last E (.returned (.int .i64 0)) (setBlock w2.drew c.mb o)) := fun o hm hg => ⟨lv', rfl, pd_of_cd HJ.out HLL.out hbW hlow hcd HE.out hm ⟨hg.os, hg.tape, hg.output, hg.size, hg.block⟩⟩
  clear hcd hA hbW hAj hW hxW hmW hMR HAH hml hxl hsW2 hsW hlow
  generalize rmL r' lv' = ML at *
  have HMI : Hid _ := info103 ML HMN.out
  go_wp2_with fail
  refine wp_region_held_drew (S := SC c.og c.xb c.mb last w1.heap.size ML) (by kernel_rfl) HSC.out (fun hHeld => ?_)
  generalize w2.drew = U at *
  refine qzI 0 ⟨some 22, .move (.tmp 0), 26, _, #[], none⟩ (.pointer (some ⟨c.xb, 0, none⟩)) rfl (by kernel_rfl) (fun _ _ _ h => h) (by rfl) (fun w' hw' => ?_) hHeld ?_
  · go_simp <;> rfl
  try simp only [Act.put, qT, q0, qS]
  refine qzI 1 ⟨some 23, .nilCheck (.tmp 22), 0, _, #[⟨0, .data⟩], none⟩ (.pointer (some ⟨c.xb, 0, none⟩)) rfl (by kernel_rfl) (fun _ _ _ h => h) (by rfl) (fun w' hw' => ?_) hHeld ?_
  · go_simp <;> rfl
  try simp only [Act.put, qT, q0, qS]
  refine qzI 2 ⟨some 24, .fieldAddr 80 (.tmp 23) 1, 0, _, #[⟨1, .data⟩], none⟩ (.pointer (some ⟨c.xb, 1, none⟩)) rfl (by kernel_rfl) (fun _ _ _ h => h) (by rfl) (fun w' hw' => ?_) hHeld ?_
  · go_simp <;> rfl
  try simp only [Act.put, qT, q0, qS]
  refine qzI 3 ⟨some 25, .load 78 (.tmp 24), 78, _, #[⟨2, .data⟩], none⟩ (.map (some c.mb)) rfl (by kernel_rfl) (fun _ _ _ h => h) (by rfl) (fun w' hw' => ?_) hHeld ?_
  · have hcc := hw'.cell; go_simp <;> rfl
  try simp only [Act.put, qT, q0, qS]
  refine qzI 4 ⟨some 26, .move (.tmp 1), 3, _, #[], none⟩ (.int .i64 rd) rfl (by kernel_rfl) (fun _ _ _ h => h) (by rfl) (fun w' hw' => ?_) hHeld ?_
  · go_simp <;> rfl
  try simp only [Act.put, qT, q0, qS]
  refine qzK 5 ⟨some 27, .load 47 (.tmp 7), 47, _, #[], none⟩ _ rfl (by kernel_rfl) (fun _ _ _ h => h) (yieldsIf_load_mid (by rfl) 47 (.tmp 7) rfl (w1.heap.size) (0) rfl (ML) _ (fun _ h => PC.rangeAt_row h.r) Tryz.underlying47 rfl HMI.out) hHeld ?_
  try simp only [Act.put, qT, q0, qS]
  refine qzR 6 ⟨none, .mapUpdate 78 (.tmp 25) (.tmp 26) (.tmp 27), 0, _, #[⟨3, .data⟩, ⟨4, .data⟩, ⟨5, .data⟩, ⟨0, .phase⟩, ⟨1, .phase⟩, ⟨2, .phase⟩, ⟨3, .phase⟩, ⟨4, .phase⟩, ⟨5, .phase⟩], none⟩ (by kernel_rfl) rfl (by rfl) (fun K hK => ?_)
  obtain ⟨o, hrun, hmr, hgr⟩ := HPUT.out
  refine R5.wp_mapUpd _ _ _ 78 rfl _ _ _ rfl rfl rfl hrun ?_
  have HEND : Hid (ChEnd c tn L' R I X l a b rd r' last E (.returned (.int .i64 0)) (setBlock U c.mb o)) := HFIN.out o hmr hgr
  have hS2 : SC c.og c.xb c.mb last w1.heap.size ML (setBlock U c.mb o) := ⟨(hgr.block c.xb (PC.row_lt hHeld.x) (fun e => by have e' : c.xb = c.mb := (by simpa using e); exact HJ.out.px.ne e'.symm)).trans hHeld.x, (hgr.block _ (PC.row_lt hHeld.r) (fun e => by have e' : w1.heap.size = c.mb := (by simpa using e); have := HJ.out.px.map.lt; omega)).trans hHeld.r⟩
  refine hK.out _ _ hS2 (fun _ => ?_)
  clear hK K
  try simp only [Act.put, qT, q0, qS]
  refine wpAnyH_done (by kernel_rfl) ?_ _
  clear hS2 hHeld hgr hmr hrun HPUT HFIN HSC
  generalize setBlock U c.mb o = V at *
  go_wp2
  go_ret
  exact HEND.out
theorem cAddRec_err (h : JP c tn L R I X l last) {rd : Int} (hrd : iOk rd) {a b : List En} {r : Rm} {lv : Value} (hl : l = a ++ (rd, r, lv) :: b) (p q s : Nat) (er : Int) (her : er ≠ 0)
    (hdo : ∀ W bb, Ahd c tn L R I X W l last bb (rmL r lv) → Calls Tryz.prog 66 (#[.pointer (some ⟨bb, 0, none⟩)] ++ #[.pointer (some ⟨p, 0, none⟩), .pointer (some ⟨q, 0, none⟩)]) W fun e W' => e = .returned (.int .i64 er) ∧ Below W.heap.size W W') :
    Calls Tryz.prog 63 #[.pointer (some ⟨c.xb, 0, none⟩), .int .i64 rd, .func (.func 66) #[] #[.pointer (some ⟨p, 0, none⟩), .pointer (some ⟨q, 0, none⟩)]] X fun e Y => e = .returned (.int .i64 er) ∧ Below X.heap.size X Y := by
  have hmem : (rd, r, lv) ∈ l := by rw [hl]; simp
  have hok := h.px.ok _ hmem
  have hhr := h.px.hr hmem
  have HAT : Hid _ := h.at_is hrd hl
  have her1 : (er == 0) = false := by simpa using her
  have HDO : Hid (∀ W bb, Ahd c tn L R I X W l last bb (rmL r lv) → Calls Tryz.prog 66 (#[.pointer (some ⟨bb, 0, none⟩)] ++ #[.pointer (some ⟨p, 0, none⟩), .pointer (some ⟨q, 0, none⟩)]) W fun e W' => e = .returned (.int .i64 er) ∧ Below W.heap.size W W') := hdo
  clear hdo her hmem
  have hz := fun W => zero_rm W
  obtain ⟨ZL, hZL⟩ : ∃ L, L = rmL zR (.slice none 0 0) := ⟨_, rfl⟩
  rw [← hZL] at hz
  have HZN : Hid (ZL.toArray.size = 103) := by show _ = _; rw [hZL]; simpa using rmL_len zR_ok _
  have HNN : Hid ((rmL r lv).length = 103) := rmL_len hok _
  have HN1 : Hid ((rmL r lv).toArray.all (·.oneCell') = true) := rmL_onea r hhr
  obtain ⟨NL, hNL⟩ : ∃ L, L = rmL r lv := ⟨_, rfl⟩
  rw [← hNL] at HNN HN1 HAT
  have HNL : Hid (NL = rmL r lv) := hNL
  have HNS : Hid (NL.toArray.size = 103) := by show _ = _; simpa using HNN.out
  have HNI : Hid ((Tryz.prog.info? 47).map (·.size) = some NL.toArray.size) := info103a _ HNS.out
  have HZN2 : Hid (ZL.toArray.size = NL.toArray.size) := HZN.out.trans HNS.out.symm
  have HJ : Hid (JP c tn L R I X l last) := h
  clear hok hhr hZL h hNL
  go_enter Tryz.func63, Tryz.ntmps63
  go_wp2_with fail
  refine Calls.mono HAT.out ?_
  rintro e w1 ⟨rfl, hb1⟩
  have hs1 := hb1.size
  have HRA : Hid ((w1.alloc (.cells ZL.toArray 47 (0, 0))).heap[w1.heap.size]? = some (.cells ZL.toArray 47 (0, 0))) := heap_alloc_new _ _
  have HAH : Hid (Ahd c tn L R I X ((w1.alloc (.cells ZL.toArray 47 (0, 0))).setRow w1.heap.size NL.toArray) l last w1.heap.size NL) := ahd_mk HJ.out hb1
  clear hb1 HAT
  go_wp2_with (refine wpList_store_row rfl 47 _ _ rfl w1.heap.size NL.toArray rfl rfl 47 ZL.toArray HRA.out HNI.out HZN2.out HN1.out ?_)
  refine Calls.mono (HDO.out _ _ (HNL.out ▸ HAH.out)) ?_
  rintro e w2 ⟨rfl, hb2⟩
  have HB3 : Hid (Below X.heap.size X w2) := HAH.out.bel.trans (hb2.mono HAH.out.bel.size)
  clear hb2
  go_wp2
  go_ret
  exact ⟨rfl, HB3.out⟩
theorem cAddRec_ok (h : JP c tn L R I X l last) {rd : Int} (hrd : iOk rd) {a b : List En} {r r' : Rm} {lv : Value} (hl : l = a ++ (rd, r, lv) :: b) (p q s : Nat) (hE : ∀ k, E k → ¬ FP c.xb c.mb l k)
    (hdo : ∀ W bb, Ahd c tn L R I X W l last bb (rmL r lv) → Calls Tryz.prog 66 (#[.pointer (some ⟨bb, 0, none⟩)] ++ #[.pointer (some ⟨p, 0, none⟩), .pointer (some ⟨q, 0, none⟩)]) W fun e W' => ClOk c tn L' R (up I X W) W bb E r.log lv r' e W') :
    Calls Tryz.prog 63 #[.pointer (some ⟨c.xb, 0, none⟩), .int .i64 rd, .func (.func 66) #[] #[.pointer (some ⟨p, 0, none⟩), .pointer (some ⟨q, 0, none⟩)]] X fun e Y => ChEnd c tn L' R I X l a b rd r' last E e Y := by
  have hmem : (rd, r, lv) ∈ l := by rw [hl]; simp
  have hok := h.px.ok _ hmem
  have hhr := h.px.hr hmem
  have HFX : Hid (lv.ownBlock ≠ some c.xb ∧ lv.ownBlock ≠ some c.mb) := ⟨fun e => (h.px.far _ hmem _ e).1 rfl, fun e => (h.px.far _ hmem _ e).2 rfl⟩
  have HAT : Hid _ := h.at_is hrd hl
  have HLL : Hid (l = a ++ (rd, r, lv) :: b) := hl
  have HE : Hid (∀ k, E k → ¬ FP c.xb c.mb l k) := hE
  have HDO : Hid (∀ W bb, Ahd c tn L R I X W l last bb (rmL r lv) → Calls Tryz.prog 66 (#[.pointer (some ⟨bb, 0, none⟩)] ++ #[.pointer (some ⟨p, 0, none⟩), .pointer (some ⟨q, 0, none⟩)]) W fun e W' => ClOk c tn L' R (up I X W) W bb E r.log lv r' e W') := hdo
  clear hdo hmem hl hE
  have hz := fun W => zero_rm W
  obtain ⟨ZL, hZL⟩ : ∃ L, L = rmL zR (.slice none 0 0) := ⟨_, rfl⟩
  rw [← hZL] at hz
  have HZN : Hid (ZL.toArray.size = 103) := by show _ = _; rw [hZL]; simpa using rmL_len zR_ok _
  have HNN : Hid ((rmL r lv).length = 103) := rmL_len hok _
  have HN1 : Hid ((rmL r lv).toArray.all (·.oneCell') = true) := rmL_onea r hhr
  obtain ⟨NL, hNL⟩ : ∃ L, L = rmL r lv := ⟨_, rfl⟩
  rw [← hNL] at HNN HN1 HAT
  have HNL : Hid (NL = rmL r lv) := hNL
  have HNS : Hid (NL.toArray.size = 103) := by show _ = _; simpa using HNN.out
  have HNI : Hid ((Tryz.prog.info? 47).map (·.size) = some NL.toArray.size) := info103a _ HNS.out
  have HZN2 : Hid (ZL.toArray.size = NL.toArray.size) := HZN.out.trans HNS.out.symm
  have HJ : Hid (JP c tn L R I X l last) := h
  clear hok hhr hZL h hNL
  go_enter Tryz.func63, Tryz.ntmps63
  go_wp2_with fail
  refine Calls.mono HAT.out ?_
  rintro e w1 ⟨rfl, hb1⟩
  have hs1 := hb1.size
  have HRA : Hid ((w1.alloc (.cells ZL.toArray 47 (0, 0))).heap[w1.heap.size]? = some (.cells ZL.toArray 47 (0, 0))) := heap_alloc_new _ _
  have HAH : Hid (Ahd c tn L R I X ((w1.alloc (.cells ZL.toArray 47 (0, 0))).setRow w1.heap.size NL.toArray) l last w1.heap.size NL) := ahd_mk HJ.out hb1
  clear hb1 HAT
  go_wp2_with (refine wpList_store_row rfl 47 _ _ rfl w1.heap.size NL.toArray rfl rfl 47 ZL.toArray HRA.out HNI.out HZN2.out HN1.out ?_)
  refine Calls.mono (HDO.out _ _ (HNL.out ▸ HAH.out)) ?_
  rintro e w2 ⟨lv', rfl, hcd⟩
  have hA := HAH.out
  have hbW := hA.bel
  have hlow := hA.low
  have hAj := hA.jp
  generalize hW : (w1.alloc (.cells ZL.toArray 47 (0, 0))).setRow w1.heap.size NL.toArray = W at *
  have hsW := hbW.size
  have hsW2 := hcd.size
  have hxl := PC.row_lt HJ.out.px.row
  have hml := HJ.out.px.map.lt
  have hxW : w2.heap[c.xb]? = some (.cells (xL c.og c.mb last).toArray 80 (0, 0)) := (hcd.fr c.xb (by omega) (.inl (HJ.out.px.fI _ (.inl rfl)).1) (by omega) (fun hE' => HE.out _ hE' (.inl rfl)) HFX.out.1).trans hAj.px.row
  have hmW : w2.heap[c.mb]? = W.heap[c.mb]? := hcd.fr c.mb (by omega) (.inl (HJ.out.px.fI _ (.inr (.inl rfl))).1) (by omega) (fun hE' => HE.out _ hE' (.inr (.inl rfl))) HFX.out.2
  have hMR : MR w2 c.mb l := hAj.px.map.keep hmW
  have HMN : Hid ((rmL r' lv').length = 103) := rmL_len hcd.ok _
  have HSC : Hid (SC c.og c.xb c.mb last w1.heap.size (rmL r' lv') w2.drew) := ⟨hxW, hcd.row⟩
  have HPUT : Hid (∃ o, (Instr.mapUpdate 78 (.map (some c.mb)) (.int .i64 rd) (.agg (rmL r' lv').toArray)).run Tryz.prog w2.drew = .ok () (setBlock w2.drew c.mb o) ∧ MR (setBlock w2.drew c.mb o) c.mb (a ++ (rd, r', lv') :: b) ∧ w2.drew.grownBy (setBlock w2.drew c.mb o) (some c.mb)) := mr_put (hMR.keep (w' := w2.drew) rfl) hrd HLL.out r' lv'
  have HFIN : Hid (∀ o, MR (setBlock w2.drew c.mb o) c.mb (a ++ (rd, r', lv') :: b) → w2.drew.grownBy (setBlock w2.drew c.mb o) (some c.mb) → ChEnd c tn L' R I X l a b rd r' last E (.returned (.int .i64 0)) (setBlock w2.drew c.mb o)) := fun o hm hg => ⟨lv', rfl, pd_of_cd HJ.out HLL.out hbW hlow hcd HE.out hm ⟨hg.os, hg.tape, hg.output, hg.size, hg.block⟩⟩
  clear hcd hA hbW hAj hW hxW hmW hMR HAH hml hxl hsW2 hsW hlow
  generalize rmL r' lv' = ML at *
  have HMI : Hid _ := info103 ML HMN.out
  go_wp2_with fail
  refine wp_region_held_drew (S := SC c.og c.xb c.mb last w1.heap.size ML) (by kernel_rfl) HSC.out (fun hHeld => ?_)
  generalize w2.drew = U at *
  refine qzI 0 ⟨some 22, .move (.tmp 0), 26, _, #[], none⟩ (.pointer (some ⟨c.xb, 0, none⟩)) rfl (by kernel_rfl) (fun _ _ _ h => h) (by rfl) (fun w' hw' => ?_) hHeld ?_
  · go_simp <;> rfl
  try simp only [Act.put, qT, q0, qS]
  refine qzI 1 ⟨some 23, .nilCheck (.tmp 22), 0, _, #[⟨0, .data⟩], none⟩ (.pointer (some ⟨c.xb, 0, none⟩)) rfl (by kernel_rfl) (fun _ _ _ h => h) (by rfl) (fun w' hw' => ?_) hHeld ?_
  · go_simp <;> rfl
  try simp only [Act.put, qT, q0, qS]
  refine qzI 2 ⟨some 24, .fieldAddr 80 (.tmp 23) 1, 0, _, #[⟨1, .data⟩], none⟩ (.pointer (some ⟨c.xb, 1, none⟩)) rfl (by kernel_rfl) (fun _ _ _ h => h) (by rfl) (fun w' hw' => ?_) hHeld ?_
  · go_simp <;> rfl
  try simp only [Act.put, qT, q0, qS]
  refine qzI 3 ⟨some 25, .load 78 (.tmp 24), 78, _, #[⟨2, .data⟩], none⟩ (.map (some c.mb)) rfl (by kernel_rfl) (fun _ _ _ h => h) (by rfl) (fun w' hw' => ?_) hHeld ?_
  · have hcc := hw'.cell; go_simp <;> rfl
  try simp only [Act.put, qT, q0, qS]
  refine qzI 4 ⟨some 26, .move (.tmp 1), 3, _, #[], none⟩ (.int .i64 rd) rfl (by kernel_rfl) (fun _ _ _ h => h) (by rfl) (fun w' hw' => ?_) hHeld ?_
  · go_simp <;> rfl
  try simp only [Act.put, qT, q0, qS]
  refine qzK 5 ⟨some 27, .load 47 (.tmp 7), 47, _, #[], none⟩ _ rfl (by kernel_rfl) (fun _ _ _ h => h) (yieldsIf_load_mid (by rfl) 47 (.tmp 7) rfl (w1.heap.size) (0) rfl (ML) _ (fun _ h => PC.rangeAt_row h.r) Tryz.underlying47 rfl HMI.out) hHeld ?_
  try simp only [Act.put, qT, q0, qS]
  refine qzR 6 ⟨none, .mapUpdate 78 (.tmp 25) (.tmp 26) (.tmp 27), 0, _, #[⟨3, .data⟩, ⟨4, .data⟩, ⟨5, .data⟩, ⟨0, .phase⟩, ⟨1, .phase⟩, ⟨2, .phase⟩, ⟨3, .phase⟩, ⟨4, .phase⟩, ⟨5, .phase⟩], none⟩ (by kernel_rfl) rfl (by rfl) (fun K hK => ?_)
  obtain ⟨o, hrun, hmr, hgr⟩ := HPUT.out
  refine R5.wp_mapUpd _ _ _ 78 rfl _ _ _ rfl rfl rfl hrun ?_
  have HEND : Hid (ChEnd c tn L' R I X l a b rd r' last E (.returned (.int .i64 0)) (setBlock U c.mb o)) := HFIN.out o hmr hgr
  have hS2 : SC c.og c.xb c.mb last w1.heap.size ML (setBlock U c.mb o) := ⟨(hgr.block c.xb (PC.row_lt hHeld.x) (fun e => by have e' : c.xb = c.mb := (by simpa using e); exact HJ.out.px.ne e'.symm)).trans hHeld.x, (hgr.block _ (PC.row_lt hHeld.r) (fun e => by have e' : w1.heap.size = c.mb := (by simpa using e); have := HJ.out.px.map.lt; omega)).trans hHeld.r⟩
  refine hK.out _ _ hS2 (fun _ => ?_)
  clear hK K
  try simp only [Act.put, qT, q0, qS]
  refine wpAnyH_done (by kernel_rfl) ?_ _
  clear hS2 hHeld hgr hmr hrun HPUT HFIN HSC
  generalize setBlock U c.mb o = V at *
  go_wp2
  go_ret
  exact HEND.out
end
end Go.Proofs.YtekbppfocnbhbaaGreat.XC
