import Derived.Test.YtekbppfocnbhbaaGreatXK
set_option linter.unusedVariables false
set_option linter.unusedSimpArgs false
set_option maxHeartbeats 16000000
set_option maxRecDepth 100000
namespace Go.Proofs.YtekbppfocnbhbaaGreat.XC
open Go.RowKit
open Go.ChangeMaps (setBlock)
section
variable {c : Cx} {tn last last' : Nat} {L L' R : Lg} {I J : Nat → Prop} {X Y Z W W' : World} {l l' a b : List En} {E : Nat → Prop} {rd : Int} {r r' : Rm} {lv : Value} {bb : Nat}
theorem cNext_val (h : JP c tn L R I X l last) {rd : Int} (hrd : iOk rd) {a b : List En} {r r' : Rm} {lv : Value} (hl : l = a ++ (rd, r, lv) :: b) (p q s : Nat) (hE : ∀ k, E k → ¬ FP c.xb c.mb l k) (ob : Obj) (hpm : p ≠ c.mb)
    (hdo : ∀ W bb, Ahd c tn L R I X W l last bb (rmL r lv) → Calls Tryz.prog 64 (#[.pointer (some ⟨bb, 0, none⟩)] ++ #[.pointer (some ⟨p, 0, none⟩)]) W fun e W' => ClOk c tn L' R (up I X W) W bb E r.log lv r' e W' ∧ W'.heap[p]? = some ob) :
    Calls Tryz.prog 63 #[.pointer (some ⟨c.xb, 0, none⟩), .int .i64 rd, .func (.func 64) #[] #[.pointer (some ⟨p, 0, none⟩)]] X fun e Y => ChEnd c tn L' R I X l a b rd r' last E e Y ∧ Y.heap[p]? = some ob := by
  have hmem : (rd, r, lv) ∈ l := by rw [hl]; simp
  have hok := h.px.ok _ hmem
  have hhr := h.px.hr hmem
  have HFX : Hid (lv.ownBlock ≠ some c.xb ∧ lv.ownBlock ≠ some c.mb) := ⟨fun e => (h.px.far _ hmem _ e).1 rfl, fun e => (h.px.far _ hmem _ e).2 rfl⟩
  have HAT : Hid _ := h.at_is hrd hl
  have HLL : Hid (l = a ++ (rd, r, lv) :: b) := hl
  have HE : Hid (∀ k, E k → ¬ FP c.xb c.mb l k) := hE
  have HDO : Hid (∀ W bb, Ahd c tn L R I X W l last bb (rmL r lv) → Calls Tryz.prog 64 (#[.pointer (some ⟨bb, 0, none⟩)] ++ #[.pointer (some ⟨p, 0, none⟩)]) W fun e W' => ClOk c tn L' R (up I X W) W bb E r.log lv r' e W' ∧ W'.heap[p]? = some ob) := hdo
  clear hdo hmem hl hE
  have hz := fun W => zero_rm W
  obtain ⟨ZL, hZL⟩ : ∃ L, L = rmL zR (.slice none 0 0) := ⟨_, rfl⟩
  rw [← hZL] at hz
  have HZN : Hid (ZL.toArray.size = 103) := by show _ = _; rw [hZL]; simpa using rmL_len zR_ok _
  have HNN : Hid ((rmL r lv).length = 103) := rmL_len hok _
  have HN1 : Hid ((rmL r lv).toArray.all (·.oneCell') = true) := rmL_onea r hhr
  obtain ⟨NL, hNL⟩ : ∃ L, L = rmL r lv := ⟨_, rfl⟩
  rw [← hNL] at HNN HN1 HAT
  have HNL : Hid (NL = rmL r lv) := hNL
  have HNS : Hid (NL.toArray.size = 103) := by show _ = _; simpa using HNN.out
  have HNI : Hid ((Tryz.prog.info? 47).map (·.size) = some NL.toArray.size) := info103a _ HNS.out
  have HZN2 : Hid (ZL.toArray.size = NL.toArray.size) := HZN.out.trans HNS.out.symm
  have HJ : Hid (JP c tn L R I X l last) := h
  clear hok hhr hZL h hNL
  go_enter Tryz.func63, Tryz.ntmps63
  go_wp2_with fail
  refine Calls.mono HAT.out ?_
  rintro e w1 ⟨rfl, hb1⟩
  have hs1 := hb1.size
  have HRA : Hid ((w1.alloc (.cells ZL.toArray 47 (0, 0))).heap[w1.heap.size]? = some (.cells ZL.toArray 47 (0, 0))) := heap_alloc_new _ _
  have HAH : Hid (Ahd c tn L R I X ((w1.alloc (.cells ZL.toArray 47 (0, 0))).setRow w1.heap.size NL.toArray) l last w1.heap.size NL) := ahd_mk HJ.out hb1
  clear hb1 HAT
  go_wp2_with (refine wpList_store_row rfl 47 _ _ rfl w1.heap.size NL.toArray rfl rfl 47 ZL.toArray HRA.out HNI.out HZN2.out HN1.out ?_)
  refine Calls.mono (HDO.out _ _ (HNL.out ▸ HAH.out)) ?_
  rintro e w2 ⟨⟨lv', rfl, hcd⟩, hob⟩
  have hA := HAH.out
  have hbW := hA.bel
  have hlow := hA.low
  have hAj := hA.jp
  generalize hW : (w1.alloc (.cells ZL.toArray 47 (0, 0))).setRow w1.heap.size NL.toArray = W at *
  have hsW := hbW.size
  have hsW2 := hcd.size
  have hxl := PC.row_lt HJ.out.px.row
  have hml := HJ.out.px.map.lt
  have hxW : w2.heap[c.xb]? = some (.cells (xL c.og c.mb last).toArray 80 (0, 0)) := (hcd.fr c.xb (by omega) (.inl (HJ.out.px.fI _ (.inl rfl)).1) (by omega) (fun hE' => HE.out _ hE' (.inl rfl)) HFX.out.1).trans hAj.px.row
  have hmW : w2.heap[c.mb]? = W.heap[c.mb]? := hcd.fr c.mb (by omega) (.inl (HJ.out.px.fI _ (.inr (.inl rfl))).1) (by omega) (fun hE' => HE.out _ hE' (.inr (.inl rfl))) HFX.out.2
  have hMR : MR w2 c.mb l := hAj.px.map.keep hmW
  have HMN : Hid ((rmL r' lv').length = 103) := rmL_len hcd.ok _
  have HSC : Hid (SC c.og c.xb c.mb last w1.heap.size (rmL r' lv') w2.drew) := ⟨hxW, hcd.row⟩
  have HPUT : Hid (∃ o, (Instr.mapUpdate 78 (.map (some c.mb)) (.int .i64 rd) (.agg (rmL r' lv').toArray)).run Tryz.prog w2.drew = .ok () (setBlock w2.drew c.mb o) ∧ MR (setBlock w2.drew c.mb o) c.mb (a ++ (rd, r', lv') :: b) ∧ w2.drew.grownBy (setBlock w2.drew c.mb o) (some c.mb)) := mr_put (hMR.keep (w' := w2.drew) rfl) hrd HLL.out r' lv'
  have HFIN : Hid (∀ o, MR (setBlock w2.drew c.mb o) c.mb (a ++ (rd, r', lv') :: b) → w2.drew.grownBy (setBlock w2.drew c.mb o) (some c.mb) → ChEnd c tn L' R I X l a b rd r' last E (.returned (.int .i64 0)) (setBlock w2.drew c.mb o)) := fun o hm hg => ⟨lv', rfl, pd_of_cd HJ.out HLL.out hbW hlow hcd HE.out hm ⟨hg.os, hg.tape, hg.output, hg.size, hg.block⟩⟩
  have HOB : Hid (∀ o, w2.drew.grownBy (setBlock w2.drew c.mb o) (some c.mb) → (setBlock w2.drew c.mb o).heap[p]? = some ob) := fun o hg => (hg.block p (PC.row_lt hob) (fun e => hpm (by simpa using e))).trans hob
  clear hcd hob hpm hA hbW hAj hW hxW hmW hMR HAH hml hxl hsW2 hsW hlow
  generalize rmL r' lv' = ML at *
  have HMI : Hid _ := info103 ML HMN.out
  go_wp2_with fail
  refine wp_region_held_drew (S := SC c.og c.xb c.mb last w1.heap.size ML) (by kernel_rfl) HSC.out (fun hHeld => ?_)
  generalize w2.drew = U at *
  refine qzI 0 ⟨some 22, .move (.tmp 0), 26, _, #[], none⟩ (.pointer (some ⟨c.xb, 0, none⟩)) rfl (by kernel_rfl) (fun _ _ _ h => h) (by rfl) (fun w' hw' => ?_) hHeld ?_
  · go_simp <;> rfl
  try simp only [Act.put, qT, q0, qS]
  refine qzI 1 ⟨some 23, .nilCheck (.tmp 22), 0, _, #[⟨0, .data⟩], none⟩ (.pointer (some ⟨c.xb, 0, none⟩)) rfl (by kernel_rfl) (fun _ _ _ h => h) (by rfl) (fun w' hw' => ?_) hHeld ?_
  · go_simp <;> rfl
  try simp only [Act.put, qT, q0, qS]
  refine qzI 2 ⟨some 24, .fieldAddr 80 (.tmp 23) 1, 0, _, #[⟨1, .data⟩], none⟩ (.pointer (some ⟨c.xb, 1, none⟩)) rfl (by kernel_rfl) (fun _ _ _ h => h) (by rfl) (fun w' hw' => ?_) hHeld ?_
  · go_simp <;> rfl
  try simp only [Act.put, qT, q0, qS]
  refine qzI 3 ⟨some 25, .load 78 (.tmp 24), 78, _, #[⟨2, .data⟩], none⟩ (.map (some c.mb)) rfl (by kernel_rfl) (fun _ _ _ h => h) (by rfl) (fun w' hw' => ?_) hHeld ?_
  · have hcc := hw'.cell; go_simp <;> rfl
  try simp only [Act.put, qT, q0, qS]
  refine qzI 4 ⟨some 26, .move (.tmp 1), 3, _, #[], none⟩ (.int .i64 rd) rfl (by kernel_rfl) (fun _ _ _ h => h) (by rfl) (fun w' hw' => ?_) hHeld ?_
  · go_simp <;> rfl
  try simp only [Act.put, qT, q0, qS]
  refine qzK 5 ⟨some 27, .load 47 (.tmp 7), 47, _, #[], none⟩ _ rfl (by kernel_rfl) (fun _ _ _ h => h) (yieldsIf_load_mid (by rfl) 47 (.tmp 7) rfl (w1.heap.size) (0) rfl (ML) _ (fun _ h => PC.rangeAt_row h.r) Tryz.underlying47 rfl HMI.out) hHeld ?_
  try simp only [Act.put, qT, q0, qS]
  refine qzR 6 ⟨none, .mapUpdate 78 (.tmp 25) (.tmp 26) (.tmp 27), 0, _, #[⟨3, .data⟩, ⟨4, .data⟩, ⟨5, .data⟩, ⟨0, .phase⟩, ⟨1, .phase⟩, ⟨2, .phase⟩, ⟨3, .phase⟩, ⟨4, .phase⟩, ⟨5, .phase⟩], none⟩ (by kernel_rfl) rfl (by rfl) (fun K hK => ?_)
  obtain ⟨o, hrun, hmr, hgr⟩ := HPUT.out
  refine R5.wp_mapUpd _ _ _ 78 rfl _ _ _ rfl rfl rfl hrun ?_
  have HEND : Hid (ChEnd c tn L' R I X l a b rd r' last E (.returned (.int .i64 0)) (setBlock U c.mb o)) := HFIN.out o hmr hgr
  have HOE : Hid ((setBlock U c.mb o).heap[p]? = some ob) := HOB.out o hgr
  have hS2 : SC c.og c.xb c.mb last w1.heap.size ML (setBlock U c.mb o) := ⟨(hgr.block c.xb (PC.row_lt hHeld.x) (fun e => by have e' : c.xb = c.mb := (by simpa using e); exact HJ.out.px.ne e'.symm)).trans hHeld.x, (hgr.block _ (PC.row_lt hHeld.r) (fun e => by have e' : w1.heap.size = c.mb := (by simpa using e); have := HJ.out.px.map.lt; omega)).trans hHeld.r⟩
  refine hK.out _ _ hS2 (fun _ => ?_)
  clear hK K
  try simp only [Act.put, qT, q0, qS]
  refine wpAnyH_done (by kernel_rfl) ?_ _
  clear hS2 hHeld hgr hmr hrun HPUT HFIN HSC HOB
  generalize setBlock U c.mb o = V at *
  go_wp2
  go_ret
  exact ⟨HEND.out, HOE.out⟩
theorem nxt_no (h : JP c tn L R I X l last) (hrd : iOk rd) (hno : NoRd l rd) :
    Calls Tryz.prog 24 #[.pointer (some ⟨c.xb, 0, none⟩), .int .i64 rd] X fun e Y => e = .returned (.tuple #[.int .u64 0, .int .i64 6]) ∧ Below X.heap.size X Y := by
  obtain ⟨hJ1, hb1⟩ := h.box (.cells #[.int .u64 0] 34 (0, 0))
  have HC : Hid _ := chg_no hJ1 hrd hno (.func (.func 64) #[] #[.pointer (some ⟨X.heap.size, 0, none⟩)])
  have HB1 : Hid _ := hb1
  have hX1 : X.heap.size < (X.alloc (.cells #[.int .u64 0] 34 (0, 0))).heap.size := by simp
  have HX1 : Hid _ := hX1
  clear h hno hJ1 hb1 hX1
  go_enter Tryz.func24, Tryz.ntmps24
  go_wp2_with fail
  refine Calls.mono HC.out ?_
  rintro e w1 ⟨rfl, hb⟩
  have HB : Hid (Below X.heap.size X w1) := HB1.out.trans (hb.mono (by simp))
  have hc : w1.cell? ⟨X.heap.size, 0, none⟩ = some (.int .u64 0) := by rw [cell_of_row _ _ _ _ _ _ ((hb.block _ HX1.out).trans (heap_alloc_new _ _))]; rfl
  clear hb HC HB1
  go_wp2
  go_ret2
  exact ⟨rfl, HB.out⟩
def NxEnd (c : Cx) (tn : Nat) (L R : Lg) (I : Nat → Prop) (X : World) (l a b : List En) (rd : Int) (r : Rm) (last : Nat) (e : Ending) (Y : World) : Prop := ∃ lv', e = .returned (.tuple #[.int .u64 ((r.ctr + 1 : Nat) : Int), .int .i64 0]) ∧ PD c tn L R I X Y l (a ++ (rd, { r with ctr := r.ctr + 1 }, lv') :: b) last (fun _ => False)
theorem nxt_ok (h : JP c tn L R I X l last) (hrd : iOk rd) (hl : l = a ++ (rd, r, lv) :: b) (hct : r.ctr < 1000000) :
    Calls Tryz.prog 24 #[.pointer (some ⟨c.xb, 0, none⟩), .int .i64 rd] X fun e Y => NxEnd c tn L R I X l a b rd r last e Y := by
  have hok := h.px.ok _ (mem_of hl)
  obtain ⟨hJ1, hb1⟩ := h.box (.cells #[.int .u64 0] 34 (0, 0))
  have hmb := h.px.map.lt
  have hX1 : X.heap.size < (X.alloc (.cells #[.int .u64 0] 34 (0, 0))).heap.size := by simp
  have hFPn : ∀ k, k = X.heap.size → ¬ FP c.xb c.mb l k := fun k hk hf => by have := h.px.top k hf; omega
  have HC : Hid (Calls Tryz.prog 63 #[.pointer (some ⟨c.xb, 0, none⟩), .int .i64 rd, .func (.func 64) #[] #[.pointer (some ⟨X.heap.size, 0, none⟩)]] (X.alloc (.cells #[.int .u64 0] 34 (0, 0))) fun e Y => ChEnd c tn L R (up I X (X.alloc (.cells #[.int .u64 0] 34 (0, 0)))) (X.alloc (.cells #[.int .u64 0] 34 (0, 0))) l a b rd { r with ctr := r.ctr + 1 } last (fun k => k = X.heap.size) e Y ∧ Y.heap[X.heap.size]? = some (.cells #[.int .u64 ((r.ctr + 1 : Nat) : Int)] 34 (0, 0))) := by
    refine cNext_val hJ1 hrd hl X.heap.size 0 0 hFPn _ (by omega) (fun W bb hA => ?_)
    have hc := hA.cellA (rmL_69 hok lv)
    have hf := frozen_of_row _ _ 69 _ _ hA.row
    have hlowb := hA.low
    have hbW := hA.bel.size
    have hpr : W.heap[X.heap.size]? = some (.cells #[.int .u64 0] 34 (0, 0)) := (hA.bel.block _ hX1).trans (heap_alloc_new _ _)
    have hne : bb ≠ X.heap.size := by omega
    have hV : ClOk c tn L R (up (up I X (X.alloc (.cells #[.int .u64 0] 34 (0, 0)))) (X.alloc (.cells #[.int .u64 0] 34 (0, 0))) W) W bb (fun k => k = X.heap.size) r.log lv { r with ctr := r.ctr + 1 } (.returned (.int .i64 0)) ((W.setCell ⟨bb, 69, none⟩ (PC.U8 (r.ctr + 1))).setCell ⟨X.heap.size, 0, none⟩ (PC.U8 (r.ctr + 1))) := by
      refine ⟨lv, rfl, cd_of hA (mem_of hl) ((R5.Fr.setCell (R5.Fr.refl _ _) bb 69 _ (.inl (.inl rfl))).setCell X.heap.size 0 _ (.inl (.inr rfl))) (fun k h => ?_) ?_ ⟨hok.m, hok.k, hok.t, hok.l⟩ rfl (hJ1.lvX hl)⟩
      · subst h
        exact ⟨.inl (.inr ⟨Nat.le_refl _, hX1⟩), h.mm.low.2, fun e => by have := h.lvX hl _ e; omega⟩
      · rw [heap_setCell_other _ _ _ _ hne, heap_setCell_same _ _ 69 _ _ _ hA.row, List.setIfInBounds_toArray, rmL_set69 hok]
    have hV2 : ((W.setCell ⟨bb, 69, none⟩ (PC.U8 (r.ctr + 1))).setCell ⟨X.heap.size, 0, none⟩ (PC.U8 (r.ctr + 1))).heap[X.heap.size]? = some (.cells #[.int .u64 ((r.ctr + 1 : Nat) : Int)] 34 (0, 0)) := by
      rw [heap_setCell_same _ _ 0 _ _ _ ((heap_setCell_other _ _ _ _ (Ne.symm hne)).trans hpr)]; rfl
    have hc2 : (W.setCell ⟨bb, 69, none⟩ (PC.U8 (r.ctr + 1))).cell? ⟨bb, 69, none⟩ = some (PC.U8 (r.ctr + 1)) := by
      rw [cell_of_row _ _ 69 _ _ _ (heap_setCell_same _ _ 69 _ _ _ hA.row), List.setIfInBounds_toArray, List.getElem?_toArray, List.getElem?_set_self (by rw [rmL_len hok]; decide)]
    have hc3 : (W.setCell ⟨bb, 69, none⟩ (PC.U8 (r.ctr + 1))).cell? ⟨X.heap.size, 0, none⟩ = some (.int .u64 0) := by rw [cell_of_row _ _ 0 _ _ _ ((heap_setCell_other _ _ _ _ (Ne.symm hne)).trans hpr)]; rfl
    have hf3 : (W.setCell ⟨bb, 69, none⟩ (PC.U8 (r.ctr + 1))).frozen? ⟨X.heap.size, 0, none⟩ = false := frozen_of_row _ _ 0 _ _ ((heap_setCell_other _ _ _ _ (Ne.symm hne)).trans hpr)
    have hadd : IntKind.u64.wrap ((r.ctr : Int) + 1) = ((r.ctr + 1 : Nat) : Int) := by rw [IntKind.wrap_u64]; omega
    have HV : Hid _ := And.intro hV hV2
    unfold PC.U8 at hc hc2 hc3 hf3 HV
    obtain ⟨CN, hCN⟩ : ∃ C : Int, C = (r.ctr : Int) := ⟨_, rfl⟩
    obtain ⟨CM, hCM⟩ : ∃ C : Int, C = ((r.ctr + 1 : Nat) : Int) := ⟨_, rfl⟩
    have hlim : CN < 4294967296 := by omega
    have hlim2 : ¬ (4294967296 ≤ CN) := by omega
    rw [← hCM] at HV hc2 hc3 hf3 hadd ⊢
    rw [← hCN] at hc hadd
    clear hV hV2 hCN hCM hA hbW hpr hlowb
    go_enter Tryz.func64, Tryz.ntmps64
    go_wp2
    go_ret
    exact HV.out
  have HJ : Hid (JP c tn L R I X l last) := h
  have HB1 : Hid _ := hb1
  clear h hl hJ1 hb1 hok
  go_enter Tryz.func24, Tryz.ntmps24
  go_wp2_with fail
  refine Calls.mono HC.out ?_
  rintro e w1 ⟨hE, hrow⟩
  have hE2 := hE.ahead HJ.out HB1.out (fun k h => by rw [h]; exact Nat.le_refl _)
  obtain ⟨lv', rfl, hp⟩ := hE2
  have HP : Hid (PD c tn L R I X w1 l (a ++ (rd, { r with ctr := r.ctr + 1 }, lv') :: b) last (fun _ => False)) := hp
  have hcv : w1.cell? ⟨X.heap.size, 0, none⟩ = some (.int .u64 ((r.ctr + 1 : Nat) : Int)) := by rw [cell_of_row _ _ _ _ _ _ hrow]; rfl
  have HEND : Hid (NxEnd c tn L R I X l a b rd r last (.returned (.tuple #[.int .u64 ((r.ctr + 1 : Nat) : Int), .int .i64 0])) w1) := ⟨lv', rfl, hp⟩
  clear hp HC HB1 hE hrow hct hFPn
  generalize ((r.ctr + 1 : Nat) : Int) = CM at *
  go_wp2
  go_ret2
  exact HEND.out
theorem wpList_del {ops : Array Oper} {rest : List Oper} {o : Oper} {a : Act} {Q : Exit → Act → World → Prop} {w w' : World} (hg : o.guard = none) (m x : Operand) (t k : TypeId) (hop : o.op = Op.call { callee := Callee.builtin Builtin.delete, args := #[m, x], argTypes := #[t, k] })
    (mv kv : Value) (hm : a.eval m = mv) (hx : a.eval x = kv) (hrun : (Builtin.delete_ #[t, k] o.type #[mv, kv]).run Tryz.prog w = .ok (.tuple #[]) w') (h : wpList Tryz.prog ops Q rest (a.put o.dst (.tuple #[])) w') : wpList Tryz.prog ops Q (o :: rest) a w := by
  refine wpList_plain hg fun K' hK' => ?_
  unfold Oper.wp
  simp [execOp, hop, resolve, invoke, builtin, hm, hx, hrun, Result.andThen]
  exact hK' _ _ h
theorem pd_del (h : JP c tn L R I X l last) (hl : l = a ++ (rd, r, lv) :: b) (hb : Below X.heap.size X W) (hm : MR Y c.mb (a ++ b)) (hg : W.grownBy Y (some c.mb)) : PD c tn L R I X Y l (a ++ b) last (fun _ => False) := by
  have hs := hb.size
  have hs3 := hg.size
  have hmb := h.px.map.lt
  have hxb := PC.row_lt h.px.row
  have hmbI := (h.px.fI c.mb (.inr (.inl rfl)))
  have same : ∀ k, k < X.heap.size → k ≠ c.mb → Y.heap[k]? = X.heap[k]? := fun k hk hkm => (hg.block k (by omega) (fun e => hkm (by simpa using e))).trans (hb.block k hk)
  have hab : ∀ x, x ∈ a ++ b → x ∈ l := fun x hx => by rw [hl]; rcases List.mem_append.1 hx with hx | hx <;> simp [hx]
  refine ⟨by omega, ⟨I, ⟨?_, ⟨(same _ hxb (fun e => h.px.ne e.symm)).trans h.px.row, hm, fun x hx => h.px.ok x (hab x hx), fun x hx => R5.own_keep (h.px.own x (hab x hx)) (fun k e hk => same k hk (h.px.far x (hab x hx) k e).2), ?_, ?_, fun x hx => h.px.far x (hab x hx)⟩⟩, fun k hk => hk⟩, fun k hk _ hF _ => same k hk (fun e => hF (.inr (.inl e))), ?_, fun x hx k e => ⟨fun j _ => World.cell?_of_block (a := ⟨k, j, none⟩) (same k (HO.lt (h.px.own x hx) k e) (h.px.far x hx k e).2), fun y hy ey => by rw [apart_eq h.px.apart hx (hab y hy) e ey]; exact Nat.le_refl _⟩⟩
  · refine (h.mm.go (J := I) (R5.Fr.ofBelow hb) (fun k hk => .inl hk)).go (J := I) ⟨hg.os, hg.tape, hg.output, hg.size, fun k hk hn => hg.block k hk (fun e => ?_)⟩ (fun k hk => .inl hk)
    have e' : k = c.mb := by simpa using e
    exact hn (e' ▸ ⟨hmbI.2, hmbI.1⟩)
  · have hp := h.px.apart
    rw [hl] at hp
    exact hp.sublist (List.Sublist.append_left (List.sublist_cons_self _ _) _)
  · rintro k (rfl | rfl | ⟨x, hx, e⟩)
    · exact h.px.fI _ (.inl rfl)
    · exact hmbI
    · exact h.px.fI k (.inr (.inr ⟨x, hab x hx, e⟩))
  · rintro k (rfl | rfl | ⟨x, hx, e⟩)
    · exact .inl (.inl rfl)
    · exact .inl (.inr (.inl rfl))
    · exact .inl (.inr (.inr ⟨x, hab x hx, e⟩))
theorem drop_no (h : JP c tn L R I X l last) (hrd : iOk rd) (hno : NoRd l rd) :
    Calls Tryz.prog 31 #[.pointer (some ⟨c.xb, 0, none⟩), .int .i64 rd] X fun e Y => e = .returned (.int .i64 6) ∧ Below X.heap.size X Y := by
  have hok := zR_ok
  have hhr : HR X (.slice none 0 0) zR.log := .inl ⟨rfl, rfl⟩
  have HAT : Hid _ := h.at_no hrd hno
  generalize (zR : Rm) = r at *
  generalize hlv : (Value.slice none 0 0) = lv at *
  clear hlv hno
  have hz := fun W => zero_rm W
  obtain ⟨ZL, hZL⟩ : ∃ L, L = rmL zR (.slice none 0 0) := ⟨_, rfl⟩
  rw [← hZL] at hz
  have HZN : Hid (ZL.toArray.size = 103) := by show _ = _; rw [hZL]; simpa using rmL_len zR_ok _
  have HNN : Hid ((rmL r lv).length = 103) := rmL_len hok _
  have HN1 : Hid ((rmL r lv).toArray.all (·.oneCell') = true) := rmL_onea r hhr
  have HC9 : Hid ((rmL r lv)[102]? = some (.int .i64 (r.recs : Int))) := rmL_102 hok lv
  obtain ⟨NL, hNL⟩ : ∃ L, L = rmL r lv := ⟨_, rfl⟩
  rw [← hNL] at HNN HN1 HAT HC9
  have HNS : Hid (NL.toArray.size = 103) := by show _ = _; simpa using HNN.out
  have HNI : Hid ((Tryz.prog.info? 47).map (·.size) = some NL.toArray.size) := info103a _ HNS.out
  have HZN2 : Hid (ZL.toArray.size = NL.toArray.size) := HZN.out.trans HNS.out.symm
  have HJ : Hid (JP c tn L R I X l last) := h
  clear hok hhr hZL h hNL
  go_enter Tryz.func31, Tryz.ntmps31
  go_wp2_with fail
  refine Calls.mono HAT.out ?_
  rintro e w1 ⟨rfl, hb1⟩
  have hs1 := hb1.size
  have HRA : Hid ((w1.alloc (.cells ZL.toArray 47 (0, 0))).heap[w1.heap.size]? = some (.cells ZL.toArray 47 (0, 0))) := heap_alloc_new _ _
  obtain ⟨V, hV⟩ : ∃ V, V = (w1.alloc (.cells ZL.toArray 47 (0, 0))).setRow w1.heap.size NL.toArray := ⟨_, rfl⟩
  have hB2 : Below X.heap.size X V := by rw [hV]; exact below_setRow (hb1.alloc hs1 _) hs1 _
  have hrV : V.heap[w1.heap.size]? = some (.cells NL.toArray 47 (0, 0)) := by rw [hV]; exact setRow_heap _ _ _ _ _ _ (heap_alloc_new _ _)
  have hcV := PC.rangeAt_row hrV 102 _ HC9.out
  have hmV := (HJ.out.step hB2).px.cells.2.1
  have HB2 : Hid (Below X.heap.size X V) := hB2
  have HMV : Hid (MR V c.mb l) := (HJ.out.step hB2).px.map
  rw [Nat.zero_add] at hcV
  clear hb1 HAT hB2 hrV
  rw [hV] at hcV hmV
  go_wp2_with (refine wpList_store_row rfl 47 _ _ rfl w1.heap.size NL.toArray rfl rfl 47 ZL.toArray HRA.out HNI.out HZN2.out HN1.out ?_)
  go_ret
  exact ⟨rfl, hV ▸ HB2.out⟩
theorem drop_use (h : JP c tn L R I X l last) (hrd : iOk rd) (hl : l = a ++ (rd, r, lv) :: b) (hu : 0 < r.recs) :
    Calls Tryz.prog 31 #[.pointer (some ⟨c.xb, 0, none⟩), .int .i64 rd] X fun e Y => e = .returned (.int .i64 9) ∧ Below X.heap.size X Y := by
  have hok := h.px.ok _ (mem_of hl)
  have hhr := h.px.hr (mem_of hl)
  have HAT : Hid _ := h.at_is hrd hl
  have hrec : (0 : Int) < (r.recs : Int) := by omega
  clear hl hu
  have hz := fun W => zero_rm W
  obtain ⟨ZL, hZL⟩ : ∃ L, L = rmL zR (.slice none 0 0) := ⟨_, rfl⟩
  rw [← hZL] at hz
  have HZN : Hid (ZL.toArray.size = 103) := by show _ = _; rw [hZL]; simpa using rmL_len zR_ok _
  have HNN : Hid ((rmL r lv).length = 103) := rmL_len hok _
  have HN1 : Hid ((rmL r lv).toArray.all (·.oneCell') = true) := rmL_onea r hhr
  have HC9 : Hid ((rmL r lv)[102]? = some (.int .i64 (r.recs : Int))) := rmL_102 hok lv
  obtain ⟨NL, hNL⟩ : ∃ L, L = rmL r lv := ⟨_, rfl⟩
  rw [← hNL] at HNN HN1 HAT HC9
  have HNS : Hid (NL.toArray.size = 103) := by show _ = _; simpa using HNN.out
  have HNI : Hid ((Tryz.prog.info? 47).map (·.size) = some NL.toArray.size) := info103a _ HNS.out
  have HZN2 : Hid (ZL.toArray.size = NL.toArray.size) := HZN.out.trans HNS.out.symm
  have HJ : Hid (JP c tn L R I X l last) := h
  clear hok hhr hZL h hNL
  go_enter Tryz.func31, Tryz.ntmps31
  go_wp2_with fail
  refine Calls.mono HAT.out ?_
  rintro e w1 ⟨rfl, hb1⟩
  have hs1 := hb1.size
  have HRA : Hid ((w1.alloc (.cells ZL.toArray 47 (0, 0))).heap[w1.heap.size]? = some (.cells ZL.toArray 47 (0, 0))) := heap_alloc_new _ _
  obtain ⟨V, hV⟩ : ∃ V, V = (w1.alloc (.cells ZL.toArray 47 (0, 0))).setRow w1.heap.size NL.toArray := ⟨_, rfl⟩
  have hB2 : Below X.heap.size X V := by rw [hV]; exact below_setRow (hb1.alloc hs1 _) hs1 _
  have hrV : V.heap[w1.heap.size]? = some (.cells NL.toArray 47 (0, 0)) := by rw [hV]; exact setRow_heap _ _ _ _ _ _ (heap_alloc_new _ _)
  have hcV := PC.rangeAt_row hrV 102 _ HC9.out
  have hmV := (HJ.out.step hB2).px.cells.2.1
  have HB2 : Hid (Below X.heap.size X V) := hB2
  have HMV : Hid (MR V c.mb l) := (HJ.out.step hB2).px.map
  rw [Nat.zero_add] at hcV
  clear hb1 HAT hB2 hrV
  rw [hV] at hcV hmV
  generalize (r.recs : Int) = RI at *
  go_wp2_with (refine wpList_store_row rfl 47 _ _ rfl w1.heap.size NL.toArray rfl rfl 47 ZL.toArray HRA.out HNI.out HZN2.out HN1.out ?_)
  go_ret
  exact ⟨rfl, hV ▸ HB2.out⟩
def DrEnd (c : Cx) (tn : Nat) (L R : Lg) (I : Nat → Prop) (X : World) (l a b : List En) (last : Nat) (e : Ending) (Y : World) : Prop := e = .returned (.int .i64 0) ∧ PD c tn L R I X Y l (a ++ b) last (fun _ => False)
theorem drop_ok (h : JP c tn L R I X l last) (hrd : iOk rd) (hl : l = a ++ (rd, r, lv) :: b) (hu : r.recs = 0) :
    Calls Tryz.prog 31 #[.pointer (some ⟨c.xb, 0, none⟩), .int .i64 rd] X fun e Y => DrEnd c tn L R I X l a b last e Y := by
  have hok := h.px.ok _ (mem_of hl)
  have hhr := h.px.hr (mem_of hl)
  have HAT : Hid _ := h.at_is hrd hl
  have HLL : Hid (l = a ++ (rd, r, lv) :: b) := hl
  have hrec : ¬ (0 : Int) < (r.recs : Int) := by omega
  clear hl hu
  have hz := fun W => zero_rm W
  obtain ⟨ZL, hZL⟩ : ∃ L, L = rmL zR (.slice none 0 0) := ⟨_, rfl⟩
  rw [← hZL] at hz
  have HZN : Hid (ZL.toArray.size = 103) := by show _ = _; rw [hZL]; simpa using rmL_len zR_ok _
  have HNN : Hid ((rmL r lv).length = 103) := rmL_len hok _
  have HN1 : Hid ((rmL r lv).toArray.all (·.oneCell') = true) := rmL_onea r hhr
  have HC9 : Hid ((rmL r lv)[102]? = some (.int .i64 (r.recs : Int))) := rmL_102 hok lv
  obtain ⟨NL, hNL⟩ : ∃ L, L = rmL r lv := ⟨_, rfl⟩
  rw [← hNL] at HNN HN1 HAT HC9
  have HNS : Hid (NL.toArray.size = 103) := by show _ = _; simpa using HNN.out
  have HNI : Hid ((Tryz.prog.info? 47).map (·.size) = some NL.toArray.size) := info103a _ HNS.out
  have HZN2 : Hid (ZL.toArray.size = NL.toArray.size) := HZN.out.trans HNS.out.symm
  have HJ : Hid (JP c tn L R I X l last) := h
  clear hok hhr hZL h hNL
  go_enter Tryz.func31, Tryz.ntmps31
  go_wp2_with fail
  refine Calls.mono HAT.out ?_
  rintro e w1 ⟨rfl, hb1⟩
  have hs1 := hb1.size
  have HRA : Hid ((w1.alloc (.cells ZL.toArray 47 (0, 0))).heap[w1.heap.size]? = some (.cells ZL.toArray 47 (0, 0))) := heap_alloc_new _ _
  obtain ⟨V, hV⟩ : ∃ V, V = (w1.alloc (.cells ZL.toArray 47 (0, 0))).setRow w1.heap.size NL.toArray := ⟨_, rfl⟩
  have hB2 : Below X.heap.size X V := by rw [hV]; exact below_setRow (hb1.alloc hs1 _) hs1 _
  have hrV : V.heap[w1.heap.size]? = some (.cells NL.toArray 47 (0, 0)) := by rw [hV]; exact setRow_heap _ _ _ _ _ _ (heap_alloc_new _ _)
  have hcV := PC.rangeAt_row hrV 102 _ HC9.out
  have hmV := (HJ.out.step hB2).px.cells.2.1
  have HB2 : Hid (Below X.heap.size X V) := hB2
  have HMV : Hid (MR V c.mb l) := (HJ.out.step hB2).px.map
  rw [Nat.zero_add] at hcV
  clear hb1 HAT hB2 hrV
  obtain ⟨o, hrun, hmr, hgr⟩ := mr_del HMV.out hrd HLL.out 0
  have HEND : Hid (DrEnd c tn L R I X l a b last (.returned (.int .i64 0)) (setBlock V c.mb o)) := ⟨rfl, pd_del HJ.out HLL.out HB2.out hmr hgr⟩
  rw [hV] at hcV hmV hrun HEND
  have HRUN : Hid _ := hrun
  generalize (r.recs : Int) = RI at *
  clear hmr hgr hV HMV hrun
  go_wp2_with (first
    | (refine wpList_store_row rfl 47 _ _ rfl w1.heap.size NL.toArray rfl rfl 47 ZL.toArray HRA.out HNI.out HZN2.out HN1.out ?_)
    | (refine wpList_del rfl _ _ 78 3 rfl (.map (some c.mb)) (.int .i64 rd) rfl rfl HRUN.out ?_))
  go_ret
  exact HEND.out
end
end Go.Proofs.YtekbppfocnbhbaaGreat.XC
