import Derived.Test.YtekbppfocnbhbaaGreatQi
set_option linter.unusedVariables false
set_option linter.unusedSimpArgs false
set_option maxHeartbeats 16000000
set_option maxRecDepth 100000
namespace Go.Proofs.YtekbppfocnbhbaaGreat.XC
open Go.RowKit
structure KX (og xb mo mb last : Nat) (W : World) (l : List En) : Prop where
  row : W.heap[xb]? = some (.cells (xL og mb last).toArray 80 (0, 0))
  oc : W.cell? ⟨og, 35, none⟩ = some (.map (some mo))
  map : MR W mb l
  ok : ∀ x ∈ l, x.2.1.ok ∧ x.2.1.log.length < 1000000 ∧ HR W x.2.2 x.2.1.log
section
variable {og xb mo mb last : Nat} {X Y : World} {l : List En}
theorem KX.cells (h : KX og xb mo mb last X l) : X.cell? ⟨xb, 0, none⟩ = some (.pointer (some ⟨og, 0, none⟩)) ∧ X.cell? ⟨xb, 1, none⟩ = some (.map (some mb)) ∧ X.cell? ⟨xb, 2, none⟩ = some (.int .u64 (last : Int)) := by
  refine ⟨?_, ?_, ?_⟩ <;> (rw [cell_of_row _ _ _ _ _ _ h.row]; rfl)
theorem KX.step (h : KX og xb mo mb last X l) (hb : Below X.heap.size X Y) : KX og xb mo mb last Y l :=
  ⟨(hb.block _ (PC.row_lt h.row)).trans h.row, (hb.cell (p := ⟨og, 35, none⟩) (cell_lt h.oc)).trans h.oc, h.map.keep (hb.block _ h.map.lt), fun x hx => ⟨(h.ok x hx).1, (h.ok x hx).2.1, (h.ok x hx).2.2.below hb⟩⟩
theorem KX.nonO (h : KX og xb mo mb last X l) : Calls Tryz.prog 54 #[.pointer (some ⟨xb, 0, none⟩)] X fun e Y => e = .returned (.bool false) ∧ Below X.heap.size X Y := none_live xb og mo mb last X h.row h.oc
theorem KX.at_is (h : KX og xb mo mb last X l) {rd : Int} (hrd : iOk rd) {a b : List En} {r : Rm} {lv : Value} (hl : l = a ++ (rd, r, lv) :: b) :
    Calls Tryz.prog 43 #[.pointer (some ⟨xb, 0, none⟩), .int .i64 rd] X fun e Y => e = .returned (.tuple #[.agg (rmL r lv).toArray, .int .i64 0]) ∧ Below X.heap.size X Y := by
  have hmem : (rd, r, lv) ∈ l := by rw [hl]; simp
  have HNN : Hid ((rmL r lv).length = 103) := rmL_len (h.ok _ hmem).1 _
  have HN1 : Hid ((rmL r lv).toArray.all (·.oneCell') = true) := rmL_onea r (h.ok _ hmem).2.2
  obtain ⟨NL, hNL⟩ : ∃ L, L = rmL r lv := ⟨_, rfl⟩
  rw [← hNL] at HNN HN1 ⊢
  have HNL : Hid (NL = rmL r lv) := hNL
  clear hNL hmem
  have HNS : Hid (NL.toArray.size = 103) := by show _ = _; simpa using HNN.out
  have HNI : Hid ((Tryz.prog.info? 47).map (·.size) = some NL.toArray.size) := info103a _ HNS.out
  have HNJ : Hid _ := info103 NL HNN.out
  have HN : Hid _ := h.nonO
  have HJ : Hid (KX og xb mo mb last X l) := h
  have hz := fun W => zero_rm W
  have HBZ : Hid (∀ W, (Instr.build 47 #[]).run Tryz.prog W = .ok (.agg (rmL zR (.slice none 0 0)).toArray) W) := build_zrm
  obtain ⟨ZL, hZL⟩ : ∃ L, L = rmL zR (.slice none 0 0) := ⟨_, rfl⟩
  rw [← hZL] at hz HBZ
  have HZN : Hid (ZL.length = 103) := by show _ = _; rw [hZL]; exact rmL_len zR_ok _
  have HZS : Hid (ZL.toArray.size = 103) := by show _ = _; simpa using HZN.out
  have HZ1 : Hid (ZL.toArray.all (·.oneCell') = true) := by show _ = _; rw [hZL]; exact PC.onea (rmL_one _ _ rfl)
  have HZI : Hid ((Tryz.prog.info? 47).map (·.size) = some ZL.toArray.size) := info103a _ HZS.out
  have HXA : Hid (KX og xb mo mb last (X.alloc (.cells ZL.toArray 47 (0, 0))) l) := h.step ((Below.refl _ _).alloc (Nat.le_refl _) _)
  have HNA : Hid _ := HXA.out.nonO
  have HZL : Hid (ZL = rmL zR (.slice none 0 0)) := hZL
  have HXB : Hid (Below X.heap.size X (X.alloc (.cells ZL.toArray 47 (0, 0)))) := (Below.refl _ _).alloc (Nat.le_refl _) _
  have HXR : Hid ((X.alloc (.cells ZL.toArray 47 (0, 0))).heap[X.heap.size]? = some (.cells ZL.toArray 47 (0, 0))) := heap_alloc_new _ _
  have hsA : (X.alloc (.cells ZL.toArray 47 (0, 0))).heap.size = X.heap.size + 1 := by simp
  have HSA : Hid _ := hsA
  clear h hsA hZL HN
  go_enter Tryz.func43, Tryz.ntmps43
  go_wp2_with fail
  refine Calls.mono HNA.out ?_
  rintro e w1 ⟨rfl, hb⟩
  have hJ1 := HXA.out.step hb
  have h1 := hJ1.cells.2.1
  have HJ1 : Hid (KX og xb mo mb last w1 l) := hJ1
  have HR1 : Hid (w1.heap[X.heap.size]? = some (.cells ZL.toArray 47 (0, 0))) := (hb.block _ (by simp)).trans HXR.out
  have hs1 : X.heap.size + 1 ≤ w1.heap.size := by have := hb.size; have := HSA.out; omega
  have HB1 : Hid (Below X.heap.size X w1) := HXB.out.trans (hb.mono (by have := HSA.out; omega))
  clear hb hJ1 HXA HNA HXR
  have hlk : (Instr.lookup 78 (.map (some mb)) (.int .i64 rd) true).run Tryz.prog w1 = .ok (.tuple #[.agg NL.toArray, .bool true]) w1 := by rw [HNL.out]; exact mr_some HJ1.out.map hrd hl true
  have HZN2 : Hid (ZL.toArray.size = NL.toArray.size) := HZS.out.trans HNS.out.symm
  have HRA : Hid ((w1.alloc (.cells ZL.toArray 47 (0, 0))).heap[w1.heap.size]? = some (.cells ZL.toArray 47 (0, 0))) := heap_alloc_new _ _
  have HRN : Hid (((w1.alloc (.cells ZL.toArray 47 (0, 0))).setRow w1.heap.size NL.toArray).rangeAt w1.heap.size 0 NL) := PC.rangeAt_row (setRow_heap _ _ _ _ _ _ HRA.out)
  have HRZ : Hid (((w1.alloc (.cells ZL.toArray 47 (0, 0))).setRow w1.heap.size NL.toArray).heap[X.heap.size]? = some (.cells ZL.toArray 47 (0, 0))) := by
    show _ = _
    rw [setRow_other _ _ _ _ (by omega), heap_alloc_old _ _ (by omega)]; exact HR1.out
  clear hl
  go_wp2_with (first
    | (refine wpList_load_mid rfl 47 _ rfl w1.heap.size 0 rfl NL _ HRN.out Tryz.underlying47 rfl HNJ.out ?_)
    | (refine wpList_store_row rfl 47 _ _ rfl w1.heap.size NL.toArray rfl rfl 47 ZL.toArray HRA.out HNI.out HZN2.out HN1.out ?_)
    | (refine wpList_store_row rfl 47 _ _ rfl X.heap.size NL.toArray rfl rfl 47 ZL.toArray HRZ.out HNI.out HZN2.out HN1.out ?_))
  have hbE : Below X.heap.size X (((w1.alloc (.cells ZL.toArray 47 (0, 0))).setRow w1.heap.size NL.toArray).setRow X.heap.size NL.toArray) := below_setRow (below_setRow (HB1.out.alloc (by omega) _) (by omega) _) (Nat.le_refl _) _
  refine bodyPost_ret (v := .tuple #[.agg NL.toArray, .int .i64 0]) ?_ rfl ⟨rfl, hbE⟩
  exact PC.results2 Tryz.results43 _ _ X.heap.size 47 _ (0, 0) _ rfl rfl (setRow_heap _ _ _ _ _ _ HRZ.out) Tryz.underlying47 rfl HNJ.out
theorem KX.get (h : KX og xb mo mb last X l) {rd : Int} (hrd : iOk rd) (r : Rm) (lv : Value) (hc : ∃ a b, l = a ++ (rd, r, lv) :: b) :
    Calls Tryz.prog 12 #[.pointer (some ⟨xb, 0, none⟩), .int .i64 rd] X fun e Y => GEnd X r 0 e Y := by
  obtain ⟨aa, bb, hl⟩ := hc
  have hmem : (rd, r, lv) ∈ l := by rw [hl]; simp
  obtain ⟨hok, hll, hhr⟩ := h.ok _ hmem
  have hz := fun W => zero_rm W
  obtain ⟨ZL, hZL⟩ : ∃ L, L = rmL zR (.slice none 0 0) := ⟨_, rfl⟩
  rw [← hZL] at hz
  have HZN : Hid (ZL.toArray.size = 103) := by show _ = _; rw [hZL]; simpa using rmL_len zR_ok _
  obtain ⟨w0, hw0⟩ : ∃ w0, w0 = X.alloc (.cells ZL.toArray 47 (0, 0)) := ⟨_, rfl⟩
  have hb0 : Below X.heap.size X w0 := by rw [hw0]; exact (Below.refl _ _).alloc (Nat.le_refl _) _
  have hs0 : w0.heap.size = X.heap.size + 1 := by rw [hw0]; simp
  have hr0 : w0.heap[X.heap.size]? = some (.cells ZL.toArray 47 (0, 0)) := by rw [hw0]; exact heap_alloc_new _ _
  have HAT : Hid _ := KX.at_is (h.step hb0) hrd hl
  have HNN : Hid ((rmL r lv).length = 103) := rmL_len hok _
  have HN1 : Hid ((rmL r lv).toArray.all (·.oneCell') = true) := rmL_onea r hhr
  have HTO : Hid (∀ W, Below X.heap.size X W → Calls Tryz.prog 44 #[.agg (rmL r lv).toArray] W fun e w' => TEnd W r e w') := fun W hb => told_any r lv W hok (hhr.below hb) hll
  have HOK : Hid r.ok := hok
  obtain ⟨NL, hNL⟩ : ∃ L, L = rmL r lv := ⟨_, rfl⟩
  rw [← hNL] at HNN HN1 HTO HAT
  have HNS : Hid (NL.toArray.size = 103) := by show _ = _; simpa using HNN.out
  have HNI : Hid ((Tryz.prog.info? 47).map (·.size) = some NL.toArray.size) := info103a _ HNS.out
  have HNJ : Hid _ := info103 NL HNN.out
  have HZN2 : Hid (ZL.toArray.size = NL.toArray.size) := HZN.out.trans HNS.out.symm
  have HB0 : Hid (Below X.heap.size X w0) := hb0
  have HR0 : Hid _ := hr0
  have HS0 : Hid _ := hs0
  rw [hw0] at HAT
  clear hok hhr hZL h hl hmem hNL hb0 hr0 hs0
  go_enter Tryz.func12, Tryz.ntmps12
  go_wp2_with fail
  refine Calls.mono HAT.out ?_
  rintro e w1 ⟨rfl, hb1⟩
  rw [← hw0] at hb1
  have hs1 := hb1.size
  have hs0 := HS0.out
  have hbX : Below X.heap.size X w1 := HB0.out.trans (hb1.mono (by omega))
  have HR1 : Hid (w1.heap[X.heap.size]? = some (.cells ZL.toArray 47 (0, 0))) := (hb1.block _ (by omega)).trans HR0.out
  have HBX : Hid _ := hbX
  have HRA : Hid ((w1.alloc (.cells ZL.toArray 47 (0, 0))).heap[w1.heap.size]? = some (.cells ZL.toArray 47 (0, 0))) := heap_alloc_new _ _
  have HRN : Hid (((w1.alloc (.cells ZL.toArray 47 (0, 0))).setRow w1.heap.size NL.toArray).rangeAt w1.heap.size 0 NL) := PC.rangeAt_row (setRow_heap _ _ _ _ _ _ HRA.out)
  have HRZ : Hid (((w1.alloc (.cells ZL.toArray 47 (0, 0))).setRow w1.heap.size NL.toArray).heap[X.heap.size]? = some (.cells ZL.toArray 47 (0, 0))) := by
    show _ = _
    rw [setRow_other _ _ _ _ (by omega), heap_alloc_old _ _ (by omega)]; exact HR1.out
  have HB2 : Hid (Below X.heap.size X ((w1.alloc (.cells ZL.toArray 47 (0, 0))).setRow w1.heap.size NL.toArray)) := below_setRow (hbX.alloc (by omega) _) (by omega) _
  have hs2 : ((w1.alloc (.cells ZL.toArray 47 (0, 0))).setRow w1.heap.size NL.toArray).heap.size = w1.heap.size + 1 := by simp
  have HS2 : Hid _ := hs2
  clear hb1 hbX hs2
  go_wp2_with (first
    | (refine wpList_load_mid rfl 47 _ rfl w1.heap.size 0 rfl NL _ HRN.out Tryz.underlying47 rfl HNJ.out ?_)
    | (refine wpList_store_row rfl 47 _ _ rfl w1.heap.size NL.toArray rfl rfl 47 ZL.toArray HRA.out HNI.out HZN2.out HN1.out ?_)
    | (go_at_call 44; fail))
  generalize (w1.alloc (.cells ZL.toArray 47 (0, 0))).setRow w1.heap.size NL.toArray = w2 at *
  refine Calls.mono (HTO.out w2 HB2.out) ?_
  rintro e w3 ⟨v', rfl, hown, hb3⟩
  have hs3 := hb3.size
  have hs2 := HS2.out
  have HR3 : Hid (w3.heap[X.heap.size]? = some (.cells ZL.toArray 47 (0, 0))) := (hb3.block _ (by omega)).trans HRZ.out
  have HMN : Hid ((rmL r v').length = 103) := rmL_len HOK.out _
  have HM1 : Hid ((rmL r v').toArray.all (·.oneCell') = true) := rmL_onea r (HO.hr hown)
  have HOWN : Hid (w3.ownsRow w2.heap.size 69 172 v' r.log.length (lgC r.log)) := hown
  have HB3 : Hid (Below X.heap.size X w3) := HB2.out.trans (hb3.mono (by omega))
  clear hown hb3
  generalize hML : rmL r v' = ML at *
  have HML : Hid _ := hML
  clear hML
  have HMS : Hid (ML.toArray.size = 103) := by show _ = _; simpa using HMN.out
  have HMI : Hid ((Tryz.prog.info? 47).map (·.size) = some ML.toArray.size) := info103a _ HMS.out
  have HZM : Hid (ZL.toArray.size = ML.toArray.size) := HZN.out.trans HMS.out.symm
  go_wp2_with (refine wpList_store_row rfl 47 _ _ rfl X.heap.size ML.toArray rfl rfl 47 ZL.toArray HR3.out HMI.out HZM.out HM1.out ?_)
  have HEND : Hid (GEnd X r 0 (.returned (.tuple #[.agg ML.toArray, .int .i64 0])) (w3.setRow X.heap.size ML.toArray)) := by
    refine ⟨v', by rw [HML.out], ?_, below_setRow HB3.out (Nat.le_refl _) _⟩
    have hl : ∀ k, v'.ownBlock = some k → w2.heap.size ≤ k := fun k e => (World.ownsRow.lt HOWN.out k e).1
    exact R5.own_keep (R5.own_lower HOWN.out (by omega)) (fun k e _ => setRow_other _ _ _ _ (by have := hl k e; omega))
  refine bodyPost_ret (v := .tuple #[.agg ML.toArray, .int .i64 0]) ?_ rfl HEND.out
  exact PC.results2 Tryz.results12 _ _ X.heap.size 47 _ (0, 0) _ rfl rfl (setRow_heap _ _ _ _ _ _ HR3.out) Tryz.underlying47 rfl (info103 _ HMN.out)
end
open Go.ChangeMaps (setBlock)
structure KXF (B og xb mb : Nat) (l : List En) : Prop where
  og : B ≤ og
  xb : B ≤ xb
  mb : B ≤ mb
  l : ∀ x ∈ l, ∀ k, x.2.2.ownBlock = some k → B ≤ k
section
variable {c : Cx} {tn last B og xb mo mb it og2 xb2 mo2 mb2 : Nat} {L R : Lg} {I : Nat → Prop} {X Y W V : World} {l l2 done : List En} {rd : Int} {r : Rm} {lv v' : Value}
theorem hr_other {U V : World} {it : Nat} (hit : ∀ j, U.cell? ⟨it, j, none⟩ = none) (hk : ∀ k, k ≠ it → k < U.heap.size → V.heap[k]? = U.heap[k]?) {v : Value} {log : List Rd} (h : HR U v log) : HR V v log := by
  rcases h with h1 | ⟨g, cap, hv, hc⟩
  · exact .inl h1
  · refine .inr ⟨g, cap, hv, fun j u hu => ?_⟩
    have h1 := hc j u hu
    have hne : g ≠ it := fun e => by rw [e, hit j] at h1; cases h1
    exact (World.cell?_of_block (a := ⟨g, j, none⟩) (hk g hne (cell_lt h1))).trans h1
theorem KX.keep (h : KX og xb mo mb last X l) (hf : KXF B og xb mb l) (hk : ∀ k, B ≤ k → k < X.heap.size → Y.heap[k]? = X.heap[k]?) : KX og xb mo mb last Y l := by
  refine ⟨(hk xb hf.xb (PC.row_lt h.row)).trans h.row, (World.cell?_of_block (a := ⟨og, 35, none⟩) (hk og hf.og (cell_lt h.oc))).trans h.oc, h.map.keep (hk mb hf.mb h.map.lt), fun x hx => ⟨(h.ok x hx).1, (h.ok x hx).2.1, ?_⟩⟩
  rcases (h.ok x hx).2.2 with h1 | ⟨g, cap, hv, hc⟩
  · exact .inl h1
  · refine .inr ⟨g, cap, hv, fun j u hu => ?_⟩
    have h1 := hc j u hu
    exact (World.cell?_of_block (a := ⟨g, j, none⟩) (hk g (hf.l x hx g (by rw [hv]; rfl)) (cell_lt h1))).trans h1
theorem KX.other (h : KX og xb mo mb last X l) {m : Option Nat} {s : Nat} {sn : Array Nat} {c0 : Nat} (hit : X.heap[it]? = some (.mapIter m s sn c0)) (hk : ∀ k, k ≠ it → k < X.heap.size → Y.heap[k]? = X.heap[k]?) : KX og xb mo mb last Y l := by
  have hn : ∀ j, X.cell? ⟨it, j, none⟩ = none := fun j => by simp [World.cell?, hit]
  obtain ⟨es, ck, hm, _⟩ := h.map.ex
  have h1 : xb ≠ it := fun e => by have := h.row; rw [e, hit] at this; cases this
  have h2 : og ≠ it := fun e => by have := h.oc; rw [e, hn] at this; cases this
  have h3 : mb ≠ it := fun e => by rw [e, hit] at hm; cases hm
  exact ⟨(hk xb h1 (PC.row_lt h.row)).trans h.row, (World.cell?_of_block (a := ⟨og, 35, none⟩) (hk og h2 (cell_lt h.oc))).trans h.oc, h.map.keep (hk mb h3 h.map.lt), fun x hx => ⟨(h.ok x hx).1, (h.ok x hx).2.1, hr_other hn hk (h.ok x hx).2.2⟩⟩
structure CY (og2 xb2 mo2 mb2 last : Nat) (X W : World) (l done l2 : List En) : Prop where
  kx : KX og2 xb2 mo2 mb2 last W l2
  eq : ab l2 = ab done
  sub : ∀ y ∈ done, y ∈ l
  fx : X.heap.size ≤ xb2 ∧ X.heap.size ≤ mb2 ∧ og2 < X.heap.size
  fl : ∀ x ∈ l2, ∀ k, x.2.2.ownBlock = some k → X.heap.size ≤ k
  bel : Below X.heap.size X W
theorem CY.below (h : CY og2 xb2 mo2 mb2 last X W l done l2) (hb : Below W.heap.size W V) : CY og2 xb2 mo2 mb2 last X V l done l2 :=
  ⟨h.kx.step hb, h.eq, h.sub, h.fx, h.fl, h.bel.trans (hb.mono h.bel.size)⟩
theorem CY.next (h : CY og2 xb2 mo2 mb2 last X W l done l2) (hg : GO W mb it l done) (hit : X.heap.size ≤ it) (hgr : W.grownBy V (some it)) : CY og2 xb2 mo2 mb2 last X V l done l2 := by
  obtain ⟨es, clock, since, seen, c0, q1, q2, q3, q4, q5⟩ := hg
  exact ⟨h.kx.other q4 (fun k hk hl => hgr.block k hl (fun e => hk (by simpa using e))), h.eq, h.sub, h.fx, h.fl, h.bel.grown hgr h.bel.size (fun k e => by cases e; exact hit)⟩
theorem CY.add (h : CY og2 xb2 mo2 mb2 last X W l done l2) (hx : (rd, r, lv) ∈ l) (hnd : (rd, r, lv) ∉ done) (hon : (l.map (·.1)).Nodup) (hrd : iOk rd) (hok : r.ok) (hll : r.log.length < 1000000) (hr : HR W v' r.log) (hfl : ∀ k, v'.ownBlock = some k → X.heap.size ≤ k) :
    ∃ o, (Instr.mapUpdate 78 (.map (some mb2)) (.int .i64 rd) (.agg (rmL r v').toArray)).run Tryz.prog W = .ok () (setBlock W mb2 o) ∧ CY og2 xb2 mo2 mb2 last X (setBlock W mb2 o) l (done ++ [(rd, r, lv)]) (l2 ++ [(rd, r, v')]) ∧ W.grownBy (setBlock W mb2 o) (some mb2) := by
  have hno : ∀ y ∈ l2, y.1 ≠ rd := fun y hy e => by
    have h1 : (y.1, y.2.1) ∈ ab done := by rw [← h.eq]; exact List.mem_map.2 ⟨y, hy, rfl⟩
    obtain ⟨z, hz, e2⟩ := List.mem_map.1 h1
    have e3 : z.1 = rd := by have := congrArg Prod.fst e2; exact this.trans e
    have e4 : z = (rd, r, lv) := nodup_inj (f := fun x : En => x.1) hon (h.sub z hz) hx e3
    exact hnd (e4 ▸ hz)
  obtain ⟨o, hrun, hm, hgr⟩ := mr_new h.kx.map hrd hno r v'
  obtain ⟨es, ck, hmb, _⟩ := h.kx.map.ex
  have hn : ∀ j, W.cell? ⟨mb2, j, none⟩ = none := fun j => by simp [World.cell?, hmb]
  have hk : ∀ k, k ≠ mb2 → k < W.heap.size → (setBlock W mb2 o).heap[k]? = W.heap[k]? := fun k hk hl => hgr.block k hl (fun e => hk (by simpa using e))
  have h1 : xb2 ≠ mb2 := fun e => by have := h.kx.row; rw [e, hmb] at this; cases this
  have h2 : og2 ≠ mb2 := by have := h.fx; omega
  refine ⟨o, hrun, ⟨⟨(hk xb2 h1 (PC.row_lt h.kx.row)).trans h.kx.row, (World.cell?_of_block (a := ⟨og2, 35, none⟩) (hk og2 h2 (cell_lt h.kx.oc))).trans h.kx.oc, hm, fun x hx' => ?_⟩, ?_, fun y hy => ?_, h.fx, fun x hx' k e => ?_, h.bel.grown hgr h.bel.size (fun k e => by cases e; exact h.fx.2.1)⟩, hgr⟩
  · rcases List.mem_append.1 hx' with hx' | hx'
    · exact ⟨(h.kx.ok x hx').1, (h.kx.ok x hx').2.1, hr_other hn hk (h.kx.ok x hx').2.2⟩
    · rw [List.mem_singleton.1 hx']; exact ⟨hok, hll, hr_other hn hk hr⟩
  · have := h.eq
    unfold ab at this ⊢
    rw [List.map_append, List.map_append, this]; rfl
  · rcases List.mem_append.1 hy with hy | hy
    · exact h.sub y hy
    · rw [List.mem_singleton.1 hy]; exact hx
  · rcases List.mem_append.1 hx' with hx' | hx'
    · exact h.fl x hx' k e
    · rw [List.mem_singleton.1 hx'] at e; exact hfl k e
def CopyRE (X : World) (l : List En) (last og2 mo2 : Nat) (e : Ending) (Y : World) : Prop := ∃ xb2 mb2 l2, e = .returned (.pointer (some ⟨xb2, 0, none⟩)) ∧ KX og2 xb2 mo2 mb2 last Y l2 ∧ X.heap.size ≤ xb2 ∧ X.heap.size ≤ mb2 ∧ (∀ x ∈ l2, ∀ k, x.2.2.ownBlock = some k → X.heap.size ≤ k) ∧ (∀ x ∈ l, ∃ lv, (x.1, x.2.1, lv) ∈ l2) ∧ Below X.heap.size X Y
theorem CY.fin (h : CY og2 xb2 mo2 mb2 last X W l done l2) (hall : AllIn l done) : CopyRE X l last og2 mo2 (.returned (.pointer (some ⟨xb2, 0, none⟩))) W := by
  refine ⟨xb2, mb2, l2, rfl, h.kx, h.fx.1, h.fx.2.1, h.fl, fun x hx => ?_, h.bel⟩
  have h1 : (x.1, x.2.1) ∈ ab l2 := by rw [h.eq]; exact List.mem_map.2 ⟨x, hall x hx, rfl⟩
  obtain ⟨y, hy, e⟩ := List.mem_map.1 h1
  obtain ⟨y1, y2, y3⟩ := y
  simp only [Prod.mk.injEq] at e
  exact ⟨y3, by rw [← e.1, ← e.2]; exact hy⟩
theorem cy_start {w2 W3 : World} (hb : Below X.heap.size X w2) (ho : X.cell? ⟨og2, 35, none⟩ = some (.map (some mo2))) (hW : W3 = (w2.alloc (.map #[] 0)).alloc (.cells #[.pointer (some ⟨og2, 0, none⟩), .map (some w2.heap.size), .int .u64 (last : Int)] 80 (0, 0))) : CY og2 (w2.heap.size + 1) mo2 w2.heap.size last X W3 l [] [] := by
  have hs := hb.size
  have hb3 : Below w2.heap.size w2 W3 := by rw [hW]; exact ((Below.refl _ _).alloc (Nat.le_refl _) _).alloc (by simp) _
  have hbX : Below X.heap.size X W3 := hb.trans (hb3.mono hs)
  have hol := cell_lt ho
  refine ⟨⟨?_, (hbX.cell (p := ⟨og2, 35, none⟩) hol).trans ho, mr_empty _ _ (by rw [hW]; exact R5.alloc2_first _ _ _), fun x hx => (List.not_mem_nil hx).elim⟩, rfl, fun y hy => (List.not_mem_nil hy).elim, ⟨by omega, hs, hol⟩, fun x hx => (List.not_mem_nil hx).elim, hbX⟩
  rw [hW]; exact R5.heap_at _ _ _ (by simp)
theorem copy_any (h : JP c tn L R I X l last) (hll : ∀ x ∈ l, x.2.1.log.length < 1000000) (ho : X.cell? ⟨og2, 35, none⟩ = some (.map (some mo2))) :
    Calls Tryz.prog 19 #[.pointer (some ⟨c.xb, 0, none⟩), .pointer (some ⟨og2, 0, none⟩)] X fun e Y => CopyRE X l last og2 mo2 e Y := by
  have hz := fun W => zero_rm W
  obtain ⟨ZL, hZL⟩ : ∃ L, L = rmL zR (.slice none 0 0) := ⟨_, rfl⟩
  rw [← hZL] at hz
  have HZS : Hid (ZL.toArray.size = 103) := by show _ = _; rw [hZL]; simpa using rmL_len zR_ok _
  clear hZL
  have HN : Hid _ := h.nonO
  have HNO : Hid (∀ V, Below X.heap.size X V → Calls Tryz.prog 55 #[.pointer (some ⟨og2, 0, none⟩)] V fun e Y => e = .returned (.bool false) ∧ Below V.heap.size V Y) := fun V hb => noOr_no og2 mo2 V ((hb.cell (p := ⟨og2, 35, none⟩) (cell_lt ho)).trans ho)
  have HLC : Hid (∀ V, Below X.heap.size X V → V.cell? ⟨c.xb, 1, none⟩ = some (.map (some c.mb)) ∧ V.cell? ⟨c.xb, 2, none⟩ = some (.int .u64 (last : Int)) ∧ MR V c.mb l) := fun V hb => by
    have hv := h.step hb
    refine ⟨?_, ?_, hv.px.map⟩ <;> (rw [cell_of_row _ _ _ _ _ _ hv.px.row]; rfl)
  have HOK : Hid (∀ x ∈ l, x.2.1.ok ∧ iOk x.1 ∧ x.2.1.log.length < 1000000 ∧ HR X x.2.2 x.2.1.log) := fun x hx => ⟨h.px.ok x hx, h.px.map.iok x hx, hll x hx, h.px.hr hx⟩
  have HON : Hid (l.map (·.1)).Nodup := h.px.map.once
  have HMB : Hid (c.mb < X.heap.size) := h.px.map.lt
  have HOO : Hid _ := ho
  have hmm := @run_makeMap Tryz.prog
  clear h hll ho
  go_enter Tryz.func19, Tryz.ntmps19
  go_wp2_with fail
  refine Calls.mono HN.out ?_
  rintro e w1 ⟨rfl, hb1⟩
  have HB1 : Hid _ := hb1
  clear hb1 HN
  go_wp2_with fail
  refine Calls.mono (HNO.out w1 HB1.out) ?_
  rintro e w2 ⟨rfl, hb2⟩
  have hbX : Below X.heap.size X w2 := HB1.out.trans (hb2.mono HB1.out.size)
  have hc2 := (HLC.out _ (hbX.alloc hbX.size (.map #[] 0))).2.1
  have HBX : Hid _ := hbX
  have HW3 : Hid (Below X.heap.size X ((w2.alloc (.map #[] 0)).alloc (.cells #[.pointer (some ⟨og2, 0, none⟩), .map (some w2.heap.size), .int .u64 (last : Int)] 80 (0, 0)))) := (hbX.alloc hbX.size _).alloc (by simp; have := hbX.size; omega) _
  have hmr := (HLC.out _ HW3.out).2.2
  have hc1 := (HLC.out _ HW3.out).1
  have HCY : Hid _ := cy_start (l := l) (last := last) hbX HOO.out rfl
  clear hb2 HB1 hbX HNO
  go_wp2_with (at_range; refine wpList_go_range rfl _ rfl rfl hmr ?_; intro w4 hgo hb4 hs4)
  try go_frame
  have HCY4 : Hid _ := HCY.out.below hb4
  have hit : X.heap.size ≤ ((w2.alloc (.map #[] 0)).alloc (.cells #[.pointer (some ⟨og2, 0, none⟩), .map (some w2.heap.size), .int .u64 (last : Int)] 80 (0, 0))).heap.size := HW3.out.size
  generalize ((w2.alloc (.map #[] 0)).alloc (.cells #[.pointer (some ⟨og2, 0, none⟩), .map (some w2.heap.size), .int .u64 (last : Int)] 80 (0, 0))).heap.size = it at *
  clear hmr hb4 hs4 HW3 HCY hc1 hc2 HBX
  generalize w2.heap.size + 1 = xb2 at *
  generalize w2.heap.size = mb2 at *
  have HGO4 : Hid _ := hgo
  have HIT : Hid _ := hit
  clear hgo hit
  go_wp2
  go_loopw [6] (fun _ wr => ∃ done l2, GO wr c.mb it l done ∧ CY og2 xb2 mo2 mb2 last X wr l done l2) (fun _ wr => wr.rangeLeft c.mb it)
  case atStart => exact ⟨[], [], HGO4.out, HCY4.out⟩
  case round =>
    clear HGO4 HCY4
    obtain ⟨done, l2, hgo, hcy⟩ := hrel
    generalize wr = W at *
    have HGO : Hid (GO W c.mb it l done) := hgo
    have HCY : Hid _ := hcy
    clear hgo hcy
    go_wp2_with (at_next; refine wpList_go_next rfl _ rfl rfl HGO.out ?_ ?_)
    · intro hall
      have HALL : Hid _ := hall
      clear hall
      go_wp2
      go_ret
      exact HCY.out.fin HALL.out
    · intro rd r lv W1 hnx
      obtain ⟨o1, o2, hm1, hm2, hen⟩ := hnx.ent
      have hcy1 := HCY.out.next HGO.out HIT.out hnx.gr
      obtain ⟨hok, hiok, hlen, hhr⟩ := HOK.out _ hnx.mem
      have HCY1 : Hid _ := hcy1
      have HGO1 : Hid (GO W1 c.mb it l (done ++ [(rd, r, lv)])) := hnx.go
      have HX : Hid ((rd, r, lv) ∈ l) := hnx.mem
      have HXN : Hid ((rd, r, lv) ∉ done) := hnx.new
      have HLT : Hid (W1.rangeLeft c.mb it < W.rangeLeft c.mb it) := hnx.lt
      have hen1 := hen W1 hm1 hm2
      have HNN : Hid ((rmL r lv).length = 103) := rmL_len hok _
      have HN1 : Hid ((rmL r lv).toArray.all (·.oneCell') = true) := rmL_onea r hhr
      have HTO : Hid (∀ V, Below X.heap.size X V → Calls Tryz.prog 44 #[.agg (rmL r lv).toArray] V fun e w' => TEnd V r e w') := fun V hb => told_any r lv V hok (hhr.below hb) hlen
      have HOR : Hid (iOk rd ∧ r.ok ∧ r.log.length < 1000000) := ⟨hiok, hok, hlen⟩
      obtain ⟨NL, hNL⟩ : ∃ NL, NL = rmL r lv := ⟨_, rfl⟩
      rw [← hNL] at HNN HN1 hen1 HTO ⊢
      have HNS : Hid (NL.toArray.size = 103) := by show _ = _; simpa using HNN.out
      have HNI : Hid ((Tryz.prog.info? 47).map (·.size) = some NL.toArray.size) := info103a _ HNS.out
      have HNJ : Hid _ := info103 NL HNN.out
      have HZM : Hid (ZL.toArray.size = NL.toArray.size) := HZS.out.trans HNS.out.symm
      obtain ⟨V4, hV4⟩ : ∃ V, V = (W1.alloc (.cells ZL.toArray 47 (0, 0))).setRow W1.heap.size NL.toArray := ⟨_, rfl⟩
      have HRA : Hid ((W1.alloc (.cells ZL.toArray 47 (0, 0))).heap[W1.heap.size]? = some (.cells ZL.toArray 47 (0, 0))) := heap_alloc_new _ _
      have HR4 : Hid (V4.heap[W1.heap.size]? = some (.cells NL.toArray 47 (0, 0))) := by show _ = _; rw [hV4]; exact setRow_heap _ _ _ _ _ _ HRA.out
      have HBS : Hid (Below W1.heap.size W1 V4) := by rw [hV4]; exact below_setRow ((Below.refl _ _).alloc (Nat.le_refl _) _) (Nat.le_refl _) _
      clear hnx hm1 hm2 hen hok hhr hcy1 hNL hiok hlen
      go_wp2_with (refine wpList_store_row rfl 47 _ _ rfl W1.heap.size NL.toArray rfl rfl 47 ZL.toArray HRA.out HNI.out HZM.out HN1.out ?_; rw [← hV4]; clear hen1 hV4)
      have HCY5 : Hid (CY og2 xb2 mo2 mb2 last X V4.drew l done l2) := HCY1.out.below (HBS.out.trans ((Below.refl _ _).drew.mono HBS.out.size))
      have HGO5 : Hid (GO V4.drew c.mb it l (done ++ [(rd, r, lv)])) := HGO1.out.below (HBS.out.trans ((Below.refl _ _).drew.mono HBS.out.size))
      have HSC : Hid (SC og2 xb2 mb2 last W1.heap.size NL V4.drew) := ⟨HCY5.out.kx.row, HR4.out⟩
      have HLF : Hid (V4.drew.rangeLeft c.mb it = W1.rangeLeft c.mb it) := HGO1.out.left (HBS.out.trans ((Below.refl _ _).drew.mono HBS.out.size))
      have HQX : Hid (X.heap.size ≤ W1.heap.size) := HCY1.out.bel.size
      generalize W1.heap.size = q at *
      clear HCY1 HGO1 HBS HR4 HRA
      refine wp_region_held_drew (S := SC og2 xb2 mb2 last q NL) (by kernel_rfl) HSC.out (fun hHeld => ?_)
      generalize V4.drew = U at *
      refine qzI 0 ⟨some 32, .move (.tmp 5), 26, _, #[], none⟩ (.pointer (some ⟨xb2, 0, none⟩)) rfl (by kernel_rfl) (fun _ _ _ h => h) (by rfl) (fun w' hw' => ?_) hHeld ?_
      · go_simp <;> rfl
      try simp only [Act.put, qT, q0, qS]
      refine qzI 1 ⟨some 33, .nilCheck (.tmp 32), 0, _, #[⟨0, .data⟩], none⟩ (.pointer (some ⟨xb2, 0, none⟩)) rfl (by kernel_rfl) (fun _ _ _ h => h) (by rfl) (fun w' hw' => ?_) hHeld ?_
      · go_simp <;> rfl
      try simp only [Act.put, qT, q0, qS]
      refine qzI 2 ⟨some 34, .fieldAddr 80 (.tmp 33) 1, 0, _, #[⟨1, .data⟩], none⟩ (.pointer (some ⟨xb2, 1, none⟩)) rfl (by kernel_rfl) (fun _ _ _ h => h) (by rfl) (fun w' hw' => ?_) hHeld ?_
      · go_simp <;> rfl
      try simp only [Act.put, qT, q0, qS]
      refine qzI 3 ⟨some 35, .load 78 (.tmp 34), 78, _, #[⟨2, .data⟩], none⟩ (.map (some mb2)) rfl (by kernel_rfl) (fun _ _ _ h => h) (by rfl) (fun w' hw' => ?_) hHeld ?_
      · have hcc := hw'.cell; go_simp <;> rfl
      try simp only [Act.put, qT, q0, qS]
      refine qzI 4 ⟨some 36, .move (.tmp 6), 3, _, #[], none⟩ (.int .i64 rd) rfl (by kernel_rfl) (fun _ _ _ h => h) (by rfl) (fun w' hw' => ?_) hHeld ?_
      · go_simp <;> rfl
      try simp only [Act.put, qT, q0, qS]
      refine qzK 5 ⟨some 37, .load 47 (.tmp 7), 47, _, #[], none⟩ _ rfl (by kernel_rfl) (fun _ _ _ h => h) (yieldsIf_load_mid (by rfl) 47 (.tmp 7) rfl (q) (0) rfl (NL) _ (fun _ h => PC.rangeAt_row h.r) Tryz.underlying47 rfl HNJ.out) hHeld ?_
      try simp only [Act.put, qT, q0, qS]
      refine qzR 6 ⟨some 38, .call ⟨.value (.func 44), #[.tmp 37], #[47]⟩, 47, _, #[⟨5, .data⟩], none⟩ (by kernel_rfl) rfl (by rfl) (fun K hK => ?_)
      go_wp2_with fail
      refine Calls.mono (HTO.out U HCY5.out.bel) ?_
      rintro e w5 ⟨v', rfl, hown, hb5⟩
      have hHeld5 : SC og2 xb2 mb2 last q NL w5 := ⟨(hb5.block _ (PC.row_lt hHeld.x)).trans hHeld.x, (hb5.block _ (PC.row_lt hHeld.r)).trans hHeld.r⟩
      have hcy5 := HCY5.out.below hb5
      have HGO6 : Hid (GO w5 c.mb it l (done ++ [(rd, r, lv)])) := HGO5.out.below hb5
      have HLF6 : Hid (w5.rangeLeft c.mb it = U.rangeLeft c.mb it) := HGO5.out.left hb5
      obtain ⟨o, hrun, hcy6, hgr⟩ := hcy5.add HX.out HXN.out HON.out HOR.out.1 HOR.out.2.1 HOR.out.2.2 (HO.hr hown) (fun k e => by have := (World.ownsRow.lt hown k e).1; have := HCY5.out.bel.size; omega)
      have HCY6 : Hid _ := hcy6
      have HGR : Hid _ := hgr
      have HRUN : Hid _ := hrun
      have HMX : Hid (∃ es ck, w5.heap[mb2]? = some (.map es ck)) := by obtain ⟨es, ck, h1, _⟩ := hcy5.kx.map.ex; exact ⟨es, ck, h1⟩
      clear hHeld hown hb5 hcy5 hcy6 hgr hrun
      have hHeld := hHeld5
      clear hHeld5
      refine hK.out _ _ hHeld (fun _ => ?_)
      clear hK K
      try simp only [Act.put, qT, q0, qS]
      refine qzR 7 ⟨none, .mapUpdate 78 (.tmp 35) (.tmp 36) (.tmp 38), 0, _, #[⟨3, .data⟩, ⟨4, .data⟩, ⟨6, .data⟩, ⟨6, .chain⟩, ⟨0, .phase⟩, ⟨1, .phase⟩, ⟨2, .phase⟩, ⟨3, .phase⟩, ⟨4, .phase⟩, ⟨5, .phase⟩, ⟨6, .phase⟩], none⟩ (by kernel_rfl) rfl (by rfl) (fun K hK => ?_)
      refine R5.wp_mapUpd _ _ _ 78 rfl _ _ _ rfl rfl rfl HRUN.out ?_
      have hne : ∀ (k : Nat) (ob : Obj), w5.heap[k]? = some ob → (∀ es ck, ob ≠ Obj.map es ck) → (setBlock w5 mb2 o).heap[k]? = some ob := fun k ob h1 h2 => (HGR.out.block k (PC.row_lt h1) (fun e => by
        have e' : k = mb2 := by simpa using e
        obtain ⟨es, ck, h3⟩ := HMX.out
        rw [e', h3] at h1
        exact h2 es ck (Option.some.inj h1).symm)).trans h1
      have hS2 : SC og2 xb2 mb2 last q NL (setBlock w5 mb2 o) := ⟨hne _ _ hHeld.x (fun _ _ e => by cases e), hne _ _ hHeld.r (fun _ _ e => by cases e)⟩
      refine hK.out _ _ hS2 (fun _ => ?_)
      clear hK K
      try simp only [Act.put, qT, q0, qS]
      refine wpAnyH_done (by kernel_rfl) ?_ _
      obtain ⟨es, clock, since, seen, c0, q1, q2, q3, q4, q5⟩ := HGO6.out
      have h1 : (setBlock w5 mb2 o).heap[c.mb]? = w5.heap[c.mb]? := HGR.out.block _ (PC.row_lt q1) (fun e => by have e' : c.mb = mb2 := (by simpa using e); have := HMB.out; have := HCY6.out.fx.2.1; omega)
      have h2 : (setBlock w5 mb2 o).heap[it]? = w5.heap[it]? := (hne it _ q4 (fun _ _ e => by cases e)).trans q4.symm
      have HGO7 : Hid (GO (setBlock w5 mb2 o) c.mb it l (done ++ [(rd, r, lv)])) := HGO6.out.keep h1 h2
      have HLF7 : Hid ((setBlock w5 mb2 o).rangeLeft c.mb it = w5.rangeLeft c.mb it) := by show _ = _; unfold World.rangeLeft; rw [h1, h2]
      clear hS2 hHeld hne h1 h2 q1 q2 q3 q4 q5
      generalize setBlock w5 mb2 o = V7 at *
      go_wp2
      go_roundw
      case rel => exact ⟨_, _, HGO7.out, HCY6.out⟩
      case measure =>
        have := HLT.out; have := HLF.out; have := HLF6.out; have := HLF7.out
        show World.rangeLeft _ _ _ < World.rangeLeft _ _ _
        omega
end
end Go.Proofs.YtekbppfocnbhbaaGreat.XC
