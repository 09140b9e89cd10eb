import Derived.Test.YtekbppfocnbhbaaGreatXQ
set_option linter.unusedVariables false
set_option linter.unusedSimpArgs false
set_option maxHeartbeats 16000000
set_option maxRecDepth 100000
namespace Go.Proofs.YtekbppfocnbhbaaGreat.XC
open Go.RowKit
section
variable {c : Cx} {tn last last' : Nat} {L L' R : Lg} {I J : Nat → Prop} {X Y Z W W' W2 : World} {l l' a b : List En} {E : Nat → Prop} {rd : Int} {r r' r'' : Rm} {lv lv' : Value} {bb : Nat} {lg : List Rd}
theorem CD.put (hd : CD c tn L' R I W W' bb E lg lv r' lv') (hI : I bb ∧ c.n ≤ bb) (hlb : lv'.ownBlock ≠ some bb) (hlb0 : lv.ownBlock ≠ some bb) {o : Nat} {v : Value} (hs : (rmL r' lv').set o v = rmL r'' lv') (hok : r''.ok) (hlog : r''.log = r'.log) : CD c tn L' R I W (W'.setCell ⟨bb, o, none⟩ v) bb E lg lv r'' lv' := by
  obtain ⟨J, h1, h2, h3⟩ := hd.mm
  have hsz : (W'.setCell ⟨bb, o, none⟩ v).heap.size = W'.heap.size := by simp
  have ho : ∀ k, k ≠ bb → (W'.setCell ⟨bb, o, none⟩ v).heap[k]? = W'.heap[k]? := fun k hk => heap_setCell_other _ _ _ _ hk
  refine ⟨by rw [hsz]; exact hd.size, ⟨J, h1.go (J := J) (R5.Fr.setCell (R5.Fr.refl _ _) bb o v (.inl ⟨hI.2, h2 _ hI.1⟩)) (fun k hk => .inl hk), h2, h3⟩, ?_, hok, ?_, hd.lies, fun k hk hIk hkb hE hkl => (ho k hkb).trans (hd.fr k hk hIk hkb hE hkl), fun k e j hj => (World.cell?_of_block (a := ⟨k, j, none⟩) (ho k (fun e2 => hlb0 (e2 ▸ e)))).trans (hd.pre k e j hj), by rw [hlog]; exact hd.len⟩
  · rw [heap_setCell_same _ _ o _ _ _ hd.row, List.setIfInBounds_toArray, hs]
  · unfold HO; rw [hlog]; exact R5.own_keep hd.own (fun k e _ => ho k (fun e2 => hlb (e2 ▸ e)))
theorem add_cl_st (p q : Nat) (hA : Ahd c tn L R I X W l last bb (rmL r lv)) (hst : r.st ≠ 1) :
    Calls Tryz.prog 66 #[.pointer (some ⟨bb, 0, none⟩), .pointer (some ⟨p, 0, none⟩), .pointer (some ⟨q, 0, none⟩)] W fun e W' => e = .returned (.int .i64 7) ∧ Below W.heap.size W W' := by
  have hc := hA.cellA (rmL_1 r lv)
  have hne : (r.st != 1) = true := by simpa using hst
  generalize r.st = S at *
  clear hA hst
  go_enter Tryz.func66, Tryz.ntmps66
  go_wp2
  go_ret
  exact ⟨rfl, Below.refl _ _⟩
theorem add_cl_bad (p q pc : Nat) (rs : List Nat) (run : Bool) (hA : Ahd c tn L R I X W l last bb (rmL r lv)) (hst : r.st = 1) (hrs : rs.length = 8) (hmay : PC.mayC pc = false)
    (hp : X.heap[p]? = some (.cells (PC.rcL pc rs run).toArray 41 (0, 0))) :
    Calls Tryz.prog 66 #[.pointer (some ⟨bb, 0, none⟩), .pointer (some ⟨p, 0, none⟩), .pointer (some ⟨q, 0, none⟩)] W fun e W' => e = .returned (.int .i64 2) ∧ Below W.heap.size W W' := by
  have hc := hA.cellA (rmL_1 r lv)
  have hne : (r.st != 1) = false := by rw [hst]; rfl
  have HPR : Hid (W.rangeAt p 0 (PC.rcL pc rs run)) := PC.rangeAt_row ((hA.bel.block p (PC.row_lt hp)).trans hp)
  have HPI : Hid _ := PC.info10 (PC.rcL pc rs run) (PC.rcL_len _ _ _ hrs)
  have HCB : Hid _ := PC.cb_bad pc rs run W hrs hmay
  have hz := fun W => PC.zero_gr W
  obtain ⟨ZL, hZL⟩ : ∃ L, L = PC.Z128.map B8 := ⟨_, rfl⟩
  rw [← hZL] at hz HCB
  have HZN : Hid (ZL.length = 128) := by show _ = _; rw [hZL]; simpa using PC.z128_len
  have HZ1 : Hid (ZL.toArray.all (·.oneCell') = true) := by show _ = _; rw [hZL]; exact PC.B8_onea _
  have HZI : Hid ((Tryz.prog.info? 38).map (·.size) = some ZL.toArray.size) := PC.info128a _ (by simpa using HZN.out)
  obtain ⟨ST, hSt⟩ : ∃ ST, ST = r.st := ⟨_, rfl⟩
  rw [← hSt] at hc hne
  generalize PC.rcL pc rs run = PL at *
  clear hA hst hp hZL hSt hmay
  go_enter Tryz.func66, Tryz.ntmps66
  go_wp2_with (refine wpList_load_mid rfl 41 _ rfl p 0 rfl PL _ HPR.out Tryz.underlying41 rfl HPI.out ?_)
  refine Calls.mono HCB.out ?_
  rintro e w1 ⟨rfl, hb1⟩
  have hs1 := hb1.size
  have HNW : Hid ((w1.alloc (.cells ZL.toArray 38 (0, 0))).heap[w1.heap.size]? = some (.cells ZL.toArray 38 (0, 0))) := heap_alloc_new _ _
  have HB : Hid (Below W.heap.size W ((w1.alloc (.cells ZL.toArray 38 (0, 0))).setRow w1.heap.size ZL.toArray)) := below_setRow (hb1.alloc hs1 _) hs1 _
  clear hb1 HCB HPR
  go_wp2_with (refine wpList_store_row rfl 38 _ _ rfl w1.heap.size ZL.toArray rfl rfl 38 ZL.toArray HNW.out HZI.out rfl HZ1.out ?_)
  go_ret
  exact ⟨rfl, HB.out⟩
structure SR (q p t : Nat) (xb : Nat) (PL GL : List Value) (Y : World) : Prop where
  q : Y.heap[q]? = some (.cells #[.pointer (some ⟨xb, 0, none⟩)] 26 (0, 0))
  p : Y.heap[p]? = some (.cells PL.toArray 41 (0, 0))
  t : Y.heap[t]? = some (.cells GL.toArray 38 (0, 0))
theorem SR.keep {q p t xb : Nat} {PL GL : List Value} {Y Y' : World} (h : SR q p t xb PL GL Y) (hk : ∀ k, k = q ∨ k = p ∨ k = t → k < Y.heap.size → Y'.heap[k]? = Y.heap[k]?) : SR q p t xb PL GL Y' :=
  ⟨(hk q (.inl rfl) (PC.row_lt h.q)).trans h.q, (hk p (.inr (.inl rfl)) (PC.row_lt h.p)).trans h.p, (hk t (.inr (.inr rfl)) (PC.row_lt h.t)).trans h.t⟩
theorem add_cl (p q pc : Nat) (rs : List Nat) (run : Bool) (hA : Ahd c tn L R I X W l last bb (rmL r lv)) (hm : (rd, r, lv) ∈ l) (hlX : ∀ k, lv.ownBlock = some k → k < X.heap.size) (hst : r.st = 1) (hrs : rs.length = 8) (hpc : pc < 18446744073709551616) (hrx : ∀ x ∈ rs, x < 18446744073709551616) (hmay : PC.mayC pc = true) (hL : L.length < 1000000) (hlog : r.log.length < 100000) (hrec : r.recs < 1000000)
    (hp : X.heap[p]? = some (.cells (PC.rcL pc rs run).toArray 41 (0, 0))) (hq : X.heap[q]? = some (.cells #[.pointer (some ⟨c.xb, 0, none⟩)] 26 (0, 0))) (hI : I q ∧ I p) (hlv : lv.ownBlock ≠ some q ∧ lv.ownBlock ≠ some p) :
    Calls Tryz.prog 66 #[.pointer (some ⟨bb, 0, none⟩), .pointer (some ⟨p, 0, none⟩), .pointer (some ⟨q, 0, none⟩)] W fun e W' =>
      ClOk c tn (R5.nx c.D L (qOf r.meas (rec3 pc rs run))).2 R (up I X W) W bb (fun _ => False) r.log lv { r with meas := (R5.nx c.D L (qOf r.meas (rec3 pc rs run))).1, log := r.log ++ [rec3 pc rs run], recs := r.recs + 1 } e W' := by
  have hok := hA.jp.px.ok _ hm
  have hc := hA.cellA (rmL_1 r lv)
  have hne : (r.st != 1) = false := by rw [hst]; rfl
  have HPR : Hid (W.rangeAt p 0 (PC.rcL pc rs run)) := PC.rangeAt_row ((hA.bel.block p (PC.row_lt hp)).trans hp)
  have HPI : Hid _ := PC.info10 (PC.rcL pc rs run) (PC.rcL_len _ _ _ hrs)
  have HCB : Hid _ := PC.cb_ok pc rs run W hrs hpc hrx hmay
  have hz := fun W => PC.zero_gr W
  obtain ⟨ZL, hZL⟩ : ∃ L, L = PC.Z128.map B8 := ⟨_, rfl⟩
  rw [← hZL] at hz
  have HZN : Hid (ZL.toArray.size = 128) := by show _ = _; rw [hZL]; simpa using PC.z128_len
  have HGN : Hid ((PC.cbL pc rs run).length = 128) := PC.cbL_len pc rs run hrs
  obtain ⟨GL, hGL⟩ : ∃ GL, GL = (PC.cbL pc rs run).map B8 := ⟨_, rfl⟩
  rw [← hGL] at HCB
  have hgn : GL.length = 128 := by rw [hGL]; simpa using HGN.out
  have HG1 : Hid (GL.toArray.all (·.oneCell') = true) := by show _ = _; rw [hGL]; exact PC.B8_onea _
  have HGI : Hid ((Tryz.prog.info? 38).map (·.size) = some GL.toArray.size) := PC.info128a _ (by simpa using hgn)
  have HZG : Hid (ZL.toArray.size = GL.toArray.size) := by have := HZN.out; simp_all
  have HGL : Hid (GL = (PC.cbL pc rs run).map B8) := hGL
  have HBR : Hid (∀ W, (Instr.build 69 #[(0, .int .i64 3), (4, .agg (PC.rcL pc rs run).toArray)]).run Tryz.prog W = .ok (.agg (rdL (rec3 pc rs run)).toArray) W) := fun W => build_rd3 W (PC.rcL pc rs run) (PC.rcL_len _ _ _ hrs)
  obtain ⟨AL, hAL⟩ : ∃ AL, AL = rdL (rec3 pc rs run) := ⟨_, rfl⟩
  rw [← hAL] at HBR
  have HAE : Hid (AL = rdL (rec3 pc rs run)) := hAL
  have HRS : Hid (rs.length = 8) := hrs
  obtain ⟨ST, hSt⟩ : ∃ ST, ST = r.st := ⟨_, rfl⟩
  rw [← hSt] at hc hne
  have HAH : Hid (Ahd c tn L R I X W l last bb (rmL r lv)) := hA
  have HOK : Hid r.ok := hok
  have HM : Hid ((rd, r, lv) ∈ l) := hm
  have HLX : Hid (∀ k, lv.ownBlock = some k → k < X.heap.size) := hlX
  have HI : Hid (I q ∧ I p) := hI
  have HLV : Hid (lv.ownBlock ≠ some q ∧ lv.ownBlock ≠ some p) := hlv
  have HSZ : Hid (q < X.heap.size ∧ p < X.heap.size ∧ bb < W.heap.size) := ⟨PC.row_lt hq, PC.row_lt hp, PC.row_lt hA.row⟩
  have HXP : Hid (X.heap[p]? = some (.cells (PC.rcL pc rs run).toArray 41 (0, 0))) := hp
  have HXQ : Hid (X.heap[q]? = some (.cells #[.pointer (some ⟨c.xb, 0, none⟩)] 26 (0, 0))) := hq
  obtain ⟨PL, hPL⟩ : ∃ PL, PL = PC.rcL pc rs run := ⟨_, rfl⟩
  rw [← hPL] at HPR HPI HCB HBR HXP
  clear hA hst hp hq hZL hSt hmay hok hm hlX hI hlv hGL hgn hAL hrs hpc hrx hPL
  go_enter Tryz.func66, Tryz.ntmps66
  go_wp2_with (refine wpList_load_mid rfl 41 _ rfl p 0 rfl PL _ HPR.out Tryz.underlying41 rfl HPI.out ?_)
  refine Calls.mono HCB.out ?_
  rintro e w1 ⟨rfl, hb1⟩
  have hs1 := hb1.size
  have HNW : Hid ((w1.alloc (.cells ZL.toArray 38 (0, 0))).heap[w1.heap.size]? = some (.cells ZL.toArray 38 (0, 0))) := heap_alloc_new _ _
  obtain ⟨V, hV⟩ : ∃ V, V = (w1.alloc (.cells ZL.toArray 38 (0, 0))).setRow w1.heap.size GL.toArray := ⟨_, rfl⟩
  have hbV : Below W.heap.size W V := by rw [hV]; exact below_setRow (hb1.alloc hs1 _) hs1 _
  have htV : V.heap[w1.heap.size]? = some (.cells GL.toArray 38 (0, 0)) := by rw [hV]; exact setRow_heap _ _ _ _ _ _ (heap_alloc_new _ _)
  have hbU : Below W.heap.size W V.drew := hbV.drew
  have hsz := HSZ.out
  have hA2 := HAH.out.bel
  have hA2s := hA2.size
  have HS : Hid (SR q p w1.heap.size c.xb PL GL V.drew) := ⟨(hbU.block q (by omega)).trans ((hA2.block q hsz.1).trans HXQ.out), (hbU.block p (by omega)).trans ((hA2.block p hsz.2.1).trans HXP.out), htV⟩
  have HBU : Hid (Below W.heap.size W V.drew) := hbU
  clear hbV htV hbU hb1 HCB HPR hA2 hA2s hsz HXP HXQ
  go_wp2_with (refine wpList_store_row rfl 38 _ _ rfl w1.heap.size GL.toArray rfl rfl 38 ZL.toArray HNW.out HGI.out HZG.out HG1.out ?_)
  rw [← hV]
  clear hV
  refine wp_region_held_drew (S := SR q p w1.heap.size c.xb PL GL) (by kernel_rfl) HS.out (fun hHeld => ?_)
  generalize V.drew = U at *
  have hsl := fun W => PC.slice_dg W bb 4
  have hsq := fun W => PC.slice_gr W w1.heap.size
  refine qzI 0 ⟨some 20, .load 26 (.tmp 2), 26, _, #[], none⟩ (.pointer (some ⟨c.xb, 0, none⟩)) rfl (by kernel_rfl) (fun _ _ _ h => h) (by rfl) (fun w' hw' => ?_) hHeld ?_
  · have hcc : w'.cell? ⟨q, 0, none⟩ = some (.pointer (some ⟨c.xb, 0, none⟩)) := (by rw [cell_of_row _ _ 0 _ _ _ hw'.q]; rfl); go_simp <;> rfl
  try simp only [Act.put, qT, q0, qS]
  refine qzI 1 ⟨some 21, .move (.tmp 0), 104, _, #[], none⟩ (.pointer (some ⟨bb, 0, none⟩)) rfl (by kernel_rfl) (fun _ _ _ h => h) (by rfl) (fun w' hw' => ?_) hHeld ?_
  · go_simp <;> rfl
  try simp only [Act.put, qT, q0, qS]
  refine qzK 2 ⟨some 22, .load 41 (.tmp 1), 41, _, #[], none⟩ _ rfl (by kernel_rfl) (fun _ _ _ h => h) (yieldsIf_load_mid (by rfl) 41 (.tmp 1) rfl (p) (0) rfl (PL) _ (fun _ h => PC.rangeAt_row h.p) Tryz.underlying41 rfl HPI.out) hHeld ?_
  try simp only [Act.put, qT, q0, qS]
  refine qzI 3 ⟨some 23, .build 69 #[(0, .const (Go.Value.int Go.IntKind.i64 3)), (4, .tmp 22)], 69, _, #[⟨2, .data⟩], none⟩ (.agg AL.toArray) rfl (by kernel_rfl) (fun _ _ _ h => h) (by rfl) (fun w' hw' => ?_) hHeld ?_
  · exact PC.exec_build _ _ 69 _ _ _ w' rfl (by simp; exact ⟨rfl, rfl⟩) (HBR.out w')
  try simp only [Act.put, qT, q0, qS]
  refine qzI 4 ⟨some 24, .move (.tmp 0), 104, _, #[], none⟩ (.pointer (some ⟨bb, 0, none⟩)) rfl (by kernel_rfl) (fun _ _ _ h => h) (by rfl) (fun w' hw' => ?_) hHeld ?_
  · go_simp <;> rfl
  try simp only [Act.put, qT, q0, qS]
  refine qzI 5 ⟨some 25, .nilCheck (.tmp 24), 0, _, #[⟨4, .data⟩], none⟩ (.pointer (some ⟨bb, 0, none⟩)) rfl (by kernel_rfl) (fun _ _ _ h => h) (by rfl) (fun w' hw' => ?_) hHeld ?_
  · go_simp <;> rfl
  try simp only [Act.put, qT, q0, qS]
  refine qzI 6 ⟨some 26, .fieldAddr 47 (.tmp 25) 4, 0, _, #[⟨5, .data⟩], none⟩ (.pointer (some ⟨bb, 4, none⟩)) rfl (by kernel_rfl) (fun _ _ _ h => h) (by rfl) (fun w' hw' => ?_) hHeld ?_
  · go_simp <;> rfl
  try simp only [Act.put, qT, q0, qS]
  refine qzI 7 ⟨some 27, .slice 33 (.tmp 26) none none none, 106, _, #[⟨6, .data⟩], none⟩ (.slice (some ⟨bb, 4, none⟩) 32 32) rfl (by kernel_rfl) (fun _ _ _ h => h) (by rfl) (fun w' hw' => ?_) hHeld ?_
  · go_simp <;> rfl
  try simp only [Act.put, qT, q0, qS]
  refine qzI 8 ⟨some 28, .slice 38 (.tmp 5) none none none, 106, _, #[], none⟩ (.slice (some ⟨w1.heap.size, 0, none⟩) 128 128) rfl (by kernel_rfl) (fun _ _ _ h => h) (by rfl) (fun w' hw' => ?_) hHeld ?_
  · go_simp <;> rfl
  try simp only [Act.put, qT, q0, qS]
  have hbA : Below U.heap.size U (U.alloc (.cells #[.slice (some ⟨bb, 4, none⟩) 32 32, .slice (some ⟨w1.heap.size, 0, none⟩) 128 128] 106 (0, 0))) := (Below.refl _ _).alloc (Nat.le_refl _) _
  have hHeld3 := hHeld.keep (fun k _ hk => hbA.block k hk)
  refine qzR 9 ⟨some 29, .buildSlice 144 2 #[(0, .tmp 27), (1, .tmp 28)], 144, _, #[⟨7, .data⟩, ⟨8, .data⟩], none⟩ (by kernel_rfl) rfl (by rfl) (fun K hK => ?_)
  refine wp_bslice 144 2 _ rfl _ _ (by simp; exact ⟨rfl, rfl⟩) (bs2 U _ _ _ _ _ _ _ _ rfl rfl) ?_
  refine hK.out _ _ hHeld3 (fun _ => ?_)
  clear hK K
  try simp only [Act.put, qT, q0, qS]
  refine qzR 10 ⟨some 30, .call ⟨.value (.func 47), #[.tmp 20, .tmp 21, .tmp 23, .const (Go.Value.int Go.IntKind.i64 3), .tmp 29], #[26, 104, 69, 105, 144]⟩, 0, _, #[⟨0, .data⟩, ⟨1, .data⟩, ⟨3, .data⟩, ⟨9, .data⟩], none⟩ (by kernel_rfl) rfl (by rfl) (fun K hK => ?_)
  have hsU := HBU.out.size
  have hbW3 : Below W.heap.size W (U.alloc (.cells #[.slice (some ⟨bb, 4, none⟩) 32 32, .slice (some ⟨w1.heap.size, 0, none⟩) 128 128] 106 (0, 0))) := HBU.out.alloc (by omega) _
  have hMs := HAH.out.ms HM.out HLX.out hbW3
  have hrow2 : U.heap[bb]? = some (.cells (rmL r lv).toArray 47 (0, 0)) := (HBU.out.block bb HSZ.out.2.2).trans HAH.out.row
  have hhm : HB U (.slice (some ⟨bb, 4, none⟩) 32 32) r.meas := PC.hb_range 32 HOK.out.m.symm (by rw [HOK.out.m]; decide) (by unfold maxLen; decide) (by have := PC.rangeAt_part (PC.rangeAt_row hrow2) 4 32; rw [rmL_meas HOK.out] at this; simpa using this)
  have hhg : HB U (.slice (some ⟨w1.heap.size, 0, none⟩) 128 128) (PC.cbL pc rs run) := PC.hb_range 128 HGN.out.symm (by rw [HGN.out]; decide) (by unfold maxLen; decide) (by have := PC.rangeAt_row hHeld.t; rwa [HGL.out] at this)
  have hHP := hp2 U _ _ _ _ hhm hhg
  have hfl : [r.meas, PC.cbL pc rs run].flatten.length = 160 := by simp [HOK.out.m, HGN.out]
  have hcall := msr_any hMs (rec3 pc rs run) (rec3_ok pc run HRS.out) 3 _ _ hHP (by simp) (by rw [hfl]; decide) (kOk_d (by decide) (by rw [hfl]; decide)) (askB_d (by decide) (by decide)) hL hlog
  go_wp2_with fail
  rw [HAE.out]
  refine Calls.mono hcall ?_
  rintro e W' ⟨lv', rfl, hcd⟩
  have hq2 : (⟨1, List.replicate 32 0, 3, [r.meas, PC.cbL pc rs run].flatten⟩ : R5.Qn) = qOf r.meas (rec3 pc rs run) := by rw [qOf3]; simp [Z0]
  rw [hq2] at hcd
  have hcd2 := hcd.ahead hbW3 HSZ.out.2.2 (fun k e => by have := HLX.out k e; have := HAH.out.bel.size; omega)
  have hA1 := HAH.out.low
  have hlb0 : lv.ownBlock ≠ some bb := fun e => by have := HLX.out _ e; omega
  have hlb1 : lv'.ownBlock ≠ some bb := fun e => by
    rcases hcd2.lies bb e with h | h
    · exact hlb0 h
    · have := HSZ.out.2.2; omega
  have hok2 := hcd2.ok
  have hcell := PC.rangeAt_row hcd2.row 102 _ (rmL_102 hok2 lv')
  rw [Nat.zero_add] at hcell
  have hfz := frozen_of_row _ _ 102 _ _ hcd2.row
  have hcd3 := hcd2.put (r'' := { r with meas := (R5.nx c.D L (qOf r.meas (rec3 pc rs run))).1, log := r.log ++ [rec3 pc rs run], recs := r.recs + 1 }) ⟨.inr ⟨hA1, HSZ.out.2.2⟩, by have := HAH.out.nlow; omega⟩ hlb1 hlb0 (rmL_set102 hok2 lv' (r.recs + 1)) ⟨hok2.m, hok2.k, hok2.t, hok2.l⟩ rfl
  have HEND : Hid (ClOk c tn (R5.nx c.D L (qOf r.meas (rec3 pc rs run))).2 R (up I X W) W bb (fun _ => False) r.log lv { r with meas := (R5.nx c.D L (qOf r.meas (rec3 pc rs run))).1, log := r.log ++ [rec3 pc rs run], recs := r.recs + 1 } (.returned (.int .i64 0)) (W'.setCell ⟨bb, 102, none⟩ (.int .i64 ((r.recs + 1 : Nat) : Int)))) := ⟨lv', rfl, hcd3⟩
  have hadd : IntKind.i64.wrap ((r.recs : Int) + 1) = ((r.recs + 1 : Nat) : Int) := by rw [show ((r.recs + 1 : Nat) : Int) = (r.recs : Int) + 1 by omega]; exact IntWalk.i64_in _ (by omega)
  have hHeld4 : SR q p w1.heap.size c.xb PL GL W' := by
    have hsz := HSZ.out
    have hA2 := HAH.out.bel.size
    have hsA : (U.alloc (.cells #[.slice (some ⟨bb, 4, none⟩) 32 32, .slice (some ⟨w1.heap.size, 0, none⟩) 128 128] 106 (0, 0))).heap.size = U.heap.size + 1 := by simp
    have htU := PC.row_lt hHeld3.t
    refine hHeld3.keep (fun k hk hl => ?_)
    rcases hk with rfl | rfl | rfl
    · exact hcd.fr k (by omega) (.inl (.inl HI.out.1)) (by omega) (fun h => h) HLV.out.1
    · exact hcd.fr k (by omega) (.inl (.inl HI.out.2)) (by omega) (fun h => h) HLV.out.2
    · exact hcd.fr _ htU (.inr ⟨by omega, htU⟩) (by omega) (fun h => h) (fun e => by have := HLX.out _ e; omega)
  clear hcd hcd2 hcd3 hcall hHP hhm hhg hMs hrow2 hbW3 hfl hq2 hok2 hlb0 hlb1 hrec hlog
  refine hK.out _ _ hHeld4 (fun _ => ?_)
  clear hK K
  try simp only [Act.put, qT, q0, qS]
  refine wpAnyH_done (by kernel_rfl) ?_ _
  clear hHeld hHeld3 hHeld4
  have hcell' : W'.cell? ⟨bb, 102, none⟩ = some (.int .i64 (r.recs : Int)) := hcell
  clear hcell
  generalize ((r.recs + 1 : Nat) : Int) = RN at *
  generalize (r.recs : Int) = RO at *
  go_wp2
  go_ret
  exact HEND.out
structure By (X X2 : World) (xb : Nat) (PL : List Value) : Prop where
  bel : Below X.heap.size X X2
  size : X2.heap.size = X.heap.size + 2
  q : X2.heap[X.heap.size]? = some (.cells #[.pointer (some ⟨xb, 0, none⟩)] 26 (0, 0))
  p : X2.heap[X.heap.size + 1]? = some (.cells PL.toArray 41 (0, 0))
theorem by_mk (X : World) (xb : Nat) (PL : List Value) (X2 : World) (h : X2 = (X.alloc (.cells #[.pointer (some ⟨xb, 0, none⟩)] 26 (0, 0))).alloc (.cells PL.toArray 41 (0, 0))) : By X X2 xb PL := by
  subst h
  exact ⟨((Below.refl _ _).alloc (Nat.le_refl _) _).alloc (by simp) _, by simp, R5.alloc2_first _ _ _, R5.heap_at _ _ _ (by simp)⟩
theorem add_no (h : JP c tn L R I X l last) (pc : Nat) (rs : List Nat) (run : Bool) (hrd : iOk rd) (hno : NoRd l rd) :
    Calls Tryz.prog 26 #[.pointer (some ⟨c.xb, 0, none⟩), .int .i64 rd, .agg (PC.rcL pc rs run).toArray] X fun e Y => e = .returned (.int .i64 6) ∧ Below X.heap.size X Y := by
  obtain ⟨X2, hX2⟩ : ∃ X2, X2 = (X.alloc (.cells #[.pointer (some ⟨c.xb, 0, none⟩)] 26 (0, 0))).alloc (.cells (PC.rcL pc rs run).toArray 41 (0, 0)) := ⟨_, rfl⟩
  have hB := by_mk X c.xb (PC.rcL pc rs run) X2 hX2
  have hJ2 := h.grow hB.bel
  have hc0 : X2.cell? ⟨X.heap.size, 0, none⟩ = some (.pointer (some ⟨c.xb, 0, none⟩)) := by rw [cell_of_row _ _ 0 _ _ _ hB.q]; rfl
  have HBY : Hid (By X X2 c.xb (PC.rcL pc rs run)) := hB
  have HC : Hid (Calls Tryz.prog 63 #[.pointer (some ⟨c.xb, 0, none⟩), .int .i64 rd, .func (.func 66) #[] #[.pointer (some ⟨X.heap.size + 1, 0, none⟩), .pointer (some ⟨X.heap.size, 0, none⟩)]] X2 fun e Y => e = .returned (.int .i64 6) ∧ Below X2.heap.size X2 Y) := chg_no hJ2 hrd hno _
  clear h hJ2 hB hno
  rw [hX2] at HC hc0
  generalize hPL : PC.rcL pc rs run = PL at *
  clear hPL
  go_enter Tryz.func26, Tryz.ntmps26
  go_wp2_with fail
  refine Calls.mono HC.out ?_
  rintro e w2 ⟨rfl, hb2⟩
  rw [← hX2] at hb2
  have HE : Hid (Below X.heap.size X w2) := HBY.out.bel.trans (hb2.mono HBY.out.bel.size)
  clear hb2 HC hX2 hc0
  go_wp2
  go_ret
  exact ⟨rfl, HE.out⟩
theorem add_st (h : JP c tn L R I X l last) (pc : Nat) (rs : List Nat) (run : Bool) (hrd : iOk rd) (hl : l = a ++ (rd, r, lv) :: b) (hst : r.st ≠ 1) :
    Calls Tryz.prog 26 #[.pointer (some ⟨c.xb, 0, none⟩), .int .i64 rd, .agg (PC.rcL pc rs run).toArray] X fun e Y => e = .returned (.int .i64 7) ∧ Below X.heap.size X Y := by
  obtain ⟨X2, hX2⟩ : ∃ X2, X2 = (X.alloc (.cells #[.pointer (some ⟨c.xb, 0, none⟩)] 26 (0, 0))).alloc (.cells (PC.rcL pc rs run).toArray 41 (0, 0)) := ⟨_, rfl⟩
  have hB := by_mk X c.xb (PC.rcL pc rs run) X2 hX2
  have hJ2 := h.grow hB.bel
  have hc0 : X2.cell? ⟨X.heap.size, 0, none⟩ = some (.pointer (some ⟨c.xb, 0, none⟩)) := by rw [cell_of_row _ _ 0 _ _ _ hB.q]; rfl
  have HBY : Hid (By X X2 c.xb (PC.rcL pc rs run)) := hB
  have HC : Hid (Calls Tryz.prog 63 #[.pointer (some ⟨c.xb, 0, none⟩), .int .i64 rd, .func (.func 66) #[] #[.pointer (some ⟨X.heap.size + 1, 0, none⟩), .pointer (some ⟨X.heap.size, 0, none⟩)]] X2 fun e Y => e = .returned (.int .i64 7) ∧ Below X2.heap.size X2 Y) := cAddRec_err hJ2 hrd hl _ _ 0 7 (by decide) (fun W' bb hA => add_cl_st _ _ hA hst)
  clear h hJ2 hB hl
  rw [hX2] at HC hc0
  generalize hPL : PC.rcL pc rs run = PL at *
  clear hPL
  go_enter Tryz.func26, Tryz.ntmps26
  go_wp2_with fail
  refine Calls.mono HC.out ?_
  rintro e w2 ⟨rfl, hb2⟩
  rw [← hX2] at hb2
  have HE : Hid (Below X.heap.size X w2) := HBY.out.bel.trans (hb2.mono HBY.out.bel.size)
  clear hb2 HC hX2 hc0
  go_wp2
  go_ret
  exact ⟨rfl, HE.out⟩
theorem add_bad (h : JP c tn L R I X l last) (pc : Nat) (rs : List Nat) (run : Bool) (hrs : rs.length = 8) (hrd : iOk rd) (hl : l = a ++ (rd, r, lv) :: b) (hst : r.st = 1) (hmay : PC.mayC pc = false) :
    Calls Tryz.prog 26 #[.pointer (some ⟨c.xb, 0, none⟩), .int .i64 rd, .agg (PC.rcL pc rs run).toArray] X fun e Y => e = .returned (.int .i64 2) ∧ Below X.heap.size X Y := by
  obtain ⟨X2, hX2⟩ : ∃ X2, X2 = (X.alloc (.cells #[.pointer (some ⟨c.xb, 0, none⟩)] 26 (0, 0))).alloc (.cells (PC.rcL pc rs run).toArray 41 (0, 0)) := ⟨_, rfl⟩
  have hB := by_mk X c.xb (PC.rcL pc rs run) X2 hX2
  have hJ2 := h.grow hB.bel
  have hc0 : X2.cell? ⟨X.heap.size, 0, none⟩ = some (.pointer (some ⟨c.xb, 0, none⟩)) := by rw [cell_of_row _ _ 0 _ _ _ hB.q]; rfl
  have HBY : Hid (By X X2 c.xb (PC.rcL pc rs run)) := hB
  have HC : Hid (Calls Tryz.prog 63 #[.pointer (some ⟨c.xb, 0, none⟩), .int .i64 rd, .func (.func 66) #[] #[.pointer (some ⟨X.heap.size + 1, 0, none⟩), .pointer (some ⟨X.heap.size, 0, none⟩)]] X2 fun e Y => e = .returned (.int .i64 2) ∧ Below X2.heap.size X2 Y) := cAddRec_err hJ2 hrd hl _ _ 0 2 (by decide) (fun W' bb hA => add_cl_bad _ _ pc rs run hA hst hrs hmay hB.p)
  clear h hJ2 hB hl hmay
  rw [hX2] at HC hc0
  generalize hPL : PC.rcL pc rs run = PL at *
  clear hPL
  go_enter Tryz.func26, Tryz.ntmps26
  go_wp2_with fail
  refine Calls.mono HC.out ?_
  rintro e w2 ⟨rfl, hb2⟩
  rw [← hX2] at hb2
  have HE : Hid (Below X.heap.size X w2) := HBY.out.bel.trans (hb2.mono HBY.out.bel.size)
  clear hb2 HC hX2 hc0
  go_wp2
  go_ret
  exact ⟨rfl, HE.out⟩
theorem add_ok (h : JP c tn L R I X l last) (pc : Nat) (rs : List Nat) (run : Bool) (hrs : rs.length = 8) (hpc : pc < 18446744073709551616) (hrx : ∀ x ∈ rs, x < 18446744073709551616) (hrd : iOk rd) (hl : l = a ++ (rd, r, lv) :: b) (hst : r.st = 1) (hmay : PC.mayC pc = true) (hL : L.length < 1000000) (hlog : r.log.length < 100000) (hrec : r.recs < 1000000) :
    Calls Tryz.prog 26 #[.pointer (some ⟨c.xb, 0, none⟩), .int .i64 rd, .agg (PC.rcL pc rs run).toArray] X fun e Y => ChEnd c tn (R5.nx c.D L (qOf r.meas (rec3 pc rs run))).2 R I X l a b rd { r with meas := (R5.nx c.D L (qOf r.meas (rec3 pc rs run))).1, log := r.log ++ [rec3 pc rs run], recs := r.recs + 1 } last (fun _ => False) e Y := by
  obtain ⟨X2, hX2⟩ : ∃ X2, X2 = (X.alloc (.cells #[.pointer (some ⟨c.xb, 0, none⟩)] 26 (0, 0))).alloc (.cells (PC.rcL pc rs run).toArray 41 (0, 0)) := ⟨_, rfl⟩
  have hB := by_mk X c.xb (PC.rcL pc rs run) X2 hX2
  have hJ2 := h.grow hB.bel
  have hc0 : X2.cell? ⟨X.heap.size, 0, none⟩ = some (.pointer (some ⟨c.xb, 0, none⟩)) := by rw [cell_of_row _ _ 0 _ _ _ hB.q]; rfl
  have HBY : Hid (By X X2 c.xb (PC.rcL pc rs run)) := hB
  have hlvX := h.lvX hl
  have hsz := hB.size
  have HC : Hid (Calls Tryz.prog 63 #[.pointer (some ⟨c.xb, 0, none⟩), .int .i64 rd, .func (.func 66) #[] #[.pointer (some ⟨X.heap.size + 1, 0, none⟩), .pointer (some ⟨X.heap.size, 0, none⟩)]] X2 fun e Y => ChEnd c tn (R5.nx c.D L (qOf r.meas (rec3 pc rs run))).2 R I X l a b rd { r with meas := (R5.nx c.D L (qOf r.meas (rec3 pc rs run))).1, log := r.log ++ [rec3 pc rs run], recs := r.recs + 1 } last (fun _ => False) e Y) := by
    refine (cAddRec_ok hJ2 hrd hl _ _ 0 (fun k hk => hk.elim) (fun W' bb hA => add_cl _ _ pc rs run hA (mem_of hl) (hJ2.lvX hl) hst hrs hpc hrx hmay hL hlog hrec hB.p hB.q ⟨.inr ⟨Nat.le_refl _, by omega⟩, .inr ⟨by omega, by omega⟩⟩ ⟨fun e => by have := hlvX _ e; omega, fun e => by have := hlvX _ e; omega⟩)).mono (fun e Y hE => hE.ahead h hB.bel (fun k hk => hk.elim))
  clear h hJ2 hB hl hmay hlvX hsz hst hlog hrec hpc hrx
  rw [hX2] at HC hc0
  generalize hPL : PC.rcL pc rs run = PL at *
  clear hPL
  go_enter Tryz.func26, Tryz.ntmps26
  go_wp2_with fail
  refine Calls.mono HC.out ?_
  rintro e w2 ⟨lv', rfl, hp⟩
  have HP : Hid (PD c tn (R5.nx c.D L (qOf r.meas (rec3 pc rs run))).2 R I X w2 l (a ++ (rd, { r with meas := (R5.nx c.D L (qOf r.meas (rec3 pc rs run))).1, log := r.log ++ [rec3 pc rs run], recs := r.recs + 1 }, lv') :: b) last (fun _ => False)) := hp
  clear hp HC hX2 hc0
  go_wp2
  go_ret
  exact ⟨lv', rfl, HP.out⟩
end
end Go.Proofs.YtekbppfocnbhbaaGreat.XC
