import Derived.Test.YtekbppfocnbhbaaGreatWl
set_option linter.unusedVariables false
set_option linter.unusedSimpArgs false
set_option maxHeartbeats 16000000
set_option maxRecDepth 100000
namespace Go.Proofs.YtekbppfocnbhbaaGreat.XC
open Go.RowKit
section
variable {c : Cx} {tn last last' : Nat} {L L' R : Lg} {I J : Nat → Prop} {X Y Z W W' W2 : World} {l l' a b : List En} {E : Nat → Prop} {rd : Int} {r r' : Rm} {lv lv' : Value} {bb : Nat} {lg : List Rd}
theorem data_cl_st (p q s : Nat) (hA : Ahd c tn L R I X W l last bb (rmL r lv)) (hst : r.st ≠ 1) :
    Calls Tryz.prog 65 #[.pointer (some ⟨bb, 0, none⟩), .pointer (some ⟨p, 0, none⟩), .pointer (some ⟨q, 0, none⟩), .pointer (some ⟨s, 0, none⟩)] W fun e W' => e = .returned (.int .i64 7) ∧ Below W.heap.size W W' := by
  have hc := hA.cellA (rmL_1 r lv)
  have hne : (r.st != 1) = true := by simpa using hst
  generalize r.st = S at *
  clear hA hst
  go_enter Tryz.func65, Tryz.ntmps65
  go_wp2
  go_ret
  exact ⟨rfl, Below.refl _ _⟩
theorem data_cl (p q s pg : Nat) (g : List UInt8) (hA : Ahd c tn L R I X W l last bb (rmL r lv)) (hm : (rd, r, lv) ∈ l) (hlX : ∀ k, lv.ownBlock = some k → k < X.heap.size) (hst : r.st = 1) (hpg : pg < 128) (hg : g.length = 128) (hL : L.length < 1000000) (hlog : r.log.length < 100000)
    (hs : X.heap[s]? = some (.cells #[.pointer (some ⟨c.xb, 0, none⟩)] 26 (0, 0))) (hp : X.heap[p]? = some (.cells #[.int .i64 (pg : Int)] 3 (0, 0))) (hq : X.heap[q]? = some (.cells (g.map B8).toArray 38 (0, 0))) (hI : I s ∧ I p ∧ I q) (hlv : lv.ownBlock ≠ some s ∧ lv.ownBlock ≠ some p ∧ lv.ownBlock ≠ some q) :
    Calls Tryz.prog 65 #[.pointer (some ⟨bb, 0, none⟩), .pointer (some ⟨p, 0, none⟩), .pointer (some ⟨q, 0, none⟩), .pointer (some ⟨s, 0, none⟩)] W fun e W' =>
      ClOk c tn (R5.nx c.D L (qOf r.meas (rec2 pg g))).2 R (up I X W) W bb (fun _ => False) r.log lv { r with meas := (R5.nx c.D L (qOf r.meas (rec2 pg g))).1, log := r.log ++ [rec2 pg g] } e W' := by
  have hok := hA.jp.px.ok _ hm
  have hX := hA.low
  have hbl := PC.row_lt hA.row
  have hsX := PC.row_lt hs
  have hpX := PC.row_lt hp
  have hqX := PC.row_lt hq
  have hc := hA.cellA (rmL_1 r lv)
  have hne : (r.st != 1) = false := by rw [hst]; rfl
  have hcp : W.cell? ⟨p, 0, none⟩ = some (.int .i64 (pg : Int)) := by rw [cell_of_row _ _ 0 _ _ _ ((hA.bel.block p hpX).trans hp)]; rfl
  have HQR : Hid (W.rangeAt q 0 (g.map B8)) := PC.rangeAt_row ((hA.bel.block q hqX).trans hq)
  have HGI : Hid _ := PC.info128 (g.map B8) (by simpa using hg)
  have hzd := fun W => zero_rd W
  have HBR : Hid (∀ W, (Instr.build 69 #[(0, .int .i64 2), (2, .int .i64 (pg : Int)), (3, .agg (g.map B8).toArray)]).run Tryz.prog W = .ok (.agg (rdL (rec2 pg g)).toArray) W) := fun W => build_rd2 W pg (g.map B8) (by simpa using hg)
  have HAN : Hid ((rdL (rec2 pg g)).length = 172) := rdL_len (rec2_ok pg hg)
  have HA1 : Hid ((rdL (rec2 pg g)).toArray.all (·.oneCell') = true) := PC.onea (rdL_one _)
  have HZS : Hid (zRd.size = 172) := by show (rdL zD).toArray.size = 172; simpa using rdL_len zD_ok
  obtain ⟨AL, hAL⟩ : ∃ AL, AL = rdL (rec2 pg g) := ⟨_, rfl⟩
  rw [← hAL] at HAN HA1 HBR
  have HAE : Hid (AL = rdL (rec2 pg g)) := hAL
  have HAI : Hid _ := info172 AL HAN.out
  have HAIa : Hid ((Tryz.prog.info? 69).map (·.size) = some AL.toArray.size) := info172a _ (by simpa using HAN.out)
  have HZA : Hid (zRd.size = AL.toArray.size) := by have := HAN.out; have := HZS.out; simp_all
  have HNW : Hid ((W.alloc (.cells zRd 69 (0, 0))).heap[W.heap.size]? = some (.cells zRd 69 (0, 0))) := heap_alloc_new _ _
  obtain ⟨V, hV⟩ : ∃ V, V = (W.alloc (.cells zRd 69 (0, 0))).setRow W.heap.size AL.toArray := ⟨_, rfl⟩
  have hbV : Below W.heap.size W V := by rw [hV]; exact below_setRow ((Below.refl _ _).alloc (Nat.le_refl _) _) (Nat.le_refl _) _
  have htV : V.heap[W.heap.size]? = some (.cells AL.toArray 69 (0, 0)) := by rw [hV]; exact setRow_heap _ _ _ _ _ _ (heap_alloc_new _ _)
  have hbU : Below W.heap.size W V.drew := hbV.drew
  have hS : SD s p q W.heap.size c.xb (.int .i64 (pg : Int)) 3 38 (g.map B8) AL V.drew := ⟨(hbU.block s (by have := hA.bel.size; omega)).trans ((hA.bel.block s hsX).trans hs), (hbU.block p (by have := hA.bel.size; omega)).trans ((hA.bel.block p hpX).trans hp), (hbU.block q (by have := hA.bel.size; omega)).trans ((hA.bel.block q hqX).trans hq), htV⟩
  have HS : Hid (SD s p q W.heap.size c.xb (.int .i64 (pg : Int)) 3 38 (g.map B8) AL V.drew) := hS
  have HBU : Hid (Below W.heap.size W V.drew) := hbU
  have HAH : Hid (Ahd c tn L R I X W l last bb (rmL r lv)) := hA
  have HOK : Hid r.ok := hok
  have HM : Hid ((rd, r, lv) ∈ l) := hm
  have HLX : Hid (∀ k, lv.ownBlock = some k → k < X.heap.size) := hlX
  have HG : Hid (g.length = 128) := hg
  have HI : Hid (I s ∧ I p ∧ I q) := hI
  have HLV : Hid (lv.ownBlock ≠ some s ∧ lv.ownBlock ≠ some p ∧ lv.ownBlock ≠ some q) := hlv
  have HSZ : Hid (s < X.heap.size ∧ p < X.heap.size ∧ q < X.heap.size ∧ bb < W.heap.size) := ⟨hsX, hpX, hqX, hbl⟩
  have hlow := hA.low
  clear hA hok hm hlX hg hs hp hq hI hlv hAL hbV htV hbU hS hst hlow hX hbl hsX hpX hqX
  have HV : Hid (V = (W.alloc (.cells zRd 69 (0, 0))).setRow W.heap.size AL.toArray) := hV
  have HGM : Hid (∃ G, G = g.map B8) := ⟨_, rfl⟩
  obtain ⟨GL, hGL⟩ := HGM.out
  rw [← hGL] at HQR HGI HBR HS
  have HGL : Hid (GL = g.map B8) := hGL
  clear hGL HGM
  obtain ⟨ST, hSt⟩ : ∃ ST, ST = r.st := ⟨_, rfl⟩
  rw [← hSt] at hc hne
  clear hSt
  go_enter Tryz.func65, Tryz.ntmps65
  go_wp2_with (first
    | (refine wpList_load_mid rfl 38 _ rfl q 0 rfl GL _ HQR.out Tryz.underlying38 rfl HGI.out ?_)
    | (refine PC.wpList_build rfl 69 _ rfl _ (.agg AL.toArray) (by simp; exact ⟨rfl, rfl, rfl⟩) (HBR.out _) ?_)
    | (refine wpList_store_row rfl 69 _ _ rfl W.heap.size AL.toArray rfl rfl 69 zRd HNW.out HAIa.out HZA.out HA1.out ?_))
  rw [← hV]
  clear hV
  refine wp_region_held_drew (S := SD s p q W.heap.size c.xb (.int .i64 (pg : Int)) 3 38 GL AL) (by kernel_rfl) HS.out (fun hHeld => ?_)
  clear HV
  generalize V.drew = U at *
  have hsl := fun W => PC.slice_dg W bb 4
  have hsq := fun W => PC.slice_gr W q
  refine qzI 0 ⟨some 15, .load 26 (.tmp 3), 26, _, #[], none⟩ (.pointer (some ⟨c.xb, 0, none⟩)) rfl (by kernel_rfl) (fun _ _ _ h => h) (by rfl) (fun w' hw' => ?_) hHeld ?_
  · have hcc : w'.cell? ⟨s, 0, none⟩ = some (.pointer (some ⟨c.xb, 0, none⟩)) := (by rw [cell_of_row _ _ 0 _ _ _ hw'.s]; rfl); go_simp <;> rfl
  try simp only [Act.put, qT, q0, qS]
  refine qzI 1 ⟨some 16, .move (.tmp 0), 104, _, #[], none⟩ (.pointer (some ⟨bb, 0, none⟩)) rfl (by kernel_rfl) (fun _ _ _ h => h) (by rfl) (fun w' hw' => ?_) hHeld ?_
  · go_simp <;> rfl
  try simp only [Act.put, qT, q0, qS]
  refine qzK 2 ⟨some 17, .load 69 (.tmp 6), 69, _, #[], none⟩ _ rfl (by kernel_rfl) (fun _ _ _ h => h) (yieldsIf_load_mid (by rfl) 69 (.tmp 6) rfl (W.heap.size) (0) rfl (AL) _ (fun _ h => PC.rangeAt_row h.t) Tryz.underlying69 rfl HAI.out) hHeld ?_
  try simp only [Act.put, qT, q0, qS]
  refine qzI 3 ⟨some 18, .move (.tmp 0), 104, _, #[], none⟩ (.pointer (some ⟨bb, 0, none⟩)) rfl (by kernel_rfl) (fun _ _ _ h => h) (by rfl) (fun w' hw' => ?_) hHeld ?_
  · go_simp <;> rfl
  try simp only [Act.put, qT, q0, qS]
  refine qzI 4 ⟨some 19, .nilCheck (.tmp 18), 0, _, #[⟨3, .data⟩], none⟩ (.pointer (some ⟨bb, 0, none⟩)) rfl (by kernel_rfl) (fun _ _ _ h => h) (by rfl) (fun w' hw' => ?_) hHeld ?_
  · go_simp <;> rfl
  try simp only [Act.put, qT, q0, qS]
  refine qzI 5 ⟨some 20, .fieldAddr 47 (.tmp 19) 4, 0, _, #[⟨4, .data⟩], none⟩ (.pointer (some ⟨bb, 4, none⟩)) rfl (by kernel_rfl) (fun _ _ _ h => h) (by rfl) (fun w' hw' => ?_) hHeld ?_
  · go_simp <;> rfl
  try simp only [Act.put, qT, q0, qS]
  refine qzI 6 ⟨some 21, .slice 33 (.tmp 20) none none none, 106, _, #[⟨5, .data⟩], none⟩ (.slice (some ⟨bb, 4, none⟩) 32 32) rfl (by kernel_rfl) (fun _ _ _ h => h) (by rfl) (fun w' hw' => ?_) hHeld ?_
  · go_simp <;> rfl
  try simp only [Act.put, qT, q0, qS]
  refine qzI 7 ⟨some 22, .load 3 (.tmp 1), 3, _, #[], none⟩ (.int .i64 (pg : Int)) rfl (by kernel_rfl) (fun _ _ _ h => h) (by rfl) (fun w' hw' => ?_) hHeld ?_
  · have hcc : w'.cell? ⟨p, 0, none⟩ = some (.int .i64 (pg : Int)) := (by rw [cell_of_row _ _ 0 _ _ _ hw'.p]; rfl); go_simp <;> rfl
  try simp only [Act.put, qT, q0, qS]
  refine qzI 8 ⟨some 23, .convert 3 34 (.tmp 22), 34, _, #[⟨7, .data⟩], none⟩ (.int .u64 (pg : Int)) rfl (by kernel_rfl) (fun _ _ _ h => h) (by rfl) (fun w' hw' => ?_) hHeld ?_
  · have hwr : IntKind.u64.wrap (pg : Int) = (pg : Int) := (by rw [IntKind.wrap_u64]; omega); go_simp <;> rfl
  try simp only [Act.put, qT, q0, qS]
  refine qzI 10 ⟨some 25, .slice 38 (.tmp 2) none none none, 106, _, #[], none⟩ (.slice (some ⟨q, 0, none⟩) 128 128) rfl (by kernel_rfl) (fun _ _ _ h => h) (by rfl) (fun w' hw' => ?_) hHeld ?_
  · go_simp <;> rfl
  try simp only [Act.put, qT, q0, qS]
  refine qzR 9 ⟨some 24, .call ⟨.value (.func 49), #[.tmp 23], #[34]⟩, 106, _, #[⟨8, .data⟩], none⟩ (by kernel_rfl) rfl (by rfl) (fun K hK => ?_)
  go_wp2_with fail
  refine Calls.mono (number_any pg U (by omega)) ?_
  rintro e U2 ⟨rfl, hfb, hb2⟩
  have hHeld2 : SD s p q W.heap.size c.xb (.int .i64 (pg : Int)) 3 38 GL AL U2 := hHeld.keep (fun k _ hk => hb2.block k hk)
  refine hK.out _ _ hHeld2 (fun _ => ?_)
  clear hK K
  try simp only [Act.put, qT, q0, qS]
  have hbA : Below U2.heap.size U2 (U2.alloc (.cells #[.slice (some ⟨bb, 4, none⟩) 32 32, .slice (some ⟨U.heap.size, 0, none⟩) 8 8, .slice (some ⟨q, 0, none⟩) 128 128] 106 (0, 0))) := (Below.refl _ _).alloc (Nat.le_refl _) _
  have hHeld3 := hHeld2.keep (fun k _ hk => hbA.block k hk)
  refine qzR 11 ⟨some 26, .buildSlice 144 3 #[(0, .tmp 21), (1, .tmp 24), (2, .tmp 25)], 144, _, #[⟨6, .data⟩, ⟨9, .data⟩, ⟨10, .data⟩], none⟩ (by kernel_rfl) rfl (by rfl) (fun K hK => ?_)
  refine wp_bslice 144 3 _ rfl _ _ (by simp; exact ⟨rfl, rfl, rfl⟩) (bs3 U2 _ _ _ _ _ _ _ _ _ _ _ _ rfl rfl rfl) ?_
  refine hK.out _ _ hHeld3 (fun _ => ?_)
  clear hK K
  try simp only [Act.put, qT, q0, qS]
  refine qzR 12 ⟨some 27, .call ⟨.value (.func 47), #[.tmp 15, .tmp 16, .tmp 17, .const (Go.Value.int Go.IntKind.i64 2), .tmp 26], #[26, 104, 69, 105, 144]⟩, 0, _, #[⟨0, .data⟩, ⟨1, .data⟩, ⟨2, .data⟩, ⟨11, .data⟩, ⟨9, .chain⟩], none⟩ (by kernel_rfl) rfl (by rfl) (fun K hK => ?_)
  have hsU := HBU.out.size
  have hs2 := hb2.size
  have hbW2 : Below W.heap.size W U2 := HBU.out.trans (hb2.mono hsU)
  have hbW3 : Below W.heap.size W (U2.alloc (.cells #[.slice (some ⟨bb, 4, none⟩) 32 32, .slice (some ⟨U.heap.size, 0, none⟩) 8 8, .slice (some ⟨q, 0, none⟩) 128 128] 106 (0, 0))) := hbW2.alloc (by omega) _
  have hMs := HAH.out.ms HM.out HLX.out hbW3
  have hrow2 : U2.heap[bb]? = some (.cells (rmL r lv).toArray 47 (0, 0)) := (hbW2.block bb HSZ.out.2.2.2).trans HAH.out.row
  have hhm : HB U2 (.slice (some ⟨bb, 4, none⟩) 32 32) r.meas := PC.hb_range 32 HOK.out.m.symm (by rw [HOK.out.m]; decide) (by unfold maxLen; decide) (by have := PC.rangeAt_part (PC.rangeAt_row hrow2) 4 32; rw [rmL_meas HOK.out] at this; simpa using this)
  have hhn : HB U2 (.slice (some ⟨U.heap.size, 0, none⟩) 8 8) (W1.le 8 pg) := hfb.hb
  have hhg : HB U2 (.slice (some ⟨q, 0, none⟩) 128 128) g := PC.hb_range 128 HG.out.symm (by rw [HG.out]; decide) (by unfold maxLen; decide) (by have := PC.rangeAt_row hHeld2.q; rwa [HGL.out] at this)
  have hHP := hp3 U2 _ _ _ _ _ _ hhm hhn hhg
  have hfl : [r.meas, W1.le 8 pg, g].flatten.length = 168 := by simp [HOK.out.m, HG.out, W1.le_length]
  have hcall := msr_any hMs (rec2 pg g) (rec2_ok pg HG.out) 2 _ _ hHP (by simp) (by rw [hfl]; decide) (kOk_d (by decide) (by rw [hfl]; decide)) (askB_d (by decide) (by decide)) hL hlog
  go_wp2_with fail
  rw [HAE.out]
  refine Calls.mono hcall ?_
  rintro e W' ⟨lv', rfl, hcd⟩
  have hq2 : (⟨1, List.replicate 32 0, 2, [r.meas, W1.le 8 pg, g].flatten⟩ : R5.Qn) = qOf r.meas (rec2 pg g) := by rw [qOf2]; simp [Z0]
  rw [hq2] at hcd
  have hcd2 := hcd.ahead hbW3 HSZ.out.2.2.2 (fun k e => by have := HLX.out k e; have := HAH.out.bel.size; omega)
  have HEND : Hid (ClOk c tn (R5.nx c.D L (qOf r.meas (rec2 pg g))).2 R (up I X W) W bb (fun _ => False) r.log lv { r with meas := (R5.nx c.D L (qOf r.meas (rec2 pg g))).1, log := r.log ++ [rec2 pg g] } (.returned (.int .i64 0)) W') := ⟨lv', rfl, hcd2⟩
  have hHeld4 : SD s p q W.heap.size c.xb (.int .i64 (pg : Int)) 3 38 GL AL W' := by
    have hsz := HSZ.out
    have hA1 := HAH.out.low
    have hA2 := HAH.out.bel.size
    have hsA : (U2.alloc (.cells #[.slice (some ⟨bb, 4, none⟩) 32 32, .slice (some ⟨U.heap.size, 0, none⟩) 8 8, .slice (some ⟨q, 0, none⟩) 128 128] 106 (0, 0))).heap.size = U2.heap.size + 1 := by simp
    have htU := PC.row_lt hHeld3.t
    refine hHeld3.keep (fun k hk hl => ?_)
    rcases hk with rfl | rfl | rfl | rfl
    · exact hcd.fr k (by omega) (.inl (.inl HI.out.1)) (by omega) (fun h => h) HLV.out.1
    · exact hcd.fr k (by omega) (.inl (.inl HI.out.2.1)) (by omega) (fun h => h) HLV.out.2.1
    · exact hcd.fr k (by omega) (.inl (.inl HI.out.2.2)) (by omega) (fun h => h) HLV.out.2.2
    · exact hcd.fr _ htU (.inr ⟨Nat.le_refl _, htU⟩) (by omega) (fun h => h) (fun e => by have := HLX.out _ e; omega)
  clear hcd hcd2 hcall hHP hhm hhn hhg hMs hrow2 hbW3 hbW2 hfl hq2 hfb hb2
  refine hK.out _ _ hHeld4 (fun _ => ?_)
  clear hK K
  try simp only [Act.put, qT, q0, qS]
  refine wpAnyH_done (by kernel_rfl) ?_ _
  clear hHeld hHeld2 hHeld3 hHeld4
  go_wp2
  go_ret
  exact HEND.out
structure Bx (X X3 : World) (xb : Nat) (P : Int) (GL : List Value) : Prop where
  bel : Below X.heap.size X X3
  size : X3.heap.size = X.heap.size + 3
  s : X3.heap[X.heap.size]? = some (.cells #[.pointer (some ⟨xb, 0, none⟩)] 26 (0, 0))
  p : X3.heap[X.heap.size + 1]? = some (.cells #[.int .i64 P] 3 (0, 0))
  q : X3.heap[X.heap.size + 1 + 1]? = some (.cells GL.toArray 38 (0, 0))
theorem bx_mk (X : World) (xb : Nat) (P : Int) (GL : List Value) (X3 : World) (h : X3 = ((X.alloc (.cells #[.pointer (some ⟨xb, 0, none⟩)] 26 (0, 0))).alloc (.cells #[.int .i64 P] 3 (0, 0))).alloc (.cells GL.toArray 38 (0, 0))) : Bx X X3 xb P GL := by
  subst h
  refine ⟨(((Below.refl _ _).alloc (Nat.le_refl _) _).alloc (by simp) _).alloc (by simp; omega) _, by simp, ?_, ?_, R5.heap_at _ _ _ (by simp)⟩
  · rw [heap_alloc_old _ _ (by simp; omega)]; exact R5.alloc2_first _ _ _
  · rw [heap_alloc_old _ _ (by simp)]; exact R5.heap_at _ _ _ (by simp)
theorem data_arg1 (h : JP c tn L R I X l last) (P : Int) (hP : P < 0) (g : List UInt8) :
    Calls Tryz.prog 25 #[.pointer (some ⟨c.xb, 0, none⟩), .int .i64 rd, .int .i64 P, .agg (g.map B8).toArray] X fun e Y => e = .returned (.int .i64 2) ∧ Below X.heap.size X Y := by
  obtain ⟨X3, hX3⟩ : ∃ X3, X3 = ((X.alloc (.cells #[.pointer (some ⟨c.xb, 0, none⟩)] 26 (0, 0))).alloc (.cells #[.int .i64 P] 3 (0, 0))).alloc (.cells (g.map B8).toArray 38 (0, 0)) := ⟨_, rfl⟩
  have hB := bx_mk X c.xb P (g.map B8) X3 hX3
  have hJ3 := h.grow hB.bel
  have HN : Hid (Calls Tryz.prog 54 #[.pointer (some ⟨c.xb, 0, none⟩)] X3 fun e Y => e = .returned (.bool false) ∧ Below X3.heap.size X3 Y) := hJ3.nonO
  have hc0 : X3.cell? ⟨X.heap.size, 0, none⟩ = some (.pointer (some ⟨c.xb, 0, none⟩)) := by rw [cell_of_row _ _ 0 _ _ _ hB.s]; rfl
  have HBX : Hid (Bx X X3 c.xb P (g.map B8)) := hB
  clear h hJ3 hB
  rw [hX3] at HN hc0
  generalize hGL : g.map B8 = GL at *
  clear hGL
  go_enter Tryz.func25, Tryz.ntmps25
  go_wp2_with fail
  refine Calls.mono HN.out ?_
  rintro e w1 ⟨rfl, hb1⟩
  rw [← hX3] at hb1
  have hc1 : w1.cell? ⟨X.heap.size + 1, 0, none⟩ = some (.int .i64 P) := by rw [cell_of_row _ _ 0 _ _ _ ((hb1.block _ (PC.row_lt HBX.out.p)).trans HBX.out.p)]; rfl
  have hc2 : w1.cell? ⟨X.heap.size, 0, none⟩ = some (.pointer (some ⟨c.xb, 0, none⟩)) := by rw [cell_of_row _ _ 0 _ _ _ ((hb1.block _ (PC.row_lt HBX.out.s)).trans HBX.out.s)]; rfl
  have HB1 : Hid (Below X3.heap.size X3 w1) := hb1
  clear hb1 HN hc0
  clear hX3
  go_wp2
  go_ret
  exact ⟨rfl, HBX.out.bel.trans (HB1.out.mono HBX.out.bel.size)⟩
theorem data_arg2 (h : JP c tn L R I X l last) (P : Int) (hP0 : ¬ P < 0) (hP : 128 ≤ P) (g : List UInt8) :
    Calls Tryz.prog 25 #[.pointer (some ⟨c.xb, 0, none⟩), .int .i64 rd, .int .i64 P, .agg (g.map B8).toArray] X fun e Y => e = .returned (.int .i64 2) ∧ Below X.heap.size X Y := by
  obtain ⟨X3, hX3⟩ : ∃ X3, X3 = ((X.alloc (.cells #[.pointer (some ⟨c.xb, 0, none⟩)] 26 (0, 0))).alloc (.cells #[.int .i64 P] 3 (0, 0))).alloc (.cells (g.map B8).toArray 38 (0, 0)) := ⟨_, rfl⟩
  have hB := bx_mk X c.xb P (g.map B8) X3 hX3
  have hJ3 := h.grow hB.bel
  have HN : Hid (Calls Tryz.prog 54 #[.pointer (some ⟨c.xb, 0, none⟩)] X3 fun e Y => e = .returned (.bool false) ∧ Below X3.heap.size X3 Y) := hJ3.nonO
  have hc0 : X3.cell? ⟨X.heap.size, 0, none⟩ = some (.pointer (some ⟨c.xb, 0, none⟩)) := by rw [cell_of_row _ _ 0 _ _ _ hB.s]; rfl
  have HBX : Hid (Bx X X3 c.xb P (g.map B8)) := hB
  clear h hJ3 hB
  rw [hX3] at HN hc0
  generalize hGL : g.map B8 = GL at *
  clear hGL
  go_enter Tryz.func25, Tryz.ntmps25
  go_wp2_with fail
  refine Calls.mono HN.out ?_
  rintro e w1 ⟨rfl, hb1⟩
  rw [← hX3] at hb1
  have hc1 : w1.cell? ⟨X.heap.size + 1, 0, none⟩ = some (.int .i64 P) := by rw [cell_of_row _ _ 0 _ _ _ ((hb1.block _ (PC.row_lt HBX.out.p)).trans HBX.out.p)]; rfl
  have hc2 : w1.cell? ⟨X.heap.size, 0, none⟩ = some (.pointer (some ⟨c.xb, 0, none⟩)) := by rw [cell_of_row _ _ 0 _ _ _ ((hb1.block _ (PC.row_lt HBX.out.s)).trans HBX.out.s)]; rfl
  have HB1 : Hid (Below X3.heap.size X3 w1) := hb1
  clear hb1 HN hc0
  clear hX3
  go_wp2
  go_ret
  exact ⟨rfl, HBX.out.bel.trans (HB1.out.mono HBX.out.bel.size)⟩
theorem data_no (h : JP c tn L R I X l last) (P : Int) (hP0 : ¬ P < 0) (hP : ¬ 128 ≤ P) (g : List UInt8) (hrd : iOk rd) (hno : NoRd l rd) :
    Calls Tryz.prog 25 #[.pointer (some ⟨c.xb, 0, none⟩), .int .i64 rd, .int .i64 P, .agg (g.map B8).toArray] X fun e Y => e = .returned (.int .i64 6) ∧ Below X.heap.size X Y := by
  obtain ⟨X3, hX3⟩ : ∃ X3, X3 = ((X.alloc (.cells #[.pointer (some ⟨c.xb, 0, none⟩)] 26 (0, 0))).alloc (.cells #[.int .i64 P] 3 (0, 0))).alloc (.cells (g.map B8).toArray 38 (0, 0)) := ⟨_, rfl⟩
  have hB := bx_mk X c.xb P (g.map B8) X3 hX3
  have hJ3 := h.grow hB.bel
  have HN : Hid (Calls Tryz.prog 54 #[.pointer (some ⟨c.xb, 0, none⟩)] X3 fun e Y => e = .returned (.bool false) ∧ Below X3.heap.size X3 Y) := hJ3.nonO
  have hc0 : X3.cell? ⟨X.heap.size, 0, none⟩ = some (.pointer (some ⟨c.xb, 0, none⟩)) := by rw [cell_of_row _ _ 0 _ _ _ hB.s]; rfl
  have HBX : Hid (Bx X X3 c.xb P (g.map B8)) := hB
  have HC : Hid (∀ W, Below X3.heap.size X3 W → ∀ fv, Calls Tryz.prog 63 #[.pointer (some ⟨c.xb, 0, none⟩), .int .i64 rd, fv] W fun e Y => e = .returned (.int .i64 6) ∧ Below W.heap.size W Y) := fun W hb fv => chg_no (hJ3.step hb) hrd hno fv
  clear h hJ3 hB hno
  rw [hX3] at HN hc0
  generalize hGL : g.map B8 = GL at *
  clear hGL
  go_enter Tryz.func25, Tryz.ntmps25
  go_wp2_with fail
  refine Calls.mono HN.out ?_
  rintro e w1 ⟨rfl, hb1⟩
  rw [← hX3] at hb1
  have hc1 : w1.cell? ⟨X.heap.size + 1, 0, none⟩ = some (.int .i64 P) := by rw [cell_of_row _ _ 0 _ _ _ ((hb1.block _ (PC.row_lt HBX.out.p)).trans HBX.out.p)]; rfl
  have hc2 : w1.cell? ⟨X.heap.size, 0, none⟩ = some (.pointer (some ⟨c.xb, 0, none⟩)) := by rw [cell_of_row _ _ 0 _ _ _ ((hb1.block _ (PC.row_lt HBX.out.s)).trans HBX.out.s)]; rfl
  have HB1 : Hid (Below X3.heap.size X3 w1) := hb1
  clear hb1 HN hc0
  clear hX3
  go_wp2_with fail
  refine Calls.mono (HC.out _ HB1.out _) ?_
  rintro e w2 ⟨rfl, hb2⟩
  have HE : Hid (Below X.heap.size X w2) := (HBX.out.bel.trans (HB1.out.mono HBX.out.bel.size)).trans (hb2.mono (by have := HB1.out.size; have := HBX.out.bel.size; omega))
  clear hb2 HC
  go_wp2
  go_ret
  exact ⟨rfl, HE.out⟩
theorem data_st (h : JP c tn L R I X l last) (P : Int) (hP0 : ¬ P < 0) (hP : ¬ 128 ≤ P) (g : List UInt8) (hrd : iOk rd) (hl : l = a ++ (rd, r, lv) :: b) (hst : r.st ≠ 1) :
    Calls Tryz.prog 25 #[.pointer (some ⟨c.xb, 0, none⟩), .int .i64 rd, .int .i64 P, .agg (g.map B8).toArray] X fun e Y => e = .returned (.int .i64 7) ∧ Below X.heap.size X Y := by
  obtain ⟨X3, hX3⟩ : ∃ X3, X3 = ((X.alloc (.cells #[.pointer (some ⟨c.xb, 0, none⟩)] 26 (0, 0))).alloc (.cells #[.int .i64 P] 3 (0, 0))).alloc (.cells (g.map B8).toArray 38 (0, 0)) := ⟨_, rfl⟩
  have hB := bx_mk X c.xb P (g.map B8) X3 hX3
  have hJ3 := h.grow hB.bel
  have HN : Hid (Calls Tryz.prog 54 #[.pointer (some ⟨c.xb, 0, none⟩)] X3 fun e Y => e = .returned (.bool false) ∧ Below X3.heap.size X3 Y) := hJ3.nonO
  have hc0 : X3.cell? ⟨X.heap.size, 0, none⟩ = some (.pointer (some ⟨c.xb, 0, none⟩)) := by rw [cell_of_row _ _ 0 _ _ _ hB.s]; rfl
  have HBX : Hid (Bx X X3 c.xb P (g.map B8)) := hB
  have HC : Hid (∀ W, Below X3.heap.size X3 W → Calls Tryz.prog 63 #[.pointer (some ⟨c.xb, 0, none⟩), .int .i64 rd, .func (.func 65) #[] #[.pointer (some ⟨X.heap.size + 1, 0, none⟩), .pointer (some ⟨X.heap.size + 1 + 1, 0, none⟩), .pointer (some ⟨X.heap.size, 0, none⟩)]] W fun e Y => e = .returned (.int .i64 7) ∧ Below W.heap.size W Y) := fun W hb => cData_err (hJ3.step hb) hrd hl _ _ _ 7 (by decide) (fun W' bb hA => data_cl_st _ _ _ hA hst)
  clear h hJ3 hB hl
  rw [hX3] at HN hc0
  generalize hGL : g.map B8 = GL at *
  clear hGL
  go_enter Tryz.func25, Tryz.ntmps25
  go_wp2_with fail
  refine Calls.mono HN.out ?_
  rintro e w1 ⟨rfl, hb1⟩
  rw [← hX3] at hb1
  have hc1 : w1.cell? ⟨X.heap.size + 1, 0, none⟩ = some (.int .i64 P) := by rw [cell_of_row _ _ 0 _ _ _ ((hb1.block _ (PC.row_lt HBX.out.p)).trans HBX.out.p)]; rfl
  have hc2 : w1.cell? ⟨X.heap.size, 0, none⟩ = some (.pointer (some ⟨c.xb, 0, none⟩)) := by rw [cell_of_row _ _ 0 _ _ _ ((hb1.block _ (PC.row_lt HBX.out.s)).trans HBX.out.s)]; rfl
  have HB1 : Hid (Below X3.heap.size X3 w1) := hb1
  clear hb1 HN hc0
  clear hX3
  go_wp2_with fail
  refine Calls.mono (HC.out _ HB1.out) ?_
  rintro e w2 ⟨rfl, hb2⟩
  have HE : Hid (Below X.heap.size X w2) := (HBX.out.bel.trans (HB1.out.mono HBX.out.bel.size)).trans (hb2.mono (by have := HB1.out.size; have := HBX.out.bel.size; omega))
  clear hb2 HC
  go_wp2
  go_ret
  exact ⟨rfl, HE.out⟩
theorem data_ok (h : JP c tn L R I X l last) (pg : Nat) (hpg : pg < 128) (g : List UInt8) (hg : g.length = 128) (hrd : iOk rd) (hl : l = a ++ (rd, r, lv) :: b) (hst : r.st = 1) (hL : L.length < 1000000) (hlog : r.log.length < 100000) :
    Calls Tryz.prog 25 #[.pointer (some ⟨c.xb, 0, none⟩), .int .i64 rd, .int .i64 (pg : Int), .agg (g.map B8).toArray] X fun e Y => ChEnd c tn (R5.nx c.D L (qOf r.meas (rec2 pg g))).2 R I X l a b rd { r with meas := (R5.nx c.D L (qOf r.meas (rec2 pg g))).1, log := r.log ++ [rec2 pg g] } last (fun _ => False) e Y := by
  obtain ⟨P, hPe⟩ : ∃ P : Int, P = (pg : Int) := ⟨_, rfl⟩
  have hP0 : ¬ P < 0 := by omega
  have hP : ¬ 128 ≤ P := by omega
  rw [← hPe]
  obtain ⟨X3, hX3⟩ : ∃ X3, X3 = ((X.alloc (.cells #[.pointer (some ⟨c.xb, 0, none⟩)] 26 (0, 0))).alloc (.cells #[.int .i64 P] 3 (0, 0))).alloc (.cells (g.map B8).toArray 38 (0, 0)) := ⟨_, rfl⟩
  have hB := bx_mk X c.xb P (g.map B8) X3 hX3
  have hJ3 := h.grow hB.bel
  have HN : Hid (Calls Tryz.prog 54 #[.pointer (some ⟨c.xb, 0, none⟩)] X3 fun e Y => e = .returned (.bool false) ∧ Below X3.heap.size X3 Y) := hJ3.nonO
  have hc0 : X3.cell? ⟨X.heap.size, 0, none⟩ = some (.pointer (some ⟨c.xb, 0, none⟩)) := by rw [cell_of_row _ _ 0 _ _ _ hB.s]; rfl
  have HBX : Hid (Bx X X3 c.xb P (g.map B8)) := hB
  have hlvX := h.lvX hl
  have HC : Hid (∀ W, Below X3.heap.size X3 W → Calls Tryz.prog 63 #[.pointer (some ⟨c.xb, 0, none⟩), .int .i64 rd, .func (.func 65) #[] #[.pointer (some ⟨X.heap.size + 1, 0, none⟩), .pointer (some ⟨X.heap.size + 1 + 1, 0, none⟩), .pointer (some ⟨X.heap.size, 0, none⟩)]] W fun e Y => ChEnd c tn (R5.nx c.D L (qOf r.meas (rec2 pg g))).2 R I X l a b rd { r with meas := (R5.nx c.D L (qOf r.meas (rec2 pg g))).1, log := r.log ++ [rec2 pg g] } last (fun _ => False) e Y) := fun W hb => by
    have hbW : Below X.heap.size X W := hB.bel.trans (hb.mono hB.bel.size)
    have hsz := hB.size
    have hsW := hb.size
    have hJW := h.grow hbW
    refine (cData_ok hJW hrd hl _ _ _ (fun k hk => hk.elim) (fun W' bb hA => data_cl _ _ _ pg g hA (mem_of hl) (hJW.lvX hl) hst hpg hg hL hlog ((hb.block _ (PC.row_lt hB.s)).trans hB.s) (by rw [← hPe]; exact (hb.block _ (PC.row_lt hB.p)).trans hB.p) ((hb.block _ (PC.row_lt hB.q)).trans hB.q) ⟨.inr ⟨Nat.le_refl _, by omega⟩, .inr ⟨by omega, by omega⟩, .inr ⟨by omega, by omega⟩⟩ ⟨fun e => by have := hlvX _ e; omega, fun e => by have := hlvX _ e; omega, fun e => by have := hlvX _ e; omega⟩)).mono (fun e Y hE => hE.ahead h hbW (fun k hk => hk.elim))
  clear h hJ3 hB hl hPe hlvX hst hlog hpg
  rw [hX3] at HN hc0
  generalize hGL : g.map B8 = GL at *
  clear hGL
  go_enter Tryz.func25, Tryz.ntmps25
  go_wp2_with fail
  refine Calls.mono HN.out ?_
  rintro e w1 ⟨rfl, hb1⟩
  rw [← hX3] at hb1
  have hc1 : w1.cell? ⟨X.heap.size + 1, 0, none⟩ = some (.int .i64 P) := by rw [cell_of_row _ _ 0 _ _ _ ((hb1.block _ (PC.row_lt HBX.out.p)).trans HBX.out.p)]; rfl
  have hc2 : w1.cell? ⟨X.heap.size, 0, none⟩ = some (.pointer (some ⟨c.xb, 0, none⟩)) := by rw [cell_of_row _ _ 0 _ _ _ ((hb1.block _ (PC.row_lt HBX.out.s)).trans HBX.out.s)]; rfl
  have HB1 : Hid (Below X3.heap.size X3 w1) := hb1
  clear hb1 HN hc0
  clear hX3
  go_wp2_with fail
  refine Calls.mono (HC.out _ HB1.out) ?_
  rintro e w2 ⟨lv', rfl, hp⟩
  have HP : Hid (PD c tn (R5.nx c.D L (qOf r.meas (rec2 pg g))).2 R I X w2 l (a ++ (rd, { r with meas := (R5.nx c.D L (qOf r.meas (rec2 pg g))).1, log := r.log ++ [rec2 pg g] }, lv') :: b) last (fun _ => False)) := hp
  clear hp HC
  go_wp2
  go_ret
  exact ⟨lv', rfl, HP.out⟩
end
end Go.Proofs.YtekbppfocnbhbaaGreat.XC
