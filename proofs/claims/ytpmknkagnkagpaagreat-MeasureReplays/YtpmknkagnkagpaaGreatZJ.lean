/- measure: the closure by which vCPUs are measured. -/
import Derived.Test.YtpmknkagnkagpaaGreatZI
set_option linter.unusedVariables false
set_option linter.unusedSimpArgs false
namespace Go.Proofs.YtpmknkagnkagpaaGreat.ZC
open Go.RowKit

section
variable (B og mb b1 b2 mp : Nat) (S : Nat → Prop) (dv ov : Value) (o o' : R5.Pra) (m A : List UInt8) (r : Rd) (w : World)
set_option maxHeartbeats 1000000 in
set_option maxRecDepth 100000 in
theorem c4_any (hB : B ≤ w.heap.size) (hll : o.log.length < 1000000) (ho : R5.PO B og mb S w o dv ov) (hz0 : MZ og b1 b2 mp w) (hn2 : ¬ S b2) (hm : m.length = 32) (hr : r.ok) (hmc : PC.mayC r.pc = true) (hA : A.length = 32) (hR : nxP o ⟨1, Z0, 3, m ++ PC.cbL r.pc r.rs r.run⟩ = (A, o')) :
    Calls Tryz.prog 51 #[.agg (m.map B8).toArray, .agg (rdL r).toArray, .pointer (some ⟨b2, 0, none⟩)] w fun e w' => PR B og mb S w o' dv (.agg (A.map B8).toArray) e w' := by
  have hcl := PC.cbL_len r.pc r.rs r.run hr.s
  have HDC2 : Hid (∀ (W : World) (pv : Value), Below w.heap.size w W → R5.HP W pv ([m, PC.cbL r.pc r.rs r.run]) → Calls Tryz.prog 46 #[.int .i64 3, pv, .pointer (some ⟨b1, 0, none⟩)] W fun e w' => PR B og mb S W o' dv (.agg (A.map B8).toArray) e w') := fun W pv hbW hpv => by
    have h := dcl_any B og mb b1 S pv dv ov o 3 ([m, PC.cbL r.pc r.rs r.run]) W (Nat.le_trans hB hbW.size) hll (ho.below hbW) hpv (by simp) (by simp [hm, hcl]) (by decide) ((hbW.block _ (PC.row_lt hz0.c1)).trans hz0.c1)
    have e : ([m, PC.cbL r.pc r.rs r.run]).flatten = (m ++ PC.cbL r.pc r.rs r.run) := by simp
    rw [e, hR] at h
    exact h
  have HAS : Hid ((A.map B8).toArray.size = 32) := by show _ = _; simpa using hA
  have HA1 : Hid _ := R5.B8_onea A
  clear hR hA
  generalize (A.map B8).toArray = AA at *
  have hz := fun W => R5.zero_dig W
  obtain ⟨ZL, hZL⟩ : ∃ L, L = (List.replicate 32 (0 : UInt8)).map B8 := ⟨_, rfl⟩
  rw [← hZL] at hz
  have HZS : Hid (ZL.toArray.size = 32) := by show _ = _; rw [hZL]; simp
  have HZ1 : Hid (ZL.toArray.all (·.oneCell') = true) := by show _ = _; rw [hZL]; exact R5.B8_onea _
  clear hZL
  obtain ⟨V1, hW1⟩ : ∃ V1, V1 = ((w.alloc (.cells (m.map B8).toArray 24 (0, 0))).alloc (.cells (rdL r).toArray 33 (0, 0))).alloc (.cells ZL.toArray 24 (0, 0)) := ⟨_, rfl⟩
  obtain ⟨hb1, hs1, hr0, hr1, hr2⟩ := alloc3 w _ _ _ _ _ _ V1 hW1
  have hbl := PC.row_lt hz0.c2
  have HSC : Hid (SC w b2 (clo 46 b1) (m.map B8) (rdL r) V1) := ⟨hr0, hr1, ⟨_, HZS.out, hr2⟩, (hb1.block _ hbl).trans hz0.c2⟩
  have HMZ : Hid (MZ og b1 b2 mp w) := hz0
  have HO : Hid (R5.PO B og mb S w o dv ov) := ho
  have HB1 : Hid (Below w.heap.size w V1) := hb1
  have HS1 : Hid (V1.heap.size = w.heap.size + 3) := hs1
  have HVAL : Hid (((rdL r).drop 1).take 32 = r.value.map B8) := by show _ = _; rw [List.drop_one]; exact rdL_val hr
  have HDAT : Hid (((rdL r).drop 34).take 128 = r.data.map B8) := rdL_dat hr
  have HREC : Hid (((rdL r).drop 162).take 10 = PC.rcL r.pc r.rs r.run) := rdL_rec hr
  have HC33 : Hid ((rdL r)[33]? = some (.int .i64 r.page)) := rdL_33 hr
  have HROK : Hid r.ok := hr
  have HML : Hid (m.length = 32) := hm
  have HRB : Hid (∀ W, Calls Tryz.prog 52 #[.agg (PC.rcL r.pc r.rs r.run).toArray] W fun e w' => e = .returned (.tuple #[.agg ((PC.cbL r.pc r.rs r.run).map B8).toArray, .int .i64 0]) ∧ Below W.heap.size W w') := fun W => PC.cb_ok r.pc r.rs r.run W hr.s hr.p hr.x hmc
  have HR10 : Hid _ := PC.info10 (PC.rcL r.pc r.rs r.run) (PC.rcL_len _ _ _ hr.s)
  have HRR : Hid (V1.rangeAt (w.heap.size + 1) 162 (PC.rcL r.pc r.rs r.run)) := by have h3 := PC.rangeAt_part (PC.rangeAt_row HSC.out.r) 162 10; rw [HREC.out] at h3; exact h3
  have HCBL : Hid ((PC.cbL r.pc r.rs r.run).length = 128) := hcl
  have hzg := fun W => PC.zero_gr W
  obtain ⟨ZG, hZG⟩ : ∃ L, L = PC.Z128.map B8 := ⟨_, rfl⟩
  rw [← hZG] at hzg
  have HGZ : Hid (ZG.toArray.size = 128) := by show _ = _; rw [hZG]; simp [PC.z128_len]
  obtain ⟨GL, hGL⟩ : ∃ L, L = (PC.cbL r.pc r.rs r.run).map B8 := ⟨_, rfl⟩
  rw [← hGL] at HRB
  have HGS : Hid (GL.toArray.size = 128) := by show _ = _; rw [hGL]; simpa using hcl
  have HG1 : Hid (GL.toArray.all (·.oneCell') = true) := by show _ = _; rw [hGL]; exact PC.B8_onea _
  have HGA : Hid ((Tryz.prog.info? 27).map (·.size) = some GL.toArray.size) := PC.info128a _ HGS.out
  have HGE : Hid (ZG.toArray.size = GL.toArray.size) := HGZ.out.trans HGS.out.symm
  have HGL : Hid (GL = (PC.cbL r.pc r.rs r.run).map B8) := hGL
  have HV1 : Hid (V1 = ((w.alloc (.cells (m.map B8).toArray 24 (0, 0))).alloc (.cells (rdL r).toArray 33 (0, 0))).alloc (.cells ZL.toArray 24 (0, 0))) := hW1
  rw [hW1] at HRR
  clear hW1 hb1 hs1 hr0 hr1 hr2 ho hz0 hm hr hbl hmc hcl hZG hGL
  generalize rdL r = RL at *
  generalize PC.rcL r.pc r.rs r.run = CL at *
  generalize PC.cbL r.pc r.rs r.run = CB at *
  generalize hMLL : m.map B8 = MLL at *
  have HMLL : Hid _ := hMLL
  clear hMLL
  have hsl := fun W => R5.sliceDig W w.heap.size 0
  go_enter Tryz.func51, Tryz.ntmps51
  go_wp2_with (refine wpList_load_mid rfl 31 _ rfl (w.heap.size + 1) 162 rfl CL _ HRR.out Tryz.underlying31 rfl HR10.out ?_)
  refine Calls.mono (HRB.out _) ?_
  rintro e w2 ⟨rfl, hb2⟩
  rw [← HV1.out] at hb2
  have HZA : Hid ((w2.alloc (.cells ZG.toArray 27 (0, 0))).heap[w2.heap.size]? = some (.cells ZG.toArray 27 (0, 0))) := heap_alloc_new _ _
  have hb3 : Below w2.heap.size w2 ((w2.alloc (.cells ZG.toArray 27 (0, 0))).setRow w2.heap.size GL.toArray) := below_setRow ((Below.refl _ _).alloc (Nat.le_refl _) _) (Nat.le_refl _) _
  have hrg : ((w2.alloc (.cells ZG.toArray 27 (0, 0))).setRow w2.heap.size GL.toArray).heap[w2.heap.size]? = some (.cells GL.toArray 27 (0, 0)) := setRow_heap _ _ _ _ _ _ HZA.out
  have hb4 : Below V1.heap.size V1 ((w2.alloc (.cells ZG.toArray 27 (0, 0))).setRow w2.heap.size GL.toArray) := hb2.trans (hb3.mono hb2.size)
  have hsc := HSC.out.below hb4
  have hbw := HB1.out.trans (hb4.mono HB1.out.size)
  have hsz : w.heap.size + 3 ≤ ((w2.alloc (.cells ZG.toArray 27 (0, 0))).setRow w2.heap.size GL.toArray).heap.size := by have := hb4.size; have := HS1.out; omega
  have HSD : Hid (SC w b2 (clo 46 b1) MLL RL ((w2.alloc (.cells ZG.toArray 27 (0, 0))).setRow w2.heap.size GL.toArray).drew) := ⟨hsc.m, hsc.r, hsc.z, hsc.c⟩
  have HBX : Hid (Below w.heap.size w ((w2.alloc (.cells ZG.toArray 27 (0, 0))).setRow w2.heap.size GL.toArray).drew) := hbw.drew
  have HSX : Hid (w.heap.size + 3 ≤ ((w2.alloc (.cells ZG.toArray 27 (0, 0))).setRow w2.heap.size GL.toArray).drew.heap.size) := hsz
  have HRG : Hid (((w2.alloc (.cells ZG.toArray 27 (0, 0))).setRow w2.heap.size GL.toArray).drew.heap[w2.heap.size]? = some (.cells GL.toArray 27 (0, 0))) := hrg
  have hsg := fun W => sliceGr W w2.heap.size 0
  clear hb2 hb3 hb4 hrg hsc hbw hsz HRB HRR HV1 HSC HB1 HS1
  go_wp2_with (refine wpList_store_row rfl 27 _ _ rfl w2.heap.size GL.toArray rfl rfl 27 ZG.toArray HZA.out HGA.out HGE.out HG1.out ?_)
  refine wp_region_held_drew (S := SC w b2 (clo 46 b1) MLL RL) (by kernel_rfl) HSD.out (fun hHeld => ?_)
  generalize ((w2.alloc (.cells ZG.toArray 27 (0, 0))).setRow w2.heap.size GL.toArray).drew = X at *
  generalize w2.heap.size = vs at *
  refine wpAnyH_take (i := 0) (oi := ⟨some 14, .load 100 (.tmp 2), 100, _, #[], none⟩) (v := .func (.func 46) #[] #[.pointer (some ⟨b1, 0, none⟩)]) rfl (by kernel_rfl) (by kernel_rfl) (by kernel_rfl) (fun _ _ _ h => h) (Or.inl ⟨by rfl, fun w' hw' => ?_⟩) hHeld ?_
  · have hcc := hw'.cell; unfold clo at hcc; first | (go_simp; done) | (go_simp; rfl)
  try simp only [Act.put, qT, q0, qS]
  refine wpAnyH_take (i := 1) (oi := ⟨some 15, .slice 24 (.tmp 3) none none none, 78, _, #[], none⟩) (v := .slice (some ⟨w.heap.size, 0, none⟩) 32 32) rfl (by kernel_rfl) (by kernel_rfl) (by kernel_rfl) (fun _ _ _ h => h) (Or.inl ⟨by rfl, fun w' hw' => ?_⟩) hHeld ?_
  · first | (go_simp; done) | (go_simp; rfl)
  try simp only [Act.put, qT, q0, qS]
  refine wpAnyH_take (i := 2) (oi := ⟨some 16, .slice 27 (.tmp 6) none none none, 78, _, #[], none⟩) (v := .slice (some ⟨vs, 0, none⟩) 128 128) rfl (by kernel_rfl) (by kernel_rfl) (by kernel_rfl) (fun _ _ _ h => h) (Or.inl ⟨by rfl, fun w' hw' => ?_⟩) hHeld ?_
  · first | (go_simp; done) | (go_simp; rfl)
  try simp only [Act.put, qT, q0, qS]
  refine wpAnyH_ready (rs := [3]) (by kernel_rfl) (by simp) ?_
  refine AllReadyH.cons (o := ⟨some 17, .buildSlice 97 2 #[(0, .tmp 15), (1, .tmp 16)], 97, _, #[⟨1, .data⟩, ⟨2, .data⟩], none⟩) rfl (fun K hK => ?_) AllReadyH.nil
  rw [if_pos (by rfl)]
  have hHBm : HB X (.slice (some ⟨w.heap.size, 0, none⟩) 32 32) m := PC.hb_range 32 HML.out.symm (by rw [HML.out]; decide) (by decide) (by have h3 := PC.rangeAt_row hHeld.m; rw [← HMLL.out] at h3; exact h3)
  have hHBd : HB X (.slice (some ⟨vs, 0, none⟩) 128 128) CB := PC.hb_range 128 HCBL.out.symm (by rw [HCBL.out]; decide) (by decide) (by have h3 := PC.rangeAt_row HRG.out; rw [HGL.out] at h3; exact h3)
  have hsX := HSX.out
  obtain ⟨CA, hCA⟩ : ∃ C : Array Value, C = #[.slice (some ⟨w.heap.size, 0, none⟩) 32 32, .slice (some ⟨vs, 0, none⟩) 128 128] := ⟨_, rfl⟩
  have HHP : Hid (R5.HP (X.alloc (.cells CA 78 (0, 0))) (.slice (some ⟨X.heap.size, 0, none⟩) 2 2) [m, CB]) := by rw [hCA]; exact hp2 X _ _ _ _ hHBm hHBd
  have HBY : Hid (Below w.heap.size w (X.alloc (.cells CA 78 (0, 0)))) := HBX.out.alloc (by omega) _
  have HSY : Hid (w.heap.size + 3 ≤ (X.alloc (.cells CA 78 (0, 0))).heap.size) := by show _ ≤ _; simp; omega
  have hSY := hHeld.below ((Below.refl _ X).alloc (Nat.le_refl _) (.cells CA 78 (0, 0)))
  refine wp_bslice 97 2 _ rfl #[(0, .slice (some ⟨w.heap.size, 0, none⟩) 32 32), (1, .slice (some ⟨vs, 0, none⟩) 128 128)] _ (by simp; first | done | exact ⟨rfl, rfl⟩) (bs2 X _ _ _ _ _ _ _ _ rfl rfl) ?_
  rw [← hCA]
  clear hHeld hHBm hHBd hCA
  refine hK.out _ _ hSY (fun _ => ?_)
  clear hK K
  try simp only [Act.put, qT, q0, qS]
  have HCL : Hid (Calls Tryz.prog 46 #[.int .i64 3, .slice (some ⟨X.heap.size, 0, none⟩) 2 2, .pointer (some ⟨b1, 0, none⟩)] (X.alloc (.cells CA 78 (0, 0))) fun e w' => PR B og mb S (X.alloc (.cells CA 78 (0, 0))) o' dv (.agg AA) e w') := HDC2.out _ _ HBY.out HHP.out
  generalize X.alloc (.cells CA 78 (0, 0)) = Y at *
  generalize X.heap.size = xs at *
  have hHeld := hSY
  clear hsX
  refine wpAnyH_ready (rs := [4]) (by kernel_rfl) (by simp) ?_
  refine AllReadyH.cons (o := { dst := some 18, op := .call { callee := Go.Callee.value (.tmp 14), args := #[.const (Go.Value.int Go.IntKind.i64 3), .tmp 17], argTypes := #[75, 97] }, type := 24, pos := _, after := #[⟨0, .data⟩, ⟨3, .data⟩], guard := none }) rfl (fun K hK => ?_) AllReadyH.nil
  rw [if_pos (by rfl)]
  go_wp2_with fail
  refine Calls.mono HCL.out ?_
  rintro e w5 ⟨rfl, hfr, hpo⟩
  have hY := HBY.out.size
  have hsY := HSY.out
  have hW5 := hfr.size
  have hkeep : ∀ k, k = w.heap.size ∨ k = w.heap.size + 1 ∨ k = w.heap.size + 1 + 1 ∨ k = b2 → k < Y.heap.size → w5.heap[k]? = Y.heap[k]? := fun k hk hl => hfr.block k hl (fun hS => by
    rcases hk with rfl | rfl | rfl | rfl
    · have := HO.out.top _ hS; omega
    · have := HO.out.top _ hS; omega
    · have := HO.out.top _ hS; omega
    · exact hn2 hS)
  have hS5 := hSY.keep hkeep
  obtain ⟨Z5, hz51, hz52⟩ := hS5.z
  have hr6 : (w5.setRow (w.heap.size + 1 + 1) AA).heap[w.heap.size + 1 + 1]? = some (.cells AA 24 (0, 0)) := setRow_heap _ _ _ _ _ _ hz52
  have hS6 : SC w b2 (clo 46 b1) MLL RL (w5.setRow (w.heap.size + 1 + 1) AA) := ⟨(setRow_other _ _ _ _ (by omega)).trans hS5.m, (setRow_other _ _ _ _ (by omega)).trans hS5.r, ⟨AA, HAS.out, hr6⟩, (setRow_other _ _ _ _ (by have := PC.row_lt HMZ.out.c2; omega)).trans hS5.c⟩
  have HEND : Hid (PR B og mb S w o' dv (.agg AA) (.returned (.agg AA)) (w5.setRow (w.heap.size + 1 + 1) AA)) := ⟨rfl, pfin HO.out hB HBY.out hfr hpo ((R5.Fr.refl _ _).setRow _ _ (.inl ⟨by omega, by omega⟩))⟩
  clear hfr hpo hkeep hsY
  clear hHeld
  refine hK.out _ _ hS5 (fun _ => ?_)
  clear hK K
  try simp only [Act.put, qT, q0, qS]
  have hHeld := hS5
  refine wpAnyH_ready (rs := [5]) (by kernel_rfl) (by simp) ?_
  refine AllReadyH.cons (o := ⟨none, .store 24 (.tmp 5) (.tmp 18), 0, _, #[⟨4, .data⟩, ⟨4, .chain⟩, ⟨0, .phase⟩, ⟨1, .phase⟩, ⟨2, .phase⟩, ⟨3, .phase⟩, ⟨4, .phase⟩], none⟩) rfl (fun K hK => ?_) AllReadyH.nil
  rw [if_pos (by rfl)]
  refine wp_store_row 24 _ _ rfl (w.heap.size + 1 + 1) AA rfl rfl 24 Z5 hz52 (R5.info32a _ HAS.out) (hz51.trans HAS.out.symm) HA1.out ?_
  refine hK.out _ _ hS6 (fun _ => ?_)
  clear hK K
  try simp only [Act.put, qT, q0, qS]
  refine wpAnyH_done (by kernel_rfl) ?_ _
  have HR6 : Hid _ := hr6
  clear hHeld hS5 hS6 hz51 hz52 hr6
  go_wp2
  refine bodyPost_ret (v := .agg AA) ?_ rfl HEND.out
  exact results_cell_row Tryz.results51 _ _ (w.heap.size + 1 + 1) 24 _ (0, 0) _ rfl HR6.out Tryz.underlying24 rfl (R5.info32a _ HAS.out)
end
def qOf (m : List UInt8) (r : Rd) : R5.Qn :=
  if r.kind = 1 then ⟨1, Z0, 1, r.value⟩ else if r.kind = 2 then ⟨1, Z0, 2, m ++ (W1.le 8 r.page.toNat ++ r.data)⟩ else ⟨1, Z0, 3, m ++ PC.cbL r.pc r.rs r.run⟩
def fOf (r : Rd) : Nat := if r.kind = 1 then 48 else if r.kind = 2 then 49 else 51
theorem mayD_kind {r : Rd} (h : mayD r = true) : r.kind = 1 ∨ r.kind = 2 ∨ r.kind = 3 := by
  unfold mayD at h
  by_cases h1 : r.kind = 1
  · exact .inl h1
  · rw [if_neg h1] at h
    by_cases h2 : r.kind = 2
    · exact .inr (.inl h2)
    · rw [if_neg h2] at h
      by_cases h3 : r.kind = 3
      · exact .inr (.inr h3)
      · rw [if_neg h3] at h; cases h
theorem mayD_page {r : Rd} (h : mayD r = true) (h2 : r.kind = 2) : 0 ≤ r.page ∧ r.page < 128 := by
  unfold mayD at h
  rw [if_neg (by rw [h2]; decide), if_pos h2] at h
  exact of_decide_eq_true ((Bool.and_eq_true _ _ ▸ h).2)
theorem mayD_pc {r : Rd} (h : mayD r = true) (h3 : r.kind = 3) : PC.mayC r.pc = true := by
  unfold mayD at h
  rw [if_neg (by rw [h3]; decide), if_neg (by rw [h3]; decide), if_pos h3] at h
  exact (Bool.and_eq_true _ _ ▸ h).2
theorem f_mem {r : Rd} (h : mayD r = true) (b2 : Nat) : (r.kind, clo (fOf r) b2) ∈ mzL b2 := by
  unfold mzL fOf
  rcases mayD_kind h with e | e | e <;> rw [e] <;> simp
theorem cl_any {B og mb b1 b2 mp : Nat} {S : Nat → Prop} {dv ov : Value} {o o' : R5.Pra} {m A : List UInt8} {r : Rd} {w : World} (hB : B ≤ w.heap.size) (hll : o.log.length < 1000000) (ho : R5.PO B og mb S w o dv ov) (hz0 : MZ og b1 b2 mp w) (hn2 : ¬ S b2) (hm : m.length = 32) (hr : r.ok) (hmay : mayD r = true) (hA : A.length = 32) (hR : nxP o (qOf m r) = (A, o')) :
    Calls Tryz.prog (fOf r) #[.agg (m.map B8).toArray, .agg (rdL r).toArray, .pointer (some ⟨b2, 0, none⟩)] w fun e w' => PR B og mb S w o' dv (.agg (A.map B8).toArray) e w' := by
  unfold qOf at hR
  unfold fOf
  rcases mayD_kind hmay with e | e | e
  · rw [if_pos e] at hR ⊢
    exact c2_any B og mb b1 b2 mp S dv ov o o' m A r w hB hll ho hz0 hn2 hm hr hA hR
  · rw [if_neg (by rw [e]; decide), if_pos e] at hR ⊢
    have hp := mayD_page hmay e
    exact c3_any B og mb b1 b2 mp S dv ov o o' m A r w hB hll ho hz0 hn2 hm hr r.page.toNat (by omega) (by omega) hA hR
  · rw [if_neg (by rw [e]; decide), if_neg (by rw [e]; decide)] at hR ⊢
    exact c4_any B og mb b1 b2 mp S dv ov o o' m A r w hB hll ho hz0 hn2 hm hr (mayD_pc hmay e) hA hR
end Go.Proofs.YtpmknkagnkagpaaGreat.ZC
