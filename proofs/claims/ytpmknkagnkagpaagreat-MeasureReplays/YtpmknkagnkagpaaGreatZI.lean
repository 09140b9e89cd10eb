/- measure: the closures by which pages and vCPUs are measured. -/
import Derived.Test.YtpmknkagnkagpaaGreatZH
set_option linter.unusedVariables false
set_option linter.unusedSimpArgs false
namespace Go.Proofs.YtpmknkagnkagpaaGreat.ZC
open Go.RowKit

section
variable (B og mb b1 b2 mp : Nat) (S : Nat → Prop) (dv ov : Value) (o o' : R5.Pra) (m A : List UInt8) (r : Rd) (w : World)
set_option maxHeartbeats 1000000 in
set_option maxRecDepth 100000 in
theorem c3_any (hB : B ≤ w.heap.size) (hll : o.log.length < 1000000) (ho : R5.PO B og mb S w o dv ov) (hz0 : MZ og b1 b2 mp w) (hn2 : ¬ S b2) (hm : m.length = 32) (hr : r.ok) (pg : Nat) (hpg : r.page = (pg : Int)) (hpl : pg < 128) (hA : A.length = 32) (hR : nxP o ⟨1, Z0, 2, m ++ (W1.le 8 pg ++ r.data)⟩ = (A, o')) :
    Calls Tryz.prog 49 #[.agg (m.map B8).toArray, .agg (rdL r).toArray, .pointer (some ⟨b2, 0, none⟩)] w fun e w' => PR B og mb S w o' dv (.agg (A.map B8).toArray) e w' := by
  have HDC2 : Hid (∀ (W : World) (pv : Value), Below w.heap.size w W → R5.HP W pv ([m, W1.le 8 pg, r.data]) → Calls Tryz.prog 46 #[.int .i64 2, pv, .pointer (some ⟨b1, 0, none⟩)] W fun e w' => PR B og mb S W o' dv (.agg (A.map B8).toArray) e w') := fun W pv hbW hpv => by
    have h := dcl_any B og mb b1 S pv dv ov o 2 ([m, W1.le 8 pg, r.data]) W (Nat.le_trans hB hbW.size) hll (ho.below hbW) hpv (by simp) (by simp [hm, W1.le_length, hr.d]) (by decide) ((hbW.block _ (PC.row_lt hz0.c1)).trans hz0.c1)
    have e : ([m, W1.le 8 pg, r.data]).flatten = (m ++ (W1.le 8 pg ++ r.data)) := by simp
    rw [e, hR] at h
    exact h
  have HAS : Hid ((A.map B8).toArray.size = 32) := by show _ = _; simpa using hA
  have HA1 : Hid _ := R5.B8_onea A
  clear hR hA
  generalize (A.map B8).toArray = AA at *
  have hz := fun W => R5.zero_dig W
  obtain ⟨ZL, hZL⟩ : ∃ L, L = (List.replicate 32 (0 : UInt8)).map B8 := ⟨_, rfl⟩
  rw [← hZL] at hz
  have HZS : Hid (ZL.toArray.size = 32) := by show _ = _; rw [hZL]; simp
  have HZ1 : Hid (ZL.toArray.all (·.oneCell') = true) := by show _ = _; rw [hZL]; exact R5.B8_onea _
  clear hZL
  obtain ⟨V1, hW1⟩ : ∃ V1, V1 = ((w.alloc (.cells (m.map B8).toArray 24 (0, 0))).alloc (.cells (rdL r).toArray 33 (0, 0))).alloc (.cells ZL.toArray 24 (0, 0)) := ⟨_, rfl⟩
  obtain ⟨hb1, hs1, hr0, hr1, hr2⟩ := alloc3 w _ _ _ _ _ _ V1 hW1
  have hbl := PC.row_lt hz0.c2
  have HSC : Hid (SC w b2 (clo 46 b1) (m.map B8) (rdL r) V1) := ⟨hr0, hr1, ⟨_, HZS.out, hr2⟩, (hb1.block _ hbl).trans hz0.c2⟩
  have HMZ : Hid (MZ og b1 b2 mp w) := hz0
  have HO : Hid (R5.PO B og mb S w o dv ov) := ho
  have HB1 : Hid (Below w.heap.size w V1) := hb1
  have HS1 : Hid (V1.heap.size = w.heap.size + 3) := hs1
  have HVAL : Hid (((rdL r).drop 1).take 32 = r.value.map B8) := by show _ = _; rw [List.drop_one]; exact rdL_val hr
  have HDAT : Hid (((rdL r).drop 34).take 128 = r.data.map B8) := rdL_dat hr
  have HREC : Hid (((rdL r).drop 162).take 10 = PC.rcL r.pc r.rs r.run) := rdL_rec hr
  have HC33 : Hid ((rdL r)[33]? = some (.int .i64 r.page)) := rdL_33 hr
  have HROK : Hid r.ok := hr
  have HML : Hid (m.length = 32) := hm
  rw [hpg] at HC33
  have hc33 : V1.cell? ⟨w.heap.size + 1, 33, none⟩ = some (.int .i64 (pg : Int)) := by have := PC.rangeAt_row HSC.out.r 33 _ HC33.out; rwa [Nat.zero_add] at this
  have HPUT : Hid (Calls Tryz.prog 50 #[.int .u64 (pg : Int), .int .i64 (8 : Int)] V1 fun e w' => e = .returned (.tuple #[.slice (some ⟨V1.heap.size, 0, none⟩) 8 8, .int .i64 0]) ∧ FB V1.heap.size w' (.slice (some ⟨V1.heap.size, 0, none⟩) 8 8) (W1.le 8 pg) ∧ Below V1.heap.size V1 w') := put_ok pg 8 V1 (by decide) (by decide) (by omega) (by omega)
  have hwp : (pg : Int) % 18446744073709551616 = (pg : Int) := by omega
  have hwp2 : IntKind.u64.wrap (pg : Int) = (pg : Int) := by rw [W1.wrap_u64]; exact hwp
  have HV1 : Hid (V1 = ((w.alloc (.cells (m.map B8).toArray 24 (0, 0))).alloc (.cells (rdL r).toArray 33 (0, 0))).alloc (.cells ZL.toArray 24 (0, 0))) := hW1
  rw [hW1] at HPUT hc33
  clear hW1 hb1 hs1 hr0 hr1 hr2 ho hz0 hm hr hbl hpg
  generalize rdL r = RL at *
  generalize hMLL : m.map B8 = MLL at *
  have HMLL : Hid _ := hMLL
  clear hMLL
  have hsl := fun W => R5.sliceDig W w.heap.size 0
  have hsg := fun W => sliceGr W (w.heap.size + 1) 34
  go_enter Tryz.func49, Tryz.ntmps49
  go_wp2_with fail
  refine Calls.mono HPUT.out ?_
  rintro e w2 ⟨rfl, hf2, hb2⟩
  rw [← HV1.out] at hf2 hb2 ⊢
  have HF2 : Hid (FB V1.heap.size w2 (.slice (some ⟨V1.heap.size, 0, none⟩) 8 8) (W1.le 8 pg)) := hf2
  have HSD : Hid (SC w b2 (clo 46 b1) MLL RL w2.drew) := ⟨(HSC.out.below hb2).m, (HSC.out.below hb2).r, (HSC.out.below hb2).z, (HSC.out.below hb2).c⟩
  have HBX : Hid (Below w.heap.size w w2.drew) := (HB1.out.trans (hb2.mono HB1.out.size)).drew
  have HSX : Hid (w.heap.size + 3 ≤ w2.drew.heap.size) := by have := hb2.size; have := HS1.out; show _ ≤ w2.heap.size; omega
  clear hf2 hb2 HPUT hc33 hwp hwp2 HV1 HSC HB1 HS1
  generalize V1.heap.size = vs at *
  go_wp2
  have HHB2 : Hid (HB w2.drew (.slice (some ⟨vs, 0, none⟩) 8 8) (W1.le 8 pg)) := (HF2.out.hb).below (Below.refl _ _).drew
  refine wp_region_held_drew (S := SC w b2 (clo 46 b1) MLL RL) (by kernel_rfl) HSD.out (fun hHeld => ?_)
  generalize w2.drew = X at *
  refine wpAnyH_take (i := 0) (oi := ⟨some 15, .load 100 (.tmp 2), 100, _, #[], none⟩) (v := .func (.func 46) #[] #[.pointer (some ⟨b1, 0, none⟩)]) rfl (by kernel_rfl) (by kernel_rfl) (by kernel_rfl) (fun _ _ _ h => h) (Or.inl ⟨by rfl, fun w' hw' => ?_⟩) hHeld ?_
  · have hcc := hw'.cell; unfold clo at hcc; first | (go_simp; done) | (go_simp; rfl)
  try simp only [Act.put, qT, q0, qS]
  refine wpAnyH_take (i := 1) (oi := ⟨some 16, .slice 24 (.tmp 3) none none none, 78, _, #[], none⟩) (v := .slice (some ⟨w.heap.size, 0, none⟩) 32 32) rfl (by kernel_rfl) (by kernel_rfl) (by kernel_rfl) (fun _ _ _ h => h) (Or.inl ⟨by rfl, fun w' hw' => ?_⟩) hHeld ?_
  · first | (go_simp; done) | (go_simp; rfl)
  try simp only [Act.put, qT, q0, qS]
  refine wpAnyH_take (i := 2) (oi := ⟨some 17, .move (.tmp 6), 78, _, #[], none⟩) (v := .slice (some ⟨vs, 0, none⟩) 8 8) rfl (by kernel_rfl) (by kernel_rfl) (by kernel_rfl) (fun _ _ _ h => h) (Or.inl ⟨by rfl, fun w' hw' => ?_⟩) hHeld ?_
  · first | (go_simp; done) | (go_simp; rfl)
  try simp only [Act.put, qT, q0, qS]
  refine wpAnyH_take (i := 3) (oi := ⟨some 18, .fieldAddr 33 (.tmp 4) 3, 0, _, #[], none⟩) (v := .pointer (some ⟨w.heap.size + 1, 34, none⟩)) rfl (by kernel_rfl) (by kernel_rfl) (by kernel_rfl) (fun _ _ _ h => h) (Or.inl ⟨by rfl, fun w' hw' => ?_⟩) hHeld ?_
  · first | (go_simp; done) | (go_simp; rfl)
  try simp only [Act.put, qT, q0, qS]
  refine wpAnyH_take (i := 4) (oi := ⟨some 19, .slice 27 (.tmp 18) none none none, 78, _, #[⟨3, .data⟩], none⟩) (v := .slice (some ⟨w.heap.size + 1, 34, none⟩) 128 128) rfl (by kernel_rfl) (by kernel_rfl) (by kernel_rfl) (fun _ _ _ h => h) (Or.inl ⟨by rfl, fun w' hw' => ?_⟩) hHeld ?_
  · first | (go_simp; done) | (go_simp; rfl)
  try simp only [Act.put, qT, q0, qS]
  refine wpAnyH_ready (rs := [5]) (by kernel_rfl) (by simp) ?_
  refine AllReadyH.cons (o := ⟨some 20, .buildSlice 97 3 #[(0, .tmp 16), (1, .tmp 17), (2, .tmp 19)], 97, _, #[⟨1, .data⟩, ⟨2, .data⟩, ⟨4, .data⟩], none⟩) rfl (fun K hK => ?_) AllReadyH.nil
  rw [if_pos (by rfl)]
  have hHBm : HB X (.slice (some ⟨w.heap.size, 0, none⟩) 32 32) m := PC.hb_range 32 HML.out.symm (by rw [HML.out]; decide) (by decide) (by have h3 := PC.rangeAt_row hHeld.m; rw [← HMLL.out] at h3; exact h3)
  have hHBd : HB X (.slice (some ⟨w.heap.size + 1, 34, none⟩) 128 128) r.data := PC.hb_range 128 HROK.out.d.symm (by rw [HROK.out.d]; decide) (by decide) (by have h3 := PC.rangeAt_part (PC.rangeAt_row hHeld.r) 34 128; rw [HDAT.out] at h3; exact h3)
  have hsX := HSX.out
  obtain ⟨CA, hCA⟩ : ∃ C : Array Value, C = #[.slice (some ⟨w.heap.size, 0, none⟩) 32 32, .slice (some ⟨vs, 0, none⟩) 8 8, .slice (some ⟨w.heap.size + 1, 34, none⟩) 128 128] := ⟨_, rfl⟩
  have HHP : Hid (R5.HP (X.alloc (.cells CA 78 (0, 0))) (.slice (some ⟨X.heap.size, 0, none⟩) 3 3) [m, W1.le 8 pg, r.data]) := by rw [hCA]; exact hp3 X _ _ _ _ _ _ hHBm HHB2.out hHBd
  have HBY : Hid (Below w.heap.size w (X.alloc (.cells CA 78 (0, 0)))) := HBX.out.alloc (by omega) _
  have HSY : Hid (w.heap.size + 3 ≤ (X.alloc (.cells CA 78 (0, 0))).heap.size) := by show _ ≤ _; simp; omega
  have hSY := hHeld.below ((Below.refl _ X).alloc (Nat.le_refl _) (.cells CA 78 (0, 0)))
  refine wp_bslice 97 3 _ rfl #[(0, .slice (some ⟨w.heap.size, 0, none⟩) 32 32), (1, .slice (some ⟨vs, 0, none⟩) 8 8), (2, .slice (some ⟨w.heap.size + 1, 34, none⟩) 128 128)] _ (by simp; first | done | exact ⟨rfl, rfl, rfl⟩) (bs3 X _ _ _ _ _ _ _ _ _ _ _ _ rfl rfl rfl) ?_
  rw [← hCA]
  clear hHeld hHBm hHBd hCA
  refine hK.out _ _ hSY (fun _ => ?_)
  clear hK K
  try simp only [Act.put, qT, q0, qS]
  have HCL : Hid (Calls Tryz.prog 46 #[.int .i64 2, .slice (some ⟨X.heap.size, 0, none⟩) 3 3, .pointer (some ⟨b1, 0, none⟩)] (X.alloc (.cells CA 78 (0, 0))) fun e w' => PR B og mb S (X.alloc (.cells CA 78 (0, 0))) o' dv (.agg AA) e w') := HDC2.out _ _ HBY.out HHP.out
  generalize X.alloc (.cells CA 78 (0, 0)) = Y at *
  generalize X.heap.size = xs at *
  have hHeld := hSY
  clear hsX
  refine wpAnyH_ready (rs := [6]) (by kernel_rfl) (by simp) ?_
  refine AllReadyH.cons (o := { dst := some 21, op := .call { callee := Go.Callee.value (.tmp 15), args := #[.const (Go.Value.int Go.IntKind.i64 2), .tmp 20], argTypes := #[75, 97] }, type := 24, pos := _, after := #[⟨0, .data⟩, ⟨5, .data⟩], guard := none }) rfl (fun K hK => ?_) AllReadyH.nil
  rw [if_pos (by rfl)]
  go_wp2_with fail
  refine Calls.mono HCL.out ?_
  rintro e w5 ⟨rfl, hfr, hpo⟩
  have hY := HBY.out.size
  have hsY := HSY.out
  have hW5 := hfr.size
  have hkeep : ∀ k, k = w.heap.size ∨ k = w.heap.size + 1 ∨ k = w.heap.size + 1 + 1 ∨ k = b2 → k < Y.heap.size → w5.heap[k]? = Y.heap[k]? := fun k hk hl => hfr.block k hl (fun hS => by
    rcases hk with rfl | rfl | rfl | rfl
    · have := HO.out.top _ hS; omega
    · have := HO.out.top _ hS; omega
    · have := HO.out.top _ hS; omega
    · exact hn2 hS)
  have hS5 := hSY.keep hkeep
  obtain ⟨Z5, hz51, hz52⟩ := hS5.z
  have hr6 : (w5.setRow (w.heap.size + 1 + 1) AA).heap[w.heap.size + 1 + 1]? = some (.cells AA 24 (0, 0)) := setRow_heap _ _ _ _ _ _ hz52
  have hS6 : SC w b2 (clo 46 b1) MLL RL (w5.setRow (w.heap.size + 1 + 1) AA) := ⟨(setRow_other _ _ _ _ (by omega)).trans hS5.m, (setRow_other _ _ _ _ (by omega)).trans hS5.r, ⟨AA, HAS.out, hr6⟩, (setRow_other _ _ _ _ (by have := PC.row_lt HMZ.out.c2; omega)).trans hS5.c⟩
  have HEND : Hid (PR B og mb S w o' dv (.agg AA) (.returned (.agg AA)) (w5.setRow (w.heap.size + 1 + 1) AA)) := ⟨rfl, pfin HO.out hB HBY.out hfr hpo ((R5.Fr.refl _ _).setRow _ _ (.inl ⟨by omega, by omega⟩))⟩
  clear hfr hpo hkeep hsY
  clear hHeld
  refine hK.out _ _ hS5 (fun _ => ?_)
  clear hK K
  try simp only [Act.put, qT, q0, qS]
  have hHeld := hS5
  refine wpAnyH_ready (rs := [7]) (by kernel_rfl) (by simp) ?_
  refine AllReadyH.cons (o := ⟨none, .store 24 (.tmp 5) (.tmp 21), 0, _, #[⟨6, .data⟩, ⟨6, .chain⟩, ⟨0, .phase⟩, ⟨1, .phase⟩, ⟨2, .phase⟩, ⟨3, .phase⟩, ⟨4, .phase⟩, ⟨5, .phase⟩, ⟨6, .phase⟩], none⟩) rfl (fun K hK => ?_) AllReadyH.nil
  rw [if_pos (by rfl)]
  refine wp_store_row 24 _ _ rfl (w.heap.size + 1 + 1) AA rfl rfl 24 Z5 hz52 (R5.info32a _ HAS.out) (hz51.trans HAS.out.symm) HA1.out ?_
  refine hK.out _ _ hS6 (fun _ => ?_)
  clear hK K
  try simp only [Act.put, qT, q0, qS]
  refine wpAnyH_done (by kernel_rfl) ?_ _
  have HR6 : Hid _ := hr6
  clear hHeld hS5 hS6 hz51 hz52 hr6
  go_wp2
  refine bodyPost_ret (v := .agg AA) ?_ rfl HEND.out
  exact results_cell_row Tryz.results49 _ _ (w.heap.size + 1 + 1) 24 _ (0, 0) _ rfl HR6.out Tryz.underlying24 rfl (R5.info32a _ HAS.out)
end
end Go.Proofs.YtpmknkagnkagpaaGreat.ZC
