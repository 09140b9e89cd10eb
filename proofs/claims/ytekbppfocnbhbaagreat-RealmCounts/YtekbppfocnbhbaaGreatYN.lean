/- realm: the reference's Measured, of a vCPU. -/
import Derived.Test.YtekbppfocnbhbaaGreatYM
import Derived.Test.YtekbppfocnbhbaaGreatPQ
set_option linter.unusedVariables false
set_option linter.unusedSimpArgs false
namespace Go.Proofs.YtekbppfocnbhbaaGreat.XC
open Go.RowKit

section
variable {c : Cx} {rb tn : Nat} {I : Nat → Prop} {X : World} {L R : List (R5.Qn × List UInt8)}
set_option maxHeartbeats 2000000 in
set_option maxRecDepth 100000 in
theorem rms3 (h : R5.MM c.w c.n tn c.og c.mo c.rg c.m c.D L R I X X) (hc : X.cell? ⟨rb, 0, none⟩ = some (.pointer (some ⟨c.rg, 0, none⟩))) (hrb : I rb) (hll : R.length < 1000000) (ml : List UInt8) (hml : ml.length = 32) (rec : Rd) (hok : rec.ok) (hk : rec.kind = 3) (hpc : rec.pc < 18446744073709551616) (hrs : ∀ x ∈ rec.rs, x < 18446744073709551616)
    (hAl : (R5.nx c.D R ⟨1, List.replicate 32 0, 3, ml ++ PC.cbL rec.pc rec.rs rec.run⟩).1.length = 32) :
    Calls Tryz.prog 18 #[.pointer (some ⟨rb, 0, none⟩), .agg (ml.map B8).toArray, .agg (rdL rec).toArray] X fun e Y => e = .returned (.agg ((R5.nx c.D R ⟨1, List.replicate 32 0, 3, ml ++ PC.cbL rec.pc rec.rs rec.run⟩).1.map B8).toArray) ∧ R5.RQ c.w c.n c.og c.mo c.rg c.m c.D L (R5.nx c.D R ⟨1, List.replicate 32 0, 3, ml ++ PC.cbL rec.pc rec.rs rec.run⟩).2 I X Y := by
  have hzv := fun W => R5.zero_dig W
  obtain ⟨ZL, hZL⟩ : ∃ L, L = (List.replicate 32 (0 : UInt8)).map B8 := ⟨_, rfl⟩
  rw [← hZL] at hzv
  have HZS : Hid (ZL.toArray.size = 32) := by show _ = _; rw [hZL]; simp
  obtain ⟨X1, hX1⟩ : ∃ X1, X1 = ((X.alloc (.cells (ml.map B8).toArray 33 (0, 0))).alloc (.cells (rdL rec).toArray 69 (0, 0))).alloc (.cells ZL.toArray 33 (0, 0)) := ⟨_, rfl⟩
  obtain ⟨hb1, hs1, r0, r1, r2⟩ := alloc_three X _ _ _ _ _ _ X1 hX1
  have hcb : (PC.cbL rec.pc rec.rs rec.run).length = 128 := PC.cbL_len _ _ _ hok.s
  obtain ⟨LQ, hLQ⟩ : ∃ LQ, LQ = ml ++ PC.cbL rec.pc rec.rs rec.run := ⟨_, rfl⟩
  rw [← hLQ] at hAl ⊢
  obtain ⟨e1, e2, e3, e4⟩ := rms_end h hc hrb hll 3 LQ (by rw [hLQ]; simp [hml, hcb]) hAl hb1 hs1 r2
  have HDIG : Hid _ := e1
  have HC : Hid _ := e2
  have HXc : Hid (∀ W, Below X1.heap.size X1 W → W.cell? ⟨rb, 0, none⟩ = some (.pointer (some ⟨c.rg, 0, none⟩))) := e3
  have HNE : Hid (rb ≠ X.heap.size + 2) := e4
  have HLQ : Hid (LQ = ml ++ PC.cbL rec.pc rec.rs rec.run) := hLQ
  have HMR : Hid (X1.rangeAt X.heap.size 0 (ml.map B8)) := PC.rangeAt_row r0
  have HRP : Hid (X1.rangeAt (X.heap.size + 1) 162 (PC.rcL rec.pc rec.rs rec.run)) := by
    have := PC.rangeAt_part (PC.rangeAt_row r1) 162 10
    rwa [rdL_rec hok, Nat.zero_add] at this
  have HRI : Hid _ := PC.info10 (PC.rcL rec.pc rec.rs rec.run) (PC.rcL_len _ _ _ hok.s)
  have hkd : X1.cell? ⟨X.heap.size + 1, 0, none⟩ = some (.int .i64 3) := by
    have := PC.rangeAt_row r1 0 (.int .i64 rec.kind) rfl
    rw [hk] at this; exact this
  have HRB : Hid (∀ V, Calls Tryz.prog 53 #[.agg (PC.rcL rec.pc rec.rs rec.run).toArray] V fun e w' => e = .returned (.agg ((PC.cbL rec.pc rec.rs rec.run).map B8).toArray) ∧ Below V.heap.size V w') := fun V => PC.rcb_any _ _ _ V hok.s hpc hrs
  have hzg := fun W => PC.zero_gr W
  obtain ⟨ZG, hZG⟩ : ∃ ZG, ZG = (PC.Z128.map B8).toArray := ⟨_, rfl⟩
  rw [← hZG] at hzg
  have HZG : Hid (ZG.size = 128) := by show _ = _; rw [hZG]; simp [PC.Z128]
  obtain ⟨i0, hi, hz0, hz1, hz2⟩ := info_parts infoU8
  have HI0 : Hid _ := hi
  have HIZ : Hid _ := hz0
  have HI2 : Hid _ := hz1
  have HI3 : Hid _ := hz2
  have HS1 : Hid (X1.heap.size = X.heap.size + 3) := hs1
  have HAL : Hid ((R5.nx c.D R ⟨1, List.replicate 32 0, 3, LQ⟩).1.length = 32) := hAl
  have HML : Hid (ml.length = 32) := hml
  have HCB : Hid ((PC.cbL rec.pc rec.rs rec.run).length = 128) := hcb
  have HX1 : Hid (X1 = ((X.alloc (.cells (ml.map B8).toArray 33 (0, 0))).alloc (.cells (rdL rec).toArray 69 (0, 0))).alloc (.cells ZL.toArray 33 (0, 0))) := hX1
  rw [hX1] at hkd
  generalize R5.nx c.D R ⟨1, List.replicate 32 0, 3, LQ⟩ = NX at *
  generalize (rdL rec).toArray = RA at *
  obtain ⟨MA, hMA⟩ : ∃ MA, MA = (ml.map B8).toArray := ⟨_, rfl⟩
  rw [← hMA] at HX1 hkd ⊢
  generalize PC.cbL rec.pc rec.rs rec.run = CB at *
  generalize PC.rcL rec.pc rec.rs rec.run = RP at *
  clear h hb1 hs1 r0 r1 r2 hAl hX1 hZL hk hok e1 e2 e3 e4 hLQ hi hz0 hz1 hz2 hml hcb hMA hpc hrs hZG
  have HRP0 := HRP
  rw [HX1.out] at HRP0
  go_enter Tryz.func18, Tryz.ntmps18
  go_wp2_with (refine wpList_load_mid rfl 41 _ rfl (X.heap.size + 1) 162 rfl RP _ HRP0.out Tryz.underlying41 rfl HRI.out ?_)
  rw [← HX1.out]
  refine Calls.mono (HRB.out X1) ?_
  rintro e V1 ⟨rfl, hbV⟩
  clear HX1 hkd HRP0 HRB HRP HRI
  have HCS : Hid ((CB.map B8).toArray.size = 128) := by show _ = _; simpa using HCB.out
  have HC1 : Hid _ := R5.B8_onea CB
  have HNW : Hid ((V1.alloc (.cells ZG 38 (0, 0))).heap[V1.heap.size]? = some (.cells ZG 38 (0, 0))) := heap_alloc_new _ _
  obtain ⟨V2, hV2⟩ : ∃ V2, V2 = (V1.alloc (.cells ZG 38 (0, 0))).setRow V1.heap.size (CB.map B8).toArray := ⟨_, rfl⟩
  have HB2 : Hid (Below X1.heap.size X1 V2) := by
    rw [hV2]
    exact below_setRow (hbV.alloc hbV.size _) hbV.size _
  have HG2 : Hid (V2.rangeAt V1.heap.size 0 (CB.map B8)) := by rw [hV2]; exact PC.rangeAt_row (setRow_heap _ _ _ _ _ _ HNW.out)
  have HV2 : Hid (V2 = (V1.alloc (.cells ZG 38 (0, 0))).setRow V1.heap.size (CB.map B8).toArray) := hV2
  clear hV2 hbV
  generalize hCA : (CB.map B8).toArray = CA at *
  go_wp2_with (refine wpList_store_row rfl 38 _ _ rfl V1.heap.size CA rfl rfl 38 ZG HNW.out (PC.info128a _ HCS.out) (HZG.out.trans HCS.out.symm) HC1.out ?_)
  rw [← HV2.out]
  clear HV2 HNW HCS HC1 hCA
  have HBW : Hid (Below X1.heap.size X1 V2.drew) := HB2.out.drew
  refine wp_region_held_drew (S := fun w' => w'.cell? ⟨rb, 0, none⟩ = some (.pointer (some ⟨c.rg, 0, none⟩))) (by kernel_rfl) (HXc.out _ HBW.out) (fun hHeld => ?_)
  have HG3 : Hid (V2.drew.rangeAt V1.heap.size 0 (CB.map B8)) := HG2.out
  generalize V2.drew = U at *
  refine wpAnyH_take (i := 0) (oi := ⟨some 41, .move (.tmp 0), 27, _, #[], none⟩) (v := .pointer (some ⟨rb, 0, none⟩)) rfl (by kernel_rfl) (by kernel_rfl) (by kernel_rfl) (fun _ _ _ h => h) (Or.inl ⟨by rfl, fun w' hw' => ?_⟩) hHeld ?_
  · first | (go_simp; done) | (go_simp; rfl)
  try simp only [Act.put, qT, q0, qS]
  refine wpAnyH_take (i := 1) (oi := ⟨some 42, .nilCheck (.tmp 41), 0, _, #[⟨0, .data⟩], none⟩) (v := .pointer (some ⟨rb, 0, none⟩)) rfl (by kernel_rfl) (by kernel_rfl) (by kernel_rfl) (fun _ _ _ h => h) (Or.inl ⟨by rfl, fun w' hw' => ?_⟩) hHeld ?_
  · first | (go_simp; done) | (go_simp; rfl)
  try simp only [Act.put, qT, q0, qS]
  refine wpAnyH_take (i := 2) (oi := ⟨some 43, .fieldAddr 58 (.tmp 42) 0, 0, _, #[⟨1, .data⟩], none⟩) (v := .pointer (some ⟨rb, 0, none⟩)) rfl (by kernel_rfl) (by kernel_rfl) (by kernel_rfl) (fun _ _ _ h => h) (Or.inl ⟨by rfl, fun w' hw' => ?_⟩) hHeld ?_
  · first | (go_simp; done) | (go_simp; rfl)
  try simp only [Act.put, qT, q0, qS]
  refine wpAnyH_take (i := 3) (oi := ⟨some 44, .load 55 (.tmp 43), 55, _, #[⟨2, .data⟩], none⟩) (v := .pointer (some ⟨c.rg, 0, none⟩)) rfl (by kernel_rfl) (by kernel_rfl) (by kernel_rfl) (fun _ _ _ h => h) (Or.inl ⟨by rfl, fun w' hw' => ?_⟩) hHeld ?_
  · have hq := hw'; first | (go_simp; done) | (go_simp; rfl)
  try simp only [Act.put, qT, q0, qS]
  refine wpAnyH_take (i := 4) (oi := ⟨some 45, .slice 33 (.tmp 4) none none none, 106, _, #[], none⟩) (v := .slice (some ⟨X.heap.size, 0, none⟩) 32 32) rfl (by kernel_rfl) (by kernel_rfl) (by kernel_rfl) (fun _ _ _ h => h) (Or.inl ⟨by rfl, fun w' hw' => ?_⟩) hHeld ?_
  · first | (go_simp; done) | (go_simp; rfl)
  try simp only [Act.put, qT, q0, qS]
  refine wpAnyH_take (i := 6) (oi := ⟨some 47, .slice 38 (.tmp 8) none none none, 106, _, #[], none⟩) (v := .slice (some ⟨V1.heap.size, 0, none⟩) 128 128) rfl (by kernel_rfl) (by kernel_rfl) (by kernel_rfl) (fun _ _ _ h => h) (Or.inl ⟨by rfl, fun w' hw' => ?_⟩) hHeld ?_
  · first | (go_simp; done) | (go_simp; rfl)
  try simp only [Act.put, qT, q0, qS]
  refine wpAnyH_ready (rs := [5]) (by kernel_rfl) (by simp) ?_
  refine AllReadyH.cons (o := { dst := some 46, op := .call { callee := Go.Callee.builtin Go.Builtin.append, args := #[.const (Go.Value.slice none 0 0), .tmp 45], argTypes := #[106, 106] }, type := 106, pos := _, after := #[⟨4, .data⟩], guard := none }) rfl (fun K hK => ?_) AllReadyH.nil
  rw [if_pos (by rfl)]
  refine wp_app_any _ (.const (.slice none 0 0)) (.tmp 45) 106 rfl U.heap.size 5 i0 (.int .u8 0) 1 1 Tryz.underlying106 HI0.out HIZ.out HI2.out HI3.out rfl (by decide) (.slice none 0 0) 0 [] rfl (World.ownsRow_nil _ _ _ _) ⟨X.heap.size, 0, none⟩ 32 32 (ml.map B8) rfl (by rw [List.length_map, HML.out]) (fun j u hu => by rw [Addr.add_mid]; exact R5.rangeAt_below HMR.out HBW.out j u hu) (B8_one' ml) (by decide) (by decide) (Nat.le_refl _) ?_
  intro v1 U1 hown1 hb1
  have HO1 : Hid (U1.ownsRow U.heap.size 5 1 v1 (0 + 32) ([] ++ ml.map B8)) := hown1
  have HBU1 : Hid (Below X1.heap.size X1 U1) := HBW.out.trans (hb1.mono HBW.out.size)
  have HG4 : Hid (U1.rangeAt V1.heap.size 0 (CB.map B8)) := R5.rangeAt_below HG3.out hb1
  have HUS : Hid (U.heap.size ≤ U1.heap.size) := hb1.size
  have hH1 := HXc.out U1 HBU1.out
  clear hown1 hb1
  refine hK.out _ _ hH1 (fun _ => ?_)
  clear hK K
  try simp only [Act.put, qT, q0, qS]
  refine wpAnyH_ready (rs := [7]) (by kernel_rfl) (by simp) ?_
  refine AllReadyH.cons (o := { dst := some 48, op := .call { callee := Go.Callee.builtin Go.Builtin.append, args := #[.tmp 46, .tmp 47], argTypes := #[106, 106] }, type := 106, pos := _, after := #[⟨5, .data⟩, ⟨6, .data⟩, ⟨5, .chain⟩], guard := none }) rfl (fun K hK => ?_) AllReadyH.nil
  rw [if_pos (by rfl)]
  refine wp_app_any _ (.tmp 46) (.tmp 47) 106 rfl U.heap.size 5 i0 (.int .u8 0) 1 1 Tryz.underlying106 HI0.out HIZ.out HI2.out HI3.out rfl (by decide) v1 (0 + 32) ([] ++ ml.map B8) rfl HO1.out ⟨V1.heap.size, 0, none⟩ 128 128 (CB.map B8) rfl (by rw [List.length_map, HCB.out]) (fun j u hu => by rw [Addr.add_mid]; exact HG4.out j u hu) (B8_one' CB) (by decide) (by decide) HUS.out ?_
  intro v7 V4 hown7 hb4
  have hbV4 : Below X1.heap.size X1 V4 := HBU1.out.trans (hb4.mono HBW.out.size)
  have hFB : FB U.heap.size V4 v7 LQ := by
    unfold FB
    rw [HLQ.out]
    simpa [HML.out, HCB.out] using hown7
  have hlt7 : ∀ k, v7.ownBlock = some k → X.heap.size ≤ k ∧ k < V4.heap.size := fun k hk => by
    have := hown7.lt k hk
    have := HS1.out
    have := HBW.out.size
    omega
  have HD8 : Hid _ := HDIG.out V4 v7 hbV4 hFB.hb hlt7
  have HBV4 : Hid (Below X1.heap.size X1 V4) := hbV4
  have hH4 := HXc.out V4 hbV4
  clear hown7 hb4 hFB hlt7 HDIG hbV4 hH1
  refine hK.out _ _ hH4 (fun _ => ?_)
  clear hK K
  try simp only [Act.put, qT, q0, qS]
  refine wpAnyH_ready (rs := [8]) (by kernel_rfl) (by simp) ?_
  refine AllReadyH.cons (o := { dst := some 49, op := .call { callee := Go.Callee.value (.func 52), args := #[.tmp 44, .const (Go.Value.int Go.IntKind.i64 3), .tmp 48], argTypes := #[55, 105, 106] }, type := 33, pos := _, after := #[⟨3, .data⟩, ⟨7, .data⟩, ⟨7, .chain⟩], guard := none }) rfl (fun K hK => ?_) AllReadyH.nil
  rw [if_pos (by rfl)]
  go_wp2_with fail
  refine Calls.mono HD8.out ?_
  rintro e Y ⟨rfl, hY⟩
  obtain ⟨hr2, hcY, hfin⟩ := HC.out V4 Y HBV4.out hY
  have HR2 : Hid (Y.heap[X.heap.size + 2]? = some (.cells ZL.toArray 33 (0, 0))) := hr2
  have HFIN : Hid (R5.RQ c.w c.n c.og c.mo c.rg c.m c.D L NX.2 I X (Y.setRow (X.heap.size + 2) (NX.1.map B8).toArray)) := hfin _
  have HAS : Hid ((NX.1.map B8).toArray.size = 32) := by show _ = _; simpa using HAL.out
  have HA1 : Hid _ := R5.B8_onea NX.1
  clear hr2 hfin hY HD8 HC HAL HXc hH4
  obtain ⟨AA, hAA⟩ : ∃ AA, AA = (NX.1.map B8).toArray := ⟨_, rfl⟩
  rw [← hAA] at HFIN HAS HA1 ⊢
  have HAA : Hid (AA = (NX.1.map B8).toArray) := hAA
  clear hAA
  refine hK.out _ _ hcY (fun _ => ?_)
  clear hK K
  try simp only [Act.put, qT, q0, qS]
  refine wpAnyH_ready (rs := [9]) (by kernel_rfl) (by simp) ?_
  refine AllReadyH.cons (o := ⟨none, .store 33 (.tmp 6) (.tmp 49), 0, _, #[⟨8, .data⟩, ⟨8, .chain⟩, ⟨0, .phase⟩, ⟨1, .phase⟩, ⟨2, .phase⟩, ⟨3, .phase⟩, ⟨4, .phase⟩, ⟨5, .phase⟩, ⟨6, .phase⟩, ⟨7, .phase⟩, ⟨8, .phase⟩], none⟩) rfl (fun K hK => ?_) AllReadyH.nil
  rw [if_pos (by rfl)]
  refine wp_store_row 33 _ _ rfl (X.heap.size + 2) AA rfl rfl 33 ZL.toArray HR2.out (R5.info32a _ HAS.out) (HZS.out.trans HAS.out.symm) HA1.out ?_
  have hcZ : (Y.setRow (X.heap.size + 2) AA).cell? ⟨rb, 0, none⟩ = some (.pointer (some ⟨c.rg, 0, none⟩)) := by
    rw [World.cell?_of_block (w := Y) (a := ⟨rb, 0, none⟩) (setRow_other _ _ _ _ HNE.out)]; exact hcY
  refine hK.out _ _ hcZ (fun _ => ?_)
  clear hK K
  try simp only [Act.put, qT, q0, qS]
  refine wpAnyH_done (by kernel_rfl) ?_ _
  clear hcY hcZ hHeld HNE
  go_wp2
  refine bodyPost_ret (v := .agg AA) ?_ rfl ⟨by rw [HAA.out], HFIN.out⟩
  exact results_cell_row Tryz.results18 _ _ (X.heap.size + 2) 33 _ (0, 0) _ rfl (setRow_heap _ _ _ _ _ _ HR2.out) Tryz.underlying33 rfl (R5.info32a _ HAS.out)
end
end Go.Proofs.YtekbppfocnbhbaaGreat.XC
