import Derived.Test.YtekbppfocnbhbaaGreatYM
import Derived.Test.YtekbppfocnbhbaaGreatPQ
set_option linter.unusedVariables false
set_option linter.unusedSimpArgs false
set_option maxHeartbeats 16000000
set_option maxRecDepth 100000
namespace Go.Proofs.YtekbppfocnbhbaaGreat.XC
open Go.RowKit
section
variable {c : Cx} {rb tn : Nat} {I : Nat → Prop} {X : World} {L R : List (R5.Qn × List UInt8)}
theorem rms3 (h : R5.MM c.w c.n tn c.og c.mo c.rg c.m c.D L R I X X) (hc : X.cell? ⟨rb, 0, none⟩ = some (.pointer (some ⟨c.rg, 0, none⟩))) (hrb : I rb) (hll : R.length < 1000000) (ml : List UInt8) (hml : ml.length = 32) (rec : Rd) (hok : rec.ok) (hk : rec.kind = 3) (hpc : rec.pc < 18446744073709551616) (hrs : ∀ x ∈ rec.rs, x < 18446744073709551616)
    (hAl : (R5.nx c.D R ⟨1, List.replicate 32 0, 3, ml ++ PC.cbL rec.pc rec.rs rec.run⟩).1.length = 32) :
    Calls Tryz.prog 18 #[.pointer (some ⟨rb, 0, none⟩), .agg (ml.map B8).toArray, .agg (rdL rec).toArray] X fun e Y => e = .returned (.agg ((R5.nx c.D R ⟨1, List.replicate 32 0, 3, ml ++ PC.cbL rec.pc rec.rs rec.run⟩).1.map B8).toArray) ∧ R5.RQ c.w c.n c.og c.mo c.rg c.m c.D L (R5.nx c.D R ⟨1, List.replicate 32 0, 3, ml ++ PC.cbL rec.pc rec.rs rec.run⟩).2 I X Y := by
  have hzv := fun W => R5.zero_dig W
  obtain ⟨ZL, hZL⟩ : ∃ L, L = (List.replicate 32 (0 : UInt8)).map B8 := ⟨_, rfl⟩
  rw [← hZL] at hzv
  have HZS : Hid (ZL.toArray.size = 32) := by show _ = _; rw [hZL]; simp
  obtain ⟨X1, hX1⟩ : ∃ X1, X1 = ((X.alloc (.cells (ml.map B8).toArray 33 (0, 0))).alloc (.cells (rdL rec).toArray 69 (0, 0))).alloc (.cells ZL.toArray 33 (0, 0)) := ⟨_, rfl⟩
  obtain ⟨hb1, hs1, r0, r1, r2⟩ := alloc_three X _ _ _ _ _ _ X1 hX1
  have hcb : (PC.cbL rec.pc rec.rs rec.run).length = 128 := PC.cbL_len _ _ _ hok.s
  obtain ⟨LQ, hLQ⟩ : ∃ LQ, LQ = ml ++ PC.cbL rec.pc rec.rs rec.run := ⟨_, rfl⟩
  rw [← hLQ] at hAl ⊢
  obtain ⟨e1, e2, e3, e4⟩ := rms_end h hc hrb hll 3 LQ (by rw [hLQ]; simp [hml, hcb]) hAl hb1 hs1 r2
  have HDIG : Hid _ := e1
  have HC : Hid _ := e2
  have HXc : Hid (∀ W, Below X1.heap.size X1 W → W.cell? ⟨rb, 0, none⟩ = some (.pointer (some ⟨c.rg, 0, none⟩))) := e3
  have HNE : Hid (rb ≠ X.heap.size + 2) := e4
  have HLQ : Hid (LQ = ml ++ PC.cbL rec.pc rec.rs rec.run) := hLQ
  have HMR : Hid (X1.rangeAt X.heap.size 0 (ml.map B8)) := PC.rangeAt_row r0
  have HRP : Hid (X1.rangeAt (X.heap.size + 1) 162 (PC.rcL rec.pc rec.rs rec.run)) := by
    have := PC.rangeAt_part (PC.rangeAt_row r1) 162 10
    rwa [rdL_rec hok, Nat.zero_add] at this
  have HRI : Hid _ := PC.info10 (PC.rcL rec.pc rec.rs rec.run) (PC.rcL_len _ _ _ hok.s)
  have hkd : X1.cell? ⟨X.heap.size + 1, 0, none⟩ = some (.int .i64 3) := by
    have := PC.rangeAt_row r1 0 (.int .i64 rec.kind) rfl
    rw [hk] at this; exact this
  have HRB : Hid (∀ V, Calls Tryz.prog 53 #[.agg (PC.rcL rec.pc rec.rs rec.run).toArray] V fun e w' => e = .returned (.agg ((PC.cbL rec.pc rec.rs rec.run).map B8).toArray) ∧ Below V.heap.size V w') := fun V => PC.rcb_any _ _ _ V hok.s hpc hrs
  have hzg := fun W => PC.zero_gr W
  obtain ⟨ZG, hZG⟩ : ∃ ZG, ZG = (PC.Z128.map B8).toArray := ⟨_, rfl⟩
  rw [← hZG] at hzg
  have HZG : Hid (ZG.size = 128) := by show _ = _; rw [hZG]; simp [PC.Z128]
  obtain ⟨i0, hi, hz0, hz1, hz2⟩ := info_parts infoU8
  have HI0 : Hid _ := hi
  have HIZ : Hid _ := hz0
  have HI2 : Hid _ := hz1
  have HI3 : Hid _ := hz2
  have HS1 : Hid (X1.heap.size = X.heap.size + 3) := hs1
  have HAL : Hid ((R5.nx c.D R ⟨1, List.replicate 32 0, 3, LQ⟩).1.length = 32) := hAl
  have HML : Hid (ml.length = 32) := hml
  have HCB : Hid ((PC.cbL rec.pc rec.rs rec.run).length = 128) := hcb
  have HX1 : Hid (X1 = ((X.alloc (.cells (ml.map B8).toArray 33 (0, 0))).alloc (.cells (rdL rec).toArray 69 (0, 0))).alloc (.cells ZL.toArray 33 (0, 0))) := hX1
  rw [hX1] at hkd
  generalize R5.nx c.D R ⟨1, List.replicate 32 0, 3, LQ⟩ = NX at *
  generalize (rdL rec).toArray = RA at *
  obtain ⟨MA, hMA⟩ : ∃ MA, MA = (ml.map B8).toArray := ⟨_, rfl⟩
  rw [← hMA] at HX1 hkd ⊢
  generalize PC.cbL rec.pc rec.rs rec.run = CB at *
  generalize PC.rcL rec.pc rec.rs rec.run = RP at *
  clear h hb1 hs1 r0 r1 r2 hAl hX1 hZL hk hok e1 e2 e3 e4 hLQ hi hz0 hz1 hz2 hml hcb hMA hpc hrs hZG
  have HRP0 := HRP
  rw [HX1.out] at HRP0
  go_enter Tryz.func18, Tryz.ntmps18
  go_wp2_with (refine wpList_load_mid rfl 41 _ rfl (X.heap.size + 1) 162 rfl RP _ HRP0.out Tryz.underlying41 rfl HRI.out ?_)
  rw [← HX1.out]
  refine Calls.mono (HRB.out X1) ?_
  rintro e V1 ⟨rfl, hbV⟩
  clear HX1 hkd HRP0 HRB HRP HRI
  have HCS : Hid ((CB.map B8).toArray.size = 128) := by show _ = _; simpa using HCB.out
  have HC1 : Hid _ := R5.B8_onea CB
  have HNW : Hid ((V1.alloc (.cells ZG 38 (0, 0))).heap[V1.heap.size]? = some (.cells ZG 38 (0, 0))) := heap_alloc_new _ _
  obtain ⟨V2, hV2⟩ : ∃ V2, V2 = (V1.alloc (.cells ZG 38 (0, 0))).setRow V1.heap.size (CB.map B8).toArray := ⟨_, rfl⟩
  have HB2 : Hid (Below X1.heap.size X1 V2) := by
    rw [hV2]
    exact below_setRow (hbV.alloc hbV.size _) hbV.size _
  have HG2 : Hid (V2.rangeAt V1.heap.size 0 (CB.map B8)) := by rw [hV2]; exact PC.rangeAt_row (setRow_heap _ _ _ _ _ _ HNW.out)
  have HV2 : Hid (V2 = (V1.alloc (.cells ZG 38 (0, 0))).setRow V1.heap.size (CB.map B8).toArray) := hV2
  clear hV2 hbV
  generalize hCA : (CB.map B8).toArray = CA at *
  go_wp2_with (refine wpList_store_row rfl 38 _ _ rfl V1.heap.size CA rfl rfl 38 ZG HNW.out (PC.info128a _ HCS.out) (HZG.out.trans HCS.out.symm) HC1.out ?_)
  rw [← HV2.out]
  clear HV2 HNW HCS HC1 hCA
  have HBW : Hid (Below X1.heap.size X1 V2.drew) := HB2.out.drew
  refine wp_region_held_drew (S := fun w' => w'.cell? ⟨rb, 0, none⟩ = some (.pointer (some ⟨c.rg, 0, none⟩))) (by kernel_rfl) (HXc.out _ HBW.out) (fun hHeld => ?_)
  have HG3 : Hid (V2.drew.rangeAt V1.heap.size 0 (CB.map B8)) := HG2.out
  generalize V2.drew = U at *
  refine qzI 0 ⟨some 41, .move (.tmp 0), 27, _, #[], none⟩ (.pointer (some ⟨rb, 0, none⟩)) rfl (by kernel_rfl) (fun _ _ _ h => h) (by rfl) (fun w' hw' => ?_) hHeld ?_
  · go_simp <;> rfl
  try simp only [Act.put, qT, q0, qS]
  refine qzI 1 ⟨some 42, .nilCheck (.tmp 41), 0, _, #[⟨0, .data⟩], none⟩ (.pointer (some ⟨rb, 0, none⟩)) rfl (by kernel_rfl) (fun _ _ _ h => h) (by rfl) (fun w' hw' => ?_) hHeld ?_
  · go_simp <;> rfl
  try simp only [Act.put, qT, q0, qS]
  refine qzI 2 ⟨some 43, .fieldAddr 58 (.tmp 42) 0, 0, _, #[⟨1, .data⟩], none⟩ (.pointer (some ⟨rb, 0, none⟩)) rfl (by kernel_rfl) (fun _ _ _ h => h) (by rfl) (fun w' hw' => ?_) hHeld ?_
  · go_simp <;> rfl
  try simp only [Act.put, qT, q0, qS]
  refine qzI 3 ⟨some 44, .load 55 (.tmp 43), 55, _, #[⟨2, .data⟩], none⟩ (.pointer (some ⟨c.rg, 0, none⟩)) rfl (by kernel_rfl) (fun _ _ _ h => h) (by rfl) (fun w' hw' => ?_) hHeld ?_
  · have hq := hw'; go_simp <;> rfl
  try simp only [Act.put, qT, q0, qS]
  refine qzI 4 ⟨some 45, .slice 33 (.tmp 4) none none none, 106, _, #[], none⟩ (.slice (some ⟨X.heap.size, 0, none⟩) 32 32) rfl (by kernel_rfl) (fun _ _ _ h => h) (by rfl) (fun w' hw' => ?_) hHeld ?_
  · go_simp <;> rfl
  try simp only [Act.put, qT, q0, qS]
  refine qzI 6 ⟨some 47, .slice 38 (.tmp 8) none none none, 106, _, #[], none⟩ (.slice (some ⟨V1.heap.size, 0, none⟩) 128 128) rfl (by kernel_rfl) (fun _ _ _ h => h) (by rfl) (fun w' hw' => ?_) hHeld ?_
  · go_simp <;> rfl
  try simp only [Act.put, qT, q0, qS]
  refine qzR 5 ⟨some 46, .call ⟨.builtin Go.Builtin.append, #[.const (Go.Value.slice none 0 0), .tmp 45], #[106, 106]⟩, 106, _, #[⟨4, .data⟩], none⟩ (by kernel_rfl) rfl (by rfl) (fun K hK => ?_)
  refine wp_app_any _ (.const (.slice none 0 0)) (.tmp 45) 106 rfl U.heap.size 5 i0 (.int .u8 0) 1 1 Tryz.underlying106 HI0.out HIZ.out HI2.out HI3.out rfl (by decide) (.slice none 0 0) 0 [] rfl (World.ownsRow_nil _ _ _ _) ⟨X.heap.size, 0, none⟩ 32 32 (ml.map B8) rfl (by rw [List.length_map, HML.out]) (fun j u hu => by rw [Addr.add_mid]; exact R5.rangeAt_below HMR.out HBW.out j u hu) (B8_one' ml) (by decide) (by decide) (Nat.le_refl _) ?_
  intro v1 U1 hown1 hb1
  have HO1 : Hid (U1.ownsRow U.heap.size 5 1 v1 (0 + 32) ([] ++ ml.map B8)) := hown1
  have HBU1 : Hid (Below X1.heap.size X1 U1) := HBW.out.trans (hb1.mono HBW.out.size)
  have HG4 : Hid (U1.rangeAt V1.heap.size 0 (CB.map B8)) := R5.rangeAt_below HG3.out hb1
  have HUS : Hid (U.heap.size ≤ U1.heap.size) := hb1.size
  have hH1 := HXc.out U1 HBU1.out
  clear hown1 hb1
  refine hK.out _ _ hH1 (fun _ => ?_)
  clear hK K
  try simp only [Act.put, qT, q0, qS]
  refine qzR 7 ⟨some 48, .call ⟨.builtin Go.Builtin.append, #[.tmp 46, .tmp 47], #[106, 106]⟩, 106, _, #[⟨5, .data⟩, ⟨6, .data⟩, ⟨5, .chain⟩], none⟩ (by kernel_rfl) rfl (by rfl) (fun K hK => ?_)
  refine wp_app_any _ (.tmp 46) (.tmp 47) 106 rfl U.heap.size 5 i0 (.int .u8 0) 1 1 Tryz.underlying106 HI0.out HIZ.out HI2.out HI3.out rfl (by decide) v1 (0 + 32) ([] ++ ml.map B8) rfl HO1.out ⟨V1.heap.size, 0, none⟩ 128 128 (CB.map B8) rfl (by rw [List.length_map, HCB.out]) (fun j u hu => by rw [Addr.add_mid]; exact HG4.out j u hu) (B8_one' CB) (by decide) (by decide) HUS.out ?_
  intro v7 V4 hown7 hb4
  have hbV4 : Below X1.heap.size X1 V4 := HBU1.out.trans (hb4.mono HBW.out.size)
  have hFB : FB U.heap.size V4 v7 LQ := by
    unfold FB
    rw [HLQ.out]
    simpa [HML.out, HCB.out] using hown7
  have hlt7 : ∀ k, v7.ownBlock = some k → X.heap.size ≤ k ∧ k < V4.heap.size := fun k hk => by
    have := hown7.lt k hk
    have := HS1.out
    have := HBW.out.size
    omega
  have HD8 : Hid _ := HDIG.out V4 v7 hbV4 hFB.hb hlt7
  have HBV4 : Hid (Below X1.heap.size X1 V4) := hbV4
  have hH4 := HXc.out V4 hbV4
  clear hown7 hb4 hFB hlt7 HDIG hbV4 hH1
  refine hK.out _ _ hH4 (fun _ => ?_)
  clear hK K
  try simp only [Act.put, qT, q0, qS]
  refine qzR 8 ⟨some 49, .call ⟨.value (.func 52), #[.tmp 44, .const (Go.Value.int Go.IntKind.i64 3), .tmp 48], #[55, 105, 106]⟩, 33, _, #[⟨3, .data⟩, ⟨7, .data⟩, ⟨7, .chain⟩], none⟩ (by kernel_rfl) rfl (by rfl) (fun K hK => ?_)
  go_wp2_with fail
  refine Calls.mono HD8.out ?_
  rintro e Y ⟨rfl, hY⟩
  obtain ⟨hr2, hcY, hfin⟩ := HC.out V4 Y HBV4.out hY
  have HR2 : Hid (Y.heap[X.heap.size + 2]? = some (.cells ZL.toArray 33 (0, 0))) := hr2
  have HFIN : Hid (R5.RQ c.w c.n c.og c.mo c.rg c.m c.D L NX.2 I X (Y.setRow (X.heap.size + 2) (NX.1.map B8).toArray)) := hfin _
  have HAS : Hid ((NX.1.map B8).toArray.size = 32) := by show _ = _; simpa using HAL.out
  have HA1 : Hid _ := R5.B8_onea NX.1
  clear hr2 hfin hY HD8 HC HAL HXc hH4
  obtain ⟨AA, hAA⟩ : ∃ AA, AA = (NX.1.map B8).toArray := ⟨_, rfl⟩
  rw [← hAA] at HFIN HAS HA1 ⊢
  have HAA : Hid (AA = (NX.1.map B8).toArray) := hAA
  clear hAA
  refine hK.out _ _ hcY (fun _ => ?_)
  clear hK K
  try simp only [Act.put, qT, q0, qS]
  refine qzR 9 ⟨none, .store 33 (.tmp 6) (.tmp 49), 0, _, #[⟨8, .data⟩, ⟨8, .chain⟩, ⟨0, .phase⟩, ⟨1, .phase⟩, ⟨2, .phase⟩, ⟨3, .phase⟩, ⟨4, .phase⟩, ⟨5, .phase⟩, ⟨6, .phase⟩, ⟨7, .phase⟩, ⟨8, .phase⟩], none⟩ (by kernel_rfl) rfl (by rfl) (fun K hK => ?_)
  refine wp_store_row 33 _ _ rfl (X.heap.size + 2) AA rfl rfl 33 ZL.toArray HR2.out (R5.info32a _ HAS.out) (HZS.out.trans HAS.out.symm) HA1.out ?_
  have hcZ : (Y.setRow (X.heap.size + 2) AA).cell? ⟨rb, 0, none⟩ = some (.pointer (some ⟨c.rg, 0, none⟩)) := by
    rw [World.cell?_of_block (w := Y) (a := ⟨rb, 0, none⟩) (setRow_other _ _ _ _ HNE.out)]; exact hcY
  refine hK.out _ _ hcZ (fun _ => ?_)
  clear hK K
  try simp only [Act.put, qT, q0, qS]
  refine wpAnyH_done (by kernel_rfl) ?_ _
  clear hcY hcZ hHeld HNE
  go_wp2
  refine bodyPost_ret (v := .agg AA) ?_ rfl ⟨by rw [HAA.out], HFIN.out⟩
  exact results_cell_row Tryz.results18 _ _ (X.heap.size + 2) 33 _ (0, 0) _ rfl (setRow_heap _ _ _ _ _ _ HR2.out) Tryz.underlying33 rfl (R5.info32a _ HAS.out)
end
section
variable {c : Cx} {rb last : Nat} {I J : Nat → Prop} {X Y : World} {rl a b : List En} {av : Value} {rd : Int} {r : Rm} {lv : Value}
theorem rgrow_no (h : RX c rb I X rl last av) (hs : ∀ k, I k → k < X.heap.size) (hn : rl.length < 1000000) (hno : NoRd rl rd) (TA : Array Value) :
    Calls Tryz.prog 73 #[.pointer (some ⟨rb, 0, none⟩), .int .i64 rd, .agg TA] X fun e Y => e = .returned (.int .i64 6) ∧ RX c rb I Y rl last av ∧ Below X.heap.size X Y := by
  have hb1 : Below X.heap.size X (X.alloc (.cells TA 69 (0, 0))) := (Below.refl _ _).alloc (Nat.le_refl _) _
  have h1 := h.below hs hb1
  have HC : Hid (Calls Tryz.prog 13 #[.pointer (some ⟨rb, 0, none⟩), .int .i64 rd] (X.alloc (.cells TA 69 (0, 0))) fun e Y => e = .returned (.int .i64 (-1)) ∧ (X.alloc (.cells TA 69 (0, 0))) = Y) := rat_no h1 hn hno
  have HE : Hid (RX c rb I (X.alloc (.cells TA 69 (0, 0))) rl last av ∧ Below X.heap.size X (X.alloc (.cells TA 69 (0, 0)))) := ⟨h1, hb1⟩
  clear h hn hno h1 hb1
  go_enter Tryz.func73, Tryz.ntmps73
  go_wp2_with fail
  refine Calls.mono HC.out ?_
  rintro e w1 ⟨rfl, rfl⟩
  go_wp2
  go_ret
  exact ⟨rfl, HE.out⟩
theorem rgrow_st (h : RX c rb I X (a ++ (rd, r, lv) :: b) last av) (hs : ∀ k, I k → k < X.heap.size) (hn : (a ++ (rd, r, lv) :: b).length < 1000000) (hno : NoRd a rd) (hst : r.st ≠ 1) (TA : Array Value) :
    Calls Tryz.prog 73 #[.pointer (some ⟨rb, 0, none⟩), .int .i64 rd, .agg TA] X fun e Y => e = .returned (.int .i64 7) ∧ RX c rb I Y (a ++ (rd, r, lv) :: b) last av ∧ Below X.heap.size X Y := by
  have hb1 : Below X.heap.size X (X.alloc (.cells TA 69 (0, 0))) := (Below.refl _ _).alloc (Nat.le_refl _) _
  have h1 := h.below hs hb1
  obtain ⟨g, cap, hav⟩ := h1.slice
  have HC : Hid (Calls Tryz.prog 13 #[.pointer (some ⟨rb, 0, none⟩), .int .i64 rd] (X.alloc (.cells TA 69 (0, 0))) fun e Y => e = .returned (.int .i64 (a.length : Int)) ∧ (X.alloc (.cells TA 69 (0, 0))) = Y) := rat_is h1 hn hno
  have HE : Hid (RX c rb I (X.alloc (.cells TA 69 (0, 0))) (a ++ (rd, r, lv) :: b) last av ∧ Below X.heap.size X (X.alloc (.cells TA 69 (0, 0)))) := ⟨h1, hb1⟩
  have hc1 := h1.cells.2.1
  rw [hav] at hc1
  have hlt : a.length < (a ++ (rd, r, lv) :: b).length := by simp
  have hg2 := h1.get hav 2 (by decide)
  replace hg2 : (X.alloc (.cells TA 69 (0, 0))).cell? ⟨g, a.length * 104 + 2, none⟩ = some (.int .i64 r.st) := hg2
  have hne : (r.st == 1) = false := by rw [beq_eq_false_iff_ne]; exact hst
  clear h hst h1 hb1
  obtain ⟨Kk, hKk⟩ : ∃ Kk, Kk = a.length := ⟨_, rfl⟩
  obtain ⟨Nn, hNn⟩ : ∃ Nn, Nn = (a ++ (rd, r, lv) :: b).length := ⟨_, rfl⟩
  rw [← hNn] at hc1 hlt hn
  rw [← hKk] at hlt HC hg2
  have hneg : ¬ (Kk : Int) < 0 := by omega
  have hltI : (Kk : Int) < (Nn : Int) := by omega
  clear hno hav hKk hNn
  generalize r.st = ST at hg2 hne
  go_enter Tryz.func73, Tryz.ntmps73
  go_wp2_with fail
  refine Calls.mono HC.out ?_
  rintro e w1 ⟨rfl, rfl⟩
  go_wp2
  go_ret
  exact ⟨rfl, HE.out⟩
end
section
variable {c : Cx} {rb last : Nat} {I J : Nat → Prop} {X Y : World} {rl a b : List En} {av : Value} {rd : Int} {r : Rm} {lv : Value}
theorem rdata_arg (p0 : Value) (pg : Int) (hp : pg < 0 ∨ 127 < pg) (GA : Array Value) :
    Calls Tryz.prog 34 #[p0, .int .i64 rd, .int .i64 pg, .agg GA] X fun e Y => e = .returned (.int .i64 2) ∧ Below X.heap.size X Y := by
  have HB1 : Hid (Below X.heap.size X (X.alloc (.cells GA 38 (0, 0)))) := (Below.refl _ _).alloc (Nat.le_refl _) _
  rcases hp with hp | hp
  · go_enter Tryz.func34, Tryz.ntmps34
    go_wp2
    go_ret
    exact ⟨rfl, HB1.out⟩
  · have hn : ¬ pg < 0 := by omega
    go_enter Tryz.func34, Tryz.ntmps34
    go_wp2
    go_ret
    exact ⟨rfl, HB1.out⟩
theorem rdata_go (p0 : Value) (pg : Nat) (hp : pg < 128) (g : List UInt8) (hg : g.length = 128) {Q : Value → World → Prop}
    (h : ∀ X1, X1 = X.alloc (.cells (g.map B8).toArray 38 (0, 0)) → Calls Tryz.prog 73 #[p0, .int .i64 rd, .agg (rdL (rec2 pg g)).toArray] X1 fun e Y => ∃ v, e = .returned (.int .i64 v) ∧ Q (.int .i64 v) Y) :
    Calls Tryz.prog 34 #[p0, .int .i64 rd, .int .i64 (pg : Int), .agg (g.map B8).toArray] X fun e Y => ∃ v, e = .returned (.int .i64 v) ∧ Q (.int .i64 v) Y := by
  have HG : Hid (Calls Tryz.prog 73 #[p0, .int .i64 rd, .agg (rdL (rec2 pg g)).toArray] (X.alloc (.cells (g.map B8).toArray 38 (0, 0))) fun e Y => ∃ v, e = .returned (.int .i64 v) ∧ Q (.int .i64 v) Y) := h _ rfl
  have hbk := fun W => build_rd2 W (pg : Int) (g.map B8) (by simpa using hg)
  have hqq : Value.int .i64 2 :: (PC.Z32.map B8 ++ (.int .i64 (pg : Int) :: (g.map B8 ++ PC.rcL 0 PC.Z8 false))) = rdL (rec2 pg g) := rfl
  rw [hqq] at hbk
  have HBK : Hid (∀ W, (Instr.build 69 #[(0, .int .i64 2), (2, .int .i64 (pg : Int)), (3, .agg (g.map B8).toArray)]).run Tryz.prog W = .ok (.agg (rdL (rec2 pg g)).toArray) W) := hbk
  have HGR : Hid ((X.alloc (.cells (g.map B8).toArray 38 (0, 0))).rangeAt X.heap.size 0 (g.map B8)) := PC.rangeAt_row (heap_alloc_new _ _)
  have HGI : Hid _ := PC.info128 (g.map B8) (by simpa using hg)
  have h0 : ¬ (pg : Int) < 0 := by omega
  have h7 : ¬ (127 : Int) < (pg : Int) := by omega
  generalize rdL (rec2 pg g) = RL at *
  generalize g.map B8 = GL at *
  clear h hbk hqq
  go_enter Tryz.func34, Tryz.ntmps34
  go_wp2_with (first
    | (refine wpList_load_mid rfl 38 _ rfl X.heap.size 0 rfl GL _ HGR.out Tryz.underlying38 rfl HGI.out ?_)
    | (refine R5.wpList_build rfl 69 _ rfl _ _ (by simp; exact ⟨rfl, rfl, rfl⟩) (HBK.out _) ?_))
  refine Calls.mono HG.out ?_
  rintro e Y ⟨v, rfl, hQ⟩
  have HQ : Hid (Q (.int .i64 v) Y) := hQ
  clear hQ HG
  go_wp2
  go_ret
  exact ⟨v, rfl, HQ.out⟩
end
section
variable {c : Cx} {rb tn last : Nat} {I J : Nat → Prop} {X Y W : World} {rl a b : List En} {av : Value} {rd : Int} {r : Rm} {lv : Value} {L R : List (R5.Qn × List UInt8)}
theorem itL_splM {r : Rm} (hr : r.ok) (rd : Int) (lv : Value) (t : List UInt8) (ht : t.length = 32) (p q : List Value) (n : Nat) (hn : n = p.length + 5) : splice (p ++ (itL (rd, r, lv) ++ q)) n (t.map B8) = p ++ (itL (rd, { r with meas := t }, lv) ++ q) := by
  have e : p ++ (itL (rd, r, lv) ++ q) = (p ++ (.int .i64 rd :: [PC.U8 r.inst, .int .i64 r.st, .int .i64 r.root, PC.U8 r.nodes])) ++ (r.meas.map B8 ++ (lv :: (r.key.map B8 ++ (PC.U8 r.ctr :: (r.tree.map B8 ++ [.int .i64 (r.recs : Int)]))) ++ q)) := by simp [itL, rmL]
  rw [e, spl_app _ _ (t.map B8) _ n (by simp [hn]) (by simp [hr.m, ht])]; simp [itL, rmL]
theorem RX.meas (h : RX c rb I X (a ++ (rd, r, lv) :: b) last av) {g cap : Nat} (hav : av = .slice (some ⟨g, 0, none⟩) (a ++ (rd, r, lv) :: b).length cap) : X.rangeAt g (a.length * 104 + 5) (r.meas.map B8) := fun j v hv => by
  have hok := h.ok _ (show (rd, r, lv) ∈ a ++ (rd, r, lv) :: b by simp)
  have hj : j < 32 := by have := (List.getElem?_eq_some_iff.1 hv).1; simpa [hok.m] using this
  rw [Nat.add_assoc, h.get hav (5 + j) (by omega)]
  have e : itL (rd, r, lv) = (.int .i64 rd :: [PC.U8 r.inst, .int .i64 r.st, .int .i64 r.root, PC.U8 r.nodes]) ++ (r.meas.map B8 ++ (lv :: (r.key.map B8 ++ (PC.U8 r.ctr :: (r.tree.map B8 ++ [.int .i64 (r.recs : Int)]))))) := by simp [itL, rmL]
  rw [e, List.getElem?_append_right (by simp), List.getElem?_append_left (by simp [hok.m]; omega)]
  simpa using hv
structure GV (c : Cx) (rb s : Nat) (L R : List (R5.Qn × List UInt8)) (I : Nat → Prop) (X V : World) (rl : List En) (last : Nat) (av : Value) (RA : Array Value) : Prop where
  rx : RX c rb I V rl last av
  mm : R5.MM c.w c.n V.heap.size c.og c.mo c.rg c.m c.D L R (fun k => I k ∨ k = s) V V
  box : V.heap[s]? = some (.cells RA 69 (0, 0))
  keep : ∀ k, I k → av.ownBlock ≠ some k → V.heap[k]? = X.heap[k]?
  sz : X.heap.size ≤ V.heap.size
theorem gv_meas {X1 : World} {RA : Array Value} {NX : List UInt8 × List (R5.Qn × List UInt8)} (h : RX c rb I X (a ++ (rd, r, lv) :: b) last av) (hs : ∀ k, I k → k < X.heap.size) {g cap : Nat} (hav : av = .slice (some ⟨g, 0, none⟩) (a ++ (rd, r, lv) :: b).length cap)
    (hb1 : Below X.heap.size X X1) (hs1 : X1.heap.size = X.heap.size + 1) (hbx : X1.heap[X.heap.size]? = some (.cells RA 69 (0, 0))) (hNX : NX.1.length = 32)
    (hW : Below X1.heap.size X1 W) (hY : R5.RQ c.w c.n c.og c.mo c.rg c.m c.D L NX.2 (fun k => I k ∨ k = X.heap.size) W Y) :
    ∃ Z, Y.heap[g]? = some (.cells (itC a ++ (itL (rd, r, lv) ++ (itC b ++ Z))).toArray 54 (0, 0)) ∧ Y.heap[X.heap.size]? = some (.cells RA 69 (0, 0)) ∧ a.length * 104 + 5 + (NX.1.map B8).toArray.size ≤ (itC a ++ (itL (rd, r, lv) ++ (itC b ++ Z))).length ∧
      ∀ V, V = Y.setRow g (splice (itC a ++ (itL (rd, r, lv) ++ (itC b ++ Z))) (a.length * 104 + 5) (NX.1.map B8).toArray.toList).toArray → GV c rb X.heap.size L NX.2 I X V (a ++ (rd, { r with meas := NX.1 }, lv) :: b) last av RA := by
  have hgo : av.ownBlock = some g := by rw [hav]; rfl
  have hgI := h.aI g hgo
  have hgX := hs _ hgI.1
  have hok := h.ok _ (show (rd, r, lv) ∈ a ++ (rd, r, lv) :: b by simp)
  have hao : ∀ y ∈ a, y.2.1.ok := fun y hy => h.ok y (by simp [hy])
  have h0 : (rd, r, lv) ∈ a ++ (rd, r, lv) :: b := by simp
  have hYk : ∀ k, I k → Y.heap[k]? = X.heap[k]? := fun k hk => by
    rw [hY.2.1 k (.inl hk), hW.block k (by have := hs k hk; omega), hb1.block k (hs k hk)]
  have hYb : Y.heap[X.heap.size]? = some (.cells RA 69 (0, 0)) := by
    rw [hY.2.1 _ (.inr rfl), hW.block _ (by omega)]; exact hbx
  have hRY : RX c rb I Y (a ++ (rd, r, lv) :: b) last av := h.keep (fun k hk => hYk k (by
    rcases hk with rfl | hk | ⟨x, hx, hk⟩
    · exact h.fI.1
    · exact (h.aI k hk).1
    · exact (h.lI x hx k hk).1)) (fun _ h => h)
  obtain ⟨Z, hZ⟩ := hRY.block hav
  refine ⟨Z, hZ, hYb, ?_, fun V hV => ?_⟩
  · rw [List.length_append, List.length_append, itC_len hao, itL_len (x := (rd, r, lv)) hok, List.size_toArray, List.length_map, hNX]
    omega
  · rw [List.toList_toArray, itL_splM hok rd lv NX.1 hNX _ _ _ (by rw [itC_len hao])] at hV
    subst hV
    have hsz : ∀ A, (Y.setRow g A).heap.size = Y.heap.size := fun A => by simp
    have hYs : X.heap.size ≤ Y.heap.size := by have := hY.2.2; have := hW.size; omega
    refine ⟨hRY.put2 hav hZ { r with meas := NX.1 } lv ⟨hNX, hok.k, hok.t, hok.l⟩ (setRow_heap _ _ _ _ _ _ hZ) (fun k _ hk => setRow_other _ _ _ _ hk) ?_ (fun _ h => h) (fun k hk => ⟨(hRY.lI _ h0 k hk).1, (hRY.lI _ h0 k hk).2.1, fun e => (hRY.lI _ h0 k hk).2.2 (by rw [e]; exact hgo)⟩), ?_, ?_, fun k hk hne => ?_, by rw [hsz]; exact hYs⟩
    · exact (hRY.logs _ h0).keep (fun k hk _ => setRow_other _ _ _ _ (fun e => (hRY.lI _ h0 k hk).2.2 (by rw [e]; exact hgo)))
    · rw [hsz]
      exact hY.1.go (R5.Fr.setRow (R5.Fr.refl _ _) g _ (.inl ⟨hgI.2.1, .inl hgI.1⟩)) (fun k hk => .inl hk)
    · rw [setRow_other _ _ _ _ (by omega)]; exact hYb
    · rw [setRow_other _ _ _ _ (fun e => hne (by rw [e]; exact hgo))]; exact hYk k hk
end
theorem _root_.Go.Proofs.YtekbppfocnbhbaaGreat.R5.MM.up_tn {w K X : World} {n tn tn' og mb rg : Nat} {m : List UInt8} {D : List (List UInt8)} {L R : List (R5.Qn × List UInt8)} {I : Nat → Prop} (h : R5.MM w n tn og mb rg m D L R I K X) (ht : tn ≤ tn') : R5.MM w n tn' og mb rg m D L R I K X := by
  obtain ⟨S, dv, ov, T, dr, lv, lds, h1, h2, h3, h4, h5, h6⟩ := h.ex
  exact ⟨⟨S, dv, ov, T, dr, lv, lds, h1, h2, h3, h4, h5, fun k hk => Nat.lt_of_lt_of_le (h6 k hk) ht⟩, h.bel, h.low, h.same⟩
section
variable {c : Cx} {rb tn last s : Nat} {I J : Nat → Prop} {X Y V W : World} {rl a b : List En} {av : Value} {rd : Int} {r : Rm} {lv : Value} {L R : List (R5.Qn × List UInt8)} {RA : Array Value}
def GE (c : Cx) (rb : Nat) (L R : List (R5.Qn × List UInt8)) (I : Nat → Prop) (X T : World) (a b : List En) (rd : Int) (r : Rm) (last : Nat) (av : Value) : Prop :=
  ∃ v, RX c rb (fun k => I k ∨ v.ownBlock = some k) T (a ++ (rd, r, v) :: b) last av ∧ R5.MM c.w c.n T.heap.size c.og c.mo c.rg c.m c.D L R (fun k => I k ∨ v.ownBlock = some k) T T ∧ (∀ k, I k → av.ownBlock ≠ some k → T.heap[k]? = X.heap[k]?) ∧ X.heap.size ≤ T.heap.size ∧ (∀ k, v.ownBlock = some k → X.heap.size ≤ k)
theorem gv_log (h : GV c rb s L R I X V (a ++ (rd, r, lv) :: b) last av RA) {g cap : Nat} (hav : av = .slice (some ⟨g, 0, none⟩) (a ++ (rd, r, lv) :: b).length cap) {v : Value} {l' : List Rd} (hl : ∀ x ∈ l', x.ok) (hb : Below V.heap.size V W) (hown : W.ownsRow V.heap.size 69 172 v l'.length (lgC l')) :
    GE c rb L R I X (W.setCell ⟨g, a.length * 104 + 37, none⟩ v) a b rd { r with log := l' } last av := by
  have hIl : ∀ k, (I k ∨ k = s) → k < V.heap.size := fun k hk => by
    obtain ⟨S, dv, ov, T, dr, lv, lds, h1, h2, h3, h4, h5, h6⟩ := h.mm.ex
    exact (h5 k hk).2.2
  have hgo : av.ownBlock = some g := by rw [hav]; rfl
  have hgI := h.rx.aI g hgo
  have hgV := hIl g (.inl hgI.1)
  have hok := h.rx.ok _ (show (rd, r, lv) ∈ a ++ (rd, r, lv) :: b by simp)
  have hao : ∀ y ∈ a, y.2.1.ok := fun y hy => h.rx.ok y (by simp [hy])
  have hRW := h.rx.below (fun k hk => hIl k (.inl hk)) hb
  obtain ⟨Z, hZ⟩ := hRW.block hav
  have hT := heap_setCell_same W g (a.length * 104 + 37) _ _ v hZ
  have hset : (itC a ++ (itL (rd, r, lv) ++ (itC b ++ Z))).set (a.length * 104 + 37) v = itC a ++ (itL (rd, { r with log := l' }, v) ++ (itC b ++ Z)) := by
    rw [List.set_append_right _ _ (by rw [itC_len hao]; omega), itC_len hao, Nat.add_sub_cancel_left, List.set_append_left _ _ (by rw [itL_len (x := (rd, r, lv)) hok]; decide)]
    congr 2
    show _ :: (rmL r lv).set 36 v = _
    rw [rmL_set36 hok]; rfl
  rw [List.setIfInBounds_toArray, hset] at hT
  have hother : ∀ k, k ≠ g → (W.setCell ⟨g, a.length * 104 + 37, none⟩ v).heap[k]? = W.heap[k]? := fun k hk => heap_setCell_other _ _ _ _ (by simpa using hk)
  have hsz : (W.setCell ⟨g, a.length * 104 + 37, none⟩ v).heap.size = W.heap.size := by simp
  have hvl := fun k hk => hown.lt k hk
  refine ⟨v, hRW.put2 hav hZ { r with log := l' } v ⟨hok.m, hok.k, hok.t, hl⟩ hT (fun k _ hk => hother k hk) ?_ (fun k hk => .inl hk) (fun k hk => ⟨.inr hk, ?_, ?_⟩), ?_, fun k hk hne => ?_, ?_, fun k hk => ?_⟩
  · exact (HO.hr hown).keep (fun k hk _ => hother k (by have := (hvl k hk).1; omega))
  · have := (hvl k hk).1
    have := hIl rb (.inl h.rx.fI.1)
    omega
  · have := (hvl k hk).1
    omega
  · have h1 : R5.MM c.w c.n V.heap.size c.og c.mo c.rg c.m c.D L R (fun k => I k ∨ v.ownBlock = some k) (W.setCell ⟨g, a.length * 104 + 37, none⟩ v) (W.setCell ⟨g, a.length * 104 + 37, none⟩ v) := by
      refine h.mm.go (R5.Fr.setCell (R5.Fr.ofBelow hb) g _ v (.inl ⟨hgI.2.1, .inl hgI.1⟩)) (fun k hk => ?_)
      rcases hk with hk | hk
      · exact .inl (.inl hk)
      · exact .inr (by rw [hsz]; exact hvl k hk)
    exact h1.up_tn (by rw [hsz]; exact hb.size)
  · rw [hother k (fun e => hne (by rw [e]; exact hgo)), hb.block k (hIl k (.inl hk))]; exact h.keep k hk hne
  · rw [hsz]; exact Nat.le_trans h.sz hb.size
  · exact Nat.le_trans h.sz (hvl k hk).1
end
end Go.Proofs.YtekbppfocnbhbaaGreat.XC
