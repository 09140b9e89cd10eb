/- measure: Begin, Data, Rec, Next. -/
import Derived.Test.YtpmknkagnkagpaaGreatZK
set_option linter.unusedVariables false
set_option linter.unusedSimpArgs false
namespace Go.Proofs.YtpmknkagnkagpaaGreat.ZC
open Go.RowKit

def MC (w : World) (pv : Value) (ML RL : List Value) (R : World → Value → World → Prop) : Prop := ∀ W, Below w.heap.size w W → Calls Tryz.prog 25 #[pv, .agg ML.toArray, .agg RL.toArray] W fun e w' => ∃ (A : List UInt8) (n : Int), A.length = 32 ∧ e = .returned (.tuple #[.agg (A.map B8).toArray, .int .i64 n]) ∧ R W (.tuple #[.agg (A.map B8).toArray, .int .i64 n]) w' ∧ ∀ k, w.heap.size ≤ k → k < W.heap.size → w'.heap[k]? = W.heap[k]?
def GEnd (w : World) (R : World → Value → World → Prop) (e : Ending) (w' : World) : Prop := ∃ W v w3 b N, e = .returned v ∧ Below w.heap.size w W ∧ w.heap.size ≤ b ∧ b < W.heap.size ∧ R W v w3 ∧ w' = World.setRow w3 b N
set_option maxHeartbeats 1000000 in
set_option maxRecDepth 100000 in
theorem begin_gen (pv : Value) (V : List UInt8) (n : Nat) (w : World) (R : World → Value → World → Prop) (hV : V.length = 32) (hM : MC w pv (Z0.map B8) (rdL (rec1 V)) R) :
    Calls Tryz.prog 22 #[pv, .agg (PC.rpL V n).toArray] w fun e w' => GEnd w R e w' := by
  have hz := fun W => R5.zero_dig W
  obtain ⟨ZL, hZL⟩ : ∃ L, L = (List.replicate 32 (0 : UInt8)).map B8 := ⟨_, rfl⟩
  rw [← hZL] at hz
  have HZS : Hid (ZL.toArray.size = 32) := by show _ = _; rw [hZL]; simp
  have HZ1 : Hid (ZL.toArray.all (·.oneCell') = true) := by show _ = _; rw [hZL]; exact R5.B8_onea _
  have HOF : Hid (∀ W, Calls Tryz.prog 26 #[.agg (V.map B8).toArray] W fun e w' => e = .returned (.agg (rdL (rec1 V)).toArray) ∧ Below W.heap.size W w') := fun W => ofRealm_any V W hV
  have HMC : Hid (MC w pv ZL (rdL (rec1 V)) R) := by rw [hZL]; exact hM
  have HBD : Hid (∀ W, (Instr.build 24 #[]).run Tryz.prog W = .ok (.agg ZL.toArray) W) := fun W => by rw [hZL]; exact R5.build_dig W
  obtain ⟨hb0, h0, h1⟩ := alloc2 w (PC.rpL V n).toArray ZL.toArray 62 24
  have HVI : Hid _ := R5.info32 (V.map B8) (by simpa using hV)
  have H0 : Hid (((w.alloc (.cells (PC.rpL V n).toArray 62 (0, 0))).alloc (.cells ZL.toArray 24 (0, 0))).rangeAt w.heap.size 0 (V.map B8)) := by have h3 := PC.rangeAt_part (PC.rangeAt_row h0) 0 32; rw [PC.rpL_v V n hV] at h3; exact h3
  have H1 : Hid (((w.alloc (.cells (PC.rpL V n).toArray 62 (0, 0))).alloc (.cells ZL.toArray 24 (0, 0))).heap[w.heap.size + 1]? = some (.cells ZL.toArray 24 (0, 0))) := h1
  have HB0 : Hid (Below w.heap.size w ((w.alloc (.cells (PC.rpL V n).toArray 62 (0, 0))).alloc (.cells ZL.toArray 24 (0, 0)))) := hb0
  clear hM hZL hb0 h0 h1 hV
  generalize rdL (rec1 V) = RL at *
  generalize V.map B8 = VL at *
  generalize PC.rpL V n = PL at *
  go_enter Tryz.func22, Tryz.ntmps22
  go_wp2_with (first
    | (refine PC.wpList_build rfl 24 _ rfl #[] (.agg ZL.toArray) (by simp) (HBD.out _) ?_)
    | (refine wpList_load_mid rfl 24 _ rfl w.heap.size 0 rfl VL _ H0.out Tryz.underlying24 rfl HVI.out ?_)
    | (go_at_call 26; fail))
  refine Calls.mono (HOF.out _) ?_
  rintro e w2 ⟨rfl, hb2⟩
  have HB2 : Hid (Below w.heap.size w w2) := HB0.out.trans (hb2.mono HB0.out.size)
  have HR2 : Hid (w2.heap[w.heap.size + 1]? = some (.cells ZL.toArray 24 (0, 0))) := (hb2.block _ (PC.row_lt H1.out)).trans H1.out
  clear hb2 HOF H0 H1 HB0
  go_wp2_with fail
  refine Calls.mono (HMC.out w2 HB2.out) ?_
  rintro e w3 ⟨A, n, hA, rfl, hR, hk⟩
  have hl2 := PC.row_lt HR2.out
  have HR3 : Hid (w3.heap[w.heap.size + 1]? = some (.cells ZL.toArray 24 (0, 0))) := (hk _ (by omega) hl2).trans HR2.out
  have HAS : Hid ((A.map B8).toArray.size = 32) := by show _ = _; simpa using hA
  have HA1 : Hid _ := R5.B8_onea A
  have HR : Hid (R w2 (.tuple #[.agg (A.map B8).toArray, .int .i64 n]) w3) := hR
  clear hk hA hR HMC
  generalize (A.map B8).toArray = AA at *
  go_wp2_with (refine wpList_store_row rfl 24 _ _ rfl (w.heap.size + 1) AA rfl rfl 24 ZL.toArray HR3.out (R5.info32a _ HAS.out) (HZS.out.trans HAS.out.symm) HA1.out ?_)
  refine bodyPost_ret (v := .tuple #[.agg AA, .int .i64 n]) ?_ rfl ⟨w2, _, w3, w.heap.size + 1, AA, rfl, HB2.out, by omega, hl2, HR.out, rfl⟩
  exact R5.results_dig2 Tryz.results22 _ _ (w.heap.size + 1) 24 _ (0, 0) _ rfl rfl (setRow_heap _ _ _ _ _ _ HR3.out) (R5.info32a _ HAS.out)
structure SW (w : World) (t : TypeId) (ML GL : List Value) (X : World) : Prop where
  m : X.heap[w.heap.size]? = some (.cells ML.toArray 24 (0, 0))
  r : X.heap[w.heap.size + 1]? = some (.cells GL.toArray t (0, 0))
  z : ∃ Z, Z.size = 32 ∧ X.heap[w.heap.size + 1 + 1]? = some (.cells Z 24 (0, 0))
theorem SW.keep {w : World} {t : TypeId} {ML RL : List Value} {X Y : World} (h : SW w t ML RL X) (hk : ∀ k, w.heap.size ≤ k → k < X.heap.size → Y.heap[k]? = X.heap[k]?) : SW w t ML RL Y := by
  obtain ⟨Z, hz1, hz2⟩ := h.z
  exact ⟨(hk _ (Nat.le_refl _) (PC.row_lt h.m)).trans h.m, (hk _ (by omega) (PC.row_lt h.r)).trans h.r, ⟨Z, hz1, (hk _ (by omega) (PC.row_lt hz2)).trans hz2⟩⟩
set_option maxHeartbeats 1000000 in
set_option maxRecDepth 100000 in
theorem data_gen (pv : Value) (m : List UInt8) (pg : Int) (g : List UInt8) (w : World) (R : World → Value → World → Prop) (hm : m.length = 32) (hg : g.length = 128) (hM : MC w pv (m.map B8) (rdL (rec2 pg g)) R) :
    Calls Tryz.prog 23 #[pv, .agg (m.map B8).toArray, .int .i64 pg, .agg (g.map B8).toArray] w fun e w' => GEnd w R e w' := by
  have HOF : Hid (∀ W, Calls Tryz.prog 27 #[.int .i64 pg, .agg (g.map B8).toArray] W fun e w' => e = .returned (.agg (rdL (rec2 pg g)).toArray) ∧ Below W.heap.size W w') := fun W => ofData_any pg g W hg
  have HGI : Hid _ := PC.info128 (g.map B8) (by simpa using hg)
  have hz := fun W => R5.zero_dig W
  obtain ⟨ZL, hZL⟩ : ∃ L, L = (List.replicate 32 (0 : UInt8)).map B8 := ⟨_, rfl⟩
  rw [← hZL] at hz
  have HZS : Hid (ZL.toArray.size = 32) := by show _ = _; rw [hZL]; simp
  have HZ1 : Hid (ZL.toArray.all (·.oneCell') = true) := by show _ = _; rw [hZL]; exact R5.B8_onea _
  have HMC : Hid (MC w pv (m.map B8) (rdL (rec2 pg g)) R) := hM
  obtain ⟨V1, hV1⟩ : ∃ W1, W1 = ((w.alloc (.cells (m.map B8).toArray 24 (0, 0))).alloc (.cells (g.map B8).toArray 27 (0, 0))).alloc (.cells ZL.toArray 24 (0, 0)) := ⟨_, rfl⟩
  obtain ⟨hb1, hs1, hr0, hr1, hr2⟩ := alloc3 w _ _ _ _ _ _ V1 hV1
  have HSW : Hid (SW w 27 (m.map B8) (g.map B8) V1.drew) := ⟨hr0, hr1, ⟨_, HZS.out, hr2⟩⟩
  have HB1 : Hid (Below w.heap.size w V1.drew) := hb1.drew
  have HMI : Hid _ := R5.info32 (m.map B8) (by simpa using hm)
  rw [hV1] at HSW HB1
  clear hM hZL hb1 hs1 hr0 hr1 hr2 hm hV1
  generalize rdL (rec2 pg g) = RL at *
  generalize g.map B8 = GL at *
  generalize m.map B8 = ML at *
  clear hg
  go_enter Tryz.func23, Tryz.ntmps23
  go_wp2
  refine wp_region_held_drew (S := SW w 27 ML GL) (by kernel_rfl) HSW.out (fun hHeld => ?_)
  generalize (((w.alloc (.cells ML.toArray 24 (0, 0))).alloc (.cells GL.toArray 27 (0, 0))).alloc (.cells ZL.toArray 24 (0, 0))).drew = X at *
  refine wpAnyH_take (i := 0) (oi := ⟨some 10, .move (.tmp 0), 35, _, #[], none⟩) (v := pv) rfl (by kernel_rfl) (by kernel_rfl) (by kernel_rfl) (fun _ _ _ h => h) (Or.inl ⟨by rfl, fun w' hw' => ?_⟩) hHeld ?_
  · first | (go_simp; done) | (go_simp; rfl)
  try simp only [Act.put, qT, q0, qS]
  refine wpAnyH_take (i := 1) (oi := ⟨some 11, .load 24 (.tmp 5), 24, _, #[], none⟩) rfl (by kernel_rfl) (by kernel_rfl) (by kernel_rfl) (fun _ _ _ h => h) (yieldsIf_load_mid (by rfl) 24 (.tmp 5) rfl (w.heap.size) (0) rfl (ML) _ (fun _ h => PC.rangeAt_row h.m) Tryz.underlying24 rfl HMI.out) hHeld ?_
  try simp only [Act.put, qT, q0, qS]
  refine wpAnyH_take (i := 2) (oi := ⟨some 12, .move (.tmp 2), 3, _, #[], none⟩) (v := .int .i64 pg) rfl (by kernel_rfl) (by kernel_rfl) (by kernel_rfl) (fun _ _ _ h => h) (Or.inl ⟨by rfl, fun w' hw' => ?_⟩) hHeld ?_
  · first | (go_simp; done) | (go_simp; rfl)
  try simp only [Act.put, qT, q0, qS]
  refine wpAnyH_take (i := 3) (oi := ⟨some 13, .load 27 (.tmp 7), 27, _, #[], none⟩) rfl (by kernel_rfl) (by kernel_rfl) (by kernel_rfl) (fun _ _ _ h => h) (yieldsIf_load_mid (by rfl) 27 (.tmp 7) rfl (w.heap.size + 1) (0) rfl (GL) _ (fun _ h => PC.rangeAt_row h.r) Tryz.underlying27 rfl HGI.out) hHeld ?_
  try simp only [Act.put, qT, q0, qS]
  refine wpAnyH_ready (rs := [4]) (by kernel_rfl) (by simp) ?_
  refine AllReadyH.cons (o := { dst := some 14, op := .call { callee := Go.Callee.value (.func 27), args := #[.tmp 12, .tmp 13], argTypes := #[3, 27] }, type := 33, pos := _, after := #[⟨2, .data⟩, ⟨3, .data⟩], guard := none }) rfl (fun K hK => ?_) AllReadyH.nil
  rw [if_pos (by rfl)]
  go_wp2_with fail
  refine Calls.mono (HOF.out X) ?_
  rintro e Y ⟨rfl, hbY⟩
  have hSY := hHeld.keep (fun k _ hl => hbY.block k hl)
  have HBY : Hid (Below w.heap.size w Y) := HB1.out.trans (hbY.mono HB1.out.size)
  clear hHeld hbY
  refine hK.out _ _ hSY (fun _ => ?_)
  clear hK K
  try simp only [Act.put, qT, q0, qS]
  have hHeld := hSY
  refine wpAnyH_ready (rs := [5]) (by kernel_rfl) (by simp) ?_
  refine AllReadyH.cons (o := { dst := some 15, op := .call { callee := Go.Callee.value (.func 25), args := #[.tmp 10, .tmp 11, .tmp 14], argTypes := #[35, 24, 33] }, type := 40, pos := _, after := #[⟨0, .data⟩, ⟨1, .data⟩, ⟨4, .data⟩, ⟨4, .chain⟩], guard := none }) rfl (fun K hK => ?_) AllReadyH.nil
  rw [if_pos (by rfl)]
  go_wp2_with fail
  refine Calls.mono (HMC.out Y HBY.out) ?_
  rintro e w5 ⟨A, n, hA, rfl, hR, hk⟩
  have hS5 := hSY.keep hk
  have hYz : w.heap.size + 1 + 1 < Y.heap.size := by obtain ⟨Z, _, h⟩ := hSY.z; exact PC.row_lt h
  obtain ⟨Z5, hz51, hz52⟩ := hS5.z
  have HAS : Hid ((A.map B8).toArray.size = 32) := by show _ = _; simpa using hA
  have HA1 : Hid _ := R5.B8_onea A
  have HR : Hid (R Y (.tuple #[.agg (A.map B8).toArray, .int .i64 n]) w5) := hR
  clear hk hA hR HMC hHeld
  generalize (A.map B8).toArray = AA at *
  have hr6 : (w5.setRow (w.heap.size + 1 + 1) AA).heap[w.heap.size + 1 + 1]? = some (.cells AA 24 (0, 0)) := setRow_heap _ _ _ _ _ _ hz52
  have hS6 : SW w 27 ML GL (w5.setRow (w.heap.size + 1 + 1) AA) := ⟨(setRow_other _ _ _ _ (by omega)).trans hS5.m, (setRow_other _ _ _ _ (by omega)).trans hS5.r, ⟨AA, HAS.out, hr6⟩⟩
  refine hK.out _ _ hS5 (fun _ => ?_)
  clear hK K
  try simp only [Act.put, qT, q0, qS]
  have hHeld := hS5
  refine wpAnyH_take (i := 6) (oi := ⟨some 16, .extract (.tmp 15) 0, 24, _, #[⟨5, .data⟩], none⟩) (v := .agg AA) rfl (by kernel_rfl) (by kernel_rfl) (by kernel_rfl) (fun _ _ _ h => h) (Or.inl ⟨by rfl, fun w' hw' => ?_⟩) hHeld ?_
  · first | (go_simp; done) | (go_simp; rfl)
  try simp only [Act.put, qT, q0, qS]
  refine wpAnyH_take (i := 7) (oi := ⟨some 17, .extract (.tmp 15) 1, 39, _, #[⟨5, .data⟩], none⟩) (v := .int .i64 n) rfl (by kernel_rfl) (by kernel_rfl) (by kernel_rfl) (fun _ _ _ h => h) (Or.inl ⟨by rfl, fun w' hw' => ?_⟩) hHeld ?_
  · first | (go_simp; done) | (go_simp; rfl)
  try simp only [Act.put, qT, q0, qS]
  refine wpAnyH_ready (rs := [8]) (by kernel_rfl) (by simp) ?_
  refine AllReadyH.cons (o := ⟨none, .store 24 (.tmp 8) (.tmp 16), 0, _, #[⟨6, .data⟩, ⟨5, .chain⟩, ⟨0, .phase⟩, ⟨1, .phase⟩, ⟨2, .phase⟩, ⟨3, .phase⟩, ⟨4, .phase⟩, ⟨5, .phase⟩, ⟨6, .phase⟩, ⟨7, .phase⟩], none⟩) rfl (fun K hK => ?_) AllReadyH.nil
  rw [if_pos (by rfl)]
  refine wp_store_row 24 _ _ rfl (w.heap.size + 1 + 1) AA rfl rfl 24 Z5 hz52 (R5.info32a _ HAS.out) (hz51.trans HAS.out.symm) HA1.out ?_
  refine hK.out _ _ hS6 (fun _ => ?_)
  clear hK K
  try simp only [Act.put, qT, q0, qS]
  have hHeld := hS6
  refine wpAnyH_take (i := 9) (oi := ⟨some 9, .assign (.tmp 17), 39, _, #[⟨7, .data⟩, ⟨8, .chain⟩, ⟨0, .phase⟩, ⟨1, .phase⟩, ⟨2, .phase⟩, ⟨3, .phase⟩, ⟨4, .phase⟩, ⟨5, .phase⟩, ⟨6, .phase⟩, ⟨7, .phase⟩, ⟨8, .phase⟩], none⟩) (v := .int .i64 n) rfl (by kernel_rfl) (by kernel_rfl) (by kernel_rfl) (fun _ _ _ h => h) (Or.inl ⟨by rfl, fun w' hw' => ?_⟩) hHeld ?_
  · first | (go_simp; done) | (go_simp; rfl)
  try simp only [Act.put, qT, q0, qS]
  refine wpAnyH_done (by kernel_rfl) ?_ _
  have HR6 : Hid _ := hr6
  clear hHeld hS5 hS6 hz51 hz52 hr6 hSY
  go_wp2
  refine bodyPost_ret (v := .tuple #[.agg AA, .int .i64 n]) ?_ rfl ⟨Y, _, w5, w.heap.size + 1 + 1, AA, rfl, HBY.out, by omega, hYz, HR.out, rfl⟩
  exact R5.results_dig2 Tryz.results23 _ _ (w.heap.size + 1 + 1) 24 _ (0, 0) _ rfl rfl HR6.out (R5.info32a _ HAS.out)
end Go.Proofs.YtpmknkagnkagpaaGreat.ZC
