/- measure: measured. -/
import Derived.Test.YtpmknkagnkagpaaGreatZJ
set_option linter.unusedVariables false
set_option linter.unusedSimpArgs false
namespace Go.Proofs.YtpmknkagnkagpaaGreat.ZC
open Go.RowKit

structure SQ (w : World) (ML RL : List Value) (X : World) : Prop where
  m : X.heap[w.heap.size]? = some (.cells ML.toArray 24 (0, 0))
  r : X.heap[w.heap.size + 1]? = some (.cells RL.toArray 33 (0, 0))
  z : ∃ Z, Z.size = 32 ∧ X.heap[w.heap.size + 1 + 1]? = some (.cells Z 24 (0, 0))
theorem SQ.keep {w : World} {ML RL : List Value} {X Y : World} (h : SQ w ML RL X) (hk : ∀ k, k = w.heap.size ∨ k = w.heap.size + 1 ∨ k = w.heap.size + 1 + 1 → k < X.heap.size → Y.heap[k]? = X.heap[k]?) : SQ w ML RL Y := by
  obtain ⟨Z, hz1, hz2⟩ := h.z
  exact ⟨(hk _ (.inl rfl) (PC.row_lt h.m)).trans h.m, (hk _ (.inr (.inl rfl)) (PC.row_lt h.r)).trans h.r, ⟨Z, hz1, (hk _ (.inr (.inr rfl)) (PC.row_lt hz2)).trans hz2⟩⟩
theorem SQ.below {w : World} {ML RL : List Value} {X Y : World} (h : SQ w ML RL X) (hb : Below X.heap.size X Y) : SQ w ML RL Y := h.keep (fun k _ hl => hb.block k hl)
theorem SQ.drew {w : World} {ML RL : List Value} {X : World} (h : SQ w ML RL X) : SQ w ML RL X.drew := ⟨h.m, h.r, h.z⟩
section
variable (m : List UInt8) (r : Rd) (w : World)
set_option maxHeartbeats 1000000 in
set_option maxRecDepth 100000 in
theorem ms_bad (og mo : Nat) (hm : m.length = 32) (hr : r.ok) (hmay : mayD r = false) (hc : w.cell? ⟨og, 35, none⟩ = some (.map (some mo))) :
    Calls Tryz.prog 25 #[.pointer (some ⟨og, 0, none⟩), .agg (m.map B8).toArray, .agg (rdL r).toArray] w fun e w' => e = .returned (R5.errV 2) ∧ Below w.heap.size w w' := by
  have hz := fun W => R5.zero_dig W
  obtain ⟨ZL, hZL⟩ : ∃ L, L = (List.replicate 32 (0 : UInt8)).map B8 := ⟨_, rfl⟩
  rw [← hZL] at hz
  have HZS : Hid (ZL.toArray.size = 32) := by show _ = _; rw [hZL]; simp
  have HZ1 : Hid (ZL.toArray.all (·.oneCell') = true) := by show _ = _; rw [hZL]; exact R5.B8_onea _
  obtain ⟨V1, hV1⟩ : ∃ W1, W1 = ((w.alloc (.cells (m.map B8).toArray 24 (0, 0))).alloc (.cells (rdL r).toArray 33 (0, 0))).alloc (.cells ZL.toArray 24 (0, 0)) := ⟨_, rfl⟩
  obtain ⟨hb1, hs1, hr0, hr1, hr2⟩ := alloc3 w _ _ _ _ _ _ V1 hV1
  have HSQ : Hid (SQ w (m.map B8) (rdL r) V1) := ⟨hr0, hr1, ⟨_, HZS.out, hr2⟩⟩
  have HR2 : Hid (V1.heap[w.heap.size + 1 + 1]? = some (.cells ZL.toArray 24 (0, 0))) := hr2
  have HB1 : Hid (Below w.heap.size w V1) := hb1
  have HS1 : Hid (V1.heap.size = w.heap.size + 3) := hs1
  have HRI : Hid _ := info172 (rdL r) (rdL_len hr)
  have HMI : Hid _ := R5.info32 (m.map B8) (by simpa using hm)
  have HK0 : Hid ((rdL r)[0]? = some (.int .i64 r.kind)) := rdL_0 r
  have HBD : Hid (∀ W, (Instr.build 24 #[]).run Tryz.prog W = .ok (.agg ZL.toArray) W) := fun W => by rw [hZL]; exact R5.build_dig W
  have HNO : Hid (Calls Tryz.prog 24 #[.pointer (some ⟨og, 0, none⟩)] V1 fun e w' => e = .returned (.bool false) ∧ Below V1.heap.size V1 w') := noOr_no og mo V1 ((hb1.cell (block_lt hc)).trans hc)
  have HMAY : Hid (∀ W, Calls Tryz.prog 8 #[.agg (rdL r).toArray] W fun e w' => e = .returned (.bool false) ∧ Below W.heap.size W w') := fun W => by have := may_any r W hr; rw [hmay] at this; exact this
  have HEV : Hid (R5.errV 2 = .tuple #[.agg ZL.toArray, .int .i64 2]) := by show _ = _; rw [hZL]; rfl
  rw [HEV.out]
  rw [hV1] at HNO
  clear hZL hb1 hs1 hr0 hr1 hr2 hm hr hmay hc
  generalize rdL r = RL at *
  generalize m.map B8 = ML at *
  go_enter Tryz.func25, Tryz.ntmps25
  go_wp2_with fail
  refine Calls.mono HNO.out ?_
  rintro e w2 ⟨rfl, hb2⟩
  rw [← hV1] at hb2
  have HQ2 : Hid (SQ w ML RL w2) := HSQ.out.below hb2
  have HZ2 : Hid (w2.heap[w.heap.size + 1 + 1]? = some (.cells ZL.toArray 24 (0, 0))) := (hb2.block _ (PC.row_lt HR2.out)).trans HR2.out
  have HB2 : Hid (Below w.heap.size w w2) := HB1.out.trans (hb2.mono HB1.out.size)
  have HRR : Hid _ := PC.rangeAt_row HQ2.out.r
  clear hb2 HNO hV1
  go_wp2_with (refine wpList_load_mid rfl 33 _ rfl (w.heap.size + 1) 0 rfl RL _ HRR.out Tryz.underlying33 rfl HRI.out ?_)
  refine Calls.mono (HMAY.out _) ?_
  rintro e w3 ⟨rfl, hb3⟩
  have HZ3 : Hid (w3.heap[w.heap.size + 1 + 1]? = some (.cells ZL.toArray 24 (0, 0))) := (hb3.block _ (PC.row_lt HZ2.out)).trans HZ2.out
  have HB3 : Hid (Below w.heap.size w w3) := HB2.out.trans (hb3.mono HB2.out.size)
  clear hb3
  go_wp2_with (first
    | (refine PC.wpList_build rfl 24 _ rfl #[] (.agg ZL.toArray) (by simp) (HBD.out _) ?_)
    | (refine wpList_store_row rfl 24 _ _ rfl (w.heap.size + 1 + 1) ZL.toArray rfl rfl 24 ZL.toArray HZ3.out (R5.info32a _ HZS.out) rfl HZ1.out ?_))
  refine bodyPost_ret (v := .tuple #[.agg ZL.toArray, .int .i64 2]) ?_ rfl ⟨rfl, below_setRow HB3.out (by omega) _⟩
  exact R5.results_dig2 Tryz.results25 _ _ (w.heap.size + 1 + 1) 24 _ (0, 0) _ rfl rfl (setRow_heap _ _ _ _ _ _ HZ3.out) (R5.info32a _ HZS.out)
end
set_option maxHeartbeats 1000000 in
set_option maxRecDepth 100000 in
theorem ms_ok1 {B og mb : Nat} {S : Nat → Prop} {dv ov : Value} {o o' : R5.Pra} {m A : List UInt8} {r : Rd} {w : World} (hB : B ≤ w.heap.size) (hll : o.log.length < 1000000) (ho : R5.PO B og mb S w o dv ov) (hm : m.length = 32) (hr : r.ok) (hmay : mayD r = true) (hA : A.length = 32) (hR : nxP o (qOf m r) = (A, o')) (hf : fOf r = 48) :
    Calls Tryz.prog 25 #[.pointer (some ⟨og, 0, none⟩), .agg (m.map B8).toArray, .agg (rdL r).toArray] w fun e w' => PR B og mb S w o' dv (.tuple #[.agg (A.map B8).toArray, .int .i64 0]) e w' := by
  have hz := fun W => R5.zero_dig W
  obtain ⟨ZL, hZL⟩ : ∃ L, L = (List.replicate 32 (0 : UInt8)).map B8 := ⟨_, rfl⟩
  rw [← hZL] at hz
  have HZS : Hid (ZL.toArray.size = 32) := by show _ = _; rw [hZL]; simp
  have HZ1 : Hid (ZL.toArray.all (·.oneCell') = true) := by show _ = _; rw [hZL]; exact R5.B8_onea _
  obtain ⟨V1, hV1⟩ : ∃ W1, W1 = ((w.alloc (.cells (m.map B8).toArray 24 (0, 0))).alloc (.cells (rdL r).toArray 33 (0, 0))).alloc (.cells ZL.toArray 24 (0, 0)) := ⟨_, rfl⟩
  obtain ⟨hb1, hs1, hr0, hr1, hr2⟩ := alloc3 w _ _ _ _ _ _ V1 hV1
  have HSQ : Hid (SQ w (m.map B8) (rdL r) V1) := ⟨hr0, hr1, ⟨_, HZS.out, hr2⟩⟩
  have HR2 : Hid (V1.heap[w.heap.size + 1 + 1]? = some (.cells ZL.toArray 24 (0, 0))) := hr2
  have HB1 : Hid (Below w.heap.size w V1) := hb1
  have HS1 : Hid (V1.heap.size = w.heap.size + 3) := hs1
  have HRI : Hid _ := info172 (rdL r) (rdL_len hr)
  have HMI : Hid _ := R5.info32 (m.map B8) (by simpa using hm)
  have HK0 : Hid ((rdL r)[0]? = some (.int .i64 r.kind)) := rdL_0 r
  have HBD : Hid (∀ W, (Instr.build 24 #[]).run Tryz.prog W = .ok (.agg ZL.toArray) W) := fun W => by rw [hZL]; exact R5.build_dig W
  have hc := ho.cells.2.2.2.1
  have HNO : Hid (Calls Tryz.prog 24 #[.pointer (some ⟨og, 0, none⟩)] V1 fun e w' => e = .returned (.bool false) ∧ Below V1.heap.size V1 w') := noOr_no og mb V1 ((hb1.cell (block_lt hc)).trans hc)
  have HMAY : Hid (∀ W, Calls Tryz.prog 8 #[.agg (rdL r).toArray] W fun e w' => e = .returned (.bool true) ∧ Below W.heap.size W w') := fun W => by have := may_any r W hr; rw [hmay] at this; exact this
  have HMS : Hid (∀ W, Calls Tryz.prog 37 #[.pointer (some ⟨og, 0, none⟩)] W fun e w' => MzEnd og W e w') := fun W => measurers_any og W
  have HCL : Hid (∀ (W : World) (b1 b2 mp : Nat), Below w.heap.size w W → MZ og b1 b2 mp W → w.heap.size ≤ b2 → Calls Tryz.prog 48 #[.agg (m.map B8).toArray, .agg (rdL r).toArray, .pointer (some ⟨b2, 0, none⟩)] W fun e w' => PR B og mb S W o' dv (.agg (A.map B8).toArray) e w') := fun W b1 b2 mp hb hz hlow => by rw [← hf]; exact cl_any (Nat.le_trans hB hb.size) hll (ho.below hb) hz (fun hS => by have := ho.top _ hS; omega) hm hr hmay hA hR
  have HLK : Hid (∀ (W : World) (b1 b2 mp : Nat), MZ og b1 b2 mp W → (Instr.lookup 87 (.map (some mp)) (.int .i64 r.kind) false).run Tryz.prog W = .ok (.func (.func 48) #[] #[.pointer (some ⟨b2, 0, none⟩)]) W) := fun W b1 b2 mp hz => by have := mz_get hz (f_mem hmay b2); rw [hf] at this; exact this
  have HAS : Hid ((A.map B8).toArray.size = 32) := by show _ = _; simpa using hA
  have HA1 : Hid _ := R5.B8_onea A
  have HO : Hid (R5.PO B og mb S w o dv ov) := ho
  rw [hV1] at HNO
  clear hZL hb1 hs1 hr0 hr1 hr2 hm hr hmay hc ho hA hR hf
  generalize rdL r = RL at *
  generalize m.map B8 = ML at *
  generalize (A.map B8).toArray = AA at *
  generalize r.kind = kd at *
  go_enter Tryz.func25, Tryz.ntmps25
  go_wp2_with fail
  refine Calls.mono HNO.out ?_
  rintro e w2 ⟨rfl, hb2⟩
  rw [← hV1] at hb2
  have HQ2 : Hid (SQ w ML RL w2) := HSQ.out.below hb2
  have HB2 : Hid (Below w.heap.size w w2) := HB1.out.trans (hb2.mono HB1.out.size)
  have HRR : Hid _ := PC.rangeAt_row HQ2.out.r
  clear hb2 HNO hV1
  go_wp2_with (refine wpList_load_mid rfl 33 _ rfl (w.heap.size + 1) 0 rfl RL _ HRR.out Tryz.underlying33 rfl HRI.out ?_)
  refine Calls.mono (HMAY.out _) ?_
  rintro e w3 ⟨rfl, hb3⟩
  have HQ3 : Hid (SQ w ML RL w3.drew) := (HQ2.out.below hb3).drew
  have HB3 : Hid (Below w.heap.size w w3.drew) := (HB2.out.trans (hb3.mono HB2.out.size)).drew
  clear hb3 HRR
  go_wp2
  refine wp_region_held_drew (S := SQ w ML RL) (by kernel_rfl) HQ3.out (fun hHeld => ?_)
  generalize w3.drew = X at *
  refine wpAnyH_take (i := 0) (oi := ⟨some 15, .move (.tmp 0), 35, _, #[], none⟩) (v := .pointer (some ⟨og, 0, none⟩)) rfl (by kernel_rfl) (by kernel_rfl) (by kernel_rfl) (fun _ _ _ h => h) (Or.inl ⟨by rfl, fun w' hw' => ?_⟩) hHeld ?_
  · first | (go_simp; done) | (go_simp; rfl)
  try simp only [Act.put, qT, q0, qS]
  refine wpAnyH_take (i := 2) (oi := ⟨some 17, .fieldAddr 33 (.tmp 5) 0, 0, _, #[], none⟩) (v := .pointer (some ⟨w.heap.size + 1, 0, none⟩)) rfl (by kernel_rfl) (by kernel_rfl) (by kernel_rfl) (fun _ _ _ h => h) (Or.inl ⟨by rfl, fun w' hw' => ?_⟩) hHeld ?_
  · first | (go_simp; done) | (go_simp; rfl)
  try simp only [Act.put, qT, q0, qS]
  refine wpAnyH_take (i := 3) (oi := ⟨some 18, .load 25 (.tmp 17), 25, _, #[⟨2, .data⟩], none⟩) (v := .int .i64 kd) rfl (by kernel_rfl) (by kernel_rfl) (by kernel_rfl) (fun _ _ _ h => h) (Or.inl ⟨by rfl, fun w' hw' => ?_⟩) hHeld ?_
  · have h00 := (PC.rangeAt_row hw'.r) 0 _ HK0.out; rw [Nat.zero_add] at h00; first | (go_simp; done) | (go_simp; rfl)
  try simp only [Act.put, qT, q0, qS]
  refine wpAnyH_take (i := 5) (oi := ⟨some 20, .load 24 (.tmp 4), 24, _, #[], none⟩) rfl (by kernel_rfl) (by kernel_rfl) (by kernel_rfl) (fun _ _ _ h => h) (yieldsIf_load_mid (by rfl) 24 (.tmp 4) rfl (w.heap.size) (0) rfl (ML) _ (fun _ h => PC.rangeAt_row h.m) Tryz.underlying24 rfl HMI.out) hHeld ?_
  try simp only [Act.put, qT, q0, qS]
  refine wpAnyH_take (i := 6) (oi := ⟨some 21, .load 33 (.tmp 5), 33, _, #[], none⟩) rfl (by kernel_rfl) (by kernel_rfl) (by kernel_rfl) (fun _ _ _ h => h) (yieldsIf_load_mid (by rfl) 33 (.tmp 5) rfl (w.heap.size + 1) (0) rfl (RL) _ (fun _ h => PC.rangeAt_row h.r) Tryz.underlying33 rfl HRI.out) hHeld ?_
  try simp only [Act.put, qT, q0, qS]
  refine wpAnyH_ready (rs := [1]) (by kernel_rfl) (by simp) ?_
  refine AllReadyH.cons (o := { dst := some 16, op := .call { callee := Go.Callee.value (.func 37), args := #[.tmp 15], argTypes := #[35] }, type := 87, pos := _, after := #[⟨0, .data⟩], guard := none }) rfl (fun K hK => ?_) AllReadyH.nil
  rw [if_pos (by rfl)]
  go_wp2_with fail
  refine Calls.mono (HMS.out X) ?_
  rintro e Y ⟨b1, b2, mp, rfl, hmz, hl1, hl2, hl3, hbY⟩
  have hSY := hHeld.below hbY
  have HBY : Hid (Below w.heap.size w Y) := HB3.out.trans (hbY.mono HB3.out.size)
  have hX := HB3.out.size
  clear hHeld hbY
  refine hK.out _ _ hSY (fun _ => ?_)
  clear hK K
  try simp only [Act.put, qT, q0, qS]
  have hHeld := hSY
  have hlk := HLK.out Y b1 b2 mp hmz
  have HC : Hid (Calls Tryz.prog 48 #[.agg ML.toArray, .agg RL.toArray, .pointer (some ⟨b2, 0, none⟩)] Y fun e w' => PR B og mb S Y o' dv (.agg AA) e w') := HCL.out Y b1 b2 mp HBY.out hmz (by omega)
  clear hmz hl1 hl2 hl3
  refine wpAnyH_ready (rs := [4]) (by kernel_rfl) (by simp) ?_
  refine AllReadyH.cons (o := ⟨some 19, .lookup 87 (.tmp 16) (.tmp 18) false, 90, _, #[⟨1, .data⟩, ⟨3, .data⟩], none⟩) rfl (fun K hK => ?_) AllReadyH.nil
  rw [if_pos (by rfl)]
  go_wp2_with fail
  refine hK.out _ _ hSY (fun _ => ?_)
  clear hK K
  try simp only [Act.put, qT, q0, qS]
  clear hlk
  refine wpAnyH_ready (rs := [7]) (by kernel_rfl) (by simp) ?_
  refine AllReadyH.cons (o := { dst := some 22, op := .call { callee := Go.Callee.value (.tmp 19), args := #[.tmp 20, .tmp 21], argTypes := #[24, 33] }, type := 24, pos := _, after := #[⟨4, .data⟩, ⟨5, .data⟩, ⟨6, .data⟩, ⟨1, .chain⟩], guard := none }) rfl (fun K hK => ?_) AllReadyH.nil
  rw [if_pos (by rfl)]
  go_wp2_with fail
  refine Calls.mono HC.out ?_
  rintro e w5 ⟨rfl, hfr, hpo⟩
  have hYs := PC.row_lt hSY.r
  have hYz : w.heap.size + 1 + 1 < Y.heap.size := by obtain ⟨Z, _, h⟩ := hSY.z; exact PC.row_lt h
  have hkeep : ∀ k, k = w.heap.size ∨ k = w.heap.size + 1 ∨ k = w.heap.size + 1 + 1 → k < Y.heap.size → w5.heap[k]? = Y.heap[k]? := fun k hk hl => hfr.block k hl (fun hS => by have := HO.out.top _ hS; omega)
  have hS5 := hSY.keep hkeep
  obtain ⟨Z5, hz51, hz52⟩ := hS5.z
  have hr6 : (w5.setRow (w.heap.size + 1 + 1) AA).heap[w.heap.size + 1 + 1]? = some (.cells AA 24 (0, 0)) := setRow_heap _ _ _ _ _ _ hz52
  have hS6 : SQ w ML RL (w5.setRow (w.heap.size + 1 + 1) AA) := ⟨(setRow_other _ _ _ _ (by omega)).trans hS5.m, (setRow_other _ _ _ _ (by omega)).trans hS5.r, ⟨AA, HAS.out, hr6⟩⟩
  have HEND : Hid (PR B og mb S w o' dv (.tuple #[.agg AA, .int .i64 0]) (.returned (.tuple #[.agg AA, .int .i64 0])) (w5.setRow (w.heap.size + 1 + 1) AA)) := ⟨rfl, pfin HO.out hB HBY.out hfr hpo ((R5.Fr.refl _ _).setRow _ _ (.inl ⟨by omega, hYz⟩))⟩
  clear hfr hpo hkeep hHeld
  refine hK.out _ _ hS5 (fun _ => ?_)
  clear hK K
  try simp only [Act.put, qT, q0, qS]
  have hHeld := hS5
  refine wpAnyH_ready (rs := [8]) (by kernel_rfl) (by simp) ?_
  refine AllReadyH.cons (o := ⟨none, .store 24 (.tmp 6) (.tmp 22), 0, _, #[⟨7, .data⟩, ⟨7, .chain⟩, ⟨0, .phase⟩, ⟨1, .phase⟩, ⟨2, .phase⟩, ⟨3, .phase⟩, ⟨4, .phase⟩, ⟨5, .phase⟩, ⟨6, .phase⟩, ⟨7, .phase⟩], none⟩) rfl (fun K hK => ?_) AllReadyH.nil
  rw [if_pos (by rfl)]
  refine wp_store_row 24 _ _ rfl (w.heap.size + 1 + 1) AA rfl rfl 24 Z5 hz52 (R5.info32a _ HAS.out) (hz51.trans HAS.out.symm) HA1.out ?_
  refine hK.out _ _ hS6 (fun _ => ?_)
  clear hK K
  try simp only [Act.put, qT, q0, qS]
  have hHeld := hS6
  refine wpAnyH_take (i := 9) (oi := ⟨some 7, .assign (.const (Go.Value.int Go.IntKind.i64 0)), 39, _, #[⟨8, .chain⟩, ⟨0, .phase⟩, ⟨1, .phase⟩, ⟨2, .phase⟩, ⟨3, .phase⟩, ⟨4, .phase⟩, ⟨5, .phase⟩, ⟨6, .phase⟩, ⟨7, .phase⟩, ⟨8, .phase⟩], none⟩) (v := .int .i64 0) rfl (by kernel_rfl) (by kernel_rfl) (by kernel_rfl) (fun _ _ _ h => h) (Or.inl ⟨by rfl, fun w' hw' => ?_⟩) hHeld ?_
  · first | (go_simp; done) | (go_simp; rfl)
  try simp only [Act.put, qT, q0, qS]
  refine wpAnyH_done (by kernel_rfl) ?_ _
  have HR6 : Hid _ := hr6
  clear hHeld hS5 hS6 hz51 hz52 hr6 hSY
  go_wp2
  refine bodyPost_ret (v := .tuple #[.agg AA, .int .i64 0]) ?_ rfl HEND.out
  exact R5.results_dig2 Tryz.results25 _ _ (w.heap.size + 1 + 1) 24 _ (0, 0) _ rfl rfl HR6.out (R5.info32a _ HAS.out)
set_option maxHeartbeats 1000000 in
set_option maxRecDepth 100000 in
theorem ms_ok2 {B og mb : Nat} {S : Nat → Prop} {dv ov : Value} {o o' : R5.Pra} {m A : List UInt8} {r : Rd} {w : World} (hB : B ≤ w.heap.size) (hll : o.log.length < 1000000) (ho : R5.PO B og mb S w o dv ov) (hm : m.length = 32) (hr : r.ok) (hmay : mayD r = true) (hA : A.length = 32) (hR : nxP o (qOf m r) = (A, o')) (hf : fOf r = 49) :
    Calls Tryz.prog 25 #[.pointer (some ⟨og, 0, none⟩), .agg (m.map B8).toArray, .agg (rdL r).toArray] w fun e w' => PR B og mb S w o' dv (.tuple #[.agg (A.map B8).toArray, .int .i64 0]) e w' := by
  have hz := fun W => R5.zero_dig W
  obtain ⟨ZL, hZL⟩ : ∃ L, L = (List.replicate 32 (0 : UInt8)).map B8 := ⟨_, rfl⟩
  rw [← hZL] at hz
  have HZS : Hid (ZL.toArray.size = 32) := by show _ = _; rw [hZL]; simp
  have HZ1 : Hid (ZL.toArray.all (·.oneCell') = true) := by show _ = _; rw [hZL]; exact R5.B8_onea _
  obtain ⟨V1, hV1⟩ : ∃ W1, W1 = ((w.alloc (.cells (m.map B8).toArray 24 (0, 0))).alloc (.cells (rdL r).toArray 33 (0, 0))).alloc (.cells ZL.toArray 24 (0, 0)) := ⟨_, rfl⟩
  obtain ⟨hb1, hs1, hr0, hr1, hr2⟩ := alloc3 w _ _ _ _ _ _ V1 hV1
  have HSQ : Hid (SQ w (m.map B8) (rdL r) V1) := ⟨hr0, hr1, ⟨_, HZS.out, hr2⟩⟩
  have HR2 : Hid (V1.heap[w.heap.size + 1 + 1]? = some (.cells ZL.toArray 24 (0, 0))) := hr2
  have HB1 : Hid (Below w.heap.size w V1) := hb1
  have HS1 : Hid (V1.heap.size = w.heap.size + 3) := hs1
  have HRI : Hid _ := info172 (rdL r) (rdL_len hr)
  have HMI : Hid _ := R5.info32 (m.map B8) (by simpa using hm)
  have HK0 : Hid ((rdL r)[0]? = some (.int .i64 r.kind)) := rdL_0 r
  have HBD : Hid (∀ W, (Instr.build 24 #[]).run Tryz.prog W = .ok (.agg ZL.toArray) W) := fun W => by rw [hZL]; exact R5.build_dig W
  have hc := ho.cells.2.2.2.1
  have HNO : Hid (Calls Tryz.prog 24 #[.pointer (some ⟨og, 0, none⟩)] V1 fun e w' => e = .returned (.bool false) ∧ Below V1.heap.size V1 w') := noOr_no og mb V1 ((hb1.cell (block_lt hc)).trans hc)
  have HMAY : Hid (∀ W, Calls Tryz.prog 8 #[.agg (rdL r).toArray] W fun e w' => e = .returned (.bool true) ∧ Below W.heap.size W w') := fun W => by have := may_any r W hr; rw [hmay] at this; exact this
  have HMS : Hid (∀ W, Calls Tryz.prog 37 #[.pointer (some ⟨og, 0, none⟩)] W fun e w' => MzEnd og W e w') := fun W => measurers_any og W
  have HCL : Hid (∀ (W : World) (b1 b2 mp : Nat), Below w.heap.size w W → MZ og b1 b2 mp W → w.heap.size ≤ b2 → Calls Tryz.prog 49 #[.agg (m.map B8).toArray, .agg (rdL r).toArray, .pointer (some ⟨b2, 0, none⟩)] W fun e w' => PR B og mb S W o' dv (.agg (A.map B8).toArray) e w') := fun W b1 b2 mp hb hz hlow => by rw [← hf]; exact cl_any (Nat.le_trans hB hb.size) hll (ho.below hb) hz (fun hS => by have := ho.top _ hS; omega) hm hr hmay hA hR
  have HLK : Hid (∀ (W : World) (b1 b2 mp : Nat), MZ og b1 b2 mp W → (Instr.lookup 87 (.map (some mp)) (.int .i64 r.kind) false).run Tryz.prog W = .ok (.func (.func 49) #[] #[.pointer (some ⟨b2, 0, none⟩)]) W) := fun W b1 b2 mp hz => by have := mz_get hz (f_mem hmay b2); rw [hf] at this; exact this
  have HAS : Hid ((A.map B8).toArray.size = 32) := by show _ = _; simpa using hA
  have HA1 : Hid _ := R5.B8_onea A
  have HO : Hid (R5.PO B og mb S w o dv ov) := ho
  rw [hV1] at HNO
  clear hZL hb1 hs1 hr0 hr1 hr2 hm hr hmay hc ho hA hR hf
  generalize rdL r = RL at *
  generalize m.map B8 = ML at *
  generalize (A.map B8).toArray = AA at *
  generalize r.kind = kd at *
  go_enter Tryz.func25, Tryz.ntmps25
  go_wp2_with fail
  refine Calls.mono HNO.out ?_
  rintro e w2 ⟨rfl, hb2⟩
  rw [← hV1] at hb2
  have HQ2 : Hid (SQ w ML RL w2) := HSQ.out.below hb2
  have HB2 : Hid (Below w.heap.size w w2) := HB1.out.trans (hb2.mono HB1.out.size)
  have HRR : Hid _ := PC.rangeAt_row HQ2.out.r
  clear hb2 HNO hV1
  go_wp2_with (refine wpList_load_mid rfl 33 _ rfl (w.heap.size + 1) 0 rfl RL _ HRR.out Tryz.underlying33 rfl HRI.out ?_)
  refine Calls.mono (HMAY.out _) ?_
  rintro e w3 ⟨rfl, hb3⟩
  have HQ3 : Hid (SQ w ML RL w3.drew) := (HQ2.out.below hb3).drew
  have HB3 : Hid (Below w.heap.size w w3.drew) := (HB2.out.trans (hb3.mono HB2.out.size)).drew
  clear hb3 HRR
  go_wp2
  refine wp_region_held_drew (S := SQ w ML RL) (by kernel_rfl) HQ3.out (fun hHeld => ?_)
  generalize w3.drew = X at *
  refine wpAnyH_take (i := 0) (oi := ⟨some 15, .move (.tmp 0), 35, _, #[], none⟩) (v := .pointer (some ⟨og, 0, none⟩)) rfl (by kernel_rfl) (by kernel_rfl) (by kernel_rfl) (fun _ _ _ h => h) (Or.inl ⟨by rfl, fun w' hw' => ?_⟩) hHeld ?_
  · first | (go_simp; done) | (go_simp; rfl)
  try simp only [Act.put, qT, q0, qS]
  refine wpAnyH_take (i := 2) (oi := ⟨some 17, .fieldAddr 33 (.tmp 5) 0, 0, _, #[], none⟩) (v := .pointer (some ⟨w.heap.size + 1, 0, none⟩)) rfl (by kernel_rfl) (by kernel_rfl) (by kernel_rfl) (fun _ _ _ h => h) (Or.inl ⟨by rfl, fun w' hw' => ?_⟩) hHeld ?_
  · first | (go_simp; done) | (go_simp; rfl)
  try simp only [Act.put, qT, q0, qS]
  refine wpAnyH_take (i := 3) (oi := ⟨some 18, .load 25 (.tmp 17), 25, _, #[⟨2, .data⟩], none⟩) (v := .int .i64 kd) rfl (by kernel_rfl) (by kernel_rfl) (by kernel_rfl) (fun _ _ _ h => h) (Or.inl ⟨by rfl, fun w' hw' => ?_⟩) hHeld ?_
  · have h00 := (PC.rangeAt_row hw'.r) 0 _ HK0.out; rw [Nat.zero_add] at h00; first | (go_simp; done) | (go_simp; rfl)
  try simp only [Act.put, qT, q0, qS]
  refine wpAnyH_take (i := 5) (oi := ⟨some 20, .load 24 (.tmp 4), 24, _, #[], none⟩) rfl (by kernel_rfl) (by kernel_rfl) (by kernel_rfl) (fun _ _ _ h => h) (yieldsIf_load_mid (by rfl) 24 (.tmp 4) rfl (w.heap.size) (0) rfl (ML) _ (fun _ h => PC.rangeAt_row h.m) Tryz.underlying24 rfl HMI.out) hHeld ?_
  try simp only [Act.put, qT, q0, qS]
  refine wpAnyH_take (i := 6) (oi := ⟨some 21, .load 33 (.tmp 5), 33, _, #[], none⟩) rfl (by kernel_rfl) (by kernel_rfl) (by kernel_rfl) (fun _ _ _ h => h) (yieldsIf_load_mid (by rfl) 33 (.tmp 5) rfl (w.heap.size + 1) (0) rfl (RL) _ (fun _ h => PC.rangeAt_row h.r) Tryz.underlying33 rfl HRI.out) hHeld ?_
  try simp only [Act.put, qT, q0, qS]
  refine wpAnyH_ready (rs := [1]) (by kernel_rfl) (by simp) ?_
  refine AllReadyH.cons (o := { dst := some 16, op := .call { callee := Go.Callee.value (.func 37), args := #[.tmp 15], argTypes := #[35] }, type := 87, pos := _, after := #[⟨0, .data⟩], guard := none }) rfl (fun K hK => ?_) AllReadyH.nil
  rw [if_pos (by rfl)]
  go_wp2_with fail
  refine Calls.mono (HMS.out X) ?_
  rintro e Y ⟨b1, b2, mp, rfl, hmz, hl1, hl2, hl3, hbY⟩
  have hSY := hHeld.below hbY
  have HBY : Hid (Below w.heap.size w Y) := HB3.out.trans (hbY.mono HB3.out.size)
  have hX := HB3.out.size
  clear hHeld hbY
  refine hK.out _ _ hSY (fun _ => ?_)
  clear hK K
  try simp only [Act.put, qT, q0, qS]
  have hHeld := hSY
  have hlk := HLK.out Y b1 b2 mp hmz
  have HC : Hid (Calls Tryz.prog 49 #[.agg ML.toArray, .agg RL.toArray, .pointer (some ⟨b2, 0, none⟩)] Y fun e w' => PR B og mb S Y o' dv (.agg AA) e w') := HCL.out Y b1 b2 mp HBY.out hmz (by omega)
  clear hmz hl1 hl2 hl3
  refine wpAnyH_ready (rs := [4]) (by kernel_rfl) (by simp) ?_
  refine AllReadyH.cons (o := ⟨some 19, .lookup 87 (.tmp 16) (.tmp 18) false, 90, _, #[⟨1, .data⟩, ⟨3, .data⟩], none⟩) rfl (fun K hK => ?_) AllReadyH.nil
  rw [if_pos (by rfl)]
  go_wp2_with fail
  refine hK.out _ _ hSY (fun _ => ?_)
  clear hK K
  try simp only [Act.put, qT, q0, qS]
  clear hlk
  refine wpAnyH_ready (rs := [7]) (by kernel_rfl) (by simp) ?_
  refine AllReadyH.cons (o := { dst := some 22, op := .call { callee := Go.Callee.value (.tmp 19), args := #[.tmp 20, .tmp 21], argTypes := #[24, 33] }, type := 24, pos := _, after := #[⟨4, .data⟩, ⟨5, .data⟩, ⟨6, .data⟩, ⟨1, .chain⟩], guard := none }) rfl (fun K hK => ?_) AllReadyH.nil
  rw [if_pos (by rfl)]
  go_wp2_with fail
  refine Calls.mono HC.out ?_
  rintro e w5 ⟨rfl, hfr, hpo⟩
  have hYs := PC.row_lt hSY.r
  have hYz : w.heap.size + 1 + 1 < Y.heap.size := by obtain ⟨Z, _, h⟩ := hSY.z; exact PC.row_lt h
  have hkeep : ∀ k, k = w.heap.size ∨ k = w.heap.size + 1 ∨ k = w.heap.size + 1 + 1 → k < Y.heap.size → w5.heap[k]? = Y.heap[k]? := fun k hk hl => hfr.block k hl (fun hS => by have := HO.out.top _ hS; omega)
  have hS5 := hSY.keep hkeep
  obtain ⟨Z5, hz51, hz52⟩ := hS5.z
  have hr6 : (w5.setRow (w.heap.size + 1 + 1) AA).heap[w.heap.size + 1 + 1]? = some (.cells AA 24 (0, 0)) := setRow_heap _ _ _ _ _ _ hz52
  have hS6 : SQ w ML RL (w5.setRow (w.heap.size + 1 + 1) AA) := ⟨(setRow_other _ _ _ _ (by omega)).trans hS5.m, (setRow_other _ _ _ _ (by omega)).trans hS5.r, ⟨AA, HAS.out, hr6⟩⟩
  have HEND : Hid (PR B og mb S w o' dv (.tuple #[.agg AA, .int .i64 0]) (.returned (.tuple #[.agg AA, .int .i64 0])) (w5.setRow (w.heap.size + 1 + 1) AA)) := ⟨rfl, pfin HO.out hB HBY.out hfr hpo ((R5.Fr.refl _ _).setRow _ _ (.inl ⟨by omega, hYz⟩))⟩
  clear hfr hpo hkeep hHeld
  refine hK.out _ _ hS5 (fun _ => ?_)
  clear hK K
  try simp only [Act.put, qT, q0, qS]
  have hHeld := hS5
  refine wpAnyH_ready (rs := [8]) (by kernel_rfl) (by simp) ?_
  refine AllReadyH.cons (o := ⟨none, .store 24 (.tmp 6) (.tmp 22), 0, _, #[⟨7, .data⟩, ⟨7, .chain⟩, ⟨0, .phase⟩, ⟨1, .phase⟩, ⟨2, .phase⟩, ⟨3, .phase⟩, ⟨4, .phase⟩, ⟨5, .phase⟩, ⟨6, .phase⟩, ⟨7, .phase⟩], none⟩) rfl (fun K hK => ?_) AllReadyH.nil
  rw [if_pos (by rfl)]
  refine wp_store_row 24 _ _ rfl (w.heap.size + 1 + 1) AA rfl rfl 24 Z5 hz52 (R5.info32a _ HAS.out) (hz51.trans HAS.out.symm) HA1.out ?_
  refine hK.out _ _ hS6 (fun _ => ?_)
  clear hK K
  try simp only [Act.put, qT, q0, qS]
  have hHeld := hS6
  refine wpAnyH_take (i := 9) (oi := ⟨some 7, .assign (.const (Go.Value.int Go.IntKind.i64 0)), 39, _, #[⟨8, .chain⟩, ⟨0, .phase⟩, ⟨1, .phase⟩, ⟨2, .phase⟩, ⟨3, .phase⟩, ⟨4, .phase⟩, ⟨5, .phase⟩, ⟨6, .phase⟩, ⟨7, .phase⟩, ⟨8, .phase⟩], none⟩) (v := .int .i64 0) rfl (by kernel_rfl) (by kernel_rfl) (by kernel_rfl) (fun _ _ _ h => h) (Or.inl ⟨by rfl, fun w' hw' => ?_⟩) hHeld ?_
  · first | (go_simp; done) | (go_simp; rfl)
  try simp only [Act.put, qT, q0, qS]
  refine wpAnyH_done (by kernel_rfl) ?_ _
  have HR6 : Hid _ := hr6
  clear hHeld hS5 hS6 hz51 hz52 hr6 hSY
  go_wp2
  refine bodyPost_ret (v := .tuple #[.agg AA, .int .i64 0]) ?_ rfl HEND.out
  exact R5.results_dig2 Tryz.results25 _ _ (w.heap.size + 1 + 1) 24 _ (0, 0) _ rfl rfl HR6.out (R5.info32a _ HAS.out)
set_option maxHeartbeats 1000000 in
set_option maxRecDepth 100000 in
theorem ms_ok3 {B og mb : Nat} {S : Nat → Prop} {dv ov : Value} {o o' : R5.Pra} {m A : List UInt8} {r : Rd} {w : World} (hB : B ≤ w.heap.size) (hll : o.log.length < 1000000) (ho : R5.PO B og mb S w o dv ov) (hm : m.length = 32) (hr : r.ok) (hmay : mayD r = true) (hA : A.length = 32) (hR : nxP o (qOf m r) = (A, o')) (hf : fOf r = 51) :
    Calls Tryz.prog 25 #[.pointer (some ⟨og, 0, none⟩), .agg (m.map B8).toArray, .agg (rdL r).toArray] w fun e w' => PR B og mb S w o' dv (.tuple #[.agg (A.map B8).toArray, .int .i64 0]) e w' := by
  have hz := fun W => R5.zero_dig W
  obtain ⟨ZL, hZL⟩ : ∃ L, L = (List.replicate 32 (0 : UInt8)).map B8 := ⟨_, rfl⟩
  rw [← hZL] at hz
  have HZS : Hid (ZL.toArray.size = 32) := by show _ = _; rw [hZL]; simp
  have HZ1 : Hid (ZL.toArray.all (·.oneCell') = true) := by show _ = _; rw [hZL]; exact R5.B8_onea _
  obtain ⟨V1, hV1⟩ : ∃ W1, W1 = ((w.alloc (.cells (m.map B8).toArray 24 (0, 0))).alloc (.cells (rdL r).toArray 33 (0, 0))).alloc (.cells ZL.toArray 24 (0, 0)) := ⟨_, rfl⟩
  obtain ⟨hb1, hs1, hr0, hr1, hr2⟩ := alloc3 w _ _ _ _ _ _ V1 hV1
  have HSQ : Hid (SQ w (m.map B8) (rdL r) V1) := ⟨hr0, hr1, ⟨_, HZS.out, hr2⟩⟩
  have HR2 : Hid (V1.heap[w.heap.size + 1 + 1]? = some (.cells ZL.toArray 24 (0, 0))) := hr2
  have HB1 : Hid (Below w.heap.size w V1) := hb1
  have HS1 : Hid (V1.heap.size = w.heap.size + 3) := hs1
  have HRI : Hid _ := info172 (rdL r) (rdL_len hr)
  have HMI : Hid _ := R5.info32 (m.map B8) (by simpa using hm)
  have HK0 : Hid ((rdL r)[0]? = some (.int .i64 r.kind)) := rdL_0 r
  have HBD : Hid (∀ W, (Instr.build 24 #[]).run Tryz.prog W = .ok (.agg ZL.toArray) W) := fun W => by rw [hZL]; exact R5.build_dig W
  have hc := ho.cells.2.2.2.1
  have HNO : Hid (Calls Tryz.prog 24 #[.pointer (some ⟨og, 0, none⟩)] V1 fun e w' => e = .returned (.bool false) ∧ Below V1.heap.size V1 w') := noOr_no og mb V1 ((hb1.cell (block_lt hc)).trans hc)
  have HMAY : Hid (∀ W, Calls Tryz.prog 8 #[.agg (rdL r).toArray] W fun e w' => e = .returned (.bool true) ∧ Below W.heap.size W w') := fun W => by have := may_any r W hr; rw [hmay] at this; exact this
  have HMS : Hid (∀ W, Calls Tryz.prog 37 #[.pointer (some ⟨og, 0, none⟩)] W fun e w' => MzEnd og W e w') := fun W => measurers_any og W
  have HCL : Hid (∀ (W : World) (b1 b2 mp : Nat), Below w.heap.size w W → MZ og b1 b2 mp W → w.heap.size ≤ b2 → Calls Tryz.prog 51 #[.agg (m.map B8).toArray, .agg (rdL r).toArray, .pointer (some ⟨b2, 0, none⟩)] W fun e w' => PR B og mb S W o' dv (.agg (A.map B8).toArray) e w') := fun W b1 b2 mp hb hz hlow => by rw [← hf]; exact cl_any (Nat.le_trans hB hb.size) hll (ho.below hb) hz (fun hS => by have := ho.top _ hS; omega) hm hr hmay hA hR
  have HLK : Hid (∀ (W : World) (b1 b2 mp : Nat), MZ og b1 b2 mp W → (Instr.lookup 87 (.map (some mp)) (.int .i64 r.kind) false).run Tryz.prog W = .ok (.func (.func 51) #[] #[.pointer (some ⟨b2, 0, none⟩)]) W) := fun W b1 b2 mp hz => by have := mz_get hz (f_mem hmay b2); rw [hf] at this; exact this
  have HAS : Hid ((A.map B8).toArray.size = 32) := by show _ = _; simpa using hA
  have HA1 : Hid _ := R5.B8_onea A
  have HO : Hid (R5.PO B og mb S w o dv ov) := ho
  rw [hV1] at HNO
  clear hZL hb1 hs1 hr0 hr1 hr2 hm hr hmay hc ho hA hR hf
  generalize rdL r = RL at *
  generalize m.map B8 = ML at *
  generalize (A.map B8).toArray = AA at *
  generalize r.kind = kd at *
  go_enter Tryz.func25, Tryz.ntmps25
  go_wp2_with fail
  refine Calls.mono HNO.out ?_
  rintro e w2 ⟨rfl, hb2⟩
  rw [← hV1] at hb2
  have HQ2 : Hid (SQ w ML RL w2) := HSQ.out.below hb2
  have HB2 : Hid (Below w.heap.size w w2) := HB1.out.trans (hb2.mono HB1.out.size)
  have HRR : Hid _ := PC.rangeAt_row HQ2.out.r
  clear hb2 HNO hV1
  go_wp2_with (refine wpList_load_mid rfl 33 _ rfl (w.heap.size + 1) 0 rfl RL _ HRR.out Tryz.underlying33 rfl HRI.out ?_)
  refine Calls.mono (HMAY.out _) ?_
  rintro e w3 ⟨rfl, hb3⟩
  have HQ3 : Hid (SQ w ML RL w3.drew) := (HQ2.out.below hb3).drew
  have HB3 : Hid (Below w.heap.size w w3.drew) := (HB2.out.trans (hb3.mono HB2.out.size)).drew
  clear hb3 HRR
  go_wp2
  refine wp_region_held_drew (S := SQ w ML RL) (by kernel_rfl) HQ3.out (fun hHeld => ?_)
  generalize w3.drew = X at *
  refine wpAnyH_take (i := 0) (oi := ⟨some 15, .move (.tmp 0), 35, _, #[], none⟩) (v := .pointer (some ⟨og, 0, none⟩)) rfl (by kernel_rfl) (by kernel_rfl) (by kernel_rfl) (fun _ _ _ h => h) (Or.inl ⟨by rfl, fun w' hw' => ?_⟩) hHeld ?_
  · first | (go_simp; done) | (go_simp; rfl)
  try simp only [Act.put, qT, q0, qS]
  refine wpAnyH_take (i := 2) (oi := ⟨some 17, .fieldAddr 33 (.tmp 5) 0, 0, _, #[], none⟩) (v := .pointer (some ⟨w.heap.size + 1, 0, none⟩)) rfl (by kernel_rfl) (by kernel_rfl) (by kernel_rfl) (fun _ _ _ h => h) (Or.inl ⟨by rfl, fun w' hw' => ?_⟩) hHeld ?_
  · first | (go_simp; done) | (go_simp; rfl)
  try simp only [Act.put, qT, q0, qS]
  refine wpAnyH_take (i := 3) (oi := ⟨some 18, .load 25 (.tmp 17), 25, _, #[⟨2, .data⟩], none⟩) (v := .int .i64 kd) rfl (by kernel_rfl) (by kernel_rfl) (by kernel_rfl) (fun _ _ _ h => h) (Or.inl ⟨by rfl, fun w' hw' => ?_⟩) hHeld ?_
  · have h00 := (PC.rangeAt_row hw'.r) 0 _ HK0.out; rw [Nat.zero_add] at h00; first | (go_simp; done) | (go_simp; rfl)
  try simp only [Act.put, qT, q0, qS]
  refine wpAnyH_take (i := 5) (oi := ⟨some 20, .load 24 (.tmp 4), 24, _, #[], none⟩) rfl (by kernel_rfl) (by kernel_rfl) (by kernel_rfl) (fun _ _ _ h => h) (yieldsIf_load_mid (by rfl) 24 (.tmp 4) rfl (w.heap.size) (0) rfl (ML) _ (fun _ h => PC.rangeAt_row h.m) Tryz.underlying24 rfl HMI.out) hHeld ?_
  try simp only [Act.put, qT, q0, qS]
  refine wpAnyH_take (i := 6) (oi := ⟨some 21, .load 33 (.tmp 5), 33, _, #[], none⟩) rfl (by kernel_rfl) (by kernel_rfl) (by kernel_rfl) (fun _ _ _ h => h) (yieldsIf_load_mid (by rfl) 33 (.tmp 5) rfl (w.heap.size + 1) (0) rfl (RL) _ (fun _ h => PC.rangeAt_row h.r) Tryz.underlying33 rfl HRI.out) hHeld ?_
  try simp only [Act.put, qT, q0, qS]
  refine wpAnyH_ready (rs := [1]) (by kernel_rfl) (by simp) ?_
  refine AllReadyH.cons (o := { dst := some 16, op := .call { callee := Go.Callee.value (.func 37), args := #[.tmp 15], argTypes := #[35] }, type := 87, pos := _, after := #[⟨0, .data⟩], guard := none }) rfl (fun K hK => ?_) AllReadyH.nil
  rw [if_pos (by rfl)]
  go_wp2_with fail
  refine Calls.mono (HMS.out X) ?_
  rintro e Y ⟨b1, b2, mp, rfl, hmz, hl1, hl2, hl3, hbY⟩
  have hSY := hHeld.below hbY
  have HBY : Hid (Below w.heap.size w Y) := HB3.out.trans (hbY.mono HB3.out.size)
  have hX := HB3.out.size
  clear hHeld hbY
  refine hK.out _ _ hSY (fun _ => ?_)
  clear hK K
  try simp only [Act.put, qT, q0, qS]
  have hHeld := hSY
  have hlk := HLK.out Y b1 b2 mp hmz
  have HC : Hid (Calls Tryz.prog 51 #[.agg ML.toArray, .agg RL.toArray, .pointer (some ⟨b2, 0, none⟩)] Y fun e w' => PR B og mb S Y o' dv (.agg AA) e w') := HCL.out Y b1 b2 mp HBY.out hmz (by omega)
  clear hmz hl1 hl2 hl3
  refine wpAnyH_ready (rs := [4]) (by kernel_rfl) (by simp) ?_
  refine AllReadyH.cons (o := ⟨some 19, .lookup 87 (.tmp 16) (.tmp 18) false, 90, _, #[⟨1, .data⟩, ⟨3, .data⟩], none⟩) rfl (fun K hK => ?_) AllReadyH.nil
  rw [if_pos (by rfl)]
  go_wp2_with fail
  refine hK.out _ _ hSY (fun _ => ?_)
  clear hK K
  try simp only [Act.put, qT, q0, qS]
  clear hlk
  refine wpAnyH_ready (rs := [7]) (by kernel_rfl) (by simp) ?_
  refine AllReadyH.cons (o := { dst := some 22, op := .call { callee := Go.Callee.value (.tmp 19), args := #[.tmp 20, .tmp 21], argTypes := #[24, 33] }, type := 24, pos := _, after := #[⟨4, .data⟩, ⟨5, .data⟩, ⟨6, .data⟩, ⟨1, .chain⟩], guard := none }) rfl (fun K hK => ?_) AllReadyH.nil
  rw [if_pos (by rfl)]
  go_wp2_with fail
  refine Calls.mono HC.out ?_
  rintro e w5 ⟨rfl, hfr, hpo⟩
  have hYs := PC.row_lt hSY.r
  have hYz : w.heap.size + 1 + 1 < Y.heap.size := by obtain ⟨Z, _, h⟩ := hSY.z; exact PC.row_lt h
  have hkeep : ∀ k, k = w.heap.size ∨ k = w.heap.size + 1 ∨ k = w.heap.size + 1 + 1 → k < Y.heap.size → w5.heap[k]? = Y.heap[k]? := fun k hk hl => hfr.block k hl (fun hS => by have := HO.out.top _ hS; omega)
  have hS5 := hSY.keep hkeep
  obtain ⟨Z5, hz51, hz52⟩ := hS5.z
  have hr6 : (w5.setRow (w.heap.size + 1 + 1) AA).heap[w.heap.size + 1 + 1]? = some (.cells AA 24 (0, 0)) := setRow_heap _ _ _ _ _ _ hz52
  have hS6 : SQ w ML RL (w5.setRow (w.heap.size + 1 + 1) AA) := ⟨(setRow_other _ _ _ _ (by omega)).trans hS5.m, (setRow_other _ _ _ _ (by omega)).trans hS5.r, ⟨AA, HAS.out, hr6⟩⟩
  have HEND : Hid (PR B og mb S w o' dv (.tuple #[.agg AA, .int .i64 0]) (.returned (.tuple #[.agg AA, .int .i64 0])) (w5.setRow (w.heap.size + 1 + 1) AA)) := ⟨rfl, pfin HO.out hB HBY.out hfr hpo ((R5.Fr.refl _ _).setRow _ _ (.inl ⟨by omega, hYz⟩))⟩
  clear hfr hpo hkeep hHeld
  refine hK.out _ _ hS5 (fun _ => ?_)
  clear hK K
  try simp only [Act.put, qT, q0, qS]
  have hHeld := hS5
  refine wpAnyH_ready (rs := [8]) (by kernel_rfl) (by simp) ?_
  refine AllReadyH.cons (o := ⟨none, .store 24 (.tmp 6) (.tmp 22), 0, _, #[⟨7, .data⟩, ⟨7, .chain⟩, ⟨0, .phase⟩, ⟨1, .phase⟩, ⟨2, .phase⟩, ⟨3, .phase⟩, ⟨4, .phase⟩, ⟨5, .phase⟩, ⟨6, .phase⟩, ⟨7, .phase⟩], none⟩) rfl (fun K hK => ?_) AllReadyH.nil
  rw [if_pos (by rfl)]
  refine wp_store_row 24 _ _ rfl (w.heap.size + 1 + 1) AA rfl rfl 24 Z5 hz52 (R5.info32a _ HAS.out) (hz51.trans HAS.out.symm) HA1.out ?_
  refine hK.out _ _ hS6 (fun _ => ?_)
  clear hK K
  try simp only [Act.put, qT, q0, qS]
  have hHeld := hS6
  refine wpAnyH_take (i := 9) (oi := ⟨some 7, .assign (.const (Go.Value.int Go.IntKind.i64 0)), 39, _, #[⟨8, .chain⟩, ⟨0, .phase⟩, ⟨1, .phase⟩, ⟨2, .phase⟩, ⟨3, .phase⟩, ⟨4, .phase⟩, ⟨5, .phase⟩, ⟨6, .phase⟩, ⟨7, .phase⟩, ⟨8, .phase⟩], none⟩) (v := .int .i64 0) rfl (by kernel_rfl) (by kernel_rfl) (by kernel_rfl) (fun _ _ _ h => h) (Or.inl ⟨by rfl, fun w' hw' => ?_⟩) hHeld ?_
  · first | (go_simp; done) | (go_simp; rfl)
  try simp only [Act.put, qT, q0, qS]
  refine wpAnyH_done (by kernel_rfl) ?_ _
  have HR6 : Hid _ := hr6
  clear hHeld hS5 hS6 hz51 hz52 hr6 hSY
  go_wp2
  refine bodyPost_ret (v := .tuple #[.agg AA, .int .i64 0]) ?_ rfl HEND.out
  exact R5.results_dig2 Tryz.results25 _ _ (w.heap.size + 1 + 1) 24 _ (0, 0) _ rfl rfl HR6.out (R5.info32a _ HAS.out)
theorem ms_ok {B og mb : Nat} {S : Nat → Prop} {dv ov : Value} {o o' : R5.Pra} {m A : List UInt8} {r : Rd} {w : World} (hB : B ≤ w.heap.size) (hll : o.log.length < 1000000) (ho : R5.PO B og mb S w o dv ov) (hm : m.length = 32) (hr : r.ok) (hmay : mayD r = true) (hA : A.length = 32) (hR : nxP o (qOf m r) = (A, o')) :
    Calls Tryz.prog 25 #[.pointer (some ⟨og, 0, none⟩), .agg (m.map B8).toArray, .agg (rdL r).toArray] w fun e w' => PR B og mb S w o' dv (.tuple #[.agg (A.map B8).toArray, .int .i64 0]) e w' := by
  rcases mayD_kind hmay with e | e | e
  · exact ms_ok1 hB hll ho hm hr hmay hA hR (by unfold fOf; rw [if_pos e])
  · exact ms_ok2 hB hll ho hm hr hmay hA hR (by unfold fOf; rw [if_neg (by rw [e]; decide), if_pos e])
  · exact ms_ok3 hB hll ho hm hr hmay hA hR (by unfold fOf; rw [if_neg (by rw [e]; decide), if_neg (by rw [e]; decide)])
end Go.Proofs.YtpmknkagnkagpaaGreat.ZC
