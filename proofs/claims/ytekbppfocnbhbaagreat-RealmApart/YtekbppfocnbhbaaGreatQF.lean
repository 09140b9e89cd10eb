import Derived.Test.YtekbppfocnbhbaaGreatQE
set_option linter.unusedVariables false
set_option linter.unusedSimpArgs false
set_option maxHeartbeats 16000000
set_option maxRecDepth 100000
namespace Go.Proofs.YtekbppfocnbhbaaGreat.R5
open scoped Classical
open Go.RowKit
open Go.ChangeMaps (setBlock heap_setBlock_same heap_setBlock_other)
def PAns (B og mb : Nat) (S : Nat → Prop) (w : World) (o' : Pra) (dv : Value) (A : List UInt8) (e : Ending) (w' : World) : Prop :=
  e = .returned (dV A) ∧ Fr S w w' ∧ ∃ ov', PO B og mb (fun k => S k ∨ (w.heap.size ≤ k ∧ k < w'.heap.size)) w' o' dv ov'
theorem panswer_found (B og mb : Nat) (S : Nat → Prop) (dq dv ov : Value) (o : Pra) (q : Qn) (A : List UInt8) (fv : Value) (w : World) (hB : B ≤ w.heap.size) (ho : PO B og mb S w o dv ov) (hq : kOk q) (hdq : HB w dq q.data) (hf : fndA q o.log = some A) :
    Calls Tryz.prog 94 #[.pointer (some ⟨og, 0, none⟩), .agg (qL q dq).toArray, fv] w fun e w' => PAns B og mb S w o dv A e w' := by
  have HAl : Hid (A.length = 32) := (ho.ok.all _ (fndA_some hf)).2
  have hfs : (fndA q o.log).isSome = true := by rw [hf]; rfl
  obtain ⟨RL, hRL⟩ : ∃ L, L = A.map B8 := ⟨_, rfl⟩
  have hlv : lookV o.log q = .agg RL.toArray := by rw [hRL]; unfold lookV; rw [hf]; rfl
  have HRS : Hid (RL.toArray.size = 32) := by show _ = _; rw [hRL]; simpa using HAl.out
  have HR1 : Hid (RL.toArray.all (·.oneCell') = true) := by show _ = _; rw [hRL]; exact B8_onea _
  have HPA : Hid (dV A = .agg RL.toArray) := by show _ = _; rw [hRL]; rfl
  have HRI : Hid _ := info32a RL.toArray HRS.out
  clear hRL
  have hqk := hq.key
  have hc1 := conv_hb _ dq q.data (hb_alloc (hb_alloc hdq (.cells (qL q dq).toArray 138 (0, 0))) (.cells ((List.replicate 32 (0 : UInt8)).map B8).toArray 33 (0, 0)))
  obtain ⟨c0, c33, c34, c35, cf⟩ := ho.cells
  have hbk := fun W => build_kq W q.kind q.dom (txt q.data) (q.key.map B8) (by simpa using hqk)
  have hkL : Value.int .i64 q.kind :: (q.key.map B8 ++ [Value.int .i64 q.dom, .string (txt q.data)]) = kL q := rfl
  rw [hkL] at hbk
  clear hkL
  have hzv := fun W => zero_dig W
  have hzk := fun W => zero_kq W
  have hKl := kL_len q hqk
  have HK1 : Hid _ := kL_onea q
  have hlk := fun (W : World) (h : MH W mb o.log) => mh_look ho.ok h hq true (zero_dig W)
  obtain ⟨a0, a1, a2, a3⟩ := q_facts hqk (alloc2_first w (.cells (qL q dq).toArray 138 (0, 0)) (.cells ((List.replicate 32 (0 : UInt8)).map B8).toArray 33 (0, 0)))
  have HI1 : Hid _ := info32 (q.key.map B8) (by simpa using hqk)
  have hZ1 := B8_onea (List.replicate 32 (0 : UInt8))
  unfold kV at hlk
  simp only [hlv, hfs, if_true] at hlk
  obtain ⟨ZL, hZL⟩ : ∃ L, L = (List.replicate 32 (0 : UInt8)).map B8 := ⟨_, rfl⟩
  try rw [← hZL] at hlk
  rw [← hZL] at hzv hc1 a0 a1 a2 a3 hZ1
  have HZS : Hid (ZL.toArray.size = 32) := by show _ = _; rw [hZL]; simp
  obtain ⟨QL, hQL⟩ : ∃ L, L = qL q dq := ⟨_, rfl⟩
  rw [← hQL] at hc1 a0 a1 a2 a3 ⊢
  obtain ⟨KL, hKL⟩ : ∃ L, L = kL q := ⟨_, rfl⟩
  rw [← hKL] at hbk hKl HK1 hlk
  have HKS : Hid (KL.toArray.size = 35) := by show _ = _; simpa using hKl
  have HKI : Hid _ := info35ka KL.toArray HKS.out
  have HKL : Hid _ := hKL
  have HKN : Hid _ := hKl
  obtain ⟨ZK, hZK⟩ : ∃ A, A = zKq := ⟨_, rfl⟩
  rw [← hZK] at hzk
  have HZKS : Hid (ZK.size = 35) := by show _ = _; rw [hZK]; kernel_rfl
  have HA1 : Hid _ := a1
  have HX2 : Hid ((((w.alloc (.cells QL.toArray 138 (0, 0))).alloc (.cells ZL.toArray 33 (0, 0))).alloc (.cells ZK 120 (0, 0))).heap[w.heap.size + 1 + 1]? = some (.cells ZK 120 (0, 0))) := heap_at _ _ _ (by simp)
  have hS2 : S2 w QL KL ZL.toArray ((((w.alloc (.cells QL.toArray 138 (0, 0))).alloc (.cells ZL.toArray 33 (0, 0))).alloc (.cells ZK 120 (0, 0))).setRow (w.heap.size + 1 + 1) KL.toArray).drew := by
    refine S2.drew ⟨?_, ?_, ?_, setRow_heap _ _ _ _ _ _ HX2.out⟩
    · exact below_setRow ((((Below.refl _ _).alloc (Nat.le_refl _) _).alloc (by simp) _).alloc (by simp; omega) _) (by omega) _
    · rw [setRow_other _ _ _ _ (by omega), Below.heap_alloc _ _ _ (by simp; omega), alloc2_first]
    · rw [setRow_other _ _ _ _ (by omega), Below.heap_alloc _ _ _ (by simp)]; exact heap_at _ _ _ (by simp)
  have HS2 : Hid _ := hS2
  have HC35 : Hid _ := c35
  have HLK : Hid _ := hlk
  have HO : Hid _ := ho
  have HDQ : Hid _ := hdq
  have hog := row_lt ho.row
  clear hQL hZL hKL hZK a1 hS2 c35 c0 c33 c34 cf hlk ho hdq hKl
  go_enter Tryz.func94, Tryz.ntmps94
  go_wp2_with (first
    | (refine wpList_load_mid rfl 33 _ rfl w.heap.size 1 rfl (q.key.map B8) _ HA1.out Tryz.underlying33 rfl HI1.out ?_)
    | (refine wpList_build rfl 120 _ rfl _ (.agg KL.toArray) (by simp; exact ⟨rfl, rfl, rfl, rfl⟩) (hbk _) ?_)
    | (refine wpList_store_row rfl 120 _ _ rfl (w.heap.size + 1 + 1) KL.toArray rfl rfl 120 ZK HX2.out HKI.out (HZKS.out.trans HKS.out.symm) HK1.out ?_))
  refine wp_region_held_drew (S := S2 w QL KL ZL.toArray) (by kernel_rfl) HS2.out (fun hHeld => ?_)
  generalize ((((w.alloc (.cells QL.toArray 138 (0, 0))).alloc (.cells ZL.toArray 33 (0, 0))).alloc (.cells ZK 120 (0, 0))).setRow (w.heap.size + 1 + 1) KL.toArray).drew = W at *
  have HKI2 : Hid ((Tryz.prog.info? 120).map (·.size) = some KL.length) := by have := HKI.out; rwa [List.size_toArray] at this
  refine qzI 0 ⟨some 22, .move (.tmp 0), 25, _, #[], none⟩ (.pointer (some ⟨og, 0, none⟩)) rfl (by kernel_rfl) (fun _ _ _ h => h) (by rfl) (fun w' hw' => ?_) hHeld ?_
  · go_simp <;> rfl
  try simp only [Act.put, qT, q0, qS]
  refine qzI 1 ⟨some 23, .nilCheck (.tmp 22), 0, _, #[⟨0, .data⟩], none⟩ (.pointer (some ⟨og, 0, none⟩)) rfl (by kernel_rfl) (fun _ _ _ h => h) (by rfl) (fun w' hw' => ?_) hHeld ?_
  · go_simp <;> rfl
  try simp only [Act.put, qT, q0, qS]
  refine qzI 2 ⟨some 24, .fieldAddr 116 (.tmp 23) 4, 0, _, #[⟨1, .data⟩], none⟩ (.pointer (some ⟨og, 35, none⟩)) rfl (by kernel_rfl) (fun _ _ _ h => h) (by rfl) (fun w' hw' => ?_) hHeld ?_
  · go_simp <;> rfl
  try simp only [Act.put, qT, q0, qS]
  refine qzI 3 ⟨some 25, .load 114 (.tmp 24), 114, _, #[⟨2, .data⟩], none⟩ (.map (some mb)) rfl (by kernel_rfl) (fun _ _ _ h => h) (by rfl) (fun w' hw' => ?_) hHeld ?_
  · have hcc := (hw'.bel.cell (show (⟨og, 35, none⟩ : Addr).block < w.heap.size from hog)).trans HC35.out; go_simp <;> rfl
  try simp only [Act.put, qT, q0, qS]
  refine qzK 4 ⟨some 26, .load 120 (.tmp 7), 120, _, #[], none⟩ _ rfl (by kernel_rfl) (fun _ _ _ h => h) (yieldsIf_load_mid (by rfl) 120 (.tmp 7) rfl (w.heap.size + 1 + 1) (0) rfl (KL) _ (fun _ h => rangeAt_row h.k) Tryz.underlying120 rfl HKI2.out) hHeld ?_
  try simp only [Act.put, qT, q0, qS]
  refine qzI 5 ⟨some 27, .lookup 114 (.tmp 25) (.tmp 26) true, 171, _, #[⟨3, .data⟩, ⟨4, .data⟩], none⟩ (.tuple #[.agg RL.toArray, .bool true]) rfl (by kernel_rfl) (fun _ _ _ h => h) (by rfl) (fun w' hw' => ?_) hHeld ?_
  · have hll := HLK.out w' (HO.out.map.keep (hw'.bel.block _ HO.out.map.lt)); go_simp <;> rfl
  try simp only [Act.put, qT, q0, qS]
  refine qzI 6 ⟨some 21, .move (.tmp 27), 171, _, #[⟨5, .data⟩], none⟩ (.tuple #[.agg RL.toArray, .bool true]) rfl (by kernel_rfl) (fun _ _ _ h => h) (by rfl) (fun w' hw' => ?_) hHeld ?_
  · go_simp <;> rfl
  try simp only [Act.put, qT, q0, qS]
  refine qzI 7 ⟨some 28, .extract (.tmp 21) 0, 33, _, #[⟨6, .data⟩], none⟩ (.agg RL.toArray) rfl (by kernel_rfl) (fun _ _ _ h => h) (by rfl) (fun w' hw' => ?_) hHeld ?_
  · go_simp <;> rfl
  try simp only [Act.put, qT, q0, qS]
  refine qzI 8 { dst := some 29, op := .extract (.tmp 21) 1, type := 4, pos := _, after := #[⟨6, .data⟩, { on := 10, ground := .gcOnly Go.Departure.lateStores }], guard := none } (.bool true) rfl (by kernel_rfl) (fun _ _ _ h => h) (by rfl) (fun w' hw' => ?_) hHeld ?_
  · go_simp <;> rfl
  try simp only [Act.put, qT, q0, qS]
  have hHeld1 := hHeld.alloc (.cells ZL.toArray 33 (0, 0))
  have HWN : Hid ((W.alloc (.cells ZL.toArray 33 (0, 0))).heap[W.heap.size]? = some (.cells ZL.toArray 33 (0, 0))) := heap_at _ _ _ rfl
  refine qzR 9 ⟨some 8, .alloc 33, 0, _, #[], none⟩ (by kernel_rfl) rfl (by rfl) (fun K hK => ?_)
  go_wp2_with fail
  refine hK.out _ _ hHeld1 (fun _ => ?_)
  clear hK K
  try simp only [Act.put, qT, q0, qS]
  have hsW : w.heap.size + 3 ≤ W.heap.size := by have := row_lt hHeld.k; omega
  refine qzR 10 { dst := none, op := .store 33 (.tmp 8) (.tmp 28), type := 0, pos := _, after := #[⟨9, .data⟩, ⟨7, .data⟩, ⟨0, .phase⟩, ⟨1, .phase⟩, ⟨2, .phase⟩, ⟨3, .phase⟩, ⟨4, .phase⟩, ⟨5, .phase⟩, ⟨6, .phase⟩, ⟨7, .phase⟩, { on := 8, ground := .textOnly Go.Departure.lateStores }, ⟨9, .phase⟩], guard := none } (by kernel_rfl) rfl (by rfl) (fun K hK => ?_)
  refine wp_store_row 33 _ _ rfl W.heap.size RL.toArray rfl rfl 33 _ HWN.out HRI.out (HZS.out.trans HRS.out.symm) HR1.out ?_
  have hHeld2 := hHeld1.step (below_setRow (Below.refl _ _) hsW RL.toArray)
  refine hK.out _ _ hHeld2 (fun _ => ?_)
  clear hK K
  try simp only [Act.put, qT, q0, qS]
  refine qzR 11 ⟨some 9, .assign (.tmp 29), 4, _, #[⟨8, .data⟩, ⟨10, .chain⟩, ⟨0, .phase⟩, ⟨1, .phase⟩, ⟨2, .phase⟩, ⟨3, .phase⟩, ⟨4, .phase⟩, ⟨5, .phase⟩, ⟨6, .phase⟩, ⟨7, .phase⟩, ⟨8, .phase⟩, ⟨9, .phase⟩, ⟨10, .phase⟩], none⟩ (by kernel_rfl) rfl (by rfl) (fun K hK => ?_)
  go_wp2_with fail
  refine hK.out _ _ hHeld2 (fun _ => ?_)
  clear hK K
  try simp only [Act.put, qT, q0, qS]
  refine wpAnyH_done (by kernel_rfl) ?_ _
  have HXR : Hid _ := setRow_heap _ _ _ RL.toArray _ _ HWN.out
  have HXZ : Hid _ := hHeld2.z
  have HXB : Hid _ := hHeld2.bel
  clear hHeld hHeld1 hHeld2
  generalize (W.alloc (.cells ZL.toArray 33 (0, 0))).setRow W.heap.size RL.toArray = X at *
  go_wp2_with (first
    | (refine wpList_load_row rfl 33 _ rfl W.heap.size rfl 33 RL.toArray (0, 0) _ HXR.out Tryz.underlying33 rfl HRI.out ?_)
    | (refine wpList_store_row rfl 33 _ _ rfl (w.heap.size + 1) RL.toArray rfl rfl 33 ZL.toArray HXZ.out HRI.out (HZS.out.trans HRS.out.symm) HR1.out ?_))
  have hbX : Below w.heap.size w (X.setRow (w.heap.size + 1) RL.toArray) := below_setRow HXB.out (by omega) _
  refine bodyPost_ret (v := .agg RL.toArray) ?_ rfl ⟨by rw [HPA.out], Fr.ofBelow hbX, ov, HO.out.grow hbX hB⟩
  exact results_cell_row Tryz.results94 _ _ (w.heap.size + 1) 33 _ (0, 0) _ rfl (setRow_heap _ _ _ _ _ _ HXZ.out) Tryz.underlying33 rfl HRI.out
theorem panswer_draw (B og mb : Nat) (S : Nat → Prop) (dq dv ov : Value) (o : Pra) (q : Qn) (w : World) (hB : B ≤ w.heap.size) (hll : o.log.length < 1000000) (ho : PO B og mb S w o dv ov) (hq : kOk q) (hdq : HB w dq q.data) (hf : fndA q o.log = none) :
    Calls Tryz.prog 94 #[.pointer (some ⟨og, 0, none⟩), .agg (qL q dq).toArray, .func (.func 95) #[.pointer (some ⟨og, 0, none⟩)] #[]] w fun e w' => PAns B og mb S w { o with log := o.log ++ [(q, drawD o.draws o.log.length)] } dv (drawD o.draws o.log.length) e w' := by
  obtain ⟨D, hD⟩ : ∃ D, D = drawD o.draws o.log.length := ⟨_, rfl⟩
  rw [← hD]
  have HDD : Hid _ := hD
  clear hD
  have hfs : (fndA q o.log).isSome = false := by rw [hf]; rfl
  have hlv : lookV o.log q = .agg ((List.replicate 32 (0 : UInt8)).map B8).toArray := by unfold lookV; rw [hf]; rfl
  have hqk := hq.key
  have hc1 := conv_hb _ dq q.data (hb_alloc (hb_alloc hdq (.cells (qL q dq).toArray 138 (0, 0))) (.cells ((List.replicate 32 (0 : UInt8)).map B8).toArray 33 (0, 0)))
  obtain ⟨c0, c33, c34, c35, cf⟩ := ho.cells
  have hbk := fun W => build_kq W q.kind q.dom (txt q.data) (q.key.map B8) (by simpa using hqk)
  have hkL : Value.int .i64 q.kind :: (q.key.map B8 ++ [Value.int .i64 q.dom, .string (txt q.data)]) = kL q := rfl
  rw [hkL] at hbk
  clear hkL
  have hzv := fun W => zero_dig W
  have hzk := fun W => zero_kq W
  have hKl := kL_len q hqk
  have HK1 : Hid _ := kL_onea q
  have hlk := fun (W : World) (h : MH W mb o.log) => mh_look ho.ok h hq true (zero_dig W)
  obtain ⟨a0, a1, a2, a3⟩ := q_facts hqk (alloc2_first w (.cells (qL q dq).toArray 138 (0, 0)) (.cells ((List.replicate 32 (0 : UInt8)).map B8).toArray 33 (0, 0)))
  have HI1 : Hid _ := info32 (q.key.map B8) (by simpa using hqk)
  have hZ1 := B8_onea (List.replicate 32 (0 : UInt8))
  unfold kV at hlk
  simp only [hlv, hfs, if_true] at hlk
  obtain ⟨ZL, hZL⟩ : ∃ L, L = (List.replicate 32 (0 : UInt8)).map B8 := ⟨_, rfl⟩
  try rw [← hZL] at hlk
  rw [← hZL] at hzv hc1 a0 a1 a2 a3 hZ1
  have HZS : Hid (ZL.toArray.size = 32) := by show _ = _; rw [hZL]; simp
  obtain ⟨QL, hQL⟩ : ∃ L, L = qL q dq := ⟨_, rfl⟩
  rw [← hQL] at hc1 a0 a1 a2 a3 ⊢
  obtain ⟨KL, hKL⟩ : ∃ L, L = kL q := ⟨_, rfl⟩
  rw [← hKL] at hbk hKl HK1 hlk
  have HKS : Hid (KL.toArray.size = 35) := by show _ = _; simpa using hKl
  have HKI : Hid _ := info35ka KL.toArray HKS.out
  have HKL : Hid _ := hKL
  have HKN : Hid _ := hKl
  obtain ⟨ZK, hZK⟩ : ∃ A, A = zKq := ⟨_, rfl⟩
  rw [← hZK] at hzk
  have HZKS : Hid (ZK.size = 35) := by show _ = _; rw [hZK]; kernel_rfl
  have HA1 : Hid _ := a1
  have HX2 : Hid ((((w.alloc (.cells QL.toArray 138 (0, 0))).alloc (.cells ZL.toArray 33 (0, 0))).alloc (.cells ZK 120 (0, 0))).heap[w.heap.size + 1 + 1]? = some (.cells ZK 120 (0, 0))) := heap_at _ _ _ (by simp)
  have hS2 : S2 w QL KL ZL.toArray ((((w.alloc (.cells QL.toArray 138 (0, 0))).alloc (.cells ZL.toArray 33 (0, 0))).alloc (.cells ZK 120 (0, 0))).setRow (w.heap.size + 1 + 1) KL.toArray).drew := by
    refine S2.drew ⟨?_, ?_, ?_, setRow_heap _ _ _ _ _ _ HX2.out⟩
    · exact below_setRow ((((Below.refl _ _).alloc (Nat.le_refl _) _).alloc (by simp) _).alloc (by simp; omega) _) (by omega) _
    · rw [setRow_other _ _ _ _ (by omega), Below.heap_alloc _ _ _ (by simp; omega), alloc2_first]
    · rw [setRow_other _ _ _ _ (by omega), Below.heap_alloc _ _ _ (by simp)]; exact heap_at _ _ _ (by simp)
  have HS2 : Hid _ := hS2
  have HC35 : Hid _ := c35
  have HLK : Hid _ := hlk
  have HO : Hid _ := ho
  have HDQ : Hid _ := hdq
  have hog := row_lt ho.row
  clear hQL hZL hKL hZK a1 hS2 c35 c0 c33 c34 cf hlk ho hdq hKl
  go_enter Tryz.func94, Tryz.ntmps94
  go_wp2_with (first
    | (refine wpList_load_mid rfl 33 _ rfl w.heap.size 1 rfl (q.key.map B8) _ HA1.out Tryz.underlying33 rfl HI1.out ?_)
    | (refine wpList_build rfl 120 _ rfl _ (.agg KL.toArray) (by simp; exact ⟨rfl, rfl, rfl, rfl⟩) (hbk _) ?_)
    | (refine wpList_store_row rfl 120 _ _ rfl (w.heap.size + 1 + 1) KL.toArray rfl rfl 120 ZK HX2.out HKI.out (HZKS.out.trans HKS.out.symm) HK1.out ?_))
  refine wp_region_held_drew (S := S2 w QL KL ZL.toArray) (by kernel_rfl) HS2.out (fun hHeld => ?_)
  generalize ((((w.alloc (.cells QL.toArray 138 (0, 0))).alloc (.cells ZL.toArray 33 (0, 0))).alloc (.cells ZK 120 (0, 0))).setRow (w.heap.size + 1 + 1) KL.toArray).drew = W at *
  have HKI2 : Hid ((Tryz.prog.info? 120).map (·.size) = some KL.length) := by have := HKI.out; rwa [List.size_toArray] at this
  refine qzI 0 ⟨some 22, .move (.tmp 0), 25, _, #[], none⟩ (.pointer (some ⟨og, 0, none⟩)) rfl (by kernel_rfl) (fun _ _ _ h => h) (by rfl) (fun w' hw' => ?_) hHeld ?_
  · go_simp <;> rfl
  try simp only [Act.put, qT, q0, qS]
  refine qzI 1 ⟨some 23, .nilCheck (.tmp 22), 0, _, #[⟨0, .data⟩], none⟩ (.pointer (some ⟨og, 0, none⟩)) rfl (by kernel_rfl) (fun _ _ _ h => h) (by rfl) (fun w' hw' => ?_) hHeld ?_
  · go_simp <;> rfl
  try simp only [Act.put, qT, q0, qS]
  refine qzI 2 ⟨some 24, .fieldAddr 116 (.tmp 23) 4, 0, _, #[⟨1, .data⟩], none⟩ (.pointer (some ⟨og, 35, none⟩)) rfl (by kernel_rfl) (fun _ _ _ h => h) (by rfl) (fun w' hw' => ?_) hHeld ?_
  · go_simp <;> rfl
  try simp only [Act.put, qT, q0, qS]
  refine qzI 3 ⟨some 25, .load 114 (.tmp 24), 114, _, #[⟨2, .data⟩], none⟩ (.map (some mb)) rfl (by kernel_rfl) (fun _ _ _ h => h) (by rfl) (fun w' hw' => ?_) hHeld ?_
  · have hcc := (hw'.bel.cell (show (⟨og, 35, none⟩ : Addr).block < w.heap.size from hog)).trans HC35.out; go_simp <;> rfl
  try simp only [Act.put, qT, q0, qS]
  refine qzK 4 ⟨some 26, .load 120 (.tmp 7), 120, _, #[], none⟩ _ rfl (by kernel_rfl) (fun _ _ _ h => h) (yieldsIf_load_mid (by rfl) 120 (.tmp 7) rfl (w.heap.size + 1 + 1) (0) rfl (KL) _ (fun _ h => rangeAt_row h.k) Tryz.underlying120 rfl HKI2.out) hHeld ?_
  try simp only [Act.put, qT, q0, qS]
  refine qzI 5 ⟨some 27, .lookup 114 (.tmp 25) (.tmp 26) true, 171, _, #[⟨3, .data⟩, ⟨4, .data⟩], none⟩ (.tuple #[.agg ZL.toArray, .bool false]) rfl (by kernel_rfl) (fun _ _ _ h => h) (by rfl) (fun w' hw' => ?_) hHeld ?_
  · have hll := HLK.out w' (HO.out.map.keep (hw'.bel.block _ HO.out.map.lt)); go_simp <;> rfl
  try simp only [Act.put, qT, q0, qS]
  refine qzI 6 ⟨some 21, .move (.tmp 27), 171, _, #[⟨5, .data⟩], none⟩ (.tuple #[.agg ZL.toArray, .bool false]) rfl (by kernel_rfl) (fun _ _ _ h => h) (by rfl) (fun w' hw' => ?_) hHeld ?_
  · go_simp <;> rfl
  try simp only [Act.put, qT, q0, qS]
  refine qzI 7 ⟨some 28, .extract (.tmp 21) 0, 33, _, #[⟨6, .data⟩], none⟩ (.agg ZL.toArray) rfl (by kernel_rfl) (fun _ _ _ h => h) (by rfl) (fun w' hw' => ?_) hHeld ?_
  · go_simp <;> rfl
  try simp only [Act.put, qT, q0, qS]
  refine qzI 8 { dst := some 29, op := .extract (.tmp 21) 1, type := 4, pos := _, after := #[⟨6, .data⟩, { on := 10, ground := .gcOnly Go.Departure.lateStores }], guard := none } (.bool false) rfl (by kernel_rfl) (fun _ _ _ h => h) (by rfl) (fun w' hw' => ?_) hHeld ?_
  · go_simp <;> rfl
  try simp only [Act.put, qT, q0, qS]
  have hHeld1 := hHeld.alloc (.cells ZL.toArray 33 (0, 0))
  have HWN : Hid ((W.alloc (.cells ZL.toArray 33 (0, 0))).heap[W.heap.size]? = some (.cells ZL.toArray 33 (0, 0))) := heap_at _ _ _ rfl
  refine qzR 9 ⟨some 8, .alloc 33, 0, _, #[], none⟩ (by kernel_rfl) rfl (by rfl) (fun K hK => ?_)
  go_wp2_with fail
  refine hK.out _ _ hHeld1 (fun _ => ?_)
  clear hK K
  try simp only [Act.put, qT, q0, qS]
  have hsW : w.heap.size + 3 ≤ W.heap.size := by have := row_lt hHeld.k; omega
  refine qzR 10 { dst := none, op := .store 33 (.tmp 8) (.tmp 28), type := 0, pos := _, after := #[⟨9, .data⟩, ⟨7, .data⟩, ⟨0, .phase⟩, ⟨1, .phase⟩, ⟨2, .phase⟩, ⟨3, .phase⟩, ⟨4, .phase⟩, ⟨5, .phase⟩, ⟨6, .phase⟩, ⟨7, .phase⟩, { on := 8, ground := .textOnly Go.Departure.lateStores }, ⟨9, .phase⟩], guard := none } (by kernel_rfl) rfl (by rfl) (fun K hK => ?_)
  refine wp_store_row 33 _ _ rfl W.heap.size ZL.toArray rfl rfl 33 _ HWN.out (info32a _ HZS.out) rfl hZ1 ?_
  have hHeld2 := hHeld1.step (below_setRow (Below.refl _ _) hsW ZL.toArray)
  refine hK.out _ _ hHeld2 (fun _ => ?_)
  clear hK K
  try simp only [Act.put, qT, q0, qS]
  refine qzR 11 ⟨some 9, .assign (.tmp 29), 4, _, #[⟨8, .data⟩, ⟨10, .chain⟩, ⟨0, .phase⟩, ⟨1, .phase⟩, ⟨2, .phase⟩, ⟨3, .phase⟩, ⟨4, .phase⟩, ⟨5, .phase⟩, ⟨6, .phase⟩, ⟨7, .phase⟩, ⟨8, .phase⟩, ⟨9, .phase⟩, ⟨10, .phase⟩], none⟩ (by kernel_rfl) rfl (by rfl) (fun K hK => ?_)
  go_wp2_with fail
  refine hK.out _ _ hHeld2 (fun _ => ?_)
  clear hK K
  try simp only [Act.put, qT, q0, qS]
  refine wpAnyH_done (by kernel_rfl) ?_ _
  have HX : Hid _ := hHeld2
  have hsX : w.heap.size + 3 ≤ ((W.alloc (.cells ZL.toArray 33 (0, 0))).setRow W.heap.size ZL.toArray).heap.size := by have := row_lt hHeld2.k; omega
  clear hHeld hHeld1 hHeld2
  generalize (W.alloc (.cells ZL.toArray 33 (0, 0))).setRow W.heap.size ZL.toArray = X at *
  have hPX := HO.out.below HX.out.bel
  obtain ⟨p, cap, hov⟩ := HO.out.ordV
  have HPX : Hid _ := hPX
  have HOV : Hid _ := hov
  have HDn : Hid _ := drawD_len o.draws o.log.length HO.out.draws.1
  have hdr := pdraw_any og o.log.length p cap dv o.draws X (by omega) hPX.cells.2.1 (by rw [← hov]; exact hPX.cells.2.2.1) hPX.draws
  rw [← HDD.out] at hdr HDn
  obtain ⟨DL, hDL⟩ : ∃ L, L = D.map B8 := ⟨_, rfl⟩
  rw [← hDL] at hdr
  have HDR : Hid _ := hdr
  clear hov hPX hdr
  go_wp2_with fail
  refine Calls.mono HDR.out ?_
  rintro e w5 ⟨rfl, hb5⟩
  have hDn : DL.length = 32 := by rw [hDL, List.length_map]; exact HDn.out
  have HDS : Hid (DL.toArray.size = 32) := by show _ = _; simpa using hDn
  have HDI : Hid _ := info32 DL hDn
  have HD1 : Hid (DL.toArray.all (·.oneCell') = true) := by show _ = _; rw [hDL]; exact B8_onea _
  have HDL : Hid _ := hDL
  have HDN : Hid _ := hDn
  have hs5 := hb5.size
  have HB5 : Hid (Below w.heap.size w w5) := HX.out.bel.trans (hb5.mono (by omega))
  have HWN5 : Hid ((w5.alloc (.cells ZL.toArray 33 (0, 0))).heap[w5.heap.size]? = some (.cells ZL.toArray 33 (0, 0))) := heap_at _ _ _ rfl
  have hb6 : Below w5.heap.size w5 ((w5.alloc (.cells ZL.toArray 33 (0, 0))).setRow w5.heap.size DL.toArray) := below_setRow ((Below.refl _ _).alloc (Nat.le_refl _) _) (Nat.le_refl _) _
  have hS6 : S6 S w w5.heap.size KL DL ZL.toArray ((w5.alloc (.cells ZL.toArray 33 (0, 0))).setRow w5.heap.size DL.toArray).drew := by
    refine S6.drew ⟨Fr.ofBelow (HB5.out.trans (hb6.mono (by omega))), ?_, ?_, setRow_heap _ _ _ _ _ _ HWN5.out⟩
    · exact (hb6.block _ (by omega)).trans ((hb5.block _ (by omega)).trans HX.out.z)
    · exact (hb6.block _ (by omega)).trans ((hb5.block _ (by omega)).trans HX.out.k)
  have hP6 : PO B og mb S ((w5.alloc (.cells ZL.toArray 33 (0, 0))).setRow w5.heap.size DL.toArray).drew o dv ov := (HO.out.below (HB5.out.trans (hb6.mono (by omega)))).keep (Nat.le_refl _) (fun k _ _ => rfl)
  have hs6 : w.heap.size + 3 ≤ ((w5.alloc (.cells ZL.toArray 33 (0, 0))).setRow w5.heap.size DL.toArray).drew.heap.size := by have := row_lt hS6.k; omega
  have HS6 : Hid _ := hS6
  have HP6 : Hid _ := hP6
  have HTOP : Hid _ := HO.out.top
  have hw5 : w.heap.size ≤ w5.heap.size := by omega
  have HWL : Hid (w5.heap.size < ((w5.alloc (.cells ZL.toArray 33 (0, 0))).setRow w5.heap.size DL.toArray).drew.heap.size) := row_lt hS6.d
  clear hb5 hs5 hb6 hS6 hP6 hDL hDn
  go_wp2_with (refine wpList_store_row rfl 33 _ _ rfl w5.heap.size DL.toArray rfl rfl 33 ZL.toArray HWN5.out (info32a _ HDS.out) (HZS.out.trans HDS.out.symm) HD1.out ?_)
  refine wp_region_held_drew (S := S6 S w w5.heap.size KL DL ZL.toArray) (by kernel_rfl) HS6.out (fun hHeld => ?_)
  generalize ((w5.alloc (.cells ZL.toArray 33 (0, 0))).setRow w5.heap.size DL.toArray).drew = Y at *
  have hcY := HP6.out.cells.2.2.1
  rw [HOV.out] at hcY
  have HFA : Hid _ := fill_kq KL HKN.out
  obtain ⟨i0, hi, hz0, hz1, hz2⟩ := info_parts infoKq
  have HI0 : Hid _ := hi
  have HIZ : Hid _ := hz0
  have HI2 : Hid _ := hz1
  have HI3 : Hid _ := hz2
  clear hi hz0 hz1 hz2
  have hHA : S6 S w w5.heap.size KL DL ZL.toArray (Y.alloc (.cells KL.toArray 120 (0, 0))) := hHeld.step (Fr.ofBelow ((Below.refl _ _).alloc (Nat.le_refl _) _)) HTOP.out (by omega)
  have hcA : (Y.alloc (.cells KL.toArray 120 (0, 0))).cell? ⟨og, 34, none⟩ = some (.slice p o.log.length cap) := (Below.cell ((Below.refl _ Y).alloc (Nat.le_refl _) _) (show (⟨og, 34, none⟩ : Addr).block < Y.heap.size by show og < Y.heap.size; omega)).trans hcY
  have HOWN : Hid ((Y.alloc (.cells KL.toArray 120 (0, 0))).ownsRow B 120 35 (.slice p o.log.length cap) o.log.length (kC o.log)) := by
    have h := HP6.out.order
    rw [HOV.out] at h
    exact h.alloc _
  have HNEW : Hid (∀ j u, KL[j]? = some u → (Y.alloc (.cells KL.toArray 120 (0, 0))).cell? ((⟨Y.heap.size, 0, none⟩ : Addr).add j) = some u) := fun j u hu => by
    have h := rangeAt_row (heap_alloc_new Y (.cells KL.toArray 120 (0, 0))) j u hu
    rw [add_none]; exact h
  have HK1' : Hid (∀ u ∈ KL, u.oneCell' = true) := by rw [HKL.out]; exact kL_one q
  refine qzI 0 ⟨some 34, .move (.tmp 0), 25, _, #[], none⟩ (.pointer (some ⟨og, 0, none⟩)) rfl (by kernel_rfl) (fun _ _ _ h => h) (by rfl) (fun w' hw' => ?_) hHeld ?_
  · go_simp <;> rfl
  try simp only [Act.put, qT, q0, qS]
  refine qzI 1 ⟨some 35, .move (.tmp 0), 25, _, #[], none⟩ (.pointer (some ⟨og, 0, none⟩)) rfl (by kernel_rfl) (fun _ _ _ h => h) (by rfl) (fun w' hw' => ?_) hHeld ?_
  · go_simp <;> rfl
  try simp only [Act.put, qT, q0, qS]
  refine qzI 2 ⟨some 36, .nilCheck (.tmp 35), 0, _, #[⟨1, .data⟩], none⟩ (.pointer (some ⟨og, 0, none⟩)) rfl (by kernel_rfl) (fun _ _ _ h => h) (by rfl) (fun w' hw' => ?_) hHeld ?_
  · go_simp <;> rfl
  try simp only [Act.put, qT, q0, qS]
  refine qzI 3 ⟨some 37, .fieldAddr 116 (.tmp 36) 3, 0, _, #[⟨2, .data⟩], none⟩ (.pointer (some ⟨og, 34, none⟩)) rfl (by kernel_rfl) (fun _ _ _ h => h) (by rfl) (fun w' hw' => ?_) hHeld ?_
  · go_simp <;> rfl
  try simp only [Act.put, qT, q0, qS]
  refine qzK 5 ⟨some 39, .load 120 (.tmp 7), 120, _, #[], none⟩ _ rfl (by kernel_rfl) (fun _ _ _ h => h) (yieldsIf_load_mid (by rfl) 120 (.tmp 7) rfl (w.heap.size + 1 + 1) (0) rfl (KL) _ (fun _ h => rangeAt_row h.k) Tryz.underlying120 rfl HKI2.out) hHeld ?_
  try simp only [Act.put, qT, q0, qS]
  refine wpAnyH_ready (rs := [4, 6]) (by kernel_rfl) (by simp) ?_
  refine AllReadyH.cons (o := ⟨some 38, .load 113 (.tmp 37), 113, _, #[⟨3, .data⟩], none⟩) rfl (fun K hK => ?_) (AllReadyH.cons (o := ⟨some 40, .buildSlice 113 1 #[(0, .tmp 39)], 113, _, #[⟨5, .data⟩], none⟩) rfl (fun K hK => ?_) AllReadyH.nil)
  all_goals rw [if_pos (by rfl)]
  · go_wp2_with fail
    refine hK.out _ _ hHeld (fun _ => ?_)
    clear hK K
    try simp only [Act.put, qT, q0, qS]
    refine qzR 6 ⟨some 40, .buildSlice 113 1 #[(0, .tmp 39)], 113, _, #[⟨5, .data⟩], none⟩ (by kernel_rfl) rfl (by rfl) (fun K hK => ?_)
    refine wp_buildSlice 113 120 1 _ rfl KL.toArray i0 (.agg zKq) Tryz.underlying113 HI0.out HIZ.out (by rw [HI2.out]; decide) (by rw [HI2.out]; decide) (by rw [HI2.out]; refine (congrArg (Instr.fill _ _) ?_).trans HFA.out; simp; rfl) ?_
    refine hK.out _ _ hHA (fun _ => ?_)
    clear hK K
    try simp only [Act.put, qT, q0, qS]
    refine qzR 7 ⟨some 41, .call ⟨.builtin Go.Builtin.append, #[.tmp 38, .tmp 40], #[113, 113]⟩, 113, _, #[⟨4, .data⟩, ⟨6, .data⟩], none⟩ (by kernel_rfl) rfl (by rfl) (fun K hK => ?_)
    refine wp_append_lies _ (.tmp 38) (.tmp 40) 113 rfl B 120 i0 (.agg zKq) 35 64 Tryz.underlying113 HI0.out HIZ.out HI2.out HI3.out rfl (by decide) (.slice p o.log.length cap) o.log.length (kC o.log) rfl HOWN.out ⟨Y.heap.size, 0, none⟩ 1 1 KL rfl HKN.out HNEW.out HK1'.out (by decide) (by unfold maxLen; omega) (by omega) (by simp; omega) (Y.heap.size + 1) (by simp) ?_
    intro g cap2 Z hown hgr hgl hgZ
    rw [← HOV.out] at hgr hgl
    have hHZ := hHA.step (Fr.grown (Fr.refl _ _) hgr (fun k e => .inl (HO.out.sov k e).1)) HTOP.out (by omega)
    have hoZ : Z.heap[og]? = some (.cells (pL o.ideal o.master dv ov mb).toArray 116 (0, 0)) := (hgr.block og (by simp; omega) (fun e => (HO.out.sov og e.symm).2 rfl)).trans ((heap_alloc_old _ _ (by omega)).trans HP6.out.row)
    have cZ : Z.cell? ⟨og, 34, none⟩ = some (.slice p o.log.length cap) := by rw [cell_of_row _ _ 34 _ _ _ hoZ, ← HOV.out]; exact pL_at _ _ _ _ _ HO.out.ml 1
    have fZ := frozen_of_row _ _ 34 _ _ hoZ
    have hHV := hHZ.step (Fr.setCell (Fr.refl _ Z) og 34 (.slice (some ⟨g, 0, none⟩) (o.log.length + 1) cap2) (.inl HO.out.sog)) HTOP.out (by omega)
    have HOZ : Hid _ := hoZ
    have HOWZ : Hid _ := hown
    have HGL : Hid _ := hgl
    have HGZ : Hid _ := hgZ
    have HGR : Hid _ := hgr
    clear hoZ hown hgl hgr
    refine hK.out _ _ hHZ (fun _ => ?_)
    clear hK K
    try simp only [Act.put, qT, q0, qS]
    have hHeld := hHZ
    refine qzI 8 ⟨some 42, .nilCheck (.tmp 34), 0, _, #[⟨0, .data⟩, ⟨0, .phase⟩, ⟨1, .phase⟩, ⟨2, .phase⟩, ⟨3, .phase⟩, ⟨4, .phase⟩, ⟨5, .phase⟩, ⟨6, .phase⟩, ⟨7, .phase⟩], none⟩ (.pointer (some ⟨og, 0, none⟩)) rfl (by kernel_rfl) (fun _ _ _ h => h) (by rfl) (fun w' hw' => ?_) hHeld ?_
    · go_simp <;> rfl
    try simp only [Act.put, qT, q0, qS]
    refine qzI 9 ⟨some 43, .fieldAddr 116 (.tmp 42) 3, 0, _, #[⟨8, .data⟩, ⟨0, .phase⟩, ⟨1, .phase⟩, ⟨2, .phase⟩, ⟨3, .phase⟩, ⟨4, .phase⟩, ⟨5, .phase⟩, ⟨6, .phase⟩, ⟨7, .phase⟩], none⟩ (.pointer (some ⟨og, 34, none⟩)) rfl (by kernel_rfl) (fun _ _ _ h => h) (by rfl) (fun w' hw' => ?_) hHeld ?_
    · go_simp <;> rfl
    try simp only [Act.put, qT, q0, qS]
    refine qzR 10 ⟨none, .store 113 (.tmp 43) (.tmp 41), 0, _, #[⟨9, .data⟩, ⟨7, .data⟩, ⟨7, .chain⟩, ⟨0, .phase⟩, ⟨1, .phase⟩, ⟨2, .phase⟩, ⟨3, .phase⟩, ⟨4, .phase⟩, ⟨5, .phase⟩, ⟨6, .phase⟩, ⟨7, .phase⟩], none⟩ (by kernel_rfl) rfl (by rfl) (fun K hK => ?_)
    go_wp2_with fail
    refine hK.out _ _ hHV (fun _ => ?_)
    clear hK K
    try simp only [Act.put, qT, q0, qS]
    refine wpAnyH_done (by kernel_rfl) ?_ _
    obtain ⟨PL, hPL⟩ : ∃ L, L = pL o.ideal o.master dv (.slice (some ⟨g, 0, none⟩) (o.log.length + 1) cap2) mb := ⟨_, rfl⟩
    have hgo : g ≠ og := HGL.out.elim (fun e => (HO.out.sov g e).2) (fun e => by omega)
    have hoV : (Z.setCell ⟨og, 34, none⟩ (.slice (some ⟨g, 0, none⟩) (o.log.length + 1) cap2)).heap[og]? = some (.cells PL.toArray 116 (0, 0)) := (heap_setCell_same _ og 34 _ _ _ HOZ.out).trans (by rw [pL_set34 _ _ _ _ _ HO.out.ml, hPL])
    have hownV : (Z.setCell ⟨og, 34, none⟩ (.slice (some ⟨g, 0, none⟩) (o.log.length + 1) cap2)).ownsRow B 120 35 (.slice (some ⟨g, 0, none⟩) (o.log.length + 1) cap2) (o.log.length + 1) (kC o.log ++ kL q) := by
      rw [← HKL.out]
      exact own_keep HOWZ.out (fun k e hl => heap_setCell_other _ _ _ _ (by have e' : g = k := (by simpa [Value.ownBlock] using e); show k ≠ og; exact e' ▸ hgo))
    have hmapV : MH (Z.setCell ⟨og, 34, none⟩ (.slice (some ⟨g, 0, none⟩) (o.log.length + 1) cap2)) mb o.log := HP6.out.map.keep ((heap_setCell_other _ _ _ _ (by show mb ≠ og; exact HO.out.ne)).trans ((HGR.out.block mb (by simp; have := HP6.out.map.lt; omega) (fun e => HO.out.ovne e.symm)).trans (heap_alloc_old _ _ HP6.out.map.lt)))
    have hgV : g < (Z.setCell ⟨og, 34, none⟩ (.slice (some ⟨g, 0, none⟩) (o.log.length + 1) cap2)).heap.size := by simpa [World.setCell] using hgZ
    have HS7 : Hid (S7 S w w5.heap.size og KL DL PL ZL.toArray (Z.setCell ⟨og, 34, none⟩ (.slice (some ⟨g, 0, none⟩) (o.log.length + 1) cap2)).drew) := ⟨hHV.drew, hoV⟩
    have HPL : Hid _ := hPL
    have HOWV : Hid _ := hownV
    have HMV : Hid (MH (Z.setCell ⟨og, 34, none⟩ (.slice (some ⟨g, 0, none⟩) (o.log.length + 1) cap2)) mb o.log) := hmapV
    have HGV : Hid _ := hgV
    have HGO : Hid _ := hgo
    have hPLl : PL.toArray[35]? = some (.map (some mb)) := by rw [hPL]; exact pL_at _ _ _ _ _ HO.out.ml 2
    have HPC : Hid _ := hPLl
    clear hPL hgo hoV hownV hmapV hgV hPLl hHV hHZ hHA hHeld cZ fZ hcA hcY HOZ HOWZ HNEW HOWN HGR
    go_wp2_with fail
    refine wp_region_held_drew (S := S7 S w w5.heap.size og KL DL PL ZL.toArray) (by kernel_rfl) HS7.out (fun hHeld => ?_)
    have HMU : Hid (MH (Z.setCell ⟨og, 34, none⟩ (.slice (some ⟨g, 0, none⟩) (o.log.length + 1) cap2)).drew mb o.log) := HMV.out.keep rfl
    have HOWU : Hid ((Z.setCell ⟨og, 34, none⟩ (.slice (some ⟨g, 0, none⟩) (o.log.length + 1) cap2)).drew.ownsRow B 120 35 (.slice (some ⟨g, 0, none⟩) (o.log.length + 1) cap2) (o.log.length + 1) (kC o.log ++ kL q)) := own_keep HOWV.out (fun _ _ _ => rfl)
    have HGU : Hid (g < (Z.setCell ⟨og, 34, none⟩ (.slice (some ⟨g, 0, none⟩) (o.log.length + 1) cap2)).drew.heap.size) := HGV.out
    clear HMV HOWV HGV
    generalize (Z.setCell ⟨og, 34, none⟩ (.slice (some ⟨g, 0, none⟩) (o.log.length + 1) cap2)).drew = U at *
    refine qzI 0 ⟨some 44, .move (.tmp 0), 25, _, #[], none⟩ (.pointer (some ⟨og, 0, none⟩)) rfl (by kernel_rfl) (fun _ _ _ h => h) (by rfl) (fun w' hw' => ?_) hHeld ?_
    · go_simp <;> rfl
    try simp only [Act.put, qT, q0, qS]
    refine qzI 1 ⟨some 45, .nilCheck (.tmp 44), 0, _, #[⟨0, .data⟩], none⟩ (.pointer (some ⟨og, 0, none⟩)) rfl (by kernel_rfl) (fun _ _ _ h => h) (by rfl) (fun w' hw' => ?_) hHeld ?_
    · go_simp <;> rfl
    try simp only [Act.put, qT, q0, qS]
    refine qzI 2 ⟨some 46, .fieldAddr 116 (.tmp 45) 4, 0, _, #[⟨1, .data⟩], none⟩ (.pointer (some ⟨og, 35, none⟩)) rfl (by kernel_rfl) (fun _ _ _ h => h) (by rfl) (fun w' hw' => ?_) hHeld ?_
    · go_simp <;> rfl
    try simp only [Act.put, qT, q0, qS]
    refine qzI 3 ⟨some 47, .load 114 (.tmp 46), 114, _, #[⟨2, .data⟩], none⟩ (.map (some mb)) rfl (by kernel_rfl) (fun _ _ _ h => h) (by rfl) (fun w' hw' => ?_) hHeld ?_
    · have hcc : w'.cell? ⟨og, 35, none⟩ = some (.map (some mb)) := by { rw [cell_of_row _ _ 35 _ _ _ hw'.o]; exact HPC.out }; go_simp <;> rfl
    try simp only [Act.put, qT, q0, qS]
    refine qzK 4 ⟨some 48, .load 120 (.tmp 7), 120, _, #[], none⟩ _ rfl (by kernel_rfl) (fun _ _ _ h => h) (yieldsIf_load_mid (by rfl) 120 (.tmp 7) rfl (w.heap.size + 1 + 1) (0) rfl (KL) _ (fun _ h => rangeAt_row h.s.k) Tryz.underlying120 rfl HKI2.out) hHeld ?_
    try simp only [Act.put, qT, q0, qS]
    refine qzK 5 ⟨some 49, .load 33 (.tmp 10), 33, _, #[], none⟩ _ rfl (by kernel_rfl) (fun _ _ _ h => h) (yieldsIf_load_mid (by rfl) 33 (.tmp 10) rfl (w5.heap.size) (0) rfl (DL) _ (fun _ h => rangeAt_row h.s.d) Tryz.underlying33 rfl HDI.out) hHeld ?_
    try simp only [Act.put, qT, q0, qS]
    obtain ⟨ob, hrun, hmT, hgT⟩ := mh_put HO.out.ok HMU.out hq D hf
    rw [show kV q = .agg KL.toArray by rw [HKL.out]; rfl, show dV D = .agg DL.toArray by rw [HDL.out]; rfl] at hrun
    refine qzR 6 ⟨none, .mapUpdate 114 (.tmp 47) (.tmp 48) (.tmp 49), 0, _, #[⟨3, .data⟩, ⟨4, .data⟩, ⟨5, .data⟩, ⟨0, .phase⟩, ⟨1, .phase⟩, ⟨2, .phase⟩, ⟨3, .phase⟩, ⟨4, .phase⟩, ⟨5, .phase⟩], none⟩ (by kernel_rfl) rfl (by rfl) (fun K hK => ?_)
    refine wp_mapUpd (.tmp 47) (.tmp 48) (.tmp 49) 114 rfl _ _ _ rfl rfl rfl hrun ?_
    have hsU := hHeld.s.fr.size
    have hogU := row_lt hHeld.o
    have hH7 : S7 S w w5.heap.size og KL DL PL ZL.toArray (setBlock U mb ob) := ⟨hHeld.s.step (Fr.grown (Fr.refl _ _) hgT (fun k e => .inl (by have e' : mb = k := (by simpa using e); exact e' ▸ HO.out.smb))) HTOP.out (by omega), (hgT.block og hogU (by simpa using HO.out.ne.symm)).trans hHeld.o⟩
    have HOT : Hid ((setBlock U mb ob).ownsRow B 120 35 (.slice (some ⟨g, 0, none⟩) (o.log.length + 1) cap2) (o.log.length + 1) (kC o.log ++ kL q)) := own_keep HOWU.out (fun k e hl => hgT.block k hl (fun e2 => by
      have e' : g = k := (by simpa [Value.ownBlock] using e)
      have e3 : k = mb := (by simpa using e2)
      rcases HGL.out with h | h
      · exact HO.out.ovne (by rw [h, e', e3])
      · have := HO.out.top mb HO.out.smb; omega))
    refine hK.out _ _ hH7 (fun _ => ?_)
    clear hK K
    try simp only [Act.put, qT, q0, qS]
    refine wpAnyH_done (by kernel_rfl) ?_ _
    have HGT : Hid (g < (setBlock U mb ob).heap.size) := Nat.lt_of_lt_of_le HGU.out hgT.size
    have HMT : Hid (MH (setBlock U mb ob) mb (o.log ++ [(q, D)])) := hmT
    have HH7 : Hid _ := hH7
    clear hrun hgT hmT hH7 hHeld HMU HOWU HGU HS7
    generalize setBlock U mb ob = T at *
    have HTD : Hid _ := rangeAt_row HH7.out.s.d
    have HTZ : Hid _ := HH7.out.s.z
    go_wp2_with (first
      | (refine wpList_load_mid rfl 33 _ rfl w5.heap.size 0 rfl DL _ HTD.out Tryz.underlying33 rfl HDI.out ?_)
      | (refine wpList_store_row rfl 33 _ _ rfl (w.heap.size + 1) DL.toArray rfl rfl 33 ZL.toArray HTZ.out (info32a _ HDS.out) (HZS.out.trans HDS.out.symm) HD1.out ?_))
    have hfrT : Fr S w (T.setRow (w.heap.size + 1) DL.toArray) := HH7.out.s.fr.setRow _ _ (.inr (by omega))
    have hsT : (T.setRow (w.heap.size + 1) DL.toArray).heap.size = T.heap.size := by simp
    refine bodyPost_ret (v := .agg DL.toArray) ?_ rfl ⟨by rw [HDL.out]; rfl, hfrT, _, po_more (cap2 := cap2) HO.out hq HDn.out hf hB hfrT ?_ ?_ (HGL.out.imp id (fun h => by omega)) (by rw [hsT]; exact HGT.out) ?_⟩
    · exact results_cell_row Tryz.results94 _ _ (w.heap.size + 1) 33 _ (0, 0) _ rfl (setRow_heap _ _ _ _ _ _ HTZ.out) Tryz.underlying33 rfl (info32a _ HDS.out)
    · exact (setRow_other _ _ _ _ (by omega)).trans (by rw [← HPL.out]; exact HH7.out.o)
    · refine own_keep HOT.out (fun k e hl => setRow_other _ _ _ _ ?_)
      have e' : g = k := (by simpa [Value.ownBlock] using e)
      rcases HGL.out with h | h
      · have := HO.out.top g (HO.out.sov g h).1; omega
      · omega
    · exact HMT.out.keep (setRow_other _ _ _ _ (by have := HO.out.top mb HO.out.smb; omega))
  · have hHB := hHA
    refine wp_buildSlice 113 120 1 _ rfl KL.toArray i0 (.agg zKq) Tryz.underlying113 HI0.out HIZ.out (by rw [HI2.out]; decide) (by rw [HI2.out]; decide) (by rw [HI2.out]; refine (congrArg (Instr.fill _ _) ?_).trans HFA.out; simp; rfl) ?_
    refine hK.out _ _ hHA (fun _ => ?_)
    clear hK K
    try simp only [Act.put, qT, q0, qS]
    have hHeld := hHA
    refine qzR 4 ⟨some 38, .load 113 (.tmp 37), 113, _, #[⟨3, .data⟩], none⟩ (by kernel_rfl) rfl (by rfl) (fun K hK => ?_)
    go_wp2_with fail
    refine hK.out _ _ hHA (fun _ => ?_)
    clear hK K
    try simp only [Act.put, qT, q0, qS]
    refine qzR 7 ⟨some 41, .call ⟨.builtin Go.Builtin.append, #[.tmp 38, .tmp 40], #[113, 113]⟩, 113, _, #[⟨4, .data⟩, ⟨6, .data⟩], none⟩ (by kernel_rfl) rfl (by rfl) (fun K hK => ?_)
    refine wp_append_lies _ (.tmp 38) (.tmp 40) 113 rfl B 120 i0 (.agg zKq) 35 64 Tryz.underlying113 HI0.out HIZ.out HI2.out HI3.out rfl (by decide) (.slice p o.log.length cap) o.log.length (kC o.log) rfl HOWN.out ⟨Y.heap.size, 0, none⟩ 1 1 KL rfl HKN.out HNEW.out HK1'.out (by decide) (by unfold maxLen; omega) (by omega) (by simp; omega) (Y.heap.size + 1) (by simp) ?_
    intro g cap2 Z hown hgr hgl hgZ
    rw [← HOV.out] at hgr hgl
    have hHZ := hHA.step (Fr.grown (Fr.refl _ _) hgr (fun k e => .inl (HO.out.sov k e).1)) HTOP.out (by omega)
    have hoZ : Z.heap[og]? = some (.cells (pL o.ideal o.master dv ov mb).toArray 116 (0, 0)) := (hgr.block og (by simp; omega) (fun e => (HO.out.sov og e.symm).2 rfl)).trans ((heap_alloc_old _ _ (by omega)).trans HP6.out.row)
    have cZ : Z.cell? ⟨og, 34, none⟩ = some (.slice p o.log.length cap) := by rw [cell_of_row _ _ 34 _ _ _ hoZ, ← HOV.out]; exact pL_at _ _ _ _ _ HO.out.ml 1
    have fZ := frozen_of_row _ _ 34 _ _ hoZ
    have hHV := hHZ.step (Fr.setCell (Fr.refl _ Z) og 34 (.slice (some ⟨g, 0, none⟩) (o.log.length + 1) cap2) (.inl HO.out.sog)) HTOP.out (by omega)
    have HOZ : Hid _ := hoZ
    have HOWZ : Hid _ := hown
    have HGL : Hid _ := hgl
    have HGZ : Hid _ := hgZ
    have HGR : Hid _ := hgr
    clear hoZ hown hgl hgr
    refine hK.out _ _ hHZ (fun _ => ?_)
    clear hK K
    try simp only [Act.put, qT, q0, qS]
    have hHeld := hHZ
    refine qzI 8 ⟨some 42, .nilCheck (.tmp 34), 0, _, #[⟨0, .data⟩, ⟨0, .phase⟩, ⟨1, .phase⟩, ⟨2, .phase⟩, ⟨3, .phase⟩, ⟨4, .phase⟩, ⟨5, .phase⟩, ⟨6, .phase⟩, ⟨7, .phase⟩], none⟩ (.pointer (some ⟨og, 0, none⟩)) rfl (by kernel_rfl) (fun _ _ _ h => h) (by rfl) (fun w' hw' => ?_) hHeld ?_
    · go_simp <;> rfl
    try simp only [Act.put, qT, q0, qS]
    refine qzI 9 ⟨some 43, .fieldAddr 116 (.tmp 42) 3, 0, _, #[⟨8, .data⟩, ⟨0, .phase⟩, ⟨1, .phase⟩, ⟨2, .phase⟩, ⟨3, .phase⟩, ⟨4, .phase⟩, ⟨5, .phase⟩, ⟨6, .phase⟩, ⟨7, .phase⟩], none⟩ (.pointer (some ⟨og, 34, none⟩)) rfl (by kernel_rfl) (fun _ _ _ h => h) (by rfl) (fun w' hw' => ?_) hHeld ?_
    · go_simp <;> rfl
    try simp only [Act.put, qT, q0, qS]
    refine qzR 10 ⟨none, .store 113 (.tmp 43) (.tmp 41), 0, _, #[⟨9, .data⟩, ⟨7, .data⟩, ⟨7, .chain⟩, ⟨0, .phase⟩, ⟨1, .phase⟩, ⟨2, .phase⟩, ⟨3, .phase⟩, ⟨4, .phase⟩, ⟨5, .phase⟩, ⟨6, .phase⟩, ⟨7, .phase⟩], none⟩ (by kernel_rfl) rfl (by rfl) (fun K hK => ?_)
    go_wp2_with fail
    refine hK.out _ _ hHV (fun _ => ?_)
    clear hK K
    try simp only [Act.put, qT, q0, qS]
    refine wpAnyH_done (by kernel_rfl) ?_ _
    obtain ⟨PL, hPL⟩ : ∃ L, L = pL o.ideal o.master dv (.slice (some ⟨g, 0, none⟩) (o.log.length + 1) cap2) mb := ⟨_, rfl⟩
    have hgo : g ≠ og := HGL.out.elim (fun e => (HO.out.sov g e).2) (fun e => by omega)
    have hoV : (Z.setCell ⟨og, 34, none⟩ (.slice (some ⟨g, 0, none⟩) (o.log.length + 1) cap2)).heap[og]? = some (.cells PL.toArray 116 (0, 0)) := (heap_setCell_same _ og 34 _ _ _ HOZ.out).trans (by rw [pL_set34 _ _ _ _ _ HO.out.ml, hPL])
    have hownV : (Z.setCell ⟨og, 34, none⟩ (.slice (some ⟨g, 0, none⟩) (o.log.length + 1) cap2)).ownsRow B 120 35 (.slice (some ⟨g, 0, none⟩) (o.log.length + 1) cap2) (o.log.length + 1) (kC o.log ++ kL q) := by
      rw [← HKL.out]
      exact own_keep HOWZ.out (fun k e hl => heap_setCell_other _ _ _ _ (by have e' : g = k := (by simpa [Value.ownBlock] using e); show k ≠ og; exact e' ▸ hgo))
    have hmapV : MH (Z.setCell ⟨og, 34, none⟩ (.slice (some ⟨g, 0, none⟩) (o.log.length + 1) cap2)) mb o.log := HP6.out.map.keep ((heap_setCell_other _ _ _ _ (by show mb ≠ og; exact HO.out.ne)).trans ((HGR.out.block mb (by simp; have := HP6.out.map.lt; omega) (fun e => HO.out.ovne e.symm)).trans (heap_alloc_old _ _ HP6.out.map.lt)))
    have hgV : g < (Z.setCell ⟨og, 34, none⟩ (.slice (some ⟨g, 0, none⟩) (o.log.length + 1) cap2)).heap.size := by simpa [World.setCell] using hgZ
    have HS7 : Hid (S7 S w w5.heap.size og KL DL PL ZL.toArray (Z.setCell ⟨og, 34, none⟩ (.slice (some ⟨g, 0, none⟩) (o.log.length + 1) cap2)).drew) := ⟨hHV.drew, hoV⟩
    have HPL : Hid _ := hPL
    have HOWV : Hid _ := hownV
    have HMV : Hid (MH (Z.setCell ⟨og, 34, none⟩ (.slice (some ⟨g, 0, none⟩) (o.log.length + 1) cap2)) mb o.log) := hmapV
    have HGV : Hid _ := hgV
    have HGO : Hid _ := hgo
    have hPLl : PL.toArray[35]? = some (.map (some mb)) := by rw [hPL]; exact pL_at _ _ _ _ _ HO.out.ml 2
    have HPC : Hid _ := hPLl
    clear hPL hgo hoV hownV hmapV hgV hPLl hHV hHZ hHA hHeld cZ fZ hcA hcY HOZ HOWZ HNEW HOWN HGR
    go_wp2_with fail
    refine wp_region_held_drew (S := S7 S w w5.heap.size og KL DL PL ZL.toArray) (by kernel_rfl) HS7.out (fun hHeld => ?_)
    have HMU : Hid (MH (Z.setCell ⟨og, 34, none⟩ (.slice (some ⟨g, 0, none⟩) (o.log.length + 1) cap2)).drew mb o.log) := HMV.out.keep rfl
    have HOWU : Hid ((Z.setCell ⟨og, 34, none⟩ (.slice (some ⟨g, 0, none⟩) (o.log.length + 1) cap2)).drew.ownsRow B 120 35 (.slice (some ⟨g, 0, none⟩) (o.log.length + 1) cap2) (o.log.length + 1) (kC o.log ++ kL q)) := own_keep HOWV.out (fun _ _ _ => rfl)
    have HGU : Hid (g < (Z.setCell ⟨og, 34, none⟩ (.slice (some ⟨g, 0, none⟩) (o.log.length + 1) cap2)).drew.heap.size) := HGV.out
    clear HMV HOWV HGV
    generalize (Z.setCell ⟨og, 34, none⟩ (.slice (some ⟨g, 0, none⟩) (o.log.length + 1) cap2)).drew = U at *
    refine qzI 0 ⟨some 44, .move (.tmp 0), 25, _, #[], none⟩ (.pointer (some ⟨og, 0, none⟩)) rfl (by kernel_rfl) (fun _ _ _ h => h) (by rfl) (fun w' hw' => ?_) hHeld ?_
    · go_simp <;> rfl
    try simp only [Act.put, qT, q0, qS]
    refine qzI 1 ⟨some 45, .nilCheck (.tmp 44), 0, _, #[⟨0, .data⟩], none⟩ (.pointer (some ⟨og, 0, none⟩)) rfl (by kernel_rfl) (fun _ _ _ h => h) (by rfl) (fun w' hw' => ?_) hHeld ?_
    · go_simp <;> rfl
    try simp only [Act.put, qT, q0, qS]
    refine qzI 2 ⟨some 46, .fieldAddr 116 (.tmp 45) 4, 0, _, #[⟨1, .data⟩], none⟩ (.pointer (some ⟨og, 35, none⟩)) rfl (by kernel_rfl) (fun _ _ _ h => h) (by rfl) (fun w' hw' => ?_) hHeld ?_
    · go_simp <;> rfl
    try simp only [Act.put, qT, q0, qS]
    refine qzI 3 ⟨some 47, .load 114 (.tmp 46), 114, _, #[⟨2, .data⟩], none⟩ (.map (some mb)) rfl (by kernel_rfl) (fun _ _ _ h => h) (by rfl) (fun w' hw' => ?_) hHeld ?_
    · have hcc : w'.cell? ⟨og, 35, none⟩ = some (.map (some mb)) := by { rw [cell_of_row _ _ 35 _ _ _ hw'.o]; exact HPC.out }; go_simp <;> rfl
    try simp only [Act.put, qT, q0, qS]
    refine qzK 4 ⟨some 48, .load 120 (.tmp 7), 120, _, #[], none⟩ _ rfl (by kernel_rfl) (fun _ _ _ h => h) (yieldsIf_load_mid (by rfl) 120 (.tmp 7) rfl (w.heap.size + 1 + 1) (0) rfl (KL) _ (fun _ h => rangeAt_row h.s.k) Tryz.underlying120 rfl HKI2.out) hHeld ?_
    try simp only [Act.put, qT, q0, qS]
    refine qzK 5 ⟨some 49, .load 33 (.tmp 10), 33, _, #[], none⟩ _ rfl (by kernel_rfl) (fun _ _ _ h => h) (yieldsIf_load_mid (by rfl) 33 (.tmp 10) rfl (w5.heap.size) (0) rfl (DL) _ (fun _ h => rangeAt_row h.s.d) Tryz.underlying33 rfl HDI.out) hHeld ?_
    try simp only [Act.put, qT, q0, qS]
    obtain ⟨ob, hrun, hmT, hgT⟩ := mh_put HO.out.ok HMU.out hq D hf
    rw [show kV q = .agg KL.toArray by rw [HKL.out]; rfl, show dV D = .agg DL.toArray by rw [HDL.out]; rfl] at hrun
    refine qzR 6 ⟨none, .mapUpdate 114 (.tmp 47) (.tmp 48) (.tmp 49), 0, _, #[⟨3, .data⟩, ⟨4, .data⟩, ⟨5, .data⟩, ⟨0, .phase⟩, ⟨1, .phase⟩, ⟨2, .phase⟩, ⟨3, .phase⟩, ⟨4, .phase⟩, ⟨5, .phase⟩], none⟩ (by kernel_rfl) rfl (by rfl) (fun K hK => ?_)
    refine wp_mapUpd (.tmp 47) (.tmp 48) (.tmp 49) 114 rfl _ _ _ rfl rfl rfl hrun ?_
    have hsU := hHeld.s.fr.size
    have hogU := row_lt hHeld.o
    have hH7 : S7 S w w5.heap.size og KL DL PL ZL.toArray (setBlock U mb ob) := ⟨hHeld.s.step (Fr.grown (Fr.refl _ _) hgT (fun k e => .inl (by have e' : mb = k := (by simpa using e); exact e' ▸ HO.out.smb))) HTOP.out (by omega), (hgT.block og hogU (by simpa using HO.out.ne.symm)).trans hHeld.o⟩
    have HOT : Hid ((setBlock U mb ob).ownsRow B 120 35 (.slice (some ⟨g, 0, none⟩) (o.log.length + 1) cap2) (o.log.length + 1) (kC o.log ++ kL q)) := own_keep HOWU.out (fun k e hl => hgT.block k hl (fun e2 => by
      have e' : g = k := (by simpa [Value.ownBlock] using e)
      have e3 : k = mb := (by simpa using e2)
      rcases HGL.out with h | h
      · exact HO.out.ovne (by rw [h, e', e3])
      · have := HO.out.top mb HO.out.smb; omega))
    refine hK.out _ _ hH7 (fun _ => ?_)
    clear hK K
    try simp only [Act.put, qT, q0, qS]
    refine wpAnyH_done (by kernel_rfl) ?_ _
    have HGT : Hid (g < (setBlock U mb ob).heap.size) := Nat.lt_of_lt_of_le HGU.out hgT.size
    have HMT : Hid (MH (setBlock U mb ob) mb (o.log ++ [(q, D)])) := hmT
    have HH7 : Hid _ := hH7
    clear hrun hgT hmT hH7 hHeld HMU HOWU HGU HS7
    generalize setBlock U mb ob = T at *
    have HTD : Hid _ := rangeAt_row HH7.out.s.d
    have HTZ : Hid _ := HH7.out.s.z
    go_wp2_with (first
      | (refine wpList_load_mid rfl 33 _ rfl w5.heap.size 0 rfl DL _ HTD.out Tryz.underlying33 rfl HDI.out ?_)
      | (refine wpList_store_row rfl 33 _ _ rfl (w.heap.size + 1) DL.toArray rfl rfl 33 ZL.toArray HTZ.out (info32a _ HDS.out) (HZS.out.trans HDS.out.symm) HD1.out ?_))
    have hfrT : Fr S w (T.setRow (w.heap.size + 1) DL.toArray) := HH7.out.s.fr.setRow _ _ (.inr (by omega))
    have hsT : (T.setRow (w.heap.size + 1) DL.toArray).heap.size = T.heap.size := by simp
    refine bodyPost_ret (v := .agg DL.toArray) ?_ rfl ⟨by rw [HDL.out]; rfl, hfrT, _, po_more (cap2 := cap2) HO.out hq HDn.out hf hB hfrT ?_ ?_ (HGL.out.imp id (fun h => by omega)) (by rw [hsT]; exact HGT.out) ?_⟩
    · exact results_cell_row Tryz.results94 _ _ (w.heap.size + 1) 33 _ (0, 0) _ rfl (setRow_heap _ _ _ _ _ _ HTZ.out) Tryz.underlying33 rfl (info32a _ HDS.out)
    · exact (setRow_other _ _ _ _ (by omega)).trans (by rw [← HPL.out]; exact HH7.out.o)
    · refine own_keep HOT.out (fun k e hl => setRow_other _ _ _ _ ?_)
      have e' : g = k := (by simpa [Value.ownBlock] using e)
      rcases HGL.out with h | h
      · have := HO.out.top g (HO.out.sov g h).1; omega
      · omega
    · exact HMT.out.keep (setRow_other _ _ _ _ (by have := HO.out.top mb HO.out.smb; omega))
end Go.Proofs.YtekbppfocnbhbaaGreat.R5
