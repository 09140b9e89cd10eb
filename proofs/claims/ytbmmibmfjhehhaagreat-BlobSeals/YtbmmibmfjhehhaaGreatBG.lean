/- blob: Seal and Open. -/
import Derived.Test.YtbmmibmfjhehhaaGreatBF
set_option linter.unusedVariables false
set_option linter.unusedSimpArgs false
namespace Go.Proofs.YtbmmibmfjhehhaaGreat.BC
open Go.RowKit

set_option maxHeartbeats 1000000 in
set_option maxRecDepth 100000 in
theorem seal_no (q : Option Addr) (key pl : List UInt8) (pg c x : Int) (w : World) (hk : key.length = 32) (hpl : pl.length = 128) (hx : x ≠ 0) (hF : ∀ W, Below w.heap.size w W → Calls Tryz.prog 44 #[.pointer q, .int .i64 pg, .int .u64 c] W fun e w' => e = .returned (.int .i64 x) ∧ Below W.heap.size W w') :
    Calls Tryz.prog 7 #[.pointer q, .agg (key.map B8).toArray, .int .i64 pg, .int .u64 c, .agg (pl.map B8).toArray] w fun e w' => e = .returned (gz x) ∧ Below w.heap.size w w' := by
  have hzg := fun W => zero_gr W
  have hbg := fun W => build_gr W
  obtain ⟨ZL, hZL⟩ : ∃ L, L = Z128.map B8 := ⟨_, rfl⟩
  rw [← hZL] at hzg hbg
  have HZN : Hid (ZL.length = 128) := by rw [hZL]; simp [Hid, z128_len]
  have HZ1 : Hid (ZL.toArray.all (·.oneCell') = true) := by show _ = _; rw [hZL]; exact B8_onea _
  have HGZ : Hid (gz x = .tuple #[.agg ZL.toArray, .int .i64 x]) := by show _ = _; rw [hZL]; rfl
  have HPN : Hid ((pl.map B8).length = 128) := by show _ = _; simpa using hpl
  have HKN : Hid ((key.map B8).length = 32) := by show _ = _; simpa using hk
  have HA : Hid (∀ W KL PL, Below w.heap.size w W → Calls Tryz.prog 21 #[.pointer q, .agg (List.toArray KL), .int .i64 pg, .int .u64 c, .agg (List.toArray PL)] W fun e w' => e = .returned (gz x) ∧ Below W.heap.size W w') := fun W KL PL hW => masked_no q KL PL pg c x W hx (fun X hX => hF X (hW.trans (hX.mono hW.size)))
  have HT0 : Hid _ := (((RS.start w).alloc w.heap.size rfl 23 (key.map B8)).alloc (w.heap.size + 1) (by simp) 29 (pl.map B8)).alloc (w.heap.size + 1 + 1) (by simp) 29 ZL
  rw [HGZ.out] at HA ⊢
  clear hZL hbg hx hF HGZ hk hpl
  generalize pl.map B8 = PL at *
  generalize key.map B8 = KL at *
  go_enter Tryz.func7, Tryz.ntmps7
  go_upto_region 1 with fail
  generalize World.alloc _ _ = X0 at *
  go_wp2_with (first
    | (refine wpList_load_mid rfl 23 (.tmp 6) rfl w.heap.size 0 rfl KL _ (rangeAt_row (HT0.out.at 2 rfl)) Tryz.underlying23 rfl (R5.info32 KL HKN.out) ?_)
    | (refine wpList_load_mid rfl 29 (.tmp 9) rfl (w.heap.size + 1) 0 rfl PL _ (rangeAt_row (HT0.out.at 1 rfl)) Tryz.underlying29 rfl (info128 PL HPN.out) ?_))
  refine Calls.mono (HA.out _ _ _ HT0.out.bel) ?_
  rintro e X1 ⟨rfl, hb⟩
  have HT1 : Hid _ := HT0.out.step hb
  clear hb HT0 HA
  go_wp2_with (refine R5.wpList_store_rowL rfl 29 _ _ rfl (w.heap.size + 1 + 1) ZL.toArray rfl rfl 29 ZL.toArray (HT1.out.at 0 rfl) (info128a ZL HZN.out) rfl HZ1.out ?_; intro X2 e2; have HT2 : Hid _ := HT1.out.put 0 rfl ZL; rw [← e2] at HT2; clear e2)
  refine bodyPost_ret (v := .tuple #[.agg ZL.toArray, .int .i64 x]) ?_ rfl ⟨rfl, HT2.out.bel⟩
  exact results_gr2 Tryz.results7 _ _ (w.heap.size + 1 + 1) 29 _ (0, 0) _ rfl rfl (HT2.out.at 0 rfl) (info128a ZL HZN.out)
set_option maxHeartbeats 4000000 in
set_option maxRecDepth 100000 in
theorem seal_ok (B og mb : Nat) (S : Nat → Prop) (key pl : List UInt8) (p c : Nat) (r : List UInt8 × R5.Pra) (dv ov : Value) (o : R5.Pra) (w : World) (hk : key.length = 32) (hpl : pl.length = 128) (hp : p < 128) (hc : c ≤ 4294967296) (hB : B ≤ w.heap.size) (ho : R5.PO B og mb S w o dv ov) (hr : r.1.length = 128)
    (hS : ∀ W dq, Below w.heap.size w W → HB W dq (W1.le 8 p ++ W1.le 8 c) → (∀ j, dq.ownBlock = some j → w.heap.size ≤ j) → Calls Tryz.prog 38 #[.pointer (some ⟨og, 0, none⟩), .agg (R5.qL ⟨4, key, 10, W1.le 8 p ++ W1.le 8 c⟩ dq).toArray, .int .i64 128] W fun e w' => Pass (StT B og mb S r dv) W e w') :
    Calls Tryz.prog 7 #[.pointer (some ⟨og, 0, none⟩), .agg (key.map B8).toArray, .int .i64 (p : Int), .int .u64 (c : Int), .agg (pl.map B8).toArray] w fun e w' => PR B og mb S w r.2 dv (gok (mx pl r.1)) e w' := by
  have hzg := fun W => zero_gr W
  have hbg := fun W => build_gr W
  obtain ⟨ZL, hZL⟩ : ∃ L, L = Z128.map B8 := ⟨_, rfl⟩
  rw [← hZL] at hzg hbg
  have HZN : Hid (ZL.length = 128) := by rw [hZL]; simp [Hid, z128_len]
  have HZ1 : Hid (ZL.toArray.all (·.oneCell') = true) := by show _ = _; rw [hZL]; exact B8_onea _
  have HPN : Hid ((pl.map B8).length = 128) := by show _ = _; simpa using hpl
  have HKN : Hid ((key.map B8).length = 32) := by show _ = _; simpa using hk
  have HML : Hid (((mx pl r.1).map B8).length = 128) := by show _ = _; rw [List.length_map]; exact mx_len _ _ hpl hr
  have HM1 : Hid _ := B8_onea (mx pl r.1)
  have HO : Hid (R5.PO B og mb S w o dv ov) := ho
  have HA : Hid (∀ W, Below w.heap.size w W → Calls Tryz.prog 21 #[.pointer (some ⟨og, 0, none⟩), .agg (key.map B8).toArray, .int .i64 (p : Int), .int .u64 (c : Int), .agg (pl.map B8).toArray] W fun e w' => PR B og mb S W r.2 dv (gok (mx pl r.1)) e w') := fun W hW => masked_ok B og mb S key pl p c r dv ov o W hk hpl hp hc (Nat.le_trans hB hW.size) (ho.below hW) hr (fun X dq hX hd hown => hS X dq (hW.trans (hX.mono hW.size)) hd (fun j e => Nat.le_trans hW.size (hown j e)))
  have HT0 : Hid _ := (((RS.start w).alloc w.heap.size rfl 23 (key.map B8)).alloc (w.heap.size + 1) (by simp) 29 (pl.map B8)).alloc (w.heap.size + 1 + 1) (by simp) 29 ZL
  have HOK : Hid (gok (mx pl r.1) = .tuple #[.agg ((mx pl r.1).map B8).toArray, .int .i64 0]) := rfl
  rw [HOK.out] at HA ⊢
  clear hZL hbg hk hpl hp hc hr hS ho HOK
  generalize (mx pl r.1).map B8 = ML at *
  generalize pl.map B8 = PL at *
  generalize key.map B8 = KL at *
  go_enter Tryz.func7, Tryz.ntmps7
  go_upto_region 1 with fail
  generalize World.alloc _ _ = X0 at *
  go_wp2_with (first
    | (refine wpList_load_mid rfl 23 (.tmp 6) rfl w.heap.size 0 rfl KL _ (rangeAt_row (HT0.out.at 2 rfl)) Tryz.underlying23 rfl (R5.info32 KL HKN.out) ?_)
    | (refine wpList_load_mid rfl 29 (.tmp 9) rfl (w.heap.size + 1) 0 rfl PL _ (rangeAt_row (HT0.out.at 1 rfl)) Tryz.underlying29 rfl (info128 PL HPN.out) ?_))
  refine Calls.mono (HA.out _ HT0.out.bel) ?_
  intro e X1 hP
  have he : e = .returned (.tuple #[.agg ML.toArray, .int .i64 0]) := hP.1
  subst he
  have HRZ : Hid (X1.heap[w.heap.size + 1 + 1]? = some (.cells ZL.toArray 29 (0, 0))) := pr_row HO.out (by omega) (HT0.out.at 0 rfl) hP
  have HEND : Hid (PR B og mb S w r.2 dv (.tuple #[.agg ML.toArray, .int .i64 0]) (.returned (.tuple #[.agg ML.toArray, .int .i64 0])) (X1.setRow (w.heap.size + 1 + 1) ML.toArray)) := pr_end HO.out hB HT0.out.bel hP ((R5.Fr.refl _ _).setRow _ _ (.inl ⟨by omega, R5.row_lt (HT0.out.at 0 rfl)⟩))
  clear hP HA HT0 hB
  go_wp2_with (refine wpList_store_row rfl 29 _ _ rfl (w.heap.size + 1 + 1) ML.toArray rfl rfl 29 ZL.toArray HRZ.out (info128a ML HML.out) (by simp [HML.out, HZN.out]) HM1.out ?_)
  refine bodyPost_ret (v := .tuple #[.agg ML.toArray, .int .i64 0]) ?_ rfl HEND.out
  exact results_gr2 Tryz.results7 _ _ (w.heap.size + 1 + 1) 29 _ (0, 0) _ rfl rfl (setRow_heap _ _ _ _ _ _ HRZ.out) (info128a ML HML.out)
set_option maxHeartbeats 1000000 in
set_option maxRecDepth 100000 in
theorem open_no (q : Option Addr) (key pl : List UInt8) (pg c x : Int) (w : World) (hk : key.length = 32) (hpl : pl.length = 128) (hx : x ≠ 0) (hF : ∀ W, Below w.heap.size w W → Calls Tryz.prog 44 #[.pointer q, .int .i64 pg, .int .u64 c] W fun e w' => e = .returned (.int .i64 x) ∧ Below W.heap.size W w') :
    Calls Tryz.prog 8 #[.pointer q, .agg (key.map B8).toArray, .int .i64 pg, .int .u64 c, .agg (pl.map B8).toArray] w fun e w' => e = .returned (gz x) ∧ Below w.heap.size w w' := by
  have hzg := fun W => zero_gr W
  have hbg := fun W => build_gr W
  obtain ⟨ZL, hZL⟩ : ∃ L, L = Z128.map B8 := ⟨_, rfl⟩
  rw [← hZL] at hzg hbg
  have HZN : Hid (ZL.length = 128) := by rw [hZL]; simp [Hid, z128_len]
  have HZ1 : Hid (ZL.toArray.all (·.oneCell') = true) := by show _ = _; rw [hZL]; exact B8_onea _
  have HGZ : Hid (gz x = .tuple #[.agg ZL.toArray, .int .i64 x]) := by show _ = _; rw [hZL]; rfl
  have HPN : Hid ((pl.map B8).length = 128) := by show _ = _; simpa using hpl
  have HKN : Hid ((key.map B8).length = 32) := by show _ = _; simpa using hk
  have HA : Hid (∀ W KL PL, Below w.heap.size w W → Calls Tryz.prog 21 #[.pointer q, .agg (List.toArray KL), .int .i64 pg, .int .u64 c, .agg (List.toArray PL)] W fun e w' => e = .returned (gz x) ∧ Below W.heap.size W w') := fun W KL PL hW => masked_no q KL PL pg c x W hx (fun X hX => hF X (hW.trans (hX.mono hW.size)))
  have HT0 : Hid _ := (((RS.start w).alloc w.heap.size rfl 23 (key.map B8)).alloc (w.heap.size + 1) (by simp) 29 (pl.map B8)).alloc (w.heap.size + 1 + 1) (by simp) 29 ZL
  rw [HGZ.out] at HA ⊢
  clear hZL hbg hx hF HGZ hk hpl
  generalize pl.map B8 = PL at *
  generalize key.map B8 = KL at *
  go_enter Tryz.func8, Tryz.ntmps8
  go_upto_region 1 with fail
  generalize World.alloc _ _ = X0 at *
  go_wp2_with (first
    | (refine wpList_load_mid rfl 23 (.tmp 6) rfl w.heap.size 0 rfl KL _ (rangeAt_row (HT0.out.at 2 rfl)) Tryz.underlying23 rfl (R5.info32 KL HKN.out) ?_)
    | (refine wpList_load_mid rfl 29 (.tmp 9) rfl (w.heap.size + 1) 0 rfl PL _ (rangeAt_row (HT0.out.at 1 rfl)) Tryz.underlying29 rfl (info128 PL HPN.out) ?_))
  refine Calls.mono (HA.out _ _ _ HT0.out.bel) ?_
  rintro e X1 ⟨rfl, hb⟩
  have HT1 : Hid _ := HT0.out.step hb
  clear hb HT0 HA
  go_wp2_with (refine R5.wpList_store_rowL rfl 29 _ _ rfl (w.heap.size + 1 + 1) ZL.toArray rfl rfl 29 ZL.toArray (HT1.out.at 0 rfl) (info128a ZL HZN.out) rfl HZ1.out ?_; intro X2 e2; have HT2 : Hid _ := HT1.out.put 0 rfl ZL; rw [← e2] at HT2; clear e2)
  refine bodyPost_ret (v := .tuple #[.agg ZL.toArray, .int .i64 x]) ?_ rfl ⟨rfl, HT2.out.bel⟩
  exact results_gr2 Tryz.results8 _ _ (w.heap.size + 1 + 1) 29 _ (0, 0) _ rfl rfl (HT2.out.at 0 rfl) (info128a ZL HZN.out)
set_option maxHeartbeats 4000000 in
set_option maxRecDepth 100000 in
theorem open_ok (B og mb : Nat) (S : Nat → Prop) (key pl : List UInt8) (p c : Nat) (r : List UInt8 × R5.Pra) (dv ov : Value) (o : R5.Pra) (w : World) (hk : key.length = 32) (hpl : pl.length = 128) (hp : p < 128) (hc : c ≤ 4294967296) (hB : B ≤ w.heap.size) (ho : R5.PO B og mb S w o dv ov) (hr : r.1.length = 128)
    (hS : ∀ W dq, Below w.heap.size w W → HB W dq (W1.le 8 p ++ W1.le 8 c) → (∀ j, dq.ownBlock = some j → w.heap.size ≤ j) → Calls Tryz.prog 38 #[.pointer (some ⟨og, 0, none⟩), .agg (R5.qL ⟨4, key, 10, W1.le 8 p ++ W1.le 8 c⟩ dq).toArray, .int .i64 128] W fun e w' => Pass (StT B og mb S r dv) W e w') :
    Calls Tryz.prog 8 #[.pointer (some ⟨og, 0, none⟩), .agg (key.map B8).toArray, .int .i64 (p : Int), .int .u64 (c : Int), .agg (pl.map B8).toArray] w fun e w' => PR B og mb S w r.2 dv (gok (mx pl r.1)) e w' := by
  have hzg := fun W => zero_gr W
  have hbg := fun W => build_gr W
  obtain ⟨ZL, hZL⟩ : ∃ L, L = Z128.map B8 := ⟨_, rfl⟩
  rw [← hZL] at hzg hbg
  have HZN : Hid (ZL.length = 128) := by rw [hZL]; simp [Hid, z128_len]
  have HZ1 : Hid (ZL.toArray.all (·.oneCell') = true) := by show _ = _; rw [hZL]; exact B8_onea _
  have HPN : Hid ((pl.map B8).length = 128) := by show _ = _; simpa using hpl
  have HKN : Hid ((key.map B8).length = 32) := by show _ = _; simpa using hk
  have HML : Hid (((mx pl r.1).map B8).length = 128) := by show _ = _; rw [List.length_map]; exact mx_len _ _ hpl hr
  have HM1 : Hid _ := B8_onea (mx pl r.1)
  have HO : Hid (R5.PO B og mb S w o dv ov) := ho
  have HA : Hid (∀ W, Below w.heap.size w W → Calls Tryz.prog 21 #[.pointer (some ⟨og, 0, none⟩), .agg (key.map B8).toArray, .int .i64 (p : Int), .int .u64 (c : Int), .agg (pl.map B8).toArray] W fun e w' => PR B og mb S W r.2 dv (gok (mx pl r.1)) e w') := fun W hW => masked_ok B og mb S key pl p c r dv ov o W hk hpl hp hc (Nat.le_trans hB hW.size) (ho.below hW) hr (fun X dq hX hd hown => hS X dq (hW.trans (hX.mono hW.size)) hd (fun j e => Nat.le_trans hW.size (hown j e)))
  have HT0 : Hid _ := (((RS.start w).alloc w.heap.size rfl 23 (key.map B8)).alloc (w.heap.size + 1) (by simp) 29 (pl.map B8)).alloc (w.heap.size + 1 + 1) (by simp) 29 ZL
  have HOK : Hid (gok (mx pl r.1) = .tuple #[.agg ((mx pl r.1).map B8).toArray, .int .i64 0]) := rfl
  rw [HOK.out] at HA ⊢
  clear hZL hbg hk hpl hp hc hr hS ho HOK
  generalize (mx pl r.1).map B8 = ML at *
  generalize pl.map B8 = PL at *
  generalize key.map B8 = KL at *
  go_enter Tryz.func8, Tryz.ntmps8
  go_upto_region 1 with fail
  generalize World.alloc _ _ = X0 at *
  go_wp2_with (first
    | (refine wpList_load_mid rfl 23 (.tmp 6) rfl w.heap.size 0 rfl KL _ (rangeAt_row (HT0.out.at 2 rfl)) Tryz.underlying23 rfl (R5.info32 KL HKN.out) ?_)
    | (refine wpList_load_mid rfl 29 (.tmp 9) rfl (w.heap.size + 1) 0 rfl PL _ (rangeAt_row (HT0.out.at 1 rfl)) Tryz.underlying29 rfl (info128 PL HPN.out) ?_))
  refine Calls.mono (HA.out _ HT0.out.bel) ?_
  intro e X1 hP
  have he : e = .returned (.tuple #[.agg ML.toArray, .int .i64 0]) := hP.1
  subst he
  have HRZ : Hid (X1.heap[w.heap.size + 1 + 1]? = some (.cells ZL.toArray 29 (0, 0))) := pr_row HO.out (by omega) (HT0.out.at 0 rfl) hP
  have HEND : Hid (PR B og mb S w r.2 dv (.tuple #[.agg ML.toArray, .int .i64 0]) (.returned (.tuple #[.agg ML.toArray, .int .i64 0])) (X1.setRow (w.heap.size + 1 + 1) ML.toArray)) := pr_end HO.out hB HT0.out.bel hP ((R5.Fr.refl _ _).setRow _ _ (.inl ⟨by omega, R5.row_lt (HT0.out.at 0 rfl)⟩))
  clear hP HA HT0 hB
  go_wp2_with (refine wpList_store_row rfl 29 _ _ rfl (w.heap.size + 1 + 1) ML.toArray rfl rfl 29 ZL.toArray HRZ.out (info128a ML HML.out) (by simp [HML.out, HZN.out]) HM1.out ?_)
  refine bodyPost_ret (v := .tuple #[.agg ML.toArray, .int .i64 0]) ?_ rfl HEND.out
  exact results_gr2 Tryz.results8 _ _ (w.heap.size + 1 + 1) 29 _ (0, 0) _ rfl rfl (setRow_heap _ _ _ _ _ _ HRZ.out) (info128a ML HML.out)
end Go.Proofs.YtbmmibmfjhehhaaGreat.BC
