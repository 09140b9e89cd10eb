/- The statements' one: what is refused, and what is nothing. -/
import Derived.Test.YtefhjjjjbkkedaaGreatTB
set_option linter.unusedVariables false
set_option linter.unusedSimpArgs false
namespace Go.Proofs.YtefhjjjjbkkedaaGreat.R5
open scoped Classical
open Go.RowKit


set_option maxHeartbeats 4000000 in
set_option maxRecDepth 100000 in
theorem one_else (w X K : World) (n tn og mb rg : Nat) (m : List UInt8) (D : List (List UInt8)) (L : List (Qn × List UInt8)) (I : Nat → Prop) (a : Ak) (pd : Option Addr) (cd : Nat) (hM : MM w n tn og mb rg m D L L I K X) (hll : L.length < 800000) (hkq : kOk a.q) (hql : a.q.data.length ≤ 1000000) (hdq : HB w (.slice pd a.q.data.length cd) a.q.data) (h1 : a.kind ≠ 1) (h2 : a.kind ≠ 2) (h3 : a.kind ≠ 3) (h4 : a.kind ≠ 4) (h5 : a.kind ≠ 5) :
    Calls Tryz.prog 8 #[.pointer (some ⟨og, 0, none⟩), .pointer (some ⟨rg, 0, none⟩), .agg (akL a (.slice pd a.q.data.length cd)).toArray] X fun e Y => OneEnd w n og mb rg m D L I K e Y := by
  have hkk := hkq.key
  have hzv := fun W => zero_dig W
  have hbd := fun W => build_dig W
  have hzq := fun W => zero_qn W
  obtain ⟨ZL, hZL⟩ : ∃ L, L = (List.replicate 32 (0 : UInt8)).map B8 := ⟨_, rfl⟩
  obtain ⟨ZQ, hZQ⟩ : ∃ L, L = (qL ⟨0, List.replicate 32 0, 0, []⟩ (.slice none 0 0)).toArray := ⟨_, rfl⟩
  rw [← hZL] at hzv hbd
  rw [← hZQ] at hzq
  have HZQ : Hid (ZQ.size = 35) := by show _ = _; rw [hZQ, List.size_toArray]; exact qL_len _ _ (by simp)
  have HZS : Hid (ZL.toArray.size = 32) := by show _ = _; rw [hZL]; simp
  have HZ1 : Hid (ZL.toArray.all (·.oneCell') = true) := by show _ = _; rw [hZL]; exact B8_onea _
  have HZV : Hid (dV (List.replicate 32 0) = .agg ZL.toArray) := by show _ = _; rw [hZL]; rfl
  have HZ0 : Hid (∀ W, (Op.equalIn 10000 29 (.agg ZL.toArray) (.agg ZL.toArray)).run Tryz.prog W = .ok true W) := fun W => by
    have h := run_equalIn_bytes (P := Tryz.prog) W 9998 29 5 32 Tryz.underlying29 Tryz.underlying5 size_u8 (List.replicate 32 0) (List.replicate 32 0) (by simp) (by simp)
    rw [beq_self_eq_true] at h
    rw [hZL]
    exact h
  have HZI : Hid _ := info32 ZL (by rw [hZL]; simp)
  have hO := OneS.mk' X a (.slice pd a.q.data.length cd) ZQ
  obtain ⟨f0, f1, f2, f3, f4⟩ := ak_facts hkk (rangeAt_row hO.r5)
  obtain ⟨g0, g1, g2, g3⟩ := q_facts hkk hO.r7
  have HL35 : Hid _ := info35 (qL a.q (.slice pd a.q.data.length cd)) (qL_len _ _ hkk)
  have HA35 : Hid (∀ W : World, W.heap[X.heap.size]? = some (.cells (akL a (.slice pd a.q.data.length cd)).toArray 41 (0, 0)) → W.rangeAt X.heap.size 2 (qL a.q (.slice pd a.q.data.length cd))) := fun W hW => by have := (ak_facts hkk (rangeAt_row hW)).2.2.1; simpa using this
  have HQ1 : Hid _ := PS.all_of (qL_one a.q (.slice pd a.q.data.length cd) rfl)
  have HQS : Hid ((qL a.q (.slice pd a.q.data.length cd)).toArray.size = 35) := by show _ = _; rw [List.size_toArray]; exact qL_len _ _ hkk
  have HAS37 : Hid ((akL a (.slice pd a.q.data.length cd)).toArray.size = 37) := by show _ = _; rw [List.size_toArray]; exact akL_len _ _ hkk
  have HM1 : Hid _ := hM.upd (Fr.ofBelow hO.bel)
  have HKC : Hid (∀ W : World, W.heap[X.heap.size + 1]? = some (.cells (qL a.q (.slice pd a.q.data.length cd)).toArray 39 (0, 0)) → W.cell? ⟨X.heap.size + 1, 0, none⟩ = some (.int .i64 a.q.kind)) := fun W hW => (q_facts hkk hW).1
  have HNC : Hid (∀ W : World, W.heap[X.heap.size]? = some (.cells (akL a (.slice pd a.q.data.length cd)).toArray 41 (0, 0)) → W.cell? ⟨X.heap.size, 1, none⟩ = some (.int .i64 a.n)) := fun W hW => by have := (ak_facts hkk (rangeAt_row hW)).2.1; simpa using this
  have HKF : Hid (∀ k, I k → X.heap[k]? = K.heap[k]? ∧ k < X.heap.size) := fun k hk => ⟨hM.same k hk, hM.ilt hk⟩
  have HUQ : Hid _ := Tryz.underlying39
  have HO : Hid _ := hO
  have HB0 : Hid _ := (hM.step hO.bel).bel
  clear hZL hZQ
  have HFIN : Hid (OneEnd w n og mb rg m D L I K (.returned (.bool true)) (((X.alloc (.cells (akL a (.slice pd a.q.data.length cd)).toArray 41 (0, 0))).alloc (.cells ZQ 39 (0, 0))).setRow (X.heap.size + 1) (qL a.q (.slice pd a.q.data.length cd)).toArray)) := ⟨rfl, (hM.step hO.bel).retn⟩
  have k1 : (a.kind == 1) = false := by simpa using h1
  have k2 : (a.kind == 2) = false := by simpa using h2
  have k3 : (a.kind == 3) = false := by simpa using h3
  have k4 : (a.kind == 4) = false := by simpa using h4
  have k5 : (a.kind == 5) = false := by simpa using h5
  clear h1 h2 h3 h4 h5
  have HR5 : Hid _ := hO.r5
  have HR7 : Hid _ := hO.r7
  have HBX : Hid _ := hO.bel
  clear hO HO hM hdq f2 f3 f4 g0 g1 g2 g3
  generalize qL a.q (.slice pd a.q.data.length cd) = QL at *
  generalize akL a (.slice pd a.q.data.length cd) = AKL at *
  go_enter Tryz.func8, Tryz.ntmps8
  have HRZ : Hid ((X.alloc (.cells AKL.toArray 41 (0, 0))).heap[X.heap.size]? = some (.cells AKL.toArray 41 (0, 0))) := heap_alloc_new _ _
  have HZR : Hid (((X.alloc (.cells AKL.toArray 41 (0, 0))).alloc (.cells ZQ 39 (0, 0))).heap[X.heap.size + 1]? = some (.cells ZQ 39 (0, 0))) := heap_at _ _ _ (by simp)
  have HQ7 : Hid ((((X.alloc (.cells AKL.toArray 41 (0, 0))).alloc (.cells ZQ 39 (0, 0))).setRow (X.heap.size + 1) QL.toArray).rangeAt (X.heap.size + 1) 0 QL) := rangeAt_row HR7.out
  go_wp2_with (first
    | (refine wpList_load_mid rfl 39 _ rfl X.heap.size 2 rfl QL _ (HA35.out _ HRZ.out) HUQ.out rfl HL35.out ?_)
    | (refine wpList_store_row rfl 39 _ _ rfl (X.heap.size + 1) QL.toArray rfl rfl 39 ZQ HZR.out (info35b _ HQS.out) (HZQ.out.trans HQS.out.symm) HQ1.out ?_)
    | (refine wpList_load_mid rfl 39 _ rfl (X.heap.size + 1) 0 rfl QL _ HQ7.out HUQ.out rfl HL35.out ?_)
    | (go_at_call 13; fail))
  go_ret
  exact HFIN.out
set_option maxHeartbeats 4000000 in
set_option maxRecDepth 100000 in
theorem one_1bad (w X K : World) (n tn og mb rg : Nat) (m : List UInt8) (D : List (List UInt8)) (L : List (Qn × List UInt8)) (I : Nat → Prop) (a : Ak) (pd : Option Addr) (cd : Nat) (hM : MM w n tn og mb rg m D L L I K X) (hll : L.length < 800000) (hkq : kOk a.q) (hql : a.q.data.length ≤ 1000000) (hdq : HB w (.slice pd a.q.data.length cd) a.q.data) (hk : a.kind = 1) (hbad : askB a.q = false) :
    Calls Tryz.prog 8 #[.pointer (some ⟨og, 0, none⟩), .pointer (some ⟨rg, 0, none⟩), .agg (akL a (.slice pd a.q.data.length cd)).toArray] X fun e Y => OneEnd w n og mb rg m D L I K e Y := by
  have hkk := hkq.key
  have hzv := fun W => zero_dig W
  have hbd := fun W => build_dig W
  have hzq := fun W => zero_qn W
  obtain ⟨ZL, hZL⟩ : ∃ L, L = (List.replicate 32 (0 : UInt8)).map B8 := ⟨_, rfl⟩
  obtain ⟨ZQ, hZQ⟩ : ∃ L, L = (qL ⟨0, List.replicate 32 0, 0, []⟩ (.slice none 0 0)).toArray := ⟨_, rfl⟩
  rw [← hZL] at hzv hbd
  rw [← hZQ] at hzq
  have HZQ : Hid (ZQ.size = 35) := by show _ = _; rw [hZQ, List.size_toArray]; exact qL_len _ _ (by simp)
  have HZS : Hid (ZL.toArray.size = 32) := by show _ = _; rw [hZL]; simp
  have HZ1 : Hid (ZL.toArray.all (·.oneCell') = true) := by show _ = _; rw [hZL]; exact B8_onea _
  have HZV : Hid (dV (List.replicate 32 0) = .agg ZL.toArray) := by show _ = _; rw [hZL]; rfl
  have HZ0 : Hid (∀ W, (Op.equalIn 10000 29 (.agg ZL.toArray) (.agg ZL.toArray)).run Tryz.prog W = .ok true W) := fun W => by
    have h := run_equalIn_bytes (P := Tryz.prog) W 9998 29 5 32 Tryz.underlying29 Tryz.underlying5 size_u8 (List.replicate 32 0) (List.replicate 32 0) (by simp) (by simp)
    rw [beq_self_eq_true] at h
    rw [hZL]
    exact h
  have HZI : Hid _ := info32 ZL (by rw [hZL]; simp)
  have hO := OneS.mk' X a (.slice pd a.q.data.length cd) ZQ
  obtain ⟨f0, f1, f2, f3, f4⟩ := ak_facts hkk (rangeAt_row hO.r5)
  obtain ⟨g0, g1, g2, g3⟩ := q_facts hkk hO.r7
  have HL35 : Hid _ := info35 (qL a.q (.slice pd a.q.data.length cd)) (qL_len _ _ hkk)
  have HA35 : Hid (∀ W : World, W.heap[X.heap.size]? = some (.cells (akL a (.slice pd a.q.data.length cd)).toArray 41 (0, 0)) → W.rangeAt X.heap.size 2 (qL a.q (.slice pd a.q.data.length cd))) := fun W hW => by have := (ak_facts hkk (rangeAt_row hW)).2.2.1; simpa using this
  have HQ1 : Hid _ := PS.all_of (qL_one a.q (.slice pd a.q.data.length cd) rfl)
  have HQS : Hid ((qL a.q (.slice pd a.q.data.length cd)).toArray.size = 35) := by show _ = _; rw [List.size_toArray]; exact qL_len _ _ hkk
  have HAS37 : Hid ((akL a (.slice pd a.q.data.length cd)).toArray.size = 37) := by show _ = _; rw [List.size_toArray]; exact akL_len _ _ hkk
  have HM1 : Hid _ := hM.upd (Fr.ofBelow hO.bel)
  have HKC : Hid (∀ W : World, W.heap[X.heap.size + 1]? = some (.cells (qL a.q (.slice pd a.q.data.length cd)).toArray 39 (0, 0)) → W.cell? ⟨X.heap.size + 1, 0, none⟩ = some (.int .i64 a.q.kind)) := fun W hW => (q_facts hkk hW).1
  have HNC : Hid (∀ W : World, W.heap[X.heap.size]? = some (.cells (akL a (.slice pd a.q.data.length cd)).toArray 41 (0, 0)) → W.cell? ⟨X.heap.size, 1, none⟩ = some (.int .i64 a.n)) := fun W hW => by have := (ak_facts hkk (rangeAt_row hW)).2.1; simpa using this
  have HKF : Hid (∀ k, I k → X.heap[k]? = K.heap[k]? ∧ k < X.heap.size) := fun k hk => ⟨hM.same k hk, hM.ilt hk⟩
  have HUQ : Hid _ := Tryz.underlying39
  have HO : Hid _ := hO
  have HB0 : Hid _ := (hM.step hO.bel).bel
  clear hZL hZQ
  rw [hk] at f0
  have HASK : Hid (∀ (Y K' : World) (I' : Nat → Prop), MM w n tn og mb rg m D L L I' K' Y → Calls Tryz.prog 13 #[.pointer (some ⟨og, 0, none⟩), .agg (qL a.q (.slice pd a.q.data.length cd)).toArray] Y fun e Z => e = .returned (errV 2) ∧ MM w n tn og mb rg m D L L I' K' Z) := fun Y K' I' h => h.askBad _ a.q hkk hbad
  have hmay : ∀ Y, Below w.heap.size w Y → Calls Tryz.prog 20 #[.agg (qL a.q (.slice pd a.q.data.length cd)).toArray] Y fun e Z => e = .returned (.bool (mayQ a.q)) ∧ Below Y.heap.size Y Z := fun Y hb => may_any _ a.q Y ⟨hkk, _, rfl, hdq.below hb⟩
  have HQ0 : Hid (∀ W, (Op.equalIn 10000 29 (.agg ZL.toArray) (.agg ZL.toArray)).run Tryz.prog W = .ok true W) := HZ0.out
  have HBD : Hid (mayQ a.q = true → a.q.kind = 4) := fun h => by unfold askB at hbad; rw [h] at hbad; simpa using hbad
  generalize mayQ a.q = MB at *
  clear hbad
  cases MB with
  | false =>
    have HMAY : Hid _ := hmay
    clear hmay HBD
    have HR5 : Hid _ := hO.r5
    have HR7 : Hid _ := hO.r7
    have HBX : Hid _ := hO.bel
    clear hO HO hM hdq f2 f3 f4 g0 g1 g2 g3
    generalize qL a.q (.slice pd a.q.data.length cd) = QL at *
    generalize akL a (.slice pd a.q.data.length cd) = AKL at *
    clear hkk hk
    go_enter Tryz.func8, Tryz.ntmps8
    have HRZ : Hid ((X.alloc (.cells AKL.toArray 41 (0, 0))).heap[X.heap.size]? = some (.cells AKL.toArray 41 (0, 0))) := heap_alloc_new _ _
    have HZR : Hid (((X.alloc (.cells AKL.toArray 41 (0, 0))).alloc (.cells ZQ 39 (0, 0))).heap[X.heap.size + 1]? = some (.cells ZQ 39 (0, 0))) := heap_at _ _ _ (by simp)
    have HQ7 : Hid ((((X.alloc (.cells AKL.toArray 41 (0, 0))).alloc (.cells ZQ 39 (0, 0))).setRow (X.heap.size + 1) QL.toArray).rangeAt (X.heap.size + 1) 0 QL) := rangeAt_row HR7.out
    go_wp2_with (first
      | (refine wpList_load_mid rfl 39 _ rfl X.heap.size 2 rfl QL _ (HA35.out _ HRZ.out) HUQ.out rfl HL35.out ?_)
      | (refine wpList_store_row rfl 39 _ _ rfl (X.heap.size + 1) QL.toArray rfl rfl 39 ZQ HZR.out (info35b _ HQS.out) (HZQ.out.trans HQS.out.symm) HQ1.out ?_)
      | (refine wpList_load_mid rfl 39 _ rfl (X.heap.size + 1) 0 rfl QL _ HQ7.out HUQ.out rfl HL35.out ?_)
      | (go_at_call 13; fail))
    refine Calls.mono (HASK.out _ _ _ HM1.out) ?_
    rintro e Y ⟨rfl, hM2⟩
    clear HASK HM1 HA35 HRZ HZR HQ7 f0 f1
    generalize (((X.alloc (.cells AKL.toArray 41 (0, 0))).alloc (.cells ZQ 39 (0, 0))).setRow (X.heap.size + 1) QL.toArray) = X1 at *
    have hx1 := row_lt HR7.out
    have hr7 := hM2.at (.inr ⟨by omega, hx1⟩) HR7.out
    unfold errV
    rw [HZV.out]
    have hb2 : Below Y.heap.size Y ((Y.alloc (.cells ZL.toArray 29 (0, 0))).setRow Y.heap.size ZL.toArray) := below_setRow ((Below.refl _ _).alloc (Nat.le_refl _) _) (Nat.le_refl _) _
    have HM3 : Hid _ := (hM2.step hb2).back (fun k hk => ⟨.inl hk, (HBX.out.block k (HKF.out k hk).2).trans (HKF.out k hk).1⟩)
    have HR8 : Hid (((Y.alloc (.cells ZL.toArray 29 (0, 0))).setRow Y.heap.size ZL.toArray).heap[Y.heap.size]? = some (.cells ZL.toArray 29 (0, 0))) := setRow_heap _ _ _ _ _ _ (heap_alloc_new _ _)
    have HZ8 : Hid ((Y.alloc (.cells ZL.toArray 29 (0, 0))).heap[Y.heap.size]? = some (.cells ZL.toArray 29 (0, 0))) := heap_alloc_new _ _
    have HR77 : Hid (((Y.alloc (.cells ZL.toArray 29 (0, 0))).setRow Y.heap.size ZL.toArray).heap[X.heap.size + 1]? = some (.cells QL.toArray 39 (0, 0))) := (hb2.block _ (row_lt hr7)).trans hr7
    have HQ77 : Hid _ := rangeAt_row HR77.out
    clear hM2 hb2 hr7
    go_wp2_with (first
      | (refine wpList_store_row rfl 29 _ _ rfl Y.heap.size ZL.toArray rfl rfl 29 ZL.toArray HZ8.out (info32a _ HZS.out) rfl HZ1.out ?_)
      | (refine wpList_load_mid rfl 39 _ rfl (X.heap.size + 1) 0 rfl QL _ HQ77.out HUQ.out rfl HL35.out ?_)
      | (go_at_call 20; fail))
    refine Calls.mono (HMAY.out _ HM3.out.bel) ?_
    rintro e Y3 ⟨rfl, hb3⟩
    have HM5 : Hid _ := (HM3.out.step hb3).retn
    have hr73 : Y3.heap[X.heap.size + 1]? = some (.cells QL.toArray 39 (0, 0)) := (hb3.block _ (row_lt HR77.out)).trans HR77.out
    have hk73 := HKC.out _ hr73
    have hr83 : Y3.heap[Y.heap.size]? = some (.cells ZL.toArray 29 (0, 0)) := (hb3.block _ (row_lt HR8.out)).trans HR8.out
    have HX8 : Hid _ := rangeAt_row hr83
    clear HM3 HQ77 HR77 HR8 HZ8 hr73 hr83 hb3
    generalize ((Y.alloc (.cells ZL.toArray 29 (0, 0))).setRow Y.heap.size ZL.toArray) = Y2 at *
    go_wp2_with (refine load_mid_g (by rfl) 29 _ rfl Y.heap.size 0 rfl ZL _ HX8.out Tryz.underlying29 rfl HZI.out ?_)
    refine upon_eq (r' := .ok (Next.value (.bool true)) _) (congrArg (fun r => Result.andThen (Result.andThen r (fun b w' => Result.ok (Value.bool b) w')) (fun a w' => Result.ok (Next.value a) w')) (HQ0.out Y3)) ?_
    go_wp2
    go_ret
    exact ⟨rfl, HM5.out⟩
  | true =>
    have HMAY : Hid _ := hmay
    rw [HBD.out rfl] at HKC
    clear hmay HBD
    have HR5 : Hid _ := hO.r5
    have HR7 : Hid _ := hO.r7
    have HBX : Hid _ := hO.bel
    clear hO HO hM hdq f2 f3 f4 g0 g1 g2 g3
    generalize qL a.q (.slice pd a.q.data.length cd) = QL at *
    generalize akL a (.slice pd a.q.data.length cd) = AKL at *
    clear hkk hk
    go_enter Tryz.func8, Tryz.ntmps8
    have HRZ : Hid ((X.alloc (.cells AKL.toArray 41 (0, 0))).heap[X.heap.size]? = some (.cells AKL.toArray 41 (0, 0))) := heap_alloc_new _ _
    have HZR : Hid (((X.alloc (.cells AKL.toArray 41 (0, 0))).alloc (.cells ZQ 39 (0, 0))).heap[X.heap.size + 1]? = some (.cells ZQ 39 (0, 0))) := heap_at _ _ _ (by simp)
    have HQ7 : Hid ((((X.alloc (.cells AKL.toArray 41 (0, 0))).alloc (.cells ZQ 39 (0, 0))).setRow (X.heap.size + 1) QL.toArray).rangeAt (X.heap.size + 1) 0 QL) := rangeAt_row HR7.out
    go_wp2_with (first
      | (refine wpList_load_mid rfl 39 _ rfl X.heap.size 2 rfl QL _ (HA35.out _ HRZ.out) HUQ.out rfl HL35.out ?_)
      | (refine wpList_store_row rfl 39 _ _ rfl (X.heap.size + 1) QL.toArray rfl rfl 39 ZQ HZR.out (info35b _ HQS.out) (HZQ.out.trans HQS.out.symm) HQ1.out ?_)
      | (refine wpList_load_mid rfl 39 _ rfl (X.heap.size + 1) 0 rfl QL _ HQ7.out HUQ.out rfl HL35.out ?_)
      | (go_at_call 13; fail))
    refine Calls.mono (HASK.out _ _ _ HM1.out) ?_
    rintro e Y ⟨rfl, hM2⟩
    clear HASK HM1 HA35 HRZ HZR HQ7 f0 f1
    generalize (((X.alloc (.cells AKL.toArray 41 (0, 0))).alloc (.cells ZQ 39 (0, 0))).setRow (X.heap.size + 1) QL.toArray) = X1 at *
    have hx1 := row_lt HR7.out
    have hr7 := hM2.at (.inr ⟨by omega, hx1⟩) HR7.out
    unfold errV
    rw [HZV.out]
    have hb2 : Below Y.heap.size Y ((Y.alloc (.cells ZL.toArray 29 (0, 0))).setRow Y.heap.size ZL.toArray) := below_setRow ((Below.refl _ _).alloc (Nat.le_refl _) _) (Nat.le_refl _) _
    have HM3 : Hid _ := (hM2.step hb2).back (fun k hk => ⟨.inl hk, (HBX.out.block k (HKF.out k hk).2).trans (HKF.out k hk).1⟩)
    have HR8 : Hid (((Y.alloc (.cells ZL.toArray 29 (0, 0))).setRow Y.heap.size ZL.toArray).heap[Y.heap.size]? = some (.cells ZL.toArray 29 (0, 0))) := setRow_heap _ _ _ _ _ _ (heap_alloc_new _ _)
    have HZ8 : Hid ((Y.alloc (.cells ZL.toArray 29 (0, 0))).heap[Y.heap.size]? = some (.cells ZL.toArray 29 (0, 0))) := heap_alloc_new _ _
    have HR77 : Hid (((Y.alloc (.cells ZL.toArray 29 (0, 0))).setRow Y.heap.size ZL.toArray).heap[X.heap.size + 1]? = some (.cells QL.toArray 39 (0, 0))) := (hb2.block _ (row_lt hr7)).trans hr7
    have HQ77 : Hid _ := rangeAt_row HR77.out
    clear hM2 hb2 hr7
    go_wp2_with (first
      | (refine wpList_store_row rfl 29 _ _ rfl Y.heap.size ZL.toArray rfl rfl 29 ZL.toArray HZ8.out (info32a _ HZS.out) rfl HZ1.out ?_)
      | (refine wpList_load_mid rfl 39 _ rfl (X.heap.size + 1) 0 rfl QL _ HQ77.out HUQ.out rfl HL35.out ?_)
      | (go_at_call 20; fail))
    refine Calls.mono (HMAY.out _ HM3.out.bel) ?_
    rintro e Y3 ⟨rfl, hb3⟩
    have HM5 : Hid _ := (HM3.out.step hb3).retn
    have hr73 : Y3.heap[X.heap.size + 1]? = some (.cells QL.toArray 39 (0, 0)) := (hb3.block _ (row_lt HR77.out)).trans HR77.out
    have hk73 := HKC.out _ hr73
    have hr83 : Y3.heap[Y.heap.size]? = some (.cells ZL.toArray 29 (0, 0)) := (hb3.block _ (row_lt HR8.out)).trans HR8.out
    have HX8 : Hid _ := rangeAt_row hr83
    clear HM3 HQ77 HR77 HR8 HZ8 hr73 hr83 hb3
    generalize ((Y.alloc (.cells ZL.toArray 29 (0, 0))).setRow Y.heap.size ZL.toArray) = Y2 at *
    go_wp2_with (refine load_mid_g (by rfl) 29 _ rfl Y.heap.size 0 rfl ZL _ HX8.out Tryz.underlying29 rfl HZI.out ?_)
    refine upon_eq (r' := .ok (Next.value (.bool true)) _) (congrArg (fun r => Result.andThen (Result.andThen r (fun b w' => Result.ok (Value.bool b) w')) (fun a w' => Result.ok (Next.value a) w')) (HQ0.out Y3)) ?_
    go_wp2
    go_ret
    exact ⟨rfl, HM5.out⟩
end Go.Proofs.YtefhjjjjbkkedaaGreat.R5
