/- The statements' one: streams. -/
import Derived.Test.YtefhjjjjbkkedaaGreatTC
set_option linter.unusedVariables false
set_option linter.unusedSimpArgs false
namespace Go.Proofs.YtefhjjjjbkkedaaGreat.R5
open scoped Classical
open Go.RowKit


/-- What the region with a stream's bytes reads. -/
structure StrR (b c : Nat) (QL : List Value) (k : Int) (v : Value) (l : List UInt8) (X : World) : Prop where
  q : X.rangeAt c 0 QL
  n : X.cell? ⟨b, 1, none⟩ = some (.int .i64 k)
  x : HB X v l
set_option maxHeartbeats 4000000 in
set_option maxRecDepth 100000 in
theorem one_2bad (w X K : World) (n tn og mb rg : Nat) (m : List UInt8) (D : List (List UInt8)) (L : List (Qn × List UInt8)) (I : Nat → Prop) (a : Ak) (pd : Option Addr) (cd : Nat) (hM : MM w n tn og mb rg m D L L I K X) (hll : L.length < 800000) (hkq : kOk a.q) (hql : a.q.data.length ≤ 1000000) (hdq : HB w (.slice pd a.q.data.length cd) a.q.data) (hk : a.kind = 2) (hbad : strB a.q a.n = false) :
    Calls Tryz.prog 8 #[.pointer (some ⟨og, 0, none⟩), .pointer (some ⟨rg, 0, none⟩), .agg (akL a (.slice pd a.q.data.length cd)).toArray] X fun e Y => OneEnd w n og mb rg m D L I K e Y := by
  have hkk := hkq.key
  have hzv := fun W => zero_dig W
  have hbd := fun W => build_dig W
  have hzq := fun W => zero_qn W
  obtain ⟨ZL, hZL⟩ : ∃ L, L = (List.replicate 32 (0 : UInt8)).map B8 := ⟨_, rfl⟩
  obtain ⟨ZQ, hZQ⟩ : ∃ L, L = (qL ⟨0, List.replicate 32 0, 0, []⟩ (.slice none 0 0)).toArray := ⟨_, rfl⟩
  rw [← hZL] at hzv hbd
  rw [← hZQ] at hzq
  have HZQ : Hid (ZQ.size = 35) := by show _ = _; rw [hZQ, List.size_toArray]; exact qL_len _ _ (by simp)
  have HZS : Hid (ZL.toArray.size = 32) := by show _ = _; rw [hZL]; simp
  have HZ1 : Hid (ZL.toArray.all (·.oneCell') = true) := by show _ = _; rw [hZL]; exact B8_onea _
  have HZV : Hid (dV (List.replicate 32 0) = .agg ZL.toArray) := by show _ = _; rw [hZL]; rfl
  have HZ0 : Hid (∀ W, (Op.equalIn 10000 29 (.agg ZL.toArray) (.agg ZL.toArray)).run Tryz.prog W = .ok true W) := fun W => by
    have h := run_equalIn_bytes (P := Tryz.prog) W 9998 29 5 32 Tryz.underlying29 Tryz.underlying5 size_u8 (List.replicate 32 0) (List.replicate 32 0) (by simp) (by simp)
    rw [beq_self_eq_true] at h
    rw [hZL]
    exact h
  have HZI : Hid _ := info32 ZL (by rw [hZL]; simp)
  have hO := OneS.mk' X a (.slice pd a.q.data.length cd) ZQ
  obtain ⟨f0, f1, f2, f3, f4⟩ := ak_facts hkk (rangeAt_row hO.r5)
  obtain ⟨g0, g1, g2, g3⟩ := q_facts hkk hO.r7
  have HL35 : Hid _ := info35 (qL a.q (.slice pd a.q.data.length cd)) (qL_len _ _ hkk)
  have HA35 : Hid (∀ W : World, W.heap[X.heap.size]? = some (.cells (akL a (.slice pd a.q.data.length cd)).toArray 41 (0, 0)) → W.rangeAt X.heap.size 2 (qL a.q (.slice pd a.q.data.length cd))) := fun W hW => by have := (ak_facts hkk (rangeAt_row hW)).2.2.1; simpa using this
  have HQ1 : Hid _ := PS.all_of (qL_one a.q (.slice pd a.q.data.length cd) rfl)
  have HQS : Hid ((qL a.q (.slice pd a.q.data.length cd)).toArray.size = 35) := by show _ = _; rw [List.size_toArray]; exact qL_len _ _ hkk
  have HAS37 : Hid ((akL a (.slice pd a.q.data.length cd)).toArray.size = 37) := by show _ = _; rw [List.size_toArray]; exact akL_len _ _ hkk
  have HM1 : Hid _ := hM.upd (Fr.ofBelow hO.bel)
  have HKC : Hid (∀ W : World, W.heap[X.heap.size + 1]? = some (.cells (qL a.q (.slice pd a.q.data.length cd)).toArray 39 (0, 0)) → W.cell? ⟨X.heap.size + 1, 0, none⟩ = some (.int .i64 a.q.kind)) := fun W hW => (q_facts hkk hW).1
  have HNC : Hid (∀ W : World, W.heap[X.heap.size]? = some (.cells (akL a (.slice pd a.q.data.length cd)).toArray 41 (0, 0)) → W.cell? ⟨X.heap.size, 1, none⟩ = some (.int .i64 a.n)) := fun W hW => by have := (ak_facts hkk (rangeAt_row hW)).2.1; simpa using this
  have HKF : Hid (∀ k, I k → X.heap[k]? = K.heap[k]? ∧ k < X.heap.size) := fun k hk => ⟨hM.same k hk, hM.ilt hk⟩
  have HUQ : Hid _ := Tryz.underlying39
  have HO : Hid _ := hO
  have HB0 : Hid _ := (hM.step hO.bel).bel
  clear hZL hZQ
  rw [hk] at f0
  have HSTR : Hid (∀ (Y K' : World) (I' : Nat → Prop), MM w n tn og mb rg m D L L I' K' Y → Calls Tryz.prog 18 #[.pointer (some ⟨og, 0, none⟩), .agg (qL a.q (.slice pd a.q.data.length cd)).toArray, .int .i64 a.n] Y fun e Z => e = .returned (errS 2) ∧ MM w n tn og mb rg m D L L I' K' Z) := fun Y K' I' h => h.strBad _ a.q a.n hkk hbad
  have hmay : ∀ Y, Below w.heap.size w Y → Calls Tryz.prog 20 #[.agg (qL a.q (.slice pd a.q.data.length cd)).toArray] Y fun e Z => e = .returned (.bool (mayQ a.q)) ∧ Below Y.heap.size Y Z := fun Y hb => may_any _ a.q Y ⟨hkk, _, rfl, hdq.below hb⟩
  have HDT : mayQ a.q = true → a.q.kind = 4 → 0 ≤ a.n → ¬ a.n ≤ 1024 := fun h1 h2 h3 h4 => by
    have h1' : 1 ≤ a.q.kind ∧ a.q.kind ≤ 4 ∧ 1 ≤ a.q.dom ∧ a.q.dom ≤ 16 ∧ (a.q.kind = 1 → a.q.key = List.replicate 32 0) := by unfold mayQ at h1; exact of_decide_eq_true h1
    unfold strB at hbad
    exact absurd (⟨h2, h1'.2.2.1, h1'.2.2.2.1, h3, h4⟩ : a.q.kind = 4 ∧ 1 ≤ a.q.dom ∧ a.q.dom ≤ 16 ∧ 0 ≤ a.n ∧ a.n ≤ 1024) (by simpa using hbad)
  generalize mayQ a.q = MB at *
  clear hbad
  cases MB with
  | false =>
    clear HDT
    have HIQ : Hid _ := hmay
    clear hmay
    have HR5 : Hid _ := hO.r5
    have HR7 : Hid _ := hO.r7
    have HBX : Hid _ := hO.bel
    clear hO HO hM hdq f2 f3 f4 g0 g1 g2 g3
    generalize qL a.q (.slice pd a.q.data.length cd) = QL at *
    generalize akL a (.slice pd a.q.data.length cd) = AKL at *
    clear hkk hk
    have f1' := HNC.out _ HR5.out
    clear f1
    go_enter Tryz.func8, Tryz.ntmps8
    have HRZ : Hid ((X.alloc (.cells AKL.toArray 41 (0, 0))).heap[X.heap.size]? = some (.cells AKL.toArray 41 (0, 0))) := heap_alloc_new _ _
    have HZR : Hid (((X.alloc (.cells AKL.toArray 41 (0, 0))).alloc (.cells ZQ 39 (0, 0))).heap[X.heap.size + 1]? = some (.cells ZQ 39 (0, 0))) := heap_at _ _ _ (by simp)
    have HQ7 : Hid ((((X.alloc (.cells AKL.toArray 41 (0, 0))).alloc (.cells ZQ 39 (0, 0))).setRow (X.heap.size + 1) QL.toArray).rangeAt (X.heap.size + 1) 0 QL) := rangeAt_row HR7.out
    go_wp2_with (first
      | (refine wpList_load_mid rfl 39 _ rfl X.heap.size 2 rfl QL _ (HA35.out _ HRZ.out) HUQ.out rfl HL35.out ?_)
      | (refine wpList_store_row rfl 39 _ _ rfl (X.heap.size + 1) QL.toArray rfl rfl 39 ZQ HZR.out (info35b _ HQS.out) (HZQ.out.trans HQS.out.symm) HQ1.out ?_)
      | (refine wpList_load_mid rfl 39 _ rfl (X.heap.size + 1) 0 rfl QL _ HQ7.out HUQ.out rfl HL35.out ?_)
      | (go_at_call 18; fail))
    refine Calls.mono (HSTR.out _ _ _ HM1.out) ?_
    rintro e Y ⟨rfl, hM2⟩
    clear HSTR HM1 HA35 HRZ HZR HQ7 f0 f1'
    generalize (((X.alloc (.cells AKL.toArray 41 (0, 0))).alloc (.cells ZQ 39 (0, 0))).setRow (X.heap.size + 1) QL.toArray) = X1 at *
    have hx1 := row_lt HR7.out
    have hr7 := hM2.at (.inr ⟨by omega, hx1⟩) HR7.out
    have hr5 := hM2.at (.inr ⟨by omega, by omega⟩) HR5.out
    have HM3 : Hid _ := hM2.back (fun k hk => ⟨.inl hk, (HBX.out.block k (HKF.out k hk).2).trans (HKF.out k hk).1⟩)
    have HQ77 : Hid _ := rangeAt_row hr7
    have HR77 : Hid _ := hr7
    have HR55 : Hid _ := hr5
    clear hM2 hr7 hr5
    unfold errS
    go_wp2_with (first
      | (refine wpList_load_mid rfl 39 _ rfl (X.heap.size + 1) 0 rfl QL _ HQ77.out HUQ.out rfl HL35.out ?_)
      | (go_at_call 20; fail))
    refine Calls.mono (HIQ.out _ HM3.out.bel) ?_
    rintro e Y3 ⟨rfl, hb3⟩
    have HM5 : Hid _ := (HM3.out.step hb3).retn
    have hk73 := HKC.out _ ((hb3.block _ (row_lt HR77.out)).trans HR77.out)
    have hn53 := HNC.out _ ((hb3.block _ (row_lt HR55.out)).trans HR55.out)
    clear HM3 HQ77 HR77 HR55 hb3
    go_wp2
    go_ret
    exact ⟨rfl, HM5.out⟩
  | true =>
    by_cases h4 : a.q.kind = 4
    · rw [h4] at HKC
      have HDT' : Hid _ := HDT rfl h4
      clear HDT h4
      by_cases hn : a.n < 0
      · skip
        have HIQ : Hid _ := hmay
        clear hmay
        have HR5 : Hid _ := hO.r5
        have HR7 : Hid _ := hO.r7
        have HBX : Hid _ := hO.bel
        clear hO HO hM hdq f2 f3 f4 g0 g1 g2 g3
        generalize qL a.q (.slice pd a.q.data.length cd) = QL at *
        generalize akL a (.slice pd a.q.data.length cd) = AKL at *
        clear hkk hk
        have f1' := HNC.out _ HR5.out
        clear f1
        go_enter Tryz.func8, Tryz.ntmps8
        have HRZ : Hid ((X.alloc (.cells AKL.toArray 41 (0, 0))).heap[X.heap.size]? = some (.cells AKL.toArray 41 (0, 0))) := heap_alloc_new _ _
        have HZR : Hid (((X.alloc (.cells AKL.toArray 41 (0, 0))).alloc (.cells ZQ 39 (0, 0))).heap[X.heap.size + 1]? = some (.cells ZQ 39 (0, 0))) := heap_at _ _ _ (by simp)
        have HQ7 : Hid ((((X.alloc (.cells AKL.toArray 41 (0, 0))).alloc (.cells ZQ 39 (0, 0))).setRow (X.heap.size + 1) QL.toArray).rangeAt (X.heap.size + 1) 0 QL) := rangeAt_row HR7.out
        go_wp2_with (first
          | (refine wpList_load_mid rfl 39 _ rfl X.heap.size 2 rfl QL _ (HA35.out _ HRZ.out) HUQ.out rfl HL35.out ?_)
          | (refine wpList_store_row rfl 39 _ _ rfl (X.heap.size + 1) QL.toArray rfl rfl 39 ZQ HZR.out (info35b _ HQS.out) (HZQ.out.trans HQS.out.symm) HQ1.out ?_)
          | (refine wpList_load_mid rfl 39 _ rfl (X.heap.size + 1) 0 rfl QL _ HQ7.out HUQ.out rfl HL35.out ?_)
          | (go_at_call 18; fail))
        refine Calls.mono (HSTR.out _ _ _ HM1.out) ?_
        rintro e Y ⟨rfl, hM2⟩
        clear HSTR HM1 HA35 HRZ HZR HQ7 f0 f1'
        generalize (((X.alloc (.cells AKL.toArray 41 (0, 0))).alloc (.cells ZQ 39 (0, 0))).setRow (X.heap.size + 1) QL.toArray) = X1 at *
        have hx1 := row_lt HR7.out
        have hr7 := hM2.at (.inr ⟨by omega, hx1⟩) HR7.out
        have hr5 := hM2.at (.inr ⟨by omega, by omega⟩) HR5.out
        have HM3 : Hid _ := hM2.back (fun k hk => ⟨.inl hk, (HBX.out.block k (HKF.out k hk).2).trans (HKF.out k hk).1⟩)
        have HQ77 : Hid _ := rangeAt_row hr7
        have HR77 : Hid _ := hr7
        have HR55 : Hid _ := hr5
        clear hM2 hr7 hr5
        unfold errS
        go_wp2_with (first
          | (refine wpList_load_mid rfl 39 _ rfl (X.heap.size + 1) 0 rfl QL _ HQ77.out HUQ.out rfl HL35.out ?_)
          | (go_at_call 20; fail))
        refine Calls.mono (HIQ.out _ HM3.out.bel) ?_
        rintro e Y3 ⟨rfl, hb3⟩
        have HM5 : Hid _ := (HM3.out.step hb3).retn
        have hk73 := HKC.out _ ((hb3.block _ (row_lt HR77.out)).trans HR77.out)
        have hn53 := HNC.out _ ((hb3.block _ (row_lt HR55.out)).trans HR55.out)
        clear HM3 HQ77 HR77 HR55 hb3
        go_wp2
        go_ret
        exact ⟨rfl, HM5.out⟩
      · have hn2 : 1024 < a.n := by have := HDT'.out (by omega); omega
        have HIQ : Hid _ := hmay
        clear hmay
        have HR5 : Hid _ := hO.r5
        have HR7 : Hid _ := hO.r7
        have HBX : Hid _ := hO.bel
        clear hO HO hM hdq f2 f3 f4 g0 g1 g2 g3
        generalize qL a.q (.slice pd a.q.data.length cd) = QL at *
        generalize akL a (.slice pd a.q.data.length cd) = AKL at *
        clear hkk hk
        have f1' := HNC.out _ HR5.out
        clear f1
        go_enter Tryz.func8, Tryz.ntmps8
        have HRZ : Hid ((X.alloc (.cells AKL.toArray 41 (0, 0))).heap[X.heap.size]? = some (.cells AKL.toArray 41 (0, 0))) := heap_alloc_new _ _
        have HZR : Hid (((X.alloc (.cells AKL.toArray 41 (0, 0))).alloc (.cells ZQ 39 (0, 0))).heap[X.heap.size + 1]? = some (.cells ZQ 39 (0, 0))) := heap_at _ _ _ (by simp)
        have HQ7 : Hid ((((X.alloc (.cells AKL.toArray 41 (0, 0))).alloc (.cells ZQ 39 (0, 0))).setRow (X.heap.size + 1) QL.toArray).rangeAt (X.heap.size + 1) 0 QL) := rangeAt_row HR7.out
        go_wp2_with (first
          | (refine wpList_load_mid rfl 39 _ rfl X.heap.size 2 rfl QL _ (HA35.out _ HRZ.out) HUQ.out rfl HL35.out ?_)
          | (refine wpList_store_row rfl 39 _ _ rfl (X.heap.size + 1) QL.toArray rfl rfl 39 ZQ HZR.out (info35b _ HQS.out) (HZQ.out.trans HQS.out.symm) HQ1.out ?_)
          | (refine wpList_load_mid rfl 39 _ rfl (X.heap.size + 1) 0 rfl QL _ HQ7.out HUQ.out rfl HL35.out ?_)
          | (go_at_call 18; fail))
        refine Calls.mono (HSTR.out _ _ _ HM1.out) ?_
        rintro e Y ⟨rfl, hM2⟩
        clear HSTR HM1 HA35 HRZ HZR HQ7 f0 f1'
        generalize (((X.alloc (.cells AKL.toArray 41 (0, 0))).alloc (.cells ZQ 39 (0, 0))).setRow (X.heap.size + 1) QL.toArray) = X1 at *
        have hx1 := row_lt HR7.out
        have hr7 := hM2.at (.inr ⟨by omega, hx1⟩) HR7.out
        have hr5 := hM2.at (.inr ⟨by omega, by omega⟩) HR5.out
        have HM3 : Hid _ := hM2.back (fun k hk => ⟨.inl hk, (HBX.out.block k (HKF.out k hk).2).trans (HKF.out k hk).1⟩)
        have HQ77 : Hid _ := rangeAt_row hr7
        have HR77 : Hid _ := hr7
        have HR55 : Hid _ := hr5
        clear hM2 hr7 hr5
        unfold errS
        go_wp2_with (first
          | (refine wpList_load_mid rfl 39 _ rfl (X.heap.size + 1) 0 rfl QL _ HQ77.out HUQ.out rfl HL35.out ?_)
          | (go_at_call 20; fail))
        refine Calls.mono (HIQ.out _ HM3.out.bel) ?_
        rintro e Y3 ⟨rfl, hb3⟩
        have HM5 : Hid _ := (HM3.out.step hb3).retn
        have hk73 := HKC.out _ ((hb3.block _ (row_lt HR77.out)).trans HR77.out)
        have hn53 := HNC.out _ ((hb3.block _ (row_lt HR55.out)).trans HR55.out)
        clear HM3 HQ77 HR77 HR55 hb3
        go_wp2
        go_ret
        exact ⟨rfl, HM5.out⟩
    · have hk4 : (a.q.kind != 4) = true := by simpa using h4
      clear HDT h4
      have HIQ : Hid _ := hmay
      clear hmay
      have HR5 : Hid _ := hO.r5
      have HR7 : Hid _ := hO.r7
      have HBX : Hid _ := hO.bel
      clear hO HO hM hdq f2 f3 f4 g0 g1 g2 g3
      generalize qL a.q (.slice pd a.q.data.length cd) = QL at *
      generalize akL a (.slice pd a.q.data.length cd) = AKL at *
      clear hkk hk
      have f1' := HNC.out _ HR5.out
      clear f1
      go_enter Tryz.func8, Tryz.ntmps8
      have HRZ : Hid ((X.alloc (.cells AKL.toArray 41 (0, 0))).heap[X.heap.size]? = some (.cells AKL.toArray 41 (0, 0))) := heap_alloc_new _ _
      have HZR : Hid (((X.alloc (.cells AKL.toArray 41 (0, 0))).alloc (.cells ZQ 39 (0, 0))).heap[X.heap.size + 1]? = some (.cells ZQ 39 (0, 0))) := heap_at _ _ _ (by simp)
      have HQ7 : Hid ((((X.alloc (.cells AKL.toArray 41 (0, 0))).alloc (.cells ZQ 39 (0, 0))).setRow (X.heap.size + 1) QL.toArray).rangeAt (X.heap.size + 1) 0 QL) := rangeAt_row HR7.out
      go_wp2_with (first
        | (refine wpList_load_mid rfl 39 _ rfl X.heap.size 2 rfl QL _ (HA35.out _ HRZ.out) HUQ.out rfl HL35.out ?_)
        | (refine wpList_store_row rfl 39 _ _ rfl (X.heap.size + 1) QL.toArray rfl rfl 39 ZQ HZR.out (info35b _ HQS.out) (HZQ.out.trans HQS.out.symm) HQ1.out ?_)
        | (refine wpList_load_mid rfl 39 _ rfl (X.heap.size + 1) 0 rfl QL _ HQ7.out HUQ.out rfl HL35.out ?_)
        | (go_at_call 18; fail))
      refine Calls.mono (HSTR.out _ _ _ HM1.out) ?_
      rintro e Y ⟨rfl, hM2⟩
      clear HSTR HM1 HA35 HRZ HZR HQ7 f0 f1'
      generalize (((X.alloc (.cells AKL.toArray 41 (0, 0))).alloc (.cells ZQ 39 (0, 0))).setRow (X.heap.size + 1) QL.toArray) = X1 at *
      have hx1 := row_lt HR7.out
      have hr7 := hM2.at (.inr ⟨by omega, hx1⟩) HR7.out
      have hr5 := hM2.at (.inr ⟨by omega, by omega⟩) HR5.out
      have HM3 : Hid _ := hM2.back (fun k hk => ⟨.inl hk, (HBX.out.block k (HKF.out k hk).2).trans (HKF.out k hk).1⟩)
      have HQ77 : Hid _ := rangeAt_row hr7
      have HR77 : Hid _ := hr7
      have HR55 : Hid _ := hr5
      clear hM2 hr7 hr5
      unfold errS
      go_wp2_with (first
        | (refine wpList_load_mid rfl 39 _ rfl (X.heap.size + 1) 0 rfl QL _ HQ77.out HUQ.out rfl HL35.out ?_)
        | (go_at_call 20; fail))
      refine Calls.mono (HIQ.out _ HM3.out.bel) ?_
      rintro e Y3 ⟨rfl, hb3⟩
      have HM5 : Hid _ := (HM3.out.step hb3).retn
      have hk73 := HKC.out _ ((hb3.block _ (row_lt HR77.out)).trans HR77.out)
      have hn53 := HNC.out _ ((hb3.block _ (row_lt HR55.out)).trans HR55.out)
      clear HM3 HQ77 HR77 HR55 hb3
      go_wp2
      go_ret
      exact ⟨rfl, HM5.out⟩
set_option maxHeartbeats 4000000 in
set_option maxRecDepth 100000 in
theorem one_2ok (w X K : World) (n tn og mb rg : Nat) (m : List UInt8) (D : List (List UInt8)) (L : List (Qn × List UInt8)) (I : Nat → Prop) (a : Ak) (pd : Option Addr) (cd : Nat) (hM : MM w n tn og mb rg m D L L I K X) (hll : L.length < 800000) (hkq : kOk a.q) (hql : a.q.data.length ≤ 1000000) (hdq : HB w (.slice pd a.q.data.length cd) a.q.data) (htn : tn ≤ X.heap.size) (hk : a.kind = 2) (hok : strB a.q a.n = true) :
    Calls Tryz.prog 8 #[.pointer (some ⟨og, 0, none⟩), .pointer (some ⟨rg, 0, none⟩), .agg (akL a (.slice pd a.q.data.length cd)).toArray] X fun e Y => OneEnd w n og mb rg m D (sx D a.q L ((a.n.toNat + 31) / 32)).2 I K e Y := by
  have hkk := hkq.key
  have hzv := fun W => zero_dig W
  have hbd := fun W => build_dig W
  have hzq := fun W => zero_qn W
  obtain ⟨ZL, hZL⟩ : ∃ L, L = (List.replicate 32 (0 : UInt8)).map B8 := ⟨_, rfl⟩
  obtain ⟨ZQ, hZQ⟩ : ∃ L, L = (qL ⟨0, List.replicate 32 0, 0, []⟩ (.slice none 0 0)).toArray := ⟨_, rfl⟩
  rw [← hZL] at hzv hbd
  rw [← hZQ] at hzq
  have HZQ : Hid (ZQ.size = 35) := by show _ = _; rw [hZQ, List.size_toArray]; exact qL_len _ _ (by simp)
  have HZS : Hid (ZL.toArray.size = 32) := by show _ = _; rw [hZL]; simp
  have HZ1 : Hid (ZL.toArray.all (·.oneCell') = true) := by show _ = _; rw [hZL]; exact B8_onea _
  have HZV : Hid (dV (List.replicate 32 0) = .agg ZL.toArray) := by show _ = _; rw [hZL]; rfl
  have HZ0 : Hid (∀ W, (Op.equalIn 10000 29 (.agg ZL.toArray) (.agg ZL.toArray)).run Tryz.prog W = .ok true W) := fun W => by
    have h := run_equalIn_bytes (P := Tryz.prog) W 9998 29 5 32 Tryz.underlying29 Tryz.underlying5 size_u8 (List.replicate 32 0) (List.replicate 32 0) (by simp) (by simp)
    rw [beq_self_eq_true] at h
    rw [hZL]
    exact h
  have HZI : Hid _ := info32 ZL (by rw [hZL]; simp)
  have hO := OneS.mk' X a (.slice pd a.q.data.length cd) ZQ
  obtain ⟨f0, f1, f2, f3, f4⟩ := ak_facts hkk (rangeAt_row hO.r5)
  obtain ⟨g0, g1, g2, g3⟩ := q_facts hkk hO.r7
  have HL35 : Hid _ := info35 (qL a.q (.slice pd a.q.data.length cd)) (qL_len _ _ hkk)
  have HA35 : Hid (∀ W : World, W.heap[X.heap.size]? = some (.cells (akL a (.slice pd a.q.data.length cd)).toArray 41 (0, 0)) → W.rangeAt X.heap.size 2 (qL a.q (.slice pd a.q.data.length cd))) := fun W hW => by have := (ak_facts hkk (rangeAt_row hW)).2.2.1; simpa using this
  have HQ1 : Hid _ := PS.all_of (qL_one a.q (.slice pd a.q.data.length cd) rfl)
  have HQS : Hid ((qL a.q (.slice pd a.q.data.length cd)).toArray.size = 35) := by show _ = _; rw [List.size_toArray]; exact qL_len _ _ hkk
  have HAS37 : Hid ((akL a (.slice pd a.q.data.length cd)).toArray.size = 37) := by show _ = _; rw [List.size_toArray]; exact akL_len _ _ hkk
  have HM1 : Hid _ := hM.upd (Fr.ofBelow hO.bel)
  have HKC : Hid (∀ W : World, W.heap[X.heap.size + 1]? = some (.cells (qL a.q (.slice pd a.q.data.length cd)).toArray 39 (0, 0)) → W.cell? ⟨X.heap.size + 1, 0, none⟩ = some (.int .i64 a.q.kind)) := fun W hW => (q_facts hkk hW).1
  have HNC : Hid (∀ W : World, W.heap[X.heap.size]? = some (.cells (akL a (.slice pd a.q.data.length cd)).toArray 41 (0, 0)) → W.cell? ⟨X.heap.size, 1, none⟩ = some (.int .i64 a.n)) := fun W hW => by have := (ak_facts hkk (rangeAt_row hW)).2.1; simpa using this
  have HKF : Hid (∀ k, I k → X.heap[k]? = K.heap[k]? ∧ k < X.heap.size) := fun k hk => ⟨hM.same k hk, hM.ilt hk⟩
  have HUQ : Hid _ := Tryz.underlying39
  have HO : Hid _ := hO
  have HB0 : Hid _ := (hM.step hO.bel).bel
  clear hZL hZQ
  rw [hk] at f0
  have hok' : a.q.kind = 4 ∧ 1 ≤ a.q.dom ∧ a.q.dom ≤ 16 ∧ 0 ≤ a.n ∧ a.n ≤ 1024 := by unfold strB at hok; exact of_decide_eq_true hok
  obtain ⟨k4, d1, d2, n0, n1⟩ := hok'
  obtain ⟨c, hc⟩ : ∃ c : Nat, a.n = (c : Int) := ⟨a.n.toNat, by omega⟩
  have hc1 : c ≤ 1024 := by omega
  have hcn : a.n.toNat = c := by omega
  have hmy : mayQ a.q = true := by unfold mayQ; rw [k4]; simp [d1, d2]
  rw [hcn]
  rw [hc] at hok HNC
  have HSTR : Hid (∀ (Y K' : World) (I' : Nat → Prop), MM w n tn og mb rg m D L L I' K' Y → Calls Tryz.prog 18 #[.pointer (some ⟨og, 0, none⟩), .agg (qL a.q (.slice pd a.q.data.length cd)).toArray, .int .i64 (c : Int)] Y fun e Z => ∃ v, e = .returned (.tuple #[v, .int .i64 0]) ∧ (∀ j, v.ownBlock = some j → Y.heap.size ≤ j) ∧ HB Z v ((sx D a.q L ((c + 31) / 32)).1.take c) ∧ MM w n tn og mb rg m D (sx D a.q L ((c + 31) / 32)).2 L I' K' Z) := fun Y K' I' h => h.str (by omega) _ a.q c hkq hql hdq hok
  have HRST : Hid (∀ (Y K' : World) (I' : Nat → Prop), MM w n tn og mb rg m D (sx D a.q L ((c + 31) / 32)).2 L I' K' Y → Calls Tryz.prog 22 #[.pointer (some ⟨rg, 0, none⟩), .agg (qL a.q (.slice pd a.q.data.length cd)).toArray, .int .i64 (c : Int)] Y fun e Z => ∃ v, e = .returned v ∧ HB Z v ((sx D a.q L ((c + 31) / 32)).1.take c) ∧ MM w n Z.heap.size og mb rg m D (sx D a.q L ((c + 31) / 32)).2 (sx D a.q L ((c + 31) / 32)).2 I' K' Z ∧ ∀ j, tn ≤ j → j < Y.heap.size → Z.heap[j]? = Y.heap[j]?) := fun Y K' I' h => h.rstr (by omega) _ a.q c hkk hql hc1 hdq
  have HMAY : Hid (∀ Y, Below w.heap.size w Y → Calls Tryz.prog 20 #[.agg (qL a.q (.slice pd a.q.data.length cd)).toArray] Y fun e Z => e = .returned (.bool true) ∧ Below Y.heap.size Y Z) := fun Y hb => by have := may_any _ a.q Y ⟨hkk, _, rfl, hdq.below hb⟩; rw [hmy] at this; exact this
  rw [k4] at HKC
  have HTN : Hid (tn ≤ X.heap.size) := htn
  generalize (sx D a.q L ((c + 31) / 32)).2 = L' at *
  generalize (sx D a.q L ((c + 31) / 32)).1.take c = xs at *
  have HR5 : Hid _ := hO.r5
  have HR7 : Hid _ := hO.r7
  have HBX : Hid _ := hO.bel
  clear hO HO hM hdq f2 f3 f4 g0 g1 g2 g3
  generalize qL a.q (.slice pd a.q.data.length cd) = QL at *
  generalize akL a (.slice pd a.q.data.length cd) = AKL at *
  have f1' := HNC.out _ HR5.out
  clear f1 hmy hok hkk hk k4 hcn hc
  go_enter Tryz.func8, Tryz.ntmps8
  have HRZ : Hid ((X.alloc (.cells AKL.toArray 41 (0, 0))).heap[X.heap.size]? = some (.cells AKL.toArray 41 (0, 0))) := heap_alloc_new _ _
  have HZR : Hid (((X.alloc (.cells AKL.toArray 41 (0, 0))).alloc (.cells ZQ 39 (0, 0))).heap[X.heap.size + 1]? = some (.cells ZQ 39 (0, 0))) := heap_at _ _ _ (by simp)
  have HQ7 : Hid ((((X.alloc (.cells AKL.toArray 41 (0, 0))).alloc (.cells ZQ 39 (0, 0))).setRow (X.heap.size + 1) QL.toArray).rangeAt (X.heap.size + 1) 0 QL) := rangeAt_row HR7.out
  go_wp2_with (first
    | (refine wpList_load_mid rfl 39 _ rfl X.heap.size 2 rfl QL _ (HA35.out _ HRZ.out) HUQ.out rfl HL35.out ?_)
    | (refine wpList_store_row rfl 39 _ _ rfl (X.heap.size + 1) QL.toArray rfl rfl 39 ZQ HZR.out (info35b _ HQS.out) (HZQ.out.trans HQS.out.symm) HQ1.out ?_)
    | (refine wpList_load_mid rfl 39 _ rfl (X.heap.size + 1) 0 rfl QL _ HQ7.out HUQ.out rfl HL35.out ?_)
    | (go_at_call 18; fail))
  refine Calls.mono (HSTR.out _ _ _ HM1.out) ?_
  rintro e Y ⟨v, rfl, hvo, hvb, hM2⟩
  clear HSTR HM1 HA35 HRZ HZR HQ7 f0 f1'
  generalize (((X.alloc (.cells AKL.toArray 41 (0, 0))).alloc (.cells ZQ 39 (0, 0))).setRow (X.heap.size + 1) QL.toArray) = X1 at *
  have hx1 := row_lt HR7.out
  have hr7 := hM2.at (.inr ⟨by omega, hx1⟩) HR7.out
  have hr5 := hM2.at (.inr ⟨by omega, by omega⟩) HR5.out
  have HM3 : Hid _ := hM2
  have HQ77 : Hid _ := rangeAt_row hr7
  have HR77 : Hid _ := hr7
  have HR55 : Hid _ := hr5
  have HVO : Hid _ := hvo
  have HVB : Hid (HB Y v xs) := hvb
  obtain ⟨pv, cv, hvv, _, _⟩ := hb_cells hvb
  obtain ⟨lv, hlv⟩ : ∃ k, k = xs.length := ⟨_, rfl⟩
  rw [← hlv] at hvv
  subst hvv
  clear hM2 hr7 hr5 hvo hvb hlv
  go_wp2_with (first
    | (refine wpList_load_mid rfl 39 _ rfl (X.heap.size + 1) 0 rfl QL _ HQ77.out HUQ.out rfl HL35.out ?_)
    | (go_at_call 20; fail))
  refine Calls.mono (HMAY.out _ HM3.out.bel) ?_
  rintro e Y3 ⟨rfl, hb3⟩
  have HM5 : Hid _ := (HM3.out.step hb3).step (hb := (Below.refl _ _).drew)
  have hr73 := (hb3.block _ (row_lt HR77.out)).trans HR77.out
  have hr53 := (hb3.block _ (row_lt HR55.out)).trans HR55.out
  have hk73 := HKC.out _ hr73
  have hn53 := HNC.out _ hr53
  have HTW : Hid (StrR X.heap.size (X.heap.size + 1) QL c (.slice pv lv cv) xs Y3.drew) := ⟨rangeAt_row (by rw [heap_drew]; exact hr73), HNC.out Y3.drew (by rw [heap_drew]; exact hr53), hb_keep (HB.below HVB.out hb3) (fun k _ _ => by rw [heap_drew])⟩
  have hI7 : I (X.heap.size + 1) ∨ X.heap.size ≤ X.heap.size + 1 ∧ X.heap.size + 1 < X1.heap.size := .inr ⟨by omega, hx1⟩
  have hI5 : I X.heap.size ∨ X.heap.size ≤ X.heap.size ∧ X.heap.size < X1.heap.size := .inr ⟨by omega, by omega⟩
  clear HM3 HQ77 HR77 HR55 hb3 hr73 hr53
  go_wp2
  refine wp_region_held_drew (S := StrR X.heap.size (X.heap.size + 1) QL c (.slice pv lv cv) xs) (by kernel_rfl) HTW.out (fun hHeld => ?_)
  generalize Y3.drew = W at *
  refine wpAnyH_take (i := 0) (oi := { dst := some 88, op := Go.Op.move (Go.Operand.tmp 11), type := 48, pos := _, after := #[], guard := none }) (v := .int .i64 0) rfl (by kernel_rfl) (by kernel_rfl) (by kernel_rfl) (fun _ _ _ h => h) (Or.inl ⟨by rfl, fun w' hw' => ?_⟩) hHeld ?_
  · first | (go_simp; done) | (go_simp; rfl)
  try simp only [Act.put, List.setIfInBounds_toArray, List.set_cons_zero, List.set_cons_succ]
  refine wpAnyH_take (i := 1) (oi := { dst := some 89, op := Go.Op.binOp Go.BinOp.eql 48 (Go.Operand.tmp 88) (Go.Operand.const (Go.Value.int Go.IntKind.i64 0)) 48, type := 4, pos := _, after := #[{ on := 0, ground := Go.Ground.data }], guard := none }) (v := .bool true) rfl (by kernel_rfl) (by kernel_rfl) (by kernel_rfl) (fun _ _ _ h => h) (Or.inl ⟨by rfl, fun w' hw' => ?_⟩) hHeld ?_
  · first | (go_simp; done) | (go_simp; rfl)
  try simp only [Act.put, List.setIfInBounds_toArray, List.set_cons_zero, List.set_cons_succ]
  refine wpAnyH_take (i := 2) (oi := { dst := some 90, op := Go.Op.move (Go.Operand.tmp 89), type := 4, pos := _, after := #[{ on := 1, ground := Go.Ground.data }], guard := none }) (v := .bool true) rfl (by kernel_rfl) (by kernel_rfl) (by kernel_rfl) (fun _ _ _ h => h) (Or.inl ⟨by rfl, fun w' hw' => ?_⟩) hHeld ?_
  · first | (go_simp; done) | (go_simp; rfl)
  try simp only [Act.put, List.setIfInBounds_toArray, List.set_cons_zero, List.set_cons_succ]
  refine wpAnyH_take (i := 3) (oi := { dst := some 91, op := Go.Op.move (Go.Operand.tmp 10), type := 37, pos := _, after := #[{ on := 2, ground := Go.Ground.guard }], guard := some (2, true) }) (v := .slice pv lv cv) rfl (by kernel_rfl) (by kernel_rfl) (by kernel_rfl) (fun _ _ _ h => h) (Or.inl ⟨by rfl, fun w' hw' => ?_⟩) hHeld ?_
  · first | (go_simp; done) | (go_simp; rfl)
  try simp only [Act.put, List.setIfInBounds_toArray, List.set_cons_zero, List.set_cons_succ]
  refine wpAnyH_take (i := 4) (oi := { dst := some 92, op := Go.Op.convert 37 9 (Go.Operand.tmp 91), type := 9, pos := _, after := #[{ on := 3, ground := Go.Ground.data }, { on := 2, ground := Go.Ground.guard }], guard := some (2, true) }) (v := .string (txt xs)) rfl (by kernel_rfl) (by kernel_rfl) (by kernel_rfl) (fun _ _ _ h => h) (Or.inl ⟨by rfl, fun w' hw' => ?_⟩) hHeld ?_
  · have hcv := conv_hb w' _ _ hw'.x; first | (go_simp; done) | (go_simp; rfl)
  try simp only [Act.put, List.setIfInBounds_toArray, List.set_cons_zero, List.set_cons_succ]
  refine wpAnyH_take (i := 5) (oi := { dst := some 93, op := Go.Op.move (Go.Operand.tmp 1), type := 30, pos := _, after := #[{ on := 2, ground := Go.Ground.guard }], guard := some (2, true) }) (v := .pointer (some ⟨rg, 0, none⟩)) rfl (by kernel_rfl) (by kernel_rfl) (by kernel_rfl) (fun _ _ _ h => h) (Or.inl ⟨by rfl, fun w' hw' => ?_⟩) hHeld ?_
  · first | (go_simp; done) | (go_simp; rfl)
  try simp only [Act.put, List.setIfInBounds_toArray, List.set_cons_zero, List.set_cons_succ]
  refine wpAnyH_take (i := 6) (oi := { dst := some 94, op := Go.Op.load 39 (Go.Operand.tmp 7), type := 39, pos := _, after := #[{ on := 2, ground := Go.Ground.guard }], guard := some (2, true) }) rfl (by kernel_rfl) (by kernel_rfl) (by kernel_rfl) (fun _ _ _ h => h) (yieldsIf_load_mid (by rfl) 39 (.tmp 7) rfl ((X.heap.size + 1)) (0) rfl (QL) _ (fun _ h => h.q) HUQ.out rfl HL35.out) hHeld ?_
  try simp only [Act.put, List.setIfInBounds_toArray, List.set_cons_zero, List.set_cons_succ]
  refine wpAnyH_take (i := 7) (oi := { dst := some 95, op := Go.Op.fieldAddr 41 (Go.Operand.tmp 5) 1, type := 0, pos := _, after := #[{ on := 2, ground := Go.Ground.guard }], guard := some (2, true) }) (v := .pointer (some ⟨X.heap.size, 1, none⟩)) rfl (by kernel_rfl) (by kernel_rfl) (by kernel_rfl) (fun _ _ _ h => h) (Or.inl ⟨by rfl, fun w' hw' => ?_⟩) hHeld ?_
  · first | (go_simp; done) | (go_simp; rfl)
  try simp only [Act.put, List.setIfInBounds_toArray, List.set_cons_zero, List.set_cons_succ]
  refine wpAnyH_take (i := 8) (oi := { dst := some 96, op := Go.Op.load 3 (Go.Operand.tmp 95), type := 3, pos := _, after := #[{ on := 7, ground := Go.Ground.data }, { on := 2, ground := Go.Ground.guard }], guard := some (2, true) }) (v := .int .i64 (c : Int)) rfl (by kernel_rfl) (by kernel_rfl) (by kernel_rfl) (fun _ _ _ h => h) (Or.inl ⟨by rfl, fun w' hw' => ?_⟩) hHeld ?_
  · have hcn := hw'.n; first | (go_simp; done) | (go_simp; rfl)
  try simp only [Act.put, List.setIfInBounds_toArray, List.set_cons_zero, List.set_cons_succ]
  refine wpAnyH_ready (rs := [9]) (by kernel_rfl) (by simp) ?_
  refine AllReadyH.cons (o := { dst := some 97, op := Go.Op.call { callee := Go.Callee.value (Go.Operand.func 22), args := #[Go.Operand.tmp 93, Go.Operand.tmp 94, Go.Operand.tmp 96], argTypes := #[30, 39, 3] }, type := 37, pos := _, after := #[{ on := 5, ground := Go.Ground.data }, { on := 6, ground := Go.Ground.data }, { on := 8, ground := Go.Ground.data }, { on := 2, ground := Go.Ground.chain }, { on := 2, ground := Go.Ground.guard }], guard := some (2, true) }) rfl (fun K hK => ?_) AllReadyH.nil
  rw [if_pos (by rfl)]
  go_wp2_with fail
  refine Calls.mono (HRST.out W _ _ HM5.out) ?_
  rintro e W2 ⟨v2, rfl, hv2, hM6, hkp⟩
  have hsx := HBX.out.size
  have hHeld2 : StrR X.heap.size (X.heap.size + 1) QL c (.slice pv lv cv) xs W2 := ⟨fun j v hv => (World.cell?_of_block (a := ⟨X.heap.size + 1, 0 + j, none⟩) ((hM6.same _ hI7).trans (HM5.out.same _ hI7).symm)).trans (hHeld.q j v hv), (World.cell?_of_block (a := ⟨X.heap.size, 1, none⟩) ((hM6.same _ hI5).trans (HM5.out.same _ hI5).symm)).trans hHeld.n, hb_keep hHeld.x (fun k e hl => hkp k (by have := HVO.out k e; have := HTN.out; omega) hl)⟩
  have HM6 : Hid _ := hM6
  obtain ⟨p2, c2, hvv2, _, _⟩ := hb_cells hv2
  obtain ⟨l2, hl2⟩ : ∃ k, k = xs.length := ⟨_, rfl⟩
  rw [← hl2] at hvv2
  subst hvv2
  have hcv2 := conv_hb _ _ _ hv2
  clear hkp hv2 hl2 hM6
  refine hK.out _ _ hHeld2 (fun _ => ?_)
  clear hK K
  try simp only [Act.put, List.setIfInBounds_toArray, List.set_cons_zero, List.set_cons_succ]
  clear hHeld
  have hHeld := hHeld2
  refine wpAnyH_ready (rs := [10]) (by kernel_rfl) (by simp) ?_
  refine AllReadyH.cons (o := { dst := some 98, op := Go.Op.convert 37 9 (Go.Operand.tmp 97), type := 9, pos := _, after := #[{ on := 9, ground := Go.Ground.data }, { on := 2, ground := Go.Ground.guard }], guard := some (2, true) }) rfl (fun K hK => ?_) AllReadyH.nil
  rw [if_pos (by rfl)]
  go_wp2_with fail
  refine hK.out _ _ hHeld2 (fun _ => ?_)
  clear hK K
  try simp only [Act.put, List.setIfInBounds_toArray, List.set_cons_zero, List.set_cons_succ]
  have hHeld := hHeld2
  clear hcv2
  refine wpAnyH_take (i := 11) (oi := { dst := some 99, op := Go.Op.binOp Go.BinOp.eql 9 (Go.Operand.tmp 92) (Go.Operand.tmp 98) 9, type := 4, pos := _, after := #[{ on := 4, ground := Go.Ground.data }, { on := 10, ground := Go.Ground.data }, { on := 2, ground := Go.Ground.guard }], guard := some (2, true) }) (v := .bool true) rfl (by kernel_rfl) (by kernel_rfl) (by kernel_rfl) (fun _ _ _ h => h) (Or.inl ⟨by rfl, fun w' hw' => ?_⟩) hHeld ?_
  · first | (go_simp; done) | (go_simp; rfl) | (go_simp; simp)
  try simp only [Act.put, List.setIfInBounds_toArray, List.set_cons_zero, List.set_cons_succ]
  refine wpAnyH_take (i := 12) (oi := { dst := some 100, op := Go.Op.pick (Go.Operand.tmp 90) (Go.Operand.tmp 99) (Go.Operand.const (Go.Value.bool false)), type := 4, pos := _, after := #[{ on := 2, ground := Go.Ground.data }, { on := 11, ground := Go.Ground.data }], guard := none }) (v := .bool true) rfl (by kernel_rfl) (by kernel_rfl) (by kernel_rfl) (fun _ _ _ h => h) (Or.inl ⟨by rfl, fun w' hw' => ?_⟩) hHeld ?_
  · first | (go_simp; done) | (go_simp; rfl)
  try simp only [Act.put, List.setIfInBounds_toArray, List.set_cons_zero, List.set_cons_succ]
  refine wpAnyH_ready (rs := [13]) (by kernel_rfl) (by simp) ?_
  refine AllReadyH.cons (o := { dst := some 6, op := Go.Op.assign (Go.Operand.tmp 100), type := 4, pos := _, after := #[{ on := 12, ground := Go.Ground.data }, { on := 9, ground := Go.Ground.chain }, { on := 0, ground := Go.Ground.phase }, { on := 1, ground := Go.Ground.phase }, { on := 2, ground := Go.Ground.phase }, { on := 3, ground := Go.Ground.phase }, { on := 4, ground := Go.Ground.phase }, { on := 5, ground := Go.Ground.phase }, { on := 6, ground := Go.Ground.phase }, { on := 7, ground := Go.Ground.phase }, { on := 8, ground := Go.Ground.phase }, { on := 9, ground := Go.Ground.phase }, { on := 10, ground := Go.Ground.phase }, { on := 11, ground := Go.Ground.phase }, { on := 12, ground := Go.Ground.phase }], guard := none }) rfl (fun K hK => ?_) AllReadyH.nil
  rw [if_pos (by rfl)]
  go_wp2_with fail
  refine hK.out _ _ hHeld2 (fun _ => ?_)
  clear hK K
  try simp only [Act.put, List.setIfInBounds_toArray, List.set_cons_zero, List.set_cons_succ]
  refine wpAnyH_done (by kernel_rfl) ?_ _
  clear hHeld hHeld2
  go_wp2
  go_ret
  exact ⟨rfl, HM6.out.back (fun k hk => ⟨.inl hk, (HBX.out.block k (HKF.out k hk).2).trans (HKF.out k hk).1⟩)⟩
end Go.Proofs.YtefhjjjjbkkedaaGreat.R5
