/- blob: Leaf and None of the program, refused and answered. -/
import Derived.Test.YtbmmibmfjhehhaaGreatBL
set_option linter.unusedVariables false
set_option linter.unusedSimpArgs false
namespace Go.Proofs.YtbmmibmfjhehhaaGreat.BC
open Go.RowKit

set_option maxHeartbeats 1000000 in
set_option maxRecDepth 100000 in
theorem askedD_no (pv fv : Value) (pg c x : Int) (w : World) (hx : x ≠ 0) (hF : ∀ W, Below w.heap.size w W → Calls Tryz.prog 44 #[pv, .int .i64 pg, .int .u64 c] W fun e w' => e = .returned (.int .i64 x) ∧ Below W.heap.size W w') :
    Calls Tryz.prog 28 #[pv, .int .i64 pg, .int .u64 c, fv] w fun e w' => e = .returned (R5.errV x) ∧ Below w.heap.size w w' := by
  have hz := fun W => R5.zero_dig W
  obtain ⟨ZL, hZL⟩ : ∃ L, L = (List.replicate 32 (0 : UInt8)).map B8 := ⟨_, rfl⟩
  rw [← hZL] at hz
  have HZS : Hid (ZL.toArray.size = 32) := by show _ = _; rw [hZL]; simp
  have HZ1 : Hid (ZL.toArray.all (·.oneCell') = true) := by show _ = _; rw [hZL]; exact R5.B8_onea _
  have hx2 : (x == 0) = false := by rw [beq_eq_false_iff_ne]; exact hx
  have HEV : Hid (R5.errV x = .tuple #[.agg ZL.toArray, .int .i64 x]) := by rw [hZL]; exact rfl
  have HT0 : Hid _ := (RS.start w).alloc w.heap.size rfl 23 ZL
  have HF : Hid (∀ W, Below w.heap.size w W → Calls Tryz.prog 44 #[pv, .int .i64 pg, .int .u64 c] W fun e w' => e = .returned (.int .i64 x) ∧ Below W.heap.size W w') := hF
  rw [HEV.out]
  clear hZL hx hF HEV
  go_enter Tryz.func28, Tryz.ntmps28
  go_upto_region 1 with fail
  generalize World.alloc _ _ = X0 at *
  go_wp2_with fail
  refine Calls.mono (HF.out X0 HT0.out.bel) ?_
  rintro e X1 ⟨rfl, hb⟩
  have HT1 : Hid _ := (HT0.out.step hb).alloc X1.heap.size rfl 23 ZL
  clear hb HT0 HF
  go_wp2_with (first
    | (refine wpList_load_mid rfl 23 (.tmp 11) rfl X1.heap.size 0 rfl ZL _ (rangeAt_row (HT1.out.at 0 rfl)) Tryz.underlying23 rfl (R5.info32 ZL (by simpa using HZS.out)) ?_)
    | (refine R5.wpList_store_rowL rfl 23 _ _ rfl w.heap.size ZL.toArray rfl rfl 23 ZL.toArray (HT1.out.at 1 rfl) (R5.info32a _ HZS.out) rfl HZ1.out ?_; intro X2 e2; have HT2 : Hid _ := HT1.out.put 1 rfl ZL; rw [← e2] at HT2; clear e2))
  refine bodyPost_ret (v := .tuple #[.agg ZL.toArray, .int .i64 x]) ?_ rfl ⟨rfl, HT2.out.bel⟩
  exact R5.results_dig2 Tryz.results28 _ _ w.heap.size 23 _ (0, 0) _ rfl rfl (HT2.out.at 1 rfl) (R5.info32a _ HZS.out)
set_option maxHeartbeats 1000000 in
set_option maxRecDepth 100000 in
theorem askedL_ok (B og mb : Nat) (S : Nat → Prop) (r : List UInt8 × R5.Pra) (dv ov : Value) (o : R5.Pra) (p c : Nat) (b1 b2 : Nat) (w : World) (hA : r.1.length = 32) (hp : p < 128) (hc : c ≤ 4294967296) (hB : B ≤ w.heap.size) (ho : R5.PO B og mb S w o dv ov)
    (hcl : ∀ W p1 c1 p2 c2, Below w.heap.size w W → HB W (.slice p1 8 c1) (W1.le 8 p) → HB W (.slice p2 8 c2) (W1.le 8 c) → Calls Tryz.prog 29 #[.slice p1 8 c1, .slice p2 8 c2, .pointer (some ⟨b1, 0, none⟩), .pointer (some ⟨b2, 0, none⟩)] W fun e w' => PR B og mb S W r.2 dv (R5.okV r.1) e w') :
    Calls Tryz.prog 28 #[.pointer (some ⟨og, 0, none⟩), .int .i64 (p : Int), .int .u64 (c : Int), .func (.func 29) #[] #[.pointer (some ⟨b1, 0, none⟩), .pointer (some ⟨b2, 0, none⟩)]] w fun e w' => PR B og mb S w r.2 dv (R5.okV r.1) e w' := by
  have hz := fun W => R5.zero_dig W
  obtain ⟨ZL, hZL⟩ : ∃ L, L = (List.replicate 32 (0 : UInt8)).map B8 := ⟨_, rfl⟩
  rw [← hZL] at hz
  have HZS : Hid (ZL.toArray.size = 32) := by show _ = _; rw [hZL]; simp
  have HZ1 : Hid (ZL.toArray.all (·.oneCell') = true) := by show _ = _; rw [hZL]; exact R5.B8_onea _
  have HAS : Hid ((r.1.map B8).toArray.size = 32) := by show _ = _; simpa using hA
  have HA1 : Hid _ := R5.B8_onea r.1
  have HOK : Hid (R5.okV r.1 = .tuple #[.agg (r.1.map B8).toArray, .int .i64 0]) := rfl
  have hm : mayB (p : Int) (c : Int) = true := decide_eq_true ⟨by omega, by omega, by omega⟩
  have HF : Hid (∀ W, Below w.heap.size w W → Calls Tryz.prog 44 #[.pointer (some ⟨og, 0, none⟩), .int .i64 (p : Int), .int .u64 (c : Int)] W fun e w' => e = .returned (.int .i64 0) ∧ Below W.heap.size W w') := fun W hW => by
    have q := fault_no og mb (p : Int) (c : Int) W ((hW.cell (block_lt ho.cells.2.2.2.1)).trans ho.cells.2.2.2.1)
    rw [hm] at q
    exact q
  have HPUT : Hid (∀ (n : Nat) W, n < 18446744073709551616 → Calls Tryz.prog 45 #[.int .u64 (n : Int), .int .i64 8] W fun e w' => e = .returned (.tuple #[.slice (some ⟨W.heap.size, 0, none⟩) 8 8, .int .i64 0]) ∧ FB W.heap.size w' (.slice (some ⟨W.heap.size, 0, none⟩) 8 8) (W1.le 8 n) ∧ Below W.heap.size W w') := fun n W hn => put_ok n 8 W (by decide) (by decide) hn (by omega)
  have hu : IntKind.u64.wrap (p : Int) = (p : Int) := by rw [W1.wrap_u64]; omega
  have HCL : Hid (∀ W p1 c1 p2 c2, Below w.heap.size w W → HB W (.slice p1 8 c1) (W1.le 8 p) → HB W (.slice p2 8 c2) (W1.le 8 c) → Calls Tryz.prog 29 #[.slice p1 8 c1, .slice p2 8 c2, .pointer (some ⟨b1, 0, none⟩), .pointer (some ⟨b2, 0, none⟩)] W fun e w' => PR B og mb S W r.2 dv (R5.okV r.1) e w') := hcl
  have HP : Hid (p < 18446744073709551616) := (by omega : p < 18446744073709551616)
  have HC : Hid (c < 18446744073709551616) := (by omega : c < 18446744073709551616)
  have HO : Hid (R5.PO B og mb S w o dv ov) := ho
  have HT0 : Hid _ := (RS.start w).alloc w.heap.size rfl 23 ZL
  rw [HOK.out] at HCL ⊢
  clear hZL hcl hp hc hm ho hA HOK
  generalize r.1.map B8 = AL at *
  go_enter Tryz.func28, Tryz.ntmps28
  go_upto_region 1 with fail
  generalize World.alloc _ _ = X0 at *
  go_wp2_with fail
  refine Calls.mono (HF.out X0 HT0.out.bel) ?_
  rintro e X1 ⟨rfl, hb⟩
  have HT1 : Hid _ := HT0.out.step hb
  clear hb HT0 HF
  go_wp2_with fail
  refine Calls.mono (HPUT.out p X1 HP.out) ?_
  rintro e X2 ⟨rfl, hf2, hb2⟩
  have HF2 : Hid (HB X2 (.slice (some ⟨X1.heap.size, 0, none⟩) 8 8) (W1.le 8 p)) := hf2.hb
  have HT2 : Hid _ := HT1.out.step hb2
  clear hf2 hb2 HT1
  generalize X1.heap.size = n1 at *
  go_wp2_with fail
  refine Calls.mono (HPUT.out c X2 HC.out) ?_
  rintro e X3 ⟨rfl, hf3, hb3⟩
  have HF3 : Hid (HB X3 (.slice (some ⟨X2.heap.size, 0, none⟩) 8 8) (W1.le 8 c)) := hf3.hb
  have HF2b : Hid (HB X3 (.slice (some ⟨n1, 0, none⟩) 8 8) (W1.le 8 p)) := HF2.out.below hb3
  have HT3 : Hid _ := HT2.out.step hb3
  clear hf3 hb3 HF2 HT2
  generalize X2.heap.size = n2 at *
  go_wp2_with fail
  refine Calls.mono (HCL.out X3 _ _ _ _ HT3.out.bel HF2b.out HF3.out) ?_
  intro e X4 hP
  have he : e = .returned (.tuple #[.agg AL.toArray, .int .i64 0]) := hP.1
  subst he
  have HR3 : Hid (X4.heap[w.heap.size]? = some (.cells ZL.toArray 23 (0, 0))) := pr_row HO.out (by omega) (HT3.out.at 0 rfl) hP
  have HEND : Hid (PR B og mb S w r.2 dv (.tuple #[.agg AL.toArray, .int .i64 0]) (.returned (.tuple #[.agg AL.toArray, .int .i64 0])) (X4.setRow w.heap.size AL.toArray)) := pr_end HO.out hB HT3.out.bel hP ((R5.Fr.refl _ _).setRow _ _ (.inl ⟨by omega, R5.row_lt (HT3.out.at 0 rfl)⟩))
  clear hP HT3 HF2b HF3
  go_wp2_with (refine wpList_store_row rfl 23 _ _ rfl w.heap.size AL.toArray rfl rfl 23 ZL.toArray HR3.out (R5.info32a _ HAS.out) (HZS.out.trans HAS.out.symm) HA1.out ?_)
  refine bodyPost_ret (v := .tuple #[.agg AL.toArray, .int .i64 0]) ?_ rfl HEND.out
  exact R5.results_dig2 Tryz.results28 _ _ w.heap.size 23 _ (0, 0) _ rfl rfl (setRow_heap _ _ _ _ _ _ HR3.out) (R5.info32a _ HAS.out)
set_option maxHeartbeats 1000000 in
set_option maxRecDepth 100000 in
theorem askedN_ok (B og mb : Nat) (S : Nat → Prop) (r : List UInt8 × R5.Pra) (dv ov : Value) (o : R5.Pra) (p c : Nat) (b1 : Nat) (w : World) (hA : r.1.length = 32) (hp : p < 128) (hc : c ≤ 4294967296) (hB : B ≤ w.heap.size) (ho : R5.PO B og mb S w o dv ov)
    (hcl : ∀ W p1 c1 p2 c2, Below w.heap.size w W → HB W (.slice p1 8 c1) (W1.le 8 p) → HB W (.slice p2 8 c2) (W1.le 8 c) → Calls Tryz.prog 32 #[.slice p1 8 c1, .slice p2 8 c2, .pointer (some ⟨b1, 0, none⟩)] W fun e w' => PR B og mb S W r.2 dv (R5.okV r.1) e w') :
    Calls Tryz.prog 28 #[.pointer (some ⟨og, 0, none⟩), .int .i64 (p : Int), .int .u64 (c : Int), .func (.func 32) #[] #[.pointer (some ⟨b1, 0, none⟩)]] w fun e w' => PR B og mb S w r.2 dv (R5.okV r.1) e w' := by
  have hz := fun W => R5.zero_dig W
  obtain ⟨ZL, hZL⟩ : ∃ L, L = (List.replicate 32 (0 : UInt8)).map B8 := ⟨_, rfl⟩
  rw [← hZL] at hz
  have HZS : Hid (ZL.toArray.size = 32) := by show _ = _; rw [hZL]; simp
  have HZ1 : Hid (ZL.toArray.all (·.oneCell') = true) := by show _ = _; rw [hZL]; exact R5.B8_onea _
  have HAS : Hid ((r.1.map B8).toArray.size = 32) := by show _ = _; simpa using hA
  have HA1 : Hid _ := R5.B8_onea r.1
  have HOK : Hid (R5.okV r.1 = .tuple #[.agg (r.1.map B8).toArray, .int .i64 0]) := rfl
  have hm : mayB (p : Int) (c : Int) = true := decide_eq_true ⟨by omega, by omega, by omega⟩
  have HF : Hid (∀ W, Below w.heap.size w W → Calls Tryz.prog 44 #[.pointer (some ⟨og, 0, none⟩), .int .i64 (p : Int), .int .u64 (c : Int)] W fun e w' => e = .returned (.int .i64 0) ∧ Below W.heap.size W w') := fun W hW => by
    have q := fault_no og mb (p : Int) (c : Int) W ((hW.cell (block_lt ho.cells.2.2.2.1)).trans ho.cells.2.2.2.1)
    rw [hm] at q
    exact q
  have HPUT : Hid (∀ (n : Nat) W, n < 18446744073709551616 → Calls Tryz.prog 45 #[.int .u64 (n : Int), .int .i64 8] W fun e w' => e = .returned (.tuple #[.slice (some ⟨W.heap.size, 0, none⟩) 8 8, .int .i64 0]) ∧ FB W.heap.size w' (.slice (some ⟨W.heap.size, 0, none⟩) 8 8) (W1.le 8 n) ∧ Below W.heap.size W w') := fun n W hn => put_ok n 8 W (by decide) (by decide) hn (by omega)
  have hu : IntKind.u64.wrap (p : Int) = (p : Int) := by rw [W1.wrap_u64]; omega
  have HCL : Hid (∀ W p1 c1 p2 c2, Below w.heap.size w W → HB W (.slice p1 8 c1) (W1.le 8 p) → HB W (.slice p2 8 c2) (W1.le 8 c) → Calls Tryz.prog 32 #[.slice p1 8 c1, .slice p2 8 c2, .pointer (some ⟨b1, 0, none⟩)] W fun e w' => PR B og mb S W r.2 dv (R5.okV r.1) e w') := hcl
  have HP : Hid (p < 18446744073709551616) := (by omega : p < 18446744073709551616)
  have HC : Hid (c < 18446744073709551616) := (by omega : c < 18446744073709551616)
  have HO : Hid (R5.PO B og mb S w o dv ov) := ho
  have HT0 : Hid _ := (RS.start w).alloc w.heap.size rfl 23 ZL
  rw [HOK.out] at HCL ⊢
  clear hZL hcl hp hc hm ho hA HOK
  generalize r.1.map B8 = AL at *
  go_enter Tryz.func28, Tryz.ntmps28
  go_upto_region 1 with fail
  generalize World.alloc _ _ = X0 at *
  go_wp2_with fail
  refine Calls.mono (HF.out X0 HT0.out.bel) ?_
  rintro e X1 ⟨rfl, hb⟩
  have HT1 : Hid _ := HT0.out.step hb
  clear hb HT0 HF
  go_wp2_with fail
  refine Calls.mono (HPUT.out p X1 HP.out) ?_
  rintro e X2 ⟨rfl, hf2, hb2⟩
  have HF2 : Hid (HB X2 (.slice (some ⟨X1.heap.size, 0, none⟩) 8 8) (W1.le 8 p)) := hf2.hb
  have HT2 : Hid _ := HT1.out.step hb2
  clear hf2 hb2 HT1
  generalize X1.heap.size = n1 at *
  go_wp2_with fail
  refine Calls.mono (HPUT.out c X2 HC.out) ?_
  rintro e X3 ⟨rfl, hf3, hb3⟩
  have HF3 : Hid (HB X3 (.slice (some ⟨X2.heap.size, 0, none⟩) 8 8) (W1.le 8 c)) := hf3.hb
  have HF2b : Hid (HB X3 (.slice (some ⟨n1, 0, none⟩) 8 8) (W1.le 8 p)) := HF2.out.below hb3
  have HT3 : Hid _ := HT2.out.step hb3
  clear hf3 hb3 HF2 HT2
  generalize X2.heap.size = n2 at *
  go_wp2_with fail
  refine Calls.mono (HCL.out X3 _ _ _ _ HT3.out.bel HF2b.out HF3.out) ?_
  intro e X4 hP
  have he : e = .returned (.tuple #[.agg AL.toArray, .int .i64 0]) := hP.1
  subst he
  have HR3 : Hid (X4.heap[w.heap.size]? = some (.cells ZL.toArray 23 (0, 0))) := pr_row HO.out (by omega) (HT3.out.at 0 rfl) hP
  have HEND : Hid (PR B og mb S w r.2 dv (.tuple #[.agg AL.toArray, .int .i64 0]) (.returned (.tuple #[.agg AL.toArray, .int .i64 0])) (X4.setRow w.heap.size AL.toArray)) := pr_end HO.out hB HT3.out.bel hP ((R5.Fr.refl _ _).setRow _ _ (.inl ⟨by omega, R5.row_lt (HT3.out.at 0 rfl)⟩))
  clear hP HT3 HF2b HF3
  go_wp2_with (refine wpList_store_row rfl 23 _ _ rfl w.heap.size AL.toArray rfl rfl 23 ZL.toArray HR3.out (R5.info32a _ HAS.out) (HZS.out.trans HAS.out.symm) HA1.out ?_)
  refine bodyPost_ret (v := .tuple #[.agg AL.toArray, .int .i64 0]) ?_ rfl HEND.out
  exact R5.results_dig2 Tryz.results28 _ _ w.heap.size 23 _ (0, 0) _ rfl rfl (setRow_heap _ _ _ _ _ _ HR3.out) (R5.info32a _ HAS.out)
set_option maxHeartbeats 1000000 in
set_option maxRecDepth 100000 in
theorem leaf_no (q : Option Addr) (g : List UInt8) (pg c x : Int) (w : World) (hx : x ≠ 0) (hF : ∀ W, Below w.heap.size w W → Calls Tryz.prog 44 #[.pointer q, .int .i64 pg, .int .u64 c] W fun e w' => e = .returned (.int .i64 x) ∧ Below W.heap.size W w') :
    Calls Tryz.prog 14 #[.pointer q, .int .i64 pg, .int .u64 c, .agg (g.map B8).toArray] w fun e w' => e = .returned (R5.errV x) ∧ Below w.heap.size w w' := by
  have hz := fun W => R5.zero_dig W
  obtain ⟨ZL, hZL⟩ : ∃ L, L = (List.replicate 32 (0 : UInt8)).map B8 := ⟨_, rfl⟩
  rw [← hZL] at hz
  have HZS : Hid (ZL.toArray.size = 32) := by show _ = _; rw [hZL]; simp
  have HZ1 : Hid (ZL.toArray.all (·.oneCell') = true) := by show _ = _; rw [hZL]; exact R5.B8_onea _
  have HEV : Hid (R5.errV x = .tuple #[.agg ZL.toArray, .int .i64 x]) := by rw [hZL]; exact rfl
  have HA : Hid (∀ W fv, Below w.heap.size w W → Calls Tryz.prog 28 #[.pointer q, .int .i64 pg, .int .u64 c, fv] W fun e w' => e = .returned (R5.errV x) ∧ Below W.heap.size W w') := fun W fv hW => askedD_no (.pointer q) fv pg c x W hx (fun X hX => hF X (hW.trans (hX.mono hW.size)))
  have HT0 : Hid _ := (((RS.start w).alloc w.heap.size rfl 31 [.pointer q]).alloc (w.heap.size + 1) (by simp) 29 (g.map B8)).alloc (w.heap.size + 1 + 1) (by simp) 23 ZL
  rw [HEV.out] at HA ⊢
  clear hZL hx hF HEV
  generalize g.map B8 = GL at *
  go_enter Tryz.func14, Tryz.ntmps14
  go_upto_region 1 with fail
  generalize World.alloc _ _ = X0 at *
  have hco := HT0.out.cell 2 rfl 0 rfl
  go_wp2_with fail
  refine Calls.mono (HA.out X0 _ HT0.out.bel) ?_
  rintro e X1 ⟨rfl, hb⟩
  have HT1 : Hid _ := HT0.out.step hb
  clear hb HT0 HA hco
  go_wp2_with (refine R5.wpList_store_rowL rfl 23 _ _ rfl (w.heap.size + 1 + 1) ZL.toArray rfl rfl 23 ZL.toArray (HT1.out.at 0 rfl) (R5.info32a _ HZS.out) rfl HZ1.out ?_; intro X2 e2; have HT2 : Hid _ := HT1.out.put 0 rfl ZL; rw [← e2] at HT2; clear e2)
  refine bodyPost_ret (v := .tuple #[.agg ZL.toArray, .int .i64 x]) ?_ rfl ⟨rfl, HT2.out.bel⟩
  exact R5.results_dig2 Tryz.results14 _ _ (w.heap.size + 1 + 1) 23 _ (0, 0) _ rfl rfl (HT2.out.at 0 rfl) (R5.info32a _ HZS.out)
set_option maxHeartbeats 1000000 in
set_option maxRecDepth 100000 in
theorem none_no (q : Option Addr) (pg x : Int) (w : World) (hx : x ≠ 0) (hF : ∀ W, Below w.heap.size w W → Calls Tryz.prog 44 #[.pointer q, .int .i64 pg, .int .u64 0] W fun e w' => e = .returned (.int .i64 x) ∧ Below W.heap.size W w') :
    Calls Tryz.prog 16 #[.pointer q, .int .i64 pg] w fun e w' => e = .returned (R5.errV x) ∧ Below w.heap.size w w' := by
  have hz := fun W => R5.zero_dig W
  obtain ⟨ZL, hZL⟩ : ∃ L, L = (List.replicate 32 (0 : UInt8)).map B8 := ⟨_, rfl⟩
  rw [← hZL] at hz
  have HZS : Hid (ZL.toArray.size = 32) := by show _ = _; rw [hZL]; simp
  have HZ1 : Hid (ZL.toArray.all (·.oneCell') = true) := by show _ = _; rw [hZL]; exact R5.B8_onea _
  have HEV : Hid (R5.errV x = .tuple #[.agg ZL.toArray, .int .i64 x]) := by rw [hZL]; exact rfl
  have HA : Hid (∀ W fv, Below w.heap.size w W → Calls Tryz.prog 28 #[.pointer q, .int .i64 pg, .int .u64 0, fv] W fun e w' => e = .returned (R5.errV x) ∧ Below W.heap.size W w') := fun W fv hW => askedD_no (.pointer q) fv pg 0 x W hx (fun X hX => hF X (hW.trans (hX.mono hW.size)))
  have HT0 : Hid _ := ((RS.start w).alloc w.heap.size rfl 31 [.pointer q]).alloc (w.heap.size + 1) (by simp) 23 ZL
  rw [HEV.out] at HA ⊢
  clear hZL hx hF HEV
  go_enter Tryz.func16, Tryz.ntmps16
  go_upto_region 1 with fail
  generalize World.alloc _ _ = X0 at *
  have hco := HT0.out.cell 1 rfl 0 rfl
  go_wp2_with fail
  refine Calls.mono (HA.out X0 _ HT0.out.bel) ?_
  rintro e X1 ⟨rfl, hb⟩
  have HT1 : Hid _ := HT0.out.step hb
  clear hb HT0 HA hco
  go_wp2_with (refine R5.wpList_store_rowL rfl 23 _ _ rfl (w.heap.size + 1) ZL.toArray rfl rfl 23 ZL.toArray (HT1.out.at 0 rfl) (R5.info32a _ HZS.out) rfl HZ1.out ?_; intro X2 e2; have HT2 : Hid _ := HT1.out.put 0 rfl ZL; rw [← e2] at HT2; clear e2)
  refine bodyPost_ret (v := .tuple #[.agg ZL.toArray, .int .i64 x]) ?_ rfl ⟨rfl, HT2.out.bel⟩
  exact R5.results_dig2 Tryz.results16 _ _ (w.heap.size + 1) 23 _ (0, 0) _ rfl rfl (HT2.out.at 0 rfl) (R5.info32a _ HZS.out)
set_option maxHeartbeats 2000000 in
set_option maxRecDepth 100000 in
theorem leaf_ok (B og mb : Nat) (S : Nat → Prop) (g : List UInt8) (p c : Nat) (r : List UInt8 × R5.Pra) (dv ov : Value) (o : R5.Pra) (w : World) (hg : g.length = 128) (hp : p < 128) (hc : c ≤ 4294967296) (hB : B ≤ w.heap.size) (hll : o.log.length < 1000000) (ho : R5.PO B og mb S w o dv ov) (hr : nxP o (qLeaf p c g) = r) :
    Calls Tryz.prog 14 #[.pointer (some ⟨og, 0, none⟩), .int .i64 (p : Int), .int .u64 (c : Int), .agg (g.map B8).toArray] w fun e w' => PR B og mb S w r.2 dv (R5.okV r.1) e w' := by
  have hA := nxP_len ho (qLeaf p c g)
  rw [hr] at hA
  have hz := fun W => R5.zero_dig W
  obtain ⟨ZL, hZL⟩ : ∃ L, L = (List.replicate 32 (0 : UInt8)).map B8 := ⟨_, rfl⟩
  rw [← hZL] at hz
  have HZS : Hid (ZL.toArray.size = 32) := by show _ = _; rw [hZL]; simp
  have HZ1 : Hid (ZL.toArray.all (·.oneCell') = true) := by show _ = _; rw [hZL]; exact R5.B8_onea _
  have HAS : Hid ((r.1.map B8).toArray.size = 32) := by show _ = _; simpa using hA
  have HA1 : Hid _ := R5.B8_onea r.1
  have HOK : Hid (R5.okV r.1 = .tuple #[.agg (r.1.map B8).toArray, .int .i64 0]) := rfl
  have HO : Hid (R5.PO B og mb S w o dv ov) := ho
  have HA : Hid (∀ W b1 b2, Below w.heap.size w W → W.cell? ⟨b1, 0, none⟩ = some (.pointer (some ⟨og, 0, none⟩)) → w.heap.size ≤ b1 → W.heap[b2]? = some (.cells (g.map B8).toArray 29 (0, 0)) → Calls Tryz.prog 28 #[.pointer (some ⟨og, 0, none⟩), .int .i64 (p : Int), .int .u64 (c : Int), .func (.func 29) #[] #[.pointer (some ⟨b1, 0, none⟩), .pointer (some ⟨b2, 0, none⟩)]] W fun e w' => PR B og mb S W r.2 dv (R5.okV r.1) e w') := fun W b1 b2 hW h1 hb1 h2 => by
    refine askedL_ok B og mb S r dv ov o p c b1 b2 W hA hp hc (Nat.le_trans hB hW.size) (ho.below hW) (fun W2 p1 c1 p2 c2 hW2 hv1 hv2 => ?_)
    have hs := hW.size
    exact leaf1_any B og mb S p1 p2 c1 c2 b1 b2 _ _ g r dv ov o W2 hg (W1.le_length 8 p) (W1.le_length 8 c) (by have := hW2.size; omega) hll ((ho.below hW).below hW2) ((hW2.cell (block_lt h1)).trans h1) (fun h => by have := ho.top _ h; omega) ((hW2.block _ (R5.row_lt h2)).trans h2) hv1 hv2 hr
  have HT0 : Hid _ := (((RS.start w).alloc w.heap.size rfl 31 [.pointer (some ⟨og, 0, none⟩)]).alloc (w.heap.size + 1) (by simp) 29 (g.map B8)).alloc (w.heap.size + 1 + 1) (by simp) 23 ZL
  rw [HOK.out] at HA ⊢
  clear hZL hp hc hll hr ho hA hg HOK
  generalize r.1.map B8 = AL at *
  generalize g.map B8 = GL at *
  go_enter Tryz.func14, Tryz.ntmps14
  go_upto_region 1 with fail
  generalize World.alloc _ _ = X0 at *
  have hco := HT0.out.cell 2 rfl 0 rfl
  go_wp2_with fail
  refine Calls.mono (HA.out X0 _ _ HT0.out.bel hco (Nat.le_refl _) (HT0.out.at 1 rfl)) ?_
  intro e X1 hP
  have he : e = .returned (.tuple #[.agg AL.toArray, .int .i64 0]) := hP.1
  subst he
  have HRZ : Hid (X1.heap[w.heap.size + 1 + 1]? = some (.cells ZL.toArray 23 (0, 0))) := pr_row HO.out (by omega) (HT0.out.at 0 rfl) hP
  have HEND : Hid (PR B og mb S w r.2 dv (.tuple #[.agg AL.toArray, .int .i64 0]) (.returned (.tuple #[.agg AL.toArray, .int .i64 0])) (X1.setRow (w.heap.size + 1 + 1) AL.toArray)) := pr_end HO.out hB HT0.out.bel hP ((R5.Fr.refl _ _).setRow _ _ (.inl ⟨by omega, R5.row_lt (HT0.out.at 0 rfl)⟩))
  clear hP HA HT0 hco
  go_wp2_with (refine wpList_store_row rfl 23 _ _ rfl (w.heap.size + 1 + 1) AL.toArray rfl rfl 23 ZL.toArray HRZ.out (R5.info32a _ HAS.out) (HZS.out.trans HAS.out.symm) HA1.out ?_)
  refine bodyPost_ret (v := .tuple #[.agg AL.toArray, .int .i64 0]) ?_ rfl HEND.out
  exact R5.results_dig2 Tryz.results14 _ _ (w.heap.size + 1 + 1) 23 _ (0, 0) _ rfl rfl (setRow_heap _ _ _ _ _ _ HRZ.out) (R5.info32a _ HAS.out)
set_option maxHeartbeats 2000000 in
set_option maxRecDepth 100000 in
theorem none_ok (B og mb : Nat) (S : Nat → Prop) (p : Nat) (r : List UInt8 × R5.Pra) (dv ov : Value) (o : R5.Pra) (w : World) (hp : p < 128) (hB : B ≤ w.heap.size) (hll : o.log.length < 1000000) (ho : R5.PO B og mb S w o dv ov) (hr : nxP o (qNone p) = r) :
    Calls Tryz.prog 16 #[.pointer (some ⟨og, 0, none⟩), .int .i64 (p : Int)] w fun e w' => PR B og mb S w r.2 dv (R5.okV r.1) e w' := by
  have hA := nxP_len ho (qNone p)
  rw [hr] at hA
  have hz := fun W => R5.zero_dig W
  obtain ⟨ZL, hZL⟩ : ∃ L, L = (List.replicate 32 (0 : UInt8)).map B8 := ⟨_, rfl⟩
  rw [← hZL] at hz
  have HZS : Hid (ZL.toArray.size = 32) := by show _ = _; rw [hZL]; simp
  have HZ1 : Hid (ZL.toArray.all (·.oneCell') = true) := by show _ = _; rw [hZL]; exact R5.B8_onea _
  have HAS : Hid ((r.1.map B8).toArray.size = 32) := by show _ = _; simpa using hA
  have HA1 : Hid _ := R5.B8_onea r.1
  have HOK : Hid (R5.okV r.1 = .tuple #[.agg (r.1.map B8).toArray, .int .i64 0]) := rfl
  have HO : Hid (R5.PO B og mb S w o dv ov) := ho
  have HA : Hid (∀ W b1, Below w.heap.size w W → W.cell? ⟨b1, 0, none⟩ = some (.pointer (some ⟨og, 0, none⟩)) → Calls Tryz.prog 28 #[.pointer (some ⟨og, 0, none⟩), .int .i64 (p : Int), .int .u64 0, .func (.func 32) #[] #[.pointer (some ⟨b1, 0, none⟩)]] W fun e w' => PR B og mb S W r.2 dv (R5.okV r.1) e w') := fun W b1 hW h1 => by
    refine askedN_ok B og mb S r dv ov o p 0 b1 W hA hp (by decide) (Nat.le_trans hB hW.size) (ho.below hW) (fun W2 p1 c1 p2 c2 hW2 hv1 hv2 => ?_)
    have hs := hW.size
    exact none1_any B og mb S p1 _ c1 b1 _ r dv ov o W2 (W1.le_length 8 p) (by have := hW2.size; omega) hll ((ho.below hW).below hW2) ((hW2.cell (block_lt h1)).trans h1) hv1 hr
  have HT0 : Hid _ := ((RS.start w).alloc w.heap.size rfl 31 [.pointer (some ⟨og, 0, none⟩)]).alloc (w.heap.size + 1) (by simp) 23 ZL
  rw [HOK.out] at HA ⊢
  clear hZL hp hll hr ho hA HOK
  generalize r.1.map B8 = AL at *
  go_enter Tryz.func16, Tryz.ntmps16
  go_upto_region 1 with fail
  generalize World.alloc _ _ = X0 at *
  have hco := HT0.out.cell 1 rfl 0 rfl
  go_wp2_with fail
  refine Calls.mono (HA.out X0 _ HT0.out.bel hco) ?_
  intro e X1 hP
  have he : e = .returned (.tuple #[.agg AL.toArray, .int .i64 0]) := hP.1
  subst he
  have HRZ : Hid (X1.heap[w.heap.size + 1]? = some (.cells ZL.toArray 23 (0, 0))) := pr_row HO.out (by omega) (HT0.out.at 0 rfl) hP
  have HEND : Hid (PR B og mb S w r.2 dv (.tuple #[.agg AL.toArray, .int .i64 0]) (.returned (.tuple #[.agg AL.toArray, .int .i64 0])) (X1.setRow (w.heap.size + 1) AL.toArray)) := pr_end HO.out hB HT0.out.bel hP ((R5.Fr.refl _ _).setRow _ _ (.inl ⟨by omega, R5.row_lt (HT0.out.at 0 rfl)⟩))
  clear hP HA HT0 hco
  go_wp2_with (refine wpList_store_row rfl 23 _ _ rfl (w.heap.size + 1) AL.toArray rfl rfl 23 ZL.toArray HRZ.out (R5.info32a _ HAS.out) (HZS.out.trans HAS.out.symm) HA1.out ?_)
  refine bodyPost_ret (v := .tuple #[.agg AL.toArray, .int .i64 0]) ?_ rfl HEND.out
  exact R5.results_dig2 Tryz.results16 _ _ (w.heap.size + 1) 23 _ (0, 0) _ rfl rfl (setRow_heap _ _ _ _ _ _ HRZ.out) (R5.info32a _ HAS.out)
end Go.Proofs.YtbmmibmfjhehhaaGreat.BC
