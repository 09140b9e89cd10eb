/- ParamsBack: for any parameters of a realm, any of a vCPU, the statement's function answers true. No condition. -/
import Derived.Test.YtabnmhmlcoakkaaPK
import Derived.WalkKit
import Derived.Carry
set_option linter.unusedVariables false
set_option linter.unusedSimpArgs false
namespace Go.Proofs.Ytabnmhmlcoakkaa.PC
open Go.RowKit

/-- What stays while ParamsBack runs: both parameters; from some place on a granule. -/
structure BK0 (w : World) (PL QL : List Value) (W : World) : Prop where
  bel : Below w.heap.size w W
  p : W.heap[w.heap.size]? = some (.cells PL.toArray 26 (0, 0))
  q : W.heap[w.heap.size + 1]? = some (.cells QL.toArray 38 (0, 0))
structure BK (w : World) (PL QL : List Value) (gb : Nat) (GL : List Value) (W : World) : Prop extends BK0 w PL QL W where
  g : W.heap[gb]? = some (.cells GL.toArray 28 (0, 0))
  o : w.heap.size + 1 < gb
theorem BK0.start (w : World) (PL QL : List Value) : BK0 w PL QL ((w.alloc (.cells PL.toArray 26 (0, 0))).alloc (.cells QL.toArray 38 (0, 0))) :=
  ⟨((Below.refl _ _).alloc (Nat.le_refl _) _).alloc (by simp) _, (Below.heap_alloc _ _ _ (by simp)).trans (heap_alloc_new _ _), heap_at _ _ _ (by simp)⟩
theorem BK0.below {w : World} {PL QL : List Value} {W W' : World} (h : BK0 w PL QL W) (hb : Below W.heap.size W W') : BK0 w PL QL W' := by
  obtain ⟨h1, h2, h3⟩ := h
  exact ⟨h1.trans (hb.mono h1.size), (hb.block _ (row_lt h2)).trans h2, (hb.block _ (row_lt h3)).trans h3⟩
theorem BK.below {w : World} {PL QL : List Value} {gb : Nat} {GL : List Value} {W W' : World} (h : BK w PL QL gb GL W) (hb : Below W.heap.size W W') : BK w PL QL gb GL W' :=
  ⟨h.toBK0.below hb, (hb.block _ (row_lt h.g)).trans h.g, h.o⟩
theorem BK0.new {w : World} {PL QL : List Value} {W : World} (h : BK0 w PL QL W) (o : Obj) (ZL GL : List Value) (ho : o = .cells ZL.toArray 28 (0, 0)) : BK w PL QL W.heap.size GL ((W.alloc o).setRow W.heap.size GL.toArray) := by
  subst ho
  exact ⟨h.below (below_new _ _ _), setRow_heap _ _ _ _ _ _ (heap_alloc_new _ _), row_lt h.q⟩
theorem BK.put {w : World} {PL QL : List Value} {gb : Nat} {GL : List Value} {W : World} (h : BK w PL QL gb GL W) (L : List Value) : BK w PL QL gb L (W.setRow gb L.toArray) := by
  obtain ⟨⟨h1, h2, h3⟩, h4, h5⟩ := h
  exact ⟨⟨below_setRow h1 (by omega) _, (setRow_other _ _ _ _ (by omega)).trans h2, (setRow_other _ _ _ _ (by omega)).trans h3⟩, setRow_heap _ _ _ _ _ _ h4, h5⟩
/-- Two texts that are the same. -/
theorem ks5 : ((⟨#[114, 101, 97, 108, 109]⟩ : ByteArray).toList == [114, 101, 97, 108, 109]) = true := by decide +kernel
theorem ks3 : ((⟨#[114, 101, 99]⟩ : ByteArray).toList == [114, 101, 99]) = true := by decide +kernel
/-- What is known of a realm's parameters, and of their bytes. -/
structure KR (PL TL CL : List Value) (ee : Int) : Prop where
  pl : PL.length = 33
  p1 : PL.toArray.all (·.oneCell') = true
  tl : TL.length = 128
  t1 : TL.toArray.all (·.oneCell') = true
  cl : CL.length = 10
  c1 : CL.toArray.all (·.oneCell') = true
  rb : ∀ W, Calls Try.prog 8 #[.agg PL.toArray] W fun e w' => e = .returned (.tuple #[.agg TL.toArray, .int .i64 ee]) ∧ Below W.heap.size W w'
theorem kr_no (V : List UInt8) (n : Nat) (hV : V.length = 32) (hn : n < 18446744073709551616) (hm : mayR n = false) : ∃ TL CL, KR (rpL V n) TL CL 2 :=
  ⟨Z128.map B8, rcL 0 Z8 false, rpL_len V n hV, onea (rpL_one _ _), by rw [List.length_map, z128_len], B8_onea _, rcL_len _ _ _ z8_len, onea (rcL_one _ _ _), fun W => rb_bad V n W hV hn hm⟩
theorem kr_ok (V : List UInt8) (n : Nat) (hV : V.length = 32) (hn : n < 18446744073709551616) (hm : mayR n = true) : ∃ TL CL KS, KR (rpL V n) TL CL 0 ∧ (KS.toList == [114, 101, 97, 108, 109]) = true ∧
    (∀ W, Calls Try.prog 18 #[.agg TL.toArray] W fun e w' => e = .returned (.tuple #[.agg (rpL V n).toArray, .int .i64 0]) ∧ Below W.heap.size W w') ∧
    (∀ W, Calls Try.prog 20 #[.agg TL.toArray] W fun e w' => e = .returned (.tuple #[.agg CL.toArray, .int .i64 4]) ∧ Below W.heap.size W w') ∧
    (∀ W, Calls Try.prog 22 #[.agg TL.toArray] W fun e w' => e = .returned (.string KS) ∧ Below W.heap.size W w') ∧
    (∀ W, (Op.equalIn 10000 26 (.agg (rpL V n).toArray) (.agg (rpL V n).toArray)).run Try.prog W = .ok true W) := by
  have hl := rbL_len V n hV
  refine ⟨(rbL V n).map B8, cRes (rbL V n), kS (rbL V n), ⟨rpL_len V n hV, onea (rpL_one _ _), by rw [List.length_map, hl], B8_onea _, cRes_len _, onea (cRes_one _), fun W => rb_ok V n W hV hn hm⟩, by rw [kS_rb V n hV hn hm]; exact ks5, fun W => ?_, fun W => ?_, fun W => kind_any _ W hl, fun W => eq_rp W V n hV⟩
  · have h := realm_any (rbL V n) W hl
    rw [rRes_rb V n hV hn hm, rErr_rb V n hV hn hm] at h
    exact h
  · have h := rec_any (rbL V n) W hl
    rw [cErr_rb V n] at h
    exact h
/-- What is known of a vCPU's. -/
structure KC (QL TL RL : List Value) (ee : Int) : Prop where
  ql : QL.length = 10
  q1 : QL.toArray.all (·.oneCell') = true
  tl : TL.length = 128
  t1 : TL.toArray.all (·.oneCell') = true
  rl : RL.length = 33
  r1 : RL.toArray.all (·.oneCell') = true
  cb : ∀ W, Calls Try.prog 14 #[.agg QL.toArray] W fun e w' => e = .returned (.tuple #[.agg TL.toArray, .int .i64 ee]) ∧ Below W.heap.size W w'
theorem kc_no (pc : Nat) (rs : List Nat) (r : Bool) (hr : rs.length = 8) (hm : mayC pc = false) : ∃ TL RL, KC (rcL pc rs r) TL RL 2 :=
  ⟨Z128.map B8, rpL Z32 0, rcL_len _ _ _ hr, onea (rcL_one _ _ _), by rw [List.length_map, z128_len], B8_onea _, rpL_len _ _ z32_len, onea (rpL_one _ _), fun W => cb_bad pc rs r W hr hm⟩
theorem kc_ok (pc : Nat) (rs : List Nat) (r : Bool) (hr : rs.length = 8) (hp : pc < 18446744073709551616) (hrs : ∀ x ∈ rs, x < 18446744073709551616) (hm : mayC pc = true) : ∃ TL RL KS, KC (rcL pc rs r) TL RL 0 ∧ (KS.toList == [114, 101, 99]) = true ∧
    (∀ W, Calls Try.prog 20 #[.agg TL.toArray] W fun e w' => e = .returned (.tuple #[.agg (rcL pc rs r).toArray, .int .i64 0]) ∧ Below W.heap.size W w') ∧
    (∀ W, Calls Try.prog 18 #[.agg TL.toArray] W fun e w' => e = .returned (.tuple #[.agg RL.toArray, .int .i64 4]) ∧ Below W.heap.size W w') ∧
    (∀ W, Calls Try.prog 22 #[.agg TL.toArray] W fun e w' => e = .returned (.string KS) ∧ Below W.heap.size W w') ∧
    (∀ W, (Op.equalIn 10000 38 (.agg (rcL pc rs r).toArray) (.agg (rcL pc rs r).toArray)).run Try.prog W = .ok true W) := by
  have hl := cbL_len pc rs r hr
  refine ⟨(cbL pc rs r).map B8, rRes (cbL pc rs r), kS (cbL pc rs r), ⟨rcL_len _ _ _ hr, onea (rcL_one _ _ _), by rw [List.length_map, hl], B8_onea _, rRes_len _ hl, onea (rRes_one _), fun W => cb_ok pc rs r W hr hp hrs hm⟩, by rw [kS_cb pc rs r hr hp hrs hm]; exact ks3, fun W => ?_, fun W => ?_, fun W => kind_any _ W hl, fun W => eq_rc W pc rs r hr⟩
  · have h := rec_any (cbL pc rs r) W hl
    rw [cRes_cb pc rs r hr hp hrs hm, cErr_cb pc rs r hr hp hrs hm] at h
    exact h
  · have h := realm_any (cbL pc rs r) W hl
    rw [rErr_cb pc rs r] at h
    exact h
set_option maxHeartbeats 4000000 in
set_option maxRecDepth 100000 in
theorem back_walk (V : List UInt8) (n : Nat) (pc : Nat) (rs : List Nat) (r : Bool) (w : World) (hV : V.length = 32) (hn : n < 18446744073709551616) (hr : rs.length = 8) (hp : pc < 18446744073709551616) (hrs : ∀ x ∈ rs, x < 18446744073709551616) :
    Calls Try.prog 6 #[.agg (rpL V n).toArray, .agg (rcL pc rs r).toArray] w fun e w' => e = .returned (.bool true) ∧ Below w.heap.size w w' := by
  have hzr := fun W => zero_rp W
  obtain ⟨RZ, hRZ⟩ : ∃ L, L = rpL Z32 0 := ⟨_, rfl⟩
  rw [← hRZ] at hzr
  have hrzl : RZ.length = 33 := by rw [hRZ]; exact rpL_len _ _ z32_len
  clear hRZ
  have hzc := fun W => zero_rc W
  obtain ⟨CZ, hCZ⟩ : ∃ L, L = rcL 0 Z8 false := ⟨_, rfl⟩
  rw [← hCZ] at hzc
  have hczl : CZ.length = 10 := by rw [hCZ]; exact rcL_len _ _ _ z8_len
  clear hCZ
  have hzg := fun W => zero_gr W
  obtain ⟨ZL, hZL⟩ : ∃ L, L = Z128.map B8 := ⟨_, rfl⟩
  rw [← hZL] at hzg
  have hzl : ZL.length = 128 := by rw [hZL, List.length_map, z128_len]
  clear hZL
  cases hm : mayR n
  · obtain ⟨TL, CL, k1⟩ := kr_no V n hV hn hm
    cases hc : mayC pc
    · obtain ⟨UL, RL, k2⟩ := kc_no pc rs r hr hc
      generalize rpL V n = PL at *
      generalize rcL pc rs r = QL at *
      clear hV hn hr hp hrs hm hc
      have HPI : Hid _ := info33 PL k1.pl
      have HPA : Hid _ := info33a PL.toArray (by simpa using k1.pl)
      have HP1 : Hid (PL.toArray.all (·.oneCell') = true) := k1.p1
      have HPS : Hid (RZ.toArray.size = PL.toArray.size) := by show _ = _; simp [hrzl, k1.pl]
      have HTI : Hid _ := info128 TL k1.tl
      have HTA : Hid _ := info128a TL.toArray (by simpa using k1.tl)
      have HT1 : Hid (TL.toArray.all (·.oneCell') = true) := k1.t1
      have HTS : Hid (ZL.toArray.size = TL.toArray.size) := by show _ = _; simp [hzl, k1.tl]
      have HCA : Hid _ := info10a CL.toArray (by simpa using k1.cl)
      have HC1 : Hid (CL.toArray.all (·.oneCell') = true) := k1.c1
      have HCS : Hid (CZ.toArray.size = CL.toArray.size) := by show _ = _; simp [hczl, k1.cl]
      have HQI : Hid _ := info10 QL k2.ql
      have HQA : Hid _ := info10a QL.toArray (by simpa using k2.ql)
      have HQ1 : Hid (QL.toArray.all (·.oneCell') = true) := k2.q1
      have HQS : Hid (CZ.toArray.size = QL.toArray.size) := by show _ = _; simp [hczl, k2.ql]
      have HUI : Hid _ := info128 UL k2.tl
      have HUA : Hid _ := info128a UL.toArray (by simpa using k2.tl)
      have HU1 : Hid (UL.toArray.all (·.oneCell') = true) := k2.t1
      have HUS : Hid (TL.toArray.size = UL.toArray.size) := by show _ = _; simp [k1.tl, k2.tl]
      have HRA : Hid _ := info33a RL.toArray (by simpa using k2.rl)
      have HR1 : Hid (RL.toArray.all (·.oneCell') = true) := k2.r1
      have HRS : Hid (RZ.toArray.size = RL.toArray.size) := by show _ = _; simp [hrzl, k2.rl]
      have hrb := k1.rb
      have hcb := k2.cb
      clear k1 k2 hrzl hczl hzl
      have HW0 : Hid _ := BK0.start w PL QL
      have hnum := fun e W => num_any e W
      have hkn := fun W => known_any W
      go_enter Try.func6, Try.ntmps6
      go_wp2_with fail
      refine Calls.mono (hkn _) ?_
      rintro e w1 ⟨rfl, hb1⟩
      have HW1 : Hid _ := HW0.out.below hb1
      have HG1 : Hid _ := rangeAt_row HW1.out.p
      clear hb1 HW0 hkn
      go_wp2_with (refine wpList_load_mid rfl 26 _ rfl w.heap.size 0 rfl PL _ HG1.out Try.underlying26 rfl HPI.out ?_)
      refine Calls.mono (hrb _) ?_
      rintro e w2 ⟨rfl, hb2⟩
      have HN2 : Hid _ := heap_alloc_new w2 (.cells ZL.toArray 28 (0, 0))
      have HW2 : Hid _ := (HW1.out.below hb2).new (.cells ZL.toArray 28 (0, 0)) ZL TL rfl
      have HG2 : Hid _ := rangeAt_row HW2.out.g
      have HQ2 : Hid _ := rangeAt_row HW2.out.q
      clear hb2 HW1 HG1 hrb
      have HW5 : Hid _ := HW2
      have HG5 : Hid _ := HW5.out.g
      have HQ5 : Hid _ := HQ2
      go_wp2_with (first
        | (refine wpList_store_row rfl 28 _ _ rfl w2.heap.size TL.toArray rfl rfl 28 ZL.toArray HN2.out HTA.out HTS.out HT1.out ?_)
        | (go_at_call 11; refine Calls.mono (hnum _ _) ?_; rintro e w9 ⟨rfl, rfl⟩)
        | (refine wpList_load_mid rfl 38 _ rfl (w.heap.size + 1) 0 rfl QL _ HQ2.out Try.underlying38 rfl HQI.out ?_))
      refine Calls.mono (hcb _) ?_
      rintro e w6 ⟨rfl, hb6⟩
      have HW6 : Hid _ := HW5.out.below hb6
      have HG6 : Hid _ := HW6.out.g
      have HW7 : Hid _ := HW6.out.put UL
      clear hb6 HW5 HG5 HQ5 hcb
      go_wp2_with (first
        | (refine wpList_store_row rfl 28 _ _ rfl w2.heap.size UL.toArray rfl rfl 28 TL.toArray HG6.out HUA.out HUS.out HU1.out ?_)
        | (go_at_call 11; refine Calls.mono (hnum _ _) ?_; rintro e w9 ⟨rfl, rfl⟩))
      go_ret
      exact ⟨rfl, HW7.out.bel⟩
    · obtain ⟨UL, RL, K2, k2, hks2, hC2, hR2, hK2, hE2⟩ := kc_ok pc rs r hr hp hrs hc
      generalize rpL V n = PL at *
      generalize rcL pc rs r = QL at *
      clear hV hn hr hp hrs hm hc
      have HPI : Hid _ := info33 PL k1.pl
      have HPA : Hid _ := info33a PL.toArray (by simpa using k1.pl)
      have HP1 : Hid (PL.toArray.all (·.oneCell') = true) := k1.p1
      have HPS : Hid (RZ.toArray.size = PL.toArray.size) := by show _ = _; simp [hrzl, k1.pl]
      have HTI : Hid _ := info128 TL k1.tl
      have HTA : Hid _ := info128a TL.toArray (by simpa using k1.tl)
      have HT1 : Hid (TL.toArray.all (·.oneCell') = true) := k1.t1
      have HTS : Hid (ZL.toArray.size = TL.toArray.size) := by show _ = _; simp [hzl, k1.tl]
      have HCA : Hid _ := info10a CL.toArray (by simpa using k1.cl)
      have HC1 : Hid (CL.toArray.all (·.oneCell') = true) := k1.c1
      have HCS : Hid (CZ.toArray.size = CL.toArray.size) := by show _ = _; simp [hczl, k1.cl]
      have HQI : Hid _ := info10 QL k2.ql
      have HQA : Hid _ := info10a QL.toArray (by simpa using k2.ql)
      have HQ1 : Hid (QL.toArray.all (·.oneCell') = true) := k2.q1
      have HQS : Hid (CZ.toArray.size = QL.toArray.size) := by show _ = _; simp [hczl, k2.ql]
      have HUI : Hid _ := info128 UL k2.tl
      have HUA : Hid _ := info128a UL.toArray (by simpa using k2.tl)
      have HU1 : Hid (UL.toArray.all (·.oneCell') = true) := k2.t1
      have HUS : Hid (TL.toArray.size = UL.toArray.size) := by show _ = _; simp [k1.tl, k2.tl]
      have HRA : Hid _ := info33a RL.toArray (by simpa using k2.rl)
      have HR1 : Hid (RL.toArray.all (·.oneCell') = true) := k2.r1
      have HRS : Hid (RZ.toArray.size = RL.toArray.size) := by show _ = _; simp [hrzl, k2.rl]
      have hrb := k1.rb
      have hcb := k2.cb
      clear k1 k2 hrzl hczl hzl
      have HW0 : Hid _ := BK0.start w PL QL
      have hnum := fun e W => num_any e W
      have hkn := fun W => known_any W
      go_enter Try.func6, Try.ntmps6
      go_wp2_with fail
      refine Calls.mono (hkn _) ?_
      rintro e w1 ⟨rfl, hb1⟩
      have HW1 : Hid _ := HW0.out.below hb1
      have HG1 : Hid _ := rangeAt_row HW1.out.p
      clear hb1 HW0 hkn
      go_wp2_with (refine wpList_load_mid rfl 26 _ rfl w.heap.size 0 rfl PL _ HG1.out Try.underlying26 rfl HPI.out ?_)
      refine Calls.mono (hrb _) ?_
      rintro e w2 ⟨rfl, hb2⟩
      have HN2 : Hid _ := heap_alloc_new w2 (.cells ZL.toArray 28 (0, 0))
      have HW2 : Hid _ := (HW1.out.below hb2).new (.cells ZL.toArray 28 (0, 0)) ZL TL rfl
      have HG2 : Hid _ := rangeAt_row HW2.out.g
      have HQ2 : Hid _ := rangeAt_row HW2.out.q
      clear hb2 HW1 HG1 hrb
      have HW5 : Hid _ := HW2
      have HG5 : Hid _ := HW5.out.g
      have HQ5 : Hid _ := HQ2
      go_wp2_with (first
        | (refine wpList_store_row rfl 28 _ _ rfl w2.heap.size TL.toArray rfl rfl 28 ZL.toArray HN2.out HTA.out HTS.out HT1.out ?_)
        | (go_at_call 11; refine Calls.mono (hnum _ _) ?_; rintro e w9 ⟨rfl, rfl⟩)
        | (refine wpList_load_mid rfl 38 _ rfl (w.heap.size + 1) 0 rfl QL _ HQ2.out Try.underlying38 rfl HQI.out ?_))
      refine Calls.mono (hcb _) ?_
      rintro e w6 ⟨rfl, hb6⟩
      have HW6 : Hid _ := HW5.out.below hb6
      have HG6 : Hid _ := HW6.out.g
      have HW7 : Hid _ := HW6.out.put UL
      have HG7 : Hid _ := rangeAt_row HW7.out.g
      clear hb6 HW5 HG5 HQ5 hcb
      go_wp2_with (first
        | (refine wpList_store_row rfl 28 _ _ rfl w2.heap.size UL.toArray rfl rfl 28 TL.toArray HG6.out HUA.out HUS.out HU1.out ?_)
        | (go_at_call 11; refine Calls.mono (hnum _ _) ?_; rintro e w9 ⟨rfl, rfl⟩)
        | (refine wpList_load_mid rfl 28 _ rfl w2.heap.size 0 rfl UL _ HG7.out Try.underlying28 rfl HUI.out ?_))
      refine Calls.mono (hC2 _) ?_
      rintro e w7 ⟨rfl, hb7⟩
      have HN7 : Hid _ := heap_alloc_new w7 (.cells CZ.toArray 38 (0, 0))
      have HW8 : Hid _ := (HW7.out.below hb7).below (below_new w7 (.cells CZ.toArray 38 (0, 0)) QL.toArray)
      have HG8 : Hid _ := rangeAt_row HW8.out.g
      have hx7 := setRow_heap _ _ _ QL.toArray _ _ HN7.out
      have HX7 : Hid _ := hx7
      have hlt7 := row_lt hx7
      clear hb7 hx7 HG6 HG7 HW6 HW7 hC2
      go_wp2_with (first
        | (refine wpList_store_row rfl 38 _ _ rfl w7.heap.size QL.toArray rfl rfl 38 CZ.toArray HN7.out HQA.out HQS.out HQ1.out ?_)
        | (refine wpList_load_mid rfl 28 _ rfl w2.heap.size 0 rfl UL _ HG8.out Try.underlying28 rfl HUI.out ?_))
      refine Calls.mono (hR2 _) ?_
      rintro e w8 ⟨rfl, hb8⟩
      have HN8 : Hid _ := heap_alloc_new w8 (.cells RZ.toArray 26 (0, 0))
      have hb9 := below_new w8 (.cells RZ.toArray 26 (0, 0)) RL.toArray
      have HW9 : Hid _ := (HW8.out.below hb8).below hb9
      have HX9 : Hid _ := rangeAt_row ((hb9.block _ (Nat.lt_of_lt_of_le hlt7 hb8.size)).trans ((hb8.block _ hlt7).trans HX7.out))
      have HQ9 : Hid _ := rangeAt_row HW9.out.q
      have HG9 : Hid _ := rangeAt_row HW9.out.g
      clear hb8 hb9 HN7 HX7 HW8 HG8 hR2 hlt7
      go_wp2_with (first
        | (refine wpList_store_row rfl 26 _ _ rfl w8.heap.size RL.toArray rfl rfl 26 RZ.toArray HN8.out HRA.out HRS.out HR1.out ?_)
        | (go_at_call 11; refine Calls.mono (hnum _ _) ?_; rintro e w9 ⟨rfl, rfl⟩)
        | (refine load_mid_g (by rfl) 38 _ rfl w7.heap.size 0 rfl QL _ HX9.out Try.underlying38 rfl HQI.out ?_)
        | (refine load_mid_g (by rfl) 38 _ rfl (w.heap.size + 1) 0 rfl QL _ HQ9.out Try.underlying38 rfl HQI.out ?_)
        | (refine load_mid_g (by rfl) 28 _ rfl w2.heap.size 0 rfl UL _ HG9.out Try.underlying28 rfl HUI.out ?_))
      refine Calls.mono (hK2 _) ?_
      rintro e w10 ⟨rfl, hb10⟩
      have HW10 : Hid _ := HW9.out.below hb10
      clear hb10 HN8 HX9 HW9 HG9 HQ9 hK2
      go_wp2
      go_ret
      exact ⟨rfl, HW10.out.bel⟩
  · obtain ⟨TL, CL, K1, k1, hks1, hR, hC, hK, hE1⟩ := kr_ok V n hV hn hm
    cases hc : mayC pc
    · obtain ⟨UL, RL, k2⟩ := kc_no pc rs r hr hc
      generalize rpL V n = PL at *
      generalize rcL pc rs r = QL at *
      clear hV hn hr hp hrs hm hc
      have HPI : Hid _ := info33 PL k1.pl
      have HPA : Hid _ := info33a PL.toArray (by simpa using k1.pl)
      have HP1 : Hid (PL.toArray.all (·.oneCell') = true) := k1.p1
      have HPS : Hid (RZ.toArray.size = PL.toArray.size) := by show _ = _; simp [hrzl, k1.pl]
      have HTI : Hid _ := info128 TL k1.tl
      have HTA : Hid _ := info128a TL.toArray (by simpa using k1.tl)
      have HT1 : Hid (TL.toArray.all (·.oneCell') = true) := k1.t1
      have HTS : Hid (ZL.toArray.size = TL.toArray.size) := by show _ = _; simp [hzl, k1.tl]
      have HCA : Hid _ := info10a CL.toArray (by simpa using k1.cl)
      have HC1 : Hid (CL.toArray.all (·.oneCell') = true) := k1.c1
      have HCS : Hid (CZ.toArray.size = CL.toArray.size) := by show _ = _; simp [hczl, k1.cl]
      have HQI : Hid _ := info10 QL k2.ql
      have HQA : Hid _ := info10a QL.toArray (by simpa using k2.ql)
      have HQ1 : Hid (QL.toArray.all (·.oneCell') = true) := k2.q1
      have HQS : Hid (CZ.toArray.size = QL.toArray.size) := by show _ = _; simp [hczl, k2.ql]
      have HUI : Hid _ := info128 UL k2.tl
      have HUA : Hid _ := info128a UL.toArray (by simpa using k2.tl)
      have HU1 : Hid (UL.toArray.all (·.oneCell') = true) := k2.t1
      have HUS : Hid (TL.toArray.size = UL.toArray.size) := by show _ = _; simp [k1.tl, k2.tl]
      have HRA : Hid _ := info33a RL.toArray (by simpa using k2.rl)
      have HR1 : Hid (RL.toArray.all (·.oneCell') = true) := k2.r1
      have HRS : Hid (RZ.toArray.size = RL.toArray.size) := by show _ = _; simp [hrzl, k2.rl]
      have hrb := k1.rb
      have hcb := k2.cb
      clear k1 k2 hrzl hczl hzl
      have HW0 : Hid _ := BK0.start w PL QL
      have hnum := fun e W => num_any e W
      have hkn := fun W => known_any W
      go_enter Try.func6, Try.ntmps6
      go_wp2_with fail
      refine Calls.mono (hkn _) ?_
      rintro e w1 ⟨rfl, hb1⟩
      have HW1 : Hid _ := HW0.out.below hb1
      have HG1 : Hid _ := rangeAt_row HW1.out.p
      clear hb1 HW0 hkn
      go_wp2_with (refine wpList_load_mid rfl 26 _ rfl w.heap.size 0 rfl PL _ HG1.out Try.underlying26 rfl HPI.out ?_)
      refine Calls.mono (hrb _) ?_
      rintro e w2 ⟨rfl, hb2⟩
      have HN2 : Hid _ := heap_alloc_new w2 (.cells ZL.toArray 28 (0, 0))
      have HW2 : Hid _ := (HW1.out.below hb2).new (.cells ZL.toArray 28 (0, 0)) ZL TL rfl
      have HG2 : Hid _ := rangeAt_row HW2.out.g
      have HQ2 : Hid _ := rangeAt_row HW2.out.q
      clear hb2 HW1 HG1 hrb
      go_wp2_with (first
        | (refine wpList_store_row rfl 28 _ _ rfl w2.heap.size TL.toArray rfl rfl 28 ZL.toArray HN2.out HTA.out HTS.out HT1.out ?_)
        | (go_at_call 11; refine Calls.mono (hnum _ _) ?_; rintro e w9 ⟨rfl, rfl⟩)
        | (refine wpList_load_mid rfl 28 _ rfl w2.heap.size 0 rfl TL _ HG2.out Try.underlying28 rfl HTI.out ?_))
      refine Calls.mono (hR _) ?_
      rintro e w3 ⟨rfl, hb3⟩
      have HN3 : Hid _ := heap_alloc_new w3 (.cells RZ.toArray 26 (0, 0))
      have HW3 : Hid _ := (HW2.out.below hb3).below (below_new w3 (.cells RZ.toArray 26 (0, 0)) PL.toArray)
      have HG3 : Hid _ := rangeAt_row HW3.out.g
      have hx3 := setRow_heap _ _ _ PL.toArray _ _ HN3.out
      have HX3 : Hid _ := hx3
      have hlt3 := row_lt hx3
      clear hb3 HN2 hx3 HG2 HW2 hR HQ2
      go_wp2_with (first
        | (refine wpList_store_row rfl 26 _ _ rfl w3.heap.size PL.toArray rfl rfl 26 RZ.toArray HN3.out HPA.out HPS.out HP1.out ?_)
        | (refine wpList_load_mid rfl 28 _ rfl w2.heap.size 0 rfl TL _ HG3.out Try.underlying28 rfl HTI.out ?_))
      refine Calls.mono (hC _) ?_
      rintro e w4 ⟨rfl, hb4⟩
      have HN4 : Hid _ := heap_alloc_new w4 (.cells CZ.toArray 38 (0, 0))
      have hb5 := below_new w4 (.cells CZ.toArray 38 (0, 0)) CL.toArray
      have HW4 : Hid _ := (HW3.out.below hb4).below hb5
      have HX4 : Hid _ := rangeAt_row ((hb5.block _ (Nat.lt_of_lt_of_le hlt3 hb4.size)).trans ((hb4.block _ hlt3).trans HX3.out))
      have HP4 : Hid _ := rangeAt_row HW4.out.p
      have HG4 : Hid _ := rangeAt_row HW4.out.g
      clear hb4 hb5 HN3 HX3 HW3 HG3 hC hlt3
      go_wp2_with (first
        | (refine wpList_store_row rfl 38 _ _ rfl w4.heap.size CL.toArray rfl rfl 38 CZ.toArray HN4.out HCA.out HCS.out HC1.out ?_)
        | (go_at_call 11; refine Calls.mono (hnum _ _) ?_; rintro e w9 ⟨rfl, rfl⟩)
        | (refine load_mid_g (by rfl) 26 _ rfl w3.heap.size 0 rfl PL _ HX4.out Try.underlying26 rfl HPI.out ?_)
        | (refine load_mid_g (by rfl) 26 _ rfl w.heap.size 0 rfl PL _ HP4.out Try.underlying26 rfl HPI.out ?_)
        | (refine load_mid_g (by rfl) 28 _ rfl w2.heap.size 0 rfl TL _ HG4.out Try.underlying28 rfl HTI.out ?_))
      refine Calls.mono (hK _) ?_
      rintro e w5 ⟨rfl, hb5⟩
      have HW5 : Hid _ := HW4.out.below hb5
      have HQ5 : Hid _ := rangeAt_row HW5.out.q
      have HG5 : Hid _ := HW5.out.g
      clear hb5 HN4 HX4 HW4 HG4 HP4 hK
      go_wp2_with (refine wpList_load_mid rfl 38 _ rfl (w.heap.size + 1) 0 rfl QL _ HQ5.out Try.underlying38 rfl HQI.out ?_)
      refine Calls.mono (hcb _) ?_
      rintro e w6 ⟨rfl, hb6⟩
      have HW6 : Hid _ := HW5.out.below hb6
      have HG6 : Hid _ := HW6.out.g
      have HW7 : Hid _ := HW6.out.put UL
      clear hb6 HW5 HG5 HQ5 hcb
      go_wp2_with (first
        | (refine wpList_store_row rfl 28 _ _ rfl w2.heap.size UL.toArray rfl rfl 28 TL.toArray HG6.out HUA.out HUS.out HU1.out ?_)
        | (go_at_call 11; refine Calls.mono (hnum _ _) ?_; rintro e w9 ⟨rfl, rfl⟩))
      go_ret
      exact ⟨rfl, HW7.out.bel⟩
    · obtain ⟨UL, RL, K2, k2, hks2, hC2, hR2, hK2, hE2⟩ := kc_ok pc rs r hr hp hrs hc
      generalize rpL V n = PL at *
      generalize rcL pc rs r = QL at *
      clear hV hn hr hp hrs hm hc
      have HPI : Hid _ := info33 PL k1.pl
      have HPA : Hid _ := info33a PL.toArray (by simpa using k1.pl)
      have HP1 : Hid (PL.toArray.all (·.oneCell') = true) := k1.p1
      have HPS : Hid (RZ.toArray.size = PL.toArray.size) := by show _ = _; simp [hrzl, k1.pl]
      have HTI : Hid _ := info128 TL k1.tl
      have HTA : Hid _ := info128a TL.toArray (by simpa using k1.tl)
      have HT1 : Hid (TL.toArray.all (·.oneCell') = true) := k1.t1
      have HTS : Hid (ZL.toArray.size = TL.toArray.size) := by show _ = _; simp [hzl, k1.tl]
      have HCA : Hid _ := info10a CL.toArray (by simpa using k1.cl)
      have HC1 : Hid (CL.toArray.all (·.oneCell') = true) := k1.c1
      have HCS : Hid (CZ.toArray.size = CL.toArray.size) := by show _ = _; simp [hczl, k1.cl]
      have HQI : Hid _ := info10 QL k2.ql
      have HQA : Hid _ := info10a QL.toArray (by simpa using k2.ql)
      have HQ1 : Hid (QL.toArray.all (·.oneCell') = true) := k2.q1
      have HQS : Hid (CZ.toArray.size = QL.toArray.size) := by show _ = _; simp [hczl, k2.ql]
      have HUI : Hid _ := info128 UL k2.tl
      have HUA : Hid _ := info128a UL.toArray (by simpa using k2.tl)
      have HU1 : Hid (UL.toArray.all (·.oneCell') = true) := k2.t1
      have HUS : Hid (TL.toArray.size = UL.toArray.size) := by show _ = _; simp [k1.tl, k2.tl]
      have HRA : Hid _ := info33a RL.toArray (by simpa using k2.rl)
      have HR1 : Hid (RL.toArray.all (·.oneCell') = true) := k2.r1
      have HRS : Hid (RZ.toArray.size = RL.toArray.size) := by show _ = _; simp [hrzl, k2.rl]
      have hrb := k1.rb
      have hcb := k2.cb
      clear k1 k2 hrzl hczl hzl
      have HW0 : Hid _ := BK0.start w PL QL
      have hnum := fun e W => num_any e W
      have hkn := fun W => known_any W
      go_enter Try.func6, Try.ntmps6
      go_wp2_with fail
      refine Calls.mono (hkn _) ?_
      rintro e w1 ⟨rfl, hb1⟩
      have HW1 : Hid _ := HW0.out.below hb1
      have HG1 : Hid _ := rangeAt_row HW1.out.p
      clear hb1 HW0 hkn
      go_wp2_with (refine wpList_load_mid rfl 26 _ rfl w.heap.size 0 rfl PL _ HG1.out Try.underlying26 rfl HPI.out ?_)
      refine Calls.mono (hrb _) ?_
      rintro e w2 ⟨rfl, hb2⟩
      have HN2 : Hid _ := heap_alloc_new w2 (.cells ZL.toArray 28 (0, 0))
      have HW2 : Hid _ := (HW1.out.below hb2).new (.cells ZL.toArray 28 (0, 0)) ZL TL rfl
      have HG2 : Hid _ := rangeAt_row HW2.out.g
      have HQ2 : Hid _ := rangeAt_row HW2.out.q
      clear hb2 HW1 HG1 hrb
      go_wp2_with (first
        | (refine wpList_store_row rfl 28 _ _ rfl w2.heap.size TL.toArray rfl rfl 28 ZL.toArray HN2.out HTA.out HTS.out HT1.out ?_)
        | (go_at_call 11; refine Calls.mono (hnum _ _) ?_; rintro e w9 ⟨rfl, rfl⟩)
        | (refine wpList_load_mid rfl 28 _ rfl w2.heap.size 0 rfl TL _ HG2.out Try.underlying28 rfl HTI.out ?_))
      refine Calls.mono (hR _) ?_
      rintro e w3 ⟨rfl, hb3⟩
      have HN3 : Hid _ := heap_alloc_new w3 (.cells RZ.toArray 26 (0, 0))
      have HW3 : Hid _ := (HW2.out.below hb3).below (below_new w3 (.cells RZ.toArray 26 (0, 0)) PL.toArray)
      have HG3 : Hid _ := rangeAt_row HW3.out.g
      have hx3 := setRow_heap _ _ _ PL.toArray _ _ HN3.out
      have HX3 : Hid _ := hx3
      have hlt3 := row_lt hx3
      clear hb3 HN2 hx3 HG2 HW2 hR HQ2
      go_wp2_with (first
        | (refine wpList_store_row rfl 26 _ _ rfl w3.heap.size PL.toArray rfl rfl 26 RZ.toArray HN3.out HPA.out HPS.out HP1.out ?_)
        | (refine wpList_load_mid rfl 28 _ rfl w2.heap.size 0 rfl TL _ HG3.out Try.underlying28 rfl HTI.out ?_))
      refine Calls.mono (hC _) ?_
      rintro e w4 ⟨rfl, hb4⟩
      have HN4 : Hid _ := heap_alloc_new w4 (.cells CZ.toArray 38 (0, 0))
      have hb5 := below_new w4 (.cells CZ.toArray 38 (0, 0)) CL.toArray
      have HW4 : Hid _ := (HW3.out.below hb4).below hb5
      have HX4 : Hid _ := rangeAt_row ((hb5.block _ (Nat.lt_of_lt_of_le hlt3 hb4.size)).trans ((hb4.block _ hlt3).trans HX3.out))
      have HP4 : Hid _ := rangeAt_row HW4.out.p
      have HG4 : Hid _ := rangeAt_row HW4.out.g
      clear hb4 hb5 HN3 HX3 HW3 HG3 hC hlt3
      go_wp2_with (first
        | (refine wpList_store_row rfl 38 _ _ rfl w4.heap.size CL.toArray rfl rfl 38 CZ.toArray HN4.out HCA.out HCS.out HC1.out ?_)
        | (go_at_call 11; refine Calls.mono (hnum _ _) ?_; rintro e w9 ⟨rfl, rfl⟩)
        | (refine load_mid_g (by rfl) 26 _ rfl w3.heap.size 0 rfl PL _ HX4.out Try.underlying26 rfl HPI.out ?_)
        | (refine load_mid_g (by rfl) 26 _ rfl w.heap.size 0 rfl PL _ HP4.out Try.underlying26 rfl HPI.out ?_)
        | (refine load_mid_g (by rfl) 28 _ rfl w2.heap.size 0 rfl TL _ HG4.out Try.underlying28 rfl HTI.out ?_))
      refine Calls.mono (hK _) ?_
      rintro e w5 ⟨rfl, hb5⟩
      have HW5 : Hid _ := HW4.out.below hb5
      have HQ5 : Hid _ := rangeAt_row HW5.out.q
      have HG5 : Hid _ := HW5.out.g
      clear hb5 HN4 HX4 HW4 HG4 HP4 hK
      go_wp2_with (refine wpList_load_mid rfl 38 _ rfl (w.heap.size + 1) 0 rfl QL _ HQ5.out Try.underlying38 rfl HQI.out ?_)
      refine Calls.mono (hcb _) ?_
      rintro e w6 ⟨rfl, hb6⟩
      have HW6 : Hid _ := HW5.out.below hb6
      have HG6 : Hid _ := HW6.out.g
      have HW7 : Hid _ := HW6.out.put UL
      have HG7 : Hid _ := rangeAt_row HW7.out.g
      clear hb6 HW5 HG5 HQ5 hcb
      go_wp2_with (first
        | (refine wpList_store_row rfl 28 _ _ rfl w2.heap.size UL.toArray rfl rfl 28 TL.toArray HG6.out HUA.out HUS.out HU1.out ?_)
        | (go_at_call 11; refine Calls.mono (hnum _ _) ?_; rintro e w9 ⟨rfl, rfl⟩)
        | (refine wpList_load_mid rfl 28 _ rfl w2.heap.size 0 rfl UL _ HG7.out Try.underlying28 rfl HUI.out ?_))
      refine Calls.mono (hC2 _) ?_
      rintro e w7 ⟨rfl, hb7⟩
      have HN7 : Hid _ := heap_alloc_new w7 (.cells CZ.toArray 38 (0, 0))
      have HW8 : Hid _ := (HW7.out.below hb7).below (below_new w7 (.cells CZ.toArray 38 (0, 0)) QL.toArray)
      have HG8 : Hid _ := rangeAt_row HW8.out.g
      have hx7 := setRow_heap _ _ _ QL.toArray _ _ HN7.out
      have HX7 : Hid _ := hx7
      have hlt7 := row_lt hx7
      clear hb7 hx7 HG6 HG7 HW6 HW7 hC2
      go_wp2_with (first
        | (refine wpList_store_row rfl 38 _ _ rfl w7.heap.size QL.toArray rfl rfl 38 CZ.toArray HN7.out HQA.out HQS.out HQ1.out ?_)
        | (refine wpList_load_mid rfl 28 _ rfl w2.heap.size 0 rfl UL _ HG8.out Try.underlying28 rfl HUI.out ?_))
      refine Calls.mono (hR2 _) ?_
      rintro e w8 ⟨rfl, hb8⟩
      have HN8 : Hid _ := heap_alloc_new w8 (.cells RZ.toArray 26 (0, 0))
      have hb9 := below_new w8 (.cells RZ.toArray 26 (0, 0)) RL.toArray
      have HW9 : Hid _ := (HW8.out.below hb8).below hb9
      have HX9 : Hid _ := rangeAt_row ((hb9.block _ (Nat.lt_of_lt_of_le hlt7 hb8.size)).trans ((hb8.block _ hlt7).trans HX7.out))
      have HQ9 : Hid _ := rangeAt_row HW9.out.q
      have HG9 : Hid _ := rangeAt_row HW9.out.g
      clear hb8 hb9 HN7 HX7 HW8 HG8 hR2 hlt7
      go_wp2_with (first
        | (refine wpList_store_row rfl 26 _ _ rfl w8.heap.size RL.toArray rfl rfl 26 RZ.toArray HN8.out HRA.out HRS.out HR1.out ?_)
        | (go_at_call 11; refine Calls.mono (hnum _ _) ?_; rintro e w9 ⟨rfl, rfl⟩)
        | (refine load_mid_g (by rfl) 38 _ rfl w7.heap.size 0 rfl QL _ HX9.out Try.underlying38 rfl HQI.out ?_)
        | (refine load_mid_g (by rfl) 38 _ rfl (w.heap.size + 1) 0 rfl QL _ HQ9.out Try.underlying38 rfl HQI.out ?_)
        | (refine load_mid_g (by rfl) 28 _ rfl w2.heap.size 0 rfl UL _ HG9.out Try.underlying28 rfl HUI.out ?_))
      refine Calls.mono (hK2 _) ?_
      rintro e w10 ⟨rfl, hb10⟩
      have HW10 : Hid _ := HW9.out.below hb10
      clear hb10 HN8 HX9 HW9 HG9 HQ9 hK2
      go_wp2
      go_ret
      exact ⟨rfl, HW10.out.bel⟩
end Go.Proofs.Ytabnmhmlcoakkaa.PC
namespace Go.Proofs.Ytabnmhmlcoakkaa.paramsBack
open Go.ChangeShapes Go.WideShapes Go.ChangeAt Go.RowKit

theorem own : ownKnob Try.prog.godebug = none := by kernel_rfl
theorem laidOut : laidOutB Try.prog = true := by kernel_rfl
theorem walk (V : List UInt8) (n : Nat) (pc : Nat) (rs : List Nat) (r : Bool) (w : World) (hV : V.length = 32) (hn : n < 18446744073709551616) (hr : rs.length = 8) (hp : pc < 18446744073709551616) (hrs : ∀ x ∈ rs, x < 18446744073709551616) :
    Calls Try.prog 6 #[.agg (PC.rpL V n).toArray, .agg (PC.rcL pc rs r).toArray] w fun e w' => e = .returned (.bool true) ∧ Below w.heap.size w w' := PC.back_walk V n pc rs r w hV hn hr hp hrs
set_option maxRecDepth 100000 in
theorem lifted (os : Os) (started : os.Started) (H : Type) (enc : TypeId × Value → H) :
    ReturnsInHanded {} Try.checked os 6 .any (Rows.paramsBackSpec.pre6 enc Try.prog Try.f6 Rows.paramsBackRow.domain false) (Rows.paramsBackSpec.post enc Try.prog Try.f6 false true false false) := by
  refine returnsInHanded_of_change (C := Try.checked) own started (by kernel_rfl) Try.func6
    (ChangeSpec.witness6 (enc := enc) (C := Try.checked) false ⟨#[], #[.agg (Array.replicate 32 (.int .u8 0) ++ #[.int .u64 0]), .agg (Array.replicate 9 (.int .u64 0) ++ #[.bool false])], []⟩ 8 (by kernel_rfl) (by kernel_rfl) (by kernel_rfl) (by kernel_rfl)) ?_
  intro W base args ds gs before hval0 hW hcnd _
  have hval : ∀ (j : Nat) t v, Try.f6.params[j]? = some t → args[j]? = some v → Value.okWide Try.prog W .any base t v := hval0
  have hW' := hW
  obtain ⟨p, q, hA0, hV, rfl, hfz, hnd⟩ := hW
  have hA : DataW.TrodAll enc Try.prog W 0 (fun _ => true) true Try.f6.params.toList args.toList ds p := hA0
  rw [Try.params6] at hA hval
  obtain ⟨v0, vs0, d0, ds0, p0, q0, hargs, rfl, rfl, h0, r0⟩ := trodAll_cons hA
  obtain ⟨v1, vs1, d1, ds1, p1, q1, rfl, rfl, rfl, h1, r1⟩ := trodAll_cons r0
  obtain ⟨rfl, rfl, rfl⟩ := trodAll_nil r1
  obtain rfl : args = #[v0, v1] := by cases args; simp_all
  obtain ⟨rfl, rfl⟩ := trodVars_none hV
  have k0 := h0
  have lt0 : ∀ x ∈ p0, x.block < W.heap.size := by obtain ⟨m, hm⟩ := k0; exact DataW.trod_lt m _ _ _ hm
  obtain ⟨xs0, rfl⟩ := PC.okWide_str Try.underlying26 (hval 0 26 v0 rfl rfl)
  obtain ⟨V0, n0, rfl, hl0, hn0⟩ : ∃ V n, xs0 = (PC.rpL V n).toArray ∧ V.length = 32 ∧ n < 18446744073709551616 := by obtain ⟨fuel, hf⟩ := h0; obtain ⟨V, n, e, h1, h2⟩ := PC.open_rp hf; exact ⟨V, n, by rw [← Array.toList_inj]; exact e, h1, h2⟩
  have k1 := h1
  have lt1 : ∀ x ∈ p1, x.block < W.heap.size := by obtain ⟨m, hm⟩ := k1; exact DataW.trod_lt m _ _ _ hm
  obtain ⟨xs1, rfl⟩ := PC.okWide_str Try.underlying38 (hval 1 38 v1 rfl rfl)
  obtain ⟨pc1, rs1, r1b, rfl, hr1, hp1, hx1⟩ : ∃ pc rs r, xs1 = (PC.rcL pc rs r).toArray ∧ rs.length = 8 ∧ pc < 18446744073709551616 ∧ ∀ x ∈ rs, x < 18446744073709551616 := by obtain ⟨fuel, hf⟩ := h1; obtain ⟨pc, rs, r, e, h1, h2, h3⟩ := PC.open_rc hf; exact ⟨pc, rs, r, by rw [← Array.toList_inj]; exact e, h1, h2, h3⟩
  clear hA0 hval0
  refine (walk V0 n0 pc1 rs1 r1b W hl0 hn0 hr1 hp1 hx1).mono fun e W' ⟨he, bel⟩ => ?_
  subst he
  exact ⟨_, rfl, _, _, _, [], _, [], hW', trodAll_mk1 (shut_bool Try.underlying4 _), (trodAll_cons_mk (Below.trod laidOut (by kernel_rfl) (of_decide_eq_true (by kernel_rfl)) k0 bel lt0) (trodAll_cons_mk (Below.trod laidOut (by kernel_rfl) (of_decide_eq_true (by kernel_rfl)) k1 bel lt1) trodAll_mk0)), rfl, bel.frame _, fun h => by cases h⟩

theorem over : Rows.paramsBackRow.holds Try.pinned (OpenSpec.ofChange Rows.paramsBackSpec) :=
  OpenClaim.holds_of_wide 6 Try.f6 rfl rfl rfl rfl rfl rfl rfl ⟨rfl, rfl, rfl, rfl, rfl⟩ rfl rfl rfl rfl rfl (by kernel_rfl) Try.func6 (by kernel_rfl)
    (of_decide_eq_true (by kernel_rfl)) (by unfold Func.isWrapper; first | (rw [if_pos (by decide +kernel)]; kernel_rfl) | (rw [if_neg (by decide +kernel)]; exact ⟨rfl, rfl⟩))
    (fun os started H enc _ => lifted os started H enc)

end Go.Proofs.Ytabnmhmlcoakkaa.paramsBack
namespace Go.Proofs.Ytabnmhmlcoakkaa
theorem paramsBack_holds : Rows.ParamsBackSaid := paramsBack.over
#print axioms paramsBack_holds
end Go.Proofs.Ytabnmhmlcoakkaa
