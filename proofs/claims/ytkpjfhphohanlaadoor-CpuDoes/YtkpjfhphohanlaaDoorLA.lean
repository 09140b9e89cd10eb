/- CpuGives: for any state, any number, any word, the tables of the program's as its text lays them, the statement's function answers true. -/
import Derived.Test.YtkpjfhphohanlaaDoorJZ
set_option linter.unusedVariables false
set_option linter.unusedSimpArgs false
namespace Go.Proofs.YtkpjfhphohanlaaDoor.JC
open Go.RowKit
theorem eq_ints_self {P : Program} (w : World) (d : Nat) (t e : TypeId) (m : Nat) (q : IntKind) (ht : P.underlying t = some (.array m e)) (he : P.underlying e = some (.int q)) (hsz : ∀ w, (sizeOf e).run P w = .ok 1 w) (F : List Value) (hF : F.length = m)
    (hp : ∀ v ∈ F, ∃ z, v = .int q z) : (Op.equalIn (d + 3) t (.agg F.toArray) (.agg F.toArray)).run P w = .ok true w := by
  rw [Op.equalIn]
  simp only [Sem.run_bind, run_underlying ht, Result.andThen_ok, hsz, Std.Legacy.Range.forIn_eq_forIn_range', Std.Legacy.Range.size, Nat.sub_zero, Nat.add_sub_cancel, Nat.div_one]
  have hl : ∀ i ∈ List.range' 0 m 1, i < m := fun i hi => by simpa using (List.mem_range'_1.1 hi).2
  generalize List.range' 0 m 1 = l at hl ⊢
  induction l with
  | nil => simp
  | cons i l ih =>
    have hi : i < m := hl i (by simp)
    have hi' : i < F.length := by omega
    obtain ⟨z, hz⟩ := hp F[i] (List.getElem_mem hi')
    have px : (Go.part e F.toArray (i * 1)).run P w = .ok (.int q z) w := by
      simp [Go.part, isAgg, run_underlying he, List.getElem?_eq_getElem hi', hz]
    have pe : (Op.equalIn (d + 2) e (.int q z) (.int q z)).run P w = .ok true w := by
      rw [run_equalIn_int w (d + 1) e q q z z he]; simp
    simp only [List.forIn_cons, Sem.run_bind, px, pe, Result.andThen_ok]
    simp only [Bool.not_true, Bool.false_eq_true, if_false, Sem.run_pure, Result.andThen_ok, Bool.true_and]
    exact ih fun j hj => hl j (by simp [hj])
theorem size_u64 (w : World) : (sizeOf 25).run Tryd.prog w = .ok 1 w := Tryd.sizeOf25 w
theorem eq_cpu (w : World) (s : St) (h : swf s) : (Op.equalIn 10000 45 (.agg (sL s).toArray) (.agg (sL s).toArray)).run Tryd.prog w = .ok true w := by
  have h8 : (sL s)[8]? = some (.int .u64 s.pc) := sL_pc h
  have htk : List.take 8 (sL s) = s.rs.map U := by unfold sL; rw [List.take_left' (by simp [h.len])]
  have he : (Op.equalIn 9999 43 (.agg (s.rs.map U).toArray) (.agg (s.rs.map U).toArray)).run Tryd.prog w = .ok true w := eq_ints_self (P := Tryd.prog) w 9996 43 25 8 .u64 Tryd.underlying43 Tryd.underlying25 size_u64 (s.rs.map U) (by simpa using h.len) (fun v hv => by obtain ⟨x, _, rfl⟩ := List.mem_map.1 hv; exact ⟨_, rfl⟩)
  rw [run_equalIn_struct w 9999 _ _ _ (by kernel_rfl) (by kernel_rfl)]
  generalize sL s = PL at *
  generalize s.rs.map U = RL at *
  go_simp
end Go.Proofs.YtkpjfhphohanlaaDoor.JC
namespace Go.Proofs.YtkpjfhphohanlaaDoor.cpuGives
open Go.ChangeShapes Go.WideShapes Go.ChangeAt Go.RowKit
open Go.Proofs.YtkpjfhphohanlaaDoor.JC
open Go.Proofs.YtkpjfhphohanlaaDoor.EC (row_lt heap_at rangeAt_below rangeAt_row ret_bool ret_i64 beq_int)

set_option maxHeartbeats 2000000 in
set_option maxRecDepth 100000 in
theorem walk (s : St) (x y : Int) (w : World) (hs : swf s) (hx : (Lit.int .i64 x).wf = true) (hy : (Lit.int .u64 y).wf = true) (hG : GV w) : Calls Tryd.prog 6 #[.agg (sL s).toArray, .int .i64 x, .int .u64 y] w fun e w' => e = .returned (.bool true) ∧ Below w.heap.size w w' := by
  have hGi := fun W => give_any s hs x y W
  have hzC := fun W => zero9 W
  obtain ⟨ZL, hZL⟩ : ∃ L, L = Z9 := ⟨_, rfl⟩
  rw [← hZL] at hzC
  have HZN : Hid (ZL.length = 9) := by rw [hZL]; rfl
  have HLN : Hid _ := sL_len hs
  have HK : Hid (∀ W, GV W → Calls Tryd.prog 13 #[] W fun e w' => e = .returned (.bool true) ∧ Below W.heap.size W w') := fun W hW => known_any W hW
  by_cases hr : 0 ≤ x ∧ x < 8
  · rw [if_pos hr, if_pos hr] at hGi
    obtain ⟨n, rfl⟩ : ∃ n : Nat, x = n := ⟨x.toNat, by omega⟩
    have e0 : ((n : Int)).toNat = n := by simp
    rw [e0] at hGi
    have hn : n < 8 := by omega
    have hni : ((n : Int) < 8) := by omega
    have hng : ¬ ((7 : Int) < (n : Int)) := by omega
    have hnl : ¬ ((n : Int) < 0) := by omega
    have HSR := sL_setreg hs n hn y
    have hwf2 : swf (⟨s.rs.set n y, s.pc⟩ : St) := hs.set n y (JC.bounds_u64 hy)
    have hq := fun W => eq_cpu W _ hwf2
    have HN2 : Hid _ := sL_len hwf2
    have H21 : Hid _ := sL_one (⟨s.rs.set n y, s.pc⟩ : St)
    generalize sL ⟨s.rs.set n y, s.pc⟩ = CL2 at *
    generalize sL s = CL at *
    have hset : CL.set n (.int .u64 y) = CL2 := HSR
    have HCR : Hid ((w.alloc (.cells CL.toArray 45 (0, 0))).heap[w.heap.size]? = some (.cells CL.toArray 45 (0, 0))) := heap_alloc_new _ _
    have HBC : Hid (Below w.heap.size w (w.alloc (.cells CL.toArray 45 (0, 0)))) := (Below.refl _ _).alloc (Nat.le_refl _) _
    have HG : Hid _ := hG
    have HST : Hid _ := hset
    clear hr hs hx hy hZL HSR hG hset e0
    go_enter Tryd.func6, Tryd.ntmps6
    go_wp2_with (refine wpList_load_mid rfl 45 _ rfl w.heap.size 0 rfl CL _ (rangeAt_row HCR.out) Tryd.underlying45 rfl (info9 CL HLN.out) ?_)
    refine Calls.mono (hGi _) ?_
    rintro e Y ⟨rfl, hbY⟩
    obtain ⟨p, r⟩ := put_row Y ZL CL2 45
    have HQ : Hid ((Y.alloc (.cells ZL.toArray 45 (0, 0))).heap[Y.heap.size]? = some (.cells ZL.toArray 45 (0, 0))) := heap_alloc_new _ _
    have hYc : Y.heap[w.heap.size]? = some (.cells CL.toArray 45 (0, 0)) := (hbY.block _ (row_lt HCR.out)).trans HCR.out
    have hlt := row_lt hYc
    have hbT := HBC.out.trans (hbY.mono HBC.out.size)
    have HB : Hid (Below w.heap.size w ((Y.alloc (.cells ZL.toArray 45 (0, 0))).setRow Y.heap.size CL2.toArray)) := hbT.trans (p.mono hbT.size)
    have HA : Hid (((Y.alloc (.cells ZL.toArray 45 (0, 0))).setRow Y.heap.size CL2.toArray).heap[Y.heap.size]? = some (.cells CL2.toArray 45 (0, 0))) := r
    have HC : Hid (((Y.alloc (.cells ZL.toArray 45 (0, 0))).setRow Y.heap.size CL2.toArray).heap[w.heap.size]? = some (.cells CL.toArray 45 (0, 0))) := (p.block _ hlt).trans hYc
    have HNE : Hid (Y.heap.size ≠ w.heap.size) := by show _ ≠ _; omega
    clear p r hYc hlt hbT hbY hGi HCR HBC
    have hcv := fields5 _ _ _ _ _ HC.out n
    have hnl2 : n < CL.toArray.size := by rw [List.size_toArray, HLN.out]; omega
    rw [Array.getElem?_eq_getElem hnl2] at hcv
    have hfr := frozen_of_row _ _ n _ _ HC.out
    generalize CL.toArray[n] = ov at *
    have HA2 : Hid ((((Y.alloc (.cells ZL.toArray 45 (0, 0))).setRow Y.heap.size CL2.toArray).setCell ⟨w.heap.size, n, none⟩ (.int .u64 y)).heap[Y.heap.size]? = some (.cells CL2.toArray 45 (0, 0))) := (heap_setCell_other _ _ _ _ (by show Y.heap.size ≠ w.heap.size; exact HNE.out)).trans HA.out
    have HC2 : Hid ((((Y.alloc (.cells ZL.toArray 45 (0, 0))).setRow Y.heap.size CL2.toArray).setCell ⟨w.heap.size, n, none⟩ (.int .u64 y)).heap[w.heap.size]? = some (.cells CL2.toArray 45 (0, 0))) := by
      have e := heap_setCell_same _ _ n _ _ (.int .u64 y) HC.out
      rw [List.setIfInBounds_toArray, HST.out] at e
      exact e
    have HB2 : Hid (Below w.heap.size w (((Y.alloc (.cells ZL.toArray 45 (0, 0))).setRow Y.heap.size CL2.toArray).setCell ⟨w.heap.size, n, none⟩ (.int .u64 y))) := HB.out.setCell (p := ⟨w.heap.size, n, none⟩) (Nat.le_refl _) _
    clear HA HC HB
    have hd1 : decide ((n : Int) < 0) = false := decide_eq_false (by omega)
    have hd2 : decide ((7 : Int) < (n : Int)) = false := decide_eq_false (by omega)
    go_wp2_with (first
      | (refine wpList_store_row rfl 45 _ _ rfl Y.heap.size CL2.toArray rfl rfl 45 ZL.toArray HQ.out (info9a CL2 HN2.out) (by simp [HZN.out, HN2.out]) H21.out ?_)
      | (refine wpList_load_mid rfl 45 _ rfl Y.heap.size 0 rfl CL2 _ (rangeAt_row HA2.out) Tryd.underlying45 rfl (info9 CL2 HN2.out) ?_)
      | (refine wpList_load_mid rfl 45 _ rfl w.heap.size 0 rfl CL2 _ (rangeAt_row HC2.out) Tryd.underlying45 rfl (info9 CL2 HN2.out) ?_)
      | (go_at_call 12; refine Calls.mono (num_any _ _) ?_; rintro e wq ⟨rfl, rfl⟩)
      | (go_at_call 13; refine Calls.mono (HK.out _ (HG.out.below HB2.out)) ?_; rintro e V ⟨rfl, hbV⟩))
    go_ret
    exact ⟨rfl, HB2.out.trans (hbV.mono HB2.out.size)⟩
  · rw [if_neg hr, if_neg hr] at hGi
    have hZ9 : Z9 = sL sZ := rfl
    have hq := fun W => eqC W
    have HbC : Hid _ := fun W => bC W
    have H21 : Hid _ := sL_one sZ
    rw [← hZ9, ← hZL] at hq HbC H21
    rw [← hZL] at hGi
    generalize sL s = CL at *
    have HCR : Hid ((w.alloc (.cells CL.toArray 45 (0, 0))).heap[w.heap.size]? = some (.cells CL.toArray 45 (0, 0))) := heap_alloc_new _ _
    have HBC : Hid (Below w.heap.size w (w.alloc (.cells CL.toArray 45 (0, 0)))) := (Below.refl _ _).alloc (Nat.le_refl _) _
    have HG : Hid _ := hG
    have hd : (decide (x < 0) || decide (7 < x)) = true := by simp; omega
    clear hr hs hx hy hZL hG hZ9
    go_enter Tryd.func6, Tryd.ntmps6
    go_wp2_with (refine wpList_load_mid rfl 45 _ rfl w.heap.size 0 rfl CL _ (rangeAt_row HCR.out) Tryd.underlying45 rfl (info9 CL HLN.out) ?_)
    refine Calls.mono (hGi _) ?_
    rintro e Y ⟨rfl, hbY⟩
    obtain ⟨p, r⟩ := put_row Y ZL ZL 45
    have HQ : Hid ((Y.alloc (.cells ZL.toArray 45 (0, 0))).heap[Y.heap.size]? = some (.cells ZL.toArray 45 (0, 0))) := heap_alloc_new _ _
    have hbT := HBC.out.trans (hbY.mono HBC.out.size)
    have HB : Hid (Below w.heap.size w ((Y.alloc (.cells ZL.toArray 45 (0, 0))).setRow Y.heap.size ZL.toArray)) := hbT.trans (p.mono hbT.size)
    have HA : Hid (((Y.alloc (.cells ZL.toArray 45 (0, 0))).setRow Y.heap.size ZL.toArray).heap[Y.heap.size]? = some (.cells ZL.toArray 45 (0, 0))) := r
    clear p r hbT hbY hGi HCR HBC
    by_cases hx0 : x < 0
    · have hd1 : decide (x < 0) = true := decide_eq_true hx0
      go_wp2_with (first
        | (refine wpList_store_row rfl 45 _ _ rfl Y.heap.size ZL.toArray rfl rfl 45 ZL.toArray HQ.out (info9a ZL HZN.out) rfl H21.out ?_)
        | (refine wpList_load_mid rfl 45 _ rfl Y.heap.size 0 rfl ZL _ (rangeAt_row HA.out) Tryd.underlying45 rfl (info9 ZL HZN.out) ?_)
        | (refine build_g (by rfl) 45 #[] rfl #[] (.agg ZL.toArray) (by simp [Act.eval]) (HbC.out _) ?_)
        | (go_at_call 12; refine Calls.mono (num_any _ _) ?_; rintro e wq ⟨rfl, rfl⟩)
        | (go_at_call 13; refine Calls.mono (HK.out _ (HG.out.below HB.out)) ?_; rintro e V ⟨rfl, hbV⟩))
      go_ret
      exact ⟨rfl, HB.out.trans (hbV.mono HB.out.size)⟩
    · have hd1 : decide (x < 0) = false := decide_eq_false hx0
      have hx7 : (7 : Int) < x := by simpa [hd1] using hd
      have hd2 : decide ((7 : Int) < x) = true := decide_eq_true hx7
      go_wp2_with (first
        | (refine wpList_store_row rfl 45 _ _ rfl Y.heap.size ZL.toArray rfl rfl 45 ZL.toArray HQ.out (info9a ZL HZN.out) rfl H21.out ?_)
        | (refine wpList_load_mid rfl 45 _ rfl Y.heap.size 0 rfl ZL _ (rangeAt_row HA.out) Tryd.underlying45 rfl (info9 ZL HZN.out) ?_)
        | (refine build_g (by rfl) 45 #[] rfl #[] (.agg ZL.toArray) (by simp [Act.eval]) (HbC.out _) ?_)
        | (go_at_call 12; refine Calls.mono (num_any _ _) ?_; rintro e wq ⟨rfl, rfl⟩)
        | (go_at_call 13; refine Calls.mono (HK.out _ (HG.out.below HB.out)) ?_; rintro e V ⟨rfl, hbV⟩))
      go_ret
      exact ⟨rfl, HB.out.trans (hbV.mono HB.out.size)⟩
set_option maxRecDepth 100000 in
theorem lifted (os : Os) (started : os.Started) (H : Type) (enc : TypeId × Value → H) :
    ReturnsInHanded {} Tryd.checked os 6 .any (fun w args => (Rows.cpuGivesSpec.pre enc Tryd.prog Tryd.f6 [] false w args ∧ laidMetH Tryd.prog Rows.cpuGivesRow.laid w) ∧ sizedMet enc Tryd.prog Tryd.f6 (OpenSpec.ofChange Rows.cpuGivesSpec) false w args) (Rows.cpuGivesSpec.post enc Tryd.prog Tryd.f6 false true false false) := by
  refine returnsInHanded_of_change_and (C := Tryd.checked) (X := fun w _ => laidMetH Tryd.prog Rows.cpuGivesRow.laid w) (fun _ _ _ hh h => h.of_heap hh) own started (by kernel_rfl) Tryd.func6
    (ChangeSpec.witness_shaped (enc := enc) (C := Tryd.checked) (os := os) (X := fun w _ => laidMetH Tryd.prog Rows.cpuGivesRow.laid w) false (World.doorLaid Tryd.prog 400 os) #[.agg (Array.replicate 9 (.int .u64 0)), .int .i64 0, .int .u64 0] 8 rfl (World.shaped_of_RefB (by kernel_rfl) (by kernel_rfl)) (by kernel_rfl) (by kernel_rfl) (by kernel_rfl) (door_met os _)) ?_
  intro W base args ds gs before hval0 hW hcnd _ hL _
  have hval : ∀ (j : Nat) t v, Tryd.f6.params[j]? = some t → args[j]? = some v → Value.okWide Tryd.prog W .any base t v := hval0
  have hW' := hW
  obtain ⟨p, q, hA0, hV, rfl, hfz, hnd⟩ := hW
  have hA : DataW.TrodAll enc Tryd.prog W 0 (fun _ => true) true Tryd.f6.params.toList args.toList ds p := hA0
  rw [Tryd.params6] at hA hval
  obtain ⟨v0, vs0, d0, ds0, p0, q0, hargs, rfl, rfl, h0, r0⟩ := trodAll_cons hA
  obtain ⟨v1, vs1, d1, ds1, p1, q1, rfl, rfl, rfl, h1, r1⟩ := trodAll_cons r0
  obtain ⟨v2, vs2, d2, ds2, p2, q2, rfl, rfl, rfl, h2, r2⟩ := trodAll_cons r1
  obtain ⟨rfl, rfl, rfl⟩ := trodAll_nil r2
  obtain rfl : args = #[v0, v1, v2] := by cases args; simp_all
  obtain ⟨rfl, rfl⟩ := trodVars_none hV
  have k0 := h0
  have lt0 : ∀ x ∈ p0, x.block < W.heap.size := by obtain ⟨m, hm⟩ := k0; exact DataW.trod_lt m _ _ _ hm
  obtain ⟨xs0, rfl⟩ := JC.okWide_str Tryd.underlying45 (hval 0 45 v0 rfl rfl)
  obtain ⟨s0, rfl, hl0⟩ : ∃ s : JC.St, xs0 = (JC.sL s).toArray ∧ JC.swf s := by obtain ⟨fuel, hf⟩ := h0; obtain ⟨s, e, h1⟩ := JC.open_cpu hf; exact ⟨s, by rw [← Array.toList_inj]; exact e, h1⟩
  obtain ⟨n1, rfl, rfl, rfl, w1⟩ := open_int Tryd.underlying3 (hval 1 3 v1 rfl rfl) h1
  obtain ⟨n2, rfl, rfl, rfl, w2⟩ := open_int Tryd.underlying25 (hval 2 25 v2 rfl rfl) h2
  clear hA0 hval0
  refine (walk s0 n1 n2 W hl0 w1 w2 (of_laid hL)).mono fun e W' ⟨he, bel⟩ => ?_
  subst he
  exact ⟨_, rfl, _, _, _, [], _, [], hW', trodAll_mk1 (shut_bool Tryd.underlying4 _), (trodAll_cons_mk (Below.trod laidOut (by kernel_rfl) (of_decide_eq_true (by kernel_rfl)) k0 bel lt0) (trodAll_cons_mk (shut_int Tryd.underlying3 w1) (trodAll_cons_mk (shut_int Tryd.underlying25 w2) trodAll_mk0))), rfl, bel.frame _, fun h => by cases h⟩

theorem over : Rows.cpuGivesRow.holds Tryd.pinned (OpenSpec.ofChange Rows.cpuGivesSpec) :=
  OpenClaim.holds_of_wide 6 Tryd.f6 rfl rfl rfl rfl rfl rfl rfl ⟨rfl, rfl, rfl, rfl, rfl⟩ rfl rfl rfl rfl rfl (by kernel_rfl) Tryd.func6 (by kernel_rfl)
    (of_decide_eq_true (by kernel_rfl)) (by unfold Func.isWrapper; first | (rw [if_pos (by decide +kernel)]; kernel_rfl) | (rw [if_neg (by decide +kernel)]; exact ⟨rfl, rfl⟩))
    (fun os started H enc _ => lifted os started H enc)

theorem card : Rows.CpuGivesCardSaid :=
  Claim7.holds_tied_plain_at .later [] Rows.cpuGivesCard.laidKinds true Rows.cpuGivesCard.stood.harness Rows.cpuGivesCard.stood.looks
    over (fun _ h => by cases h) (by kernel_rfl) (fun _ h => by cases h) cpuGives_row_tie rfl ⟨rfl, rfl⟩ (by kernel_rfl) rfl
    (fun f fn hf hfn => by
      obtain rfl : f = 6 := Option.some.inj ((show Tryd.prog.funcNamed Rows.cpuGivesRow.func = some 6 by kernel_rfl).symm.trans hf) |>.symm
      obtain rfl : fn = Tryd.f6 := (Option.some.inj (Tryd.func6.symm.trans hfn)).symm
      exact ⟨by kernel_rfl, fun j t ht => by
        rw [Tryd.params6] at ht
        have hm : t ∈ [45, 3, 25] := by simpa using Array.mem_of_getElem? ht
        have hall : ([45, 3, 25].all fun u => !Tryd.prog.wantsStandIn u) = true := by kernel_rfl
        exact (show Tryd.prog.wantsStandIn t = false by simpa using List.all_eq_true.1 hall t hm)⟩)
    (by kernel_rfl)
end Go.Proofs.YtkpjfhphohanlaaDoor.cpuGives
namespace Go.Proofs.YtkpjfhphohanlaaDoor
theorem cpuGives_holds : Rows.CpuGivesCardSaid := cpuGives.card
#print axioms cpuGives_holds
end Go.Proofs.YtkpjfhphohanlaaDoor
