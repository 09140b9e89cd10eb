/- ParamsBounds: the statement's function (a closed sentence) answers true. No condition. -/
import Derived.Test.YtabnmhmlcoakkaaPI
import Derived.WalkKit
import Derived.ProofKit
import Derived.OpenShut
import Derived.Carry
set_option linter.unusedVariables false
set_option linter.unusedSimpArgs false
namespace Go.Proofs.Ytabnmhmlcoakkaa.PC
open Go.RowKit

theorem build_g {ops : Array Oper} {rest : List Oper} {o : Oper} {a : Act} {Q : Exit → Act → World → Prop} {w : World} (hw : Region.wanted o (yielded ops a.tmps) = true) (t : TypeId) (parts : Array (Nat × Operand)) (ho : o.op = .build t parts) (vals : Array (Nat × Value)) (v : Value) (hp : (parts.map fun (i, x) => (i, a.eval x)) = vals)
    (hr : (Instr.build t vals).run Try.prog w = .ok v w) (h : wpList Try.prog ops Q rest (a.put o.dst v) w) : wpList Try.prog ops Q (o :: rest) a w := by
  refine wpList_step fun K hK => ?_
  rw [if_pos hw]
  unfold Oper.wp
  rw [exec_build a.eval o t parts vals v w ho hp hr]
  exact hK _ _ h
theorem build_k3 (n : Nat) (w : World) : (Instr.build 38 #[(0, .int .u64 (n : Int))]).run Try.prog w = .ok (.agg (rcL n Z8 false).toArray) w := by kernel_rfl
theorem cbL_80 (pc : Nat) (rs : List Nat) (r : Bool) (h : rs.length = 8) : (cbL pc rs r)[80]? = some (if r then 1 else 0) := by
  have h0 := cb0_len pc rs 8 (by omega)
  unfold cbL
  rw [pd_get _ _ (by rw [cbP_len _ _ _ h]; decide)]
  unfold cbP
  rw [List.getElem?_append_right (by omega), h0]
  rfl
theorem cErr_2 (G : List UInt8) (h : G[80]? = some 2) : cErr G = 4 := by
  unfold cErr
  cases hc : isC G with
  | false => rfl
  | true =>
    unfold isC at hc
    rw [Bool.and_eq_true, beq_iff_eq] at hc
    rw [← hc.2, cbL_80 _ _ _ (gS_len G)] at h
    cases hb : gB G <;> rw [hb] at h <;> exact absurd h (by decide)
theorem may_at (n : Nat) (b : Bool) (hn : n < 18446744073709551616) (hb : mayR n = b) : ∃ A : Array Value, Hid (∀ W, (Instr.build 26 #[(1, .int .u64 (n : Int))]).run Try.prog W = .ok (.agg A) W) ∧ ∀ W, Calls Try.prog 9 #[.agg A] W fun e w' => e = .returned (.bool b) ∧ Below W.heap.size W w' :=
  ⟨_, fun W => build_k2 n W, fun W => by rw [← hb]; exact pmayR_any Z32 n W z32_len hn⟩
theorem rec_at (n : Nat) (hn : n < 18446744073709551616) (hm : mayC n = true) : ∃ (A : Array Value) (KL : List Value), Hid (∀ W, (Instr.build 38 #[(0, .int .u64 (n : Int))]).run Try.prog W = .ok (.agg A) W) ∧ KL.length = 128 ∧ KL.toArray.all (·.oneCell') = true ∧ ∀ W, Calls Try.prog 14 #[.agg A] W fun e w' => e = .returned (.tuple #[.agg KL.toArray, .int .i64 0]) ∧ Below W.heap.size W w' :=
  ⟨_, (cbL n Z8 false).map B8, fun W => build_k3 n W, by rw [List.length_map]; exact cbL_len _ _ _ z8_len, B8_onea _, fun W => cb_ok n Z8 false W z8_len hn (fun x hx => by rw [List.eq_of_mem_replicate hx]; decide) hm⟩
theorem rec_no (n : Nat) (hm : mayC n = false) : ∃ (A : Array Value), Hid (∀ W, (Instr.build 38 #[(0, .int .u64 (n : Int))]).run Try.prog W = .ok (.agg A) W) ∧ ∀ W, Calls Try.prog 14 #[.agg A] W fun e w' => e = .returned (.tuple #[.agg (Z128.map B8).toArray, .int .i64 2]) ∧ Below W.heap.size W w' :=
  ⟨_, fun W => build_k3 n W, fun W => cb_bad n Z8 false W z8_len hm⟩
/-- The first granule: as it is made, and with its byte 80 turned. -/
theorem rec_two : ∃ (KL SL : List Value) (u : Value) (CL : List Value), (∀ W, Calls Try.prog 14 #[.agg (rcL 0 Z8 false).toArray] W fun e w' => e = .returned (.tuple #[.agg KL.toArray, .int .i64 0]) ∧ Below W.heap.size W w') ∧ KL.length = 128 ∧ KL.toArray.all (·.oneCell') = true ∧ KL[80]? = some u ∧ KL.set 80 (.int .u8 2) = SL ∧ SL.length = 128 ∧ CL.length = 10 ∧ CL.toArray.all (·.oneCell') = true ∧ ∀ W, Calls Try.prog 20 #[.agg SL.toArray] W fun e w' => e = .returned (.tuple #[.agg CL.toArray, .int .i64 4]) ∧ Below W.heap.size W w' := by
  have hl1 := cbL_len 0 Z8 false z8_len
  refine ⟨(cbL 0 Z8 false).map B8, ((cbL 0 Z8 false).set 80 2).map B8, B8 0, cRes ((cbL 0 Z8 false).set 80 2), fun W => cb_ok 0 Z8 false W z8_len (by decide) (fun x hx => by rw [List.eq_of_mem_replicate hx]; decide) rfl, by rw [List.length_map]; exact hl1, B8_onea _, by rw [List.getElem?_map, cbL_80 _ _ _ z8_len]; rfl, by rw [List.map_set]; rfl, by rw [List.length_map, List.length_set]; exact hl1, cRes_len _, onea (cRes_one _), fun W => ?_⟩
  rw [← cErr_2 ((cbL 0 Z8 false).set 80 2) (by rw [List.getElem?_set_self (by rw [hl1]; decide)])]
  exact rec_any _ W (by rw [List.length_set]; exact hl1)
set_option maxHeartbeats 2000000 in
set_option maxRecDepth 100000 in
theorem bounds_walk (w : World) : Calls Try.prog 7 #[] w fun e w' => e = .returned (.bool true) ∧ Below w.heap.size w w' := by
  obtain ⟨B1, HM1, hm1⟩ := may_at 516096 true (by decide) (by decide)
  obtain ⟨B2, HM2, hm2⟩ := may_at 516224 false (by decide) (by decide)
  obtain ⟨B3, HM3, hm3⟩ := may_at 9223372036854775808 false (by decide) (by decide)
  obtain ⟨B4, HM4, hm4⟩ := may_at 64 false (by decide) (by decide)
  obtain ⟨A1, HL, HBH, hhl, hh1, hc3⟩ := rec_at 18446744073709551608 (by decide) (by decide)
  obtain ⟨A2, HBI, hc4⟩ := rec_no 4 (by decide)
  obtain ⟨KL, SL, u, CL, hc1, hkl, hk1, hu, hsl, hsll, hcl, hcl1, hc2⟩ := rec_two
  have HM1' : Hid (∀ W, (Instr.build 26 #[(1, .int .u64 516096)]).run Try.prog W = .ok (.agg B1) W) := HM1.out
  clear HM1
  have HM2' : Hid (∀ W, (Instr.build 26 #[(1, .int .u64 516224)]).run Try.prog W = .ok (.agg B2) W) := HM2.out
  clear HM2
  have HM3' : Hid (∀ W, (Instr.build 26 #[(1, .int .u64 9223372036854775808)]).run Try.prog W = .ok (.agg B3) W) := HM3.out
  clear HM3
  have HM4' : Hid (∀ W, (Instr.build 26 #[(1, .int .u64 64)]).run Try.prog W = .ok (.agg B4) W) := HM4.out
  clear HM4
  have HBH' : Hid (∀ W, (Instr.build 38 #[(0, .int .u64 18446744073709551608)]).run Try.prog W = .ok (.agg A1) W) := HBH.out
  clear HBH
  have HBI' : Hid (∀ W, (Instr.build 38 #[(0, .int .u64 4)]).run Try.prog W = .ok (.agg A2) W) := HBI.out
  clear HBI
  have HHA : Hid _ := info128a HL.toArray (by simpa using hhl)
  have HH1 : Hid (HL.toArray.all (·.oneCell') = true) := hh1
  have HKA : Hid _ := info128a KL.toArray (by simpa using hkl)
  have HK1 : Hid (KL.toArray.all (·.oneCell') = true) := hk1
  have HSI : Hid _ := info128 SL hsll
  have HSL : Hid _ := hsl
  have HCA : Hid _ := info10a CL.toArray (by simpa using hcl)
  have HC1 : Hid (CL.toArray.all (·.oneCell') = true) := hcl1
  have hzc := fun W => zero_rc W
  obtain ⟨CZ, hCZ⟩ : ∃ L, L = rcL 0 Z8 false := ⟨_, rfl⟩
  rw [← hCZ] at hzc
  have HCL : Hid (CZ.length = 10) := by show _ = _; rw [hCZ]; exact rcL_len _ _ _ z8_len
  have HBC : Hid (∀ W, (Instr.build 38 #[]).run Try.prog W = .ok (.agg CZ.toArray) W) := fun W => by rw [hCZ]; exact build_rc W
  have HCZ : Hid _ := hCZ
  clear hCZ
  rw [← HCZ.out] at hc1
  have HCS : Hid (CZ.toArray.size = CL.toArray.size) := by show _ = _; simp [HCL.out, hcl]
  have hzg := fun W => zero_gr W
  obtain ⟨ZL, hZL⟩ : ∃ L, L = Z128.map B8 := ⟨_, rfl⟩
  rw [← hZL] at hzg
  have HGL : Hid (ZL.length = 128) := by show _ = _; rw [hZL, List.length_map, z128_len]
  have HZL : Hid _ := hZL
  clear hZL
  have HG1 : Hid (ZL.toArray.all (·.oneCell') = true) := by show _ = _; rw [HZL.out]; exact B8_onea _
  have HGA : Hid _ := info128a ZL.toArray (by simpa using HGL.out)
  have HKS : Hid (ZL.toArray.size = KL.toArray.size) := by show _ = _; simp [HGL.out, hkl]
  have HHS : Hid (ZL.toArray.size = HL.toArray.size) := by show _ = _; simp [HGL.out, hhl]
  rw [← HZL.out] at hc4
  have hnum := fun e W => num_any e W
  have hkn := fun W => known_any W
  have HU : Hid _ := hu
  clear HZL hkl hcl hsl hsll hhl hu hh1 hk1 hcl1 HCZ
  go_enter Try.func7, Try.ntmps7
  go_wp2_with (refine wpList_build rfl 38 #[] rfl #[] (.agg CZ.toArray) (by simp) (HBC.out _) ?_)
  refine Calls.mono (hc1 _) ?_
  rintro e w1 ⟨rfl, hb1⟩
  have HN1 : Hid _ := heap_alloc_new w1 (.cells ZL.toArray 28 (0, 0))
  have hw1 := setRow_heap _ _ _ KL.toArray _ _ HN1.out
  have hb2 := below_new w1 (.cells ZL.toArray 28 (0, 0)) KL.toArray
  have hcu := cell_of_row _ _ 80 _ _ _ hw1
  rw [List.getElem?_toArray, HU.out] at hcu
  have hfu := frozen_of_row _ _ 80 _ _ hw1
  have HW2 : Hid (BX w1 28 SL (((w1.alloc (.cells ZL.toArray 28 (0, 0))).setRow w1.heap.size KL.toArray).setCell ⟨w1.heap.size, 80, none⟩ (.int .u8 2))) := ⟨hb2.setCell (p := ⟨w1.heap.size, 80, none⟩) (by show w1.heap.size ≤ w1.heap.size; omega) _, by rw [← HSL.out, ← List.setIfInBounds_toArray]; exact heap_setCell_same _ _ 80 _ _ _ hw1⟩
  have HBW : Hid _ := hb1
  have HG2 : Hid _ := rangeAt_row HW2.out.gr
  clear hb1 hb2 hc1 hw1
  go_wp2_with (first
    | (refine wpList_store_row rfl 28 _ _ rfl w1.heap.size KL.toArray rfl rfl 28 ZL.toArray HN1.out HKA.out HKS.out HK1.out ?_)
    | (refine wpList_load_mid rfl 28 _ rfl w1.heap.size 0 rfl SL _ HG2.out Try.underlying28 rfl HSI.out ?_))
  refine Calls.mono (hc2 _) ?_
  rintro e w2 ⟨rfl, hb2⟩
  have HN2 : Hid _ := heap_alloc_new w2 (.cells CZ.toArray 38 (0, 0))
  have HB2 : Hid _ := (HW2.out.bel.trans (hb2.mono HW2.out.bel.size)).trans ((below_new w2 (.cells CZ.toArray 38 (0, 0)) CL.toArray).mono (HW2.out.bel.trans (hb2.mono HW2.out.bel.size)).size)
  clear hb2 HW2 HG2 HN1 hcu hfu hc2
  go_wp2_with (first
    | (refine wpList_store_row rfl 38 _ _ rfl w2.heap.size CL.toArray rfl rfl 38 CZ.toArray HN2.out HCA.out HCS.out HC1.out ?_)
    | (refine wpList_build rfl 38 #[(0, .const (.int .u64 18446744073709551608))] rfl #[(0, .int .u64 18446744073709551608)] (.agg A1) (by simp; first | done | rfl) (HBH'.out _) ?_))
  refine Calls.mono (hc3 _) ?_
  rintro e w3 ⟨rfl, hb3⟩
  have HN3 : Hid _ := heap_alloc_new w3 (.cells ZL.toArray 28 (0, 0))
  have HB3 : Hid _ := (HB2.out.trans (hb3.mono HB2.out.size)).trans ((below_new w3 (.cells ZL.toArray 28 (0, 0)) HL.toArray).mono (HB2.out.trans (hb3.mono HB2.out.size)).size)
  clear hb3 HB2 HN2 hc3
  go_wp2_with (first
    | (refine wpList_store_row rfl 28 _ _ rfl w3.heap.size HL.toArray rfl rfl 28 ZL.toArray HN3.out HHA.out HHS.out HH1.out ?_)
    | (refine wpList_build rfl 38 #[(0, .const (.int .u64 4))] rfl #[(0, .int .u64 4)] (.agg A2) (by simp; first | done | rfl) (HBI'.out _) ?_))
  refine Calls.mono (hc4 _) ?_
  rintro e w4 ⟨rfl, hb4⟩
  have HN4 : Hid _ := heap_alloc_new w4 (.cells ZL.toArray 28 (0, 0))
  have HB4 : Hid _ := (HB3.out.trans (hb4.mono HB3.out.size)).trans ((below_new w4 (.cells ZL.toArray 28 (0, 0)) ZL.toArray).mono (HB3.out.trans (hb4.mono HB3.out.size)).size)
  clear hb4 HB3 HN3 hc4
  go_wp2_with (first
    | (refine wpList_store_row rfl 28 _ _ rfl w4.heap.size ZL.toArray rfl rfl 28 ZL.toArray HN4.out HGA.out rfl HG1.out ?_)
    | (refine wpList_build rfl 26 #[(1, .tmp 31)] rfl #[(1, .int .u64 516096)] (.agg B1) (by simp; first | done | rfl) (HM1'.out _) ?_))
  refine Calls.mono (hm1 _) ?_
  rintro e w5 ⟨rfl, hb5⟩
  have HB5 : Hid _ := HB4.out.trans (hb5.mono HB4.out.size)
  clear hb5 HB4 HN4 hm1
  go_wp2_with (refine build_g (by rfl) 26 #[(1, .tmp 36)] rfl #[(1, .int .u64 516224)] (.agg B2) (by simp; first | done | rfl) (HM2'.out _) ?_)
  refine Calls.mono (hm2 _) ?_
  rintro e w6 ⟨rfl, hb6⟩
  have HB6 : Hid _ := HB5.out.trans (hb6.mono HB5.out.size)
  clear hb6 HB5 hm2
  go_wp2_with (refine build_g (by rfl) 26 #[(1, .const (.int .u64 9223372036854775808))] rfl #[(1, .int .u64 9223372036854775808)] (.agg B3) (by simp; first | done | rfl) (HM3'.out _) ?_)
  refine Calls.mono (hm3 _) ?_
  rintro e w7 ⟨rfl, hb7⟩
  have HB7 : Hid _ := HB6.out.trans (hb7.mono HB6.out.size)
  clear hb7 HB6 hm3
  go_wp2_with (refine build_g (by rfl) 26 #[(1, .const (.int .u64 64))] rfl #[(1, .int .u64 64)] (.agg B4) (by simp; first | done | rfl) (HM4'.out _) ?_)
  refine Calls.mono (hm4 _) ?_
  rintro e w8 ⟨rfl, hb8⟩
  have HB8 : Hid _ := HB7.out.trans (hb8.mono HB7.out.size)
  clear hb8 HB7 hm4
  go_wp2_with (go_at_call 11; refine Calls.mono (hnum _ _) ?_; rintro e w9 ⟨rfl, rfl⟩)
  refine Calls.mono (hkn _) ?_
  rintro e w9 ⟨rfl, hb9⟩
  have HB9 : Hid _ := HB8.out.trans (hb9.mono HB8.out.size)
  clear hb9 HB8
  go_wp2
  go_ret
  exact ⟨rfl, HBW.out.trans (HB9.out.mono HBW.out.size)⟩
end Go.Proofs.Ytabnmhmlcoakkaa.PC
namespace Go.Proofs.Ytabnmhmlcoakkaa.paramsBounds
open Go.ChangeShapes Go.WideShapes Go.ChangeAt Go.RowKit

theorem own : ownKnob Try.prog.godebug = none := by kernel_rfl
theorem laidOut : laidOutB Try.prog = true := by kernel_rfl
theorem walk (w : World) : Calls Try.prog 7 #[] w fun e w' => e = .returned (.bool true) ∧ Below w.heap.size w w' := PC.bounds_walk w
set_option maxRecDepth 100000 in
theorem lifted (os : Os) (started : os.Started) (H : Type) (enc : TypeId × Value → H) :
    ReturnsInHanded {} Try.checked os 7 .any (Rows.paramsBoundsSpec.pre6 enc Try.prog Try.f7 Rows.paramsBoundsRow.domain false) (Rows.paramsBoundsSpec.post enc Try.prog Try.f7 false true false false) := by
  refine returnsInHanded_of_change (C := Try.checked) own started (by kernel_rfl) Try.func7
    (ChangeSpec.witness6 (enc := enc) (C := Try.checked) false ⟨#[], #[], []⟩ 8 (by kernel_rfl) (by kernel_rfl) (by kernel_rfl) (by kernel_rfl)) ?_
  intro W base args ds gs before hval0 hW hcnd _
  have hval : ∀ (j : Nat) t v, Try.f7.params[j]? = some t → args[j]? = some v → Value.okWide Try.prog W .any base t v := hval0
  have hW' := hW
  obtain ⟨p, q, hA0, hV, rfl, hfz, hnd⟩ := hW
  have hA : DataW.TrodAll enc Try.prog W 0 (fun _ => true) true Try.f7.params.toList args.toList ds p := hA0
  rw [Try.params7] at hA hval
  obtain ⟨hargs, rfl, rfl⟩ := trodAll_nil hA
  obtain rfl : args = #[] := by cases args; simp_all
  obtain ⟨rfl, rfl⟩ := trodVars_none hV
  clear hA0 hval0
  refine (walk  W ).mono fun e W' ⟨he, bel⟩ => ?_
  subst he
  exact ⟨_, rfl, _, _, _, [], _, [], hW', trodAll_mk1 (shut_bool Try.underlying4 _), trodAll_mk0, rfl, bel.frame _, fun h => by cases h⟩

theorem over : Rows.paramsBoundsRow.holds Try.pinned (OpenSpec.ofChange Rows.paramsBoundsSpec) :=
  OpenClaim.holds_of_wide 7 Try.f7 rfl rfl rfl rfl rfl rfl rfl ⟨rfl, rfl, rfl, rfl, rfl⟩ rfl rfl rfl rfl rfl (by kernel_rfl) Try.func7 (by kernel_rfl)
    (of_decide_eq_true (by kernel_rfl)) (by unfold Func.isWrapper; first | (rw [if_pos (by decide +kernel)]; kernel_rfl) | (rw [if_neg (by decide +kernel)]; exact ⟨rfl, rfl⟩))
    (fun os started H enc _ => lifted os started H enc)

end Go.Proofs.Ytabnmhmlcoakkaa.paramsBounds
namespace Go.Proofs.Ytabnmhmlcoakkaa
theorem paramsBounds_holds : Rows.ParamsBoundsSaid := paramsBounds.over
#print axioms paramsBounds_holds
end Go.Proofs.Ytabnmhmlcoakkaa
