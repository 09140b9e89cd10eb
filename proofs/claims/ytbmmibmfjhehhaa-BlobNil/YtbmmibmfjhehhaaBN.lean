/- BlobNil: the statement's function answers true. It is closed: no condition. -/
import Derived.Test.YtbmmibmfjhehhaaBJ
import Derived.Test.YtbmmibmfjhehhaaBM
import Derived.Test.YtbmmibmfjhehhaaRows
import Derived.WalkKit
import Derived.ChangeOld
import Derived.ProofKit
import Derived.OpenShut
import Derived.Carry
set_option linter.unusedVariables false
set_option linter.unusedSimpArgs false
namespace Go.Proofs.Ytbmmibmfjhehhaa.blobNil
open Go.ChangeShapes Go.WideShapes Go.ChangeAt Go.RowKit Go.Proofs.Ytbmmibmfjhehhaa.BC
def OZ : List Value := .bool false :: ((List.replicate 32 (0 : UInt8)).map B8 ++ [.slice none 0 0, .slice none 0 0, .map none])
theorem build_oz (w : World) : (Instr.build 50 #[]).run Try.prog w = .ok (.agg OZ.toArray) w := by kernel_rfl
theorem hds_nil (w : World) : R5.HDs w (.slice none 0 0) [] := ⟨fun d hd => (List.not_mem_nil hd).elim, none, 0, rfl, fun i hi => by simp at hi⟩
theorem noOracle_zero (og : Nat) (w : World) (hc : w.cell? ⟨og, 35, none⟩ = some (.map none)) : Calls Try.prog 39 #[.pointer (some ⟨og, 0, none⟩)] w fun e w' => e = .returned (.bool true) ∧ Below w.heap.size w w' :=
  noOracle_of _ 1 w (R5.pask_none _ _ w (fun X hX => R5.none_zero og X ((hX.cell (block_lt hc)).trans hc)))
set_option maxHeartbeats 4000000 in
set_option maxRecDepth 100000 in
theorem walk (w : World) : Calls Try.prog 5 #[] w fun e w' => e = .returned (.bool true) ∧ Below w.heap.size w w' := by
  have hz := fun W => R5.zero_dig W
  have hzg := fun W => zero_gr W
  have HNM : Hid (∀ n W, Calls Try.prog 15 #[.int .i64 n] W fun x w' => x = .returned (.int .i64 n) ∧ W = w') := num_any
  have HKN : Hid (∀ W, Calls Try.prog 8 #[] W fun e w' => e = .returned (.bool true) ∧ Below W.heap.size W w') := known_any
  obtain ⟨GL, hGL⟩ : ∃ L, L = Z128.map B8 := ⟨_, rfl⟩
  obtain ⟨ZL, hZL⟩ : ∃ L, L = Z32.map B8 := ⟨_, rfl⟩
  rw [← hGL] at hzg
  rw [show (List.replicate 32 (0 : UInt8)).map B8 = Z32.map B8 from rfl, ← hZL] at hz
  have HBG : Hid (∀ W : World, (Instr.build 23 #[]).run Try.prog W = .ok (.agg GL.toArray) W) := fun W => by rw [hGL]; exact build_gr W
  have HBD : Hid (∀ W : World, (Instr.build 28 #[]).run Try.prog W = .ok (.agg ZL.toArray) W) := fun W => by rw [hZL]; exact R5.build_dig W
  have HGN : Hid (GL.length = 128) := by show _ = _; rw [hGL]; simp [z128_len]
  have HG1 : Hid (GL.toArray.all (·.oneCell') = true) := by show _ = _; rw [hGL]; exact B8_onea _
  have HZN : Hid (ZL.length = 32) := by show _ = _; rw [hZL]; rfl
  have HZ1 : Hid (ZL.toArray.all (·.oneCell') = true) := by show _ = _; rw [hZL]; exact B8_onea _
  obtain ⟨OL, hOL⟩ : ∃ L, L = OZ := ⟨_, rfl⟩
  have HBO : Hid (∀ W : World, (Instr.build 50 #[]).run Try.prog W = .ok (.agg OL.toArray) W) := fun W => by rw [hOL]; exact build_oz W
  have HO35 : Hid (OL[35]? = some (.map none)) := by rw [hOL]; rfl
  have HEV : Hid (∀ c, R5.errV c = .tuple #[.agg ZL.toArray, .int .i64 c]) := fun c => by rw [hZL]; rfl
  have HOP : Hid (∀ W, Calls Try.prog 12 #[.pointer none, .agg ZL.toArray, .int .i64 500, .int .u64 0, .agg GL.toArray] W fun e w' => e = .returned (.tuple #[.agg GL.toArray, .int .i64 1]) ∧ Below W.heap.size W w') := fun W => by
    rw [hZL, hGL]
    exact open_no none Z32 Z128 500 0 1 W rfl rfl (by decide) (fun X hX => fault_nil 500 0 X)
  have HLZ : Hid (∀ W og, W.cell? ⟨og, 35, none⟩ = some (.map none) → Calls Try.prog 13 #[.pointer (some ⟨og, 0, none⟩), .int .i64 500, .int .u64 0, .agg GL.toArray] W fun e w' => e = .returned (.tuple #[.agg ZL.toArray, .int .i64 1]) ∧ Below W.heap.size W w') := fun W og hc => by
    rw [← HEV.out, hGL]
    exact leaf_no (some ⟨og, 0, none⟩) Z128 500 0 1 W (by decide) (fun X hX => fault_of _ 500 0 true X (noOracle_zero og X ((hX.cell (block_lt hc)).trans hc)))
  have HNN : Hid (∀ W, Calls Try.prog 14 #[.pointer none, .int .i64 500] W fun e w' => e = .returned (.tuple #[.agg ZL.toArray, .int .i64 1]) ∧ Below W.heap.size W w') := fun W => by
    rw [← HEV.out]
    exact none_no none 500 1 W (by decide) (fun X hX => fault_nil 500 0 X)
  have HNW : Hid (∀ W, Calls Try.prog 17 #[.bool true, .agg ZL.toArray, .slice none 0 0] W fun e w' => R5.PNew W true Z32 [] e w') := fun W => by rw [hZL]; exact R5.pnew_any true Z32 none 0 0 [] W rfl (fun _ => rfl) (by simp) (hds_nil W)
  have HLK : Hid (∀ (X Y : World) og mb dv, X.heap.size ≤ Y.heap.size → R5.PO X.heap.size og mb (fun k => k = og ∨ k = mb) Y ⟨true, Z32, [], []⟩ dv (.slice none 0 0) → Calls Try.prog 13 #[.pointer (some ⟨og, 0, none⟩), .int .i64 127, .int .u64 4294967296, .agg GL.toArray] Y fun e w' => ∃ A : List UInt8, A.length = 32 ∧ e = .returned (.tuple #[.agg (A.map B8).toArray, .int .i64 0]) ∧ Below X.heap.size Y w' ∧ w'.cell? ⟨og, 35, none⟩ = some (.map (some mb))) := fun X Y og mb dv hXY hp => by
    rw [hGL]
    refine (leaf_ok X.heap.size og mb _ Z128 127 4294967296 _ dv _ _ Y z128_len (by decide) (by decide) hXY (by decide) hp rfl).mono ?_
    rintro e w' ⟨rfl, hf, ov', hp2⟩
    exact ⟨_, nxP_len hp _, rfl, ⟨hf.os, hf.tape, hf.output, hf.size, fun k hk => hf.block k (by omega) (fun h => by have := hp.low k h; omega)⟩, hp2.cells.2.2.2.1⟩
  have HLN : Hid (∀ W og mb, W.cell? ⟨og, 35, none⟩ = some (.map (some mb)) → Calls Try.prog 13 #[.pointer (some ⟨og, 0, none⟩), .int .i64 127, .int .u64 4294967297, .agg GL.toArray] W fun e w' => e = .returned (.tuple #[.agg ZL.toArray, .int .i64 2]) ∧ Below W.heap.size W w') := fun W og mb hc => by
    rw [← HEV.out, hGL]
    exact leaf_no (some ⟨og, 0, none⟩) Z128 127 4294967297 2 W (by decide) (fun X hX => fault_no og mb 127 4294967297 X ((hX.cell (block_lt hc)).trans hc))
  clear hGL hZL hOL HEV
  have HV0 : Hid (RS w [] w) := RS.start w
  go_enter Try.func5, Try.ntmps5
  go_wp2_with (first
    | (refine R5.wpList_build rfl 28 #[] rfl #[] (.agg ZL.toArray) (by simp) (HBD.out _) ?_)
    | (refine R5.wpList_build rfl 23 #[] rfl #[] (.agg GL.toArray) (by simp) (HBG.out _) ?_))
  refine Calls.mono (HOP.out w) ?_
  rintro e X1 ⟨rfl, hb⟩
  have HTX1 : Hid _ := (HV0.out.step hb).alloc X1.heap.size rfl 23 GL
  clear hb HV0
  go_upto_region 2 with (first
    | (refine R5.wpList_store_rowL rfl 23 _ _ rfl X1.heap.size (GL).toArray rfl rfl 23 (GL).toArray (HTX1.out.at 0 rfl) (info128a GL HGN.out) rfl HG1.out ?_; intro X2 e2; have HTX2 : Hid _ := HTX1.out.put 0 rfl (GL); rw [← e2] at HTX2; clear e2))
  have HVX2 : Hid _ := RS.tail HTX2.out
  clear HTX1 HTX2
  go_wp2_with (first
    | (refine R5.wpList_build rfl 50 #[] rfl #[] (.agg OL.toArray) (by simp) (HBO.out _) ?_)
    | (refine R5.wpList_build rfl 23 #[] rfl #[] (.agg GL.toArray) (by simp) (HBG.out _) ?_))
  have HT3 : Hid _ := HVX2.out.alloc X2.heap.size rfl 50 OL
  refine Calls.mono (HLZ.out _ _ (HT3.out.cell 0 rfl 35 HO35.out)) ?_
  have HV3 : Hid _ := RS.tail HT3.out
  clear HVX2 HT3
  generalize X2.alloc (.cells OL.toArray 50 (0, 0)) = X3 at *
  generalize X2.heap.size = n2 at *
  rintro e X4 ⟨rfl, hb⟩
  have HTX4 : Hid _ := (HV3.out.step hb).alloc X4.heap.size rfl 28 ZL
  clear hb HV3
  go_upto_region 3 with (first
    | (refine R5.wpList_store_rowL rfl 28 _ _ rfl X4.heap.size (ZL).toArray rfl rfl 28 (ZL).toArray (HTX4.out.at 0 rfl) (R5.info32a _ (by simpa using HZN.out)) rfl HZ1.out ?_; intro X5 e2; have HTX5 : Hid _ := HTX4.out.put 0 rfl (ZL); rw [← e2] at HTX5; clear e2))
  have HVX5 : Hid _ := RS.tail HTX5.out
  clear HTX4 HTX5
  go_wp2_with fail
  refine Calls.mono (HNN.out X5) ?_
  rintro e X6 ⟨rfl, hb⟩
  have HTX6 : Hid _ := (HVX5.out.step hb).alloc X6.heap.size rfl 28 ZL
  clear hb HVX5
  go_upto_region 4 with (first
    | (refine R5.wpList_store_rowL rfl 28 _ _ rfl X6.heap.size (ZL).toArray rfl rfl 28 (ZL).toArray (HTX6.out.at 0 rfl) (R5.info32a _ (by simpa using HZN.out)) rfl HZ1.out ?_; intro X7 e2; have HTX7 : Hid _ := HTX6.out.put 0 rfl (ZL); rw [← e2] at HTX7; clear e2))
  have HVX7 : Hid _ := RS.tail HTX7.out
  clear HTX6 HTX7
  go_wp2_with (refine R5.wpList_build rfl 28 #[] rfl #[] (.agg ZL.toArray) (by simp) (HBD.out _) ?_)
  refine Calls.mono (HNW.out X7) ?_
  rintro e X8 ⟨og, mb, dv, rfl, hpo, hb8, _⟩
  have hlk := HLK.out X7 X8 og mb dv hb8.size hpo
  have HB8 : Hid (Below w.heap.size w X8) := HVX7.out.bel.trans (hb8.mono HVX7.out.bel.size)
  have HLK2 : Hid (Calls Try.prog 13 #[.pointer (some ⟨og, 0, none⟩), .int .i64 127, .int .u64 4294967296, .agg GL.toArray] X8 fun e w' => ∃ A : List UInt8, A.length = 32 ∧ e = .returned (.tuple #[.agg (A.map B8).toArray, .int .i64 0]) ∧ Below w.heap.size w w' ∧ w'.cell? ⟨og, 35, none⟩ = some (.map (some mb))) := hlk.mono (fun e w' ⟨A, h0, h1, h2, h3⟩ => ⟨A, h0, h1, HB8.out.trans (h2.mono HVX7.out.bel.size), h3⟩)
  clear hpo hb8 hlk HLK HVX7 HNW HB8
  go_wp2_with (refine R5.wpList_build rfl 23 #[] rfl #[] (.agg GL.toArray) (by simp) (HBG.out _) ?_)
  refine Calls.mono HLK2.out ?_
  rintro e X9 ⟨A, hA, rfl, hb9, hc9⟩
  have HAS : Hid ((A.map B8).toArray.size = 32) := by show _ = _; simpa using hA
  have HA1 : Hid _ := B8_onea A
  have HV9 : Hid (RS w [] X9) := ⟨hb9, fun r h => (List.not_mem_nil h).elim, List.nodup_nil, fun r h => (List.not_mem_nil h).elim⟩
  have HTA : Hid _ := HV9.out.alloc X9.heap.size rfl 28 ZL
  have HTB : Hid _ := HTA.out.put 0 rfl (A.map B8)
  have HC : Hid (((X9.alloc (.cells ZL.toArray 28 (0, 0))).setRow X9.heap.size (A.map B8).toArray).cell? ⟨og, 35, none⟩ = some (.map (some mb))) := by
    have hb : Below X9.heap.size X9 ((X9.alloc (.cells ZL.toArray 28 (0, 0))).setRow X9.heap.size (A.map B8).toArray) := below_setRow ((Below.refl _ _).alloc (Nat.le_refl _) _) (Nat.le_refl _) _
    exact (hb.cell (block_lt hc9)).trans hc9
  clear hb9 hc9 HLK2 hA HV9
  generalize A.map B8 = AL at *
  go_upto_region 6 with (refine wpList_store_row rfl 28 _ _ rfl X9.heap.size AL.toArray rfl rfl 28 ZL.toArray (HTA.out.at 0 rfl) (R5.info32a _ HAS.out) (by rw [HAS.out]; simpa using HZN.out) HA1.out ?_)
  have HVB : Hid _ := RS.tail HTB.out
  clear HTA HTB
  generalize (X9.alloc (.cells ZL.toArray 28 (0, 0))).setRow X9.heap.size AL.toArray = X10 at *
  generalize X9.heap.size = n9 at *
  go_wp2_with (refine R5.wpList_build rfl 23 #[] rfl #[] (.agg GL.toArray) (by simp) (HBG.out _) ?_)
  refine Calls.mono (HLN.out X10 og mb HC.out) ?_
  rintro e X11 ⟨rfl, hb⟩
  have HTX11 : Hid _ := (HVB.out.step hb).alloc X11.heap.size rfl 28 ZL
  clear hb HVB
  go_upto_region 7 with (first
    | (refine R5.wpList_store_rowL rfl 28 _ _ rfl X11.heap.size (ZL).toArray rfl rfl 28 (ZL).toArray (HTX11.out.at 0 rfl) (R5.info32a _ (by simpa using HZN.out)) rfl HZ1.out ?_; intro X12 e2; have HTX12 : Hid _ := HTX11.out.put 0 rfl (ZL); rw [← e2] at HTX12; clear e2))
  have HVX12 : Hid _ := RS.tail HTX12.out
  clear HTX11 HTX12
  go_wp2_with fail
  refine Calls.mono (HNM.out 1 X12) ?_
  rintro e W1 ⟨rfl, rfl⟩
  go_wp2_with fail
  refine Calls.mono (HNM.out 1 X12) ?_
  rintro e W1 ⟨rfl, rfl⟩
  go_wp2_with fail
  refine Calls.mono (HNM.out 1 X12) ?_
  rintro e W1 ⟨rfl, rfl⟩
  go_wp2_with fail
  refine Calls.mono (HNM.out 0 X12) ?_
  rintro e W1 ⟨rfl, rfl⟩
  go_wp2_with fail
  refine Calls.mono (HNM.out 2 X12) ?_
  rintro e W1 ⟨rfl, rfl⟩
  go_wp2_with fail
  refine Calls.mono (HKN.out X12) ?_
  rintro e X13 ⟨rfl, hb⟩
  have HEND : Hid _ := (HVX12.out.step hb).bel
  clear hb
  go_wp2
  go_ret
  exact ⟨rfl, HEND.out⟩
set_option maxRecDepth 100000 in
theorem lifted (os : Os) (started : os.Started) (H : Type) (enc : TypeId × Value → H) :
    ReturnsInHanded {} Try.checked os 5 .any (Rows.blobNilSpec.pre6 enc Try.prog Try.f5 Rows.blobNilRow.domain false) (Rows.blobNilSpec.post enc Try.prog Try.f5 false true false false) := by
  refine returnsInHanded_of_change (C := Try.checked) own started (by kernel_rfl) Try.func5
    (ChangeSpec.witness6 (enc := enc) (C := Try.checked) false ⟨#[], #[], []⟩ 8 (by kernel_rfl) (by kernel_rfl) (by kernel_rfl) (by kernel_rfl)) ?_
  intro W base args ds gs before hval0 hW hcnd _
  have hval : ∀ (j : Nat) t v, Try.f5.params[j]? = some t → args[j]? = some v → Value.okWide Try.prog W .any base t v := hval0
  have hW' := hW
  obtain ⟨p, q, hA0, hV, rfl, hfz, hnd⟩ := hW
  have hA : DataW.TrodAll enc Try.prog W 0 (fun _ => true) true Try.f5.params.toList args.toList ds p := hA0
  rw [Try.params5] at hA hval
  obtain ⟨hargs, rfl, rfl⟩ := trodAll_nil hA
  obtain rfl : args = #[] := by cases args; simp_all
  obtain ⟨rfl, rfl⟩ := trodVars_none hV
  clear hA0 hval0
  refine (walk  W ).mono fun e W' ⟨he, bel⟩ => ?_
  subst he
  exact ⟨_, rfl, _, _, _, [], _, [], hW', trodAll_mk1 (shut_bool Try.underlying4 _), trodAll_mk0, rfl, bel.frame _, fun h => by cases h⟩

theorem over : Rows.blobNilRow.holds Try.pinned (OpenSpec.ofChange Rows.blobNilSpec) :=
  OpenClaim.holds_of_wide 5 Try.f5 rfl rfl rfl rfl rfl rfl rfl ⟨rfl, rfl, rfl, rfl, rfl⟩ rfl rfl rfl rfl rfl (by kernel_rfl) Try.func5 (by kernel_rfl)
    (of_decide_eq_true (by kernel_rfl)) (by unfold Func.isWrapper; first | (rw [if_pos (by decide +kernel)]; kernel_rfl) | (rw [if_neg (by decide +kernel)]; exact ⟨rfl, rfl⟩))
    (fun os started H enc _ => lifted os started H enc)

end Go.Proofs.Ytbmmibmfjhehhaa.blobNil
namespace Go.Proofs.Ytbmmibmfjhehhaa
theorem blobNil_holds : Rows.BlobNilSaid := blobNil.over
#print axioms blobNil_holds
end Go.Proofs.Ytbmmibmfjhehhaa
