/- TreeNil: the statement's function answers true. It is closed: no condition. -/
import Derived.Test.YtnijjoankahddaaDI
import Derived.Test.YtnijjoankahddaaRows
import Derived.WalkKit
import Derived.ChangeOld
import Derived.ProofKit
import Derived.OpenShut
import Derived.Carry
set_option linter.unusedVariables false
set_option linter.unusedSimpArgs false
namespace Go.Proofs.Ytnijjoankahddaa.treeNil
open Go.ChangeShapes Go.WideShapes Go.ChangeAt Go.RowKit Go.Proofs.Ytnijjoankahddaa.DC
theorem own : ownKnob Try.prog.godebug = none := by kernel_rfl
theorem laidOut : laidOutB Try.prog = true := by kernel_rfl
set_option maxHeartbeats 2000000 in
set_option maxRecDepth 100000 in
theorem walk (w : World) : Calls Try.prog 4 #[] w fun e w' => e = .returned (.bool true) ∧ Below w.heap.size w w' := by
  have HK : Hid (∀ W, Calls Try.prog 6 #[] W fun e w' => e = .returned (.bool true) ∧ Below W.heap.size W w') := known_any
  have HNM : Hid (∀ n W, Calls Try.prog 13 #[.int .i64 n] W fun x w' => x = .returned (.int .i64 n) ∧ W = w') := num_any
  have hz := fun W => R5.zero_dig W
  obtain ⟨ZL, hZL⟩ : ∃ L, L = (List.replicate 32 (0 : UInt8)).map B8 := ⟨_, rfl⟩
  rw [← hZL] at hz
  have hzl : ZL.length = 32 := by rw [hZL]; simp
  have HZS : Hid (ZL.toArray.size = 32) := by show _ = _; rw [hZL]; simp
  have HZ1 : Hid (ZL.toArray.all (·.oneCell') = true) := by show _ = _; rw [hZL]; exact R5.B8_onea _
  have HBD : Hid (∀ W : World, (Instr.build 23 #[]).run Try.prog W = .ok (.agg ZL.toArray) W) := fun W => by rw [hZL]; exact R5.build_dig W
  have HEV : Hid (R5.errV 1 = .tuple #[.agg ZL.toArray, .int .i64 1]) := by rw [hZL]; rfl
  have HNW : Hid (∀ W, Calls Try.prog 17 #[.bool true, .agg ZL.toArray, .slice none 0 0] W fun e w' => R5.PNew W true Z32 [] e w') := fun W => by rw [hZL]; exact R5.pnew_any true Z32 none 0 0 [] W (by simp [Z32]) (fun _ => rfl) (by simp) (hds_nil W)
  have HMN : Hid (∀ W, Calls Try.prog 18 #[.int .i64 64] W fun e w' => MC.NewEnd W 64 e w') := fun W => MC.new_ok 64 W (by decide) (by decide)
  have HA : Hid (∀ W, Calls Try.prog 12 #[.pointer none, .int .i64 500] W fun e w' => e = .returned (.tuple #[.agg ZL.toArray, .int .i64 1]) ∧ Below W.heap.size W w') := fun W => by rw [← HEV.out]; exact none_nil 500 W
  have HB : Hid (∀ W, Calls Try.prog 19 #[.pointer none, .int .i64 500, .agg ZL.toArray, .agg ZL.toArray] W fun e w' => e = .returned (.tuple #[.agg ZL.toArray, .int .i64 1]) ∧ Below W.heap.size W w') := fun W => by rw [← HEV.out]; exact node_nil 500 _ _ W
  have HC : Hid (∀ mv W, Calls Try.prog 11 #[.pointer none, mv, .int .u64 1] W fun e w' => e = .returned (.tuple #[.agg ZL.toArray, .int .i64 1]) ∧ Below W.heap.size W w') := fun mv W => by rw [← HEV.out]; exact lay_no _ _ 1 1 W (by decide) (fun X _ => tf_no mv 1 X)
  have HD : Hid (∀ og mb mm W, There og mb mm 64 W → Calls Try.prog 11 #[.pointer (some ⟨og, 0, none⟩), .pointer none, .int .u64 1] W fun e w' => e = .returned (.tuple #[.agg ZL.toArray, .int .i64 1]) ∧ Below W.heap.size W w') := fun og mb mm W h => by rw [← HEV.out]; exact lay_no _ _ 1 1 W (by decide) (fun X hX => tf_nm og mb 1 X (h.step hX).o)
  have HE : Hid (∀ og mb mm W, There og mb mm 64 W → Calls Try.prog 20 #[.pointer (some ⟨og, 0, none⟩), .pointer none, .int .u64 1, .int .i64 500, .agg ZL.toArray] W fun e w' => e = .returned (.tuple #[.agg ZL.toArray, .int .i64 1]) ∧ Below W.heap.size W w') := fun og mb mm W h => by rw [← HEV.out]; exact up_no _ _ 1 500 1 _ W (by decide) (fun X hX => wf_no _ _ 1 500 1 X (by decide) (tf_nm og mb 1 X (h.step hX).o))
  have HF : Hid (∀ mv W, Calls Try.prog 14 #[.pointer none, mv, .int .u64 1, .int .i64 500, .agg ZL.toArray] W fun e w' => e = .returned (.tuple #[.agg ZL.toArray, .int .i64 1]) ∧ Below W.heap.size W w') := fun mv W => by rw [← HEV.out]; exact set_no _ _ 1 500 1 _ W (by decide) (fun X _ => wf_no _ _ 1 500 1 X (by decide) (tf_no mv 1 X))
  have HG : Hid (∀ W, Calls Try.prog 15 #[.pointer none, .pointer none, .int .u64 0, .agg ZL.toArray, .int .i64 0, .agg ZL.toArray] W fun e w' => e = .returned (.tuple #[.bool false, .int .i64 1]) ∧ Below W.heap.size W w') := fun W => check_no _ _ 0 0 1 ZL ZL W hzl (by decide) (fun X _ => up_no _ _ 0 0 1 _ X (by decide) (fun Y _ => wf_no _ _ 0 0 1 Y (by decide) (tf_no _ 0 Y)))
  have HH : Hid (∀ W, Calls Try.prog 21 #[.pointer none, .int .u64 0, .int .i64 2] W fun e w' => e = .returned (.tuple #[.agg ZL.toArray, .int .i64 1]) ∧ Below W.heap.size W w') := fun W => by rw [← HEV.out]; exact at_nil 0 2 W
  have HWN : Hid (∀ W, Calls Try.prog 22 #[.pointer none, .int .u64 0] W fun e w' => e = .returned (.bool false) ∧ w' = W) := fun W => within_of _ 0 0 W (by decide) (by decide) (gr_nil W)
  have HW0 : Hid (∀ og mb mm W, There og mb mm 64 W → Calls Try.prog 22 #[.pointer (some ⟨mm, 0, none⟩), .int .u64 0] W fun e w' => e = .returned (.bool true) ∧ w' = W) := fun og mb mm W h => h.wit 0 (by decide)
  have HW1 : Hid (∀ og mb mm W, There og mb mm 64 W → Calls Try.prog 22 #[.pointer (some ⟨mm, 0, none⟩), .int .u64 128] W fun e w' => e = .returned (.bool false) ∧ w' = W) := fun og mb mm W h => h.wit 128 (by decide)
  have HW2 : Hid (∀ og mb mm W, There og mb mm 64 W → Calls Try.prog 22 #[.pointer (some ⟨mm, 0, none⟩), .int .u64 9223372036854775808] W fun e w' => e = .returned (.bool false) ∧ w' = W) := fun og mb mm W h => h.wit 9223372036854775808 (by decide)
  clear hZL HEV hzl
  go_enter Try.func4, Try.ntmps4
  go_wp2_with (refine R5.wpList_build rfl 23 #[] rfl #[] (.agg ZL.toArray) (by simp) (HBD.out _) ?_)
  refine Calls.mono (HNW.out w) ?_
  rintro e X3 ⟨og, mb, dv, rfl, hpo, hb3, _⟩
  have HPO : Hid (R5.PO w.heap.size og mb (fun k => k = og ∨ k = mb) X3 ⟨true, Z32, [], []⟩ dv (.slice none 0 0)) := hpo
  have HB3 : Hid (Below w.heap.size w X3) := hb3
  clear hpo hb3 HNW
  go_wp2_with fail
  refine Calls.mono (HMN.out X3) ?_
  rintro e X4 ⟨mm, gb, rfl, hpm, hm1, hm2, hb4⟩
  have HTH : Hid (There og mb mm 64 X4) := There.of HPO.out hb4 hpm (by decide) (by decide)
  have HB4 : Hid (Below w.heap.size w X4) := HB3.out.trans (hb4.mono HB3.out.size)
  clear hpm hm1 hm2 hb4 HB3 HPO HMN
  go_wp2_with fail
  refine Calls.mono (HA.out X4) ?_
  rintro e X5 ⟨rfl, hb5⟩
  have hbn : Below (X4).heap.size X4 ((X5.alloc (.cells ZL.toArray 23 (0, 0))).setRow X5.heap.size ZL.toArray) := below_setRow (hb5.alloc hb5.size _) hb5.size _
  have HR : Hid ((X5.alloc (.cells ZL.toArray 23 (0, 0))).heap[X5.heap.size]? = some (.cells ZL.toArray 23 (0, 0))) := heap_alloc_new _ _
  have HTH2 : Hid _ := HTH.out.step hbn
  have HB5 : Hid (Below w.heap.size w _) := HB4.out.trans (hbn.mono HB4.out.size)
  clear hb5 hbn HTH HB4
  go_wp2_with (first | (refine R5.wpList_build rfl 23 #[] rfl #[] (.agg ZL.toArray) (by simp) (HBD.out _) ?_) | (refine wpList_store_row rfl 23 _ _ rfl X5.heap.size ZL.toArray rfl rfl 23 ZL.toArray HR.out (R5.info32a _ HZS.out) rfl HZ1.out ?_))
  clear HR
  generalize (X5.alloc (.cells ZL.toArray 23 (0, 0))).setRow X5.heap.size ZL.toArray = X6 at *
  generalize X5.heap.size = nX6 at *
  have HTH : Hid (There og mb mm 64 X6) := HTH2.out
  have HB4 : Hid (Below w.heap.size w X6) := HB5.out
  clear HTH2 HB5
  refine Calls.mono (HB.out X6) ?_
  rintro e X7 ⟨rfl, hb5⟩
  have hbn : Below (X6).heap.size X6 ((X7.alloc (.cells ZL.toArray 23 (0, 0))).setRow X7.heap.size ZL.toArray) := below_setRow (hb5.alloc hb5.size _) hb5.size _
  have HR : Hid ((X7.alloc (.cells ZL.toArray 23 (0, 0))).heap[X7.heap.size]? = some (.cells ZL.toArray 23 (0, 0))) := heap_alloc_new _ _
  have HTH2 : Hid _ := HTH.out.step hbn
  have HB5 : Hid (Below w.heap.size w _) := HB4.out.trans (hbn.mono HB4.out.size)
  clear hb5 hbn HTH HB4
  go_wp2_with (first | (refine R5.wpList_build rfl 23 #[] rfl #[] (.agg ZL.toArray) (by simp) (HBD.out _) ?_) | (refine wpList_store_row rfl 23 _ _ rfl X7.heap.size ZL.toArray rfl rfl 23 ZL.toArray HR.out (R5.info32a _ HZS.out) rfl HZ1.out ?_))
  clear HR
  generalize (X7.alloc (.cells ZL.toArray 23 (0, 0))).setRow X7.heap.size ZL.toArray = X8 at *
  generalize X7.heap.size = nX8 at *
  have HTH : Hid (There og mb mm 64 X8) := HTH2.out
  have HB4 : Hid (Below w.heap.size w X8) := HB5.out
  clear HTH2 HB5
  refine Calls.mono (HC.out _ X8) ?_
  rintro e X9 ⟨rfl, hb5⟩
  have hbn : Below (X8).heap.size X8 ((X9.alloc (.cells ZL.toArray 23 (0, 0))).setRow X9.heap.size ZL.toArray) := below_setRow (hb5.alloc hb5.size _) hb5.size _
  have HR : Hid ((X9.alloc (.cells ZL.toArray 23 (0, 0))).heap[X9.heap.size]? = some (.cells ZL.toArray 23 (0, 0))) := heap_alloc_new _ _
  have HTH2 : Hid _ := HTH.out.step hbn
  have HB5 : Hid (Below w.heap.size w _) := HB4.out.trans (hbn.mono HB4.out.size)
  clear hb5 hbn HTH HB4
  go_wp2_with (first | (refine R5.wpList_build rfl 23 #[] rfl #[] (.agg ZL.toArray) (by simp) (HBD.out _) ?_) | (refine wpList_store_row rfl 23 _ _ rfl X9.heap.size ZL.toArray rfl rfl 23 ZL.toArray HR.out (R5.info32a _ HZS.out) rfl HZ1.out ?_))
  clear HR
  generalize (X9.alloc (.cells ZL.toArray 23 (0, 0))).setRow X9.heap.size ZL.toArray = XA at *
  generalize X9.heap.size = nXA at *
  have HTH : Hid (There og mb mm 64 XA) := HTH2.out
  have HB4 : Hid (Below w.heap.size w XA) := HB5.out
  clear HTH2 HB5
  refine Calls.mono (HD.out og mb mm XA HTH.out) ?_
  rintro e XB ⟨rfl, hb5⟩
  have hbn : Below (XA).heap.size XA ((XB.alloc (.cells ZL.toArray 23 (0, 0))).setRow XB.heap.size ZL.toArray) := below_setRow (hb5.alloc hb5.size _) hb5.size _
  have HR : Hid ((XB.alloc (.cells ZL.toArray 23 (0, 0))).heap[XB.heap.size]? = some (.cells ZL.toArray 23 (0, 0))) := heap_alloc_new _ _
  have HTH2 : Hid _ := HTH.out.step hbn
  have HB5 : Hid (Below w.heap.size w _) := HB4.out.trans (hbn.mono HB4.out.size)
  clear hb5 hbn HTH HB4
  go_wp2_with (first | (refine R5.wpList_build rfl 23 #[] rfl #[] (.agg ZL.toArray) (by simp) (HBD.out _) ?_) | (refine wpList_store_row rfl 23 _ _ rfl XB.heap.size ZL.toArray rfl rfl 23 ZL.toArray HR.out (R5.info32a _ HZS.out) rfl HZ1.out ?_))
  clear HR
  generalize (XB.alloc (.cells ZL.toArray 23 (0, 0))).setRow XB.heap.size ZL.toArray = XC at *
  generalize XB.heap.size = nXC at *
  have HTH : Hid (There og mb mm 64 XC) := HTH2.out
  have HB4 : Hid (Below w.heap.size w XC) := HB5.out
  clear HTH2 HB5
  refine Calls.mono (HE.out og mb mm XC HTH.out) ?_
  rintro e XD ⟨rfl, hb5⟩
  have hbn : Below (XC).heap.size XC ((XD.alloc (.cells ZL.toArray 23 (0, 0))).setRow XD.heap.size ZL.toArray) := below_setRow (hb5.alloc hb5.size _) hb5.size _
  have HR : Hid ((XD.alloc (.cells ZL.toArray 23 (0, 0))).heap[XD.heap.size]? = some (.cells ZL.toArray 23 (0, 0))) := heap_alloc_new _ _
  have HTH2 : Hid _ := HTH.out.step hbn
  have HB5 : Hid (Below w.heap.size w _) := HB4.out.trans (hbn.mono HB4.out.size)
  clear hb5 hbn HTH HB4
  go_wp2_with (first | (refine R5.wpList_build rfl 23 #[] rfl #[] (.agg ZL.toArray) (by simp) (HBD.out _) ?_) | (refine wpList_store_row rfl 23 _ _ rfl XD.heap.size ZL.toArray rfl rfl 23 ZL.toArray HR.out (R5.info32a _ HZS.out) rfl HZ1.out ?_))
  clear HR
  generalize (XD.alloc (.cells ZL.toArray 23 (0, 0))).setRow XD.heap.size ZL.toArray = XE at *
  generalize XD.heap.size = nXE at *
  have HTH : Hid (There og mb mm 64 XE) := HTH2.out
  have HB4 : Hid (Below w.heap.size w XE) := HB5.out
  clear HTH2 HB5
  refine Calls.mono (HF.out _ XE) ?_
  rintro e XF ⟨rfl, hb5⟩
  have hbn : Below (XE).heap.size XE ((XF.alloc (.cells ZL.toArray 23 (0, 0))).setRow XF.heap.size ZL.toArray) := below_setRow (hb5.alloc hb5.size _) hb5.size _
  have HR : Hid ((XF.alloc (.cells ZL.toArray 23 (0, 0))).heap[XF.heap.size]? = some (.cells ZL.toArray 23 (0, 0))) := heap_alloc_new _ _
  have HTH2 : Hid _ := HTH.out.step hbn
  have HB5 : Hid (Below w.heap.size w _) := HB4.out.trans (hbn.mono HB4.out.size)
  clear hb5 hbn HTH HB4
  go_wp2_with (first | (refine R5.wpList_build rfl 23 #[] rfl #[] (.agg ZL.toArray) (by simp) (HBD.out _) ?_) | (refine wpList_store_row rfl 23 _ _ rfl XF.heap.size ZL.toArray rfl rfl 23 ZL.toArray HR.out (R5.info32a _ HZS.out) rfl HZ1.out ?_))
  clear HR
  generalize (XF.alloc (.cells ZL.toArray 23 (0, 0))).setRow XF.heap.size ZL.toArray = XG at *
  generalize XF.heap.size = nXG at *
  have HTH : Hid (There og mb mm 64 XG) := HTH2.out
  have HB4 : Hid (Below w.heap.size w XG) := HB5.out
  clear HTH2 HB5
  refine Calls.mono (HG.out XG) ?_
  rintro e XH ⟨rfl, hb5⟩
  have HTH2 : Hid (There og mb mm 64 XH) := HTH.out.step hb5
  have HB5 : Hid (Below w.heap.size w XH) := HB4.out.trans (hb5.mono HB4.out.size)
  clear hb5 HTH HB4
  have HTH : Hid (There og mb mm 64 XH) := HTH2.out
  have HB4 : Hid (Below w.heap.size w XH) := HB5.out
  clear HTH2 HB5
  go_wp2_with fail
  refine Calls.mono (HH.out XH) ?_
  rintro e XI ⟨rfl, hb5⟩
  have hbn : Below (XH).heap.size XH ((XI.alloc (.cells ZL.toArray 23 (0, 0))).setRow XI.heap.size ZL.toArray) := below_setRow (hb5.alloc hb5.size _) hb5.size _
  have HR : Hid ((XI.alloc (.cells ZL.toArray 23 (0, 0))).heap[XI.heap.size]? = some (.cells ZL.toArray 23 (0, 0))) := heap_alloc_new _ _
  have HTH2 : Hid _ := HTH.out.step hbn
  have HB5 : Hid (Below w.heap.size w _) := HB4.out.trans (hbn.mono HB4.out.size)
  clear hb5 hbn HTH HB4
  go_wp2_with (first | (refine R5.wpList_build rfl 23 #[] rfl #[] (.agg ZL.toArray) (by simp) (HBD.out _) ?_) | (refine wpList_store_row rfl 23 _ _ rfl XI.heap.size ZL.toArray rfl rfl 23 ZL.toArray HR.out (R5.info32a _ HZS.out) rfl HZ1.out ?_))
  clear HR
  generalize (XI.alloc (.cells ZL.toArray 23 (0, 0))).setRow XI.heap.size ZL.toArray = XJ at *
  generalize XI.heap.size = nXJ at *
  have HTH : Hid (There og mb mm 64 XJ) := HTH2.out
  have HB4 : Hid (Below w.heap.size w XJ) := HB5.out
  clear HTH2 HB5
  refine Calls.mono (HNM.out 1 XJ) ?_
  rintro e W1 ⟨rfl, h1⟩
  rw [← h1]
  clear h1 W1
  go_wp2_with fail
  refine Calls.mono (HNM.out 1 XJ) ?_
  rintro e W1 ⟨rfl, h1⟩
  rw [← h1]
  clear h1 W1
  go_wp2_with fail
  refine Calls.mono (HNM.out 1 XJ) ?_
  rintro e W1 ⟨rfl, h1⟩
  rw [← h1]
  clear h1 W1
  go_wp2_with fail
  refine Calls.mono (HNM.out 1 XJ) ?_
  rintro e W1 ⟨rfl, h1⟩
  rw [← h1]
  clear h1 W1
  go_wp2_with fail
  refine Calls.mono (HNM.out 1 XJ) ?_
  rintro e W1 ⟨rfl, h1⟩
  rw [← h1]
  clear h1 W1
  go_wp2_with fail
  refine Calls.mono (HNM.out 1 XJ) ?_
  rintro e W1 ⟨rfl, h1⟩
  rw [← h1]
  clear h1 W1
  go_wp2_with fail
  refine Calls.mono (HNM.out 1 XJ) ?_
  rintro e W1 ⟨rfl, h1⟩
  rw [← h1]
  clear h1 W1
  go_wp2_with fail
  refine Calls.mono (HNM.out 1 XJ) ?_
  rintro e W1 ⟨rfl, h1⟩
  rw [← h1]
  clear h1 W1
  go_wp2_with fail
  refine Calls.mono (HWN.out XJ) ?_
  rintro e W1 ⟨rfl, h1⟩
  rw [h1]
  clear h1 W1
  go_wp2_with fail
  refine Calls.mono (HW0.out og mb mm XJ HTH.out) ?_
  rintro e W1 ⟨rfl, h1⟩
  rw [h1]
  clear h1 W1
  go_wp2_with fail
  refine Calls.mono (HW1.out og mb mm XJ HTH.out) ?_
  rintro e W1 ⟨rfl, h1⟩
  rw [h1]
  clear h1 W1
  go_wp2_with fail
  refine Calls.mono (HW2.out og mb mm XJ HTH.out) ?_
  rintro e W1 ⟨rfl, h1⟩
  rw [h1]
  clear h1 W1
  go_wp2_with fail
  refine Calls.mono (HK.out XJ) ?_
  rintro e W1 ⟨rfl, hb⟩
  have HEND : Hid (Below w.heap.size w W1) := HB4.out.trans (hb.mono HB4.out.size)
  clear hb
  go_wp2
  go_ret
  exact ⟨rfl, HEND.out⟩
set_option maxRecDepth 100000 in
theorem lifted (os : Os) (started : os.Started) (H : Type) (enc : TypeId × Value → H) :
    ReturnsInHanded {} Try.checked os 4 .any (Rows.treeNilSpec.pre6 enc Try.prog Try.f4 Rows.treeNilRow.domain false) (Rows.treeNilSpec.post enc Try.prog Try.f4 false true false false) := by
  refine returnsInHanded_of_change (C := Try.checked) own started (by kernel_rfl) Try.func4
    (ChangeSpec.witness6 (enc := enc) (C := Try.checked) false ⟨#[], #[], []⟩ 8 (by kernel_rfl) (by kernel_rfl) (by kernel_rfl) (by kernel_rfl)) ?_
  intro W base args ds gs before hval0 hW hcnd _
  have hval : ∀ (j : Nat) t v, Try.f4.params[j]? = some t → args[j]? = some v → Value.okWide Try.prog W .any base t v := hval0
  have hW' := hW
  obtain ⟨p, q, hA0, hV, rfl, hfz, hnd⟩ := hW
  have hA : DataW.TrodAll enc Try.prog W 0 (fun _ => true) true Try.f4.params.toList args.toList ds p := hA0
  rw [Try.params4] at hA hval
  obtain ⟨hargs, rfl, rfl⟩ := trodAll_nil hA
  obtain rfl : args = #[] := by cases args; simp_all
  obtain ⟨rfl, rfl⟩ := trodVars_none hV
  clear hA0 hval0
  refine (walk  W ).mono fun e W' ⟨he, bel⟩ => ?_
  subst he
  exact ⟨_, rfl, _, _, _, [], _, [], hW', trodAll_mk1 (shut_bool Try.underlying4 _), trodAll_mk0, rfl, bel.frame _, fun h => by cases h⟩

theorem over : Rows.treeNilRow.holds Try.pinned (OpenSpec.ofChange Rows.treeNilSpec) :=
  OpenClaim.holds_of_wide 4 Try.f4 rfl rfl rfl rfl rfl rfl rfl ⟨rfl, rfl, rfl, rfl, rfl⟩ rfl rfl rfl rfl rfl (by kernel_rfl) Try.func4 (by kernel_rfl)
    (of_decide_eq_true (by kernel_rfl)) (by unfold Func.isWrapper; first | (rw [if_pos (by decide +kernel)]; kernel_rfl) | (rw [if_neg (by decide +kernel)]; exact ⟨rfl, rfl⟩))
    (fun os started H enc _ => lifted os started H enc)

end Go.Proofs.Ytnijjoankahddaa.treeNil
namespace Go.Proofs.Ytnijjoankahddaa
theorem treeNil_holds : Rows.TreeNilSaid := treeNil.over
#print axioms treeNil_holds
end Go.Proofs.Ytnijjoankahddaa
