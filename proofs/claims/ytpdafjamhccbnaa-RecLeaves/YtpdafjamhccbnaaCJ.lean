/- RecLeaves: for any vCPU, any state, whatever is told, the statement's function answers true. No condition. -/
import Derived.Test.YtpdafjamhccbnaaCG
import Derived.Carry
set_option linter.unusedVariables false
set_option linter.unusedSimpArgs false
namespace Go.Proofs.Ytpdafjamhccbnaa.recLeaves
open Go.ChangeShapes Go.WideShapes Go.ChangeAt Go.RowKit
open Go.Proofs.Ytpdafjamhccbnaa.VC

set_option maxHeartbeats 2000000 in
set_option maxRecDepth 100000 in
theorem walk_bad (r : Rc) (rs : List Int) (pc : Int) (o : Ot) (w : World) (hr : rok r) (hc : cok rs pc) (ho : ook o) (hm : lvOk o = false) : Calls Try.prog 4 #[.agg (rL r).toArray, .agg (cL rs pc).toArray, .agg (oL o).toArray] w fun e w' => e = .returned (.bool true) ∧ Below w.heap.size w w' := by
  have HK : Hid (∀ W, Calls Try.prog 10 #[] W fun e w' => e = .returned (.bool true) ∧ Below W.heap.size W w') := fun W => known_any W
  have h8 := hr.c.len
  have h82 := hc.len
  have h4 := ho.n.len
  have hz := zero13
  obtain ⟨ZL, hZL⟩ : ∃ L, L = rL r0 := ⟨_, rfl⟩
  have HZN : Hid (ZL.length = 13) := by rw [hZL]; rfl
  have HZ1 : Hid (ZL.toArray.all (·.oneCell') = true) := by show _ = _; rw [hZL]; exact rL_one r0
  have HB0 : Hid _ := bld13
  rw [← hZL] at hz HB0
  have HE := fun W => leave_any r rs pc o h8 h82 h4 ho.re W
  rw [hm] at HE
  simp only [if_true, Bool.false_eq_true, if_false] at HE
  have HRL : Hid _ := rL_len h8
  have HCL : Hid _ := cL_len (pc := pc) h82
  have HC1 : Hid _ := cL_one rs pc
  have HOL : Hid _ := oL_len h4
  have HO0 : Hid _ := oL_re o
  have HO7 : Hid _ := oL_ran h4
  have HR : Hid _ := (((RS.start w).alloc _ rfl 28 (rL r)).alloc (w.heap.size + 1) (by simp) 25 (cL rs pc)).alloc (w.heap.size + 1 + 1) (by simp) 40 (oL o)
  have heq := fun W => eq_rec W r0 rfl
  rw [← hZL] at heq HE
  unfold lvOk isRe at hm
  generalize rL r = RL at *
  generalize cL rs pc = CL at *
  generalize oL o = OL at *
  generalize o.re = re at *
  generalize o.ran = ran at *
  clear hZL h8 h82 h4 hr hc ho
  by_cases h1 : re < 1
  · have hd1 : decide (re < 1) = true := decide_eq_true h1
    clear hm h1
    go_enter Try.func4, Try.ntmps4
    go_wp2_with (first
      | (refine wpList_load_mid rfl 28 (.tmp 3) rfl w.heap.size 0 rfl RL _ (rangeAt_row (HR.out.at 2 rfl)) Try.underlying28 rfl (info13 RL HRL.out) ?_)
      | (refine wpList_load_mid rfl 25 (.tmp 4) rfl (w.heap.size + 1) 0 rfl CL _ (rangeAt_row (HR.out.at 1 rfl)) Try.underlying25 rfl (info9 CL HCL.out) ?_)
      | (refine wpList_load_mid rfl 40 (.tmp 5) rfl (w.heap.size + 1 + 1) 0 rfl OL _ (rangeAt_row (HR.out.at 0 rfl)) Try.underlying40 rfl (info8o OL HOL.out) ?_))
    refine Calls.mono (HE _) ?_
    rintro e W1 ⟨rfl, b1⟩
    have R1 := (HR.out.step b1).alloc _ rfl 28 ZL
    have HR1 : Hid _ := R1
    have HR2 : Hid _ := R1.put 0 rfl ZL
    clear b1 R1 HR HE
    go_wp2_with (first
      | (refine wpList_store_rowL rfl 28 (.tmp 7) (.tmp 15) rfl W1.heap.size ZL.toArray rfl rfl 28 ZL.toArray (HR1.out.at 0 rfl) (info13a ZL HZN.out) rfl HZ1.out ?_
         intro V1 hV1
         rw [← hV1] at HR2
         have hc0 := HR2.out.cell 1 rfl 0 HO0.out
         have hc7 := HR2.out.cell 1 rfl 7 HO7.out
         have HA : Hid _ := rangeAt_row (HR2.out.at 0 rfl)
         clear hV1 HR1)
      | (refine load_mid_g (by rfl) 28 (.tmp 7) rfl W1.heap.size 0 rfl ZL _ HA.out Try.underlying28 rfl (info13 ZL HZN.out) ?_)
      | (refine build_g (by rfl) 28 #[] rfl #[] (.agg ZL.toArray) (by simp [Act.eval]) (HB0.out _) ?_))
    refine Calls.mono (HK.out _) ?_
    rintro e V3 ⟨rfl, b3⟩
    go_wp2
    go_ret
    exact ⟨rfl, (HR2.out.step b3).bel⟩
  · by_cases h5 : 5 < re
    · have hd1 : decide (re < 1) = false := decide_eq_false h1
      have hd2 : decide (5 < re) = true := decide_eq_true h5
      clear hm h1 h5
      go_enter Try.func4, Try.ntmps4
      go_wp2_with (first
        | (refine wpList_load_mid rfl 28 (.tmp 3) rfl w.heap.size 0 rfl RL _ (rangeAt_row (HR.out.at 2 rfl)) Try.underlying28 rfl (info13 RL HRL.out) ?_)
        | (refine wpList_load_mid rfl 25 (.tmp 4) rfl (w.heap.size + 1) 0 rfl CL _ (rangeAt_row (HR.out.at 1 rfl)) Try.underlying25 rfl (info9 CL HCL.out) ?_)
        | (refine wpList_load_mid rfl 40 (.tmp 5) rfl (w.heap.size + 1 + 1) 0 rfl OL _ (rangeAt_row (HR.out.at 0 rfl)) Try.underlying40 rfl (info8o OL HOL.out) ?_))
      refine Calls.mono (HE _) ?_
      rintro e W1 ⟨rfl, b1⟩
      have R1 := (HR.out.step b1).alloc _ rfl 28 ZL
      have HR1 : Hid _ := R1
      have HR2 : Hid _ := R1.put 0 rfl ZL
      clear b1 R1 HR HE
      go_wp2_with (first
        | (refine wpList_store_rowL rfl 28 (.tmp 7) (.tmp 15) rfl W1.heap.size ZL.toArray rfl rfl 28 ZL.toArray (HR1.out.at 0 rfl) (info13a ZL HZN.out) rfl HZ1.out ?_
           intro V1 hV1
           rw [← hV1] at HR2
           have hc0 := HR2.out.cell 1 rfl 0 HO0.out
           have hc7 := HR2.out.cell 1 rfl 7 HO7.out
           have HA : Hid _ := rangeAt_row (HR2.out.at 0 rfl)
           clear hV1 HR1)
        | (refine load_mid_g (by rfl) 28 (.tmp 7) rfl W1.heap.size 0 rfl ZL _ HA.out Try.underlying28 rfl (info13 ZL HZN.out) ?_)
        | (refine build_g (by rfl) 28 #[] rfl #[] (.agg ZL.toArray) (by simp [Act.eval]) (HB0.out _) ?_))
      refine Calls.mono (HK.out _) ?_
      rintro e V3 ⟨rfl, b3⟩
      go_wp2
      go_ret
      exact ⟨rfl, (HR2.out.step b3).bel⟩
    · have hd1 : decide (re < 1) = false := decide_eq_false h1
      have hd2 : decide (5 < re) = false := decide_eq_false h5
      have hran : ran < 0 := by simp at hm; omega
      have hd3 : decide (ran < 0) = true := decide_eq_true hran
      clear hm h1 h5 hran
      go_enter Try.func4, Try.ntmps4
      go_wp2_with (first
        | (refine wpList_load_mid rfl 28 (.tmp 3) rfl w.heap.size 0 rfl RL _ (rangeAt_row (HR.out.at 2 rfl)) Try.underlying28 rfl (info13 RL HRL.out) ?_)
        | (refine wpList_load_mid rfl 25 (.tmp 4) rfl (w.heap.size + 1) 0 rfl CL _ (rangeAt_row (HR.out.at 1 rfl)) Try.underlying25 rfl (info9 CL HCL.out) ?_)
        | (refine wpList_load_mid rfl 40 (.tmp 5) rfl (w.heap.size + 1 + 1) 0 rfl OL _ (rangeAt_row (HR.out.at 0 rfl)) Try.underlying40 rfl (info8o OL HOL.out) ?_))
      refine Calls.mono (HE _) ?_
      rintro e W1 ⟨rfl, b1⟩
      have R1 := (HR.out.step b1).alloc _ rfl 28 ZL
      have HR1 : Hid _ := R1
      have HR2 : Hid _ := R1.put 0 rfl ZL
      clear b1 R1 HR HE
      go_wp2_with (first
        | (refine wpList_store_rowL rfl 28 (.tmp 7) (.tmp 15) rfl W1.heap.size ZL.toArray rfl rfl 28 ZL.toArray (HR1.out.at 0 rfl) (info13a ZL HZN.out) rfl HZ1.out ?_
           intro V1 hV1
           rw [← hV1] at HR2
           have hc0 := HR2.out.cell 1 rfl 0 HO0.out
           have hc7 := HR2.out.cell 1 rfl 7 HO7.out
           have HA : Hid _ := rangeAt_row (HR2.out.at 0 rfl)
           clear hV1 HR1)
        | (refine load_mid_g (by rfl) 28 (.tmp 7) rfl W1.heap.size 0 rfl ZL _ HA.out Try.underlying28 rfl (info13 ZL HZN.out) ?_)
        | (refine build_g (by rfl) 28 #[] rfl #[] (.agg ZL.toArray) (by simp [Act.eval]) (HB0.out _) ?_))
      refine Calls.mono (HK.out _) ?_
      rintro e V3 ⟨rfl, b3⟩
      go_wp2
      go_ret
      exact ⟨rfl, (HR2.out.step b3).bel⟩
theorem wpList_idx {ops : Array Oper} {rest : List Oper} {o : Oper} {a : Act} {w : World} {Q : Exit → Act → World → Prop} (hgd : o.guard = none) (t : TypeId) (x y : Operand) (ho : o.op = .index t x y) (v : Value) (hr : (execOp a.eval o).run Try.prog w = .ok (.value v) w)
    (h : wpList Try.prog ops Q rest (a.put o.dst v) w) : wpList Try.prog ops Q (o :: rest) a w :=
  wpList_plain hgd fun _ hK => by unfold Oper.wp; rw [hr]; exact hK _ _ h
set_option maxHeartbeats 4000000 in
set_option maxRecDepth 100000 in
theorem walk_ok (r : Rc) (rs : List Int) (pc : Int) (o : Ot) (w : World) (hr : rok r) (hc : cok rs pc) (ho : ook o) (hm : lvOk o = true) : Calls Try.prog 4 #[.agg (rL r).toArray, .agg (cL rs pc).toArray, .agg (oL o).toArray] w fun e w' => e = .returned (.bool true) ∧ Below w.heap.size w w' := by
  have HK : Hid (∀ W, Calls Try.prog 10 #[] W fun e w' => e = .returned (.bool true) ∧ Below W.heap.size W w') := fun W => known_any W
  have h8 := hr.c.len
  have h82 := hc.len
  have h4 := ho.n.len
  have hz := zero13
  obtain ⟨ZL, hZL⟩ : ∃ L, L = rL r0 := ⟨_, rfl⟩
  have HZN : Hid (ZL.length = 13) := by rw [hZL]; rfl
  have HZ1 : Hid (ZL.toArray.all (·.oneCell') = true) := by show _ = _; rw [hZL]; exact rL_one r0
  have HB0 : Hid _ := bld13
  rw [← hZL] at hz HB0
  have HE := fun W => leave_any r rs pc o h8 h82 h4 ho.re W
  rw [hm] at HE
  simp only [if_true, Bool.false_eq_true, if_false] at HE
  have HRL : Hid _ := rL_len h8
  have HCL : Hid _ := cL_len (pc := pc) h82
  have HC1 : Hid _ := cL_one rs pc
  have HOL : Hid _ := oL_len h4
  have HO0 : Hid _ := oL_re o
  have HO7 : Hid _ := oL_ran h4
  have HR : Hid _ := (((RS.start w).alloc _ rfl 28 (rL r)).alloc (w.heap.size + 1) (by simp) 25 (cL rs pc)).alloc (w.heap.size + 1 + 1) (by simp) 40 (oL o)
  have heq := fun W => eq_rec W (lvR r rs pc o) h82
  have HNL : Hid _ := rL_len (r := lvR r rs pc o) h82
  have HN1 : Hid _ := rL_one (lvR r rs pc o)
  have HR1o : Hid _ := rL_one r
  have HSEG : Hid _ := lv_seg r rs pc o h8 h82
  have HSL : Hid _ := seg_len r rs pc h8 h82
  obtain ⟨SL, hSL⟩ : ∃ L, splice (rL r) 2 (cL rs pc) = L := ⟨_, rfl⟩
  have HSP : Hid (splice (rL r) 2 (cL rs pc).toArray.toList = SL) := hSL
  rw [hSL] at HSEG HSL
  unfold lvOk isRe at hm
  have hran : ¬ o.ran < 0 := by simp at hm; omega
  have hcs : o.re = 1 ∨ o.re = 2 ∨ o.re = 3 ∨ o.re = 4 ∨ o.re = 5 := by simp at hm; omega
  have hd3 : decide (o.ran < 0) = false := decide_eq_false hran
  generalize rL (lvR r rs pc o) = NL at *
  generalize rL r = RL at *
  generalize cL rs pc = CL at *
  generalize oL o = OL at *
  generalize o.re = re at *
  generalize o.ran = ran at *
  clear hZL h8 h82 h4 hr hc ho hm hran hSL
  rcases hcs with hre | hre | hre | hre | hre
  · skip
    rw [hre] at HO0 HSEG
    simp only [wtOf] at HSEG
    go_enter Try.func4, Try.ntmps4
    go_wp2_with (first
      | (refine wpList_load_mid rfl 28 (.tmp 3) rfl w.heap.size 0 rfl RL _ (rangeAt_row (HR.out.at 2 rfl)) Try.underlying28 rfl (info13 RL HRL.out) ?_)
      | (refine wpList_load_mid rfl 25 (.tmp 4) rfl (w.heap.size + 1) 0 rfl CL _ (rangeAt_row (HR.out.at 1 rfl)) Try.underlying25 rfl (info9 CL HCL.out) ?_)
      | (refine wpList_load_mid rfl 40 (.tmp 5) rfl (w.heap.size + 1 + 1) 0 rfl OL _ (rangeAt_row (HR.out.at 0 rfl)) Try.underlying40 rfl (info8o OL HOL.out) ?_))
    refine Calls.mono (HE _) ?_
    rintro e W1 ⟨rfl, b1⟩
    have R1 := (HR.out.step b1).alloc _ rfl 28 ZL
    have HR1 : Hid _ := R1
    have HR2 : Hid _ := R1.put 0 rfl NL
    clear b1 R1 HR HE
    go_wp2_with (first
      | (refine wpList_store_rowL rfl 28 (.tmp 7) (.tmp 15) rfl W1.heap.size NL.toArray rfl rfl 28 ZL.toArray (HR1.out.at 0 rfl) (info13a NL HNL.out) (by simp [HZN.out, HNL.out]) HN1.out ?_
         intro V1 hV1
         rw [← hV1] at HR2
         have hc0 := HR2.out.cell 1 rfl 0 HO0.out
         have hc7 := HR2.out.cell 1 rfl 7 HO7.out
         have HA2 : Hid _ := rangeAt_row (HR2.out.at 3 rfl)
         clear hV1 HR1
         generalize W1.heap.size = n2 at *)
      | (refine load_mid_g (by rfl) 28 (.tmp 3) rfl w.heap.size 0 rfl RL _ HA2.out Try.underlying28 rfl (info13 RL HRL.out) ?_
         have R3 := HR2.out.alloc _ rfl 28 ZL
         have HR3 : Hid _ := R3
         have HR4 : Hid _ := R3.put 0 rfl RL
         clear R3 HR2 HA2)
      | (refine wpList_store_rowL rfl 28 (.tmp 9) (.tmp 40) rfl V1.heap.size RL.toArray rfl rfl 28 ZL.toArray (HR3.out.at 0 rfl) (info13a RL HRL.out) (by simp [HZN.out, HRL.out]) HR1o.out ?_
         intro V2 hV2
         rw [← hV2] at HR4
         clear hV2 HR3 hc0 hc7
         generalize V1.heap.size = n3 at *)
      | (refine wpList_load_mid rfl 25 (.tmp 4) rfl (w.heap.size + 1) 0 rfl CL _ (rangeAt_row (HR4.out.at 3 rfl)) Try.underlying25 rfl (info9 CL HCL.out) ?_)
      | (refine wpList_store_segL rfl 25 (.tmp 42) (.tmp 41) rfl n3 2 CL.toArray RL 28 rfl rfl (HR4.out.at 0 rfl) (info9a CL HCL.out) (by rw [List.size_toArray, HCL.out, HRL.out]; decide) HC1.out ?_
         intro V5 hV5
         have HR5 : Hid (RS w [(n3, 28, SL), (n2, 28, NL), (w.heap.size + 1 + 1, 40, OL), (w.heap.size + 1, 25, CL), (w.heap.size, 28, RL)] V5) := by rw [hV5, HSP.out]; exact HR4.out.put 0 rfl SL
         have hc0 := HR5.out.cell 2 rfl 0 HO0.out
         clear hV5 HR4)
      | (refine wpList_idx rfl 42 (.tmp 43) (.tmp 45) rfl (.int .i64 0) (by kernel_rfl) ?_)
      | (refine wpList_stW rfl (.tmp 47) (.tmp 46) rfl n3 12 0 rfl rfl SL 28 (HR5.out.at 0 rfl) (by rw [HSL.out]; decide) ?_
         intro V6 hV6
         have HR6 : Hid (RS w [(n3, 28, NL), (n2, 28, NL), (w.heap.size + 1 + 1, 40, OL), (w.heap.size + 1, 25, CL), (w.heap.size, 28, RL)] V6) := by rw [hV6]; exact HR5.out.poke 0 rfl 12 _ HSEG.out
         clear hV6 HR5 hc0)
      | (refine load_mid_g (by rfl) 28 (.tmp 7) rfl n2 0 rfl NL _ (rangeAt_row (HR6.out.at 1 rfl)) Try.underlying28 rfl (info13 NL HNL.out) ?_)
      | (refine load_mid_g (by rfl) 28 (.tmp 9) rfl n3 0 rfl NL _ (rangeAt_row (HR6.out.at 0 rfl)) Try.underlying28 rfl (info13 NL HNL.out) ?_))
    refine Calls.mono (HK.out _) ?_
    rintro e V8 ⟨rfl, b8⟩
    go_wp2
    go_ret
    exact ⟨rfl, (HR6.out.step b8).bel⟩
  · skip
    rw [hre] at HO0 HSEG
    simp only [wtOf] at HSEG
    go_enter Try.func4, Try.ntmps4
    go_wp2_with (first
      | (refine wpList_load_mid rfl 28 (.tmp 3) rfl w.heap.size 0 rfl RL _ (rangeAt_row (HR.out.at 2 rfl)) Try.underlying28 rfl (info13 RL HRL.out) ?_)
      | (refine wpList_load_mid rfl 25 (.tmp 4) rfl (w.heap.size + 1) 0 rfl CL _ (rangeAt_row (HR.out.at 1 rfl)) Try.underlying25 rfl (info9 CL HCL.out) ?_)
      | (refine wpList_load_mid rfl 40 (.tmp 5) rfl (w.heap.size + 1 + 1) 0 rfl OL _ (rangeAt_row (HR.out.at 0 rfl)) Try.underlying40 rfl (info8o OL HOL.out) ?_))
    refine Calls.mono (HE _) ?_
    rintro e W1 ⟨rfl, b1⟩
    have R1 := (HR.out.step b1).alloc _ rfl 28 ZL
    have HR1 : Hid _ := R1
    have HR2 : Hid _ := R1.put 0 rfl NL
    clear b1 R1 HR HE
    go_wp2_with (first
      | (refine wpList_store_rowL rfl 28 (.tmp 7) (.tmp 15) rfl W1.heap.size NL.toArray rfl rfl 28 ZL.toArray (HR1.out.at 0 rfl) (info13a NL HNL.out) (by simp [HZN.out, HNL.out]) HN1.out ?_
         intro V1 hV1
         rw [← hV1] at HR2
         have hc0 := HR2.out.cell 1 rfl 0 HO0.out
         have hc7 := HR2.out.cell 1 rfl 7 HO7.out
         have HA2 : Hid _ := rangeAt_row (HR2.out.at 3 rfl)
         clear hV1 HR1
         generalize W1.heap.size = n2 at *)
      | (refine load_mid_g (by rfl) 28 (.tmp 3) rfl w.heap.size 0 rfl RL _ HA2.out Try.underlying28 rfl (info13 RL HRL.out) ?_
         have R3 := HR2.out.alloc _ rfl 28 ZL
         have HR3 : Hid _ := R3
         have HR4 : Hid _ := R3.put 0 rfl RL
         clear R3 HR2 HA2)
      | (refine wpList_store_rowL rfl 28 (.tmp 9) (.tmp 40) rfl V1.heap.size RL.toArray rfl rfl 28 ZL.toArray (HR3.out.at 0 rfl) (info13a RL HRL.out) (by simp [HZN.out, HRL.out]) HR1o.out ?_
         intro V2 hV2
         rw [← hV2] at HR4
         clear hV2 HR3 hc0 hc7
         generalize V1.heap.size = n3 at *)
      | (refine wpList_load_mid rfl 25 (.tmp 4) rfl (w.heap.size + 1) 0 rfl CL _ (rangeAt_row (HR4.out.at 3 rfl)) Try.underlying25 rfl (info9 CL HCL.out) ?_)
      | (refine wpList_store_segL rfl 25 (.tmp 42) (.tmp 41) rfl n3 2 CL.toArray RL 28 rfl rfl (HR4.out.at 0 rfl) (info9a CL HCL.out) (by rw [List.size_toArray, HCL.out, HRL.out]; decide) HC1.out ?_
         intro V5 hV5
         have HR5 : Hid (RS w [(n3, 28, SL), (n2, 28, NL), (w.heap.size + 1 + 1, 40, OL), (w.heap.size + 1, 25, CL), (w.heap.size, 28, RL)] V5) := by rw [hV5, HSP.out]; exact HR4.out.put 0 rfl SL
         have hc0 := HR5.out.cell 2 rfl 0 HO0.out
         clear hV5 HR4)
      | (refine wpList_idx rfl 42 (.tmp 43) (.tmp 45) rfl (.int .i64 1) (by kernel_rfl) ?_)
      | (refine wpList_stW rfl (.tmp 47) (.tmp 46) rfl n3 12 1 rfl rfl SL 28 (HR5.out.at 0 rfl) (by rw [HSL.out]; decide) ?_
         intro V6 hV6
         have HR6 : Hid (RS w [(n3, 28, NL), (n2, 28, NL), (w.heap.size + 1 + 1, 40, OL), (w.heap.size + 1, 25, CL), (w.heap.size, 28, RL)] V6) := by rw [hV6]; exact HR5.out.poke 0 rfl 12 _ HSEG.out
         clear hV6 HR5 hc0)
      | (refine load_mid_g (by rfl) 28 (.tmp 7) rfl n2 0 rfl NL _ (rangeAt_row (HR6.out.at 1 rfl)) Try.underlying28 rfl (info13 NL HNL.out) ?_)
      | (refine load_mid_g (by rfl) 28 (.tmp 9) rfl n3 0 rfl NL _ (rangeAt_row (HR6.out.at 0 rfl)) Try.underlying28 rfl (info13 NL HNL.out) ?_))
    refine Calls.mono (HK.out _) ?_
    rintro e V8 ⟨rfl, b8⟩
    go_wp2
    go_ret
    exact ⟨rfl, (HR6.out.step b8).bel⟩
  · skip
    rw [hre] at HO0 HSEG
    simp only [wtOf] at HSEG
    go_enter Try.func4, Try.ntmps4
    go_wp2_with (first
      | (refine wpList_load_mid rfl 28 (.tmp 3) rfl w.heap.size 0 rfl RL _ (rangeAt_row (HR.out.at 2 rfl)) Try.underlying28 rfl (info13 RL HRL.out) ?_)
      | (refine wpList_load_mid rfl 25 (.tmp 4) rfl (w.heap.size + 1) 0 rfl CL _ (rangeAt_row (HR.out.at 1 rfl)) Try.underlying25 rfl (info9 CL HCL.out) ?_)
      | (refine wpList_load_mid rfl 40 (.tmp 5) rfl (w.heap.size + 1 + 1) 0 rfl OL _ (rangeAt_row (HR.out.at 0 rfl)) Try.underlying40 rfl (info8o OL HOL.out) ?_))
    refine Calls.mono (HE _) ?_
    rintro e W1 ⟨rfl, b1⟩
    have R1 := (HR.out.step b1).alloc _ rfl 28 ZL
    have HR1 : Hid _ := R1
    have HR2 : Hid _ := R1.put 0 rfl NL
    clear b1 R1 HR HE
    go_wp2_with (first
      | (refine wpList_store_rowL rfl 28 (.tmp 7) (.tmp 15) rfl W1.heap.size NL.toArray rfl rfl 28 ZL.toArray (HR1.out.at 0 rfl) (info13a NL HNL.out) (by simp [HZN.out, HNL.out]) HN1.out ?_
         intro V1 hV1
         rw [← hV1] at HR2
         have hc0 := HR2.out.cell 1 rfl 0 HO0.out
         have hc7 := HR2.out.cell 1 rfl 7 HO7.out
         have HA2 : Hid _ := rangeAt_row (HR2.out.at 3 rfl)
         clear hV1 HR1
         generalize W1.heap.size = n2 at *)
      | (refine load_mid_g (by rfl) 28 (.tmp 3) rfl w.heap.size 0 rfl RL _ HA2.out Try.underlying28 rfl (info13 RL HRL.out) ?_
         have R3 := HR2.out.alloc _ rfl 28 ZL
         have HR3 : Hid _ := R3
         have HR4 : Hid _ := R3.put 0 rfl RL
         clear R3 HR2 HA2)
      | (refine wpList_store_rowL rfl 28 (.tmp 9) (.tmp 40) rfl V1.heap.size RL.toArray rfl rfl 28 ZL.toArray (HR3.out.at 0 rfl) (info13a RL HRL.out) (by simp [HZN.out, HRL.out]) HR1o.out ?_
         intro V2 hV2
         rw [← hV2] at HR4
         clear hV2 HR3 hc0 hc7
         generalize V1.heap.size = n3 at *)
      | (refine wpList_load_mid rfl 25 (.tmp 4) rfl (w.heap.size + 1) 0 rfl CL _ (rangeAt_row (HR4.out.at 3 rfl)) Try.underlying25 rfl (info9 CL HCL.out) ?_)
      | (refine wpList_store_segL rfl 25 (.tmp 42) (.tmp 41) rfl n3 2 CL.toArray RL 28 rfl rfl (HR4.out.at 0 rfl) (info9a CL HCL.out) (by rw [List.size_toArray, HCL.out, HRL.out]; decide) HC1.out ?_
         intro V5 hV5
         have HR5 : Hid (RS w [(n3, 28, SL), (n2, 28, NL), (w.heap.size + 1 + 1, 40, OL), (w.heap.size + 1, 25, CL), (w.heap.size, 28, RL)] V5) := by rw [hV5, HSP.out]; exact HR4.out.put 0 rfl SL
         have hc0 := HR5.out.cell 2 rfl 0 HO0.out
         clear hV5 HR4)
      | (refine wpList_idx rfl 42 (.tmp 43) (.tmp 45) rfl (.int .i64 2) (by kernel_rfl) ?_)
      | (refine wpList_stW rfl (.tmp 47) (.tmp 46) rfl n3 12 2 rfl rfl SL 28 (HR5.out.at 0 rfl) (by rw [HSL.out]; decide) ?_
         intro V6 hV6
         have HR6 : Hid (RS w [(n3, 28, NL), (n2, 28, NL), (w.heap.size + 1 + 1, 40, OL), (w.heap.size + 1, 25, CL), (w.heap.size, 28, RL)] V6) := by rw [hV6]; exact HR5.out.poke 0 rfl 12 _ HSEG.out
         clear hV6 HR5 hc0)
      | (refine load_mid_g (by rfl) 28 (.tmp 7) rfl n2 0 rfl NL _ (rangeAt_row (HR6.out.at 1 rfl)) Try.underlying28 rfl (info13 NL HNL.out) ?_)
      | (refine load_mid_g (by rfl) 28 (.tmp 9) rfl n3 0 rfl NL _ (rangeAt_row (HR6.out.at 0 rfl)) Try.underlying28 rfl (info13 NL HNL.out) ?_))
    refine Calls.mono (HK.out _) ?_
    rintro e V8 ⟨rfl, b8⟩
    go_wp2
    go_ret
    exact ⟨rfl, (HR6.out.step b8).bel⟩
  · skip
    rw [hre] at HO0 HSEG
    simp only [wtOf] at HSEG
    go_enter Try.func4, Try.ntmps4
    go_wp2_with (first
      | (refine wpList_load_mid rfl 28 (.tmp 3) rfl w.heap.size 0 rfl RL _ (rangeAt_row (HR.out.at 2 rfl)) Try.underlying28 rfl (info13 RL HRL.out) ?_)
      | (refine wpList_load_mid rfl 25 (.tmp 4) rfl (w.heap.size + 1) 0 rfl CL _ (rangeAt_row (HR.out.at 1 rfl)) Try.underlying25 rfl (info9 CL HCL.out) ?_)
      | (refine wpList_load_mid rfl 40 (.tmp 5) rfl (w.heap.size + 1 + 1) 0 rfl OL _ (rangeAt_row (HR.out.at 0 rfl)) Try.underlying40 rfl (info8o OL HOL.out) ?_))
    refine Calls.mono (HE _) ?_
    rintro e W1 ⟨rfl, b1⟩
    have R1 := (HR.out.step b1).alloc _ rfl 28 ZL
    have HR1 : Hid _ := R1
    have HR2 : Hid _ := R1.put 0 rfl NL
    clear b1 R1 HR HE
    go_wp2_with (first
      | (refine wpList_store_rowL rfl 28 (.tmp 7) (.tmp 15) rfl W1.heap.size NL.toArray rfl rfl 28 ZL.toArray (HR1.out.at 0 rfl) (info13a NL HNL.out) (by simp [HZN.out, HNL.out]) HN1.out ?_
         intro V1 hV1
         rw [← hV1] at HR2
         have hc0 := HR2.out.cell 1 rfl 0 HO0.out
         have hc7 := HR2.out.cell 1 rfl 7 HO7.out
         have HA2 : Hid _ := rangeAt_row (HR2.out.at 3 rfl)
         clear hV1 HR1
         generalize W1.heap.size = n2 at *)
      | (refine load_mid_g (by rfl) 28 (.tmp 3) rfl w.heap.size 0 rfl RL _ HA2.out Try.underlying28 rfl (info13 RL HRL.out) ?_
         have R3 := HR2.out.alloc _ rfl 28 ZL
         have HR3 : Hid _ := R3
         have HR4 : Hid _ := R3.put 0 rfl RL
         clear R3 HR2 HA2)
      | (refine wpList_store_rowL rfl 28 (.tmp 9) (.tmp 40) rfl V1.heap.size RL.toArray rfl rfl 28 ZL.toArray (HR3.out.at 0 rfl) (info13a RL HRL.out) (by simp [HZN.out, HRL.out]) HR1o.out ?_
         intro V2 hV2
         rw [← hV2] at HR4
         clear hV2 HR3 hc0 hc7
         generalize V1.heap.size = n3 at *)
      | (refine wpList_load_mid rfl 25 (.tmp 4) rfl (w.heap.size + 1) 0 rfl CL _ (rangeAt_row (HR4.out.at 3 rfl)) Try.underlying25 rfl (info9 CL HCL.out) ?_)
      | (refine wpList_store_segL rfl 25 (.tmp 42) (.tmp 41) rfl n3 2 CL.toArray RL 28 rfl rfl (HR4.out.at 0 rfl) (info9a CL HCL.out) (by rw [List.size_toArray, HCL.out, HRL.out]; decide) HC1.out ?_
         intro V5 hV5
         have HR5 : Hid (RS w [(n3, 28, SL), (n2, 28, NL), (w.heap.size + 1 + 1, 40, OL), (w.heap.size + 1, 25, CL), (w.heap.size, 28, RL)] V5) := by rw [hV5, HSP.out]; exact HR4.out.put 0 rfl SL
         have hc0 := HR5.out.cell 2 rfl 0 HO0.out
         clear hV5 HR4)
      | (refine wpList_idx rfl 42 (.tmp 43) (.tmp 45) rfl (.int .i64 0) (by kernel_rfl) ?_)
      | (refine wpList_stW rfl (.tmp 47) (.tmp 46) rfl n3 12 0 rfl rfl SL 28 (HR5.out.at 0 rfl) (by rw [HSL.out]; decide) ?_
         intro V6 hV6
         have HR6 : Hid (RS w [(n3, 28, NL), (n2, 28, NL), (w.heap.size + 1 + 1, 40, OL), (w.heap.size + 1, 25, CL), (w.heap.size, 28, RL)] V6) := by rw [hV6]; exact HR5.out.poke 0 rfl 12 _ HSEG.out
         clear hV6 HR5 hc0)
      | (refine load_mid_g (by rfl) 28 (.tmp 7) rfl n2 0 rfl NL _ (rangeAt_row (HR6.out.at 1 rfl)) Try.underlying28 rfl (info13 NL HNL.out) ?_)
      | (refine load_mid_g (by rfl) 28 (.tmp 9) rfl n3 0 rfl NL _ (rangeAt_row (HR6.out.at 0 rfl)) Try.underlying28 rfl (info13 NL HNL.out) ?_))
    refine Calls.mono (HK.out _) ?_
    rintro e V8 ⟨rfl, b8⟩
    go_wp2
    go_ret
    exact ⟨rfl, (HR6.out.step b8).bel⟩
  · skip
    rw [hre] at HO0 HSEG
    simp only [wtOf] at HSEG
    go_enter Try.func4, Try.ntmps4
    go_wp2_with (first
      | (refine wpList_load_mid rfl 28 (.tmp 3) rfl w.heap.size 0 rfl RL _ (rangeAt_row (HR.out.at 2 rfl)) Try.underlying28 rfl (info13 RL HRL.out) ?_)
      | (refine wpList_load_mid rfl 25 (.tmp 4) rfl (w.heap.size + 1) 0 rfl CL _ (rangeAt_row (HR.out.at 1 rfl)) Try.underlying25 rfl (info9 CL HCL.out) ?_)
      | (refine wpList_load_mid rfl 40 (.tmp 5) rfl (w.heap.size + 1 + 1) 0 rfl OL _ (rangeAt_row (HR.out.at 0 rfl)) Try.underlying40 rfl (info8o OL HOL.out) ?_))
    refine Calls.mono (HE _) ?_
    rintro e W1 ⟨rfl, b1⟩
    have R1 := (HR.out.step b1).alloc _ rfl 28 ZL
    have HR1 : Hid _ := R1
    have HR2 : Hid _ := R1.put 0 rfl NL
    clear b1 R1 HR HE
    go_wp2_with (first
      | (refine wpList_store_rowL rfl 28 (.tmp 7) (.tmp 15) rfl W1.heap.size NL.toArray rfl rfl 28 ZL.toArray (HR1.out.at 0 rfl) (info13a NL HNL.out) (by simp [HZN.out, HNL.out]) HN1.out ?_
         intro V1 hV1
         rw [← hV1] at HR2
         have hc0 := HR2.out.cell 1 rfl 0 HO0.out
         have hc7 := HR2.out.cell 1 rfl 7 HO7.out
         have HA2 : Hid _ := rangeAt_row (HR2.out.at 3 rfl)
         clear hV1 HR1
         generalize W1.heap.size = n2 at *)
      | (refine load_mid_g (by rfl) 28 (.tmp 3) rfl w.heap.size 0 rfl RL _ HA2.out Try.underlying28 rfl (info13 RL HRL.out) ?_
         have R3 := HR2.out.alloc _ rfl 28 ZL
         have HR3 : Hid _ := R3
         have HR4 : Hid _ := R3.put 0 rfl RL
         clear R3 HR2 HA2)
      | (refine wpList_store_rowL rfl 28 (.tmp 9) (.tmp 40) rfl V1.heap.size RL.toArray rfl rfl 28 ZL.toArray (HR3.out.at 0 rfl) (info13a RL HRL.out) (by simp [HZN.out, HRL.out]) HR1o.out ?_
         intro V2 hV2
         rw [← hV2] at HR4
         clear hV2 HR3 hc0 hc7
         generalize V1.heap.size = n3 at *)
      | (refine wpList_load_mid rfl 25 (.tmp 4) rfl (w.heap.size + 1) 0 rfl CL _ (rangeAt_row (HR4.out.at 3 rfl)) Try.underlying25 rfl (info9 CL HCL.out) ?_)
      | (refine wpList_store_segL rfl 25 (.tmp 42) (.tmp 41) rfl n3 2 CL.toArray RL 28 rfl rfl (HR4.out.at 0 rfl) (info9a CL HCL.out) (by rw [List.size_toArray, HCL.out, HRL.out]; decide) HC1.out ?_
         intro V5 hV5
         have HR5 : Hid (RS w [(n3, 28, SL), (n2, 28, NL), (w.heap.size + 1 + 1, 40, OL), (w.heap.size + 1, 25, CL), (w.heap.size, 28, RL)] V5) := by rw [hV5, HSP.out]; exact HR4.out.put 0 rfl SL
         have hc0 := HR5.out.cell 2 rfl 0 HO0.out
         clear hV5 HR4)
      | (refine wpList_idx rfl 42 (.tmp 43) (.tmp 45) rfl (.int .i64 3) (by kernel_rfl) ?_)
      | (refine wpList_stW rfl (.tmp 47) (.tmp 46) rfl n3 12 3 rfl rfl SL 28 (HR5.out.at 0 rfl) (by rw [HSL.out]; decide) ?_
         intro V6 hV6
         have HR6 : Hid (RS w [(n3, 28, NL), (n2, 28, NL), (w.heap.size + 1 + 1, 40, OL), (w.heap.size + 1, 25, CL), (w.heap.size, 28, RL)] V6) := by rw [hV6]; exact HR5.out.poke 0 rfl 12 _ HSEG.out
         clear hV6 HR5 hc0)
      | (refine load_mid_g (by rfl) 28 (.tmp 7) rfl n2 0 rfl NL _ (rangeAt_row (HR6.out.at 1 rfl)) Try.underlying28 rfl (info13 NL HNL.out) ?_)
      | (refine load_mid_g (by rfl) 28 (.tmp 9) rfl n3 0 rfl NL _ (rangeAt_row (HR6.out.at 0 rfl)) Try.underlying28 rfl (info13 NL HNL.out) ?_))
    refine Calls.mono (HK.out _) ?_
    rintro e V8 ⟨rfl, b8⟩
    go_wp2
    go_ret
    exact ⟨rfl, (HR6.out.step b8).bel⟩
theorem walk (r : Rc) (rs : List Int) (pc : Int) (o : Ot) (w : World) (hr : rok r) (hc : cok rs pc) (ho : ook o) : Calls Try.prog 4 #[.agg (rL r).toArray, .agg (cL rs pc).toArray, .agg (oL o).toArray] w fun e w' => e = .returned (.bool true) ∧ Below w.heap.size w w' := by
  cases hm : lvOk o
  · exact walk_bad r rs pc o w hr hc ho hm
  · exact walk_ok r rs pc o w hr hc ho hm
set_option maxRecDepth 100000 in
theorem lifted (os : Os) (started : os.Started) (H : Type) (enc : TypeId × Value → H) :
    ReturnsInHanded {} Try.checked os 4 .any (Rows.recLeavesSpec.pre6 enc Try.prog Try.f4 Rows.recLeavesRow.domain false) (Rows.recLeavesSpec.post enc Try.prog Try.f4 false true false false) := by
  refine returnsInHanded_of_change (C := Try.checked) own started (by kernel_rfl) Try.func4
    (ChangeSpec.witness6 (enc := enc) (C := Try.checked) false ⟨#[], #[.agg (#[.int .i64 0] ++ Array.replicate 10 (.int .u64 0) ++ #[.bool false, .int .i64 0]), .agg (Array.replicate 9 (.int .u64 0)), .agg (#[.int .i64 0] ++ Array.replicate 5 (.int .u64 0) ++ #[.bool false, .int .i64 0])], []⟩ 8 (by kernel_rfl) (by kernel_rfl) (by kernel_rfl) (by kernel_rfl)) ?_
  intro W base args ds gs before hval0 hW hcnd _
  have hval : ∀ (j : Nat) t v, Try.f4.params[j]? = some t → args[j]? = some v → Value.okWide Try.prog W .any base t v := hval0
  have hW' := hW
  obtain ⟨p, q, hA0, hV, rfl, hfz, hnd⟩ := hW
  have hA : DataW.TrodAll enc Try.prog W 0 (fun _ => true) true Try.f4.params.toList args.toList ds p := hA0
  rw [Try.params4] at hA hval
  obtain ⟨v0, vs0, d0, ds0, p0, q0, hargs, rfl, rfl, h0, r0⟩ := trodAll_cons hA
  obtain ⟨v1, vs1, d1, ds1, p1, q1, rfl, rfl, rfl, h1, r1⟩ := trodAll_cons r0
  obtain ⟨v2, vs2, d2, ds2, p2, q2, rfl, rfl, rfl, h2, r2⟩ := trodAll_cons r1
  obtain ⟨rfl, rfl, rfl⟩ := trodAll_nil r2
  obtain rfl : args = #[v0, v1, v2] := by cases args; simp_all
  obtain ⟨rfl, rfl⟩ := trodVars_none hV
  have k0 := h0
  have lt0 : ∀ x ∈ p0, x.block < W.heap.size := by obtain ⟨m, hm⟩ := k0; exact DataW.trod_lt m _ _ _ hm
  obtain ⟨xs0, rfl⟩ := VC.okWide_str Try.underlying28 (hval 0 28 v0 rfl rfl)
  obtain ⟨R0, rfl, hl0⟩ : ∃ r : VC.Rc, xs0 = (VC.rL r).toArray ∧ VC.rok r := by obtain ⟨fuel, hf⟩ := h0; obtain ⟨s, e, h1⟩ := VC.open_rec hf; exact ⟨s, by rw [← Array.toList_inj]; exact e, h1⟩
  have k1 := h1
  have lt1 : ∀ x ∈ p1, x.block < W.heap.size := by obtain ⟨m, hm⟩ := k1; exact DataW.trod_lt m _ _ _ hm
  obtain ⟨xs1, rfl⟩ := VC.okWide_str Try.underlying25 (hval 1 25 v1 rfl rfl)
  obtain ⟨rs1, pc1, rfl, hl1⟩ : ∃ rs pc, xs1 = (VC.cL rs pc).toArray ∧ VC.cok rs pc := by obtain ⟨fuel, hf⟩ := h1; obtain ⟨rs, pc, e, h1⟩ := VC.open_cp hf; exact ⟨rs, pc, by rw [← Array.toList_inj]; exact e, h1⟩
  have k2 := h2
  have lt2 : ∀ x ∈ p2, x.block < W.heap.size := by obtain ⟨m, hm⟩ := k2; exact DataW.trod_lt m _ _ _ hm
  obtain ⟨xs2, rfl⟩ := VC.okWide_str Try.underlying40 (hval 2 40 v2 rfl rfl)
  obtain ⟨O2, rfl, hl2⟩ : ∃ r : VC.Ot, xs2 = (VC.oL r).toArray ∧ VC.ook r := by obtain ⟨fuel, hf⟩ := h2; obtain ⟨s, e, h1⟩ := VC.open_out hf; exact ⟨s, by rw [← Array.toList_inj]; exact e, h1⟩
  clear hA0 hval0
  refine (walk R0 rs1 pc1 O2 W hl0 hl1 hl2).mono fun e W' ⟨he, bel⟩ => ?_
  subst he
  exact ⟨_, rfl, _, _, _, [], _, [], hW', trodAll_mk1 (shut_bool Try.underlying4 _), (trodAll_cons_mk (Below.trod laidOut (by kernel_rfl) (of_decide_eq_true (by kernel_rfl)) k0 bel lt0) (trodAll_cons_mk (Below.trod laidOut (by kernel_rfl) (of_decide_eq_true (by kernel_rfl)) k1 bel lt1) (trodAll_cons_mk (Below.trod laidOut (by kernel_rfl) (of_decide_eq_true (by kernel_rfl)) k2 bel lt2) trodAll_mk0))), rfl, bel.frame _, fun h => by cases h⟩

theorem over : Rows.recLeavesRow.holds Try.pinned (OpenSpec.ofChange Rows.recLeavesSpec) :=
  OpenClaim.holds_of_wide 4 Try.f4 rfl rfl rfl rfl rfl rfl rfl ⟨rfl, rfl, rfl, rfl, rfl⟩ rfl rfl rfl rfl rfl (by kernel_rfl) Try.func4 (by kernel_rfl)
    (of_decide_eq_true (by kernel_rfl)) (by unfold Func.isWrapper; first | (rw [if_pos (by decide +kernel)]; kernel_rfl) | (rw [if_neg (by decide +kernel)]; exact ⟨rfl, rfl⟩))
    (fun os started H enc _ => lifted os started H enc)

end Go.Proofs.Ytpdafjamhccbnaa.recLeaves
namespace Go.Proofs.Ytpdafjamhccbnaa
theorem recLeaves_holds : Rows.RecLeavesSaid := recLeaves.over
#print axioms recLeaves_holds
end Go.Proofs.Ytpdafjamhccbnaa
