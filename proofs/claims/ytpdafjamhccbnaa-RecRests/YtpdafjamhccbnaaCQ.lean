/- RecRests: for any vCPU, whatever comes in and is told, the statement's function answers true. No condition. -/
import Derived.Test.YtpdafjamhccbnaaCN
import Derived.Test.YtpdafjamhccbnaaCO
import Derived.Test.YtpdafjamhccbnaaCP
import Derived.Carry
set_option linter.unusedVariables false
set_option linter.unusedSimpArgs false
namespace Go.Proofs.Ytpdafjamhccbnaa.recRests
open Go.ChangeShapes Go.WideShapes Go.ChangeAt Go.RowKit
open Go.Proofs.Ytpdafjamhccbnaa.VC

theorem RS_tail {w X : World} {r : Nat × TypeId × List Value} {rows : List (Nat × TypeId × List Value)} (h : RS w (r :: rows) X) : RS w rows X :=
  ⟨h.bel, fun q hq => h.low q (List.mem_cons_of_mem _ hq), (List.nodup_cons.1 (by simpa using h.nd)).2, fun q hq => h.row q (List.mem_cons_of_mem _ hq)⟩
theorem en_same {r : Rc} {ns : List Int} (h : r.rs.length = 8) (h4 : ns.length = 4) (k : Nat) (hk : 3 < k ∨ r.wt ≠ 1) : (enR r ns).rs.getD k 0 = r.rs.getD k 0 := by
  unfold enR
  simp only
  split
  · rename_i hw
    have h3 : 3 < k := hk.resolve_right (fun q => q hw)
    rw [List.getD, List.getD, List.getElem?_append_right (by omega), List.getElem?_drop, h4, show 4 + (k - 4) = k by omega]
  · rfl
theorem lv_en (r : Rc) (ns : List Int) : lvR (enR r ns) (enR r ns).rs (enR r ns).pc ⟨1, Z4, 0, false, 0⟩ = enR r ns := rfl
theorem ns_zero {o : Ot} (hm : mt o = true) (h2 : o.re ≠ 2) : o.ns = Z4 := by
  unfold VC.mt at hm
  simp only [Bool.and_eq_true, Bool.or_eq_true, decide_eq_true_eq] at hm
  have := hm.2.1.resolve_left h2
  simpa using this
theorem wo_zero {o : Ot} (ho : ook o) (hm : mt o = true) (h2 : o.re ≠ 2) (i : Nat) (h1 : 1 ≤ i) (h5 : i < 5) : wo (gr (ow o)) i = 0 := by
  rw [wo_gr (ow o) (ow_u ho hm) i (by rw [ow_len ho.n.len]; omega)]
  unfold ow
  rw [ns_zero hm h2]
  have : i = 1 ∨ i = 2 ∨ i = 3 ∨ i = 4 := by omega
  rcases this with rfl | rfl | rfl | rfl <;> rfl
theorem bldF (W : World) : (Instr.build 40 #[(0, .int .i64 1)]).run Try.prog W = .ok (.agg (oL ⟨1, Z4, 0, false, 0⟩).toArray) W := by kernel_rfl
theorem leave_fuel (r : Rc) (ns : List Int) (h : (enR r ns).rs.length = 8) (W : World) : Calls Try.prog 11 #[.agg (rL (enR r ns)).toArray, .agg (cL (enR r ns).rs (enR r ns).pc).toArray, .agg (oL ⟨1, Z4, 0, false, 0⟩).toArray] W fun e w' => e = .returned (.tuple #[.agg (rL (enR r ns)).toArray, .int .i64 0]) ∧ Below W.heap.size W w' :=
  leave_any (enR r ns) (enR r ns).rs (enR r ns).pc ⟨1, Z4, 0, false, 0⟩ h h rfl (by decide) W
theorem rL_pc {r : Rc} (h : r.rs.length = 8) : (rL r)[10]? = some (.int .u64 r.pc) := by
  obtain ⟨a, b, c, d, e, f, g, k, hk⟩ := eight h
  unfold rL; rw [hk]; rfl
theorem rL_reg {r : Rc} (h : r.rs.length = 8) (k : Nat) (hk : k < 8) : (rL r)[2 + k]? = some (.int .u64 (r.rs.getD k 0)) := by
  have h1 := rL_rs h
  have h2 : (((rL r).drop 2).take 8)[k]? = some (.int .u64 (r.rs.getD k 0)) := by rw [h1]; exact U_get r.rs k (by omega)
  rw [List.getElem?_take_of_lt hk, List.getElem?_drop] at h2
  exact h2
set_option maxHeartbeats 2000000 in
set_option maxRecDepth 100000 in
theorem walk_a (r : Rc) (ns : List Int) (o : Ot) (w : World) (hr : rok r) (hn : nok ns) (ho : ook o) (hmt : mt o = false) : Calls Try.prog 6 #[.agg (rL r).toArray, .agg (ns.map U).toArray, .agg (oL o).toArray] w fun e w' => e = .returned (.bool true) ∧ Below w.heap.size w w' := by
  have HK : Hid (∀ W, Calls Try.prog 10 #[] W fun e w' => e = .returned (.bool true) ∧ Below W.heap.size W w') := fun W => known_any W
  have h8 := hr.c.len
  have h4 := hn.len
  have h4o := ho.n.len
  have hz := zero13
  obtain ⟨ZL, hZL⟩ : ∃ L, L = rL r0 := ⟨_, rfl⟩
  have HZN : Hid (ZL.length = 13) := by rw [hZL]; rfl
  have HZ1 : Hid (ZL.toArray.all (·.oneCell') = true) := by show _ = _; rw [hZL]; exact rL_one r0
  rw [← hZL] at hz
  have HMY : Hid (∀ W, Calls Try.prog 16 #[.agg (oL o).toArray] W fun e w' => e = .returned (.bool (mt o)) ∧ Below W.heap.size W w') := fun W => lmay_any o ho W
  have HRL : Hid _ := rL_len h8
  have HIL : Hid ((ns.map U).length = 4) := by show _ = _; simpa using h4
  have HOL : Hid _ := oL_len h4o
  have HO0 : Hid _ := oL_re o
  have HR : Hid _ := (((RS.start w).alloc _ rfl 28 (rL r)).alloc (w.heap.size + 1) (by simp) 31 (ns.map U)).alloc (w.heap.size + 1 + 1) (by simp) 40 (oL o)
  rw [hmt] at HMY
  generalize oL o = OL at *
  generalize o.re = re at *
  cases hmr : mayR r
  · have HE : Hid (∀ W, Calls Try.prog 8 #[.agg (rL r).toArray, .agg (ns.map U).toArray] W fun e w' => e = .returned (.tuple #[.agg ZL.toArray, .int .i64 7]) ∧ Below W.heap.size W w') := fun W => by rw [hZL]; exact enter_bad r ns h8 h4 hmr W
    generalize rL r = RL at *
    generalize ns.map U = IL at *
    clear hZL h8 h4 h4o hr hn ho hmt hmr
    go_enter Try.func6, Try.ntmps6
    go_wp2_with (refine wpList_load_mid rfl 40 (.tmp 5) rfl (w.heap.size + 1 + 1) 0 rfl OL _ (rangeAt_row (HR.out.at 0 rfl)) Try.underlying40 rfl (info8o OL HOL.out) ?_)
    refine Calls.mono (HMY.out _) ?_
    rintro e X0 ⟨rfl, b1⟩
    have HR8 : Hid _ := HR.out.step b1
    have hc0 := HR8.out.cell 0 rfl 0 HO0.out
    clear b1 HR HMY
    go_wp2_with (first
      | (refine wpList_load_mid rfl 28 (.tmp 3) rfl w.heap.size 0 rfl RL _ (rangeAt_row (HR8.out.at 2 rfl)) Try.underlying28 rfl (info13 RL HRL.out) ?_)
      | (refine wpList_load_mid rfl 31 (.tmp 4) rfl (w.heap.size + 1) 0 rfl IL _ (rangeAt_row (HR8.out.at 1 rfl)) Try.underlying31 rfl (info4i IL HIL.out) ?_))
    refine Calls.mono (HE.out _) ?_
    rintro e X1 ⟨rfl, b1⟩
    have R1 := (HR8.out.step b1).alloc _ rfl 28 ZL
    have HR1 : Hid _ := R1
    have HR2 : Hid _ := R1.put 0 rfl ZL
    clear b1 R1 HR8
    go_wp2_with (refine wpList_store_rowL rfl 28 (.tmp 10) (.tmp 43) rfl X1.heap.size ZL.toArray rfl rfl 28 ZL.toArray (HR1.out.at 0 rfl) (info13a ZL HZN.out) rfl HZ1.out ?_
                 intro V1 hV1
                 rw [← hV1] at HR2
                 clear hV1 HR1)
    refine Calls.mono (HK.out _) ?_
    rintro e V3 ⟨rfl, b3⟩
    go_wp2
    go_ret
    exact ⟨rfl, (HR2.out.step b3).bel⟩
  · skip
    have HE : Hid (∀ W, Calls Try.prog 8 #[.agg (rL r).toArray, .agg (ns.map U).toArray] W fun e w' => e = .returned (.tuple #[.agg (rL (enR r ns)).toArray, .int .i64 0]) ∧ Below W.heap.size W w') := fun W => enter_ok r ns h8 h4 hmr W
    have hel := enR_len h8 h4
    have HLF : Hid _ := leave_fuel r ns hel
    have HNL : Hid _ := rL_len hel
    have HN1 : Hid _ := rL_one (enR r ns)
    have HCL : Hid _ := cL_len (pc := (enR r ns).pc) hel
    have HCP : Hid _ := rL_cp hel
    have HBF : Hid _ := bldF
    have HN0 : Hid ((rL (enR r ns))[0]? = some (.int .i64 r.rd)) := rfl
    have HNi : Hid ((rL (enR r ns))[1]? = some (.int .u64 r.ins)) := rfl
    have HR0c : Hid ((rL r)[0]? = some (.int .i64 r.rd)) := rfl
    have HRi : Hid ((rL r)[1]? = some (.int .u64 r.ins)) := rfl
    have HNr : Hid ((rL (enR r ns))[11]? = some (.bool r.rn)) := rL_rn hel
    have HRr : Hid _ := rL_rn h8
    have HNw : Hid ((rL (enR r ns))[12]? = some (.int .i64 0)) := rL_wt hel
    have HRw : Hid _ := rL_wt h8
    have HNp : Hid ((rL (enR r ns))[10]? = some (.int .u64 r.pc)) := rL_pc hel
    have HRp : Hid _ := rL_pc h8
    have HCE : Hid (∀ k, k < 8 → (rL (enR r ns))[2 + k]? = some (.int .u64 ((enR r ns).rs.getD k 0)) ∧ (rL r)[2 + k]? = some (.int .u64 (r.rs.getD k 0)) ∧ ((3 < k ∨ r.wt ≠ 1) → (enR r ns).rs.getD k 0 = r.rs.getD k 0)) := fun k hk => ⟨rL_reg hel k hk, rL_reg h8 k hk, en_same h8 h4 k⟩
    generalize rL (enR r ns) = NL at *
    generalize cL (enR r ns).rs (enR r ns).pc = CL at *
    generalize oL ⟨1, Z4, 0, false, 0⟩ = FL at *
    generalize r.wt = WT at *
    generalize r.rd = rd at *
    generalize r.ins = ins at *
    generalize r.pc = rpc at *
    generalize r.rn = rrn at *
    clear hel
    generalize rL r = RL at *
    generalize ns.map U = IL at *
    clear hZL h8 h4 h4o hr hn ho hmt hmr
    go_enter Try.func6, Try.ntmps6
    go_wp2_with (refine wpList_load_mid rfl 40 (.tmp 5) rfl (w.heap.size + 1 + 1) 0 rfl OL _ (rangeAt_row (HR.out.at 0 rfl)) Try.underlying40 rfl (info8o OL HOL.out) ?_)
    refine Calls.mono (HMY.out _) ?_
    rintro e X0 ⟨rfl, b1⟩
    have HR8 : Hid _ := HR.out.step b1
    have hc0 := HR8.out.cell 0 rfl 0 HO0.out
    clear b1 HR HMY
    go_wp2_with (first
      | (refine wpList_load_mid rfl 28 (.tmp 3) rfl w.heap.size 0 rfl RL _ (rangeAt_row (HR8.out.at 2 rfl)) Try.underlying28 rfl (info13 RL HRL.out) ?_)
      | (refine wpList_load_mid rfl 31 (.tmp 4) rfl (w.heap.size + 1) 0 rfl IL _ (rangeAt_row (HR8.out.at 1 rfl)) Try.underlying31 rfl (info4i IL HIL.out) ?_))
    refine Calls.mono (HE.out _) ?_
    rintro e X1 ⟨rfl, b1⟩
    have R1 := (HR8.out.step b1).alloc _ rfl 28 ZL
    have HR1 : Hid _ := R1
    have HR2 : Hid _ := R1.put 0 rfl NL
    clear b1 R1 HR8
    go_wp2_with (first
      | (refine wpList_store_rowL rfl 28 (.tmp 10) (.tmp 43) rfl X1.heap.size NL.toArray rfl rfl 28 ZL.toArray (HR1.out.at 0 rfl) (info13a NL HNL.out) (by simp [HZN.out, HNL.out]) HN1.out ?_
         intro V1 hV1
         rw [← hV1] at HR2
         clear hV1 HR1)
      | (refine wpList_load_mid rfl 28 (.tmp 10) rfl X1.heap.size 0 rfl NL _ (rangeAt_row (HR2.out.at 0 rfl)) Try.underlying28 rfl (info13 NL HNL.out) ?_)
      | (refine wpList_load_mid rfl 25 (.tmp 50) rfl X1.heap.size 2 rfl CL _ (by have q := rangeAt_part (rangeAt_row (HR2.out.at 0 rfl)) 2 9; rw [HCP.out, Nat.zero_add] at q; exact q) Try.underlying25 rfl (info9 CL HCL.out) ?_)
      | (refine build_g (by rfl) 40 #[(0, .const (.int .i64 1))] rfl #[(0, .int .i64 1)] (.agg FL.toArray) (by simp [Act.eval]) (HBF.out _) ?_))
    refine Calls.mono (HLF.out _) ?_
    rintro e X3 ⟨rfl, b3⟩
    have R3 := (HR2.out.step b3).alloc _ rfl 28 ZL
    have HR3 : Hid _ := R3
    have HR4 : Hid _ := R3.put 0 rfl NL
    clear b3 R3 HR2
    generalize X1.heap.size = n1 at *
    go_wp2_with (refine wpList_store_rowL rfl 28 (.tmp 12) (.tmp 54) rfl X3.heap.size NL.toArray rfl rfl 28 ZL.toArray (HR3.out.at 0 rfl) (info13a NL HNL.out) (by simp [HZN.out, HNL.out]) HN1.out ?_
                 intro V4 hV4
                 rw [← hV4] at HR4
                 have a0 := HR4.out.cell 0 rfl 0 HN0.out
                 have a1 := HR4.out.cell 0 rfl 1 HNi.out
                 have a2 := HR4.out.cell 0 rfl 10 HNp.out
                 have a3 := HR4.out.cell 0 rfl 11 HNr.out
                 have a4 := HR4.out.cell 0 rfl 12 HNw.out
                 have c0 := HR4.out.cell 4 rfl 0 HR0c.out
                 have c1 := HR4.out.cell 4 rfl 1 HRi.out
                 have c2 := HR4.out.cell 4 rfl 10 HRp.out
                 have c3 := HR4.out.cell 4 rfl 11 HRr.out
                 clear hV4 HR3)
    generalize X3.heap.size = n3 at *
    clear a0 a1 a2 a3 a4 c0 c1 c2 c3
    go_loopw [14] (fun i wr => ∃ k : Nat, k ≤ 8 ∧ i = .int .i64 k ∧ RS w [(n3, 28, NL), (n1, 28, NL), (w.heap.size + 1 + 1, 40, OL), (w.heap.size + 1, 31, IL), (w.heap.size, 28, RL)] wr) (fun i _ => 8 - (intOf i).toNat)
    case atStart => exact ⟨0, by omega, rfl, HR4.out⟩
    case round =>
      obtain ⟨k, hk, rfl, hR⟩ := hrel
      clear HR4
      by_cases hlt : k < 8
      · obtain ⟨y1, y2, y3⟩ := HCE.out k hlt
        have d1 := hR.cell 0 rfl (2 + k) y1
        have d2 := hR.cell 4 rfl (2 + k) y2
        have d3 := hR.cell 4 rfl 12 HRw.out
        have HR5 : Hid _ := hR
        have hkI : (k : Int) < 8 := by omega
        generalize (enR r ns).rs.getD k 0 = y at *
        generalize r.rs.getD k 0 = x at *
        by_cases hxy : y = x
        · have hb : (y != x) = false := by simpa using hxy
          clear hR y1 y2 y3 hxy
          go_wp2
          go_quiet (fail)
          go_wp2
          go_roundw
          case rel => exact ⟨k + 1, by omega, by go_num, HR5.out.step ⟨rfl, rfl, rfl, Nat.le_refl _, fun _ _ => rfl⟩⟩
          case measure => simp [intOf]; omega
        · have hb : (y != x) = true := by simpa using hxy
          have h3 : ¬ (3 < k) := fun q => hxy (y3 (Or.inl q))
          have hw1 : WT = 1 := Classical.byContradiction fun q => hxy (y3 (Or.inr q))
          have hd : decide ((3 : Int) < (k : Int)) = false := decide_eq_false (by omega)
          rw [hw1] at d3
          clear hR y1 y2 y3 hxy h3 hw1
          go_wp2
          go_quiet (fail)
          go_wp2
          go_roundw
          case rel => exact ⟨k + 1, by omega, by go_num, HR5.out.step ⟨rfl, rfl, rfl, Nat.le_refl _, fun _ _ => rfl⟩⟩
          case measure => simp [intOf]; omega
      · have HR5 : Hid _ := hR
        have hkI : ¬ ((k : Int) < 8) := by omega
        clear hR hlt hk
        go_wp2_with fail
        refine Calls.mono (HK.out _) ?_
        rintro e V8 ⟨rfl, b8⟩
        go_wp2
        go_ret
        exact ⟨rfl, (HR5.out.step b8).bel⟩
set_option maxHeartbeats 2000000 in
set_option maxRecDepth 100000 in
theorem walk_b (r : Rc) (ns : List Int) (o : Ot) (w : World) (hr : rok r) (hn : nok ns) (ho : ook o) (hmt : VC.mt o = true) (hre : o.re = 2) : Calls Try.prog 6 #[.agg (rL r).toArray, .agg (ns.map U).toArray, .agg (oL o).toArray] w fun e w' => e = .returned (.bool true) ∧ Below w.heap.size w w' := by
  have HK : Hid (∀ W, Calls Try.prog 10 #[] W fun e w' => e = .returned (.bool true) ∧ Below W.heap.size W w') := fun W => known_any W
  have h8 := hr.c.len
  have h4 := hn.len
  have h4o := ho.n.len
  have hz := zero13
  obtain ⟨ZL, hZL⟩ : ∃ L, L = rL r0 := ⟨_, rfl⟩
  have HZN : Hid (ZL.length = 13) := by rw [hZL]; rfl
  have HZ1 : Hid (ZL.toArray.all (·.oneCell') = true) := by show _ = _; rw [hZL]; exact rL_one r0
  rw [← hZL] at hz
  have HMY : Hid (∀ W, Calls Try.prog 16 #[.agg (oL o).toArray] W fun e w' => e = .returned (.bool (mt o)) ∧ Below W.heap.size W w') := fun W => lmay_any o ho W
  have HRL : Hid _ := rL_len h8
  have HIL : Hid ((ns.map U).length = 4) := by show _ = _; simpa using h4
  have HOL : Hid _ := oL_len h4o
  have HO0 : Hid _ := oL_re o
  have HR : Hid _ := (((RS.start w).alloc _ rfl 28 (rL r)).alloc (w.heap.size + 1) (by simp) 31 (ns.map U)).alloc (w.heap.size + 1 + 1) (by simp) 40 (oL o)
  rw [hmt] at HMY
  rw [hre] at HO0
  generalize oL o = OL at *
  cases hmr : mayR r
  · have HE : Hid (∀ W, Calls Try.prog 8 #[.agg (rL r).toArray, .agg (ns.map U).toArray] W fun e w' => e = .returned (.tuple #[.agg ZL.toArray, .int .i64 7]) ∧ Below W.heap.size W w') := fun W => by rw [hZL]; exact enter_bad r ns h8 h4 hmr W
    generalize rL r = RL at *
    generalize ns.map U = IL at *
    clear hZL h8 h4 h4o hr hn ho hmt hmr hre
    go_enter Try.func6, Try.ntmps6
    go_wp2_with (refine wpList_load_mid rfl 40 (.tmp 5) rfl (w.heap.size + 1 + 1) 0 rfl OL _ (rangeAt_row (HR.out.at 0 rfl)) Try.underlying40 rfl (info8o OL HOL.out) ?_)
    refine Calls.mono (HMY.out _) ?_
    rintro e X0 ⟨rfl, b1⟩
    have HR8 : Hid _ := HR.out.step b1
    have hc0 := HR8.out.cell 0 rfl 0 HO0.out
    clear b1 HR HMY
    go_wp2_with (first
      | (refine wpList_load_mid rfl 28 (.tmp 3) rfl w.heap.size 0 rfl RL _ (rangeAt_row (HR8.out.at 2 rfl)) Try.underlying28 rfl (info13 RL HRL.out) ?_)
      | (refine wpList_load_mid rfl 31 (.tmp 4) rfl (w.heap.size + 1) 0 rfl IL _ (rangeAt_row (HR8.out.at 1 rfl)) Try.underlying31 rfl (info4i IL HIL.out) ?_))
    refine Calls.mono (HE.out _) ?_
    rintro e X1 ⟨rfl, b1⟩
    have R1 := (HR8.out.step b1).alloc _ rfl 28 ZL
    have HR1 : Hid _ := R1
    have HR2 : Hid _ := R1.put 0 rfl ZL
    clear b1 R1 HR8
    go_wp2_with (refine wpList_store_rowL rfl 28 (.tmp 10) (.tmp 43) rfl X1.heap.size ZL.toArray rfl rfl 28 ZL.toArray (HR1.out.at 0 rfl) (info13a ZL HZN.out) rfl HZ1.out ?_
                 intro V1 hV1
                 rw [← hV1] at HR2
                 clear hV1 HR1)
    refine Calls.mono (HK.out _) ?_
    rintro e V3 ⟨rfl, b3⟩
    go_wp2
    go_ret
    exact ⟨rfl, (HR2.out.step b3).bel⟩
  · skip
    have HE : Hid (∀ W, Calls Try.prog 8 #[.agg (rL r).toArray, .agg (ns.map U).toArray] W fun e w' => e = .returned (.tuple #[.agg (rL (enR r ns)).toArray, .int .i64 0]) ∧ Below W.heap.size W w') := fun W => enter_ok r ns h8 h4 hmr W
    have hel := enR_len h8 h4
    have HLF : Hid _ := leave_fuel r ns hel
    have HNL : Hid _ := rL_len hel
    have HN1 : Hid _ := rL_one (enR r ns)
    have HCL : Hid _ := cL_len (pc := (enR r ns).pc) hel
    have HCP : Hid _ := rL_cp hel
    have HBF : Hid _ := bldF
    have HN0 : Hid ((rL (enR r ns))[0]? = some (.int .i64 r.rd)) := rfl
    have HNi : Hid ((rL (enR r ns))[1]? = some (.int .u64 r.ins)) := rfl
    have HR0c : Hid ((rL r)[0]? = some (.int .i64 r.rd)) := rfl
    have HRi : Hid ((rL r)[1]? = some (.int .u64 r.ins)) := rfl
    have HNr : Hid ((rL (enR r ns))[11]? = some (.bool r.rn)) := rL_rn hel
    have HRr : Hid _ := rL_rn h8
    have HNw : Hid ((rL (enR r ns))[12]? = some (.int .i64 0)) := rL_wt hel
    have HRw : Hid _ := rL_wt h8
    have HNp : Hid ((rL (enR r ns))[10]? = some (.int .u64 r.pc)) := rL_pc hel
    have HRp : Hid _ := rL_pc h8
    have HCE : Hid (∀ k, k < 8 → (rL (enR r ns))[2 + k]? = some (.int .u64 ((enR r ns).rs.getD k 0)) ∧ (rL r)[2 + k]? = some (.int .u64 (r.rs.getD k 0)) ∧ ((3 < k ∨ r.wt ≠ 1) → (enR r ns).rs.getD k 0 = r.rs.getD k 0)) := fun k hk => ⟨rL_reg hel k hk, rL_reg h8 k hk, en_same h8 h4 k⟩
    generalize rL (enR r ns) = NL at *
    generalize cL (enR r ns).rs (enR r ns).pc = CL at *
    generalize oL ⟨1, Z4, 0, false, 0⟩ = FL at *
    generalize r.wt = WT at *
    generalize r.rd = rd at *
    generalize r.ins = ins at *
    generalize r.pc = rpc at *
    generalize r.rn = rrn at *
    clear hel
    generalize rL r = RL at *
    generalize ns.map U = IL at *
    clear hZL h8 h4 h4o hr hn ho hmt hmr hre
    go_enter Try.func6, Try.ntmps6
    go_wp2_with (refine wpList_load_mid rfl 40 (.tmp 5) rfl (w.heap.size + 1 + 1) 0 rfl OL _ (rangeAt_row (HR.out.at 0 rfl)) Try.underlying40 rfl (info8o OL HOL.out) ?_)
    refine Calls.mono (HMY.out _) ?_
    rintro e X0 ⟨rfl, b1⟩
    have HR8 : Hid _ := HR.out.step b1
    have hc0 := HR8.out.cell 0 rfl 0 HO0.out
    clear b1 HR HMY
    go_wp2_with (first
      | (refine wpList_load_mid rfl 28 (.tmp 3) rfl w.heap.size 0 rfl RL _ (rangeAt_row (HR8.out.at 2 rfl)) Try.underlying28 rfl (info13 RL HRL.out) ?_)
      | (refine wpList_load_mid rfl 31 (.tmp 4) rfl (w.heap.size + 1) 0 rfl IL _ (rangeAt_row (HR8.out.at 1 rfl)) Try.underlying31 rfl (info4i IL HIL.out) ?_))
    refine Calls.mono (HE.out _) ?_
    rintro e X1 ⟨rfl, b1⟩
    have R1 := (HR8.out.step b1).alloc _ rfl 28 ZL
    have HR1 : Hid _ := R1
    have HR2 : Hid _ := R1.put 0 rfl NL
    clear b1 R1 HR8
    go_wp2_with (first
      | (refine wpList_store_rowL rfl 28 (.tmp 10) (.tmp 43) rfl X1.heap.size NL.toArray rfl rfl 28 ZL.toArray (HR1.out.at 0 rfl) (info13a NL HNL.out) (by simp [HZN.out, HNL.out]) HN1.out ?_
         intro V1 hV1
         rw [← hV1] at HR2
         clear hV1 HR1)
      | (refine wpList_load_mid rfl 28 (.tmp 10) rfl X1.heap.size 0 rfl NL _ (rangeAt_row (HR2.out.at 0 rfl)) Try.underlying28 rfl (info13 NL HNL.out) ?_)
      | (refine wpList_load_mid rfl 25 (.tmp 50) rfl X1.heap.size 2 rfl CL _ (by have q := rangeAt_part (rangeAt_row (HR2.out.at 0 rfl)) 2 9; rw [HCP.out, Nat.zero_add] at q; exact q) Try.underlying25 rfl (info9 CL HCL.out) ?_)
      | (refine build_g (by rfl) 40 #[(0, .const (.int .i64 1))] rfl #[(0, .int .i64 1)] (.agg FL.toArray) (by simp [Act.eval]) (HBF.out _) ?_))
    refine Calls.mono (HLF.out _) ?_
    rintro e X3 ⟨rfl, b3⟩
    have R3 := (HR2.out.step b3).alloc _ rfl 28 ZL
    have HR3 : Hid _ := R3
    have HR4 : Hid _ := R3.put 0 rfl NL
    clear b3 R3 HR2
    generalize X1.heap.size = n1 at *
    go_wp2_with (refine wpList_store_rowL rfl 28 (.tmp 12) (.tmp 54) rfl X3.heap.size NL.toArray rfl rfl 28 ZL.toArray (HR3.out.at 0 rfl) (info13a NL HNL.out) (by simp [HZN.out, HNL.out]) HN1.out ?_
                 intro V4 hV4
                 rw [← hV4] at HR4
                 have a0 := HR4.out.cell 0 rfl 0 HN0.out
                 have a1 := HR4.out.cell 0 rfl 1 HNi.out
                 have a2 := HR4.out.cell 0 rfl 10 HNp.out
                 have a3 := HR4.out.cell 0 rfl 11 HNr.out
                 have a4 := HR4.out.cell 0 rfl 12 HNw.out
                 have c0 := HR4.out.cell 4 rfl 0 HR0c.out
                 have c1 := HR4.out.cell 4 rfl 1 HRi.out
                 have c2 := HR4.out.cell 4 rfl 10 HRp.out
                 have c3 := HR4.out.cell 4 rfl 11 HRr.out
                 clear hV4 HR3)
    generalize X3.heap.size = n3 at *
    clear a0 a1 a2 a3 a4 c0 c1 c2 c3
    go_loopw [14] (fun i wr => ∃ k : Nat, k ≤ 8 ∧ i = .int .i64 k ∧ RS w [(n3, 28, NL), (n1, 28, NL), (w.heap.size + 1 + 1, 40, OL), (w.heap.size + 1, 31, IL), (w.heap.size, 28, RL)] wr) (fun i _ => 8 - (intOf i).toNat)
    case atStart => exact ⟨0, by omega, rfl, HR4.out⟩
    case round =>
      obtain ⟨k, hk, rfl, hR⟩ := hrel
      clear HR4
      by_cases hlt : k < 8
      · obtain ⟨y1, y2, y3⟩ := HCE.out k hlt
        have d1 := hR.cell 0 rfl (2 + k) y1
        have d2 := hR.cell 4 rfl (2 + k) y2
        have d3 := hR.cell 4 rfl 12 HRw.out
        have HR5 : Hid _ := hR
        have hkI : (k : Int) < 8 := by omega
        generalize (enR r ns).rs.getD k 0 = y at *
        generalize r.rs.getD k 0 = x at *
        by_cases hxy : y = x
        · have hb : (y != x) = false := by simpa using hxy
          clear hR y1 y2 y3 hxy
          go_wp2
          go_quiet (fail)
          go_wp2
          go_roundw
          case rel => exact ⟨k + 1, by omega, by go_num, HR5.out.step ⟨rfl, rfl, rfl, Nat.le_refl _, fun _ _ => rfl⟩⟩
          case measure => simp [intOf]; omega
        · have hb : (y != x) = true := by simpa using hxy
          have h3 : ¬ (3 < k) := fun q => hxy (y3 (Or.inl q))
          have hw1 : WT = 1 := Classical.byContradiction fun q => hxy (y3 (Or.inr q))
          have hd : decide ((3 : Int) < (k : Int)) = false := decide_eq_false (by omega)
          rw [hw1] at d3
          clear hR y1 y2 y3 hxy h3 hw1
          go_wp2
          go_quiet (fail)
          go_wp2
          go_roundw
          case rel => exact ⟨k + 1, by omega, by go_num, HR5.out.step ⟨rfl, rfl, rfl, Nat.le_refl _, fun _ _ => rfl⟩⟩
          case measure => simp [intOf]; omega
      · have HR5 : Hid _ := hR
        have hkI : ¬ ((k : Int) < 8) := by omega
        clear hR hlt hk
        go_wp2_with fail
        refine Calls.mono (HK.out _) ?_
        rintro e V8 ⟨rfl, b8⟩
        go_wp2
        go_ret
        exact ⟨rfl, (HR5.out.step b8).bel⟩
set_option maxHeartbeats 4000000 in
set_option maxRecDepth 100000 in
theorem walk_c (r : Rc) (ns : List Int) (o : Ot) (w : World) (hr : rok r) (hn : nok ns) (ho : ook o) (hmt : VC.mt o = true) (hre : o.re ≠ 2) : Calls Try.prog 6 #[.agg (rL r).toArray, .agg (ns.map U).toArray, .agg (oL o).toArray] w fun e w' => e = .returned (.bool true) ∧ Below w.heap.size w w' := by
  have HK : Hid (∀ W, Calls Try.prog 10 #[] W fun e w' => e = .returned (.bool true) ∧ Below W.heap.size W w') := fun W => known_any W
  have h8 := hr.c.len
  have h4 := hn.len
  have h4o := ho.n.len
  have hz := zero13
  obtain ⟨ZL, hZL⟩ : ∃ L, L = rL r0 := ⟨_, rfl⟩
  have HZN : Hid (ZL.length = 13) := by rw [hZL]; rfl
  have HZ1 : Hid (ZL.toArray.all (·.oneCell') = true) := by show _ = _; rw [hZL]; exact rL_one r0
  rw [← hZL] at hz
  have HMY : Hid (∀ W, Calls Try.prog 16 #[.agg (oL o).toArray] W fun e w' => e = .returned (.bool (mt o)) ∧ Below W.heap.size W w') := fun W => lmay_any o ho W
  have HRL : Hid _ := rL_len h8
  have HIL : Hid ((ns.map U).length = 4) := by show _ = _; simpa using h4
  have HOL : Hid _ := oL_len h4o
  have HO0 : Hid _ := oL_re o
  have HR : Hid _ := (((RS.start w).alloc _ rfl 28 (rL r)).alloc (w.heap.size + 1) (by simp) 31 (ns.map U)).alloc (w.heap.size + 1 + 1) (by simp) 40 (oL o)
  rw [hmt] at HMY
  have HOB : Hid (∀ W, Calls Try.prog 15 #[.agg (oL o).toArray] W fun e w' => e = .returned (.tuple #[.agg ((gr (ow o)).map B8).toArray, .int .i64 0]) ∧ Below W.heap.size W w') := fun W => outBytes_ok o ho hmt W
  have hgl : (gr (ow o)).length = 128 := by rw [gr_len, ow_len h4o]
  have HGL : Hid (((gr (ow o)).map B8).length = 128) := by show _ = _; rw [List.length_map]; exact hgl
  have HG1 : Hid _ := B8_onea (gr (ow o))
  have HWD : Hid (∀ i : Nat, 1 ≤ i → i < 5 → ∀ W, Calls Try.prog 19 #[.agg ((gr (ow o)).map B8).toArray, .int .i64 (i : Int)] W fun e w' => e = .returned (.int .u64 0) ∧ Below W.heap.size W w') := fun i h1 h5 W => by have q := lword_any (gr (ow o)) i hgl (by omega) W; rw [wo_zero ho hmt hre i h1 h5] at q; exact q
  have hzg := zero_gr
  obtain ⟨ZG, hZG⟩ : ∃ L, L = Z128.map B8 := ⟨_, rfl⟩
  have HZG : Hid (ZG.length = 128) := by show _ = _; rw [hZG, List.length_map, z128_len]
  rw [← hZG] at hzg
  have hreb : (o.re != 2) = true := by simpa using hre
  generalize (gr (ow o)).map B8 = GL at *
  clear hZG hgl
  generalize oL o = OL at *
  generalize o.re = re at *
  cases hmr : mayR r
  · have HE : Hid (∀ W, Calls Try.prog 8 #[.agg (rL r).toArray, .agg (ns.map U).toArray] W fun e w' => e = .returned (.tuple #[.agg ZL.toArray, .int .i64 7]) ∧ Below W.heap.size W w') := fun W => by rw [hZL]; exact enter_bad r ns h8 h4 hmr W
    generalize rL r = RL at *
    generalize ns.map U = IL at *
    clear hZL h8 h4 h4o hr hn ho hmt hmr hre
    go_enter Try.func6, Try.ntmps6
    go_wp2_with (refine wpList_load_mid rfl 40 (.tmp 5) rfl (w.heap.size + 1 + 1) 0 rfl OL _ (rangeAt_row (HR.out.at 0 rfl)) Try.underlying40 rfl (info8o OL HOL.out) ?_)
    refine Calls.mono (HMY.out _) ?_
    rintro e X0 ⟨rfl, b1⟩
    have HR8 : Hid _ := HR.out.step b1
    have hc0 := HR8.out.cell 0 rfl 0 HO0.out
    clear b1 HR HMY
    have HR9 : Hid _ := HR8.out
    clear HR8
    go_wp2_with (refine wpList_load_mid rfl 40 (.tmp 5) rfl (w.heap.size + 1 + 1) 0 rfl OL _ (rangeAt_row (HR9.out.at 0 rfl)) Try.underlying40 rfl (info8o OL HOL.out) ?_)
    refine Calls.mono (HOB.out _) ?_
    rintro e Y1 ⟨rfl, b1⟩
    have R1 := (HR9.out.step b1).alloc _ rfl 45 ZG
    have HRa : Hid _ := R1
    have HRb : Hid _ := R1.put 0 rfl GL
    clear b1 R1 HR9 hc0
    go_wp2_with (refine wpList_store_rowL rfl 45 (.tmp 7) (.tmp 25) rfl Y1.heap.size GL.toArray rfl rfl 45 ZG.toArray (HRa.out.at 0 rfl) (info128a GL HGL.out) (by simp [HZG.out, HGL.out]) HG1.out ?_
                 intro Y2 hY2
                 rw [← hY2] at HRb
                 clear hY2 HRa)
    generalize Y1.heap.size = n0 at *
    go_loopw [9] (fun i wr => ∃ k : Nat, 1 ≤ k ∧ k ≤ 5 ∧ i = .int .i64 k ∧ RS w [(n0, 45, GL), (w.heap.size + 1 + 1, 40, OL), (w.heap.size + 1, 31, IL), (w.heap.size, 28, RL)] wr) (fun i _ => 5 - (intOf i).toNat)
    case atStart => exact ⟨1, by omega, by omega, rfl, HRb.out⟩
    case round =>
      obtain ⟨k, hk1, hk, rfl, hR⟩ := hrel
      clear HRb
      by_cases hlt : k < 5
      · have HR5 : Hid _ := hR
        have HWK : Hid _ := HWD.out k hk1 hlt
        have hkI : (k : Int) < 5 := by omega
        clear hR
        go_wp2_with (refine load_mid_g (by rfl) 45 (.tmp 7) rfl n0 0 rfl GL _ (rangeAt_row (HR5.out.at 0 rfl)) Try.underlying45 rfl (info128 GL HGL.out) ?_)
        refine Calls.mono (HWK.out _) ?_
        rintro e Y3 ⟨rfl, b3⟩
        have HR6 : Hid _ := HR5.out.step b3
        clear b3 HR5 HWK
        go_wp2
        go_roundw
        case rel => exact ⟨k + 1, by omega, by omega, by go_num, HR6.out⟩
        case measure => simp [intOf]; omega
      · have HR8 : Hid _ := RS_tail hR
        have hkI : ¬ ((k : Int) < 5) := by omega
        clear hR hlt hk hk1
        go_wp2_with (first
          | (refine wpList_load_mid rfl 28 (.tmp 3) rfl w.heap.size 0 rfl RL _ (rangeAt_row (HR8.out.at 2 rfl)) Try.underlying28 rfl (info13 RL HRL.out) ?_)
          | (refine wpList_load_mid rfl 31 (.tmp 4) rfl (w.heap.size + 1) 0 rfl IL _ (rangeAt_row (HR8.out.at 1 rfl)) Try.underlying31 rfl (info4i IL HIL.out) ?_))
        refine Calls.mono (HE.out _) ?_
        rintro e X1 ⟨rfl, b1⟩
        have R1 := (HR8.out.step b1).alloc _ rfl 28 ZL
        have HR1 : Hid _ := R1
        have HR2 : Hid _ := R1.put 0 rfl ZL
        clear b1 R1 HR8
        go_wp2_with (refine wpList_store_rowL rfl 28 (.tmp 10) (.tmp 43) rfl X1.heap.size ZL.toArray rfl rfl 28 ZL.toArray (HR1.out.at 0 rfl) (info13a ZL HZN.out) rfl HZ1.out ?_
                     intro V1 hV1
                     rw [← hV1] at HR2
                     clear hV1 HR1)
        refine Calls.mono (HK.out _) ?_
        rintro e V3 ⟨rfl, b3⟩
        go_wp2
        go_ret
        exact ⟨rfl, (HR2.out.step b3).bel⟩
  · skip
    have HE : Hid (∀ W, Calls Try.prog 8 #[.agg (rL r).toArray, .agg (ns.map U).toArray] W fun e w' => e = .returned (.tuple #[.agg (rL (enR r ns)).toArray, .int .i64 0]) ∧ Below W.heap.size W w') := fun W => enter_ok r ns h8 h4 hmr W
    have hel := enR_len h8 h4
    have HLF : Hid _ := leave_fuel r ns hel
    have HNL : Hid _ := rL_len hel
    have HN1 : Hid _ := rL_one (enR r ns)
    have HCL : Hid _ := cL_len (pc := (enR r ns).pc) hel
    have HCP : Hid _ := rL_cp hel
    have HBF : Hid _ := bldF
    have HN0 : Hid ((rL (enR r ns))[0]? = some (.int .i64 r.rd)) := rfl
    have HNi : Hid ((rL (enR r ns))[1]? = some (.int .u64 r.ins)) := rfl
    have HR0c : Hid ((rL r)[0]? = some (.int .i64 r.rd)) := rfl
    have HRi : Hid ((rL r)[1]? = some (.int .u64 r.ins)) := rfl
    have HNr : Hid ((rL (enR r ns))[11]? = some (.bool r.rn)) := rL_rn hel
    have HRr : Hid _ := rL_rn h8
    have HNw : Hid ((rL (enR r ns))[12]? = some (.int .i64 0)) := rL_wt hel
    have HRw : Hid _ := rL_wt h8
    have HNp : Hid ((rL (enR r ns))[10]? = some (.int .u64 r.pc)) := rL_pc hel
    have HRp : Hid _ := rL_pc h8
    have HCE : Hid (∀ k, k < 8 → (rL (enR r ns))[2 + k]? = some (.int .u64 ((enR r ns).rs.getD k 0)) ∧ (rL r)[2 + k]? = some (.int .u64 (r.rs.getD k 0)) ∧ ((3 < k ∨ r.wt ≠ 1) → (enR r ns).rs.getD k 0 = r.rs.getD k 0)) := fun k hk => ⟨rL_reg hel k hk, rL_reg h8 k hk, en_same h8 h4 k⟩
    generalize rL (enR r ns) = NL at *
    generalize cL (enR r ns).rs (enR r ns).pc = CL at *
    generalize oL ⟨1, Z4, 0, false, 0⟩ = FL at *
    generalize r.wt = WT at *
    generalize r.rd = rd at *
    generalize r.ins = ins at *
    generalize r.pc = rpc at *
    generalize r.rn = rrn at *
    clear hel
    generalize rL r = RL at *
    generalize ns.map U = IL at *
    clear hZL h8 h4 h4o hr hn ho hmt hmr hre
    go_enter Try.func6, Try.ntmps6
    go_wp2_with (refine wpList_load_mid rfl 40 (.tmp 5) rfl (w.heap.size + 1 + 1) 0 rfl OL _ (rangeAt_row (HR.out.at 0 rfl)) Try.underlying40 rfl (info8o OL HOL.out) ?_)
    refine Calls.mono (HMY.out _) ?_
    rintro e X0 ⟨rfl, b1⟩
    have HR8 : Hid _ := HR.out.step b1
    have hc0 := HR8.out.cell 0 rfl 0 HO0.out
    clear b1 HR HMY
    have HR9 : Hid _ := HR8.out
    clear HR8
    go_wp2_with (refine wpList_load_mid rfl 40 (.tmp 5) rfl (w.heap.size + 1 + 1) 0 rfl OL _ (rangeAt_row (HR9.out.at 0 rfl)) Try.underlying40 rfl (info8o OL HOL.out) ?_)
    refine Calls.mono (HOB.out _) ?_
    rintro e Y1 ⟨rfl, b1⟩
    have R1 := (HR9.out.step b1).alloc _ rfl 45 ZG
    have HRa : Hid _ := R1
    have HRb : Hid _ := R1.put 0 rfl GL
    clear b1 R1 HR9 hc0
    go_wp2_with (refine wpList_store_rowL rfl 45 (.tmp 7) (.tmp 25) rfl Y1.heap.size GL.toArray rfl rfl 45 ZG.toArray (HRa.out.at 0 rfl) (info128a GL HGL.out) (by simp [HZG.out, HGL.out]) HG1.out ?_
                 intro Y2 hY2
                 rw [← hY2] at HRb
                 clear hY2 HRa)
    generalize Y1.heap.size = n0 at *
    go_loopw [9] (fun i wr => ∃ k : Nat, 1 ≤ k ∧ k ≤ 5 ∧ i = .int .i64 k ∧ RS w [(n0, 45, GL), (w.heap.size + 1 + 1, 40, OL), (w.heap.size + 1, 31, IL), (w.heap.size, 28, RL)] wr) (fun i _ => 5 - (intOf i).toNat)
    case atStart => exact ⟨1, by omega, by omega, rfl, HRb.out⟩
    case round =>
      obtain ⟨k, hk1, hk, rfl, hR⟩ := hrel
      clear HRb
      by_cases hlt : k < 5
      · have HR5 : Hid _ := hR
        have HWK : Hid _ := HWD.out k hk1 hlt
        have hkI : (k : Int) < 5 := by omega
        clear hR
        go_wp2_with (refine load_mid_g (by rfl) 45 (.tmp 7) rfl n0 0 rfl GL _ (rangeAt_row (HR5.out.at 0 rfl)) Try.underlying45 rfl (info128 GL HGL.out) ?_)
        refine Calls.mono (HWK.out _) ?_
        rintro e Y3 ⟨rfl, b3⟩
        have HR6 : Hid _ := HR5.out.step b3
        clear b3 HR5 HWK
        go_wp2
        go_roundw
        case rel => exact ⟨k + 1, by omega, by omega, by go_num, HR6.out⟩
        case measure => simp [intOf]; omega
      · have HR8 : Hid _ := RS_tail hR
        have hkI : ¬ ((k : Int) < 5) := by omega
        clear hR hlt hk hk1
        go_wp2_with (first
          | (refine wpList_load_mid rfl 28 (.tmp 3) rfl w.heap.size 0 rfl RL _ (rangeAt_row (HR8.out.at 2 rfl)) Try.underlying28 rfl (info13 RL HRL.out) ?_)
          | (refine wpList_load_mid rfl 31 (.tmp 4) rfl (w.heap.size + 1) 0 rfl IL _ (rangeAt_row (HR8.out.at 1 rfl)) Try.underlying31 rfl (info4i IL HIL.out) ?_))
        refine Calls.mono (HE.out _) ?_
        rintro e X1 ⟨rfl, b1⟩
        have R1 := (HR8.out.step b1).alloc _ rfl 28 ZL
        have HR1 : Hid _ := R1
        have HR2 : Hid _ := R1.put 0 rfl NL
        clear b1 R1 HR8
        go_wp2_with (first
          | (refine wpList_store_rowL rfl 28 (.tmp 10) (.tmp 43) rfl X1.heap.size NL.toArray rfl rfl 28 ZL.toArray (HR1.out.at 0 rfl) (info13a NL HNL.out) (by simp [HZN.out, HNL.out]) HN1.out ?_
             intro V1 hV1
             rw [← hV1] at HR2
             clear hV1 HR1)
          | (refine wpList_load_mid rfl 28 (.tmp 10) rfl X1.heap.size 0 rfl NL _ (rangeAt_row (HR2.out.at 0 rfl)) Try.underlying28 rfl (info13 NL HNL.out) ?_)
          | (refine wpList_load_mid rfl 25 (.tmp 50) rfl X1.heap.size 2 rfl CL _ (by have q := rangeAt_part (rangeAt_row (HR2.out.at 0 rfl)) 2 9; rw [HCP.out, Nat.zero_add] at q; exact q) Try.underlying25 rfl (info9 CL HCL.out) ?_)
          | (refine build_g (by rfl) 40 #[(0, .const (.int .i64 1))] rfl #[(0, .int .i64 1)] (.agg FL.toArray) (by simp [Act.eval]) (HBF.out _) ?_))
        refine Calls.mono (HLF.out _) ?_
        rintro e X3 ⟨rfl, b3⟩
        have R3 := (HR2.out.step b3).alloc _ rfl 28 ZL
        have HR3 : Hid _ := R3
        have HR4 : Hid _ := R3.put 0 rfl NL
        clear b3 R3 HR2
        generalize X1.heap.size = n1 at *
        go_wp2_with (refine wpList_store_rowL rfl 28 (.tmp 12) (.tmp 54) rfl X3.heap.size NL.toArray rfl rfl 28 ZL.toArray (HR3.out.at 0 rfl) (info13a NL HNL.out) (by simp [HZN.out, HNL.out]) HN1.out ?_
                     intro V4 hV4
                     rw [← hV4] at HR4
                     have a0 := HR4.out.cell 0 rfl 0 HN0.out
                     have a1 := HR4.out.cell 0 rfl 1 HNi.out
                     have a2 := HR4.out.cell 0 rfl 10 HNp.out
                     have a3 := HR4.out.cell 0 rfl 11 HNr.out
                     have a4 := HR4.out.cell 0 rfl 12 HNw.out
                     have c0 := HR4.out.cell 4 rfl 0 HR0c.out
                     have c1 := HR4.out.cell 4 rfl 1 HRi.out
                     have c2 := HR4.out.cell 4 rfl 10 HRp.out
                     have c3 := HR4.out.cell 4 rfl 11 HRr.out
                     clear hV4 HR3)
        generalize X3.heap.size = n3 at *
        clear a0 a1 a2 a3 a4 c0 c1 c2 c3
        go_loopw [14] (fun i wr => ∃ k : Nat, k ≤ 8 ∧ i = .int .i64 k ∧ RS w [(n3, 28, NL), (n1, 28, NL), (w.heap.size + 1 + 1, 40, OL), (w.heap.size + 1, 31, IL), (w.heap.size, 28, RL)] wr) (fun i _ => 8 - (intOf i).toNat)
        case atStart => exact ⟨0, by omega, rfl, HR4.out⟩
        case round =>
          obtain ⟨k, hk, rfl, hR⟩ := hrel
          clear HR4
          by_cases hlt : k < 8
          · obtain ⟨y1, y2, y3⟩ := HCE.out k hlt
            have d1 := hR.cell 0 rfl (2 + k) y1
            have d2 := hR.cell 4 rfl (2 + k) y2
            have d3 := hR.cell 4 rfl 12 HRw.out
            have HR5 : Hid _ := hR
            have hkI : (k : Int) < 8 := by omega
            generalize (enR r ns).rs.getD k 0 = y at *
            generalize r.rs.getD k 0 = x at *
            by_cases hxy : y = x
            · have hb : (y != x) = false := by simpa using hxy
              clear hR y1 y2 y3 hxy
              go_wp2
              go_quiet (fail)
              go_wp2
              go_roundw
              case rel => exact ⟨k + 1, by omega, by go_num, HR5.out.step ⟨rfl, rfl, rfl, Nat.le_refl _, fun _ _ => rfl⟩⟩
              case measure => simp [intOf]; omega
            · have hb : (y != x) = true := by simpa using hxy
              have h3 : ¬ (3 < k) := fun q => hxy (y3 (Or.inl q))
              have hw1 : WT = 1 := Classical.byContradiction fun q => hxy (y3 (Or.inr q))
              have hd : decide ((3 : Int) < (k : Int)) = false := decide_eq_false (by omega)
              rw [hw1] at d3
              clear hR y1 y2 y3 hxy h3 hw1
              go_wp2
              go_quiet (fail)
              go_wp2
              go_roundw
              case rel => exact ⟨k + 1, by omega, by go_num, HR5.out.step ⟨rfl, rfl, rfl, Nat.le_refl _, fun _ _ => rfl⟩⟩
              case measure => simp [intOf]; omega
          · have HR5 : Hid _ := hR
            have hkI : ¬ ((k : Int) < 8) := by omega
            clear hR hlt hk
            go_wp2_with fail
            refine Calls.mono (HK.out _) ?_
            rintro e V8 ⟨rfl, b8⟩
            go_wp2
            go_ret
            exact ⟨rfl, (HR5.out.step b8).bel⟩
theorem walk (r : Rc) (ns : List Int) (o : Ot) (w : World) (hr : rok r) (hn : nok ns) (ho : ook o) : Calls Try.prog 6 #[.agg (rL r).toArray, .agg (ns.map U).toArray, .agg (oL o).toArray] w fun e w' => e = .returned (.bool true) ∧ Below w.heap.size w w' := by
  cases hmt : VC.mt o
  · exact walk_a r ns o w hr hn ho hmt
  · by_cases hre : o.re = 2
    · exact walk_b r ns o w hr hn ho hmt hre
    · exact walk_c r ns o w hr hn ho hmt hre
set_option maxRecDepth 100000 in
theorem lifted (os : Os) (started : os.Started) (H : Type) (enc : TypeId × Value → H) :
    ReturnsInHanded {} Try.checked os 6 .any (Rows.recRestsSpec.pre6 enc Try.prog Try.f6 Rows.recRestsRow.domain false) (Rows.recRestsSpec.post enc Try.prog Try.f6 false true false false) := by
  refine returnsInHanded_of_change (C := Try.checked) own started (by kernel_rfl) Try.func6
    (ChangeSpec.witness6 (enc := enc) (C := Try.checked) false ⟨#[], #[.agg (#[.int .i64 0] ++ Array.replicate 10 (.int .u64 0) ++ #[.bool false, .int .i64 0]), .agg (Array.replicate 4 (.int .u64 0)), .agg (#[.int .i64 0] ++ Array.replicate 5 (.int .u64 0) ++ #[.bool false, .int .i64 0])], []⟩ 8 (by kernel_rfl) (by kernel_rfl) (by kernel_rfl) (by kernel_rfl)) ?_
  intro W base args ds gs before hval0 hW hcnd _
  have hval : ∀ (j : Nat) t v, Try.f6.params[j]? = some t → args[j]? = some v → Value.okWide Try.prog W .any base t v := hval0
  have hW' := hW
  obtain ⟨p, q, hA0, hV, rfl, hfz, hnd⟩ := hW
  have hA : DataW.TrodAll enc Try.prog W 0 (fun _ => true) true Try.f6.params.toList args.toList ds p := hA0
  rw [Try.params6] at hA hval
  obtain ⟨v0, vs0, d0, ds0, p0, q0, hargs, rfl, rfl, h0, r0⟩ := trodAll_cons hA
  obtain ⟨v1, vs1, d1, ds1, p1, q1, rfl, rfl, rfl, h1, r1⟩ := trodAll_cons r0
  obtain ⟨v2, vs2, d2, ds2, p2, q2, rfl, rfl, rfl, h2, r2⟩ := trodAll_cons r1
  obtain ⟨rfl, rfl, rfl⟩ := trodAll_nil r2
  obtain rfl : args = #[v0, v1, v2] := by cases args; simp_all
  obtain ⟨rfl, rfl⟩ := trodVars_none hV
  have k0 := h0
  have lt0 : ∀ x ∈ p0, x.block < W.heap.size := by obtain ⟨m, hm⟩ := k0; exact DataW.trod_lt m _ _ _ hm
  obtain ⟨xs0, rfl⟩ := VC.okWide_str Try.underlying28 (hval 0 28 v0 rfl rfl)
  obtain ⟨R0, rfl, hl0⟩ : ∃ r : VC.Rc, xs0 = (VC.rL r).toArray ∧ VC.rok r := by obtain ⟨fuel, hf⟩ := h0; obtain ⟨s, e, h1⟩ := VC.open_rec hf; exact ⟨s, by rw [← Array.toList_inj]; exact e, h1⟩
  have k1 := h1
  have lt1 : ∀ x ∈ p1, x.block < W.heap.size := by obtain ⟨m, hm⟩ := k1; exact DataW.trod_lt m _ _ _ hm
  obtain ⟨xs1, rfl⟩ := VC.okWide_str Try.underlying31 (hval 1 31 v1 rfl rfl)
  obtain ⟨N1, rfl, hl1⟩ : ∃ ns : List Int, xs1 = (ns.map VC.U).toArray ∧ VC.nok ns := by obtain ⟨fuel, hf⟩ := h1; obtain ⟨s, e, h1⟩ := VC.open_in hf; exact ⟨s, by rw [← Array.toList_inj]; exact e, h1⟩
  have k2 := h2
  have lt2 : ∀ x ∈ p2, x.block < W.heap.size := by obtain ⟨m, hm⟩ := k2; exact DataW.trod_lt m _ _ _ hm
  obtain ⟨xs2, rfl⟩ := VC.okWide_str Try.underlying40 (hval 2 40 v2 rfl rfl)
  obtain ⟨O2, rfl, hl2⟩ : ∃ r : VC.Ot, xs2 = (VC.oL r).toArray ∧ VC.ook r := by obtain ⟨fuel, hf⟩ := h2; obtain ⟨s, e, h1⟩ := VC.open_out hf; exact ⟨s, by rw [← Array.toList_inj]; exact e, h1⟩
  clear hA0 hval0
  refine (walk R0 N1 O2 W hl0 hl1 hl2).mono fun e W' ⟨he, bel⟩ => ?_
  subst he
  exact ⟨_, rfl, _, _, _, [], _, [], hW', trodAll_mk1 (shut_bool Try.underlying4 _), (trodAll_cons_mk (Below.trod laidOut (by kernel_rfl) (of_decide_eq_true (by kernel_rfl)) k0 bel lt0) (trodAll_cons_mk (Below.trod laidOut (by kernel_rfl) (of_decide_eq_true (by kernel_rfl)) k1 bel lt1) (trodAll_cons_mk (Below.trod laidOut (by kernel_rfl) (of_decide_eq_true (by kernel_rfl)) k2 bel lt2) trodAll_mk0))), rfl, bel.frame _, fun h => by cases h⟩

theorem over : Rows.recRestsRow.holds Try.pinned (OpenSpec.ofChange Rows.recRestsSpec) :=
  OpenClaim.holds_of_wide 6 Try.f6 rfl rfl rfl rfl rfl rfl rfl ⟨rfl, rfl, rfl, rfl, rfl⟩ rfl rfl rfl rfl rfl (by kernel_rfl) Try.func6 (by kernel_rfl)
    (of_decide_eq_true (by kernel_rfl)) (by unfold Func.isWrapper; first | (rw [if_pos (by decide +kernel)]; kernel_rfl) | (rw [if_neg (by decide +kernel)]; exact ⟨rfl, rfl⟩))
    (fun os started H enc _ => lifted os started H enc)

end Go.Proofs.Ytpdafjamhccbnaa.recRests
namespace Go.Proofs.Ytpdafjamhccbnaa
theorem recRests_holds : Rows.RecRestsSaid := recRests.over
#print axioms recRests_holds
end Go.Proofs.Ytpdafjamhccbnaa
