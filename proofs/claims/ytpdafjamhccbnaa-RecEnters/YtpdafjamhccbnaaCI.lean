/- RecEnters: for any vCPU, whatever comes in, the statement's function answers true. No condition. -/
import Derived.Test.YtpdafjamhccbnaaCG
import Derived.Carry
set_option linter.unusedVariables false
set_option linter.unusedSimpArgs false
namespace Go.Proofs.Ytpdafjamhccbnaa.recEnters
open Go.ChangeShapes Go.WideShapes Go.ChangeAt Go.RowKit
open Go.Proofs.Ytpdafjamhccbnaa.VC

/-- The registers as the statement lays them, k of them done. -/
def part (r : Rc) (ns : List Int) (k : Nat) : Rc := ⟨r.rd, r.ins, ns.take k ++ r.rs.drop k, r.pc, r.rn, r.wt⟩
theorem part_0 (r : Rc) (ns : List Int) : part r ns 0 = r := by cases r; simp [part]
theorem part_len {r : Rc} {ns : List Int} (h : r.rs.length = 8) (h4 : ns.length = 4) (k : Nat) (hk : k ≤ 4) : (part r ns k).rs.length = 8 := by simp [part, h, h4]; omega
theorem part_set {r : Rc} {ns : List Int} (h : r.rs.length = 8) (h4 : ns.length = 4) (k : Nat) (hk : k < 4) : (rL (part r ns k)).set (2 + k) (.int .u64 (ns.getD k 0)) = rL (part r ns (k + 1)) := by
  obtain ⟨a, b, c, d, e, f, g, k0, hk0⟩ := eight h
  obtain ⟨a', b', c', d', rfl⟩ := four h4
  have : k = 0 ∨ k = 1 ∨ k = 2 ∨ k = 3 := by omega
  rcases this with rfl | rfl | rfl | rfl <;> (unfold rL part; rw [hk0]; rfl)
theorem part_end {r : Rc} {ns : List Int} (h : r.rs.length = 8) (h4 : ns.length = 4) (hw : r.wt = 1) : (rL (part r ns 4)).set 12 (.int .i64 0) = rL (enR r ns) := by
  obtain ⟨a, b, c, d, e, f, g, k0, hk0⟩ := eight h
  obtain ⟨a', b', c', d', rfl⟩ := four h4
  unfold rL part enR; rw [hk0, if_pos hw]; rfl
set_option maxHeartbeats 2000000 in
set_option maxRecDepth 100000 in
theorem walk_bad (r : Rc) (ns : List Int) (w : World) (hr : rok r) (hn : nok ns) (hm : mayR r = false) : Calls Try.prog 3 #[.agg (rL r).toArray, .agg (ns.map U).toArray] w fun e w' => e = .returned (.bool true) ∧ Below w.heap.size w w' := by
  have HK : Hid (∀ W, Calls Try.prog 10 #[] W fun e w' => e = .returned (.bool true) ∧ Below W.heap.size W w') := fun W => known_any W
  have h8 := hr.c.len
  have h4 := hn.len
  have hz := zero13
  obtain ⟨ZL, hZL⟩ : ∃ L, L = rL r0 := ⟨_, rfl⟩
  have HZN : Hid (ZL.length = 13) := by rw [hZL]; rfl
  have HZ1 : Hid (ZL.toArray.all (·.oneCell') = true) := by show _ = _; rw [hZL]; exact rL_one r0
  have HB0 : Hid _ := bld13
  rw [← hZL] at hz HB0
  have HE := fun W => enter_any r ns h8 h4 W
  have HM := fun W => may_any r h8 W
  rw [hm] at HE HM
  simp only [if_true, Bool.false_eq_true, if_false] at HE HM
  have HRL : Hid _ := rL_len h8
  have HIL : Hid ((ns.map U).length = 4) := by show _ = _; simpa using h4
  have HRW : Hid _ := rL_wt h8
  have HRN : Hid _ := rL_rn h8
  have HR : Hid _ := ((RS.start w).alloc _ rfl 28 (rL r)).alloc (w.heap.size + 1) (by simp) 31 (ns.map U)
  have heq := fun W => eq_rec W r0 rfl
  rw [← hZL] at heq HE
  generalize rL r = RL at *
  generalize ns.map U = IL at *
  clear hZL h8 h4 hr hn
  unfold mayR at hm
  cases hrn : r.rn
  · rw [hrn] at HRN
    clear hm hrn
    generalize r.wt = WT at *
    go_enter Try.func3, Try.ntmps3
    go_wp2_with (first
      | (refine wpList_load_mid rfl 28 (.tmp 2) rfl w.heap.size 0 rfl RL _ (rangeAt_row (HR.out.at 1 rfl)) Try.underlying28 rfl (info13 RL HRL.out) ?_)
      | (refine wpList_load_mid rfl 31 (.tmp 3) rfl (w.heap.size + 1) 0 rfl IL _ (rangeAt_row (HR.out.at 0 rfl)) Try.underlying31 rfl (info4i IL HIL.out) ?_))
    refine Calls.mono (HE _) ?_
    rintro e W1 ⟨rfl, b1⟩
    have R1 := (HR.out.step b1).alloc _ rfl 28 ZL
    have HR1 : Hid _ := R1
    have HR2 : Hid _ := R1.put 0 rfl ZL
    clear b1 R1 HR HE
    go_wp2_with (first
      | (refine wpList_store_rowL rfl 28 (.tmp 5) (.tmp 14) rfl W1.heap.size ZL.toArray rfl rfl 28 ZL.toArray (HR1.out.at 0 rfl) (info13a ZL HZN.out) rfl HZ1.out ?_
         intro V1 hV1
         rw [← hV1] at HR2
         have hcn := HR2.out.cell 2 rfl 11 HRN.out
         have hcw := HR2.out.cell 2 rfl 12 HRW.out
         have HA : Hid _ := rangeAt_row (HR2.out.at 0 rfl)
         have HA2 : Hid _ := rangeAt_row (HR2.out.at 2 rfl)
         clear hV1 HR1)
      | (refine load_mid_g (by rfl) 28 (.tmp 5) rfl W1.heap.size 0 rfl ZL _ HA.out Try.underlying28 rfl (info13 ZL HZN.out) ?_)
      | (refine load_mid_g (by rfl) 28 (.tmp 2) rfl w.heap.size 0 rfl RL _ HA2.out Try.underlying28 rfl (info13 RL HRL.out) ?_)
      | (refine build_g (by rfl) 28 #[] rfl #[] (.agg ZL.toArray) (by simp [Act.eval]) (HB0.out _) ?_))
    refine Calls.mono (HM _) ?_
    rintro e V2 ⟨rfl, b2⟩
    have HR3 : Hid _ := HR2.out.step b2
    clear b2
    go_wp2_with fail
    refine Calls.mono (HK.out _) ?_
    rintro e V3 ⟨rfl, b3⟩
    go_wp2
    go_ret
    exact ⟨rfl, (HR3.out.step b3).bel⟩
  · rw [hrn] at HRN hm
    have hw : r.wt = 3 := by simpa using hm
    rw [hw] at HRW
    clear hm hrn hw
    go_enter Try.func3, Try.ntmps3
    go_wp2_with (first
      | (refine wpList_load_mid rfl 28 (.tmp 2) rfl w.heap.size 0 rfl RL _ (rangeAt_row (HR.out.at 1 rfl)) Try.underlying28 rfl (info13 RL HRL.out) ?_)
      | (refine wpList_load_mid rfl 31 (.tmp 3) rfl (w.heap.size + 1) 0 rfl IL _ (rangeAt_row (HR.out.at 0 rfl)) Try.underlying31 rfl (info4i IL HIL.out) ?_))
    refine Calls.mono (HE _) ?_
    rintro e W1 ⟨rfl, b1⟩
    have R1 := (HR.out.step b1).alloc _ rfl 28 ZL
    have HR1 : Hid _ := R1
    have HR2 : Hid _ := R1.put 0 rfl ZL
    clear b1 R1 HR HE
    go_wp2_with (first
      | (refine wpList_store_rowL rfl 28 (.tmp 5) (.tmp 14) rfl W1.heap.size ZL.toArray rfl rfl 28 ZL.toArray (HR1.out.at 0 rfl) (info13a ZL HZN.out) rfl HZ1.out ?_
         intro V1 hV1
         rw [← hV1] at HR2
         have hcn := HR2.out.cell 2 rfl 11 HRN.out
         have hcw := HR2.out.cell 2 rfl 12 HRW.out
         have HA : Hid _ := rangeAt_row (HR2.out.at 0 rfl)
         have HA2 : Hid _ := rangeAt_row (HR2.out.at 2 rfl)
         clear hV1 HR1)
      | (refine load_mid_g (by rfl) 28 (.tmp 5) rfl W1.heap.size 0 rfl ZL _ HA.out Try.underlying28 rfl (info13 ZL HZN.out) ?_)
      | (refine load_mid_g (by rfl) 28 (.tmp 2) rfl w.heap.size 0 rfl RL _ HA2.out Try.underlying28 rfl (info13 RL HRL.out) ?_)
      | (refine build_g (by rfl) 28 #[] rfl #[] (.agg ZL.toArray) (by simp [Act.eval]) (HB0.out _) ?_))
    refine Calls.mono (HM _) ?_
    rintro e V2 ⟨rfl, b2⟩
    have HR3 : Hid _ := HR2.out.step b2
    clear b2
    go_wp2_with fail
    refine Calls.mono (HK.out _) ?_
    rintro e V3 ⟨rfl, b3⟩
    go_wp2
    go_ret
    exact ⟨rfl, (HR3.out.step b3).bel⟩
set_option maxHeartbeats 2000000 in
set_option maxRecDepth 100000 in
theorem walk_ok (r : Rc) (ns : List Int) (w : World) (hr : rok r) (hn : nok ns) (hm : mayR r = true) : Calls Try.prog 3 #[.agg (rL r).toArray, .agg (ns.map U).toArray] w fun e w' => e = .returned (.bool true) ∧ Below w.heap.size w w' := by
  have HK : Hid (∀ W, Calls Try.prog 10 #[] W fun e w' => e = .returned (.bool true) ∧ Below W.heap.size W w') := fun W => known_any W
  have h8 := hr.c.len
  have h4 := hn.len
  have hz := zero13
  obtain ⟨ZL, hZL⟩ : ∃ L, L = rL r0 := ⟨_, rfl⟩
  have HZN : Hid (ZL.length = 13) := by rw [hZL]; rfl
  have HZ1 : Hid (ZL.toArray.all (·.oneCell') = true) := by show _ = _; rw [hZL]; exact rL_one r0
  have HB0 : Hid _ := bld13
  rw [← hZL] at hz HB0
  have HE := fun W => enter_any r ns h8 h4 W
  have HM := fun W => may_any r h8 W
  rw [hm] at HE HM
  simp only [if_true, Bool.false_eq_true, if_false] at HE HM
  have HRL : Hid _ := rL_len h8
  have HIL : Hid ((ns.map U).length = 4) := by show _ = _; simpa using h4
  have HRW : Hid _ := rL_wt h8
  have HRN : Hid _ := rL_rn h8
  have HR : Hid _ := ((RS.start w).alloc _ rfl 28 (rL r)).alloc (w.heap.size + 1) (by simp) 31 (ns.map U)
  have heq := fun W => eq_rec W (enR r ns) (enR_len h8 h4)
  have HNL : Hid _ := rL_len (enR_len h8 h4)
  have HN1 : Hid _ := rL_one (enR r ns)
  have HR1o : Hid _ := rL_one r
  unfold mayR at hm
  have hrn : r.rn = true := by cases h : r.rn; rw [h] at hm; simp at hm; rfl
  have hw3 : r.wt ≠ 3 := by rw [hrn] at hm; simpa using hm
  rw [hrn] at HRN
  by_cases hw : r.wt = 1
  · have HSEG : Hid _ := part_end h8 h4 hw
    have HST : Hid (∀ k, k < 4 → (rL (part r ns k)).set (2 + k) (.int .u64 (ns.getD k 0)) = rL (part r ns (k + 1))) := fun k hk => part_set h8 h4 k hk
    have HPL : Hid (∀ k, k ≤ 4 → (rL (part r ns k)).length = 13) := fun k hk => rL_len (part_len h8 h4 k hk)
    have HP0 : Hid (rL (part r ns 0) = rL r) := by show _ = _; rw [part_0]
    have HNS : Hid (∀ k, k < 4 → (ns.map U)[k]? = some (.int .u64 (ns.getD k 0))) := fun k hk => by
      have : k < ns.length := by omega
      rw [List.getElem?_map, List.getElem?_eq_getElem this]
      simp [U, List.getD, List.getElem?_eq_getElem this]
    rw [hw] at HRW
    obtain ⟨PL, hPL⟩ : ∃ PL : Nat → List Value, PL = fun k => rL (part r ns k) := ⟨_, rfl⟩
    have hPk : ∀ k, rL (part r ns k) = PL k := fun k => by rw [hPL]
    rw [hPk] at HSEG HP0
    simp only [hPk] at HST HPL
    clear hPL hPk
    generalize rL (enR r ns) = NL at *
    generalize rL r = RL at *
    generalize ns.map U = IL at *
    clear hZL h8 h4 hr hn hm hrn hw3 hw
    go_enter Try.func3, Try.ntmps3
    go_wp2_with (first
      | (refine wpList_load_mid rfl 28 (.tmp 2) rfl w.heap.size 0 rfl RL _ (rangeAt_row (HR.out.at 1 rfl)) Try.underlying28 rfl (info13 RL HRL.out) ?_)
      | (refine wpList_load_mid rfl 31 (.tmp 3) rfl (w.heap.size + 1) 0 rfl IL _ (rangeAt_row (HR.out.at 0 rfl)) Try.underlying31 rfl (info4i IL HIL.out) ?_))
    refine Calls.mono (HE _) ?_
    rintro e W1 ⟨rfl, b1⟩
    have R1 := (HR.out.step b1).alloc _ rfl 28 ZL
    have HR1 : Hid _ := R1
    have HR2 : Hid _ := R1.put 0 rfl NL
    clear b1 R1 HR HE
    go_wp2_with (first
      | (refine wpList_store_rowL rfl 28 (.tmp 5) (.tmp 14) rfl W1.heap.size NL.toArray rfl rfl 28 ZL.toArray (HR1.out.at 0 rfl) (info13a NL HNL.out) (by simp [HZN.out, HNL.out]) HN1.out ?_
         intro V1 hV1
         rw [← hV1] at HR2
         have hcn := HR2.out.cell 2 rfl 11 HRN.out
         have hcw := HR2.out.cell 2 rfl 12 HRW.out
         have HA2 : Hid _ := rangeAt_row (HR2.out.at 2 rfl)
         clear hV1 HR1
         generalize W1.heap.size = n2 at *)
      | (refine load_mid_g (by rfl) 28 (.tmp 2) rfl w.heap.size 0 rfl RL _ HA2.out Try.underlying28 rfl (info13 RL HRL.out) ?_
         have R3 := HR2.out.alloc _ rfl 28 ZL
         have HR3 : Hid _ := R3
         have HR4 : Hid _ := R3.put 0 rfl RL
         clear R3 HR2 HA2)
      | (refine wpList_store_rowL rfl 28 (.tmp 8) (.tmp 40) rfl V1.heap.size RL.toArray rfl rfl 28 ZL.toArray (HR3.out.at 0 rfl) (info13a RL HRL.out) (by simp [HZN.out, HRL.out]) HR1o.out ?_
         intro V2 hV2
         rw [← hV2] at HR4
         clear hV2 HR3 hcn hcw))
    generalize V1.heap.size = n3 at *
    go_loopw [9] (fun i wr => ∃ k : Nat, k ≤ 4 ∧ i = .int .i64 k ∧ RS w [(n3, 28, PL k), (n2, 28, NL), (w.heap.size + 1, 31, IL), (w.heap.size, 28, RL)] wr) (fun i _ => 4 - (intOf i).toNat)
    case atStart => exact ⟨0, by omega, rfl, by rw [HP0.out]; exact HR4.out⟩
    case round =>
      obtain ⟨k, hk, rfl, hR⟩ := hrel
      have hcw := hR.cell 3 rfl 12 HRW.out
      have HR4 : Hid _ := hR
      by_cases hlt : k < 4
      · have hcn := hR.cell 2 rfl k (HNS.out k hlt)
        have HS1 : Hid _ := HST.out k hlt
        have HP1 : Hid _ := HPL.out k hk
        have hkI : (k : Int) < 4 := by omega
        have hkJ : (k : Int) < 8 := by omega
        generalize ns.getD k 0 = x at *
        clear hR
        go_wp2_with (refine wpList_stU rfl (.tmp 57) (.tmp 54) rfl n3 (2 + k) x rfl rfl (PL k) 28 (HR4.out.at 0 rfl) (by rw [HP1.out]; omega) ?_
                     intro V5 hV5
                     have HR5 : Hid (RS w [(n3, 28, PL (k + 1)), (n2, 28, NL), (w.heap.size + 1, 31, IL), (w.heap.size, 28, RL)] V5) := by rw [hV5]; exact HR4.out.poke 0 rfl (2 + k) _ HS1.out
                     clear hV5)
        go_roundw
        case rel => exact ⟨k + 1, by omega, by go_num, HR5.out⟩
        case measure => simp [intOf]; omega
      · have hk4 : k = 4 := by omega
        subst hk4
        have HP4 : Hid _ := HPL.out 4 (by omega)
        clear hR hlt hk
        go_wp2_with (first
          | (refine wpList_stW rfl (.tmp 58) (.const (.int .i64 0)) rfl n3 12 0 rfl rfl (PL 4) 28 (HR4.out.at 0 rfl) (by rw [HP4.out]; decide) ?_
             intro V6 hV6
             have HR6 : Hid (RS w [(n3, 28, NL), (n2, 28, NL), (w.heap.size + 1, 31, IL), (w.heap.size, 28, RL)] V6) := by rw [hV6]; exact HR4.out.poke 0 rfl 12 _ HSEG.out
             clear hV6 HR4)
          | (refine load_mid_g (by rfl) 28 (.tmp 5) rfl n2 0 rfl NL _ (rangeAt_row (HR6.out.at 1 rfl)) Try.underlying28 rfl (info13 NL HNL.out) ?_)
          | (refine load_mid_g (by rfl) 28 (.tmp 8) rfl n3 0 rfl NL _ (rangeAt_row (HR6.out.at 0 rfl)) Try.underlying28 rfl (info13 NL HNL.out) ?_)
          | (refine load_mid_g (by rfl) 28 (.tmp 2) rfl w.heap.size 0 rfl RL _ (rangeAt_row (HR6.out.at 3 rfl)) Try.underlying28 rfl (info13 RL HRL.out) ?_))
        refine Calls.mono (HM _) ?_
        rintro e V7 ⟨rfl, b7⟩
        have HR7 : Hid _ := HR6.out.step b7
        clear b7
        go_wp2_with fail
        refine Calls.mono (HK.out _) ?_
        rintro e V8 ⟨rfl, b8⟩
        go_wp2
        go_ret
        exact ⟨rfl, (HR7.out.step b8).bel⟩
  · have HSEG : Hid _ := en_set (ns := ns) h8 hw
    have hwb : (r.wt == 1) = false := by simpa using hw
    have hwc : (r.wt != 3) = true := by simpa using hw3
    generalize rL (enR r ns) = NL at *
    generalize rL r = RL at *
    generalize ns.map U = IL at *
    generalize r.wt = WT at *
    clear hZL h8 h4 hr hn hm hrn hw3 hw
    go_enter Try.func3, Try.ntmps3
    go_wp2_with (first
      | (refine wpList_load_mid rfl 28 (.tmp 2) rfl w.heap.size 0 rfl RL _ (rangeAt_row (HR.out.at 1 rfl)) Try.underlying28 rfl (info13 RL HRL.out) ?_)
      | (refine wpList_load_mid rfl 31 (.tmp 3) rfl (w.heap.size + 1) 0 rfl IL _ (rangeAt_row (HR.out.at 0 rfl)) Try.underlying31 rfl (info4i IL HIL.out) ?_))
    refine Calls.mono (HE _) ?_
    rintro e W1 ⟨rfl, b1⟩
    have R1 := (HR.out.step b1).alloc _ rfl 28 ZL
    have HR1 : Hid _ := R1
    have HR2 : Hid _ := R1.put 0 rfl NL
    clear b1 R1 HR HE
    go_wp2_with (first
      | (refine wpList_store_rowL rfl 28 (.tmp 5) (.tmp 14) rfl W1.heap.size NL.toArray rfl rfl 28 ZL.toArray (HR1.out.at 0 rfl) (info13a NL HNL.out) (by simp [HZN.out, HNL.out]) HN1.out ?_
         intro V1 hV1
         rw [← hV1] at HR2
         have hcn := HR2.out.cell 2 rfl 11 HRN.out
         have hcw := HR2.out.cell 2 rfl 12 HRW.out
         have HA2 : Hid _ := rangeAt_row (HR2.out.at 2 rfl)
         clear hV1 HR1
         generalize W1.heap.size = n2 at *)
      | (refine load_mid_g (by rfl) 28 (.tmp 2) rfl w.heap.size 0 rfl RL _ HA2.out Try.underlying28 rfl (info13 RL HRL.out) ?_
         have R3 := HR2.out.alloc _ rfl 28 ZL
         have HR3 : Hid _ := R3
         have HR4 : Hid _ := R3.put 0 rfl RL
         clear R3 HR2 HA2)
      | (refine wpList_store_rowL rfl 28 (.tmp 8) (.tmp 40) rfl V1.heap.size RL.toArray rfl rfl 28 ZL.toArray (HR3.out.at 0 rfl) (info13a RL HRL.out) (by simp [HZN.out, HRL.out]) HR1o.out ?_
         intro V2 hV2
         rw [← hV2] at HR4
         clear hV2 HR3 hcn hcw))
    generalize V1.heap.size = n3 at *
    go_loopw [9] (fun i wr => i = .int .i64 0 ∧ RS w [(n3, 28, RL), (n2, 28, NL), (w.heap.size + 1, 31, IL), (w.heap.size, 28, RL)] wr) (fun i _ => 0)
    case atStart => exact ⟨rfl, HR4.out⟩
    case round =>
      obtain ⟨rfl, hR⟩ := hrel
      have hcw := hR.cell 3 rfl 12 HRW.out
      have HR4 : Hid _ := hR
      clear hR
      go_wp2_with (first
        | (refine wpList_stW rfl (.tmp 58) (.const (.int .i64 0)) rfl n3 12 0 rfl rfl RL 28 (HR4.out.at 0 rfl) (by rw [HRL.out]; decide) ?_
           intro V6 hV6
           have HR6 : Hid (RS w [(n3, 28, NL), (n2, 28, NL), (w.heap.size + 1, 31, IL), (w.heap.size, 28, RL)] V6) := by rw [hV6]; exact HR4.out.poke 0 rfl 12 _ HSEG.out
           clear hV6 HR4)
        | (refine load_mid_g (by rfl) 28 (.tmp 5) rfl n2 0 rfl NL _ (rangeAt_row (HR6.out.at 1 rfl)) Try.underlying28 rfl (info13 NL HNL.out) ?_)
        | (refine load_mid_g (by rfl) 28 (.tmp 8) rfl n3 0 rfl NL _ (rangeAt_row (HR6.out.at 0 rfl)) Try.underlying28 rfl (info13 NL HNL.out) ?_)
        | (refine load_mid_g (by rfl) 28 (.tmp 2) rfl w.heap.size 0 rfl RL _ (rangeAt_row (HR6.out.at 3 rfl)) Try.underlying28 rfl (info13 RL HRL.out) ?_))
      refine Calls.mono (HM _) ?_
      rintro e V7 ⟨rfl, b7⟩
      have HR7 : Hid _ := HR6.out.step b7
      clear b7
      go_wp2_with fail
      refine Calls.mono (HK.out _) ?_
      rintro e V8 ⟨rfl, b8⟩
      go_wp2
      go_ret
      exact ⟨rfl, (HR7.out.step b8).bel⟩
theorem walk (r : Rc) (ns : List Int) (w : World) (hr : rok r) (hn : nok ns) : Calls Try.prog 3 #[.agg (rL r).toArray, .agg (ns.map U).toArray] w fun e w' => e = .returned (.bool true) ∧ Below w.heap.size w w' := by
  cases hm : mayR r
  · exact walk_bad r ns w hr hn hm
  · exact walk_ok r ns w hr hn hm
set_option maxRecDepth 100000 in
theorem lifted (os : Os) (started : os.Started) (H : Type) (enc : TypeId × Value → H) :
    ReturnsInHanded {} Try.checked os 3 .any (Rows.recEntersSpec.pre6 enc Try.prog Try.f3 Rows.recEntersRow.domain false) (Rows.recEntersSpec.post enc Try.prog Try.f3 false true false false) := by
  refine returnsInHanded_of_change (C := Try.checked) own started (by kernel_rfl) Try.func3
    (ChangeSpec.witness6 (enc := enc) (C := Try.checked) false ⟨#[], #[.agg (#[.int .i64 0] ++ Array.replicate 10 (.int .u64 0) ++ #[.bool false, .int .i64 0]), .agg (Array.replicate 4 (.int .u64 0))], []⟩ 8 (by kernel_rfl) (by kernel_rfl) (by kernel_rfl) (by kernel_rfl)) ?_
  intro W base args ds gs before hval0 hW hcnd _
  have hval : ∀ (j : Nat) t v, Try.f3.params[j]? = some t → args[j]? = some v → Value.okWide Try.prog W .any base t v := hval0
  have hW' := hW
  obtain ⟨p, q, hA0, hV, rfl, hfz, hnd⟩ := hW
  have hA : DataW.TrodAll enc Try.prog W 0 (fun _ => true) true Try.f3.params.toList args.toList ds p := hA0
  rw [Try.params3] at hA hval
  obtain ⟨v0, vs0, d0, ds0, p0, q0, hargs, rfl, rfl, h0, r0⟩ := trodAll_cons hA
  obtain ⟨v1, vs1, d1, ds1, p1, q1, rfl, rfl, rfl, h1, r1⟩ := trodAll_cons r0
  obtain ⟨rfl, rfl, rfl⟩ := trodAll_nil r1
  obtain rfl : args = #[v0, v1] := by cases args; simp_all
  obtain ⟨rfl, rfl⟩ := trodVars_none hV
  have k0 := h0
  have lt0 : ∀ x ∈ p0, x.block < W.heap.size := by obtain ⟨m, hm⟩ := k0; exact DataW.trod_lt m _ _ _ hm
  obtain ⟨xs0, rfl⟩ := VC.okWide_str Try.underlying28 (hval 0 28 v0 rfl rfl)
  obtain ⟨R0, rfl, hl0⟩ : ∃ r : VC.Rc, xs0 = (VC.rL r).toArray ∧ VC.rok r := by obtain ⟨fuel, hf⟩ := h0; obtain ⟨s, e, h1⟩ := VC.open_rec hf; exact ⟨s, by rw [← Array.toList_inj]; exact e, h1⟩
  have k1 := h1
  have lt1 : ∀ x ∈ p1, x.block < W.heap.size := by obtain ⟨m, hm⟩ := k1; exact DataW.trod_lt m _ _ _ hm
  obtain ⟨xs1, rfl⟩ := VC.okWide_str Try.underlying31 (hval 1 31 v1 rfl rfl)
  obtain ⟨N1, rfl, hl1⟩ : ∃ ns : List Int, xs1 = (ns.map VC.U).toArray ∧ VC.nok ns := by obtain ⟨fuel, hf⟩ := h1; obtain ⟨s, e, h1⟩ := VC.open_in hf; exact ⟨s, by rw [← Array.toList_inj]; exact e, h1⟩
  clear hA0 hval0
  refine (walk R0 N1 W hl0 hl1).mono fun e W' ⟨he, bel⟩ => ?_
  subst he
  exact ⟨_, rfl, _, _, _, [], _, [], hW', trodAll_mk1 (shut_bool Try.underlying4 _), (trodAll_cons_mk (Below.trod laidOut (by kernel_rfl) (of_decide_eq_true (by kernel_rfl)) k0 bel lt0) (trodAll_cons_mk (Below.trod laidOut (by kernel_rfl) (of_decide_eq_true (by kernel_rfl)) k1 bel lt1) trodAll_mk0)), rfl, bel.frame _, fun h => by cases h⟩

theorem over : Rows.recEntersRow.holds Try.pinned (OpenSpec.ofChange Rows.recEntersSpec) :=
  OpenClaim.holds_of_wide 3 Try.f3 rfl rfl rfl rfl rfl rfl rfl ⟨rfl, rfl, rfl, rfl, rfl⟩ rfl rfl rfl rfl rfl (by kernel_rfl) Try.func3 (by kernel_rfl)
    (of_decide_eq_true (by kernel_rfl)) (by unfold Func.isWrapper; first | (rw [if_pos (by decide +kernel)]; kernel_rfl) | (rw [if_neg (by decide +kernel)]; exact ⟨rfl, rfl⟩))
    (fun os started H enc _ => lifted os started H enc)

end Go.Proofs.Ytpdafjamhccbnaa.recEnters
namespace Go.Proofs.Ytpdafjamhccbnaa
theorem recEnters_holds : Rows.RecEntersSaid := recEnters.over
#print axioms recEnters_holds
end Go.Proofs.Ytpdafjamhccbnaa
