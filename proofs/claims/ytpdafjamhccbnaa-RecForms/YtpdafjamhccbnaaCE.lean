/- rec: contracts of Enter and of what the statements know. -/
import Derived.Test.YtpdafjamhccbnaaCD
set_option linter.unusedVariables false
set_option linter.unusedSimpArgs false
namespace Go.Proofs.Ytpdafjamhccbnaa.VC
open Go.RowKit

def enR (r : Rc) (ns : List Int) : Rc := ⟨r.rd, r.ins, if r.wt = 1 then ns ++ r.rs.drop 4 else r.rs, r.pc, r.rn, 0⟩
theorem enR_len {r : Rc} {ns : List Int} (h : r.rs.length = 8) (h4 : ns.length = 4) : (enR r ns).rs.length = 8 := by
  unfold enR; simp only; split
  · simp [h, h4]
  · exact h
theorem en_seg {r : Rc} {ns : List Int} (h : r.rs.length = 8) (h4 : ns.length = 4) (hw : r.wt = 1) : (splice (rL r) 2 (ns.map U)).set 12 (.int .i64 0) = rL (enR r ns) := by
  obtain ⟨a, b, c, d, e, f, g, k, hk⟩ := eight h
  obtain ⟨a', b', c', d', rfl⟩ := four h4
  unfold rL enR; rw [if_pos hw, hk]; rfl
theorem en_set {r : Rc} {ns : List Int} (h : r.rs.length = 8) (hw : r.wt ≠ 1) : (rL r).set 12 (.int .i64 0) = rL (enR r ns) := by
  obtain ⟨a, b, c, d, e, f, g, k, hk⟩ := eight h
  unfold rL enR; rw [if_neg hw, hk]; rfl
theorem slice84 (W : World) (b o : Nat) : (Instr.sliceAt 23 (.pointer (some ⟨b, o, none⟩)) none (some (.int .i64 4)) none).run Try.prog W = .ok (.slice (some ⟨b, o, none⟩) 4 8) W := by
  have ha : Try.prog.arrayLen 23 = 8 := by kernel_rfl
  have hu : Try.prog.underlying 23 = some (.array (Try.prog.arrayLen 23) (Try.prog.elem 23)) := by kernel_rfl
  have he : Try.prog.elem 23 = 22 := by kernel_rfl
  rw [run_sliceAt_array_h W 23 _ hu .i64 4 (by omega) (by rw [ha]; omega), he, size_u64, ha]
  simp only [Result.andThen, slicedAt]
  rw [if_neg (by decide), add_none]
  simp
theorem slice44 (W : World) (b o : Nat) : (Instr.sliceAt 29 (.pointer (some ⟨b, o, none⟩)) none none none).run Try.prog W = .ok (.slice (some ⟨b, o, none⟩) 4 4) W := by
  have ha : Try.prog.arrayLen 29 = 4 := by kernel_rfl
  have hu : Try.prog.underlying 29 = some (.array (Try.prog.arrayLen 29) (Try.prog.elem 29)) := by kernel_rfl
  have he : Try.prog.elem 29 = 22 := by kernel_rfl
  rw [run_sliceAt_array_all W 29 _ hu, he, size_u64, ha]
  simp only [Result.andThen, slicedAt]
  rw [if_neg (by decide), add_none]
  simp
set_option maxHeartbeats 1000000 in
theorem enter_bad (r : Rc) (ns : List Int) (h : r.rs.length = 8) (h4 : ns.length = 4) (hm : mayR r = false) (w : World) :
    Calls Try.prog 8 #[.agg (rL r).toArray, .agg (ns.map U).toArray] w fun e w' => e = .returned (.tuple #[.agg (rL r0).toArray, .int .i64 7]) ∧ Below w.heap.size w w' := by
  have hz := zero13
  obtain ⟨ZL, hZL⟩ : ∃ L, L = rL r0 := ⟨_, rfl⟩
  have HZN : Hid (ZL.length = 13) := by rw [hZL]; rfl
  have HZ1 : Hid (ZL.toArray.all (·.oneCell') = true) := by show _ = _; rw [hZL]; exact rL_one r0
  have HB0 : Hid _ := bld13
  rw [← hZL] at hz HB0
  have HMY : Hid (∀ W, Calls Try.prog 9 #[.agg (rL r).toArray] W fun e w' => e = .returned (.int .i64 7) ∧ Below W.heap.size W w') := fun W => by have := may_any r h W; rw [hm] at this; exact this
  have HR : Hid _ := (((RS.start w).alloc _ rfl 28 (rL r)).alloc (w.heap.size + 1) (by simp) 31 (ns.map U)).alloc (w.heap.size + 1 + 1) (by simp) 28 ZL
  have HRL : Hid _ := rL_len h
  have HRW : Hid _ := rL_wt h
  rw [← hZL]
  generalize rL r = RL at *
  generalize ns.map U = IL at *
  clear hZL h h4 hm
  go_enter Try.func8, Try.ntmps8
  go_wp2_with (first
    | (refine wpList_load_mid rfl 28 (.tmp 2) rfl w.heap.size 0 rfl RL _ (rangeAt_row (HR.out.at 2 rfl)) Try.underlying28 rfl (info13 RL HRL.out) ?_))
  refine Calls.mono (HMY.out _) ?_
  rintro e W4 ⟨rfl, hb4⟩
  have HR4 : Hid _ := HR.out.step hb4
  clear hb4 HR
  go_wp2_with (first
    | (refine build_g (by rfl) 28 #[] rfl #[] (.agg ZL.toArray) (by simp [Act.eval]) (HB0.out _) ?_)
    | (refine wpList_store_row rfl 28 (.tmp 4) (.tmp 11) rfl (w.heap.size + 1 + 1) ZL.toArray rfl rfl 28 ZL.toArray (HR4.out.at 0 rfl) (info13a ZL HZN.out) rfl HZ1.out ?_))
  have R5 := HR4.out.put 0 rfl ZL
  refine bodyPost_ret (v := .tuple #[.agg ZL.toArray, .int .i64 7]) (results2 Try.results8 _ _ (w.heap.size + 1 + 1) _ ZL _ _ rfl rfl (R5.at 0 rfl) Try.underlying28 rfl (info13 ZL HZN.out)) rfl ⟨rfl, R5.bel⟩
set_option maxHeartbeats 1000000 in
set_option maxRecDepth 100000 in
theorem enter_ok (r : Rc) (ns : List Int) (h : r.rs.length = 8) (h4 : ns.length = 4) (hm : mayR r = true) (w : World) :
    Calls Try.prog 8 #[.agg (rL r).toArray, .agg (ns.map U).toArray] w fun e w' => e = .returned (.tuple #[.agg (rL (enR r ns)).toArray, .int .i64 0]) ∧ Below w.heap.size w w' := by
  have hz := zero13
  obtain ⟨ZL, hZL⟩ : ∃ L, L = rL r0 := ⟨_, rfl⟩
  have HZN : Hid (ZL.length = 13) := by rw [hZL]; rfl
  have HZ1 : Hid (ZL.toArray.all (·.oneCell') = true) := by show _ = _; rw [hZL]; exact rL_one r0
  have HB0 : Hid _ := bld13
  rw [← hZL] at hz HB0
  have HMY : Hid (∀ W, Calls Try.prog 9 #[.agg (rL r).toArray] W fun e w' => e = .returned (.int .i64 0) ∧ Below W.heap.size W w') := fun W => by have := may_any r h W; rw [hm] at this; exact this
  have HR : Hid _ := (((RS.start w).alloc _ rfl 28 (rL r)).alloc (w.heap.size + 1) (by simp) 31 (ns.map U)).alloc (w.heap.size + 1 + 1) (by simp) 28 ZL
  have HRL : Hid _ := rL_len h
  have HRW : Hid _ := rL_wt h
  have HNL : Hid _ := rL_len (enR_len h h4)
  have HN1 : Hid _ := rL_one (enR r ns)
  by_cases hw : r.wt = 1
  · have HSEG : Hid _ := en_seg h h4 hw
    have HIL : Hid ((ns.map U).length = 4) := by show _ = _; simpa using h4
    have HI1 : Hid _ := U_one ns
    have HSL : Hid ((splice (rL r) 2 (ns.map U)).length = 13) := by show _ = _; rw [splice_len _ _ _ (by rw [rL_len h, HIL.out]; decide)]; exact rL_len h
    rw [hw] at HRW
    obtain ⟨SL, hSL⟩ : ∃ L, splice (rL r) 2 (ns.map U) = L := ⟨_, rfl⟩
    have HSP : Hid _ := hSL
    rw [hSL] at HSEG HSL
    generalize rL (enR r ns) = NL at *
    generalize rL r = RL at *
    generalize ns.map U = IL at *
    clear hZL h h4 hm hw hSL
    go_enter Try.func8, Try.ntmps8
    go_wp2_with (first
      | (refine wpList_load_mid rfl 28 (.tmp 2) rfl w.heap.size 0 rfl RL _ (rangeAt_row (HR.out.at 2 rfl)) Try.underlying28 rfl (info13 RL HRL.out) ?_))
    refine Calls.mono (HMY.out _) ?_
    rintro e W4 ⟨rfl, hb4⟩
    have HR4 : Hid _ := HR.out.step hb4
    clear hb4 HR
    have hc := HR4.out.cell 2 rfl 12 HRW.out
    go_wp2_with fail
    refine wp_region_held_drew (S := fun X => RS w [(w.heap.size + 1 + 1, 28, ZL), (w.heap.size + 1, 31, IL), (w.heap.size, 28, RL)] X ∨ RS w [(w.heap.size + 1 + 1, 28, ZL), (w.heap.size + 1, 31, IL), (w.heap.size, 28, SL)] X) (by kernel_rfl) (Or.inl (HR4.out.step (below_drew _))) (fun hHeld => ?_)
    have hs1 := fun W => slice84 W w.heap.size 2
    have hs2 := fun W => slice44 W (w.heap.size + 1) 0
    refine wpAnyH_take (i := 0) (oi := { dst := some 16, op := Go.Op.fieldAddr 28 (Go.Operand.tmp 2) 2, type := 0, pos := _, after := #[], guard := none }) (v := .pointer (some ⟨w.heap.size, 2, none⟩)) rfl (by kernel_rfl) (by kernel_rfl) (by kernel_rfl) (fun _ _ _ h => h) (Or.inl ⟨by rfl, fun w' hw' => ?_⟩) hHeld ?_
    · first | (go_simp; done) | (go_simp; rfl)
    try simp only [Act.put, List.setIfInBounds_toArray, List.set_cons_zero, List.set_cons_succ]
    refine wpAnyH_take (i := 1) (oi := { dst := some 17, op := Go.Op.fieldAddr 25 (Go.Operand.tmp 16) 0, type := 0, pos := _, after := #[{ on := 0, ground := Go.Ground.data }], guard := none }) (v := .pointer (some ⟨w.heap.size, 2, none⟩)) rfl (by kernel_rfl) (by kernel_rfl) (by kernel_rfl) (fun _ _ _ h => h) (Or.inl ⟨by rfl, fun w' hw' => ?_⟩) hHeld ?_
    · first | (go_simp; done) | (go_simp; rfl)
    try simp only [Act.put, List.setIfInBounds_toArray, List.set_cons_zero, List.set_cons_succ]
    refine wpAnyH_take (i := 2) (oi := { dst := some 18, op := Go.Op.slice 23 (Go.Operand.tmp 17) none (some (Go.Operand.const (Go.Value.int Go.IntKind.i64 4))) none, type := 64, pos := _, after := #[{ on := 1, ground := Go.Ground.data }], guard := none }) (v := .slice (some ⟨w.heap.size, 2, none⟩) 4 8) rfl (by kernel_rfl) (by kernel_rfl) (by kernel_rfl) (fun _ _ _ h => h) (Or.inl ⟨by rfl, fun w' hw' => ?_⟩) hHeld ?_
    · first | (go_simp; done) | (go_simp; rfl)
    try simp only [Act.put, List.setIfInBounds_toArray, List.set_cons_zero, List.set_cons_succ]
    refine wpAnyH_take (i := 3) (oi := { dst := some 19, op := Go.Op.fieldAddr 31 (Go.Operand.tmp 3) 0, type := 0, pos := _, after := #[], guard := none }) (v := .pointer (some ⟨w.heap.size + 1, 0, none⟩)) rfl (by kernel_rfl) (by kernel_rfl) (by kernel_rfl) (fun _ _ _ h => h) (Or.inl ⟨by rfl, fun w' hw' => ?_⟩) hHeld ?_
    · first | (go_simp; done) | (go_simp; rfl)
    try simp only [Act.put, List.setIfInBounds_toArray, List.set_cons_zero, List.set_cons_succ]
    refine wpAnyH_take (i := 4) (oi := { dst := some 20, op := Go.Op.slice 29 (Go.Operand.tmp 19) none none none, type := 64, pos := _, after := #[{ on := 3, ground := Go.Ground.data }], guard := none }) (v := .slice (some ⟨w.heap.size + 1, 0, none⟩) 4 4) rfl (by kernel_rfl) (by kernel_rfl) (by kernel_rfl) (fun _ _ _ h => h) (Or.inl ⟨by rfl, fun w' hw' => ?_⟩) hHeld ?_
    · first | (go_simp; done) | (go_simp; rfl)
    try simp only [Act.put, List.setIfInBounds_toArray, List.set_cons_zero, List.set_cons_succ]
    refine wpAnyH_ready (rs := [5]) (by kernel_rfl) (by simp) ?_
    refine AllReadyH.cons (o := { dst := some 21, op := Go.Op.call { callee := Go.Callee.builtin Go.Builtin.copy, args := #[Go.Operand.tmp 18, Go.Operand.tmp 20], argTypes := #[64, 64] }, type := 3, pos := _, after := #[{ on := 2, ground := Go.Ground.data }, { on := 4, ground := Go.Ground.data }], guard := none }) rfl (fun K hK => ?_) AllReadyH.nil
    rw [if_pos (by rfl)]
    have R4 := HR4.out.step (below_drew _)
    refine wp_copy_seg (.tmp 18) (.tmp 20) rfl w.heap.size 2 4 8 (some ⟨w.heap.size + 1, 0, none⟩) 4 4 rfl rfl RL 28 (R4.at 2 rfl) IL (by rw [HIL.out]; rfl) (fun _ => ⟨_, rfl, fun j v hv => ?_⟩) (by rw [HIL.out, HRL.out]; decide) HI1.out ?_
    · rw [add_none]; exact rangeAt_row (R4.at 1 rfl) j v hv
    rw [HSP.out]
    have R5 := R4.put 2 rfl SL
    refine hK.out _ _ (Or.inr R5) (fun _ => ?_)
    clear hK K
    try simp only [Act.put, List.setIfInBounds_toArray, List.set_cons_zero, List.set_cons_succ]
    refine wpAnyH_done (by kernel_rfl) ?_ _
    have HR4 : Hid (RS w [(w.heap.size + 1 + 1, 28, ZL), (w.heap.size + 1, 31, IL), (w.heap.size, 28, SL)] (W4.drew.setRow w.heap.size SL.toArray)) := R5
    clear R4 R5 hc hHeld hs1 hs2
    generalize W4.drew.setRow w.heap.size SL.toArray = W5 at *
    go_wp2_with (first
      | (refine wpList_stW rfl (.tmp 22) (.const (.int .i64 0)) rfl w.heap.size 12 0 rfl rfl SL 28 (HR4.out.at 2 rfl) (by rw [HSL.out]; decide) ?_
         intro W6 hW6
         have HR6 : Hid (RS w [(w.heap.size + 1 + 1, 28, ZL), (w.heap.size + 1, 31, IL), (w.heap.size, 28, NL)] W6) := by rw [hW6]; exact HR4.out.poke 2 rfl 12 _ HSEG.out
         clear hW6)
      | (refine wpList_load_mid rfl 28 (.tmp 2) rfl w.heap.size 0 rfl NL _ (rangeAt_row (HR6.out.at 2 rfl)) Try.underlying28 rfl (info13 NL HNL.out) ?_)
      | (refine wpList_store_row rfl 28 (.tmp 4) (.tmp 23) rfl (w.heap.size + 1 + 1) NL.toArray rfl rfl 28 ZL.toArray (HR6.out.at 0 rfl) (info13a NL HNL.out) (by simp [HZN.out, HNL.out]) HN1.out ?_))
    have R7 := HR6.out.put 0 rfl NL
    refine bodyPost_ret (v := .tuple #[.agg NL.toArray, .int .i64 0]) (results2 Try.results8 _ _ (w.heap.size + 1 + 1) _ NL _ _ rfl rfl (R7.at 0 rfl) Try.underlying28 rfl (info13 NL HNL.out)) rfl ⟨rfl, R7.bel⟩
  · have HSEG : Hid _ := en_set (ns := ns) h hw
    have hwb : (r.wt == 1) = false := by simpa using hw
    generalize rL (enR r ns) = NL at *
    generalize rL r = RL at *
    generalize ns.map U = IL at *
    generalize r.wt = WT at *
    clear hZL h h4 hm hw
    go_enter Try.func8, Try.ntmps8
    go_wp2_with (first
      | (refine wpList_load_mid rfl 28 (.tmp 2) rfl w.heap.size 0 rfl RL _ (rangeAt_row (HR.out.at 2 rfl)) Try.underlying28 rfl (info13 RL HRL.out) ?_))
    refine Calls.mono (HMY.out _) ?_
    rintro e W4 ⟨rfl, hb4⟩
    have HR4 : Hid _ := HR.out.step hb4
    clear hb4 HR
    have hc := HR4.out.cell 2 rfl 12 HRW.out
    go_wp2_with (first
      | (refine wpList_stW rfl (.tmp 22) (.const (.int .i64 0)) rfl w.heap.size 12 0 rfl rfl RL 28 (HR4.out.at 2 rfl) (by rw [HRL.out]; decide) ?_
         intro W6 hW6
         have HR6 : Hid (RS w [(w.heap.size + 1 + 1, 28, ZL), (w.heap.size + 1, 31, IL), (w.heap.size, 28, NL)] W6) := by rw [hW6]; exact HR4.out.poke 2 rfl 12 _ HSEG.out
         clear hW6)
      | (refine wpList_load_mid rfl 28 (.tmp 2) rfl w.heap.size 0 rfl NL _ (rangeAt_row (HR6.out.at 2 rfl)) Try.underlying28 rfl (info13 NL HNL.out) ?_)
      | (refine wpList_store_row rfl 28 (.tmp 4) (.tmp 23) rfl (w.heap.size + 1 + 1) NL.toArray rfl rfl 28 ZL.toArray (HR6.out.at 0 rfl) (info13a NL HNL.out) (by simp [HZN.out, HNL.out]) HN1.out ?_))
    have R7 := HR6.out.put 0 rfl NL
    refine bodyPost_ret (v := .tuple #[.agg NL.toArray, .int .i64 0]) (results2 Try.results8 _ _ (w.heap.size + 1 + 1) _ NL _ _ rfl rfl (R7.at 0 rfl) Try.underlying28 rfl (info13 NL HNL.out)) rfl ⟨rfl, R7.bel⟩
theorem enter_any (r : Rc) (ns : List Int) (h : r.rs.length = 8) (h4 : ns.length = 4) (w : World) :
    Calls Try.prog 8 #[.agg (rL r).toArray, .agg (ns.map U).toArray] w fun e w' => e = .returned (.tuple #[.agg (rL (if mayR r = true then enR r ns else r0)).toArray, .int .i64 (if mayR r = true then 0 else 7)]) ∧ Below w.heap.size w w' := by
  cases hm : mayR r
  · exact enter_bad r ns h h4 hm w
  · exact enter_ok r ns h h4 hm w
end Go.Proofs.Ytpdafjamhccbnaa.VC
