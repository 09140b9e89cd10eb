/- rec: contract of OutBytes. -/
import Derived.Test.YtpdafjamhccbnaaCM
import Derived.Test.YtpdafjamhccbnaaCK
set_option linter.unusedVariables false
set_option linter.unusedSimpArgs false
namespace Go.Proofs.Ytpdafjamhccbnaa.VC
open Go.RowKit

/-- What is told, as words. -/
def ow (o : Ot) : List Int := o.re :: (o.ns ++ (o.ad :: (if o.wr = true then 1 else 0) :: o.ran :: Z8))
theorem ow_len {o : Ot} (h : o.ns.length = 4) : (ow o).length = 16 := by simp [ow, h, Z8]
theorem mt_bd {o : Ot} (h : mt o = true) : (1 ≤ o.re ∧ o.re ≤ 5) ∧ 0 ≤ o.ran ∧ o.ran ≤ 10000 := by
  unfold mt isRe at h
  simp only [Bool.and_eq_true, decide_eq_true_eq] at h
  exact ⟨h.1.1, h.1.2⟩
theorem ow_u {o : Ot} (ho : ook o) (hm : mt o = true) : ∀ x ∈ ow o, u64 x := by
  obtain ⟨h1, h2, h3⟩ := mt_bd hm
  intro x hx
  unfold ow at hx
  simp only [List.mem_cons, List.mem_append] at hx
  rcases hx with rfl | hx | rfl | rfl | rfl | hx
  · unfold u64; omega
  · exact ho.n.r x hx
  · exact ho.a
  · unfold u64; split <;> omega
  · unfold u64; omega
  · have : x = 0 := by simp [Z8] at hx; omega
    unfold u64; omega
theorem bldW (a b c : Int) (W : World) : (Instr.build 70 #[(0, .int .u64 a), (5, .int .u64 b), (7, .int .u64 c)]).run Try.prog W = .ok (.agg (([a, 0, 0, 0, 0, b, 0, c, 0, 0, 0, 0, 0, 0, 0, 0] : List Int).map U).toArray) W := by kernel_rfl
theorem slice15 (W : World) (b : Nat) : (Instr.sliceAt 70 (.pointer (some ⟨b, 0, none⟩)) (some (.int .i64 1)) (some (.int .i64 5)) none).run Try.prog W = .ok (.slice (some ⟨b, 1, none⟩) 4 15) W := by
  have ha : Try.prog.arrayLen 70 = 16 := by kernel_rfl
  have hu : Try.prog.underlying 70 = some (.array (Try.prog.arrayLen 70) (Try.prog.elem 70)) := by kernel_rfl
  have he : Try.prog.elem 70 = 22 := by kernel_rfl
  rw [run_sliceAt_array_lh W 70 _ hu .i64 .i64 1 5 (by omega) (by omega) (by rw [ha]; omega), he, size_u64, ha]
  simp only [Result.andThen, slicedAt]
  rw [if_neg (by decide), add_none]
  simp
theorem slice44' (W : World) (b o : Nat) : (Instr.sliceAt 29 (.pointer (some ⟨b, o, none⟩)) none none none).run Try.prog W = .ok (.slice (some ⟨b, o, none⟩) 4 4) W := slice44 W b o
theorem ow_seg (o : Ot) (h : o.ns.length = 4) : splice (([o.re, 0, 0, 0, 0, o.ad, 0, o.ran, 0, 0, 0, 0, 0, 0, 0, 0] : List Int).map U) 1 (o.ns.map U) = (o.re :: (o.ns ++ (o.ad :: 0 :: o.ran :: Z8))).map U := by
  obtain ⟨a, b, c, d, hk⟩ := four h
  rw [hk]; rfl
theorem ow_set (o : Ot) (h : o.ns.length = 4) (hw : o.wr = true) : ((o.re :: (o.ns ++ (o.ad :: 0 :: o.ran :: Z8))).map U).set 6 (.int .u64 1) = (ow o).map U := by
  obtain ⟨a, b, c, d, hk⟩ := four h
  unfold ow; rw [hk, if_pos hw]; rfl
theorem ow_no (o : Ot) (hw : o.wr = false) : (o.re :: (o.ns ++ (o.ad :: 0 :: o.ran :: Z8))).map U = (ow o).map U := by unfold ow; rw [hw]; rfl
set_option maxHeartbeats 1000000 in
theorem outBytes_bad (o : Ot) (ho : ook o) (hm : mt o = false) (w : World) : Calls Try.prog 15 #[.agg (oL o).toArray] w fun e w' => e = .returned (.tuple #[.agg (Z128.map B8).toArray, .int .i64 2]) ∧ Below w.heap.size w w' := by
  have hz := zero_gr
  obtain ⟨ZL, hZL⟩ : ∃ L, L = Z128.map B8 := ⟨_, rfl⟩
  have HZN : Hid (ZL.length = 128) := by show _ = _; rw [hZL, List.length_map, z128_len]
  have HZ1 : Hid (ZL.toArray.all (·.oneCell') = true) := by show _ = _; rw [hZL]; exact B8_onea _
  have HBG : Hid _ := build_gr
  rw [← hZL] at hz HBG
  have HM : Hid (∀ W, Calls Try.prog 24 #[.agg (oL o).toArray] W fun e w' => e = .returned (.bool false) ∧ Below W.heap.size W w') := fun W => by have q := mayTell_any o ho W; rw [hm] at q; exact q
  have HOL : Hid _ := oL_len ho.n.len
  have HR : Hid _ := ((RS.start w).alloc _ rfl 40 (oL o)).alloc (w.heap.size + 1) (by simp) 45 ZL
  rw [← hZL]
  generalize oL o = OL at *
  clear hZL ho hm
  go_enter Try.func15, Try.ntmps15
  go_wp2_with (refine wpList_load_mid rfl 40 (.tmp 1) rfl w.heap.size 0 rfl OL _ (rangeAt_row (HR.out.at 1 rfl)) Try.underlying40 rfl (info8o OL HOL.out) ?_)
  refine Calls.mono (HM.out _) ?_
  rintro e W1 ⟨rfl, b1⟩
  have HR1 : Hid _ := HR.out.step b1
  clear b1 HR HM
  go_wp2_with (first
    | (refine build_g (by rfl) 45 #[] rfl #[] (.agg ZL.toArray) (by simp [Act.eval]) (HBG.out _) ?_)
    | (refine wpList_store_row rfl 45 (.tmp 2) (.tmp 8) rfl (w.heap.size + 1) ZL.toArray rfl rfl 45 ZL.toArray (HR1.out.at 0 rfl) (info128a ZL HZN.out) rfl HZ1.out ?_))
  have R5 := HR1.out.put 0 rfl ZL
  refine bodyPost_ret (v := .tuple #[.agg ZL.toArray, .int .i64 2]) (results2 Try.results15 _ _ (w.heap.size + 1) _ ZL _ _ rfl rfl (R5.at 0 rfl) Try.underlying45 rfl (info128 ZL HZN.out)) rfl ⟨rfl, R5.bel⟩
set_option maxHeartbeats 2000000 in
set_option maxRecDepth 100000 in
theorem outBytes_ok (o : Ot) (ho : ook o) (hm : mt o = true) (w : World) : Calls Try.prog 15 #[.agg (oL o).toArray] w fun e w' => e = .returned (.tuple #[.agg ((gr (ow o)).map B8).toArray, .int .i64 0]) ∧ Below w.heap.size w w' := by
  have hz := zero_gr
  obtain ⟨ZL, hZL⟩ : ∃ L, L = Z128.map B8 := ⟨_, rfl⟩
  have HZN : Hid (ZL.length = 128) := by show _ = _; rw [hZL, List.length_map, z128_len]
  have HZ1 : Hid (ZL.toArray.all (·.oneCell') = true) := by show _ = _; rw [hZL]; exact B8_onea _
  have HBG : Hid _ := build_gr
  rw [← hZL] at hz HBG
  have HM : Hid (∀ W, Calls Try.prog 24 #[.agg (oL o).toArray] W fun e w' => e = .returned (.bool true) ∧ Below W.heap.size W w') := fun W => by have q := mayTell_any o ho W; rw [hm] at q; exact q
  have HOL : Hid _ := oL_len ho.n.len
  have HR : Hid _ := ((RS.start w).alloc _ rfl 40 (oL o)).alloc (w.heap.size + 1) (by simp) 45 ZL
  have h4 := ho.n.len
  have hzw := zero_ws
  obtain ⟨ZW, hZW⟩ : ∃ L, L = Z16.map U := ⟨_, rfl⟩
  have HZW : Hid (ZW.length = 16) := by rw [hZW]; rfl
  rw [← hZW] at hzw
  have HGO : Hid (∀ W, Calls Try.prog 22 #[.agg ((ow o).map U).toArray] W fun e w' => e = .returned (.agg ((gr (ow o)).map B8).toArray) ∧ Below W.heap.size W w') := fun W => granuleOf_any (ow o) (ow_len h4) (ow_u ho hm) W
  have HGL : Hid (((gr (ow o)).map B8).length = 128) := by show _ = _; rw [List.length_map, gr_len, ow_len h4]
  have HG1 : Hid _ := B8_onea (gr (ow o))
  have HBW : Hid _ := bldW o.re o.ad o.ran
  have HBL : Hid ((([o.re, 0, 0, 0, 0, o.ad, 0, o.ran, 0, 0, 0, 0, 0, 0, 0, 0] : List Int).map U).length = 16) := rfl
  have HB1 : Hid _ := onea (U_one ([o.re, 0, 0, 0, 0, o.ad, 0, o.ran, 0, 0, 0, 0, 0, 0, 0, 0] : List Int))
  have HSG : Hid _ := ow_seg o h4
  have HSL : Hid (((o.re :: (o.ns ++ (o.ad :: 0 :: o.ran :: Z8))).map U).length = 16) := by show _ = _; simp [h4, Z8]
  have HQL : Hid (((ow o).map U).length = 16) := by show _ = _; rw [List.length_map]; exact ow_len h4
  have HNL : Hid ((o.ns.map U).length = 4) := by show _ = _; simpa using h4
  have HN1 : Hid _ := U_one o.ns
  have HO0 : Hid _ := oL_re o
  have HO7 : Hid _ := oL_ran h4
  have HO5 : Hid _ := oL_ad h4
  have HO6 : Hid _ := oL_wr h4
  have HRG : Hid _ := oL_ns h4
  obtain ⟨hb1, hb2, hb3⟩ := mt_bd hm
  have hw1 : IntKind.u64.wrap o.re = o.re := by rw [W1.wrap_u64]; omega
  have hw2 : IntKind.u64.wrap o.ran = o.ran := by rw [W1.wrap_u64]; omega
  have HWR : Hid ((o.wr = true → ((o.re :: (o.ns ++ (o.ad :: 0 :: o.ran :: Z8))).map U).set 6 (.int .u64 1) = (ow o).map U) ∧ (o.wr = false → (o.re :: (o.ns ++ (o.ad :: 0 :: o.ran :: Z8))).map U = (ow o).map U)) := ⟨ow_set o h4, ow_no o⟩
  generalize (gr (ow o)).map B8 = GL at *
  generalize (ow o).map U = QL at *
  generalize (o.re :: (o.ns ++ (o.ad :: 0 :: o.ran :: Z8))).map U = SL at *
  generalize ([o.re, 0, 0, 0, 0, o.ad, 0, o.ran, 0, 0, 0, 0, 0, 0, 0, 0] : List Int).map U = BL at *
  generalize o.ns.map U = NL at *
  generalize oL o = OL at *
  generalize o.re = re at *
  generalize o.ran = ran at *
  generalize o.ad = ad at *
  generalize o.wr = wr at *
  clear hZL ho hm h4 hZW hb1 hb2 hb3
  go_enter Try.func15, Try.ntmps15
  go_wp2_with (refine wpList_load_mid rfl 40 (.tmp 1) rfl w.heap.size 0 rfl OL _ (rangeAt_row (HR.out.at 1 rfl)) Try.underlying40 rfl (info8o OL HOL.out) ?_)
  refine Calls.mono (HM.out _) ?_
  rintro e W1 ⟨rfl, b1⟩
  have HR1 : Hid _ := HR.out.step b1
  clear b1 HR HM
  have hc0 := HR1.out.cell 1 rfl 0 HO0.out
  have hc7 := HR1.out.cell 1 rfl 7 HO7.out
  have hc5 := HR1.out.cell 1 rfl 5 HO5.out
  go_wp2_with (first
    | (refine build_g (by rfl) 70 #[(0, .tmp 11), (5, .tmp 13), (7, .tmp 16)] rfl #[(0, .int .u64 re), (5, .int .u64 ad), (7, .int .u64 ran)] (.agg BL.toArray) (by first | (simp [Act.eval]; done) | (simp [Act.eval]; rfl)) (HBW.out _) ?_
       have R3 := HR1.out.alloc _ rfl 70 ZW
       have HR3 : Hid _ := R3
       have HR4 : Hid _ := R3.put 0 rfl BL
       clear R3 HR1)
    | (refine wpList_store_rowL rfl 70 (.tmp 4) (.tmp 17) rfl W1.heap.size BL.toArray rfl rfl 70 ZW.toArray (HR3.out.at 0 rfl) (info16a BL HBL.out) (by simp [HZW.out, HBL.out]) HB1.out ?_
       intro V2 hV2
       rw [← hV2] at HR4
       clear hV2 HR3 hc0 hc7 hc5))
  refine wp_region_held_drew (S := fun X => ∃ Z : List Value, RS w [(W1.heap.size, 70, Z), (w.heap.size + 1, 45, ZL), (w.heap.size, 40, OL)] X) (by kernel_rfl) ⟨BL, HR4.out.step (below_drew _)⟩ (fun hHeld => ?_)
  have hs1 := fun W => slice15 W W1.heap.size
  have hs2 := fun W => slice44 W w.heap.size 1
  refine wpAnyH_take (i := 0) (oi := { dst := some 18, op := Go.Op.slice 70 (Go.Operand.tmp 4) (some (Go.Operand.const (Go.Value.int Go.IntKind.i64 1))) (some (Go.Operand.const (Go.Value.int Go.IntKind.i64 5))) none, type := 64, pos := _, after := #[], guard := none }) (v := .slice (some ⟨W1.heap.size, 1, none⟩) 4 15) rfl (by kernel_rfl) (by kernel_rfl) (by kernel_rfl) (fun _ _ _ h => h) (Or.inl ⟨by rfl, fun w' hw' => ?_⟩) hHeld ?_
  · first | (go_simp; done) | (go_simp; rfl)
  try simp only [Act.put, List.setIfInBounds_toArray, List.set_cons_zero, List.set_cons_succ]
  refine wpAnyH_take (i := 1) (oi := { dst := some 19, op := Go.Op.fieldAddr 40 (Go.Operand.tmp 1) 1, type := 0, pos := _, after := #[], guard := none }) (v := .pointer (some ⟨w.heap.size, 1, none⟩)) rfl (by kernel_rfl) (by kernel_rfl) (by kernel_rfl) (fun _ _ _ h => h) (Or.inl ⟨by rfl, fun w' hw' => ?_⟩) hHeld ?_
  · first | (go_simp; done) | (go_simp; rfl)
  try simp only [Act.put, List.setIfInBounds_toArray, List.set_cons_zero, List.set_cons_succ]
  refine wpAnyH_take (i := 2) (oi := { dst := some 20, op := Go.Op.slice 29 (Go.Operand.tmp 19) none none none, type := 64, pos := _, after := #[{ on := 1, ground := Go.Ground.data }], guard := none }) (v := .slice (some ⟨w.heap.size, 1, none⟩) 4 4) rfl (by kernel_rfl) (by kernel_rfl) (by kernel_rfl) (fun _ _ _ h => h) (Or.inl ⟨by rfl, fun w' hw' => ?_⟩) hHeld ?_
  · first | (go_simp; done) | (go_simp; rfl)
  try simp only [Act.put, List.setIfInBounds_toArray, List.set_cons_zero, List.set_cons_succ]
  refine wpAnyH_ready (rs := [3]) (by kernel_rfl) (by simp) ?_
  refine AllReadyH.cons (o := { dst := some 21, op := Go.Op.call { callee := Go.Callee.builtin Go.Builtin.copy, args := #[Go.Operand.tmp 18, Go.Operand.tmp 20], argTypes := #[64, 64] }, type := 3, pos := _, after := #[{ on := 0, ground := Go.Ground.data }, { on := 2, ground := Go.Ground.data }], guard := none }) rfl (fun K hK => ?_) AllReadyH.nil
  rw [if_pos (by rfl)]
  have R4 := HR4.out.step (below_drew _)
  refine wp_copy_seg (.tmp 18) (.tmp 20) rfl W1.heap.size 1 4 15 (some ⟨w.heap.size, 1, none⟩) 4 4 rfl rfl BL 70 (R4.at 0 rfl) NL (by rw [HNL.out]; rfl) (fun _ => ⟨_, rfl, fun j v hv => ?_⟩) (by rw [HNL.out, HBL.out]; decide) HN1.out ?_
  · rw [add_none]
    have q := rangeAt_part (rangeAt_row (R4.at 2 rfl)) 1 4
    rw [HRG.out, Nat.zero_add] at q
    exact q j v hv
  rw [HSG.out]
  have R5 := R4.put 0 rfl SL
  refine hK.out _ _ ⟨SL, R5⟩ (fun _ => ?_)
  clear hK K
  try simp only [Act.put, List.setIfInBounds_toArray, List.set_cons_zero, List.set_cons_succ]
  refine wpAnyH_done (by kernel_rfl) ?_ _
  have HR5 : Hid (RS w [(W1.heap.size, 70, SL), (w.heap.size + 1, 45, ZL), (w.heap.size, 40, OL)] (V2.drew.setRow W1.heap.size SL.toArray)) := R5
  clear R4 R5 hHeld hs1 hs2 HR4
  generalize V2.drew.setRow W1.heap.size SL.toArray = V5 at *
  have hc6 := HR5.out.cell 2 rfl 6 HO6.out
  cases wr
  · have HR6 : Hid (RS w [(W1.heap.size, 70, QL), (w.heap.size + 1, 45, ZL), (w.heap.size, 40, OL)] V5) := by have q := HR5.out; rw [HWR.out.2 rfl] at q; exact q
    clear HR5
    go_wp2_with (refine wpList_load_mid rfl 70 (.tmp 4) rfl W1.heap.size 0 rfl QL _ (rangeAt_row (HR6.out.at 0 rfl)) Try.underlying70 rfl (info16 QL HQL.out) ?_)
    have HX : Hid (∀ W, Calls Try.prog 22 #[.agg QL.toArray] W fun e w' => e = .returned (.agg GL.toArray) ∧ Below W.heap.size W w') := HGO.out
    refine Calls.mono (HX.out _) ?_
    rintro e V7 ⟨rfl, b7⟩
    have HR7 : Hid _ := HR6.out.step b7
    clear b7
    go_wp2_with (refine wpList_store_row rfl 45 (.tmp 2) (.tmp 26) rfl (w.heap.size + 1) GL.toArray rfl rfl 45 ZL.toArray (HR7.out.at 1 rfl) (info128a GL HGL.out) (by simp [HZN.out, HGL.out]) HG1.out ?_)
    have R8 := HR7.out.put 1 rfl GL
    refine bodyPost_ret (v := .tuple #[.agg GL.toArray, .int .i64 0]) (results2 Try.results15 _ _ (w.heap.size + 1) _ GL _ _ rfl rfl (R8.at 1 rfl) Try.underlying45 rfl (info128 GL HGL.out)) rfl ⟨rfl, R8.bel⟩
  · go_wp2_with (first
      | (refine wpList_stU rfl (.tmp 24) (.const (.int .u64 1)) rfl W1.heap.size 6 1 rfl rfl SL 70 (HR5.out.at 0 rfl) (by rw [HSL.out]; decide) ?_
         intro V6 hV6
         have HR6 : Hid (RS w [(W1.heap.size, 70, QL), (w.heap.size + 1, 45, ZL), (w.heap.size, 40, OL)] V6) := by rw [hV6]; exact HR5.out.poke 0 rfl 6 _ (HWR.out.1 rfl)
         clear hV6 HR5 hc6)
      | (refine wpList_load_mid rfl 70 (.tmp 4) rfl W1.heap.size 0 rfl QL _ (rangeAt_row (HR6.out.at 0 rfl)) Try.underlying70 rfl (info16 QL HQL.out) ?_))
    have HX : Hid (∀ W, Calls Try.prog 22 #[.agg QL.toArray] W fun e w' => e = .returned (.agg GL.toArray) ∧ Below W.heap.size W w') := HGO.out
    refine Calls.mono (HX.out _) ?_
    rintro e V7 ⟨rfl, b7⟩
    have HR7 : Hid _ := HR6.out.step b7
    clear b7
    go_wp2_with (refine wpList_store_row rfl 45 (.tmp 2) (.tmp 26) rfl (w.heap.size + 1) GL.toArray rfl rfl 45 ZL.toArray (HR7.out.at 1 rfl) (info128a GL HGL.out) (by simp [HZN.out, HGL.out]) HG1.out ?_)
    have R8 := HR7.out.put 1 rfl GL
    refine bodyPost_ret (v := .tuple #[.agg GL.toArray, .int .i64 0]) (results2 Try.results15 _ _ (w.heap.size + 1) _ GL _ _ rfl rfl (R8.at 1 rfl) Try.underlying45 rfl (info128 GL HGL.out)) rfl ⟨rfl, R8.bel⟩
/-- What OutBytes answers. -/
def obL (o : Ot) : List UInt8 := if mt o = true then gr (ow o) else Z128
theorem obL_len {o : Ot} (h : o.ns.length = 4) : (obL o).length = 128 := by
  unfold obL; split
  · rw [gr_len, ow_len h]
  · exact z128_len
theorem outBytes_any (o : Ot) (ho : ook o) (w : World) : Calls Try.prog 15 #[.agg (oL o).toArray] w fun e w' => e = .returned (.tuple #[.agg ((obL o).map B8).toArray, .int .i64 (if mt o = true then 0 else 2)]) ∧ Below w.heap.size w w' := by
  unfold obL
  cases hm : mt o
  · exact outBytes_bad o ho hm w
  · exact outBytes_ok o ho hm w
end Go.Proofs.Ytpdafjamhccbnaa.VC
