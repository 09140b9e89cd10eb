/- tree: TreeParts' walk. -/
import Derived.Test.YtnijjoankahddaaGreatDU
import Derived.Deep.CutRange
set_option linter.unusedVariables false
set_option linter.unusedSimpArgs false
namespace Go.Proofs.YtnijjoankahddaaGreat.DC
open Go.RowKit

theorem infoCa (L : List Value) (h : L.length = 37) : (Tryz.prog.info? 28).map (·.size) = some L.length := by rw [h]; kernel_rfl
theorem infoD (L : List Value) (h : L.length = 32) : (Tryz.prog.info? 23).map (·.size) = some L.length := R5.info32 L h
set_option maxHeartbeats 4000000 in
set_option maxRecDepth 100000 in
theorem parts_walk (w : World) (c : Ca) (dv fv : Value) (pg ii : Int) (aa bb : List UInt8) (hc : c.ok dv fv w) (ha : aa.length = 32) (hb : bb.length = 32) :
    Calls Tryz.prog 3 #[.agg (caL c dv fv).toArray, .int .i64 pg, .int .i64 ii, .agg (aa.map B8).toArray, .agg (bb.map B8).toArray] w fun e w' => e = .returned (.bool true) ∧ Below w.heap.size w w' := by
  have HK : Hid (∀ W, Calls Tryz.prog 7 #[] W fun e w' => e = .returned (.bool true) ∧ Below W.heap.size W w') := known_any
  have HNM : Hid (∀ n W, Calls Tryz.prog 17 #[.int .i64 n] W fun x w' => x = .returned (.int .i64 n) ∧ W = w') := num_any
  have HSAME : Hid (∀ v1 v2 (ls : List Int) W, ls.length ≤ 100 → HI W v1 ls → HI W v2 ls → Calls Tryz.prog 14 #[v1, v2] W fun e w' => e = .returned (.bool true) ∧ Below W.heap.size W w') := same_eq
  have hz := fun W => R5.zero_dig W
  obtain ⟨ZL, hZL⟩ : ∃ L, L = (List.replicate 32 (0 : UInt8)).map B8 := ⟨_, rfl⟩
  rw [← hZL] at hz
  have HZL : Hid (ZL.length = 32) := by show _ = _; rw [hZL]; simp
  have HZS : Hid (ZL.toArray.size = 32) := by show _ = _; rw [hZL]; simp
  have HZ1 : Hid (ZL.toArray.all (·.oneCell') = true) := by show _ = _; rw [hZL]; exact R5.B8_onea _
  have HBD : Hid (∀ W : World, (Instr.build 23 #[]).run Tryz.prog W = .ok (.agg ZL.toArray) W) := fun W => by rw [hZL]; exact R5.build_dig W
  have HEV : Hid (∀ e, R5.errV e = .tuple #[.agg ZL.toArray, .int .i64 e]) := fun e => by rw [hZL]; rfl
  have HEZ : Hid (∀ W, (Op.equalIn 10000 23 (.agg ZL.toArray) (.agg ZL.toArray)).run Tryz.prog W = .ok true W) := fun W => by rw [hZL]; exact eq_dig W _ _ (by simp) (by simp) true (by simp)
  obtain ⟨hdl, pd, capd, hde, _⟩ := id hc.d
  obtain ⟨hfl, pf, capf, hfe, _⟩ := id hc.f
  have HSB : Hid (∀ W, Calls Tryz.prog 6 #[.agg (caL c dv fv).toArray] W fun e Y => e = .returned (.bool (smB c)) ∧ Below W.heap.size W Y) := fun W => by rw [hde, hfe]; exact small_any W c pd pf capd capf hc.m
  have HTWO : Hid (smB c = true → ∀ W rows, RS w rows W → Calls Tryz.prog 8 #[.agg (caL c dv fv).toArray] W fun e Y => TwEnd w c c.n.toNat ((W.heap.size, 28, caL c dv fv) :: rows) e Y) := fun h W rows hR => by
    have hs := of_decide_eq_true h
    exact two_any w W c dv fv c.n.toNat rows hc hR (by omega) (by omega) (by omega) (by omega) (by omega)
  have HCLN : Hid _ := caL_len c dv fv hc.m
  have HAA : Hid (aa.length = 32) := ha
  have HBB : Hid (bb.length = 32) := hb
  have HR0 : Hid _ := (((RS.start w).alloc _ rfl 28 (caL c dv fv)).alloc (w.heap.size + 1) (by simp) 23 (aa.map B8)).alloc (w.heap.size + 1 + 1) (by simp) 23 (bb.map B8)
  obtain ⟨CL, hCL⟩ : ∃ L, caL c dv fv = L := ⟨_, rfl⟩
  obtain ⟨AL, hAL⟩ : ∃ L, aa.map B8 = L := ⟨_, rfl⟩
  obtain ⟨BL, hBL⟩ : ∃ L, bb.map B8 = L := ⟨_, rfl⟩
  have HAL : Hid (aa.map B8 = AL) := hAL
  have HBL : Hid (bb.map B8 = BL) := hBL
  have HALN : Hid (AL.length = 32) := by show _ = _; rw [← hAL]; simpa using ha
  have HBLN : Hid (BL.length = 32) := by show _ = _; rw [← hBL]; simpa using hb
  rw [hCL] at HSB HTWO HCLN
  rw [hCL, hAL, hBL] at HR0 ⊢
  generalize smB c = sb at *
  clear hZL hdl hde hfl hfe hc ha hb hCL hAL hBL
  go_enter Tryz.func3, Tryz.ntmps3
  go_wp2_with (refine wpList_load_mid rfl 28 (.tmp 5) rfl w.heap.size 0 rfl CL _ (MC.rangeAt_row (HR0.out.at 2 rfl)) Tryz.underlying28 rfl (infoCa CL HCLN.out) ?_)
  refine Calls.mono (HSB.out _) ?_
  rintro e X1 ⟨rfl, hb1⟩
  have HR1 : Hid _ := HR0.out.step hb1
  clear hb1 HR0 HSB
  cases sb with
  | false =>
    clear HTWO
    go_wp2_with fail
    refine Calls.mono (HK.out X1) ?_
    rintro e X2 ⟨rfl, hb2⟩
    have HE : Hid (Below w.heap.size w X2) := HR1.out.bel.trans (hb2.mono HR1.out.bel.size)
    clear hb2 HR1
    go_wp2
    go_ret
    exact ⟨rfl, HE.out⟩
  | true =>
    have HTW : Hid _ := HTWO.out rfl X1 _ HR1.out
    clear HTWO
    go_wp2_with (refine wpList_load_mid rfl 28 (.tmp 5) rfl w.heap.size 0 rfl CL _ (MC.rangeAt_row (HR1.out.at 2 rfl)) Tryz.underlying28 rfl (infoCa CL HCLN.out) ?_)
    refine Calls.mono HTW.out ?_
    rintro e X2 ⟨og, mb, rg, mm, gb, rm, bq, rfl, hTM⟩
    have HTX0 : Hid (TB w og mb rg c.i c.m c.D [] [] [(w.heap.size + 1 + 1, 23, BL), (w.heap.size + 1, 23, AL), (w.heap.size, 28, CL)] X2) := hTM.tb.drop.drop.drop.drop.drop
    clear hTM HTW HR1
    generalize c.i = i at *
    generalize c.m = m at *
    generalize c.D = D at *
    by_cases hpg : mayP pg = true
    · obtain ⟨p, rfl, hp⟩ := mayP_nat hpg
      obtain ⟨NA, L, hNA, hLL, hpp, hrr⟩ : ∃ (NA : List UInt8) (L : Lg), NA.length = 32 ∧ L.length < 1000000 ∧ (∀ W rws, TB w og mb rg i m D [] [] rws W → Calls Tryz.prog 9 #[.pointer (some ⟨og, 0, none⟩), .int .i64 (p : Int)] W fun e Y => e = .returned (.tuple #[.agg (NA.map B8).toArray, .int .i64 0]) ∧ TB w og mb rg i m D L [] rws Y) ∧ (∀ W rws, TB w og mb rg i m D L [] rws W → Calls Tryz.prog 13 #[.pointer (some ⟨rg, 0, none⟩), .int .i64 (p : Int)] W fun e Y => e = .returned (.agg (NA.map B8).toArray) ∧ TB w og mb rg i m D L L rws Y) := ⟨(nx2 i D [] (qNone p)).1, (nx2 i D [] (qNone p)).2, HTX0.out.alen _, Nat.lt_of_le_of_lt (nx2_len i D [] (qNone p)) (by simp), fun W rws hW => hW.pnone (by simp) p hp, fun W rws hW => hW.rnone (by simp) p hp⟩
      have HPN : Hid (∀ W rws, TB w og mb rg i m D [] [] rws W → Calls Tryz.prog 9 #[.pointer (some ⟨og, 0, none⟩), .int .i64 (p : Int)] W fun e Y => e = .returned (.tuple #[.agg (NA.map B8).toArray, .int .i64 0]) ∧ TB w og mb rg i m D L [] rws Y) := hpp
      have HRN0 : Hid (∀ W rws, TB w og mb rg i m D L [] rws W → Calls Tryz.prog 13 #[.pointer (some ⟨rg, 0, none⟩), .int .i64 (p : Int)] W fun e Y => e = .returned (.agg (NA.map B8).toArray) ∧ TB w og mb rg i m D L L rws Y) := hrr
      have HXQ : Hid (∀ W, (Op.equalIn 10000 23 (.agg (NA.map B8).toArray) (.agg (NA.map B8).toArray)).run Tryz.prog W = .ok true W) := fun W => eq_dig W NA NA hNA hNA true (by simp)
      have HXN : Hid ((NA.map B8).length = 32) := by show _ = _; simpa using hNA
      have HX1 : Hid _ := R5.B8_onea NA
      have HLL : Hid (L.length < 1000000) := hLL
      have HWY : Hid (∀ W, Calls Tryz.prog 10 #[.int .i64 (p : Int)] W fun e w' => LEnd W (wayL p) e w') := fun W => way_ok p hp W
      have HBS : Hid (∀ W, Calls Tryz.prog 11 #[.int .i64 (p : Int)] W fun e w' => LEnd W (besL p) e w') := fun W => beside_ok p hp W
      have HRW : Hid (∀ W, Calls Tryz.prog 15 #[.int .i64 (p : Int)] W fun e w' => REnd W (wayL p) e w') := fun W => rway_any p hp W
      have HRB : Hid (∀ W, Calls Tryz.prog 16 #[.int .i64 (p : Int)] W fun e w' => REnd W (besL p) e w') := fun W => rbeside_any p hp W
      have HMP : Hid (∀ W, Calls Tryz.prog 12 #[.int .i64 (p : Int)] W fun e w' => e = .returned (.bool true) ∧ w' = W) := fun W => by have q := mayPage_any (p : Int) W; rw [hpg] at q; exact q
      have HLW : Hid ((wayL p).length = 8) := by show _ = _; simp [wayL]
      have HLB : Hid ((besL p).length = 7) := by show _ = _; simp [besL]
      generalize NA.map B8 = XL at *
      generalize wayL p = WL at *
      generalize besL p = BSL at *
      clear hpp hrr hNA hLL hpg hp
      go_wp2_with fail
      refine Calls.mono (HPN.out X2 _ HTX0.out) ?_
      rintro e X3 ⟨rfl, T0⟩
      have T1 := (T0).alloc _ rfl 23 ZL
      have HRN : Hid (((X3).alloc (.cells ZL.toArray 23 (0, 0))).heap[(X3).heap.size]? = some (.cells ZL.toArray 23 (0, 0))) := heap_alloc_new _ _
      have HT2 : Hid _ := T1.put 0 rfl XL
      clear T0 T1 HPN HTX0
      go_wp2_with (refine wpList_store_row rfl 23 (.tmp 16) (.tmp 42) rfl X3.heap.size XL.toArray rfl rfl 23 ZL.toArray HRN.out (R5.info32a _ (by simpa using HXN.out)) (HZS.out.trans (by simpa using HXN.out.symm)) HX1.out ?_)
      generalize (X3.alloc (.cells ZL.toArray 23 (0, 0))).setRow X3.heap.size XL.toArray = X4 at *
      generalize X3.heap.size = n16 at *
      refine Calls.mono (HWY.out X4) ?_
      rintro e X5 ⟨v1, rfl, hf1, hb5⟩
      obtain ⟨g1, M1, T5, hv1⟩ := HT2.out.list hb5 (by rw [HLW.out]; decide) hf1
      have HT5 : Hid _ := T5
      have HV1 : Hid (∀ W, W.heap[g1]? = some (.cells M1.toArray 3 (0, 0)) → HI W v1 WL) := hv1
      clear hf1 hb5 T5 hv1 HT2 HRN HWY
      go_wp2_with fail
      refine Calls.mono (HBS.out X5) ?_
      rintro e X6 ⟨v2, rfl, hf2, hb6⟩
      obtain ⟨g2, M2, T6, hv2⟩ := HT5.out.list hb6 (by rw [HLB.out]; decide) hf2
      have HV2 : Hid (∀ W, W.heap[g2]? = some (.cells M2.toArray 3 (0, 0)) → HI W v2 BSL) := hv2
      have HT6 : Hid (TB w og mb rg i m D L [] ((g2, 3, M2) :: (g1, 3, M1) :: (n16, 23, XL) :: [(w.heap.size + 1 + 1, 23, BL), (w.heap.size + 1, 23, AL), (w.heap.size, 28, CL)]) X6) := T6
      clear hf2 hb6 T6 hv2 HT5 HBS
      go_wp2_with fail
      refine Calls.mono (HMP.out X6) ?_
      rintro e X7 ⟨rfl, hy⟩
      rw [hy]
      clear hy X7 HMP
      go_upto_region 10 with fail
      have HTD : Hid (TB w og mb rg i m D L [] ((g2, 3, M2) :: (g1, 3, M1) :: (n16, 23, XL) :: [(w.heap.size + 1 + 1, 23, BL), (w.heap.size + 1, 23, AL), (w.heap.size, 28, CL)]) X6.drew) := HT6.out.step (Below.refl _ _).drew
      refine wp_region_held_drew (S := fun W => RS w ((g2, 3, M2) :: (g1, 3, M1) :: (n16, 23, XL) :: [(w.heap.size + 1 + 1, 23, BL), (w.heap.size + 1, 23, AL), (w.heap.size, 28, CL)]) W) (by kernel_rfl) HTD.out.rs (fun hHeld => ?_)
      clear HT6
      generalize X6.drew = X7 at *
      refine wpAnyH_take (i := 0) (oi := { dst := some 56, op := Go.Op.load 23 (Go.Operand.tmp 16), type := 23, pos := _, after := #[], guard := none }) rfl (by kernel_rfl) (by kernel_rfl) (by kernel_rfl) (fun _ _ _ h => h) (yieldsIf_load_mid (by rfl) 23 (.tmp 16) rfl (n16) (0) rfl (XL) _ (fun _ h => MC.rangeAt_row (h.at 2 rfl)) Tryz.underlying23 rfl (infoD XL HXN.out)) hHeld ?_
      try simp only [Act.put, List.setIfInBounds_toArray, List.set_cons_zero, List.set_cons_succ]
      refine wpAnyH_take (i := 1) (oi := { dst := some 57, op := Go.Op.move (Go.Operand.tmp 13), type := 33, pos := _, after := #[], guard := none }) (v := .pointer (some ⟨rg, 0, none⟩)) rfl (by kernel_rfl) (by kernel_rfl) (by kernel_rfl) (fun _ _ _ h => h) (Or.inl ⟨by rfl, fun w' hw' => ?_⟩) hHeld ?_
      · first | (go_simp; done) | (go_simp; rfl)
      try simp only [Act.put, List.setIfInBounds_toArray, List.set_cons_zero, List.set_cons_succ]
      refine wpAnyH_take (i := 2) (oi := { dst := some 58, op := Go.Op.move (Go.Operand.tmp 1), type := 3, pos := _, after := #[], guard := none }) (v := .int .i64 (p : Int)) rfl (by kernel_rfl) (by kernel_rfl) (by kernel_rfl) (fun _ _ _ h => h) (Or.inl ⟨by rfl, fun w' hw' => ?_⟩) hHeld ?_
      · first | (go_simp; done) | (go_simp; rfl)
      try simp only [Act.put, List.setIfInBounds_toArray, List.set_cons_zero, List.set_cons_succ]
      refine wpAnyH_ready (rs := [3]) (by kernel_rfl) (by simp) ?_
      refine AllReadyH.cons (o := { dst := some 59, op := Go.Op.call { callee := Go.Callee.value (Go.Operand.func 13), args := #[Go.Operand.tmp 57, Go.Operand.tmp 58], argTypes := #[33, 3] }, type := 23, pos := _, after := #[{ on := 1, ground := Go.Ground.data }, { on := 2, ground := Go.Ground.data }], guard := none }) rfl (fun K hK => ?_) AllReadyH.nil
      rw [if_pos (by rfl)]
      go_wp2_with fail
      refine Calls.mono (HRN0.out _ _ HTD.out) ?_
      rintro e Y1 ⟨rfl, T1⟩
      clear hHeld HTD
      have hHeld := T1.rs
      refine hK.out _ _ hHeld (fun _ => ?_)
      clear hK K
      try simp only [Act.put, List.setIfInBounds_toArray, List.set_cons_zero, List.set_cons_succ]
      refine wpAnyH_take (i := 4) (oi := { dst := some 60, op := Go.Op.binOp Go.BinOp.neq 23 (Go.Operand.tmp 56) (Go.Operand.tmp 59) 23, type := 4, pos := _, after := #[{ on := 0, ground := Go.Ground.data }, { on := 3, ground := Go.Ground.data }], guard := none }) (v := .bool false) rfl (by kernel_rfl) (by kernel_rfl) (by kernel_rfl) (fun _ _ _ h => h) (Or.inl ⟨by rfl, fun w' hw' => ?_⟩) hHeld ?_
      · exact run_neq rfl rfl rfl gD (HXQ.out w')
      try simp only [Act.put, List.setIfInBounds_toArray, List.set_cons_zero, List.set_cons_succ]
      refine wpAnyH_take (i := 5) (oi := { dst := some 61, op := Go.Op.move (Go.Operand.tmp 60), type := 4, pos := _, after := #[{ on := 4, ground := Go.Ground.data }, { on := 3, ground := Go.Ground.chain }], guard := none }) (v := .bool false) rfl (by kernel_rfl) (by kernel_rfl) (by kernel_rfl) (fun _ _ _ h => h) (Or.inl ⟨by rfl, fun w' hw' => ?_⟩) hHeld ?_
      · first | (go_simp; done) | (go_simp; rfl)
      try simp only [Act.put, List.setIfInBounds_toArray, List.set_cons_zero, List.set_cons_succ]
      refine wpAnyH_take (i := 6) (oi := { dst := some 62, op := Go.Op.move (Go.Operand.tmp 18), type := 40, pos := _, after := #[{ on := 5, ground := Go.Ground.guard }], guard := some (5, false) }) (v := v1) rfl (by kernel_rfl) (by kernel_rfl) (by kernel_rfl) (fun _ _ _ h => h) (Or.inl ⟨by rfl, fun w' hw' => ?_⟩) hHeld ?_
      · first | (go_simp; done) | (go_simp; rfl)
      try simp only [Act.put, List.setIfInBounds_toArray, List.set_cons_zero, List.set_cons_succ]
      refine wpAnyH_take (i := 7) (oi := { dst := some 63, op := Go.Op.move (Go.Operand.tmp 1), type := 3, pos := _, after := #[{ on := 5, ground := Go.Ground.guard }], guard := some (5, false) }) (v := .int .i64 (p : Int)) rfl (by kernel_rfl) (by kernel_rfl) (by kernel_rfl) (fun _ _ _ h => h) (Or.inl ⟨by rfl, fun w' hw' => ?_⟩) hHeld ?_
      · first | (go_simp; done) | (go_simp; rfl)
      try simp only [Act.put, List.setIfInBounds_toArray, List.set_cons_zero, List.set_cons_succ]
      refine wpAnyH_ready (rs := [8]) (by kernel_rfl) (by simp) ?_
      refine AllReadyH.cons (o := { dst := some 64, op := Go.Op.call { callee := Go.Callee.value (Go.Operand.func 15), args := #[Go.Operand.tmp 63], argTypes := #[3] }, type := 40, pos := _, after := #[{ on := 7, ground := Go.Ground.data }, { on := 5, ground := Go.Ground.chain }, { on := 5, ground := Go.Ground.guard }], guard := some (5, false) }) rfl (fun K hK => ?_) AllReadyH.nil
      rw [if_pos (by rfl)]
      go_wp2_with fail
      refine Calls.mono (HRW.out Y1) ?_
      rintro e Y2 ⟨v3, rfl, hf3, hb3⟩
      have T2 := T1.step hb3
      have hh3 : HI Y2 v3 WL := hf3.hi
      clear hHeld hf3 hb3 T1
      have hHeld := T2.rs
      refine hK.out _ _ hHeld (fun _ => ?_)
      clear hK K
      try simp only [Act.put, List.setIfInBounds_toArray, List.set_cons_zero, List.set_cons_succ]
      refine wpAnyH_ready (rs := [9]) (by kernel_rfl) (by simp) ?_
      refine AllReadyH.cons (o := { dst := some 65, op := Go.Op.call { callee := Go.Callee.value (Go.Operand.func 14), args := #[Go.Operand.tmp 62, Go.Operand.tmp 64], argTypes := #[40, 40] }, type := 4, pos := _, after := #[{ on := 6, ground := Go.Ground.data }, { on := 8, ground := Go.Ground.data }, { on := 8, ground := Go.Ground.chain }, { on := 5, ground := Go.Ground.guard }], guard := some (5, false) }) rfl (fun K hK => ?_) AllReadyH.nil
      rw [if_pos (by rfl)]
      go_wp2_with fail
      refine Calls.mono (HSAME.out v1 v3 WL Y2 (by rw [HLW.out]; decide) (HV1.out Y2 (T2.rs.at 1 rfl)) hh3) ?_
      rintro e Y3 ⟨rfl, hb3⟩
      have T3 := T2.step hb3
      clear hHeld hb3 T2 hh3
      have hHeld := T3.rs
      refine hK.out _ _ hHeld (fun _ => ?_)
      clear hK K
      try simp only [Act.put, List.setIfInBounds_toArray, List.set_cons_zero, List.set_cons_succ]
      refine wpAnyH_take (i := 10) (oi := { dst := some 66, op := Go.Op.unOp Go.UnOp.not 4 (Go.Operand.tmp 65), type := 4, pos := _, after := #[{ on := 9, ground := Go.Ground.data }, { on := 5, ground := Go.Ground.guard }], guard := some (5, false) }) (v := .bool false) rfl (by kernel_rfl) (by kernel_rfl) (by kernel_rfl) (fun _ _ _ h => h) (Or.inl ⟨by rfl, fun w' hw' => ?_⟩) hHeld ?_
      · first | (go_simp; done) | (go_simp; rfl)
      try simp only [Act.put, List.setIfInBounds_toArray, List.set_cons_zero, List.set_cons_succ]
      refine wpAnyH_take (i := 11) (oi := { dst := some 67, op := Go.Op.pick (Go.Operand.tmp 61) (Go.Operand.const (Go.Value.bool true)) (Go.Operand.tmp 66), type := 4, pos := _, after := #[{ on := 5, ground := Go.Ground.data }, { on := 10, ground := Go.Ground.data }], guard := none }) (v := .bool false) rfl (by kernel_rfl) (by kernel_rfl) (by kernel_rfl) (fun _ _ _ h => h) (Or.inl ⟨by rfl, fun w' hw' => ?_⟩) hHeld ?_
      · first | (go_simp; done) | (go_simp; rfl)
      try simp only [Act.put, List.setIfInBounds_toArray, List.set_cons_zero, List.set_cons_succ]
      refine wpAnyH_take (i := 12) (oi := { dst := some 68, op := Go.Op.move (Go.Operand.tmp 67), type := 4, pos := _, after := #[{ on := 11, ground := Go.Ground.data }, { on := 9, ground := Go.Ground.chain }], guard := none }) (v := .bool false) rfl (by kernel_rfl) (by kernel_rfl) (by kernel_rfl) (fun _ _ _ h => h) (Or.inl ⟨by rfl, fun w' hw' => ?_⟩) hHeld ?_
      · first | (go_simp; done) | (go_simp; rfl)
      try simp only [Act.put, List.setIfInBounds_toArray, List.set_cons_zero, List.set_cons_succ]
      refine wpAnyH_take (i := 13) (oi := { dst := some 69, op := Go.Op.move (Go.Operand.tmp 20), type := 40, pos := _, after := #[{ on := 12, ground := Go.Ground.guard }], guard := some (12, false) }) (v := v2) rfl (by kernel_rfl) (by kernel_rfl) (by kernel_rfl) (fun _ _ _ h => h) (Or.inl ⟨by rfl, fun w' hw' => ?_⟩) hHeld ?_
      · first | (go_simp; done) | (go_simp; rfl)
      try simp only [Act.put, List.setIfInBounds_toArray, List.set_cons_zero, List.set_cons_succ]
      refine wpAnyH_take (i := 14) (oi := { dst := some 70, op := Go.Op.move (Go.Operand.tmp 1), type := 3, pos := _, after := #[{ on := 12, ground := Go.Ground.guard }], guard := some (12, false) }) (v := .int .i64 (p : Int)) rfl (by kernel_rfl) (by kernel_rfl) (by kernel_rfl) (fun _ _ _ h => h) (Or.inl ⟨by rfl, fun w' hw' => ?_⟩) hHeld ?_
      · first | (go_simp; done) | (go_simp; rfl)
      try simp only [Act.put, List.setIfInBounds_toArray, List.set_cons_zero, List.set_cons_succ]
      refine wpAnyH_ready (rs := [15]) (by kernel_rfl) (by simp) ?_
      refine AllReadyH.cons (o := { dst := some 71, op := Go.Op.call { callee := Go.Callee.value (Go.Operand.func 16), args := #[Go.Operand.tmp 70], argTypes := #[3] }, type := 40, pos := _, after := #[{ on := 14, ground := Go.Ground.data }, { on := 12, ground := Go.Ground.chain }, { on := 12, ground := Go.Ground.guard }], guard := some (12, false) }) rfl (fun K hK => ?_) AllReadyH.nil
      rw [if_pos (by rfl)]
      go_wp2_with fail
      refine Calls.mono (HRB.out Y3) ?_
      rintro e Y4 ⟨v4, rfl, hf3, hb3⟩
      have T4 := T3.step hb3
      have hh3 : HI Y4 v4 BSL := hf3.hi
      clear hHeld hf3 hb3 T3
      have hHeld := T4.rs
      refine hK.out _ _ hHeld (fun _ => ?_)
      clear hK K
      try simp only [Act.put, List.setIfInBounds_toArray, List.set_cons_zero, List.set_cons_succ]
      refine wpAnyH_ready (rs := [16]) (by kernel_rfl) (by simp) ?_
      refine AllReadyH.cons (o := { dst := some 72, op := Go.Op.call { callee := Go.Callee.value (Go.Operand.func 14), args := #[Go.Operand.tmp 69, Go.Operand.tmp 71], argTypes := #[40, 40] }, type := 4, pos := _, after := #[{ on := 13, ground := Go.Ground.data }, { on := 15, ground := Go.Ground.data }, { on := 15, ground := Go.Ground.chain }, { on := 12, ground := Go.Ground.guard }], guard := some (12, false) }) rfl (fun K hK => ?_) AllReadyH.nil
      rw [if_pos (by rfl)]
      go_wp2_with fail
      refine Calls.mono (HSAME.out v2 v4 BSL Y4 (by rw [HLB.out]; decide) (HV2.out Y4 (T4.rs.at 0 rfl)) hh3) ?_
      rintro e Y5 ⟨rfl, hb3⟩
      have T5 := T4.step hb3
      clear hHeld hb3 T4 hh3
      have hHeld := T5.rs
      refine hK.out _ _ hHeld (fun _ => ?_)
      clear hK K
      try simp only [Act.put, List.setIfInBounds_toArray, List.set_cons_zero, List.set_cons_succ]
      refine wpAnyH_take (i := 17) (oi := { dst := some 73, op := Go.Op.unOp Go.UnOp.not 4 (Go.Operand.tmp 72), type := 4, pos := _, after := #[{ on := 16, ground := Go.Ground.data }, { on := 12, ground := Go.Ground.guard }], guard := some (12, false) }) (v := .bool false) rfl (by kernel_rfl) (by kernel_rfl) (by kernel_rfl) (fun _ _ _ h => h) (Or.inl ⟨by rfl, fun w' hw' => ?_⟩) hHeld ?_
      · first | (go_simp; done) | (go_simp; rfl)
      try simp only [Act.put, List.setIfInBounds_toArray, List.set_cons_zero, List.set_cons_succ]
      refine wpAnyH_take (i := 18) (oi := { dst := some 74, op := Go.Op.pick (Go.Operand.tmp 68) (Go.Operand.const (Go.Value.bool true)) (Go.Operand.tmp 73), type := 4, pos := _, after := #[{ on := 12, ground := Go.Ground.data }, { on := 17, ground := Go.Ground.data }], guard := none }) (v := .bool false) rfl (by kernel_rfl) (by kernel_rfl) (by kernel_rfl) (fun _ _ _ h => h) (Or.inl ⟨by rfl, fun w' hw' => ?_⟩) hHeld ?_
      · first | (go_simp; done) | (go_simp; rfl)
      try simp only [Act.put, List.setIfInBounds_toArray, List.set_cons_zero, List.set_cons_succ]
      refine wpAnyH_take (i := 19) (oi := { dst := some 75, op := Go.Op.move (Go.Operand.tmp 74), type := 4, pos := _, after := #[{ on := 18, ground := Go.Ground.data }, { on := 16, ground := Go.Ground.chain }], guard := none }) (v := .bool false) rfl (by kernel_rfl) (by kernel_rfl) (by kernel_rfl) (fun _ _ _ h => h) (Or.inl ⟨by rfl, fun w' hw' => ?_⟩) hHeld ?_
      · first | (go_simp; done) | (go_simp; rfl)
      try simp only [Act.put, List.setIfInBounds_toArray, List.set_cons_zero, List.set_cons_succ]
      refine wpAnyH_take (i := 20) (oi := { dst := some 76, op := Go.Op.move (Go.Operand.tmp 17), type := 37, pos := _, after := #[{ on := 19, ground := Go.Ground.guard }], guard := some (19, false) }) (v := .int .i64 0) rfl (by kernel_rfl) (by kernel_rfl) (by kernel_rfl) (fun _ _ _ h => h) (Or.inl ⟨by rfl, fun w' hw' => ?_⟩) hHeld ?_
      · first | (go_simp; done) | (go_simp; rfl)
      try simp only [Act.put, List.setIfInBounds_toArray, List.set_cons_zero, List.set_cons_succ]
      refine wpAnyH_take (i := 22) (oi := { dst := some 78, op := Go.Op.move (Go.Operand.tmp 19), type := 37, pos := _, after := #[{ on := 19, ground := Go.Ground.guard }], guard := some (19, false) }) (v := .int .i64 0) rfl (by kernel_rfl) (by kernel_rfl) (by kernel_rfl) (fun _ _ _ h => h) (Or.inl ⟨by rfl, fun w' hw' => ?_⟩) hHeld ?_
      · first | (go_simp; done) | (go_simp; rfl)
      try simp only [Act.put, List.setIfInBounds_toArray, List.set_cons_zero, List.set_cons_succ]
      refine wpAnyH_take (i := 25) (oi := { dst := some 81, op := Go.Op.move (Go.Operand.tmp 21), type := 37, pos := _, after := #[{ on := 19, ground := Go.Ground.guard }], guard := some (19, false) }) (v := .int .i64 0) rfl (by kernel_rfl) (by kernel_rfl) (by kernel_rfl) (fun _ _ _ h => h) (Or.inl ⟨by rfl, fun w' hw' => ?_⟩) hHeld ?_
      · first | (go_simp; done) | (go_simp; rfl)
      try simp only [Act.put, List.setIfInBounds_toArray, List.set_cons_zero, List.set_cons_succ]
      refine wpAnyH_ready (rs := [21]) (by kernel_rfl) (by simp) ?_
      refine AllReadyH.cons (o := { dst := some 77, op := Go.Op.call { callee := Go.Callee.value (Go.Operand.func 17), args := #[Go.Operand.tmp 76], argTypes := #[37] }, type := 3, pos := _, after := #[{ on := 20, ground := Go.Ground.data }, { on := 19, ground := Go.Ground.chain }, { on := 19, ground := Go.Ground.guard }], guard := some (19, false) }) rfl (fun K hK => ?_) AllReadyH.nil
      rw [if_pos (by rfl)]
      go_wp2_with fail
      refine Calls.mono (HNM.out 0 _) ?_
      rintro e Z9 ⟨rfl, hy⟩
      rw [← hy]
      clear hy Z9
      refine hK.out _ _ hHeld (fun _ => ?_)
      clear hK K
      try simp only [Act.put, List.setIfInBounds_toArray, List.set_cons_zero, List.set_cons_succ]
      refine wpAnyH_ready (rs := [23]) (by kernel_rfl) (by simp) ?_
      refine AllReadyH.cons (o := { dst := some 79, op := Go.Op.call { callee := Go.Callee.value (Go.Operand.func 17), args := #[Go.Operand.tmp 78], argTypes := #[37] }, type := 3, pos := _, after := #[{ on := 22, ground := Go.Ground.data }, { on := 21, ground := Go.Ground.chain }, { on := 19, ground := Go.Ground.guard }], guard := some (19, false) }) rfl (fun K hK => ?_) AllReadyH.nil
      rw [if_pos (by rfl)]
      go_wp2_with fail
      refine Calls.mono (HNM.out 0 _) ?_
      rintro e Z9 ⟨rfl, hy⟩
      rw [← hy]
      clear hy Z9
      refine hK.out _ _ hHeld (fun _ => ?_)
      clear hK K
      try simp only [Act.put, List.setIfInBounds_toArray, List.set_cons_zero, List.set_cons_succ]
      refine wpAnyH_take (i := 24) (oi := { dst := some 80, op := Go.Op.binOp Go.BinOp.add 3 (Go.Operand.tmp 77) (Go.Operand.tmp 79) 3, type := 3, pos := _, after := #[{ on := 21, ground := Go.Ground.data }, { on := 23, ground := Go.Ground.data }, { on := 19, ground := Go.Ground.guard }], guard := some (19, false) }) (v := .int .i64 0) rfl (by kernel_rfl) (by kernel_rfl) (by kernel_rfl) (fun _ _ _ h => h) (Or.inl ⟨by rfl, fun w' hw' => ?_⟩) hHeld ?_
      · first | (go_simp; done) | (go_simp; rfl)
      try simp only [Act.put, List.setIfInBounds_toArray, List.set_cons_zero, List.set_cons_succ]
      refine wpAnyH_ready (rs := [26]) (by kernel_rfl) (by simp) ?_
      refine AllReadyH.cons (o := { dst := some 82, op := Go.Op.call { callee := Go.Callee.value (Go.Operand.func 17), args := #[Go.Operand.tmp 81], argTypes := #[37] }, type := 3, pos := _, after := #[{ on := 25, ground := Go.Ground.data }, { on := 23, ground := Go.Ground.chain }, { on := 19, ground := Go.Ground.guard }], guard := some (19, false) }) rfl (fun K hK => ?_) AllReadyH.nil
      rw [if_pos (by rfl)]
      go_wp2_with fail
      refine Calls.mono (HNM.out 0 _) ?_
      rintro e Z9 ⟨rfl, hy⟩
      rw [← hy]
      clear hy Z9
      refine hK.out _ _ hHeld (fun _ => ?_)
      clear hK K
      try simp only [Act.put, List.setIfInBounds_toArray, List.set_cons_zero, List.set_cons_succ]
      refine wpAnyH_take (i := 27) (oi := { dst := some 83, op := Go.Op.binOp Go.BinOp.add 3 (Go.Operand.tmp 80) (Go.Operand.tmp 82) 3, type := 3, pos := _, after := #[{ on := 24, ground := Go.Ground.data }, { on := 26, ground := Go.Ground.data }, { on := 19, ground := Go.Ground.guard }], guard := some (19, false) }) (v := .int .i64 0) rfl (by kernel_rfl) (by kernel_rfl) (by kernel_rfl) (fun _ _ _ h => h) (Or.inl ⟨by rfl, fun w' hw' => ?_⟩) hHeld ?_
      · first | (go_simp; done) | (go_simp; rfl)
      try simp only [Act.put, List.setIfInBounds_toArray, List.set_cons_zero, List.set_cons_succ]
      refine wpAnyH_take (i := 28) (oi := { dst := some 84, op := Go.Op.binOp Go.BinOp.neq 3 (Go.Operand.tmp 83) (Go.Operand.const (Go.Value.int Go.IntKind.i64 0)) 3, type := 4, pos := _, after := #[{ on := 27, ground := Go.Ground.data }, { on := 19, ground := Go.Ground.guard }], guard := some (19, false) }) (v := .bool false) rfl (by kernel_rfl) (by kernel_rfl) (by kernel_rfl) (fun _ _ _ h => h) (Or.inl ⟨by rfl, fun w' hw' => ?_⟩) hHeld ?_
      · first | (go_simp; done) | (go_simp; rfl)
      try simp only [Act.put, List.setIfInBounds_toArray, List.set_cons_zero, List.set_cons_succ]
      refine wpAnyH_take (i := 29) (oi := { dst := some 85, op := Go.Op.pick (Go.Operand.tmp 75) (Go.Operand.const (Go.Value.bool true)) (Go.Operand.tmp 84), type := 4, pos := _, after := #[{ on := 19, ground := Go.Ground.data }, { on := 28, ground := Go.Ground.data }], guard := none }) (v := .bool false) rfl (by kernel_rfl) (by kernel_rfl) (by kernel_rfl) (fun _ _ _ h => h) (Or.inl ⟨by rfl, fun w' hw' => ?_⟩) hHeld ?_
      · first | (go_simp; done) | (go_simp; rfl)
      try simp only [Act.put, List.setIfInBounds_toArray, List.set_cons_zero, List.set_cons_succ]
      refine wpAnyH_done (by kernel_rfl) ?_ _
      have HTX : Hid (TB w og mb rg i m D L L [(w.heap.size + 1 + 1, 23, BL), (w.heap.size + 1, 23, AL), (w.heap.size, 28, CL)] Y5) := T5.drop.drop.drop
      clear hHeld T5 HV1 HV2 HRN0 HXQ HXN HX1 HRW HRB HLW HLB
      go_upto_region 14 with fail
      -- HTX : TB .. L L R3 X ; HLL : L.length ≤ 10
      by_cases hi1 : ii < 1
      · have HN : Hid (∀ W, TB w og mb rg i m D L L [(w.heap.size + 1 + 1, 23, BL), (w.heap.size + 1, 23, AL), (w.heap.size, 28, CL)] W → Calls Tryz.prog 18 #[.pointer (some ⟨og, 0, none⟩), .int .i64 ii, .agg AL.toArray, .agg BL.toArray] W fun e w' => e = .returned (.tuple #[.agg ZL.toArray, .int .i64 2]) ∧ Below W.heap.size W w') := fun W hW => by have q := node_lo og mb ii AL.toArray BL.toArray W hW.mc hi1; rw [HEV.out] at q; exact q
        go_wp2_with (first
          | (refine wpList_load_mid rfl 23 (.tmp 8) rfl (w.heap.size + 1) 0 rfl AL _ (MC.rangeAt_row (HTX.out.rs.at 1 rfl)) Tryz.underlying23 rfl (infoD AL HALN.out) ?_)
          | (refine wpList_load_mid rfl 23 (.tmp 9) rfl (w.heap.size + 1 + 1) 0 rfl BL _ (MC.rangeAt_row (HTX.out.rs.at 0 rfl)) Tryz.underlying23 rfl (infoD BL HBLN.out) ?_))
        refine Calls.mono (HN.out _ HTX.out) ?_
        rintro e Z1 ⟨rfl, hb⟩
        have T0 := HTX.out.step hb
        have T1 := (T0).alloc _ rfl 23 ZL
        have HRN : Hid (((Z1).alloc (.cells ZL.toArray 23 (0, 0))).heap[(Z1).heap.size]? = some (.cells ZL.toArray 23 (0, 0))) := heap_alloc_new _ _
        have HT2 : Hid _ := T1.put 0 rfl ZL
        have heq := HEZ.out
        clear hb T0 T1 HN HTX
        go_wp2_with (first
          | (refine wpList_store_row rfl 23 (.tmp 22) (.tmp 118) rfl Z1.heap.size ZL.toArray rfl rfl 23 ZL.toArray HRN.out (R5.info32a _ HZS.out) rfl HZ1.out ?_)
          | (refine wpList_load_mid rfl 23 (.tmp 22) rfl Z1.heap.size 0 rfl ZL _ (MC.rangeAt_row (HT2.out.rs.at 0 rfl)) Tryz.underlying23 rfl (infoD ZL HZL.out) ?_)
          | (refine R5.wpList_build rfl 23 #[] rfl #[] (.agg ZL.toArray) (by simp) (HBD.out _) ?_))
        clear heq
        refine Calls.mono (HNM.out 2 _) ?_
        rintro e Z2 ⟨rfl, hy⟩
        rw [← hy]
        clear hy Z2
        go_wp2_with fail
        refine Calls.mono (HK.out _) ?_
        rintro e Z3 ⟨rfl, hb⟩
        have HE : Hid (Below w.heap.size w Z3) := HT2.out.bel.trans (hb.mono HT2.out.bel.size)
        clear hb HT2
        go_wp2
        go_ret
        exact ⟨rfl, HE.out⟩
      · by_cases hi2 : 128 ≤ ii
        · have HN : Hid (∀ W, TB w og mb rg i m D L L [(w.heap.size + 1 + 1, 23, BL), (w.heap.size + 1, 23, AL), (w.heap.size, 28, CL)] W → Calls Tryz.prog 18 #[.pointer (some ⟨og, 0, none⟩), .int .i64 ii, .agg AL.toArray, .agg BL.toArray] W fun e w' => e = .returned (.tuple #[.agg ZL.toArray, .int .i64 2]) ∧ Below W.heap.size W w') := fun W hW => by have q := node_hi og mb ii AL.toArray BL.toArray W hW.mc hi1 hi2; rw [HEV.out] at q; exact q
          have hi3 : (127 : Int) < ii := by omega
          go_wp2_with (first
            | (refine wpList_load_mid rfl 23 (.tmp 8) rfl (w.heap.size + 1) 0 rfl AL _ (MC.rangeAt_row (HTX.out.rs.at 1 rfl)) Tryz.underlying23 rfl (infoD AL HALN.out) ?_)
            | (refine wpList_load_mid rfl 23 (.tmp 9) rfl (w.heap.size + 1 + 1) 0 rfl BL _ (MC.rangeAt_row (HTX.out.rs.at 0 rfl)) Tryz.underlying23 rfl (infoD BL HBLN.out) ?_))
          refine Calls.mono (HN.out _ HTX.out) ?_
          rintro e Z1 ⟨rfl, hb⟩
          have T0 := HTX.out.step hb
          have T1 := (T0).alloc _ rfl 23 ZL
          have HRN : Hid (((Z1).alloc (.cells ZL.toArray 23 (0, 0))).heap[(Z1).heap.size]? = some (.cells ZL.toArray 23 (0, 0))) := heap_alloc_new _ _
          have HT2 : Hid _ := T1.put 0 rfl ZL
          have heq := HEZ.out
          clear hb T0 T1 HN HTX
          go_wp2_with (first
            | (refine wpList_store_row rfl 23 (.tmp 22) (.tmp 118) rfl Z1.heap.size ZL.toArray rfl rfl 23 ZL.toArray HRN.out (R5.info32a _ HZS.out) rfl HZ1.out ?_)
            | (refine wpList_load_mid rfl 23 (.tmp 22) rfl Z1.heap.size 0 rfl ZL _ (MC.rangeAt_row (HT2.out.rs.at 0 rfl)) Tryz.underlying23 rfl (infoD ZL HZL.out) ?_)
            | (refine R5.wpList_build rfl 23 #[] rfl #[] (.agg ZL.toArray) (by simp) (HBD.out _) ?_))
          clear heq
          refine Calls.mono (HNM.out 2 _) ?_
          rintro e Z2 ⟨rfl, hy⟩
          rw [← hy]
          clear hy Z2
          go_wp2_with fail
          refine Calls.mono (HK.out _) ?_
          rintro e Z3 ⟨rfl, hb⟩
          have HE : Hid (Below w.heap.size w Z3) := HT2.out.bel.trans (hb.mono HT2.out.bel.size)
          clear hb HT2
          go_wp2
          go_ret
          exact ⟨rfl, HE.out⟩
        · obtain ⟨k, rfl, hk1, hk2⟩ : ∃ k : Nat, ii = (k : Int) ∧ 1 ≤ k ∧ k < 128 := ⟨ii.toNat, by omega, by omega, by omega⟩
          obtain ⟨NA, L2, hNA, hp, hr⟩ : ∃ (NA : List UInt8) (L2 : Lg), NA.length = 32 ∧ (∀ W rws, TB w og mb rg i m D L L rws W → Calls Tryz.prog 18 #[.pointer (some ⟨og, 0, none⟩), .int .i64 (k : Int), .agg AL.toArray, .agg BL.toArray] W fun e Y => e = .returned (.tuple #[.agg (NA.map B8).toArray, .int .i64 0]) ∧ TB w og mb rg i m D L2 L rws Y) ∧ (∀ W rws, TB w og mb rg i m D L2 L rws W → Calls Tryz.prog 19 #[.pointer (some ⟨rg, 0, none⟩), .int .i64 (k : Int), .agg AL.toArray, .agg BL.toArray] W fun e Y => e = .returned (.agg (NA.map B8).toArray) ∧ TB w og mb rg i m D L2 L2 rws Y) := ⟨(nx2 i D L (qNode k aa bb)).1, (nx2 i D L (qNode k aa bb)).2, HTX.out.alen _, fun W rws hW => by have q := hW.pnode HLL.out k aa bb hk1 hk2 HAA.out HBB.out; rw [HAL.out, HBL.out] at q; exact q, fun W rws hW => by have q := hW.rnode HLL.out k aa bb (by omega) HAA.out HBB.out; rw [HAL.out, HBL.out] at q; exact q⟩
          have hi3 : ¬ (127 : Int) < (k : Int) := by omega
          have HP : Hid (∀ W rws, TB w og mb rg i m D L L rws W → Calls Tryz.prog 18 #[.pointer (some ⟨og, 0, none⟩), .int .i64 (k : Int), .agg AL.toArray, .agg BL.toArray] W fun e Y => e = .returned (.tuple #[.agg (NA.map B8).toArray, .int .i64 0]) ∧ TB w og mb rg i m D L2 L rws Y) := hp
          have HR : Hid (∀ W rws, TB w og mb rg i m D L2 L rws W → Calls Tryz.prog 19 #[.pointer (some ⟨rg, 0, none⟩), .int .i64 (k : Int), .agg AL.toArray, .agg BL.toArray] W fun e Y => e = .returned (.agg (NA.map B8).toArray) ∧ TB w og mb rg i m D L2 L2 rws Y) := hr
          have HNQ : Hid (∀ W, (Op.equalIn 10000 23 (.agg (NA.map B8).toArray) (.agg (NA.map B8).toArray)).run Tryz.prog W = .ok true W) := fun W => eq_dig W NA NA hNA hNA true (by simp)
          have HNN : Hid ((NA.map B8).length = 32) := by show _ = _; simpa using hNA
          have HN1 : Hid _ := R5.B8_onea NA
          generalize NA.map B8 = NL at *
          clear hp hr hNA hk1 hk2
          go_wp2_with (first
            | (refine wpList_load_mid rfl 23 (.tmp 8) rfl (w.heap.size + 1) 0 rfl AL _ (MC.rangeAt_row (HTX.out.rs.at 1 rfl)) Tryz.underlying23 rfl (infoD AL HALN.out) ?_)
            | (refine wpList_load_mid rfl 23 (.tmp 9) rfl (w.heap.size + 1 + 1) 0 rfl BL _ (MC.rangeAt_row (HTX.out.rs.at 0 rfl)) Tryz.underlying23 rfl (infoD BL HBLN.out) ?_))
          refine Calls.mono (HP.out _ _ HTX.out) ?_
          rintro e Z1 ⟨rfl, T0⟩
          have T1 := (T0).alloc _ rfl 23 ZL
          have HRN : Hid (((Z1).alloc (.cells ZL.toArray 23 (0, 0))).heap[(Z1).heap.size]? = some (.cells ZL.toArray 23 (0, 0))) := heap_alloc_new _ _
          have HT2 : Hid _ := T1.put 0 rfl NL
          clear T0 T1 HP HTX
          go_upto_region 17 with (first
            | (refine wpList_store_row rfl 23 (.tmp 22) (.tmp 118) rfl Z1.heap.size NL.toArray rfl rfl 23 ZL.toArray HRN.out (R5.info32a _ (by simpa using HNN.out)) (HZS.out.trans (by simpa using HNN.out.symm)) HN1.out ?_))
          generalize (Z1.alloc (.cells ZL.toArray 23 (0, 0))).setRow Z1.heap.size NL.toArray = Z2 at *
          generalize Z1.heap.size = n22 at *
          have HTD : Hid (TB w og mb rg i m D L2 L ((n22, 23, NL) :: [(w.heap.size + 1 + 1, 23, BL), (w.heap.size + 1, 23, AL), (w.heap.size, 28, CL)]) Z2.drew) := HT2.out.step (Below.refl _ _).drew
          refine wp_region_held_drew (S := fun W => RS w ((n22, 23, NL) :: [(w.heap.size + 1 + 1, 23, BL), (w.heap.size + 1, 23, AL), (w.heap.size, 28, CL)]) W) (by kernel_rfl) HTD.out.rs (fun hHeld => ?_)
          clear HT2 HRN
          generalize Z2.drew = Z3 at *
          refine wpAnyH_take (i := 0) (oi := { dst := some 137, op := Go.Op.load 23 (Go.Operand.tmp 22), type := 23, pos := _, after := #[], guard := none }) rfl (by kernel_rfl) (by kernel_rfl) (by kernel_rfl) (fun _ _ _ h => h) (yieldsIf_load_mid (by rfl) 23 (.tmp 22) rfl (n22) (0) rfl (NL) _ (fun _ h => MC.rangeAt_row (h.at 0 rfl)) Tryz.underlying23 rfl (infoD NL HNN.out)) hHeld ?_
          try simp only [Act.put, List.setIfInBounds_toArray, List.set_cons_zero, List.set_cons_succ]
          refine wpAnyH_take (i := 1) (oi := { dst := some 138, op := Go.Op.move (Go.Operand.tmp 13), type := 33, pos := _, after := #[], guard := none }) (v := .pointer (some ⟨rg, 0, none⟩)) rfl (by kernel_rfl) (by kernel_rfl) (by kernel_rfl) (fun _ _ _ h => h) (Or.inl ⟨by rfl, fun w' hw' => ?_⟩) hHeld ?_
          · first | (go_simp; done) | (go_simp; rfl)
          try simp only [Act.put, List.setIfInBounds_toArray, List.set_cons_zero, List.set_cons_succ]
          refine wpAnyH_take (i := 2) (oi := { dst := some 139, op := Go.Op.move (Go.Operand.tmp 2), type := 3, pos := _, after := #[], guard := none }) (v := .int .i64 (k : Int)) rfl (by kernel_rfl) (by kernel_rfl) (by kernel_rfl) (fun _ _ _ h => h) (Or.inl ⟨by rfl, fun w' hw' => ?_⟩) hHeld ?_
          · first | (go_simp; done) | (go_simp; rfl)
          try simp only [Act.put, List.setIfInBounds_toArray, List.set_cons_zero, List.set_cons_succ]
          refine wpAnyH_take (i := 3) (oi := { dst := some 140, op := Go.Op.load 23 (Go.Operand.tmp 8), type := 23, pos := _, after := #[], guard := none }) rfl (by kernel_rfl) (by kernel_rfl) (by kernel_rfl) (fun _ _ _ h => h) (yieldsIf_load_mid (by rfl) 23 (.tmp 8) rfl (w.heap.size + 1) (0) rfl (AL) _ (fun _ h => MC.rangeAt_row (h.at 2 rfl)) Tryz.underlying23 rfl (infoD AL HALN.out)) hHeld ?_
          try simp only [Act.put, List.setIfInBounds_toArray, List.set_cons_zero, List.set_cons_succ]
          refine wpAnyH_take (i := 4) (oi := { dst := some 141, op := Go.Op.load 23 (Go.Operand.tmp 9), type := 23, pos := _, after := #[], guard := none }) rfl (by kernel_rfl) (by kernel_rfl) (by kernel_rfl) (fun _ _ _ h => h) (yieldsIf_load_mid (by rfl) 23 (.tmp 9) rfl (w.heap.size + 1 + 1) (0) rfl (BL) _ (fun _ h => MC.rangeAt_row (h.at 1 rfl)) Tryz.underlying23 rfl (infoD BL HBLN.out)) hHeld ?_
          try simp only [Act.put, List.setIfInBounds_toArray, List.set_cons_zero, List.set_cons_succ]
          refine wpAnyH_ready (rs := [5]) (by kernel_rfl) (by simp) ?_
          refine AllReadyH.cons (o := { dst := some 142, op := Go.Op.call { callee := Go.Callee.value (Go.Operand.func 19), args := #[Go.Operand.tmp 138, Go.Operand.tmp 139, Go.Operand.tmp 140, Go.Operand.tmp 141], argTypes := #[33, 3, 23, 23] }, type := 23, pos := _, after := #[{ on := 1, ground := Go.Ground.data }, { on := 2, ground := Go.Ground.data }, { on := 3, ground := Go.Ground.data }, { on := 4, ground := Go.Ground.data }], guard := none }) rfl (fun K hK => ?_) AllReadyH.nil
          rw [if_pos (by rfl)]
          go_wp2_with fail
          refine Calls.mono (HR.out _ _ HTD.out) ?_
          rintro e Z4 ⟨rfl, T4⟩
          clear hHeld HTD
          have hHeld := T4.rs
          refine hK.out _ _ hHeld (fun _ => ?_)
          clear hK K
          try simp only [Act.put, List.setIfInBounds_toArray, List.set_cons_zero, List.set_cons_succ]
          refine wpAnyH_take (i := 6) (oi := { dst := some 143, op := Go.Op.binOp Go.BinOp.eql 23 (Go.Operand.tmp 137) (Go.Operand.tmp 142) 23, type := 4, pos := _, after := #[{ on := 0, ground := Go.Ground.data }, { on := 5, ground := Go.Ground.data }], guard := none }) (v := .bool true) rfl (by kernel_rfl) (by kernel_rfl) (by kernel_rfl) (fun _ _ _ h => h) (Or.inl ⟨by rfl, fun w' hw' => ?_⟩) hHeld ?_
          · exact run_eql rfl rfl rfl gD (HNQ.out w')
          try simp only [Act.put, List.setIfInBounds_toArray, List.set_cons_zero, List.set_cons_succ]
          refine wpAnyH_take (i := 7) (oi := { dst := some 144, op := Go.Op.move (Go.Operand.tmp 143), type := 4, pos := _, after := #[{ on := 6, ground := Go.Ground.data }, { on := 5, ground := Go.Ground.chain }], guard := none }) (v := .bool true) rfl (by kernel_rfl) (by kernel_rfl) (by kernel_rfl) (fun _ _ _ h => h) (Or.inl ⟨by rfl, fun w' hw' => ?_⟩) hHeld ?_
          · first | (go_simp; done) | (go_simp; rfl)
          try simp only [Act.put, List.setIfInBounds_toArray, List.set_cons_zero, List.set_cons_succ]
          refine wpAnyH_take (i := 8) (oi := { dst := some 145, op := Go.Op.move (Go.Operand.tmp 23), type := 37, pos := _, after := #[{ on := 7, ground := Go.Ground.guard }], guard := some (7, true) }) (v := .int .i64 0) rfl (by kernel_rfl) (by kernel_rfl) (by kernel_rfl) (fun _ _ _ h => h) (Or.inl ⟨by rfl, fun w' hw' => ?_⟩) hHeld ?_
          · first | (go_simp; done) | (go_simp; rfl)
          try simp only [Act.put, List.setIfInBounds_toArray, List.set_cons_zero, List.set_cons_succ]
          refine wpAnyH_ready (rs := [9]) (by kernel_rfl) (by simp) ?_
          refine AllReadyH.cons (o := { dst := some 146, op := Go.Op.call { callee := Go.Callee.value (Go.Operand.func 17), args := #[Go.Operand.tmp 145], argTypes := #[37] }, type := 3, pos := _, after := #[{ on := 8, ground := Go.Ground.data }, { on := 7, ground := Go.Ground.chain }, { on := 7, ground := Go.Ground.guard }], guard := some (7, true) }) rfl (fun K hK => ?_) AllReadyH.nil
          rw [if_pos (by rfl)]
          go_wp2_with fail
          refine Calls.mono (HNM.out 0 _) ?_
          rintro e Z9 ⟨rfl, hy⟩
          rw [← hy]
          clear hy Z9
          refine hK.out _ _ hHeld (fun _ => ?_)
          clear hK K
          try simp only [Act.put, List.setIfInBounds_toArray, List.set_cons_zero, List.set_cons_succ]
          refine wpAnyH_take (i := 10) (oi := { dst := some 147, op := Go.Op.binOp Go.BinOp.eql 3 (Go.Operand.tmp 146) (Go.Operand.const (Go.Value.int Go.IntKind.i64 0)) 3, type := 4, pos := _, after := #[{ on := 9, ground := Go.Ground.data }, { on := 7, ground := Go.Ground.guard }], guard := some (7, true) }) (v := .bool true) rfl (by kernel_rfl) (by kernel_rfl) (by kernel_rfl) (fun _ _ _ h => h) (Or.inl ⟨by rfl, fun w' hw' => ?_⟩) hHeld ?_
          · first | (go_simp; done) | (go_simp; rfl)
          try simp only [Act.put, List.setIfInBounds_toArray, List.set_cons_zero, List.set_cons_succ]
          refine wpAnyH_take (i := 11) (oi := { dst := some 148, op := Go.Op.pick (Go.Operand.tmp 144) (Go.Operand.tmp 147) (Go.Operand.const (Go.Value.bool false)), type := 4, pos := _, after := #[{ on := 7, ground := Go.Ground.data }, { on := 10, ground := Go.Ground.data }], guard := none }) (v := .bool true) rfl (by kernel_rfl) (by kernel_rfl) (by kernel_rfl) (fun _ _ _ h => h) (Or.inl ⟨by rfl, fun w' hw' => ?_⟩) hHeld ?_
          · first | (go_simp; done) | (go_simp; rfl)
          try simp only [Act.put, List.setIfInBounds_toArray, List.set_cons_zero, List.set_cons_succ]
          refine wpAnyH_take (i := 12) (oi := { dst := some 149, op := Go.Op.move (Go.Operand.tmp 148), type := 4, pos := _, after := #[{ on := 11, ground := Go.Ground.data }, { on := 9, ground := Go.Ground.chain }], guard := none }) (v := .bool true) rfl (by kernel_rfl) (by kernel_rfl) (by kernel_rfl) (fun _ _ _ h => h) (Or.inl ⟨by rfl, fun w' hw' => ?_⟩) hHeld ?_
          · first | (go_simp; done) | (go_simp; rfl)
          try simp only [Act.put, List.setIfInBounds_toArray, List.set_cons_zero, List.set_cons_succ]
          refine wpAnyH_ready (rs := [13]) (by kernel_rfl) (by simp) ?_
          refine AllReadyH.cons (o := { dst := some 150, op := Go.Op.call { callee := Go.Callee.value (Go.Operand.func 7), args := #[], argTypes := #[] }, type := 4, pos := _, after := #[{ on := 12, ground := Go.Ground.chain }, { on := 12, ground := Go.Ground.guard }], guard := some (12, true) }) rfl (fun K hK => ?_) AllReadyH.nil
          rw [if_pos (by rfl)]
          go_wp2_with fail
          refine Calls.mono (HK.out _) ?_
          rintro e Z5 ⟨rfl, hb⟩
          have hH5 := T4.rs.step hb
          clear hHeld hb
          have hHeld := hH5
          refine hK.out _ _ hHeld (fun _ => ?_)
          clear hK K
          try simp only [Act.put, List.setIfInBounds_toArray, List.set_cons_zero, List.set_cons_succ]
          refine wpAnyH_take (i := 14) (oi := { dst := some 151, op := Go.Op.pick (Go.Operand.tmp 149) (Go.Operand.tmp 150) (Go.Operand.const (Go.Value.bool false)), type := 4, pos := _, after := #[{ on := 12, ground := Go.Ground.data }, { on := 13, ground := Go.Ground.data }], guard := none }) (v := .bool true) rfl (by kernel_rfl) (by kernel_rfl) (by kernel_rfl) (fun _ _ _ h => h) (Or.inl ⟨by rfl, fun w' hw' => ?_⟩) hHeld ?_
          · first | (go_simp; done) | (go_simp; rfl)
          try simp only [Act.put, List.setIfInBounds_toArray, List.set_cons_zero, List.set_cons_succ]
          refine wpAnyH_ready (rs := [15]) (by kernel_rfl) (by simp) ?_
          refine AllReadyH.cons (o := { dst := some 10, op := Go.Op.assign (Go.Operand.tmp 151), type := 4, pos := _, after := #[{ on := 14, ground := Go.Ground.data }, { on := 13, ground := Go.Ground.chain }, { on := 0, ground := Go.Ground.phase }, { on := 1, ground := Go.Ground.phase }, { on := 2, ground := Go.Ground.phase }, { on := 3, ground := Go.Ground.phase }, { on := 4, ground := Go.Ground.phase }, { on := 5, ground := Go.Ground.phase }, { on := 6, ground := Go.Ground.phase }, { on := 7, ground := Go.Ground.phase }, { on := 8, ground := Go.Ground.phase }, { on := 9, ground := Go.Ground.phase }, { on := 10, ground := Go.Ground.phase }, { on := 11, ground := Go.Ground.phase }, { on := 12, ground := Go.Ground.phase }, { on := 13, ground := Go.Ground.phase }, { on := 14, ground := Go.Ground.phase }], guard := none }) rfl (fun K hK => ?_) AllReadyH.nil
          rw [if_pos (by rfl)]
          go_wp2_with fail
          refine hK.out _ _ hHeld (fun _ => ?_)
          clear hK K
          try simp only [Act.put, List.setIfInBounds_toArray, List.set_cons_zero, List.set_cons_succ]
          refine wpAnyH_done (by kernel_rfl) ?_ _
          have HE : Hid (Below w.heap.size w Z5) := hH5.bel
          clear hHeld hH5 T4
          go_wp2
          go_ret
          exact ⟨rfl, HE.out⟩
    · have hpf : mayP pg = false := by simpa using hpg
      have HNO : Hid (∀ W, TB w og mb rg i m D [] [] [(w.heap.size + 1 + 1, 23, BL), (w.heap.size + 1, 23, AL), (w.heap.size, 28, CL)] W → Calls Tryz.prog 9 #[.pointer (some ⟨og, 0, none⟩), .int .i64 pg] W fun e w' => e = .returned (.tuple #[.agg ZL.toArray, .int .i64 2]) ∧ Below W.heap.size W w') := fun W hW => by have q := none_arg og mb pg W hW.mc hpf; rw [HEV.out] at q; exact q
      have HWY : Hid (∀ W, Calls Tryz.prog 10 #[.int .i64 pg] W fun e w' => e = .returned (.tuple #[.slice none 0 0, .int .i64 2]) ∧ w' = W) := fun W => way_bad pg hpf W
      have HBS : Hid (∀ W, Calls Tryz.prog 11 #[.int .i64 pg] W fun e w' => e = .returned (.tuple #[.slice none 0 0, .int .i64 2]) ∧ w' = W) := fun W => beside_bad pg hpf W
      have HMP : Hid (∀ W, Calls Tryz.prog 12 #[.int .i64 pg] W fun e w' => e = .returned (.bool false) ∧ w' = W) := fun W => by have q := mayPage_any pg W; rw [hpf] at q; exact q
      clear hpg hpf
      go_wp2_with fail
      refine Calls.mono (HNO.out X2 HTX0.out) ?_
      rintro e X3 ⟨rfl, hb⟩
      have T0 := HTX0.out.step hb
      have T1 := (T0).alloc _ rfl 23 ZL
      have HRN : Hid (((X3).alloc (.cells ZL.toArray 23 (0, 0))).heap[(X3).heap.size]? = some (.cells ZL.toArray 23 (0, 0))) := heap_alloc_new _ _
      have HT2 : Hid _ := T1.put 0 rfl ZL
      have HTX1 : Hid _ := HT2.out.drop
      clear hb T0 T1 HNO HTX0
      go_wp2_with (refine wpList_store_row rfl 23 (.tmp 16) (.tmp 42) rfl X3.heap.size ZL.toArray rfl rfl 23 ZL.toArray HRN.out (R5.info32a _ HZS.out) rfl HZ1.out ?_)
      refine Calls.mono (HWY.out _) ?_
      rintro e X4 ⟨rfl, hy⟩
      rw [hy]
      clear hy X4 HRN
      go_wp2_with fail
      refine Calls.mono (HBS.out _) ?_
      rintro e X4 ⟨rfl, hy⟩
      rw [hy]
      clear hy X4
      go_wp2_with fail
      refine Calls.mono (HMP.out _) ?_
      rintro e X4 ⟨rfl, hy⟩
      rw [hy]
      clear hy X4 HWY HBS HMP
      have heq := HEZ.out
      generalize (X3.alloc (.cells ZL.toArray 23 (0, 0))).setRow X3.heap.size ZL.toArray = X4 at *
      generalize X3.heap.size = n16 at *
      go_wp2_with (first
        | (refine wpList_load_mid rfl 23 (.tmp 16) rfl n16 0 rfl ZL _ (MC.rangeAt_row (HT2.out.rs.at 0 rfl)) Tryz.underlying23 rfl (infoD ZL HZL.out) ?_)
        | (refine R5.wpList_build rfl 23 #[] rfl #[] (.agg ZL.toArray) (by simp) (HBD.out _) ?_))
      clear heq HT2
      refine Calls.mono (HNM.out 2 _) ?_
      rintro e Z2 ⟨rfl, hy⟩
      rw [← hy]
      clear hy Z2
      go_wp2_with fail
      refine Calls.mono (HNM.out 2 _) ?_
      rintro e Z2 ⟨rfl, hy⟩
      rw [← hy]
      clear hy Z2
      go_wp2_with fail
      refine Calls.mono (HNM.out 2 _) ?_
      rintro e Z2 ⟨rfl, hy⟩
      rw [← hy]
      clear hy Z2
      have HTX : Hid (TB w og mb rg i m D [] [] [(w.heap.size + 1 + 1, 23, BL), (w.heap.size + 1, 23, AL), (w.heap.size, 28, CL)] X4) := HTX1.out
      have HLL : Hid (([] : Lg).length < 1000000) := by show _ < _; simp
      obtain ⟨L, hL⟩ : ∃ L : Lg, L = [] := ⟨_, rfl⟩
      rw [← hL] at HTX HLL
      clear HTX1 hL
      -- HTX : TB .. L L R3 X ; HLL : L.length ≤ 10
      by_cases hi1 : ii < 1
      · have HN : Hid (∀ W, TB w og mb rg i m D L L [(w.heap.size + 1 + 1, 23, BL), (w.heap.size + 1, 23, AL), (w.heap.size, 28, CL)] W → Calls Tryz.prog 18 #[.pointer (some ⟨og, 0, none⟩), .int .i64 ii, .agg AL.toArray, .agg BL.toArray] W fun e w' => e = .returned (.tuple #[.agg ZL.toArray, .int .i64 2]) ∧ Below W.heap.size W w') := fun W hW => by have q := node_lo og mb ii AL.toArray BL.toArray W hW.mc hi1; rw [HEV.out] at q; exact q
        go_wp2_with (first
          | (refine wpList_load_mid rfl 23 (.tmp 8) rfl (w.heap.size + 1) 0 rfl AL _ (MC.rangeAt_row (HTX.out.rs.at 1 rfl)) Tryz.underlying23 rfl (infoD AL HALN.out) ?_)
          | (refine wpList_load_mid rfl 23 (.tmp 9) rfl (w.heap.size + 1 + 1) 0 rfl BL _ (MC.rangeAt_row (HTX.out.rs.at 0 rfl)) Tryz.underlying23 rfl (infoD BL HBLN.out) ?_))
        refine Calls.mono (HN.out _ HTX.out) ?_
        rintro e Z1 ⟨rfl, hb⟩
        have T0 := HTX.out.step hb
        have T1 := (T0).alloc _ rfl 23 ZL
        have HRN : Hid (((Z1).alloc (.cells ZL.toArray 23 (0, 0))).heap[(Z1).heap.size]? = some (.cells ZL.toArray 23 (0, 0))) := heap_alloc_new _ _
        have HT2 : Hid _ := T1.put 0 rfl ZL
        have heq := HEZ.out
        clear hb T0 T1 HN HTX
        go_wp2_with (first
          | (refine wpList_store_row rfl 23 (.tmp 22) (.tmp 118) rfl Z1.heap.size ZL.toArray rfl rfl 23 ZL.toArray HRN.out (R5.info32a _ HZS.out) rfl HZ1.out ?_)
          | (refine wpList_load_mid rfl 23 (.tmp 22) rfl Z1.heap.size 0 rfl ZL _ (MC.rangeAt_row (HT2.out.rs.at 0 rfl)) Tryz.underlying23 rfl (infoD ZL HZL.out) ?_)
          | (refine R5.wpList_build rfl 23 #[] rfl #[] (.agg ZL.toArray) (by simp) (HBD.out _) ?_))
        clear heq
        refine Calls.mono (HNM.out 2 _) ?_
        rintro e Z2 ⟨rfl, hy⟩
        rw [← hy]
        clear hy Z2
        go_wp2_with fail
        refine Calls.mono (HK.out _) ?_
        rintro e Z3 ⟨rfl, hb⟩
        have HE : Hid (Below w.heap.size w Z3) := HT2.out.bel.trans (hb.mono HT2.out.bel.size)
        clear hb HT2
        go_wp2
        go_ret
        exact ⟨rfl, HE.out⟩
      · by_cases hi2 : 128 ≤ ii
        · have HN : Hid (∀ W, TB w og mb rg i m D L L [(w.heap.size + 1 + 1, 23, BL), (w.heap.size + 1, 23, AL), (w.heap.size, 28, CL)] W → Calls Tryz.prog 18 #[.pointer (some ⟨og, 0, none⟩), .int .i64 ii, .agg AL.toArray, .agg BL.toArray] W fun e w' => e = .returned (.tuple #[.agg ZL.toArray, .int .i64 2]) ∧ Below W.heap.size W w') := fun W hW => by have q := node_hi og mb ii AL.toArray BL.toArray W hW.mc hi1 hi2; rw [HEV.out] at q; exact q
          have hi3 : (127 : Int) < ii := by omega
          go_wp2_with (first
            | (refine wpList_load_mid rfl 23 (.tmp 8) rfl (w.heap.size + 1) 0 rfl AL _ (MC.rangeAt_row (HTX.out.rs.at 1 rfl)) Tryz.underlying23 rfl (infoD AL HALN.out) ?_)
            | (refine wpList_load_mid rfl 23 (.tmp 9) rfl (w.heap.size + 1 + 1) 0 rfl BL _ (MC.rangeAt_row (HTX.out.rs.at 0 rfl)) Tryz.underlying23 rfl (infoD BL HBLN.out) ?_))
          refine Calls.mono (HN.out _ HTX.out) ?_
          rintro e Z1 ⟨rfl, hb⟩
          have T0 := HTX.out.step hb
          have T1 := (T0).alloc _ rfl 23 ZL
          have HRN : Hid (((Z1).alloc (.cells ZL.toArray 23 (0, 0))).heap[(Z1).heap.size]? = some (.cells ZL.toArray 23 (0, 0))) := heap_alloc_new _ _
          have HT2 : Hid _ := T1.put 0 rfl ZL
          have heq := HEZ.out
          clear hb T0 T1 HN HTX
          go_wp2_with (first
            | (refine wpList_store_row rfl 23 (.tmp 22) (.tmp 118) rfl Z1.heap.size ZL.toArray rfl rfl 23 ZL.toArray HRN.out (R5.info32a _ HZS.out) rfl HZ1.out ?_)
            | (refine wpList_load_mid rfl 23 (.tmp 22) rfl Z1.heap.size 0 rfl ZL _ (MC.rangeAt_row (HT2.out.rs.at 0 rfl)) Tryz.underlying23 rfl (infoD ZL HZL.out) ?_)
            | (refine R5.wpList_build rfl 23 #[] rfl #[] (.agg ZL.toArray) (by simp) (HBD.out _) ?_))
          clear heq
          refine Calls.mono (HNM.out 2 _) ?_
          rintro e Z2 ⟨rfl, hy⟩
          rw [← hy]
          clear hy Z2
          go_wp2_with fail
          refine Calls.mono (HK.out _) ?_
          rintro e Z3 ⟨rfl, hb⟩
          have HE : Hid (Below w.heap.size w Z3) := HT2.out.bel.trans (hb.mono HT2.out.bel.size)
          clear hb HT2
          go_wp2
          go_ret
          exact ⟨rfl, HE.out⟩
        · obtain ⟨k, rfl, hk1, hk2⟩ : ∃ k : Nat, ii = (k : Int) ∧ 1 ≤ k ∧ k < 128 := ⟨ii.toNat, by omega, by omega, by omega⟩
          obtain ⟨NA, L2, hNA, hp, hr⟩ : ∃ (NA : List UInt8) (L2 : Lg), NA.length = 32 ∧ (∀ W rws, TB w og mb rg i m D L L rws W → Calls Tryz.prog 18 #[.pointer (some ⟨og, 0, none⟩), .int .i64 (k : Int), .agg AL.toArray, .agg BL.toArray] W fun e Y => e = .returned (.tuple #[.agg (NA.map B8).toArray, .int .i64 0]) ∧ TB w og mb rg i m D L2 L rws Y) ∧ (∀ W rws, TB w og mb rg i m D L2 L rws W → Calls Tryz.prog 19 #[.pointer (some ⟨rg, 0, none⟩), .int .i64 (k : Int), .agg AL.toArray, .agg BL.toArray] W fun e Y => e = .returned (.agg (NA.map B8).toArray) ∧ TB w og mb rg i m D L2 L2 rws Y) := ⟨(nx2 i D L (qNode k aa bb)).1, (nx2 i D L (qNode k aa bb)).2, HTX.out.alen _, fun W rws hW => by have q := hW.pnode HLL.out k aa bb hk1 hk2 HAA.out HBB.out; rw [HAL.out, HBL.out] at q; exact q, fun W rws hW => by have q := hW.rnode HLL.out k aa bb (by omega) HAA.out HBB.out; rw [HAL.out, HBL.out] at q; exact q⟩
          have hi3 : ¬ (127 : Int) < (k : Int) := by omega
          have HP : Hid (∀ W rws, TB w og mb rg i m D L L rws W → Calls Tryz.prog 18 #[.pointer (some ⟨og, 0, none⟩), .int .i64 (k : Int), .agg AL.toArray, .agg BL.toArray] W fun e Y => e = .returned (.tuple #[.agg (NA.map B8).toArray, .int .i64 0]) ∧ TB w og mb rg i m D L2 L rws Y) := hp
          have HR : Hid (∀ W rws, TB w og mb rg i m D L2 L rws W → Calls Tryz.prog 19 #[.pointer (some ⟨rg, 0, none⟩), .int .i64 (k : Int), .agg AL.toArray, .agg BL.toArray] W fun e Y => e = .returned (.agg (NA.map B8).toArray) ∧ TB w og mb rg i m D L2 L2 rws Y) := hr
          have HNQ : Hid (∀ W, (Op.equalIn 10000 23 (.agg (NA.map B8).toArray) (.agg (NA.map B8).toArray)).run Tryz.prog W = .ok true W) := fun W => eq_dig W NA NA hNA hNA true (by simp)
          have HNN : Hid ((NA.map B8).length = 32) := by show _ = _; simpa using hNA
          have HN1 : Hid _ := R5.B8_onea NA
          generalize NA.map B8 = NL at *
          clear hp hr hNA hk1 hk2
          go_wp2_with (first
            | (refine wpList_load_mid rfl 23 (.tmp 8) rfl (w.heap.size + 1) 0 rfl AL _ (MC.rangeAt_row (HTX.out.rs.at 1 rfl)) Tryz.underlying23 rfl (infoD AL HALN.out) ?_)
            | (refine wpList_load_mid rfl 23 (.tmp 9) rfl (w.heap.size + 1 + 1) 0 rfl BL _ (MC.rangeAt_row (HTX.out.rs.at 0 rfl)) Tryz.underlying23 rfl (infoD BL HBLN.out) ?_))
          refine Calls.mono (HP.out _ _ HTX.out) ?_
          rintro e Z1 ⟨rfl, T0⟩
          have T1 := (T0).alloc _ rfl 23 ZL
          have HRN : Hid (((Z1).alloc (.cells ZL.toArray 23 (0, 0))).heap[(Z1).heap.size]? = some (.cells ZL.toArray 23 (0, 0))) := heap_alloc_new _ _
          have HT2 : Hid _ := T1.put 0 rfl NL
          clear T0 T1 HP HTX
          go_upto_region 17 with (first
            | (refine wpList_store_row rfl 23 (.tmp 22) (.tmp 118) rfl Z1.heap.size NL.toArray rfl rfl 23 ZL.toArray HRN.out (R5.info32a _ (by simpa using HNN.out)) (HZS.out.trans (by simpa using HNN.out.symm)) HN1.out ?_))
          generalize (Z1.alloc (.cells ZL.toArray 23 (0, 0))).setRow Z1.heap.size NL.toArray = Z2 at *
          generalize Z1.heap.size = n22 at *
          have HTD : Hid (TB w og mb rg i m D L2 L ((n22, 23, NL) :: [(w.heap.size + 1 + 1, 23, BL), (w.heap.size + 1, 23, AL), (w.heap.size, 28, CL)]) Z2.drew) := HT2.out.step (Below.refl _ _).drew
          refine wp_region_held_drew (S := fun W => RS w ((n22, 23, NL) :: [(w.heap.size + 1 + 1, 23, BL), (w.heap.size + 1, 23, AL), (w.heap.size, 28, CL)]) W) (by kernel_rfl) HTD.out.rs (fun hHeld => ?_)
          clear HT2 HRN
          generalize Z2.drew = Z3 at *
          refine wpAnyH_take (i := 0) (oi := { dst := some 137, op := Go.Op.load 23 (Go.Operand.tmp 22), type := 23, pos := _, after := #[], guard := none }) rfl (by kernel_rfl) (by kernel_rfl) (by kernel_rfl) (fun _ _ _ h => h) (yieldsIf_load_mid (by rfl) 23 (.tmp 22) rfl (n22) (0) rfl (NL) _ (fun _ h => MC.rangeAt_row (h.at 0 rfl)) Tryz.underlying23 rfl (infoD NL HNN.out)) hHeld ?_
          try simp only [Act.put, List.setIfInBounds_toArray, List.set_cons_zero, List.set_cons_succ]
          refine wpAnyH_take (i := 1) (oi := { dst := some 138, op := Go.Op.move (Go.Operand.tmp 13), type := 33, pos := _, after := #[], guard := none }) (v := .pointer (some ⟨rg, 0, none⟩)) rfl (by kernel_rfl) (by kernel_rfl) (by kernel_rfl) (fun _ _ _ h => h) (Or.inl ⟨by rfl, fun w' hw' => ?_⟩) hHeld ?_
          · first | (go_simp; done) | (go_simp; rfl)
          try simp only [Act.put, List.setIfInBounds_toArray, List.set_cons_zero, List.set_cons_succ]
          refine wpAnyH_take (i := 2) (oi := { dst := some 139, op := Go.Op.move (Go.Operand.tmp 2), type := 3, pos := _, after := #[], guard := none }) (v := .int .i64 (k : Int)) rfl (by kernel_rfl) (by kernel_rfl) (by kernel_rfl) (fun _ _ _ h => h) (Or.inl ⟨by rfl, fun w' hw' => ?_⟩) hHeld ?_
          · first | (go_simp; done) | (go_simp; rfl)
          try simp only [Act.put, List.setIfInBounds_toArray, List.set_cons_zero, List.set_cons_succ]
          refine wpAnyH_take (i := 3) (oi := { dst := some 140, op := Go.Op.load 23 (Go.Operand.tmp 8), type := 23, pos := _, after := #[], guard := none }) rfl (by kernel_rfl) (by kernel_rfl) (by kernel_rfl) (fun _ _ _ h => h) (yieldsIf_load_mid (by rfl) 23 (.tmp 8) rfl (w.heap.size + 1) (0) rfl (AL) _ (fun _ h => MC.rangeAt_row (h.at 2 rfl)) Tryz.underlying23 rfl (infoD AL HALN.out)) hHeld ?_
          try simp only [Act.put, List.setIfInBounds_toArray, List.set_cons_zero, List.set_cons_succ]
          refine wpAnyH_take (i := 4) (oi := { dst := some 141, op := Go.Op.load 23 (Go.Operand.tmp 9), type := 23, pos := _, after := #[], guard := none }) rfl (by kernel_rfl) (by kernel_rfl) (by kernel_rfl) (fun _ _ _ h => h) (yieldsIf_load_mid (by rfl) 23 (.tmp 9) rfl (w.heap.size + 1 + 1) (0) rfl (BL) _ (fun _ h => MC.rangeAt_row (h.at 1 rfl)) Tryz.underlying23 rfl (infoD BL HBLN.out)) hHeld ?_
          try simp only [Act.put, List.setIfInBounds_toArray, List.set_cons_zero, List.set_cons_succ]
          refine wpAnyH_ready (rs := [5]) (by kernel_rfl) (by simp) ?_
          refine AllReadyH.cons (o := { dst := some 142, op := Go.Op.call { callee := Go.Callee.value (Go.Operand.func 19), args := #[Go.Operand.tmp 138, Go.Operand.tmp 139, Go.Operand.tmp 140, Go.Operand.tmp 141], argTypes := #[33, 3, 23, 23] }, type := 23, pos := _, after := #[{ on := 1, ground := Go.Ground.data }, { on := 2, ground := Go.Ground.data }, { on := 3, ground := Go.Ground.data }, { on := 4, ground := Go.Ground.data }], guard := none }) rfl (fun K hK => ?_) AllReadyH.nil
          rw [if_pos (by rfl)]
          go_wp2_with fail
          refine Calls.mono (HR.out _ _ HTD.out) ?_
          rintro e Z4 ⟨rfl, T4⟩
          clear hHeld HTD
          have hHeld := T4.rs
          refine hK.out _ _ hHeld (fun _ => ?_)
          clear hK K
          try simp only [Act.put, List.setIfInBounds_toArray, List.set_cons_zero, List.set_cons_succ]
          refine wpAnyH_take (i := 6) (oi := { dst := some 143, op := Go.Op.binOp Go.BinOp.eql 23 (Go.Operand.tmp 137) (Go.Operand.tmp 142) 23, type := 4, pos := _, after := #[{ on := 0, ground := Go.Ground.data }, { on := 5, ground := Go.Ground.data }], guard := none }) (v := .bool true) rfl (by kernel_rfl) (by kernel_rfl) (by kernel_rfl) (fun _ _ _ h => h) (Or.inl ⟨by rfl, fun w' hw' => ?_⟩) hHeld ?_
          · exact run_eql rfl rfl rfl gD (HNQ.out w')
          try simp only [Act.put, List.setIfInBounds_toArray, List.set_cons_zero, List.set_cons_succ]
          refine wpAnyH_take (i := 7) (oi := { dst := some 144, op := Go.Op.move (Go.Operand.tmp 143), type := 4, pos := _, after := #[{ on := 6, ground := Go.Ground.data }, { on := 5, ground := Go.Ground.chain }], guard := none }) (v := .bool true) rfl (by kernel_rfl) (by kernel_rfl) (by kernel_rfl) (fun _ _ _ h => h) (Or.inl ⟨by rfl, fun w' hw' => ?_⟩) hHeld ?_
          · first | (go_simp; done) | (go_simp; rfl)
          try simp only [Act.put, List.setIfInBounds_toArray, List.set_cons_zero, List.set_cons_succ]
          refine wpAnyH_take (i := 8) (oi := { dst := some 145, op := Go.Op.move (Go.Operand.tmp 23), type := 37, pos := _, after := #[{ on := 7, ground := Go.Ground.guard }], guard := some (7, true) }) (v := .int .i64 0) rfl (by kernel_rfl) (by kernel_rfl) (by kernel_rfl) (fun _ _ _ h => h) (Or.inl ⟨by rfl, fun w' hw' => ?_⟩) hHeld ?_
          · first | (go_simp; done) | (go_simp; rfl)
          try simp only [Act.put, List.setIfInBounds_toArray, List.set_cons_zero, List.set_cons_succ]
          refine wpAnyH_ready (rs := [9]) (by kernel_rfl) (by simp) ?_
          refine AllReadyH.cons (o := { dst := some 146, op := Go.Op.call { callee := Go.Callee.value (Go.Operand.func 17), args := #[Go.Operand.tmp 145], argTypes := #[37] }, type := 3, pos := _, after := #[{ on := 8, ground := Go.Ground.data }, { on := 7, ground := Go.Ground.chain }, { on := 7, ground := Go.Ground.guard }], guard := some (7, true) }) rfl (fun K hK => ?_) AllReadyH.nil
          rw [if_pos (by rfl)]
          go_wp2_with fail
          refine Calls.mono (HNM.out 0 _) ?_
          rintro e Z9 ⟨rfl, hy⟩
          rw [← hy]
          clear hy Z9
          refine hK.out _ _ hHeld (fun _ => ?_)
          clear hK K
          try simp only [Act.put, List.setIfInBounds_toArray, List.set_cons_zero, List.set_cons_succ]
          refine wpAnyH_take (i := 10) (oi := { dst := some 147, op := Go.Op.binOp Go.BinOp.eql 3 (Go.Operand.tmp 146) (Go.Operand.const (Go.Value.int Go.IntKind.i64 0)) 3, type := 4, pos := _, after := #[{ on := 9, ground := Go.Ground.data }, { on := 7, ground := Go.Ground.guard }], guard := some (7, true) }) (v := .bool true) rfl (by kernel_rfl) (by kernel_rfl) (by kernel_rfl) (fun _ _ _ h => h) (Or.inl ⟨by rfl, fun w' hw' => ?_⟩) hHeld ?_
          · first | (go_simp; done) | (go_simp; rfl)
          try simp only [Act.put, List.setIfInBounds_toArray, List.set_cons_zero, List.set_cons_succ]
          refine wpAnyH_take (i := 11) (oi := { dst := some 148, op := Go.Op.pick (Go.Operand.tmp 144) (Go.Operand.tmp 147) (Go.Operand.const (Go.Value.bool false)), type := 4, pos := _, after := #[{ on := 7, ground := Go.Ground.data }, { on := 10, ground := Go.Ground.data }], guard := none }) (v := .bool true) rfl (by kernel_rfl) (by kernel_rfl) (by kernel_rfl) (fun _ _ _ h => h) (Or.inl ⟨by rfl, fun w' hw' => ?_⟩) hHeld ?_
          · first | (go_simp; done) | (go_simp; rfl)
          try simp only [Act.put, List.setIfInBounds_toArray, List.set_cons_zero, List.set_cons_succ]
          refine wpAnyH_take (i := 12) (oi := { dst := some 149, op := Go.Op.move (Go.Operand.tmp 148), type := 4, pos := _, after := #[{ on := 11, ground := Go.Ground.data }, { on := 9, ground := Go.Ground.chain }], guard := none }) (v := .bool true) rfl (by kernel_rfl) (by kernel_rfl) (by kernel_rfl) (fun _ _ _ h => h) (Or.inl ⟨by rfl, fun w' hw' => ?_⟩) hHeld ?_
          · first | (go_simp; done) | (go_simp; rfl)
          try simp only [Act.put, List.setIfInBounds_toArray, List.set_cons_zero, List.set_cons_succ]
          refine wpAnyH_ready (rs := [13]) (by kernel_rfl) (by simp) ?_
          refine AllReadyH.cons (o := { dst := some 150, op := Go.Op.call { callee := Go.Callee.value (Go.Operand.func 7), args := #[], argTypes := #[] }, type := 4, pos := _, after := #[{ on := 12, ground := Go.Ground.chain }, { on := 12, ground := Go.Ground.guard }], guard := some (12, true) }) rfl (fun K hK => ?_) AllReadyH.nil
          rw [if_pos (by rfl)]
          go_wp2_with fail
          refine Calls.mono (HK.out _) ?_
          rintro e Z5 ⟨rfl, hb⟩
          have hH5 := T4.rs.step hb
          clear hHeld hb
          have hHeld := hH5
          refine hK.out _ _ hHeld (fun _ => ?_)
          clear hK K
          try simp only [Act.put, List.setIfInBounds_toArray, List.set_cons_zero, List.set_cons_succ]
          refine wpAnyH_take (i := 14) (oi := { dst := some 151, op := Go.Op.pick (Go.Operand.tmp 149) (Go.Operand.tmp 150) (Go.Operand.const (Go.Value.bool false)), type := 4, pos := _, after := #[{ on := 12, ground := Go.Ground.data }, { on := 13, ground := Go.Ground.data }], guard := none }) (v := .bool true) rfl (by kernel_rfl) (by kernel_rfl) (by kernel_rfl) (fun _ _ _ h => h) (Or.inl ⟨by rfl, fun w' hw' => ?_⟩) hHeld ?_
          · first | (go_simp; done) | (go_simp; rfl)
          try simp only [Act.put, List.setIfInBounds_toArray, List.set_cons_zero, List.set_cons_succ]
          refine wpAnyH_ready (rs := [15]) (by kernel_rfl) (by simp) ?_
          refine AllReadyH.cons (o := { dst := some 10, op := Go.Op.assign (Go.Operand.tmp 151), type := 4, pos := _, after := #[{ on := 14, ground := Go.Ground.data }, { on := 13, ground := Go.Ground.chain }, { on := 0, ground := Go.Ground.phase }, { on := 1, ground := Go.Ground.phase }, { on := 2, ground := Go.Ground.phase }, { on := 3, ground := Go.Ground.phase }, { on := 4, ground := Go.Ground.phase }, { on := 5, ground := Go.Ground.phase }, { on := 6, ground := Go.Ground.phase }, { on := 7, ground := Go.Ground.phase }, { on := 8, ground := Go.Ground.phase }, { on := 9, ground := Go.Ground.phase }, { on := 10, ground := Go.Ground.phase }, { on := 11, ground := Go.Ground.phase }, { on := 12, ground := Go.Ground.phase }, { on := 13, ground := Go.Ground.phase }, { on := 14, ground := Go.Ground.phase }], guard := none }) rfl (fun K hK => ?_) AllReadyH.nil
          rw [if_pos (by rfl)]
          go_wp2_with fail
          refine hK.out _ _ hHeld (fun _ => ?_)
          clear hK K
          try simp only [Act.put, List.setIfInBounds_toArray, List.set_cons_zero, List.set_cons_succ]
          refine wpAnyH_done (by kernel_rfl) ?_ _
          have HE : Hid (Below w.heap.size w Z5) := hH5.bel
          clear hHeld hH5 T4
          go_wp2
          go_ret
          exact ⟨rfl, HE.out⟩
end Go.Proofs.YtnijjoankahddaaGreat.DC
