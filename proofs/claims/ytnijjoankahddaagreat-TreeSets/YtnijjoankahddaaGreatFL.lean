/- tree: TreeSets' walk. -/
import Derived.Test.YtnijjoankahddaaGreatWz
import Derived.Test.YtnijjoankahddaaGreatWx
import Derived.Test.YtnijjoankahddaaGreatWu
set_option linter.unusedVariables false
set_option linter.unusedSimpArgs false
namespace Go.Proofs.YtnijjoankahddaaGreat.DC
open Go.RowKit

theorem infoCa (L : List Value) (h : L.length = 37) : (Tryz.prog.info? 28).map (·.size) = some L.length := by rw [h]; kernel_rfl
abbrev RW3 (w : World) (RT FL CL : List Value) : Rws := [(w.heap.size + 1 + 1, 23, RT), (w.heap.size + 1, 23, FL), (w.heap.size, 28, CL)]
set_option maxHeartbeats 4000000 in
set_option maxRecDepth 100000 in
theorem sets_walk (w : World) (c : Ca) (dv fv : Value) (pg : Int) (leaf root : List UInt8) (hc : c.ok dv fv w) (hl : leaf.length = 32) (hr : root.length = 32) :
    Calls Tryz.prog 5 #[.agg (caL c dv fv).toArray, .int .i64 pg, .agg (leaf.map B8).toArray, .agg (root.map B8).toArray] w fun e w' => e = .returned (.bool true) ∧ Below w.heap.size w w' := by
  have HK : Hid (∀ W, Calls Tryz.prog 7 #[] W fun e w' => e = .returned (.bool true) ∧ Below W.heap.size W w') := known_any
  have HNM : Hid (∀ n W, Calls Tryz.prog 17 #[.int .i64 n] W fun x w' => x = .returned (.int .i64 n) ∧ W = w') := num_any
  have hz := fun W => R5.zero_dig W
  obtain ⟨ZL, hZL⟩ : ∃ L, L = (List.replicate 32 (0 : UInt8)).map B8 := ⟨_, rfl⟩
  rw [← hZL] at hz
  have HZL : Hid (ZL.length = 32) := by show _ = _; rw [hZL]; simp
  have HZ1 : Hid (ZL.toArray.all (·.oneCell') = true) := by show _ = _; rw [hZL]; exact R5.B8_onea _
  have HBD : Hid (∀ W : World, (Instr.build 23 #[]).run Tryz.prog W = .ok (.agg ZL.toArray) W) := fun W => by rw [hZL]; exact R5.build_dig W
  have HEV : Hid (∀ e, R5.errV e = .tuple #[.agg ZL.toArray, .int .i64 e]) := fun e => by rw [hZL]; rfl
  have HEZ : Hid (∀ W, (Op.equalIn 10000 23 (.agg ZL.toArray) (.agg ZL.toArray)).run Tryz.prog W = .ok true W) := fun W => by rw [hZL]; exact eq_dig W _ _ (by simp) (by simp) true (by simp)
  obtain ⟨hdl, pd, capd, hde, _⟩ := id hc.d
  obtain ⟨hfl, pf, capf, hfe, _⟩ := id hc.f
  have HSB : Hid (∀ W, Calls Tryz.prog 6 #[.agg (caL c dv fv).toArray] W fun e Y => e = .returned (.bool (smB c)) ∧ Below W.heap.size W Y) := fun W => by rw [hde, hfe]; exact small_any W c pd pf capd capf hc.m
  have HTWO : Hid (smB c = true → ∀ W rows, RS w rows W → Calls Tryz.prog 8 #[.agg (caL c dv fv).toArray] W fun e Y => TwEnd w c c.n.toNat ((W.heap.size, 28, caL c dv fv) :: rows) e Y) := fun h W rows hR => by
    have hs := of_decide_eq_true h
    exact two_any w W c dv fv c.n.toNat rows hc hR (by omega) (by omega) (by omega) (by omega) (by omega)
  have HNN : Hid (smB c = true → ∃ n : Nat, c.n.toNat = n ∧ c.n = (n : Int) ∧ n ≤ 80 ∧ 1 ≤ n) := fun h => by have hs := of_decide_eq_true h; exact ⟨c.n.toNat, rfl, by omega, by omega, by omega⟩
  have HCLN : Hid _ := caL_len c dv fv hc.m
  have HDD : Hid (∀ d ∈ c.D, d.length = 32) := hdl
  have HCA : Hid (c.a < 18446744073709551616) := hc.a
  have HLE : Hid (leaf.length = 32) := hl
  have HRO : Hid (root.length = 32) := hr
  have HCR : Hid (∀ W : World, W.heap[w.heap.size]? = some (.cells (caL c dv fv).toArray 28 (0, 0)) → CaC w.heap.size c dv fv W) := fun W hW => CaC.of hc.m hW
  have HR0 : Hid _ := (((RS.start w).alloc _ rfl 28 (caL c dv fv)).alloc (w.heap.size + 1) (by simp) 23 (leaf.map B8)).alloc (w.heap.size + 1 + 1) (by simp) 23 (root.map B8)
  obtain ⟨CL, hCL⟩ : ∃ L, caL c dv fv = L := ⟨_, rfl⟩
  obtain ⟨FL, hFL⟩ : ∃ L, leaf.map B8 = L := ⟨_, rfl⟩
  obtain ⟨RT, hRT⟩ : ∃ L, root.map B8 = L := ⟨_, rfl⟩
  have HFE : Hid (leaf.map B8 = FL) := hFL
  have HRE : Hid (root.map B8 = RT) := hRT
  have HFLN : Hid (FL.length = 32) := by show _ = _; rw [← hFL]; simpa using hl
  have HRTN : Hid (RT.length = 32) := by show _ = _; rw [← hRT]; simpa using hr
  rw [hCL] at HSB HTWO HCLN HCR
  rw [hCL, hFL, hRT] at HR0 ⊢
  obtain ⟨sb, hsb⟩ : ∃ b, smB c = b := ⟨_, rfl⟩
  rw [hsb] at HSB HTWO HNN
  clear hZL hdl hde hfl hfe hc hl hr hCL hFL hRT hsb
  go_enter Tryz.func5, Tryz.ntmps5
  go_wp2_with (refine wpList_load_mid rfl 28 (.tmp 4) rfl w.heap.size 0 rfl CL _ (MC.rangeAt_row (HR0.out.at 2 rfl)) Tryz.underlying28 rfl (infoCa CL HCLN.out) ?_)
  refine Calls.mono (HSB.out _) ?_
  rintro e X1 ⟨rfl, hb1⟩
  have HR1 : Hid _ := HR0.out.step hb1
  clear hb1 HR0 HSB
  cases sb with
  | false =>
    clear HTWO HNN
    go_wp2_with fail
    refine Calls.mono (HK.out X1) ?_
    rintro e X2 ⟨rfl, hb2⟩
    have HE : Hid (Below w.heap.size w X2) := HR1.out.bel.trans (hb2.mono HR1.out.bel.size)
    clear hb2 HR1
    go_wp2
    go_ret
    exact ⟨rfl, HE.out⟩
  | true =>
    have HTW : Hid _ := HTWO.out rfl X1 _ HR1.out
    obtain ⟨n, hn1, hn2, hn80, hn1b⟩ := HNN.out rfl
    rw [hn1] at HTW
    clear HTWO HNN hn1
    go_wp2_with (refine wpList_load_mid rfl 28 (.tmp 4) rfl w.heap.size 0 rfl CL _ (MC.rangeAt_row (HR1.out.at 2 rfl)) Tryz.underlying28 rfl (infoCa CL HCLN.out) ?_)
    refine Calls.mono HTW.out ?_
    rintro e X2 ⟨og, mb, rg, mm, gb, rm, bq, rfl, hTM⟩
    have hT0 := hTM.drop
    clear hTM HTW HR1
    generalize filled n c.F (min c.F.length n) = l at *
    have HN2 : Hid (c.n = (n : Int)) := hn2
    have HN8 : Hid (n ≤ 80) := hn80
    have HMP : Hid (∀ W, Calls Tryz.prog 12 #[.int .i64 pg] W fun e w' => e = .returned (.bool (mayP pg)) ∧ w' = W) := fun W => mayPage_any pg W
    have HRW : Hid (∀ W, Calls Tryz.prog 22 #[.int .i64 (n : Int), .int .u64 (c.a : Int)] W fun e w' => e = .returned (.bool (witB n c.a)) ∧ w' = W) := fun W => rwit_any n c.a W (by omega) HCA.out
    have HSM : Hid (∀ L R l2 rws W, TM w og mb rg c.i c.m c.D L R mm gb rm bq n l2 l2 rws W → Calls Tryz.prog 24 #[.pointer (some ⟨mm, 0, none⟩), .pointer (some ⟨rm, 0, none⟩)] W fun e Y => e = .returned (.bool true) ∧ Below W.heap.size W Y) := fun L R l2 rws W hW => hW.same
    have HC36 : Hid (∀ W : World, W.heap[w.heap.size]? = some (.cells CL.toArray 28 (0, 0)) → W.cell? ⟨w.heap.size, 36, none⟩ = some (.int .u64 (c.a : Int)) ∧ W.cell? ⟨w.heap.size, 34, none⟩ = some (.int .i64 (n : Int))) := fun W hW => ⟨(HCR.out W hW).c36, by rw [← HN2.out]; exact (HCR.out W hW).c34⟩
    clear hn2 hn80 HCR HN2
    obtain ⟨ok, hok⟩ : ∃ b, wayOk n c.a pg = b := ⟨_, rfl⟩
    cases ok with
    | false =>
      have HUP : Hid (∀ rws W, TM w og mb rg c.i c.m c.D [] [] mm gb rm bq n l l rws W → Calls Tryz.prog 29 #[.pointer (some ⟨og, 0, none⟩), .pointer (some ⟨mm, 0, none⟩), .int .u64 (c.a : Int), .int .i64 pg, .agg FL.toArray] W fun e Y => e = .returned (.tuple #[.agg ZL.toArray, .int .i64 2]) ∧ TM w og mb rg c.i c.m c.D [] [] mm gb rm bq n l l rws Y) := fun rws W hW => by rw [← HEV.out]; exact hW.pup_no c.a HCA.out pg FL.toArray hok
      have HST : Hid (∀ rws W, TM w og mb rg c.i c.m c.D [] [] mm gb rm bq n l l rws W → Calls Tryz.prog 31 #[.pointer (some ⟨og, 0, none⟩), .pointer (some ⟨mm, 0, none⟩), .int .u64 (c.a : Int), .int .i64 pg, .agg FL.toArray] W fun e Y => e = .returned (.tuple #[.agg ZL.toArray, .int .i64 2]) ∧ TM w og mb rg c.i c.m c.D [] [] mm gb rm bq n l l rws Y) := fun rws W hW => by rw [← HEV.out]; exact hW.pset_no c.a HCA.out pg FL.toArray hok
      have HCH : Hid (∀ rws W, TM w og mb rg c.i c.m c.D [] [] mm gb rm bq n l l rws W → Calls Tryz.prog 30 #[.pointer (some ⟨og, 0, none⟩), .pointer (some ⟨mm, 0, none⟩), .int .u64 (c.a : Int), .agg RT.toArray, .int .i64 pg, .agg FL.toArray] W fun e Y => e = .returned (.tuple #[.bool false, .int .i64 2]) ∧ TM w og mb rg c.i c.m c.D [] [] mm gb rm bq n l l rws Y) := fun rws W hW => hW.pcheck_no c.a HCA.out pg RT FL HFLN.out hok
      have HOK : Hid ((witB n c.a && mayP pg) = false) := hok
      have HT0 : Hid (TM w og mb rg c.i c.m c.D [] [] mm gb rm bq n l l (RW3 w RT FL CL) X2) := hT0
      have c1 := (HC36.out X2 (hT0.at 2 rfl)).1
      clear hT0 hok hn1b
      generalize (c.a : Int) = ca at *
      generalize c.i = i at *
      generalize c.m = m at *
      generalize c.D = D at *
      go_wp2_with (refine wpList_load_mid rfl 23 (.tmp 6) rfl (w.heap.size + 1) 0 rfl FL _ (MC.rangeAt_row (HT0.out.at 1 rfl)) Tryz.underlying23 rfl (infoD FL HFLN.out) ?_)
      refine Calls.mono (HUP.out _ _ HT0.out) ?_
      rintro e X3 ⟨rfl, hT3⟩
      clear HT0 c1
      -- 14 slot, 44 the value's tmp, ZL the row, hT3 the TM ahead, X3 the world ahead
      have HTA : Hid _ := (hT3).alloc (X3).heap.size rfl 23 ZL
      go_upto_region 7 with (refine wpList_store_dL rfl (.tmp 14) (.tmp 44) rfl (X3).heap.size ZL ZL rfl rfl (HTA.out.at 0 rfl) HZL.out HZL.out HZ1.out ?_; intro XA ea; have HT4 : Hid _ := HTA.out.put' 0 rfl ZL; rw [← ea] at HT4; clear ea)
      clear HTA
      clear hT3
      generalize X3.heap.size = b14 at *
      have c1 := (HC36.out XA (HT4.out.at 3 rfl)).1
      go_wp2_with (first
        | (refine wpList_load_mid rfl 23 (.tmp 7) rfl (w.heap.size + 1 + 1) 0 rfl RT _ (MC.rangeAt_row (HT4.out.at 1 rfl)) Tryz.underlying23 rfl (infoD RT HRTN.out) ?_)
        | (refine wpList_load_mid rfl 23 (.tmp 6) rfl (w.heap.size + 1) 0 rfl FL _ (MC.rangeAt_row (HT4.out.at 2 rfl)) Tryz.underlying23 rfl (infoD FL HFLN.out) ?_))
      refine Calls.mono (HCH.out _ _ HT4.out) ?_
      rintro e X5 ⟨rfl, hT5⟩
      clear HT4 c1 HCH
      go_wp2_with fail
      refine Calls.mono (HSM.out _ _ _ _ X5 hT5) ?_
      rintro e X6 ⟨rfl, hb6⟩
      have HT6 : Hid _ := hT5.step hb6
      clear hT5 hb6
      have c1 := (HC36.out X6 (HT6.out.at 3 rfl)).1
      go_wp2_with (refine wpList_load_mid rfl 23 (.tmp 6) rfl (w.heap.size + 1) 0 rfl FL _ (MC.rangeAt_row (HT6.out.at 2 rfl)) Tryz.underlying23 rfl (infoD FL HFLN.out) ?_)
      refine Calls.mono (HST.out _ _ HT6.out) ?_
      rintro e X7 ⟨rfl, hT7⟩
      clear HT6 c1 HST
      -- 18 slot, 69 the value's tmp, ZL the row, hT7 the TM ahead, X7 the world ahead
      have HTA : Hid _ := (hT7).alloc (X7).heap.size rfl 23 ZL
      go_upto_region 11 with (refine wpList_store_dL rfl (.tmp 18) (.tmp 69) rfl (X7).heap.size ZL ZL rfl rfl (HTA.out.at 0 rfl) HZL.out HZL.out HZ1.out ?_; intro XA ea; have HT8 : Hid _ := HTA.out.put' 0 rfl ZL; rw [← ea] at HT8; clear ea)
      clear HTA
      clear hT7
      generalize X7.heap.size = b18 at *
      obtain ⟨c1, c2⟩ := HC36.out XA (HT8.out.at 4 rfl)
      go_wp2_with fail
      refine Calls.mono (HMP.out XA) ?_
      rintro e Y0 ⟨rfl, hy⟩
      rw [hy]
      clear hy Y0
      clear HMP
      obtain ⟨mp, hmp⟩ : ∃ b, mayP pg = b := ⟨_, rfl⟩
      rw [hmp]
      cases mp with
      | false =>
        clear hmp HOK HRW
        clear c1 c2 HC36 HUP
        have heq := HEZ.out
        go_wp2_with (first
          | (refine wpList_load_mid rfl 23 (.tmp 14) rfl b14 0 rfl ZL _ (MC.rangeAt_row (HT8.out.at 1 rfl)) Tryz.underlying23 rfl (infoD ZL HZL.out) ?_)
          | (refine R5.wpList_build rfl 23 #[] rfl #[] (.agg ZL.toArray) (by simp) (HBD.out _) ?_)
          | (refine R5.load_mid_g (by rfl) 23 (.tmp 18) rfl b18 0 rfl ZL _ (MC.rangeAt_row (HT8.out.at 0 rfl)) Tryz.underlying23 rfl (infoD ZL HZL.out) ?_)
          | (refine R5.load_mid_g (by rfl) 23 (.tmp 14) rfl b14 0 rfl ZL _ (MC.rangeAt_row (HT8.out.at 1 rfl)) Tryz.underlying23 rfl (infoD ZL HZL.out) ?_))
        clear heq
        refine Calls.mono (HNM.out 2 _) ?_
        rintro e Y0 ⟨rfl, hy⟩
        rw [← hy]
        clear hy Y0
        go_wp2_with fail
        refine Calls.mono (HNM.out 2 _) ?_
        rintro e Y0 ⟨rfl, hy⟩
        rw [← hy]
        clear hy Y0
        go_wp2_with fail
        refine Calls.mono (HNM.out 2 _) ?_
        rintro e Y0 ⟨rfl, hy⟩
        rw [← hy]
        clear hy Y0
        go_wp2_with fail
        refine Calls.mono (HSM.out _ _ _ _ XA HT8.out) ?_
        rintro e X9 ⟨rfl, hb9⟩
        have HT9 : Hid _ := HT8.out.step hb9
        clear hb9 HT8 HSM
        go_wp2_with fail
        refine Calls.mono (HK.out X9) ?_
        rintro e X10 ⟨rfl, hb10⟩
        have HE : Hid (Below w.heap.size w X10) := HT9.out.tb.bel.trans (hb10.mono HT9.out.tb.bel.size)
        clear hb10 HT9
        go_wp2
        go_ret
        exact ⟨rfl, HE.out⟩
      | true =>
        have hwf : witB n c.a = false := by have := HOK.out; rw [hmp, Bool.and_true] at this; exact this
        rw [hwf] at HRW
        clear hmp hwf HOK
        go_wp2_with fail
        refine Calls.mono (HRW.out XA) ?_
        rintro e Y0 ⟨rfl, hy⟩
        rw [hy]
        clear hy Y0 HRW
        clear c1 c2 HC36 HUP
        have heq := HEZ.out
        go_wp2_with (first
          | (refine wpList_load_mid rfl 23 (.tmp 14) rfl b14 0 rfl ZL _ (MC.rangeAt_row (HT8.out.at 1 rfl)) Tryz.underlying23 rfl (infoD ZL HZL.out) ?_)
          | (refine R5.wpList_build rfl 23 #[] rfl #[] (.agg ZL.toArray) (by simp) (HBD.out _) ?_)
          | (refine R5.load_mid_g (by rfl) 23 (.tmp 18) rfl b18 0 rfl ZL _ (MC.rangeAt_row (HT8.out.at 0 rfl)) Tryz.underlying23 rfl (infoD ZL HZL.out) ?_)
          | (refine R5.load_mid_g (by rfl) 23 (.tmp 14) rfl b14 0 rfl ZL _ (MC.rangeAt_row (HT8.out.at 1 rfl)) Tryz.underlying23 rfl (infoD ZL HZL.out) ?_))
        clear heq
        refine Calls.mono (HNM.out 2 _) ?_
        rintro e Y0 ⟨rfl, hy⟩
        rw [← hy]
        clear hy Y0
        go_wp2_with fail
        refine Calls.mono (HNM.out 2 _) ?_
        rintro e Y0 ⟨rfl, hy⟩
        rw [← hy]
        clear hy Y0
        go_wp2_with fail
        refine Calls.mono (HNM.out 2 _) ?_
        rintro e Y0 ⟨rfl, hy⟩
        rw [← hy]
        clear hy Y0
        go_wp2_with fail
        refine Calls.mono (HSM.out _ _ _ _ XA HT8.out) ?_
        rintro e X9 ⟨rfl, hb9⟩
        have HT9 : Hid _ := HT8.out.step hb9
        clear hb9 HT8 HSM
        go_wp2_with fail
        refine Calls.mono (HK.out X9) ?_
        rintro e X10 ⟨rfl, hb10⟩
        have HE : Hid (Below w.heap.size w X10) := HT9.out.tb.bel.trans (hb10.mono HT9.out.tb.bel.size)
        clear hb10 HT9
        go_wp2
        go_ret
        exact ⟨rfl, HE.out⟩
    | true =>
      have hwit : witB n c.a = true := (Bool.and_eq_true_iff.1 hok).1
      have hmay : mayP pg = true := (Bool.and_eq_true_iff.1 hok).2
      obtain ⟨p, rfl, hp⟩ := mayP_nat hmay
      have hgl : gL c.D [] := gL.nil HDD.out
      obtain ⟨WS, L1, hup1⟩ : ∃ WS L1, upS c.i c.D (nodeB l c.a) (128 + p) leaf [] 7 = (WS, L1) := ⟨_, _, rfl⟩
      have hup2 : upS c.i c.D (nodeB l c.a) (128 + p) leaf L1 7 = (WS, L1) := by
        have q := upS_again (i := c.i) (D := c.D) (nb := nodeB l c.a) (j := 128 + p) (leaf := leaf) (L := []) 7 7 (Nat.le_refl _)
        rw [hup1] at q; exact q
      have hgl1 : gL c.D L1 := by have q := upS_good (i := c.i) (nb := nodeB l c.a) (j := 128 + p) (leaf := leaf) hgl 7; rw [hup1] at q; exact q
      have hll1 : L1.length ≤ 7 := by have q := upS_log (i := c.i) (D := c.D) (nb := nodeB l c.a) (j := 128 + p) (leaf := leaf) (L := []) 7; rw [hup1] at q; simpa using q
      have hG32 : (WS.getD 7 []).length = 32 := by
        have q1 := upS_each (i := c.i) (nb := nodeB l c.a) (j := 128 + p) hgl HLE.out 7
        have q2 := upS_len (i := c.i) (D := c.D) (nb := nodeB l c.a) (j := 128 + p) (leaf := leaf) (L := []) 7
        rw [hup1] at q1 q2
        exact getD_len q1 7 (by rw [q2]; decide)
      have HUP : Hid (∀ rws W, TM w og mb rg c.i c.m c.D [] [] mm gb rm bq n l l rws W → Calls Tryz.prog 29 #[.pointer (some ⟨og, 0, none⟩), .pointer (some ⟨mm, 0, none⟩), .int .u64 (c.a : Int), .int .i64 (p : Int), .agg FL.toArray] W fun e Y => e = .returned (.tuple #[.agg ((WS.getD 7 []).map B8).toArray, .int .i64 0]) ∧ TM w og mb rg c.i c.m c.D L1 [] mm gb rm bq n l l rws Y) := fun rws W hW => by
        have q := hW.pup c.a p leaf hgl hwit hp HLE.out (by decide)
        rw [hup1, HFE.out] at q; exact q
      have HCH : Hid (∀ rws W, TM w og mb rg c.i c.m c.D L1 [] mm gb rm bq n l l rws W → Calls Tryz.prog 30 #[.pointer (some ⟨og, 0, none⟩), .pointer (some ⟨mm, 0, none⟩), .int .u64 (c.a : Int), .agg RT.toArray, .int .i64 (p : Int), .agg FL.toArray] W fun e Y => e = .returned (.tuple #[.bool (WS.getD 7 [] == root), .int .i64 0]) ∧ TM w og mb rg c.i c.m c.D L1 [] mm gb rm bq n l l rws Y) := fun rws W hW => by
        have q := hW.pcheck c.a p root leaf hgl1 hwit hp HRO.out HLE.out (by omega)
        rw [hup2, HFE.out, HRE.out] at q; exact q
      have HST : Hid (∀ rws W, TM w og mb rg c.i c.m c.D L1 [] mm gb rm bq n l l rws W → Calls Tryz.prog 31 #[.pointer (some ⟨og, 0, none⟩), .pointer (some ⟨mm, 0, none⟩), .int .u64 (c.a : Int), .int .i64 (p : Int), .agg FL.toArray] W fun e Y => e = .returned (.tuple #[.agg ((WS.getD 7 []).map B8).toArray, .int .i64 0]) ∧ TM w og mb rg c.i c.m c.D L1 [] mm gb rm bq n (layS l c.a (128 + p) WS 7) l rws Y) := fun rws W hW => by
        have q := hW.pset c.a p leaf hgl1 hwit hp HLE.out (by omega)
        rw [hup2, HFE.out] at q; exact q
      have HRU : Hid (∀ rws l1 W, TM w og mb rg c.i c.m c.D L1 [] mm gb rm bq n l1 l rws W → Calls Tryz.prog 32 #[.pointer (some ⟨rg, 0, none⟩), .pointer (some ⟨rm, 0, none⟩), .int .u64 (c.a : Int), .int .i64 (p : Int), .agg FL.toArray] W fun e Y => ∃ g cap M, e = .returned (.slice (some ⟨g, 0, none⟩) 8 cap) ∧ (∀ W : World, W.heap[g]? = some (.cells M.toArray 23 (0, 0)) → W.rangeAt g 224 ((WS.getD 7 []).map B8)) ∧ TM w og mb rg c.i c.m c.D L1 L1 mm gb rm bq n l1 l ((g, 23, M) :: rws) Y) := fun rws l1 W hW => by
        have q := hW.rup c.a p leaf hgl hwit hp HLE.out (by decide)
        rw [hup1, HFE.out] at q
        have q2 := upS_len (i := c.i) (D := c.D) (nb := nodeB l c.a) (j := 128 + p) (leaf := leaf) (L := []) 7
        rw [hup1] at q2
        exact q.mono fun e Y ⟨g, cap, M, h1, h2, h3⟩ => ⟨g, cap, M, h1, fun W hW => h2.range 7 (by have : WS.length = 8 := q2; omega) hW, h3⟩
      have HRS : Hid (∀ rws l1 W, TM w og mb rg c.i c.m c.D L1 L1 mm gb rm bq n l1 l rws W → Calls Tryz.prog 33 #[.pointer (some ⟨rg, 0, none⟩), .pointer (some ⟨rm, 0, none⟩), .int .u64 (c.a : Int), .int .i64 (p : Int), .agg FL.toArray] W fun e Y => e = .returned (.agg ((WS.getD 7 []).map B8).toArray) ∧ TM w og mb rg c.i c.m c.D L1 L1 mm gb rm bq n l1 (layS l c.a (128 + p) WS 7) rws Y) := fun rws l1 W hW => by
        have q := hW.rset c.a p leaf hgl1 hwit hp HLE.out (by omega)
        rw [hup2, HFE.out] at q; exact q
      have HQ1 : Hid (∀ W, (Op.equalIn 10000 23 (.agg ((WS.getD 7 []).map B8).toArray) (.agg ((WS.getD 7 []).map B8).toArray)).run Tryz.prog W = .ok true W) := fun W => eq_dig W _ _ hG32 hG32 true (by simp)
      have HQ2 : Hid (∀ W, (Op.equalIn 10000 23 (.agg RT.toArray) (.agg ((WS.getD 7 []).map B8).toArray)).run Tryz.prog W = .ok (WS.getD 7 [] == root) W) := fun W => by
        rw [← HRE.out]
        exact eq_dig W root _ HRO.out hG32 _ (by rw [Bool.eq_iff_iff, beq_iff_eq, beq_iff_eq]; exact eq_comm)
      have HLG : Hid (∀ rws l1 l2 W, TM w og mb rg c.i c.m c.D L1 L1 mm gb rm bq n l1 l2 rws W → Calls Tryz.prog 27 #[.pointer (some ⟨og, 0, none⟩)] W fun e Y => ∃ v, e = .returned v ∧ R5.HLr Y v L1 ∧ Below W.heap.size W Y) := fun rws l1 l2 W hW => hW.tb.log (by omega)
      have HRG : Hid (∀ rws l1 l2 W, TM w og mb rg c.i c.m c.D L1 L1 mm gb rm bq n l1 l2 rws W → ∃ lv, W.cell? ⟨rg, 35, none⟩ = some lv ∧ R5.HLr W lv L1) := fun rws l1 l2 W hW => hW.tb.rlog
      have HSL : Hid (∀ va vb W, R5.HLr W va L1 → R5.HLr W vb L1 → Calls Tryz.prog 26 #[va, vb] W fun e w' => e = .returned (.bool true) ∧ Below W.heap.size W w') := fun va vb W ha hb => (R5.sameLog_any va vb L1 L1 W (by omega) (by omega) ha hb).mono fun e w' ⟨h1, h2⟩ => ⟨by rw [h1]; simp, h2⟩
      have HGLN : Hid (((WS.getD 7 []).map B8).length = 32) := by show _ = _; rw [List.length_map]; exact hG32
      have HGL1 : Hid _ := R5.B8_onea (WS.getD 7 [])
      rw [hwit] at HRW
      rw [hmay] at HMP
      generalize (WS.getD 7 [] == root) = bo at *
      generalize (WS.getD 7 []).map B8 = GL at *
      generalize layS l c.a (128 + p) WS 7 = M1 at *
      have HT0 : Hid (TM w og mb rg c.i c.m c.D [] [] mm gb rm bq n l l (RW3 w RT FL CL) X2) := hT0
      have c1 := (HC36.out X2 (hT0.at 2 rfl)).1
      clear hT0 hok hn1b hwit hmay hgl hgl1 hup1 hup2 hll1 hG32 hp
      generalize (c.a : Int) = ca at *
      generalize c.i = i at *
      generalize c.m = m at *
      generalize c.D = D at *
      go_wp2_with (refine wpList_load_mid rfl 23 (.tmp 6) rfl (w.heap.size + 1) 0 rfl FL _ (MC.rangeAt_row (HT0.out.at 1 rfl)) Tryz.underlying23 rfl (infoD FL HFLN.out) ?_)
      refine Calls.mono (HUP.out _ _ HT0.out) ?_
      rintro e X3 ⟨rfl, hT3⟩
      clear HT0 c1
      -- 14 slot, 44 the value's tmp, GL the row, hT3 the TM ahead, X3 the world ahead
      have HTA : Hid _ := (hT3).alloc (X3).heap.size rfl 23 ZL
      go_upto_region 7 with (refine wpList_store_dL rfl (.tmp 14) (.tmp 44) rfl (X3).heap.size GL ZL rfl rfl (HTA.out.at 0 rfl) HGLN.out HZL.out HGL1.out ?_; intro XA ea; have HT4 : Hid _ := HTA.out.put' 0 rfl GL; rw [← ea] at HT4; clear ea)
      clear HTA
      clear hT3
      generalize X3.heap.size = b14 at *
      have c1 := (HC36.out XA (HT4.out.at 3 rfl)).1
      go_wp2_with (first
        | (refine wpList_load_mid rfl 23 (.tmp 7) rfl (w.heap.size + 1 + 1) 0 rfl RT _ (MC.rangeAt_row (HT4.out.at 1 rfl)) Tryz.underlying23 rfl (infoD RT HRTN.out) ?_)
        | (refine wpList_load_mid rfl 23 (.tmp 6) rfl (w.heap.size + 1) 0 rfl FL _ (MC.rangeAt_row (HT4.out.at 2 rfl)) Tryz.underlying23 rfl (infoD FL HFLN.out) ?_))
      refine Calls.mono (HCH.out _ _ HT4.out) ?_
      rintro e X5 ⟨rfl, hT5⟩
      clear HT4 c1 HCH HUP
      go_wp2_with fail
      refine Calls.mono (HSM.out _ _ _ _ X5 hT5) ?_
      rintro e X6 ⟨rfl, hb6⟩
      have HT6 : Hid _ := hT5.step hb6
      clear hT5 hb6
      have c1 := (HC36.out X6 (HT6.out.at 3 rfl)).1
      go_wp2_with (refine wpList_load_mid rfl 23 (.tmp 6) rfl (w.heap.size + 1) 0 rfl FL _ (MC.rangeAt_row (HT6.out.at 2 rfl)) Tryz.underlying23 rfl (infoD FL HFLN.out) ?_)
      refine Calls.mono (HST.out _ _ HT6.out) ?_
      rintro e X7 ⟨rfl, hT7⟩
      clear HT6 c1 HST
      -- 18 slot, 69 the value's tmp, GL the row, hT7 the TM ahead, X7 the world ahead
      have HTA : Hid _ := (hT7).alloc (X7).heap.size rfl 23 ZL
      go_upto_region 11 with (refine wpList_store_dL rfl (.tmp 18) (.tmp 69) rfl (X7).heap.size GL ZL rfl rfl (HTA.out.at 0 rfl) HGLN.out HZL.out HGL1.out ?_; intro XA ea; have HT8 : Hid _ := HTA.out.put' 0 rfl GL; rw [← ea] at HT8; clear ea)
      clear HTA
      clear hT7
      generalize X7.heap.size = b18 at *
      obtain ⟨c1, c2⟩ := HC36.out XA (HT8.out.at 4 rfl)
      go_wp2_with fail
      refine Calls.mono (HMP.out XA) ?_
      rintro e Y0 ⟨rfl, hy⟩
      rw [hy]
      clear hy Y0 HMP
      go_wp2_with fail
      refine Calls.mono (HRW.out XA) ?_
      rintro e Y0 ⟨rfl, hy⟩
      rw [hy]
      clear hy Y0 HRW
      go_wp2_with (refine wpList_load_mid rfl 23 (.tmp 6) rfl (w.heap.size + 1) 0 rfl FL _ (MC.rangeAt_row (HT8.out.at 3 rfl)) Tryz.underlying23 rfl (infoD FL HFLN.out) ?_)
      refine Calls.mono (HRU.out _ _ _ HT8.out) ?_
      rintro e X9 ⟨g, cap, M, rfl, hg, hT9⟩
      have hrg := hg X9 (hT9.at 0 rfl)
      have HRN : Hid (X9.rangeAt g 224 GL) := hrg
      clear hrg hg HT8 HRU c1 c2
      have HTA : Hid _ := hT9.alloc X9.heap.size rfl 23 ZL
      clear hT9
      go_upto_region 15 with (first
        | (refine wpList_load_mid rfl 23 (.tmp 128) rfl g 224 rfl GL _ HRN.out Tryz.underlying23 rfl (infoD GL HGLN.out) ?_)
        | (refine wpList_store_dL rfl (.tmp 21) (.tmp 129) rfl X9.heap.size GL ZL rfl rfl (HTA.out.at 0 rfl) HGLN.out HZL.out HGL1.out ?_; intro XB eb; have HT10 : Hid _ := HTA.out.put' 0 rfl GL; rw [← eb] at HT10; clear eb))
      clear HTA HRN
      generalize X9.heap.size = b21 at *
      have HTD : Hid (TM w og mb rg i m D L1 L1 mm gb rm bq n M1 l ((b21, 23, GL) :: (g, 23, M) :: (b18, 23, GL) :: (b14, 23, GL) :: RW3 w RT FL CL) XB.drew) := HT10.out.step (Below.refl _ _).drew
      refine wp_region_held_drew (S := fun W => ∃ R' l2', TM w og mb rg i m D L1 R' mm gb rm bq n M1 l2' ((b21, 23, GL) :: (g, 23, M) :: (b18, 23, GL) :: (b14, 23, GL) :: RW3 w RT FL CL) W) (by kernel_rfl) ⟨_, _, HTD.out⟩ (fun hHeld => ?_)
      clear HT10
      generalize XB.drew = V0 at *
      refine wpAnyH_take (i := 0) (oi := { dst := some 130, op := Go.Op.load 23 (Go.Operand.tmp 14), type := 23, pos := _, after := #[], guard := none }) rfl (by kernel_rfl) (by kernel_rfl) (by kernel_rfl) (fun _ _ _ h => h) (yieldsIf_load_mid (by rfl) 23 (.tmp 14) rfl (b14) (0) rfl (GL) _ (fun _ h => (by obtain ⟨_, _, q⟩ := h; exact MC.rangeAt_row (q.at 3 rfl))) Tryz.underlying23 rfl (infoD GL HGLN.out)) hHeld ?_
      try simp only [Act.put, List.setIfInBounds_toArray, List.set_cons_zero, List.set_cons_succ]
      refine wpAnyH_take (i := 1) (oi := { dst := some 131, op := Go.Op.load 23 (Go.Operand.tmp 21), type := 23, pos := _, after := #[], guard := none }) rfl (by kernel_rfl) (by kernel_rfl) (by kernel_rfl) (fun _ _ _ h => h) (yieldsIf_load_mid (by rfl) 23 (.tmp 21) rfl (b21) (0) rfl (GL) _ (fun _ h => (by obtain ⟨_, _, q⟩ := h; exact MC.rangeAt_row (q.at 0 rfl))) Tryz.underlying23 rfl (infoD GL HGLN.out)) hHeld ?_
      try simp only [Act.put, List.setIfInBounds_toArray, List.set_cons_zero, List.set_cons_succ]
      refine wpAnyH_take (i := 2) (oi := { dst := some 132, op := Go.Op.binOp Go.BinOp.neq 23 (Go.Operand.tmp 130) (Go.Operand.tmp 131) 23, type := 4, pos := _, after := #[{ on := 0, ground := Go.Ground.data }, { on := 1, ground := Go.Ground.data }], guard := none }) (v := .bool false) rfl (by kernel_rfl) (by kernel_rfl) (by kernel_rfl) (fun _ _ _ h => h) (Or.inl ⟨by rfl, fun w' hw' => ?_⟩) hHeld ?_
      · exact run_neq rfl rfl rfl gD (HQ1.out w')
      try simp only [Act.put, List.setIfInBounds_toArray, List.set_cons_zero, List.set_cons_succ]
      refine wpAnyH_take (i := 3) (oi := { dst := some 133, op := Go.Op.move (Go.Operand.tmp 132), type := 4, pos := _, after := #[{ on := 2, ground := Go.Ground.data }], guard := none }) (v := .bool false) rfl (by kernel_rfl) (by kernel_rfl) (by kernel_rfl) (fun _ _ _ h => h) (Or.inl ⟨by rfl, fun w' hw' => ?_⟩) hHeld ?_
      · first | (go_simp; done) | (go_simp; rfl)
      try simp only [Act.put, List.setIfInBounds_toArray, List.set_cons_zero, List.set_cons_succ]
      refine wpAnyH_take (i := 4) (oi := { dst := some 134, op := Go.Op.move (Go.Operand.tmp 16), type := 4, pos := _, after := #[{ on := 3, ground := Go.Ground.guard }], guard := some (3, false) }) (v := .bool bo) rfl (by kernel_rfl) (by kernel_rfl) (by kernel_rfl) (fun _ _ _ h => h) (Or.inl ⟨by rfl, fun w' hw' => ?_⟩) hHeld ?_
      · first | (go_simp; done) | (go_simp; rfl)
      try simp only [Act.put, List.setIfInBounds_toArray, List.set_cons_zero, List.set_cons_succ]
      refine wpAnyH_take (i := 5) (oi := { dst := some 135, op := Go.Op.load 23 (Go.Operand.tmp 7), type := 23, pos := _, after := #[{ on := 3, ground := Go.Ground.guard }], guard := some (3, false) }) rfl (by kernel_rfl) (by kernel_rfl) (by kernel_rfl) (fun _ _ _ h => h) (yieldsIf_load_mid (by rfl) 23 (.tmp 7) rfl (w.heap.size + 1 + 1) (0) rfl (RT) _ (fun _ h => (by obtain ⟨_, _, q⟩ := h; exact MC.rangeAt_row (q.at 4 rfl))) Tryz.underlying23 rfl (infoD RT HRTN.out)) hHeld ?_
      try simp only [Act.put, List.setIfInBounds_toArray, List.set_cons_zero, List.set_cons_succ]
      refine wpAnyH_take (i := 6) (oi := { dst := some 136, op := Go.Op.load 23 (Go.Operand.tmp 21), type := 23, pos := _, after := #[{ on := 3, ground := Go.Ground.guard }], guard := some (3, false) }) rfl (by kernel_rfl) (by kernel_rfl) (by kernel_rfl) (fun _ _ _ h => h) (yieldsIf_load_mid (by rfl) 23 (.tmp 21) rfl (b21) (0) rfl (GL) _ (fun _ h => (by obtain ⟨_, _, q⟩ := h; exact MC.rangeAt_row (q.at 0 rfl))) Tryz.underlying23 rfl (infoD GL HGLN.out)) hHeld ?_
      try simp only [Act.put, List.setIfInBounds_toArray, List.set_cons_zero, List.set_cons_succ]
      refine wpAnyH_take (i := 7) (oi := { dst := some 137, op := Go.Op.binOp Go.BinOp.eql 23 (Go.Operand.tmp 135) (Go.Operand.tmp 136) 23, type := 4, pos := _, after := #[{ on := 5, ground := Go.Ground.data }, { on := 6, ground := Go.Ground.data }, { on := 3, ground := Go.Ground.guard }], guard := some (3, false) }) (v := .bool bo) rfl (by kernel_rfl) (by kernel_rfl) (by kernel_rfl) (fun _ _ _ h => h) (Or.inl ⟨by rfl, fun w' hw' => ?_⟩) hHeld ?_
      · exact run_eql rfl rfl rfl gD (HQ2.out w')
      try simp only [Act.put, List.setIfInBounds_toArray, List.set_cons_zero, List.set_cons_succ]
      refine wpAnyH_take (i := 8) (oi := { dst := some 138, op := Go.Op.binOp Go.BinOp.neq 4 (Go.Operand.tmp 134) (Go.Operand.tmp 137) 4, type := 4, pos := _, after := #[{ on := 4, ground := Go.Ground.data }, { on := 7, ground := Go.Ground.data }, { on := 3, ground := Go.Ground.guard }], guard := some (3, false) }) (v := .bool false) rfl (by kernel_rfl) (by kernel_rfl) (by kernel_rfl) (fun _ _ _ h => h) (Or.inl ⟨by rfl, fun w' hw' => ?_⟩) hHeld ?_
      · (cases bo <;> first | (go_simp; done) | (go_simp; rfl))
      try simp only [Act.put, List.setIfInBounds_toArray, List.set_cons_zero, List.set_cons_succ]
      refine wpAnyH_take (i := 9) (oi := { dst := some 139, op := Go.Op.pick (Go.Operand.tmp 133) (Go.Operand.const (Go.Value.bool true)) (Go.Operand.tmp 138), type := 4, pos := _, after := #[{ on := 3, ground := Go.Ground.data }, { on := 8, ground := Go.Ground.data }], guard := none }) (v := .bool false) rfl (by kernel_rfl) (by kernel_rfl) (by kernel_rfl) (fun _ _ _ h => h) (Or.inl ⟨by rfl, fun w' hw' => ?_⟩) hHeld ?_
      · first | (go_simp; done) | (go_simp; rfl)
      try simp only [Act.put, List.setIfInBounds_toArray, List.set_cons_zero, List.set_cons_succ]
      refine wpAnyH_take (i := 10) (oi := { dst := some 140, op := Go.Op.move (Go.Operand.tmp 139), type := 4, pos := _, after := #[{ on := 9, ground := Go.Ground.data }, { on := 3, ground := Go.Ground.chain }], guard := none }) (v := .bool false) rfl (by kernel_rfl) (by kernel_rfl) (by kernel_rfl) (fun _ _ _ h => h) (Or.inl ⟨by rfl, fun w' hw' => ?_⟩) hHeld ?_
      · first | (go_simp; done) | (go_simp; rfl)
      try simp only [Act.put, List.setIfInBounds_toArray, List.set_cons_zero, List.set_cons_succ]
      refine wpAnyH_take (i := 11) (oi := { dst := some 141, op := Go.Op.move (Go.Operand.tmp 15), type := 37, pos := _, after := #[{ on := 10, ground := Go.Ground.guard }], guard := some (10, false) }) (v := .int .i64 0) rfl (by kernel_rfl) (by kernel_rfl) (by kernel_rfl) (fun _ _ _ h => h) (Or.inl ⟨by rfl, fun w' hw' => ?_⟩) hHeld ?_
      · first | (go_simp; done) | (go_simp; rfl)
      try simp only [Act.put, List.setIfInBounds_toArray, List.set_cons_zero, List.set_cons_succ]
      refine wpAnyH_take (i := 13) (oi := { dst := some 143, op := Go.Op.move (Go.Operand.tmp 17), type := 37, pos := _, after := #[{ on := 10, ground := Go.Ground.guard }], guard := some (10, false) }) (v := .int .i64 0) rfl (by kernel_rfl) (by kernel_rfl) (by kernel_rfl) (fun _ _ _ h => h) (Or.inl ⟨by rfl, fun w' hw' => ?_⟩) hHeld ?_
      · first | (go_simp; done) | (go_simp; rfl)
      try simp only [Act.put, List.setIfInBounds_toArray, List.set_cons_zero, List.set_cons_succ]
      refine wpAnyH_take (i := 16) (oi := { dst := some 146, op := Go.Op.move (Go.Operand.tmp 19), type := 37, pos := _, after := #[{ on := 10, ground := Go.Ground.guard }], guard := some (10, false) }) (v := .int .i64 0) rfl (by kernel_rfl) (by kernel_rfl) (by kernel_rfl) (fun _ _ _ h => h) (Or.inl ⟨by rfl, fun w' hw' => ?_⟩) hHeld ?_
      · first | (go_simp; done) | (go_simp; rfl)
      try simp only [Act.put, List.setIfInBounds_toArray, List.set_cons_zero, List.set_cons_succ]
      refine wpAnyH_ready (rs := [12]) (by kernel_rfl) (by simp) ?_
      refine AllReadyH.cons (o := { dst := some 142, op := Go.Op.call { callee := Go.Callee.value (Go.Operand.func 17), args := #[Go.Operand.tmp 141], argTypes := #[37] }, type := 3, pos := _, after := #[{ on := 11, ground := Go.Ground.data }, { on := 10, ground := Go.Ground.chain }, { on := 10, ground := Go.Ground.guard }], guard := some (10, false) }) rfl (fun K hK => ?_) AllReadyH.nil
      rw [if_pos (by rfl)]
      go_wp2_with fail
      refine Calls.mono (HNM.out 0 _) ?_
      rintro e Z9 ⟨rfl, hy⟩
      rw [← hy]
      clear hy Z9
      refine hK.out _ _ hHeld (fun _ => ?_)
      clear hK K
      try simp only [Act.put, List.setIfInBounds_toArray, List.set_cons_zero, List.set_cons_succ]
      refine wpAnyH_ready (rs := [14]) (by kernel_rfl) (by simp) ?_
      refine AllReadyH.cons (o := { dst := some 144, op := Go.Op.call { callee := Go.Callee.value (Go.Operand.func 17), args := #[Go.Operand.tmp 143], argTypes := #[37] }, type := 3, pos := _, after := #[{ on := 13, ground := Go.Ground.data }, { on := 12, ground := Go.Ground.chain }, { on := 10, ground := Go.Ground.guard }], guard := some (10, false) }) rfl (fun K hK => ?_) AllReadyH.nil
      rw [if_pos (by rfl)]
      go_wp2_with fail
      refine Calls.mono (HNM.out 0 _) ?_
      rintro e Z9 ⟨rfl, hy⟩
      rw [← hy]
      clear hy Z9
      refine hK.out _ _ hHeld (fun _ => ?_)
      clear hK K
      try simp only [Act.put, List.setIfInBounds_toArray, List.set_cons_zero, List.set_cons_succ]
      refine wpAnyH_take (i := 15) (oi := { dst := some 145, op := Go.Op.binOp Go.BinOp.add 3 (Go.Operand.tmp 142) (Go.Operand.tmp 144) 3, type := 3, pos := _, after := #[{ on := 12, ground := Go.Ground.data }, { on := 14, ground := Go.Ground.data }, { on := 10, ground := Go.Ground.guard }], guard := some (10, false) }) (v := .int .i64 0) rfl (by kernel_rfl) (by kernel_rfl) (by kernel_rfl) (fun _ _ _ h => h) (Or.inl ⟨by rfl, fun w' hw' => ?_⟩) hHeld ?_
      · first | (go_simp; done) | (go_simp; rfl)
      try simp only [Act.put, List.setIfInBounds_toArray, List.set_cons_zero, List.set_cons_succ]
      refine wpAnyH_ready (rs := [17]) (by kernel_rfl) (by simp) ?_
      refine AllReadyH.cons (o := { dst := some 147, op := Go.Op.call { callee := Go.Callee.value (Go.Operand.func 17), args := #[Go.Operand.tmp 146], argTypes := #[37] }, type := 3, pos := _, after := #[{ on := 16, ground := Go.Ground.data }, { on := 14, ground := Go.Ground.chain }, { on := 10, ground := Go.Ground.guard }], guard := some (10, false) }) rfl (fun K hK => ?_) AllReadyH.nil
      rw [if_pos (by rfl)]
      go_wp2_with fail
      refine Calls.mono (HNM.out 0 _) ?_
      rintro e Z9 ⟨rfl, hy⟩
      rw [← hy]
      clear hy Z9
      refine hK.out _ _ hHeld (fun _ => ?_)
      clear hK K
      try simp only [Act.put, List.setIfInBounds_toArray, List.set_cons_zero, List.set_cons_succ]
      refine wpAnyH_take (i := 18) (oi := { dst := some 148, op := Go.Op.binOp Go.BinOp.add 3 (Go.Operand.tmp 145) (Go.Operand.tmp 147) 3, type := 3, pos := _, after := #[{ on := 15, ground := Go.Ground.data }, { on := 17, ground := Go.Ground.data }, { on := 10, ground := Go.Ground.guard }], guard := some (10, false) }) (v := .int .i64 0) rfl (by kernel_rfl) (by kernel_rfl) (by kernel_rfl) (fun _ _ _ h => h) (Or.inl ⟨by rfl, fun w' hw' => ?_⟩) hHeld ?_
      · first | (go_simp; done) | (go_simp; rfl)
      try simp only [Act.put, List.setIfInBounds_toArray, List.set_cons_zero, List.set_cons_succ]
      refine wpAnyH_take (i := 19) (oi := { dst := some 149, op := Go.Op.binOp Go.BinOp.neq 3 (Go.Operand.tmp 148) (Go.Operand.const (Go.Value.int Go.IntKind.i64 0)) 3, type := 4, pos := _, after := #[{ on := 18, ground := Go.Ground.data }, { on := 10, ground := Go.Ground.guard }], guard := some (10, false) }) (v := .bool false) rfl (by kernel_rfl) (by kernel_rfl) (by kernel_rfl) (fun _ _ _ h => h) (Or.inl ⟨by rfl, fun w' hw' => ?_⟩) hHeld ?_
      · first | (go_simp; done) | (go_simp; rfl)
      try simp only [Act.put, List.setIfInBounds_toArray, List.set_cons_zero, List.set_cons_succ]
      refine wpAnyH_take (i := 20) (oi := { dst := some 150, op := Go.Op.pick (Go.Operand.tmp 140) (Go.Operand.const (Go.Value.bool true)) (Go.Operand.tmp 149), type := 4, pos := _, after := #[{ on := 10, ground := Go.Ground.data }, { on := 19, ground := Go.Ground.data }], guard := none }) (v := .bool false) rfl (by kernel_rfl) (by kernel_rfl) (by kernel_rfl) (fun _ _ _ h => h) (Or.inl ⟨by rfl, fun w' hw' => ?_⟩) hHeld ?_
      · first | (go_simp; done) | (go_simp; rfl)
      try simp only [Act.put, List.setIfInBounds_toArray, List.set_cons_zero, List.set_cons_succ]
      refine wpAnyH_take (i := 21) (oi := { dst := some 151, op := Go.Op.move (Go.Operand.tmp 150), type := 4, pos := _, after := #[{ on := 20, ground := Go.Ground.data }, { on := 17, ground := Go.Ground.chain }], guard := none }) (v := .bool false) rfl (by kernel_rfl) (by kernel_rfl) (by kernel_rfl) (fun _ _ _ h => h) (Or.inl ⟨by rfl, fun w' hw' => ?_⟩) hHeld ?_
      · first | (go_simp; done) | (go_simp; rfl)
      try simp only [Act.put, List.setIfInBounds_toArray, List.set_cons_zero, List.set_cons_succ]
      refine wpAnyH_take (i := 22) (oi := { dst := some 152, op := Go.Op.load 23 (Go.Operand.tmp 18), type := 23, pos := _, after := #[{ on := 21, ground := Go.Ground.guard }], guard := some (21, false) }) rfl (by kernel_rfl) (by kernel_rfl) (by kernel_rfl) (fun _ _ _ h => h) (yieldsIf_load_mid (by rfl) 23 (.tmp 18) rfl (b18) (0) rfl (GL) _ (fun _ h => (by obtain ⟨_, _, q⟩ := h; exact MC.rangeAt_row (q.at 2 rfl))) Tryz.underlying23 rfl (infoD GL HGLN.out)) hHeld ?_
      try simp only [Act.put, List.setIfInBounds_toArray, List.set_cons_zero, List.set_cons_succ]
      refine wpAnyH_take (i := 23) (oi := { dst := some 153, op := Go.Op.move (Go.Operand.tmp 11), type := 33, pos := _, after := #[{ on := 21, ground := Go.Ground.guard }], guard := some (21, false) }) (v := .pointer (some ⟨rg, 0, none⟩)) rfl (by kernel_rfl) (by kernel_rfl) (by kernel_rfl) (fun _ _ _ h => h) (Or.inl ⟨by rfl, fun w' hw' => ?_⟩) hHeld ?_
      · first | (go_simp; done) | (go_simp; rfl)
      try simp only [Act.put, List.setIfInBounds_toArray, List.set_cons_zero, List.set_cons_succ]
      refine wpAnyH_take (i := 24) (oi := { dst := some 154, op := Go.Op.move (Go.Operand.tmp 12), type := 34, pos := _, after := #[{ on := 21, ground := Go.Ground.guard }], guard := some (21, false) }) (v := .pointer (some ⟨rm, 0, none⟩)) rfl (by kernel_rfl) (by kernel_rfl) (by kernel_rfl) (fun _ _ _ h => h) (Or.inl ⟨by rfl, fun w' hw' => ?_⟩) hHeld ?_
      · first | (go_simp; done) | (go_simp; rfl)
      try simp only [Act.put, List.setIfInBounds_toArray, List.set_cons_zero, List.set_cons_succ]
      refine wpAnyH_take (i := 25) (oi := { dst := some 155, op := Go.Op.fieldAddr 28 (Go.Operand.tmp 4) 5, type := 0, pos := _, after := #[{ on := 21, ground := Go.Ground.guard }], guard := some (21, false) }) (v := .pointer (some ⟨w.heap.size, 36, none⟩)) rfl (by kernel_rfl) (by kernel_rfl) (by kernel_rfl) (fun _ _ _ h => h) (Or.inl ⟨by rfl, fun w' hw' => ?_⟩) hHeld ?_
      · first | (go_simp; done) | (go_simp; rfl)
      try simp only [Act.put, List.setIfInBounds_toArray, List.set_cons_zero, List.set_cons_succ]
      refine wpAnyH_take (i := 26) (oi := { dst := some 156, op := Go.Op.load 26 (Go.Operand.tmp 155), type := 26, pos := _, after := #[{ on := 25, ground := Go.Ground.data }, { on := 21, ground := Go.Ground.guard }], guard := some (21, false) }) (v := .int .u64 ca) rfl (by kernel_rfl) (by kernel_rfl) (by kernel_rfl) (fun _ _ _ h => h) (Or.inl ⟨by rfl, fun w' hw' => ?_⟩) hHeld ?_
      · have hcc := (by obtain ⟨_, _, q⟩ := hw'; exact (HC36.out w' (q.at 6 rfl)).1 : w'.cell? ⟨w.heap.size, 36, none⟩ = some (.int .u64 ca)); first | (go_simp; done) | (go_simp; rfl)
      try simp only [Act.put, List.setIfInBounds_toArray, List.set_cons_zero, List.set_cons_succ]
      refine wpAnyH_take (i := 27) (oi := { dst := some 157, op := Go.Op.move (Go.Operand.tmp 1), type := 3, pos := _, after := #[{ on := 21, ground := Go.Ground.guard }], guard := some (21, false) }) (v := .int .i64 (p : Int)) rfl (by kernel_rfl) (by kernel_rfl) (by kernel_rfl) (fun _ _ _ h => h) (Or.inl ⟨by rfl, fun w' hw' => ?_⟩) hHeld ?_
      · first | (go_simp; done) | (go_simp; rfl)
      try simp only [Act.put, List.setIfInBounds_toArray, List.set_cons_zero, List.set_cons_succ]
      refine wpAnyH_take (i := 28) (oi := { dst := some 158, op := Go.Op.load 23 (Go.Operand.tmp 6), type := 23, pos := _, after := #[{ on := 21, ground := Go.Ground.guard }], guard := some (21, false) }) rfl (by kernel_rfl) (by kernel_rfl) (by kernel_rfl) (fun _ _ _ h => h) (yieldsIf_load_mid (by rfl) 23 (.tmp 6) rfl (w.heap.size + 1) (0) rfl (FL) _ (fun _ h => (by obtain ⟨_, _, q⟩ := h; exact MC.rangeAt_row (q.at 5 rfl))) Tryz.underlying23 rfl (infoD FL HFLN.out)) hHeld ?_
      try simp only [Act.put, List.setIfInBounds_toArray, List.set_cons_zero, List.set_cons_succ]
      refine wpAnyH_ready (rs := [29]) (by kernel_rfl) (by simp) ?_
      refine AllReadyH.cons (o := { dst := some 159, op := Go.Op.call { callee := Go.Callee.value (Go.Operand.func 33), args := #[Go.Operand.tmp 153, Go.Operand.tmp 154, Go.Operand.tmp 156, Go.Operand.tmp 157, Go.Operand.tmp 158], argTypes := #[33, 34, 26, 3, 23] }, type := 23, pos := _, after := #[{ on := 23, ground := Go.Ground.data }, { on := 24, ground := Go.Ground.data }, { on := 26, ground := Go.Ground.data }, { on := 27, ground := Go.Ground.data }, { on := 28, ground := Go.Ground.data }, { on := 21, ground := Go.Ground.chain }, { on := 21, ground := Go.Ground.guard }], guard := some (21, false) }) rfl (fun K hK => ?_) AllReadyH.nil
      rw [if_pos (by rfl)]
      go_wp2_with fail
      refine Calls.mono (HRS.out _ _ _ HTD.out) ?_
      rintro e V1 ⟨rfl, hT11⟩
      have HT11 : Hid _ := hT11
      clear hHeld HTD HRS
      have hHeld : ∃ R' l2', TM w og mb rg i m D L1 R' mm gb rm bq n M1 l2' ((b21, 23, GL) :: (g, 23, M) :: (b18, 23, GL) :: (b14, 23, GL) :: RW3 w RT FL CL) V1 := ⟨_, _, hT11⟩
      clear hT11
      refine hK.out _ _ hHeld (fun _ => ?_)
      clear hK K
      try simp only [Act.put, List.setIfInBounds_toArray, List.set_cons_zero, List.set_cons_succ]
      refine wpAnyH_take (i := 30) (oi := { dst := some 160, op := Go.Op.binOp Go.BinOp.neq 23 (Go.Operand.tmp 152) (Go.Operand.tmp 159) 23, type := 4, pos := _, after := #[{ on := 22, ground := Go.Ground.data }, { on := 29, ground := Go.Ground.data }, { on := 21, ground := Go.Ground.guard }], guard := some (21, false) }) (v := .bool false) rfl (by kernel_rfl) (by kernel_rfl) (by kernel_rfl) (fun _ _ _ h => h) (Or.inl ⟨by rfl, fun w' hw' => ?_⟩) hHeld ?_
      · exact run_neq rfl rfl rfl gD (HQ1.out w')
      try simp only [Act.put, List.setIfInBounds_toArray, List.set_cons_zero, List.set_cons_succ]
      refine wpAnyH_take (i := 31) (oi := { dst := some 161, op := Go.Op.pick (Go.Operand.tmp 151) (Go.Operand.const (Go.Value.bool true)) (Go.Operand.tmp 160), type := 4, pos := _, after := #[{ on := 21, ground := Go.Ground.data }, { on := 30, ground := Go.Ground.data }], guard := none }) (v := .bool false) rfl (by kernel_rfl) (by kernel_rfl) (by kernel_rfl) (fun _ _ _ h => h) (Or.inl ⟨by rfl, fun w' hw' => ?_⟩) hHeld ?_
      · first | (go_simp; done) | (go_simp; rfl)
      try simp only [Act.put, List.setIfInBounds_toArray, List.set_cons_zero, List.set_cons_succ]
      refine wpAnyH_done (by kernel_rfl) ?_ _
      clear hHeld HQ1 HQ2 HC36 HNM
      go_upto_region 17 with fail
      have hT12 := HT11.out.step (Below.refl _ _).drew
      clear HT11
      obtain ⟨lv, hlc, hlr⟩ := HRG.out _ _ _ V1.drew hT12
      obtain ⟨pl, cl, hle, _⟩ := id hlr
      subst hle
      have HLC : Hid _ := hlc
      have HLR : Hid _ := hlr
      have HTV : Hid _ := hT12
      clear hlc hlr hT12 HRG
      refine wp_region_held_drew (S := fun W => Below V1.drew.heap.size V1.drew W) (by kernel_rfl) (Below.refl _ _) (fun hHeld => ?_)
      generalize V1.drew = V2 at *
      refine wpAnyH_take (i := 0) (oi := { dst := some 162, op := Go.Op.move (Go.Operand.tmp 10), type := 32, pos := _, after := #[], guard := none }) (v := .pointer (some ⟨mm, 0, none⟩)) rfl (by kernel_rfl) (by kernel_rfl) (by kernel_rfl) (fun _ _ _ h => h) (Or.inl ⟨by rfl, fun w' hw' => ?_⟩) hHeld ?_
      · first | (go_simp; done) | (go_simp; rfl)
      try simp only [Act.put, List.setIfInBounds_toArray, List.set_cons_zero, List.set_cons_succ]
      refine wpAnyH_take (i := 1) (oi := { dst := some 163, op := Go.Op.move (Go.Operand.tmp 12), type := 34, pos := _, after := #[], guard := none }) (v := .pointer (some ⟨rm, 0, none⟩)) rfl (by kernel_rfl) (by kernel_rfl) (by kernel_rfl) (fun _ _ _ h => h) (Or.inl ⟨by rfl, fun w' hw' => ?_⟩) hHeld ?_
      · first | (go_simp; done) | (go_simp; rfl)
      try simp only [Act.put, List.setIfInBounds_toArray, List.set_cons_zero, List.set_cons_succ]
      refine wpAnyH_ready (rs := [2]) (by kernel_rfl) (by simp) ?_
      refine AllReadyH.cons (o := { dst := some 164, op := Go.Op.call { callee := Go.Callee.value (Go.Operand.func 24), args := #[Go.Operand.tmp 162, Go.Operand.tmp 163], argTypes := #[32, 34] }, type := 4, pos := _, after := #[{ on := 0, ground := Go.Ground.data }, { on := 1, ground := Go.Ground.data }], guard := none }) rfl (fun K hK => ?_) AllReadyH.nil
      rw [if_pos (by rfl)]
      go_wp2_with fail
      refine Calls.mono (HSM.out _ _ _ _ _ HTV.out) ?_
      rintro e V3 ⟨rfl, hb3⟩
      clear hHeld
      have hHeld := hb3
      refine hK.out _ _ hHeld (fun _ => ?_)
      clear hK K
      try simp only [Act.put, List.setIfInBounds_toArray, List.set_cons_zero, List.set_cons_succ]
      refine wpAnyH_take (i := 3) (oi := { dst := some 165, op := Go.Op.move (Go.Operand.tmp 164), type := 4, pos := _, after := #[{ on := 2, ground := Go.Ground.data }, { on := 2, ground := Go.Ground.chain }], guard := none }) (v := .bool true) rfl (by kernel_rfl) (by kernel_rfl) (by kernel_rfl) (fun _ _ _ h => h) (Or.inl ⟨by rfl, fun w' hw' => ?_⟩) hHeld ?_
      · first | (go_simp; done) | (go_simp; rfl)
      try simp only [Act.put, List.setIfInBounds_toArray, List.set_cons_zero, List.set_cons_succ]
      refine wpAnyH_take (i := 4) (oi := { dst := some 166, op := Go.Op.move (Go.Operand.tmp 9), type := 31, pos := _, after := #[{ on := 3, ground := Go.Ground.guard }], guard := some (3, true) }) (v := .pointer (some ⟨og, 0, none⟩)) rfl (by kernel_rfl) (by kernel_rfl) (by kernel_rfl) (fun _ _ _ h => h) (Or.inl ⟨by rfl, fun w' hw' => ?_⟩) hHeld ?_
      · first | (go_simp; done) | (go_simp; rfl)
      try simp only [Act.put, List.setIfInBounds_toArray, List.set_cons_zero, List.set_cons_succ]
      refine wpAnyH_take (i := 6) (oi := { dst := some 168, op := Go.Op.move (Go.Operand.tmp 11), type := 33, pos := _, after := #[{ on := 3, ground := Go.Ground.guard }], guard := some (3, true) }) (v := .pointer (some ⟨rg, 0, none⟩)) rfl (by kernel_rfl) (by kernel_rfl) (by kernel_rfl) (fun _ _ _ h => h) (Or.inl ⟨by rfl, fun w' hw' => ?_⟩) hHeld ?_
      · first | (go_simp; done) | (go_simp; rfl)
      try simp only [Act.put, List.setIfInBounds_toArray, List.set_cons_zero, List.set_cons_succ]
      refine wpAnyH_take (i := 7) (oi := { dst := some 169, op := Go.Op.nilCheck (Go.Operand.tmp 168), type := 0, pos := _, after := #[{ on := 6, ground := Go.Ground.data }, { on := 3, ground := Go.Ground.guard }], guard := some (3, true) }) (v := .pointer (some ⟨rg, 0, none⟩)) rfl (by kernel_rfl) (by kernel_rfl) (by kernel_rfl) (fun _ _ _ h => h) (Or.inl ⟨by rfl, fun w' hw' => ?_⟩) hHeld ?_
      · first | (go_simp; done) | (go_simp; rfl)
      try simp only [Act.put, List.setIfInBounds_toArray, List.set_cons_zero, List.set_cons_succ]
      refine wpAnyH_take (i := 8) (oi := { dst := some 170, op := Go.Op.fieldAddr 61 (Go.Operand.tmp 169) 4, type := 0, pos := _, after := #[{ on := 7, ground := Go.Ground.data }, { on := 3, ground := Go.Ground.guard }], guard := some (3, true) }) (v := .pointer (some ⟨rg, 35, none⟩)) rfl (by kernel_rfl) (by kernel_rfl) (by kernel_rfl) (fun _ _ _ h => h) (Or.inl ⟨by rfl, fun w' hw' => ?_⟩) hHeld ?_
      · first | (go_simp; done) | (go_simp; rfl)
      try simp only [Act.put, List.setIfInBounds_toArray, List.set_cons_zero, List.set_cons_succ]
      refine wpAnyH_take (i := 9) (oi := { dst := some 171, op := Go.Op.load 58 (Go.Operand.tmp 170), type := 58, pos := _, after := #[{ on := 8, ground := Go.Ground.data }, { on := 3, ground := Go.Ground.guard }], guard := some (3, true) }) (v := .slice pl L1.length cl) rfl (by kernel_rfl) (by kernel_rfl) (by kernel_rfl) (fun _ _ _ h => h) (Or.inl ⟨by rfl, fun w' hw' => ?_⟩) hHeld ?_
      · have hcc := (hw'.cell (block_lt HLC.out)).trans HLC.out; first | (go_simp; done) | (go_simp; rfl)
      try simp only [Act.put, List.setIfInBounds_toArray, List.set_cons_zero, List.set_cons_succ]
      refine wpAnyH_ready (rs := [5]) (by kernel_rfl) (by simp) ?_
      refine AllReadyH.cons (o := { dst := some 167, op := Go.Op.call { callee := Go.Callee.value (Go.Operand.func 27), args := #[Go.Operand.tmp 166], argTypes := #[31] }, type := 58, pos := _, after := #[{ on := 4, ground := Go.Ground.data }, { on := 3, ground := Go.Ground.chain }, { on := 3, ground := Go.Ground.guard }], guard := some (3, true) }) rfl (fun K hK => ?_) AllReadyH.nil
      rw [if_pos (by rfl)]
      go_wp2_with fail
      refine Calls.mono (HLG.out _ _ _ _ (HTV.out.step hb3)) ?_
      rintro e V4 ⟨lg, rfl, hlg, hb4⟩
      clear hHeld
      have hHeld := hb3.trans (hb4.mono hb3.size)
      have hs := HSL.out lg _ V4 hlg (R5.hlr_below HLR.out hHeld)
      refine hK.out _ _ hHeld (fun _ => ?_)
      clear hK K
      try simp only [Act.put, List.setIfInBounds_toArray, List.set_cons_zero, List.set_cons_succ]
      refine wpAnyH_ready (rs := [10]) (by kernel_rfl) (by simp) ?_
      refine AllReadyH.cons (o := { dst := some 172, op := Go.Op.call { callee := Go.Callee.value (Go.Operand.func 26), args := #[Go.Operand.tmp 167, Go.Operand.tmp 171], argTypes := #[58, 58] }, type := 4, pos := _, after := #[{ on := 5, ground := Go.Ground.data }, { on := 9, ground := Go.Ground.data }, { on := 5, ground := Go.Ground.chain }, { on := 3, ground := Go.Ground.guard }], guard := some (3, true) }) rfl (fun K hK => ?_) AllReadyH.nil
      rw [if_pos (by rfl)]
      go_wp2_with fail
      refine Calls.mono hs ?_
      rintro e V5 ⟨rfl, hb5⟩
      have h5 := hHeld.trans (hb5.mono hHeld.size)
      clear hHeld
      have hHeld := h5
      refine hK.out _ _ hHeld (fun _ => ?_)
      clear hK K
      try simp only [Act.put, List.setIfInBounds_toArray, List.set_cons_zero, List.set_cons_succ]
      refine wpAnyH_take (i := 11) (oi := { dst := some 173, op := Go.Op.pick (Go.Operand.tmp 165) (Go.Operand.tmp 172) (Go.Operand.const (Go.Value.bool false)), type := 4, pos := _, after := #[{ on := 3, ground := Go.Ground.data }, { on := 10, ground := Go.Ground.data }], guard := none }) (v := .bool true) rfl (by kernel_rfl) (by kernel_rfl) (by kernel_rfl) (fun _ _ _ h => h) (Or.inl ⟨by rfl, fun w' hw' => ?_⟩) hHeld ?_
      · first | (go_simp; done) | (go_simp; rfl)
      try simp only [Act.put, List.setIfInBounds_toArray, List.set_cons_zero, List.set_cons_succ]
      refine wpAnyH_take (i := 12) (oi := { dst := some 174, op := Go.Op.move (Go.Operand.tmp 173), type := 4, pos := _, after := #[{ on := 11, ground := Go.Ground.data }, { on := 10, ground := Go.Ground.chain }], guard := none }) (v := .bool true) rfl (by kernel_rfl) (by kernel_rfl) (by kernel_rfl) (fun _ _ _ h => h) (Or.inl ⟨by rfl, fun w' hw' => ?_⟩) hHeld ?_
      · first | (go_simp; done) | (go_simp; rfl)
      try simp only [Act.put, List.setIfInBounds_toArray, List.set_cons_zero, List.set_cons_succ]
      refine wpAnyH_ready (rs := [13]) (by kernel_rfl) (by simp) ?_
      refine AllReadyH.cons (o := { dst := some 175, op := Go.Op.call { callee := Go.Callee.value (Go.Operand.func 7), args := #[], argTypes := #[] }, type := 4, pos := _, after := #[{ on := 12, ground := Go.Ground.chain }, { on := 12, ground := Go.Ground.guard }], guard := some (12, true) }) rfl (fun K hK => ?_) AllReadyH.nil
      rw [if_pos (by rfl)]
      go_wp2_with fail
      refine Calls.mono (HK.out _) ?_
      rintro e V6 ⟨rfl, hb6⟩
      have h6 := hHeld.trans (hb6.mono hHeld.size)
      clear hHeld
      have hHeld := h6
      refine hK.out _ _ hHeld (fun _ => ?_)
      clear hK K
      try simp only [Act.put, List.setIfInBounds_toArray, List.set_cons_zero, List.set_cons_succ]
      refine wpAnyH_take (i := 14) (oi := { dst := some 176, op := Go.Op.pick (Go.Operand.tmp 174) (Go.Operand.tmp 175) (Go.Operand.const (Go.Value.bool false)), type := 4, pos := _, after := #[{ on := 12, ground := Go.Ground.data }, { on := 13, ground := Go.Ground.data }], guard := none }) (v := .bool true) rfl (by kernel_rfl) (by kernel_rfl) (by kernel_rfl) (fun _ _ _ h => h) (Or.inl ⟨by rfl, fun w' hw' => ?_⟩) hHeld ?_
      · first | (go_simp; done) | (go_simp; rfl)
      try simp only [Act.put, List.setIfInBounds_toArray, List.set_cons_zero, List.set_cons_succ]
      refine wpAnyH_ready (rs := [15]) (by kernel_rfl) (by simp) ?_
      refine AllReadyH.cons (o := { dst := some 8, op := Go.Op.assign (Go.Operand.tmp 176), type := 4, pos := _, after := #[{ on := 14, ground := Go.Ground.data }, { on := 13, ground := Go.Ground.chain }, { on := 0, ground := Go.Ground.phase }, { on := 1, ground := Go.Ground.phase }, { on := 2, ground := Go.Ground.phase }, { on := 3, ground := Go.Ground.phase }, { on := 4, ground := Go.Ground.phase }, { on := 5, ground := Go.Ground.phase }, { on := 6, ground := Go.Ground.phase }, { on := 7, ground := Go.Ground.phase }, { on := 8, ground := Go.Ground.phase }, { on := 9, ground := Go.Ground.phase }, { on := 10, ground := Go.Ground.phase }, { on := 11, ground := Go.Ground.phase }, { on := 12, ground := Go.Ground.phase }, { on := 13, ground := Go.Ground.phase }, { on := 14, ground := Go.Ground.phase }], guard := none }) rfl (fun K hK => ?_) AllReadyH.nil
      rw [if_pos (by rfl)]
      go_wp2_with fail
      refine hK.out _ _ hHeld (fun _ => ?_)
      clear hK K
      try simp only [Act.put, List.setIfInBounds_toArray, List.set_cons_zero, List.set_cons_succ]
      refine wpAnyH_done (by kernel_rfl) ?_ _
      have HE : Hid (Below w.heap.size w V6) := HTV.out.tb.bel.trans (h6.mono HTV.out.tb.bel.size)
      clear hHeld hs hlg hb3 hb4 hb5 hb6 h5 h6
      go_wp2
      go_ret
      exact ⟨rfl, HE.out⟩
end Go.Proofs.YtnijjoankahddaaGreat.DC
