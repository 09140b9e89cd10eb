/- tree: TreeLays' walk. -/
import Derived.Test.YtnijjoankahddaaGreatWi
import Derived.Test.YtnijjoankahddaaGreatWu
set_option linter.unusedVariables false
set_option linter.unusedSimpArgs false
namespace Go.Proofs.YtnijjoankahddaaGreat.DC
open Go.RowKit

theorem infoCb (L : List Value) (h : L.length = 37) : (Tryz.prog.info? 28).map (·.size) = some L.length := by rw [h]; kernel_rfl
abbrev RW1 (w : World) (CL : List Value) : Rws := [(w.heap.size, 28, CL)]
set_option maxHeartbeats 4000000 in
set_option maxRecDepth 100000 in
theorem lays_walk (w : World) (c : Ca) (dv fv : Value) (ii : Int) (hc : c.ok dv fv w) :
    Calls Tryz.prog 4 #[.agg (caL c dv fv).toArray, .int .i64 ii] w fun e w' => e = .returned (.bool true) ∧ Below w.heap.size w w' := by
  have HK : Hid (∀ W, Calls Tryz.prog 7 #[] W fun e w' => e = .returned (.bool true) ∧ Below W.heap.size W w') := known_any
  have HNM : Hid (∀ n W, Calls Tryz.prog 17 #[.int .i64 n] W fun x w' => x = .returned (.int .i64 n) ∧ W = w') := num_any
  have hz := fun W => R5.zero_dig W
  obtain ⟨ZL, hZL⟩ : ∃ L, L = (List.replicate 32 (0 : UInt8)).map B8 := ⟨_, rfl⟩
  rw [← hZL] at hz
  have HZL : Hid (ZL.length = 32) := by show _ = _; rw [hZL]; simp
  have HZ1 : Hid (ZL.toArray.all (·.oneCell') = true) := by show _ = _; rw [hZL]; exact R5.B8_onea _
  have HBD : Hid (∀ W : World, (Instr.build 23 #[]).run Tryz.prog W = .ok (.agg ZL.toArray) W) := fun W => by rw [hZL]; exact R5.build_dig W
  have HEV : Hid (∀ e, R5.errV e = .tuple #[.agg ZL.toArray, .int .i64 e]) := fun e => by rw [hZL]; rfl
  have HEZ : Hid (∀ W, (Op.equalIn 10000 23 (.agg ZL.toArray) (.agg ZL.toArray)).run Tryz.prog W = .ok true W) := fun W => by rw [hZL]; exact eq_dig W _ _ (by simp) (by simp) true (by simp)
  obtain ⟨hdl, pd, capd, hde, _⟩ := id hc.d
  obtain ⟨hfl, pf, capf, hfe, _⟩ := id hc.f
  have HSB : Hid (∀ W, Calls Tryz.prog 6 #[.agg (caL c dv fv).toArray] W fun e Y => e = .returned (.bool (smB c)) ∧ Below W.heap.size W Y) := fun W => by rw [hde, hfe]; exact small_any W c pd pf capd capf hc.m
  have HTWO : Hid (smB c = true → ∀ W rows, RS w rows W → Calls Tryz.prog 8 #[.agg (caL c dv fv).toArray] W fun e Y => TwEnd w c c.n.toNat ((W.heap.size, 28, caL c dv fv) :: rows) e Y) := fun h W rows hR => by
    have hs := of_decide_eq_true h
    exact two_any w W c dv fv c.n.toNat rows hc hR (by omega) (by omega) (by omega) (by omega) (by omega)
  have HNN : Hid (smB c = true → ∃ n : Nat, c.n.toNat = n ∧ c.n = (n : Int) ∧ n ≤ 80 ∧ 1 ≤ n) := fun h => by have hs := of_decide_eq_true h; exact ⟨c.n.toNat, rfl, by omega, by omega, by omega⟩
  have HCLN : Hid _ := caL_len c dv fv hc.m
  have HDD : Hid (∀ d ∈ c.D, d.length = 32) := hdl
  have HCA : Hid (c.a < 18446744073709551616) := hc.a
  have HCR : Hid (∀ W : World, W.heap[w.heap.size]? = some (.cells (caL c dv fv).toArray 28 (0, 0)) → CaC w.heap.size c dv fv W) := fun W hW => CaC.of hc.m hW
  have HR0 : Hid _ := (RS.start w).alloc _ rfl 28 (caL c dv fv)
  obtain ⟨CL, hCL⟩ : ∃ L, caL c dv fv = L := ⟨_, rfl⟩
  rw [hCL] at HSB HTWO HCLN HCR
  rw [hCL] at HR0 ⊢
  obtain ⟨sb, hsb⟩ : ∃ b, smB c = b := ⟨_, rfl⟩
  rw [hsb] at HSB HTWO HNN
  clear hZL hdl hde hfl hfe hc hCL hsb
  go_enter Tryz.func4, Tryz.ntmps4
  go_wp2_with (refine wpList_load_mid rfl 28 (.tmp 2) rfl w.heap.size 0 rfl CL _ (MC.rangeAt_row (HR0.out.at 0 rfl)) Tryz.underlying28 rfl (infoCb CL HCLN.out) ?_)
  refine Calls.mono (HSB.out _) ?_
  rintro e X1 ⟨rfl, hb1⟩
  have HR1 : Hid _ := HR0.out.step hb1
  clear hb1 HR0 HSB
  cases sb with
  | false =>
    clear HTWO HNN
    go_wp2_with fail
    refine Calls.mono (HK.out X1) ?_
    rintro e X2 ⟨rfl, hb2⟩
    have HE : Hid (Below w.heap.size w X2) := HR1.out.bel.trans (hb2.mono HR1.out.bel.size)
    clear hb2 HR1
    go_wp2
    go_ret
    exact ⟨rfl, HE.out⟩
  | true =>
    have HTW : Hid _ := HTWO.out rfl X1 _ HR1.out
    obtain ⟨n, hn1, hn2, hn80, hn1b⟩ := HNN.out rfl
    rw [hn1] at HTW
    clear HTWO HNN hn1
    go_wp2_with (refine wpList_load_mid rfl 28 (.tmp 2) rfl w.heap.size 0 rfl CL _ (MC.rangeAt_row (HR1.out.at 0 rfl)) Tryz.underlying28 rfl (infoCb CL HCLN.out) ?_)
    refine Calls.mono HTW.out ?_
    rintro e X2 ⟨og, mb, rg, mm, gb, rm, bq, rfl, hTM⟩
    have hT0 := hTM.drop
    clear hTM HTW HR1
    generalize filled n c.F (min c.F.length n) = l at *
    have HN2 : Hid (c.n = (n : Int)) := hn2
    have HN8 : Hid (n ≤ 80) := hn80
    have HRW : Hid (∀ W, Calls Tryz.prog 22 #[.int .i64 (n : Int), .int .u64 (c.a : Int)] W fun e w' => e = .returned (.bool (witB n c.a)) ∧ w' = W) := fun W => rwit_any n c.a W (by omega) HCA.out
    have HSM : Hid (∀ L R l2 rws W, TM w og mb rg c.i c.m c.D L R mm gb rm bq n l2 l2 rws W → Calls Tryz.prog 24 #[.pointer (some ⟨mm, 0, none⟩), .pointer (some ⟨rm, 0, none⟩)] W fun e Y => e = .returned (.bool true) ∧ Below W.heap.size W Y) := fun L R l2 rws W hW => hW.same
    have HWI : Hid (∀ L R l1 l2 rws W, TM w og mb rg c.i c.m c.D L R mm gb rm bq n l1 l2 rws W → Calls Tryz.prog 23 #[.pointer (some ⟨mm, 0, none⟩), .int .u64 (c.a : Int)] W fun e w' => e = .returned (.bool (witB n c.a)) ∧ w' = W) := fun L R l1 l2 rws W hW => hW.pwit c.a HCA.out
    have HC36 : Hid (∀ W : World, W.heap[w.heap.size]? = some (.cells CL.toArray 28 (0, 0)) → W.cell? ⟨w.heap.size, 36, none⟩ = some (.int .u64 (c.a : Int)) ∧ W.cell? ⟨w.heap.size, 34, none⟩ = some (.int .i64 (n : Int))) := fun W hW => ⟨(HCR.out W hW).c36, by rw [← HN2.out]; exact (HCR.out W hW).c34⟩
    clear hn2 hn80 HCR HN2
    obtain ⟨ok, hok⟩ : ∃ b, witB n c.a = b := ⟨_, rfl⟩
    cases ok with
    | false =>
      have HLY : Hid (∀ rws W, TM w og mb rg c.i c.m c.D [] [] mm gb rm bq n l l rws W → Calls Tryz.prog 20 #[.pointer (some ⟨og, 0, none⟩), .pointer (some ⟨mm, 0, none⟩), .int .u64 (c.a : Int)] W fun e Y => e = .returned (.tuple #[.agg ZL.toArray, .int .i64 2]) ∧ TM w og mb rg c.i c.m c.D [] [] mm gb rm bq n l l rws Y) := fun rws W hW => by rw [← HEV.out]; exact hW.play_no c.a HCA.out hok
      have HAT : Hid (∀ rws W, TM w og mb rg c.i c.m c.D [] [] mm gb rm bq n l l rws W → Calls Tryz.prog 21 #[.pointer (some ⟨mm, 0, none⟩), .int .u64 (c.a : Int), .int .i64 ii] W fun e Y => e = .returned (.tuple #[.agg ZL.toArray, .int .i64 2]) ∧ TM w og mb rg c.i c.m c.D [] [] mm gb rm bq n l l rws Y) := fun rws W hW => by rw [← HEV.out]; exact hW.pat_no c.a HCA.out ii (.inr (.inr hok))
      rw [hok] at HRW HWI
      have HT0 : Hid (TM w og mb rg c.i c.m c.D [] [] mm gb rm bq n l l (RW1 w CL) X2) := hT0
      have c1 := (HC36.out X2 (hT0.at 0 rfl)).1
      clear hT0 hok hn1b
      generalize (c.a : Int) = ca at *
      generalize c.i = i at *
      generalize c.m = m at *
      generalize c.D = D at *
      go_wp2_with fail
      refine Calls.mono (HLY.out _ _ HT0.out) ?_
      rintro e X3 ⟨rfl, hT3⟩
      clear HT0 c1 HLY
      have HTA : Hid _ := (hT3).alloc (X3).heap.size rfl 23 ZL
      go_upto_region 7 with (refine wpList_store_dL rfl (.tmp 10) (.tmp 34) rfl (X3).heap.size ZL ZL rfl rfl (HTA.out.at 0 rfl) HZL.out HZL.out HZ1.out ?_; intro XA ea; have HT4 : Hid _ := HTA.out.put' 0 rfl ZL; rw [← ea] at HT4; clear ea)
      clear HTA
      clear hT3
      generalize X3.heap.size = b10 at *
      have c1 := (HC36.out XA (HT4.out.at 1 rfl)).1
      go_wp2_with fail
      refine Calls.mono (HAT.out _ _ HT4.out) ?_
      rintro e X5 ⟨rfl, hT5⟩
      clear HT4 c1 HAT
      have HTA : Hid _ := (hT5).alloc (X5).heap.size rfl 23 ZL
      go_upto_region 8 with (refine wpList_store_dL rfl (.tmp 12) (.tmp 42) rfl (X5).heap.size ZL ZL rfl rfl (HTA.out.at 0 rfl) HZL.out HZL.out HZ1.out ?_; intro XA ea; have HT6 : Hid _ := HTA.out.put' 0 rfl ZL; rw [← ea] at HT6; clear ea)
      clear HTA
      clear hT5
      generalize X5.heap.size = b12 at *
      obtain ⟨c1, c2⟩ := HC36.out XA (HT6.out.at 2 rfl)
      go_wp2_with fail
      refine Calls.mono (HRW.out XA) ?_
      rintro e Y0 ⟨rfl, hy⟩
      rw [hy]
      clear hy Y0 HRW
      go_wp2_with fail
      refine Calls.mono (HWI.out _ _ _ _ _ XA HT6.out) ?_
      rintro e Y0 ⟨rfl, hy⟩
      rw [hy]
      clear hy Y0 HWI c1 c2 HC36
      have heq := HEZ.out
      go_wp2_with (first
        | (refine R5.load_mid_g (by rfl) 23 (.tmp 10) rfl b10 0 rfl ZL _ (MC.rangeAt_row (HT6.out.at 1 rfl)) Tryz.underlying23 rfl (infoD ZL HZL.out) ?_)
        | (refine R5.load_mid_g (by rfl) 23 (.tmp 12) rfl b12 0 rfl ZL _ (MC.rangeAt_row (HT6.out.at 0 rfl)) Tryz.underlying23 rfl (infoD ZL HZL.out) ?_))
      clear heq
      refine Calls.mono (HNM.out 2 _) ?_
      rintro e Y0 ⟨rfl, hy⟩
      rw [← hy]
      clear hy Y0
      go_wp2_with fail
      refine Calls.mono (HNM.out 2 _) ?_
      rintro e Y0 ⟨rfl, hy⟩
      rw [← hy]
      clear hy Y0
      go_wp2_with fail
      refine Calls.mono (HSM.out _ _ _ _ XA HT6.out) ?_
      rintro e X9 ⟨rfl, hb9⟩
      have HT9 : Hid _ := HT6.out.step hb9
      clear hb9 HT6 HSM
      go_wp2_with fail
      refine Calls.mono (HK.out _) ?_
      rintro e X10 ⟨rfl, hb10⟩
      have HE : Hid (Below w.heap.size w X10) := HT9.out.tb.bel.trans (hb10.mono HT9.out.tb.bel.size)
      clear hb10 HT9
      go_wp2
      go_ret
      exact ⟨rfl, HE.out⟩
    | true =>
      have hgl : gL c.D [] := gL.nil HDD.out
      have hwd := of_decide_eq_true hok
      have hl2 : c.a + 8192 ≤ l.length := by rw [hT0.len1]; omega
      have hroot32 : (rootA c.i c.D l c.a []).length = 32 := by unfold rootA; exact (nodeM_good hgl 126).len _
      obtain ⟨L1, hL1⟩ : ∃ x, (nodeM c.i c.D l c.a [] 127).2 = x := ⟨_, rfl⟩
      obtain ⟨M1, hM1⟩ : ∃ x, (nodeM c.i c.D l c.a [] 126).1 = x := ⟨_, rfl⟩
      obtain ⟨RA, hRA⟩ : ∃ x, rootA c.i c.D l c.a [] = x := ⟨_, rfl⟩
      have hll1 : L1.length ≤ 300 := by rw [← hL1]; have := nodeM_log (i := c.i) (D := c.D) (l := l) (a := c.a) (L := []) 127; simp at this; omega
      have hM1l : M1.length = l.length := by rw [← hM1]; exact nodeM_len hgl hl2 126 (by omega)
      have HLY : Hid (∀ rws W, TM w og mb rg c.i c.m c.D [] [] mm gb rm bq n l l rws W → Calls Tryz.prog 20 #[.pointer (some ⟨og, 0, none⟩), .pointer (some ⟨mm, 0, none⟩), .int .u64 (c.a : Int)] W fun e Y => e = .returned (.tuple #[.agg (RA.map B8).toArray, .int .i64 0]) ∧ TM w og mb rg c.i c.m c.D L1 [] mm gb rm bq n M1 l rws Y) := fun rws W hW => (hW.play c.a hgl hok (by decide)).mono fun e Y ⟨z, hz, h1, h2⟩ => by
        obtain ⟨r1, r2⟩ := root_same (i := c.i) (L := []) (l := l) (a := c.a) (z := z) hgl hl2 hz
        rw [r1, hRA] at h1
        rw [r2, hL1, lays_same hgl hl2 hz, hM1] at h2
        exact ⟨h1, h2⟩
      have HRL : Hid (∀ rws l1 W, TM w og mb rg c.i c.m c.D L1 [] mm gb rm bq n l1 l rws W → Calls Tryz.prog 25 #[.pointer (some ⟨rg, 0, none⟩), .pointer (some ⟨rm, 0, none⟩), .int .u64 (c.a : Int)] W fun e Y => e = .returned (.agg (RA.map B8).toArray) ∧ TM w og mb rg c.i c.m c.D L1 L1 mm gb rm bq n l1 M1 rws Y) := fun rws l1 W hW => by
        have q := hW.rplay c.a hgl hok (by decide)
        rw [hRA, hL1, hM1] at q; exact q
      have hat : ∃ (XL : List Value) (fe : Int), XL.length = 32 ∧ XL.toArray.all (·.oneCell') = true ∧ (∀ L R l2 rws W, TM w og mb rg c.i c.m c.D L R mm gb rm bq n M1 l2 rws W → Calls Tryz.prog 21 #[.pointer (some ⟨mm, 0, none⟩), .int .u64 (c.a : Int), .int .i64 ii] W fun e Y => e = .returned (.tuple #[.agg XL.toArray, .int .i64 fe]) ∧ TM w og mb rg c.i c.m c.D L R mm gb rm bq n M1 l2 rws Y) ∧ (ii < 2 ∨ 255 < ii → XL = ZL ∧ fe = 2) ∧ (¬ ii < 2 → ¬ 255 < ii → fe = 0 ∧ (∀ W, (Op.equalIn 10000 23 (.agg XL.toArray) (.agg XL.toArray)).run Tryz.prog W = .ok true W) ∧ ∀ L R l1 rws W, TM w og mb rg c.i c.m c.D L R mm gb rm bq n l1 M1 rws W → Calls Tryz.prog 28 #[.pointer (some ⟨rm, 0, none⟩), .int .u64 (c.a : Int), .int .i64 ii] W fun e Y => e = .returned (.agg XL.toArray) ∧ TM w og mb rg c.i c.m c.D L R mm gb rm bq n l1 M1 rws Y) := by
        by_cases hb : ii < 2 ∨ 255 < ii
        · exact ⟨ZL, 2, HZL.out, HZ1.out, fun L R l2 rws W hW => by rw [← HEV.out]; exact hW.pat_no c.a HCA.out ii (hb.elim .inl (fun h => .inr (.inl h))), fun _ => ⟨rfl, rfl⟩, fun h1 h2 => absurd hb (by omega)⟩
        · obtain ⟨k, rfl, hk1, hk2⟩ : ∃ k : Nat, ii = (k : Int) ∧ 2 ≤ k ∧ k < 256 := ⟨ii.toNat, by omega, by omega, by omega⟩
          have hn32 : (nodeB M1 c.a k).length = 32 := by unfold nodeB MC.rdB; rw [List.length_take, List.length_drop, hM1l]; omega
          exact ⟨(nodeB M1 c.a k).map B8, 0, by rw [List.length_map]; exact hn32, R5.B8_onea _, fun L R l2 rws W hW => hW.pat c.a k hok hk1 hk2, fun h => absurd h hb, fun _ _ => ⟨rfl, fun W => eq_dig W _ _ hn32 hn32 true (by simp), fun L R l1 rws W hW => hW.rat c.a k hok hk2⟩⟩
      obtain ⟨XL, fe, hXL, hX1, hat1, hat2, hat3⟩ := hat
      have HXL : Hid (XL.length = 32) := hXL
      have HX1 : Hid (XL.toArray.all (·.oneCell') = true) := hX1
      have HAT : Hid (∀ rws W, TM w og mb rg c.i c.m c.D L1 [] mm gb rm bq n M1 l rws W → Calls Tryz.prog 21 #[.pointer (some ⟨mm, 0, none⟩), .int .u64 (c.a : Int), .int .i64 ii] W fun e Y => e = .returned (.tuple #[.agg XL.toArray, .int .i64 fe]) ∧ TM w og mb rg c.i c.m c.D L1 [] mm gb rm bq n M1 l rws Y) := fun rws W hW => hat1 _ _ _ rws W hW
      have HLO : Hid (ii < 2 ∨ 255 < ii → XL = ZL ∧ fe = 2) := hat2
      have HIN : Hid (¬ ii < 2 → ¬ 255 < ii → fe = 0 ∧ (∀ W, (Op.equalIn 10000 23 (.agg XL.toArray) (.agg XL.toArray)).run Tryz.prog W = .ok true W) ∧ ∀ L R l1 rws W, TM w og mb rg c.i c.m c.D L R mm gb rm bq n l1 M1 rws W → Calls Tryz.prog 28 #[.pointer (some ⟨rm, 0, none⟩), .int .u64 (c.a : Int), .int .i64 ii] W fun e Y => e = .returned (.agg XL.toArray) ∧ TM w og mb rg c.i c.m c.D L R mm gb rm bq n l1 M1 rws Y) := hat3
      have HQ1 : Hid (∀ W, (Op.equalIn 10000 23 (.agg (RA.map B8).toArray) (.agg (RA.map B8).toArray)).run Tryz.prog W = .ok true W) := fun W => eq_dig W _ _ (by rw [← hRA]; exact hroot32) (by rw [← hRA]; exact hroot32) true (by simp)
      have HLG : Hid (∀ rws l1 l2 W, TM w og mb rg c.i c.m c.D L1 L1 mm gb rm bq n l1 l2 rws W → Calls Tryz.prog 27 #[.pointer (some ⟨og, 0, none⟩)] W fun e Y => ∃ v, e = .returned v ∧ R5.HLr Y v L1 ∧ Below W.heap.size W Y) := fun rws l1 l2 W hW => hW.tb.log (by omega)
      have HRG : Hid (∀ rws l1 l2 W, TM w og mb rg c.i c.m c.D L1 L1 mm gb rm bq n l1 l2 rws W → ∃ pl cl, W.cell? ⟨rg, 35, none⟩ = some (.slice pl L1.length cl) ∧ R5.HLr W (.slice pl L1.length cl) L1) := fun rws l1 l2 W hW => by
        obtain ⟨lv, h1, h2⟩ := hW.tb.rlog
        obtain ⟨pl, cl, he, _⟩ := id h2
        rw [he] at h1 h2
        exact ⟨pl, cl, h1, h2⟩
      have HSL : Hid (∀ va vb W, R5.HLr W va L1 → R5.HLr W vb L1 → Calls Tryz.prog 26 #[va, vb] W fun e w' => e = .returned (.bool true) ∧ Below W.heap.size W w') := fun va vb W ha hb => (R5.sameLog_any va vb L1 L1 W (by omega) (by omega) ha hb).mono fun e w' ⟨h1, h2⟩ => ⟨by rw [h1]; simp, h2⟩
      have HGLN : Hid ((RA.map B8).length = 32) := by show _ = _; rw [List.length_map, ← hRA]; exact hroot32
      have HGL1 : Hid _ := R5.B8_onea RA
      rw [hok] at HRW HWI
      generalize RA.map B8 = GL at *
      have HT0 : Hid (TM w og mb rg c.i c.m c.D [] [] mm gb rm bq n l l (RW1 w CL) X2) := hT0
      have c1 := (HC36.out X2 (hT0.at 0 rfl)).1
      clear hT0 hok hn1b hgl hwd hl2 hroot32 hL1 hM1 hRA hll1 hM1l hXL hX1 hat1 hat2 hat3
      generalize (c.a : Int) = ca at *
      generalize c.i = i at *
      generalize c.m = m at *
      generalize c.D = D at *
      go_wp2_with fail
      refine Calls.mono (HLY.out _ _ HT0.out) ?_
      rintro e X3 ⟨rfl, hT3⟩
      clear HT0 c1 HLY
      have HTA : Hid _ := (hT3).alloc (X3).heap.size rfl 23 ZL
      go_upto_region 7 with (refine wpList_store_dL rfl (.tmp 10) (.tmp 34) rfl (X3).heap.size GL ZL rfl rfl (HTA.out.at 0 rfl) HGLN.out HZL.out HGL1.out ?_; intro XA ea; have HT4 : Hid _ := HTA.out.put' 0 rfl GL; rw [← ea] at HT4; clear ea)
      clear HTA
      clear hT3
      generalize X3.heap.size = b10 at *
      have c1 := (HC36.out XA (HT4.out.at 1 rfl)).1
      go_wp2_with fail
      refine Calls.mono (HAT.out _ _ HT4.out) ?_
      rintro e X5 ⟨rfl, hT5⟩
      clear HT4 c1 HAT
      have HTA : Hid _ := (hT5).alloc (X5).heap.size rfl 23 ZL
      go_upto_region 8 with (refine wpList_store_dL rfl (.tmp 12) (.tmp 42) rfl (X5).heap.size XL ZL rfl rfl (HTA.out.at 0 rfl) HXL.out HZL.out HX1.out ?_; intro XA ea; have HT6 : Hid _ := HTA.out.put' 0 rfl XL; rw [← ea] at HT6; clear ea)
      clear HTA
      clear hT5
      generalize X5.heap.size = b12 at *
      obtain ⟨c1, c2⟩ := HC36.out XA (HT6.out.at 2 rfl)
      go_wp2_with fail
      refine Calls.mono (HRW.out XA) ?_
      rintro e Y0 ⟨rfl, hy⟩
      rw [hy]
      clear hy Y0 HRW c1 c2
      go_upto_region 10 with fail
      generalize hXE : XA = XE at *
      clear hXE
      go_cut [117] from 83 to 117 (fun b X => b = .bool false ∧ TM w og mb rg i m D L1 L1 mm gb rm bq n M1 M1 ((b12, 23, XL) :: (b10, 23, GL) :: RW1 w CL) X)
      case first =>
        refine wp_region_held_drew (S := fun W => ∃ R' l2', TM w og mb rg i m D L1 R' mm gb rm bq n M1 l2' ((b12, 23, XL) :: (b10, 23, GL) :: RW1 w CL) W) (by kernel_rfl) ⟨_, _, HT6.out.step (Below.refl _ _).drew⟩ (fun hHeld => ?_)
        have HTD : Hid _ := HT6.out.step (Below.refl _ _).drew
        clear HT6
        generalize World.drew _ = V0 at *
        refine wpAnyH_take (i := 0) (oi := { dst := some 83, op := Go.Op.load 23 (Go.Operand.tmp 10), type := 23, pos := _, after := #[], guard := none }) rfl (by kernel_rfl) (by kernel_rfl) (by kernel_rfl) (fun _ _ _ h => h) (yieldsIf_load_mid (by rfl) 23 (.tmp 10) rfl (b10) (0) rfl (GL) _ (fun _ h => (by obtain ⟨_, _, q⟩ := h; exact MC.rangeAt_row (q.at 1 rfl))) Tryz.underlying23 rfl (infoD GL HGLN.out)) hHeld ?_
        try simp only [Act.put, List.setIfInBounds_toArray, List.set_cons_zero, List.set_cons_succ]
        refine wpAnyH_take (i := 1) (oi := { dst := some 84, op := Go.Op.move (Go.Operand.tmp 7), type := 33, pos := _, after := #[], guard := none }) (v := .pointer (some ⟨rg, 0, none⟩)) rfl (by kernel_rfl) (by kernel_rfl) (by kernel_rfl) (fun _ _ _ h => h) (Or.inl ⟨by rfl, fun w' hw' => ?_⟩) hHeld ?_
        · first | (go_simp; done) | (go_simp; rfl)
        try simp only [Act.put, List.setIfInBounds_toArray, List.set_cons_zero, List.set_cons_succ]
        refine wpAnyH_take (i := 2) (oi := { dst := some 85, op := Go.Op.move (Go.Operand.tmp 8), type := 34, pos := _, after := #[], guard := none }) (v := .pointer (some ⟨rm, 0, none⟩)) rfl (by kernel_rfl) (by kernel_rfl) (by kernel_rfl) (fun _ _ _ h => h) (Or.inl ⟨by rfl, fun w' hw' => ?_⟩) hHeld ?_
        · first | (go_simp; done) | (go_simp; rfl)
        try simp only [Act.put, List.setIfInBounds_toArray, List.set_cons_zero, List.set_cons_succ]
        refine wpAnyH_take (i := 3) (oi := { dst := some 86, op := Go.Op.fieldAddr 28 (Go.Operand.tmp 2) 5, type := 0, pos := _, after := #[], guard := none }) (v := .pointer (some ⟨w.heap.size, 36, none⟩)) rfl (by kernel_rfl) (by kernel_rfl) (by kernel_rfl) (fun _ _ _ h => h) (Or.inl ⟨by rfl, fun w' hw' => ?_⟩) hHeld ?_
        · first | (go_simp; done) | (go_simp; rfl)
        try simp only [Act.put, List.setIfInBounds_toArray, List.set_cons_zero, List.set_cons_succ]
        refine wpAnyH_take (i := 4) (oi := { dst := some 87, op := Go.Op.load 26 (Go.Operand.tmp 86), type := 26, pos := _, after := #[{ on := 3, ground := Go.Ground.data }], guard := none }) (v := .int .u64 ca) rfl (by kernel_rfl) (by kernel_rfl) (by kernel_rfl) (fun _ _ _ h => h) (Or.inl ⟨by rfl, fun w' hw' => ?_⟩) hHeld ?_
        · have hcc := (by obtain ⟨_, _, q⟩ := hw'; exact (HC36.out w' (q.at 2 rfl)).1 : w'.cell? ⟨w.heap.size, 36, none⟩ = some (.int .u64 ca)); first | (go_simp; done) | (go_simp; rfl)
        try simp only [Act.put, List.setIfInBounds_toArray, List.set_cons_zero, List.set_cons_succ]
        refine wpAnyH_ready (rs := [5]) (by kernel_rfl) (by simp) ?_
        refine AllReadyH.cons (o := { dst := some 88, op := Go.Op.call { callee := Go.Callee.value (Go.Operand.func 25), args := #[Go.Operand.tmp 84, Go.Operand.tmp 85, Go.Operand.tmp 87], argTypes := #[33, 34, 26] }, type := 23, pos := _, after := #[{ on := 1, ground := Go.Ground.data }, { on := 2, ground := Go.Ground.data }, { on := 4, ground := Go.Ground.data }], guard := none }) rfl (fun K hK => ?_) AllReadyH.nil
        rw [if_pos (by rfl)]
        go_wp2_with fail
        refine Calls.mono (HRL.out _ _ _ HTD.out) ?_
        rintro e V1 ⟨rfl, hT1⟩
        have HT1 : Hid _ := hT1
        clear hHeld HTD HRL
        have hHeld : ∃ R' l2', TM w og mb rg i m D L1 R' mm gb rm bq n M1 l2' ((b12, 23, XL) :: (b10, 23, GL) :: RW1 w CL) V1 := ⟨_, _, hT1⟩
        clear hT1
        refine hK.out _ _ hHeld (fun _ => ?_)
        clear hK K
        try simp only [Act.put, List.setIfInBounds_toArray, List.set_cons_zero, List.set_cons_succ]
        refine wpAnyH_take (i := 6) (oi := { dst := some 89, op := Go.Op.binOp Go.BinOp.neq 23 (Go.Operand.tmp 83) (Go.Operand.tmp 88) 23, type := 4, pos := _, after := #[{ on := 0, ground := Go.Ground.data }, { on := 5, ground := Go.Ground.data }], guard := none }) (v := .bool false) rfl (by kernel_rfl) (by kernel_rfl) (by kernel_rfl) (fun _ _ _ h => h) (Or.inl ⟨by rfl, fun w' hw' => ?_⟩) hHeld ?_
        · exact run_neq rfl rfl rfl gD (HQ1.out w')
        try simp only [Act.put, List.setIfInBounds_toArray, List.set_cons_zero, List.set_cons_succ]
        refine wpAnyH_take (i := 7) (oi := { dst := some 90, op := Go.Op.move (Go.Operand.tmp 89), type := 4, pos := _, after := #[{ on := 6, ground := Go.Ground.data }, { on := 5, ground := Go.Ground.chain }], guard := none }) (v := .bool false) rfl (by kernel_rfl) (by kernel_rfl) (by kernel_rfl) (fun _ _ _ h => h) (Or.inl ⟨by rfl, fun w' hw' => ?_⟩) hHeld ?_
        · first | (go_simp; done) | (go_simp; rfl)
        try simp only [Act.put, List.setIfInBounds_toArray, List.set_cons_zero, List.set_cons_succ]
        refine wpAnyH_take (i := 8) (oi := { dst := some 91, op := Go.Op.move (Go.Operand.tmp 11), type := 37, pos := _, after := #[{ on := 7, ground := Go.Ground.guard }], guard := some (7, false) }) (v := .int .i64 0) rfl (by kernel_rfl) (by kernel_rfl) (by kernel_rfl) (fun _ _ _ h => h) (Or.inl ⟨by rfl, fun w' hw' => ?_⟩) hHeld ?_
        · first | (go_simp; done) | (go_simp; rfl)
        try simp only [Act.put, List.setIfInBounds_toArray, List.set_cons_zero, List.set_cons_succ]
        refine wpAnyH_ready (rs := [9]) (by kernel_rfl) (by simp) ?_
        refine AllReadyH.cons (o := { dst := some 92, op := Go.Op.call { callee := Go.Callee.value (Go.Operand.func 17), args := #[Go.Operand.tmp 91], argTypes := #[37] }, type := 3, pos := _, after := #[{ on := 8, ground := Go.Ground.data }, { on := 7, ground := Go.Ground.chain }, { on := 7, ground := Go.Ground.guard }], guard := some (7, false) }) rfl (fun K hK => ?_) AllReadyH.nil
        rw [if_pos (by rfl)]
        go_wp2_with fail
        refine Calls.mono (HNM.out 0 _) ?_
        rintro e Z9 ⟨rfl, hy⟩
        rw [← hy]
        clear hy Z9
        refine hK.out _ _ hHeld (fun _ => ?_)
        clear hK K
        try simp only [Act.put, List.setIfInBounds_toArray, List.set_cons_zero, List.set_cons_succ]
        refine wpAnyH_take (i := 10) (oi := { dst := some 93, op := Go.Op.binOp Go.BinOp.neq 3 (Go.Operand.tmp 92) (Go.Operand.const (Go.Value.int Go.IntKind.i64 0)) 3, type := 4, pos := _, after := #[{ on := 9, ground := Go.Ground.data }, { on := 7, ground := Go.Ground.guard }], guard := some (7, false) }) (v := .bool false) rfl (by kernel_rfl) (by kernel_rfl) (by kernel_rfl) (fun _ _ _ h => h) (Or.inl ⟨by rfl, fun w' hw' => ?_⟩) hHeld ?_
        · first | (go_simp; done) | (go_simp; rfl)
        try simp only [Act.put, List.setIfInBounds_toArray, List.set_cons_zero, List.set_cons_succ]
        refine wpAnyH_take (i := 11) (oi := { dst := some 94, op := Go.Op.pick (Go.Operand.tmp 90) (Go.Operand.const (Go.Value.bool true)) (Go.Operand.tmp 93), type := 4, pos := _, after := #[{ on := 7, ground := Go.Ground.data }, { on := 10, ground := Go.Ground.data }], guard := none }) (v := .bool false) rfl (by kernel_rfl) (by kernel_rfl) (by kernel_rfl) (fun _ _ _ h => h) (Or.inl ⟨by rfl, fun w' hw' => ?_⟩) hHeld ?_
        · first | (go_simp; done) | (go_simp; rfl)
        try simp only [Act.put, List.setIfInBounds_toArray, List.set_cons_zero, List.set_cons_succ]
        refine wpAnyH_take (i := 12) (oi := { dst := some 95, op := Go.Op.move (Go.Operand.tmp 94), type := 4, pos := _, after := #[{ on := 11, ground := Go.Ground.data }, { on := 9, ground := Go.Ground.chain }], guard := none }) (v := .bool false) rfl (by kernel_rfl) (by kernel_rfl) (by kernel_rfl) (fun _ _ _ h => h) (Or.inl ⟨by rfl, fun w' hw' => ?_⟩) hHeld ?_
        · first | (go_simp; done) | (go_simp; rfl)
        try simp only [Act.put, List.setIfInBounds_toArray, List.set_cons_zero, List.set_cons_succ]
        refine wpAnyH_take (i := 13) (oi := { dst := some 96, op := Go.Op.move (Go.Operand.tmp 6), type := 32, pos := _, after := #[{ on := 12, ground := Go.Ground.guard }], guard := some (12, false) }) (v := .pointer (some ⟨mm, 0, none⟩)) rfl (by kernel_rfl) (by kernel_rfl) (by kernel_rfl) (fun _ _ _ h => h) (Or.inl ⟨by rfl, fun w' hw' => ?_⟩) hHeld ?_
        · first | (go_simp; done) | (go_simp; rfl)
        try simp only [Act.put, List.setIfInBounds_toArray, List.set_cons_zero, List.set_cons_succ]
        refine wpAnyH_take (i := 14) (oi := { dst := some 97, op := Go.Op.fieldAddr 28 (Go.Operand.tmp 2) 5, type := 0, pos := _, after := #[{ on := 12, ground := Go.Ground.guard }], guard := some (12, false) }) (v := .pointer (some ⟨w.heap.size, 36, none⟩)) rfl (by kernel_rfl) (by kernel_rfl) (by kernel_rfl) (fun _ _ _ h => h) (Or.inl ⟨by rfl, fun w' hw' => ?_⟩) hHeld ?_
        · first | (go_simp; done) | (go_simp; rfl)
        try simp only [Act.put, List.setIfInBounds_toArray, List.set_cons_zero, List.set_cons_succ]
        refine wpAnyH_take (i := 15) (oi := { dst := some 98, op := Go.Op.load 26 (Go.Operand.tmp 97), type := 26, pos := _, after := #[{ on := 14, ground := Go.Ground.data }, { on := 12, ground := Go.Ground.guard }], guard := some (12, false) }) (v := .int .u64 ca) rfl (by kernel_rfl) (by kernel_rfl) (by kernel_rfl) (fun _ _ _ h => h) (Or.inl ⟨by rfl, fun w' hw' => ?_⟩) hHeld ?_
        · have hcc := (by obtain ⟨_, _, q⟩ := hw'; exact (HC36.out w' (q.at 2 rfl)).1 : w'.cell? ⟨w.heap.size, 36, none⟩ = some (.int .u64 ca)); first | (go_simp; done) | (go_simp; rfl)
        try simp only [Act.put, List.setIfInBounds_toArray, List.set_cons_zero, List.set_cons_succ]
        refine wpAnyH_ready (rs := [16]) (by kernel_rfl) (by simp) ?_
        refine AllReadyH.cons (o := { dst := some 99, op := Go.Op.call { callee := Go.Callee.value (Go.Operand.func 23), args := #[Go.Operand.tmp 96, Go.Operand.tmp 98], argTypes := #[32, 26] }, type := 4, pos := _, after := #[{ on := 13, ground := Go.Ground.data }, { on := 15, ground := Go.Ground.data }, { on := 12, ground := Go.Ground.chain }, { on := 12, ground := Go.Ground.guard }], guard := some (12, false) }) rfl (fun K hK => ?_) AllReadyH.nil
        rw [if_pos (by rfl)]
        go_wp2_with fail
        refine Calls.mono (HWI.out _ _ _ _ _ _ HT1.out) ?_
        rintro e Z9 ⟨rfl, hy⟩
        rw [hy]
        clear hy Z9
        refine hK.out _ _ hHeld (fun _ => ?_)
        clear hK K
        try simp only [Act.put, List.setIfInBounds_toArray, List.set_cons_zero, List.set_cons_succ]
        refine wpAnyH_take (i := 17) (oi := { dst := some 100, op := Go.Op.unOp Go.UnOp.not 4 (Go.Operand.tmp 99), type := 4, pos := _, after := #[{ on := 16, ground := Go.Ground.data }, { on := 12, ground := Go.Ground.guard }], guard := some (12, false) }) (v := .bool false) rfl (by kernel_rfl) (by kernel_rfl) (by kernel_rfl) (fun _ _ _ h => h) (Or.inl ⟨by rfl, fun w' hw' => ?_⟩) hHeld ?_
        · first | (go_simp; done) | (go_simp; rfl)
        try simp only [Act.put, List.setIfInBounds_toArray, List.set_cons_zero, List.set_cons_succ]
        refine wpAnyH_take (i := 18) (oi := { dst := some 101, op := Go.Op.pick (Go.Operand.tmp 95) (Go.Operand.const (Go.Value.bool true)) (Go.Operand.tmp 100), type := 4, pos := _, after := #[{ on := 12, ground := Go.Ground.data }, { on := 17, ground := Go.Ground.data }], guard := none }) (v := .bool false) rfl (by kernel_rfl) (by kernel_rfl) (by kernel_rfl) (fun _ _ _ h => h) (Or.inl ⟨by rfl, fun w' hw' => ?_⟩) hHeld ?_
        · first | (go_simp; done) | (go_simp; rfl)
        try simp only [Act.put, List.setIfInBounds_toArray, List.set_cons_zero, List.set_cons_succ]
        refine wpAnyH_take (i := 19) (oi := { dst := some 102, op := Go.Op.move (Go.Operand.tmp 101), type := 4, pos := _, after := #[{ on := 18, ground := Go.Ground.data }, { on := 16, ground := Go.Ground.chain }], guard := none }) (v := .bool false) rfl (by kernel_rfl) (by kernel_rfl) (by kernel_rfl) (fun _ _ _ h => h) (Or.inl ⟨by rfl, fun w' hw' => ?_⟩) hHeld ?_
        · first | (go_simp; done) | (go_simp; rfl)
        try simp only [Act.put, List.setIfInBounds_toArray, List.set_cons_zero, List.set_cons_succ]
        refine wpAnyH_take (i := 20) (oi := { dst := some 103, op := Go.Op.move (Go.Operand.tmp 6), type := 32, pos := _, after := #[{ on := 19, ground := Go.Ground.guard }], guard := some (19, false) }) (v := .pointer (some ⟨mm, 0, none⟩)) rfl (by kernel_rfl) (by kernel_rfl) (by kernel_rfl) (fun _ _ _ h => h) (Or.inl ⟨by rfl, fun w' hw' => ?_⟩) hHeld ?_
        · first | (go_simp; done) | (go_simp; rfl)
        try simp only [Act.put, List.setIfInBounds_toArray, List.set_cons_zero, List.set_cons_succ]
        refine wpAnyH_take (i := 21) (oi := { dst := some 104, op := Go.Op.move (Go.Operand.tmp 8), type := 34, pos := _, after := #[{ on := 19, ground := Go.Ground.guard }], guard := some (19, false) }) (v := .pointer (some ⟨rm, 0, none⟩)) rfl (by kernel_rfl) (by kernel_rfl) (by kernel_rfl) (fun _ _ _ h => h) (Or.inl ⟨by rfl, fun w' hw' => ?_⟩) hHeld ?_
        · first | (go_simp; done) | (go_simp; rfl)
        try simp only [Act.put, List.setIfInBounds_toArray, List.set_cons_zero, List.set_cons_succ]
        refine wpAnyH_ready (rs := [22]) (by kernel_rfl) (by simp) ?_
        refine AllReadyH.cons (o := { dst := some 105, op := Go.Op.call { callee := Go.Callee.value (Go.Operand.func 24), args := #[Go.Operand.tmp 103, Go.Operand.tmp 104], argTypes := #[32, 34] }, type := 4, pos := _, after := #[{ on := 20, ground := Go.Ground.data }, { on := 21, ground := Go.Ground.data }, { on := 19, ground := Go.Ground.chain }, { on := 19, ground := Go.Ground.guard }], guard := some (19, false) }) rfl (fun K hK => ?_) AllReadyH.nil
        rw [if_pos (by rfl)]
        go_wp2_with fail
        refine Calls.mono (HSM.out _ _ _ _ _ HT1.out) ?_
        rintro e V3 ⟨rfl, hb3⟩
        have hT3 := HT1.out.step hb3
        clear hHeld HT1 hb3
        have hHeld : ∃ R' l2', TM w og mb rg i m D L1 R' mm gb rm bq n M1 l2' ((b12, 23, XL) :: (b10, 23, GL) :: RW1 w CL) V3 := ⟨_, _, hT3⟩
        obtain ⟨pl, cl, hlc, hlr⟩ := HRG.out _ _ _ V3 hT3
        refine hK.out _ _ hHeld (fun _ => ?_)
        clear hK K
        try simp only [Act.put, List.setIfInBounds_toArray, List.set_cons_zero, List.set_cons_succ]
        refine wpAnyH_take (i := 23) (oi := { dst := some 106, op := Go.Op.unOp Go.UnOp.not 4 (Go.Operand.tmp 105), type := 4, pos := _, after := #[{ on := 22, ground := Go.Ground.data }, { on := 19, ground := Go.Ground.guard }], guard := some (19, false) }) (v := .bool false) rfl (by kernel_rfl) (by kernel_rfl) (by kernel_rfl) (fun _ _ _ h => h) (Or.inl ⟨by rfl, fun w' hw' => ?_⟩) hHeld ?_
        · first | (go_simp; done) | (go_simp; rfl)
        try simp only [Act.put, List.setIfInBounds_toArray, List.set_cons_zero, List.set_cons_succ]
        refine wpAnyH_take (i := 24) (oi := { dst := some 107, op := Go.Op.pick (Go.Operand.tmp 102) (Go.Operand.const (Go.Value.bool true)) (Go.Operand.tmp 106), type := 4, pos := _, after := #[{ on := 19, ground := Go.Ground.data }, { on := 23, ground := Go.Ground.data }], guard := none }) (v := .bool false) rfl (by kernel_rfl) (by kernel_rfl) (by kernel_rfl) (fun _ _ _ h => h) (Or.inl ⟨by rfl, fun w' hw' => ?_⟩) hHeld ?_
        · first | (go_simp; done) | (go_simp; rfl)
        try simp only [Act.put, List.setIfInBounds_toArray, List.set_cons_zero, List.set_cons_succ]
        refine wpAnyH_take (i := 25) (oi := { dst := some 108, op := Go.Op.move (Go.Operand.tmp 107), type := 4, pos := _, after := #[{ on := 24, ground := Go.Ground.data }, { on := 22, ground := Go.Ground.chain }], guard := none }) (v := .bool false) rfl (by kernel_rfl) (by kernel_rfl) (by kernel_rfl) (fun _ _ _ h => h) (Or.inl ⟨by rfl, fun w' hw' => ?_⟩) hHeld ?_
        · first | (go_simp; done) | (go_simp; rfl)
        try simp only [Act.put, List.setIfInBounds_toArray, List.set_cons_zero, List.set_cons_succ]
        refine wpAnyH_take (i := 26) (oi := { dst := some 109, op := Go.Op.move (Go.Operand.tmp 5), type := 31, pos := _, after := #[{ on := 25, ground := Go.Ground.guard }], guard := some (25, false) }) (v := .pointer (some ⟨og, 0, none⟩)) rfl (by kernel_rfl) (by kernel_rfl) (by kernel_rfl) (fun _ _ _ h => h) (Or.inl ⟨by rfl, fun w' hw' => ?_⟩) hHeld ?_
        · first | (go_simp; done) | (go_simp; rfl)
        try simp only [Act.put, List.setIfInBounds_toArray, List.set_cons_zero, List.set_cons_succ]
        refine wpAnyH_take (i := 28) (oi := { dst := some 111, op := Go.Op.move (Go.Operand.tmp 7), type := 33, pos := _, after := #[{ on := 25, ground := Go.Ground.guard }], guard := some (25, false) }) (v := .pointer (some ⟨rg, 0, none⟩)) rfl (by kernel_rfl) (by kernel_rfl) (by kernel_rfl) (fun _ _ _ h => h) (Or.inl ⟨by rfl, fun w' hw' => ?_⟩) hHeld ?_
        · first | (go_simp; done) | (go_simp; rfl)
        try simp only [Act.put, List.setIfInBounds_toArray, List.set_cons_zero, List.set_cons_succ]
        refine wpAnyH_take (i := 29) (oi := { dst := some 112, op := Go.Op.nilCheck (Go.Operand.tmp 111), type := 0, pos := _, after := #[{ on := 28, ground := Go.Ground.data }, { on := 25, ground := Go.Ground.guard }], guard := some (25, false) }) (v := .pointer (some ⟨rg, 0, none⟩)) rfl (by kernel_rfl) (by kernel_rfl) (by kernel_rfl) (fun _ _ _ h => h) (Or.inl ⟨by rfl, fun w' hw' => ?_⟩) hHeld ?_
        · first | (go_simp; done) | (go_simp; rfl)
        try simp only [Act.put, List.setIfInBounds_toArray, List.set_cons_zero, List.set_cons_succ]
        refine wpAnyH_take (i := 30) (oi := { dst := some 113, op := Go.Op.fieldAddr 61 (Go.Operand.tmp 112) 4, type := 0, pos := _, after := #[{ on := 29, ground := Go.Ground.data }, { on := 25, ground := Go.Ground.guard }], guard := some (25, false) }) (v := .pointer (some ⟨rg, 35, none⟩)) rfl (by kernel_rfl) (by kernel_rfl) (by kernel_rfl) (fun _ _ _ h => h) (Or.inl ⟨by rfl, fun w' hw' => ?_⟩) hHeld ?_
        · first | (go_simp; done) | (go_simp; rfl)
        try simp only [Act.put, List.setIfInBounds_toArray, List.set_cons_zero, List.set_cons_succ]
        refine wpAnyH_ready (rs := [27, 31]) (by kernel_rfl) (by simp) ?_
        refine AllReadyH.cons (o := { dst := some 110, op := Go.Op.call { callee := Go.Callee.value (Go.Operand.func 27), args := #[Go.Operand.tmp 109], argTypes := #[31] }, type := 58, pos := _, after := #[{ on := 26, ground := Go.Ground.data }, { on := 25, ground := Go.Ground.chain }, { on := 25, ground := Go.Ground.guard }], guard := some (25, false) }) rfl (fun K hK => ?_) (AllReadyH.cons (o := { dst := some 114, op := Go.Op.load 58 (Go.Operand.tmp 113), type := 58, pos := _, after := #[{ on := 30, ground := Go.Ground.data }, { on := 25, ground := Go.Ground.guard }], guard := some (25, false) }) rfl (fun K hK => ?_) AllReadyH.nil)
        all_goals rw [if_pos (by rfl)]
        · skip
          go_wp2_with fail
          refine Calls.mono (HLG.out _ _ _ _ hT3) ?_
          rintro e V4 ⟨lg, rfl, hlg, hb4⟩
          have hH4 : ∃ R' l2', TM w og mb rg i m D L1 R' mm gb rm bq n M1 l2' ((b12, 23, XL) :: (b10, 23, GL) :: RW1 w CL) V4 := ⟨_, _, hT3.step hb4⟩
          refine hK.out _ _ hH4 (fun _ => ?_)
          clear hK K
          try simp only [Act.put, List.setIfInBounds_toArray, List.set_cons_zero, List.set_cons_succ]
          clear hHeld
          have hHeld := hH4
          refine wpAnyH_ready (rs := [31]) (by kernel_rfl) (by simp) ?_
          refine AllReadyH.cons (o := { dst := some 114, op := Go.Op.load 58 (Go.Operand.tmp 113), type := 58, pos := _, after := #[{ on := 30, ground := Go.Ground.data }, { on := 25, ground := Go.Ground.guard }], guard := some (25, false) }) rfl (fun K hK => ?_) AllReadyH.nil
          rw [if_pos (by rfl)]
          have hc4 := (hb4.cell (block_lt hlc)).trans hlc
          go_wp2_with fail
          clear hc4 hH4
          have hs := HSL.out lg _ V4 hlg (R5.hlr_below hlr hb4)
          have hT4 := hT3.step hb4
          have HT4 : Hid _ := hT4
          clear hHeld hlg hb4 hlc hlr
          have hHeld : ∃ R' l2', TM w og mb rg i m D L1 R' mm gb rm bq n M1 l2' ((b12, 23, XL) :: (b10, 23, GL) :: RW1 w CL) V4 := ⟨_, _, hT4⟩
          clear hT3 hT4
          refine hK.out _ _ hHeld (fun _ => ?_)
          clear hK K
          try simp only [Act.put, List.setIfInBounds_toArray, List.set_cons_zero, List.set_cons_succ]
          refine wpAnyH_ready (rs := [32]) (by kernel_rfl) (by simp) ?_
          refine AllReadyH.cons (o := { dst := some 115, op := Go.Op.call { callee := Go.Callee.value (Go.Operand.func 26), args := #[Go.Operand.tmp 110, Go.Operand.tmp 114], argTypes := #[58, 58] }, type := 4, pos := _, after := #[{ on := 27, ground := Go.Ground.data }, { on := 31, ground := Go.Ground.data }, { on := 27, ground := Go.Ground.chain }, { on := 25, ground := Go.Ground.guard }], guard := some (25, false) }) rfl (fun K hK => ?_) AllReadyH.nil
          rw [if_pos (by rfl)]
          go_wp2_with fail
          refine Calls.mono hs ?_
          rintro e V5 ⟨rfl, hb5⟩
          have hT5 := HT4.out.step hb5
          have HT5 : Hid _ := hT5
          clear hHeld HT4 hs hb5
          have hHeld : ∃ R' l2', TM w og mb rg i m D L1 R' mm gb rm bq n M1 l2' ((b12, 23, XL) :: (b10, 23, GL) :: RW1 w CL) V5 := ⟨_, _, hT5⟩
          clear hT5
          refine hK.out _ _ hHeld (fun _ => ?_)
          clear hK K
          try simp only [Act.put, List.setIfInBounds_toArray, List.set_cons_zero, List.set_cons_succ]
          refine wpAnyH_take (i := 33) (oi := { dst := some 116, op := Go.Op.unOp Go.UnOp.not 4 (Go.Operand.tmp 115), type := 4, pos := _, after := #[{ on := 32, ground := Go.Ground.data }, { on := 25, ground := Go.Ground.guard }], guard := some (25, false) }) (v := .bool false) rfl (by kernel_rfl) (by kernel_rfl) (by kernel_rfl) (fun _ _ _ h => h) (Or.inl ⟨by rfl, fun w' hw' => ?_⟩) hHeld ?_
          · first | (go_simp; done) | (go_simp; rfl)
          try simp only [Act.put, List.setIfInBounds_toArray, List.set_cons_zero, List.set_cons_succ]
          refine wpAnyH_take (i := 34) (oi := { dst := some 117, op := Go.Op.pick (Go.Operand.tmp 108) (Go.Operand.const (Go.Value.bool true)) (Go.Operand.tmp 116), type := 4, pos := _, after := #[{ on := 25, ground := Go.Ground.data }, { on := 33, ground := Go.Ground.data }], guard := none }) (v := .bool false) rfl (by kernel_rfl) (by kernel_rfl) (by kernel_rfl) (fun _ _ _ h => h) (Or.inl ⟨by rfl, fun w' hw' => ?_⟩) hHeld ?_
          · first | (go_simp; done) | (go_simp; rfl)
          try simp only [Act.put, List.setIfInBounds_toArray, List.set_cons_zero, List.set_cons_succ]
          refine wpAnyH_done (by kernel_rfl) ?_ _
          clear hHeld
          go_wp2_with fail
          go_meet
          case rel => exact ⟨rfl, HT5.out⟩
        · skip
          go_wp2_with fail
          refine hK.out _ _ hHeld (fun _ => ?_)
          clear hK K
          try simp only [Act.put, List.setIfInBounds_toArray, List.set_cons_zero, List.set_cons_succ]
          refine wpAnyH_ready (rs := [27]) (by kernel_rfl) (by simp) ?_
          refine AllReadyH.cons (o := { dst := some 110, op := Go.Op.call { callee := Go.Callee.value (Go.Operand.func 27), args := #[Go.Operand.tmp 109], argTypes := #[31] }, type := 58, pos := _, after := #[{ on := 26, ground := Go.Ground.data }, { on := 25, ground := Go.Ground.chain }, { on := 25, ground := Go.Ground.guard }], guard := some (25, false) }) rfl (fun K hK => ?_) AllReadyH.nil
          rw [if_pos (by rfl)]
          go_wp2_with fail
          refine Calls.mono (HLG.out _ _ _ _ hT3) ?_
          rintro e V4 ⟨lg, rfl, hlg, hb4⟩
          have hs := HSL.out lg _ V4 hlg (R5.hlr_below hlr hb4)
          have hT4 := hT3.step hb4
          have HT4 : Hid _ := hT4
          clear hHeld hlg hb4 hlc hlr
          have hHeld : ∃ R' l2', TM w og mb rg i m D L1 R' mm gb rm bq n M1 l2' ((b12, 23, XL) :: (b10, 23, GL) :: RW1 w CL) V4 := ⟨_, _, hT4⟩
          clear hT3 hT4
          refine hK.out _ _ hHeld (fun _ => ?_)
          clear hK K
          try simp only [Act.put, List.setIfInBounds_toArray, List.set_cons_zero, List.set_cons_succ]
          refine wpAnyH_ready (rs := [32]) (by kernel_rfl) (by simp) ?_
          refine AllReadyH.cons (o := { dst := some 115, op := Go.Op.call { callee := Go.Callee.value (Go.Operand.func 26), args := #[Go.Operand.tmp 110, Go.Operand.tmp 114], argTypes := #[58, 58] }, type := 4, pos := _, after := #[{ on := 27, ground := Go.Ground.data }, { on := 31, ground := Go.Ground.data }, { on := 27, ground := Go.Ground.chain }, { on := 25, ground := Go.Ground.guard }], guard := some (25, false) }) rfl (fun K hK => ?_) AllReadyH.nil
          rw [if_pos (by rfl)]
          go_wp2_with fail
          refine Calls.mono hs ?_
          rintro e V5 ⟨rfl, hb5⟩
          have hT5 := HT4.out.step hb5
          have HT5 : Hid _ := hT5
          clear hHeld HT4 hs hb5
          have hHeld : ∃ R' l2', TM w og mb rg i m D L1 R' mm gb rm bq n M1 l2' ((b12, 23, XL) :: (b10, 23, GL) :: RW1 w CL) V5 := ⟨_, _, hT5⟩
          clear hT5
          refine hK.out _ _ hHeld (fun _ => ?_)
          clear hK K
          try simp only [Act.put, List.setIfInBounds_toArray, List.set_cons_zero, List.set_cons_succ]
          refine wpAnyH_take (i := 33) (oi := { dst := some 116, op := Go.Op.unOp Go.UnOp.not 4 (Go.Operand.tmp 115), type := 4, pos := _, after := #[{ on := 32, ground := Go.Ground.data }, { on := 25, ground := Go.Ground.guard }], guard := some (25, false) }) (v := .bool false) rfl (by kernel_rfl) (by kernel_rfl) (by kernel_rfl) (fun _ _ _ h => h) (Or.inl ⟨by rfl, fun w' hw' => ?_⟩) hHeld ?_
          · first | (go_simp; done) | (go_simp; rfl)
          try simp only [Act.put, List.setIfInBounds_toArray, List.set_cons_zero, List.set_cons_succ]
          refine wpAnyH_take (i := 34) (oi := { dst := some 117, op := Go.Op.pick (Go.Operand.tmp 108) (Go.Operand.const (Go.Value.bool true)) (Go.Operand.tmp 116), type := 4, pos := _, after := #[{ on := 25, ground := Go.Ground.data }, { on := 33, ground := Go.Ground.data }], guard := none }) (v := .bool false) rfl (by kernel_rfl) (by kernel_rfl) (by kernel_rfl) (fun _ _ _ h => h) (Or.inl ⟨by rfl, fun w' hw' => ?_⟩) hHeld ?_
          · first | (go_simp; done) | (go_simp; rfl)
          try simp only [Act.put, List.setIfInBounds_toArray, List.set_cons_zero, List.set_cons_succ]
          refine wpAnyH_done (by kernel_rfl) ?_ _
          clear hHeld
          go_wp2_with fail
          go_meet
          case rel => exact ⟨rfl, HT5.out⟩
      case rest =>
        obtain ⟨rfl, hT8⟩ := hcut
        generalize wc = X8 at *
        have HT8 : Hid _ := hT8
        clear hT8 HT6 HRL HLG HRG HSL HSM HWI HQ1
        by_cases h1 : ii < 2
        · obtain ⟨hxz, hfz⟩ := HLO.out (.inl h1)
          subst hfz
          rw [hxz] at HT8
          clear HLO hxz
          clear HC36 HIN
          have HT9 : Hid _ := HT8.out
          have heq := HEZ.out
          go_wp2_with (first
            | (refine wpList_load_mid rfl 23 (.tmp 12) rfl b12 0 rfl ZL _ (MC.rangeAt_row (HT9.out.at 0 rfl)) Tryz.underlying23 rfl (infoD ZL HZL.out) ?_)
            | (refine R5.wpList_build rfl 23 #[] rfl #[] (.agg ZL.toArray) (by simp) (HBD.out _) ?_))
          clear heq
          refine Calls.mono (HNM.out 2 _) ?_
          rintro e Y0 ⟨rfl, hy⟩
          rw [← hy]
          clear hy Y0
          go_wp2_with fail
          refine Calls.mono (HK.out _) ?_
          rintro e X10 ⟨rfl, hb10⟩
          have HE : Hid (Below w.heap.size w X10) := HT9.out.tb.bel.trans (hb10.mono HT9.out.tb.bel.size)
          clear hb10 HT9
          go_wp2
          go_ret
          exact ⟨rfl, HE.out⟩
        · by_cases h2 : 255 < ii
          · obtain ⟨hxz, hfz⟩ := HLO.out (.inr h2)
            subst hfz
            rw [hxz] at HT8
            clear HLO hxz
            clear HC36 HIN
            have HT9 : Hid _ := HT8.out
            have heq := HEZ.out
            go_wp2_with (first
              | (refine wpList_load_mid rfl 23 (.tmp 12) rfl b12 0 rfl ZL _ (MC.rangeAt_row (HT9.out.at 0 rfl)) Tryz.underlying23 rfl (infoD ZL HZL.out) ?_)
              | (refine R5.wpList_build rfl 23 #[] rfl #[] (.agg ZL.toArray) (by simp) (HBD.out _) ?_))
            clear heq
            refine Calls.mono (HNM.out 2 _) ?_
            rintro e Y0 ⟨rfl, hy⟩
            rw [← hy]
            clear hy Y0
            go_wp2_with fail
            refine Calls.mono (HK.out _) ?_
            rintro e X10 ⟨rfl, hb10⟩
            have HE : Hid (Below w.heap.size w X10) := HT9.out.tb.bel.trans (hb10.mono HT9.out.tb.bel.size)
            clear hb10 HT9
            go_wp2
            go_ret
            exact ⟨rfl, HE.out⟩
          · obtain ⟨rfl, hq, hra⟩ := HIN.out (by omega) (by omega)
            have HQX : Hid _ := hq
            have HRA : Hid _ := hra
            clear HLO HIN hq hra
            go_upto_region 14 with fail
            have HTD : Hid _ := HT8.out.step (Below.refl _ _).drew
            refine wp_region_held_drew (S := fun W => TM w og mb rg i m D L1 L1 mm gb rm bq n M1 M1 ((b12, 23, XL) :: (b10, 23, GL) :: RW1 w CL) W) (by kernel_rfl) HTD.out (fun hHeld => ?_)
            clear HT8
            generalize World.drew _ = V0 at *
            refine wpAnyH_take (i := 0) (oi := { dst := some 135, op := Go.Op.load 23 (Go.Operand.tmp 12), type := 23, pos := _, after := #[], guard := none }) rfl (by kernel_rfl) (by kernel_rfl) (by kernel_rfl) (fun _ _ _ h => h) (yieldsIf_load_mid (by rfl) 23 (.tmp 12) rfl (b12) (0) rfl (XL) _ (fun _ h => (MC.rangeAt_row (h.at 0 rfl))) Tryz.underlying23 rfl (infoD XL HXL.out)) hHeld ?_
            try simp only [Act.put, List.setIfInBounds_toArray, List.set_cons_zero, List.set_cons_succ]
            refine wpAnyH_take (i := 1) (oi := { dst := some 136, op := Go.Op.move (Go.Operand.tmp 8), type := 34, pos := _, after := #[], guard := none }) (v := .pointer (some ⟨rm, 0, none⟩)) rfl (by kernel_rfl) (by kernel_rfl) (by kernel_rfl) (fun _ _ _ h => h) (Or.inl ⟨by rfl, fun w' hw' => ?_⟩) hHeld ?_
            · first | (go_simp; done) | (go_simp; rfl)
            try simp only [Act.put, List.setIfInBounds_toArray, List.set_cons_zero, List.set_cons_succ]
            refine wpAnyH_take (i := 2) (oi := { dst := some 137, op := Go.Op.fieldAddr 28 (Go.Operand.tmp 2) 5, type := 0, pos := _, after := #[], guard := none }) (v := .pointer (some ⟨w.heap.size, 36, none⟩)) rfl (by kernel_rfl) (by kernel_rfl) (by kernel_rfl) (fun _ _ _ h => h) (Or.inl ⟨by rfl, fun w' hw' => ?_⟩) hHeld ?_
            · first | (go_simp; done) | (go_simp; rfl)
            try simp only [Act.put, List.setIfInBounds_toArray, List.set_cons_zero, List.set_cons_succ]
            refine wpAnyH_take (i := 3) (oi := { dst := some 138, op := Go.Op.load 26 (Go.Operand.tmp 137), type := 26, pos := _, after := #[{ on := 2, ground := Go.Ground.data }], guard := none }) (v := .int .u64 ca) rfl (by kernel_rfl) (by kernel_rfl) (by kernel_rfl) (fun _ _ _ h => h) (Or.inl ⟨by rfl, fun w' hw' => ?_⟩) hHeld ?_
            · have hcc := (HC36.out w' (hw'.at 2 rfl)).1; first | (go_simp; done) | (go_simp; rfl)
            try simp only [Act.put, List.setIfInBounds_toArray, List.set_cons_zero, List.set_cons_succ]
            refine wpAnyH_take (i := 4) (oi := { dst := some 139, op := Go.Op.move (Go.Operand.tmp 1), type := 3, pos := _, after := #[], guard := none }) (v := .int .i64 ii) rfl (by kernel_rfl) (by kernel_rfl) (by kernel_rfl) (fun _ _ _ h => h) (Or.inl ⟨by rfl, fun w' hw' => ?_⟩) hHeld ?_
            · first | (go_simp; done) | (go_simp; rfl)
            try simp only [Act.put, List.setIfInBounds_toArray, List.set_cons_zero, List.set_cons_succ]
            refine wpAnyH_ready (rs := [5]) (by kernel_rfl) (by simp) ?_
            refine AllReadyH.cons (o := { dst := some 140, op := Go.Op.call { callee := Go.Callee.value (Go.Operand.func 28), args := #[Go.Operand.tmp 136, Go.Operand.tmp 138, Go.Operand.tmp 139], argTypes := #[34, 26, 3] }, type := 23, pos := _, after := #[{ on := 1, ground := Go.Ground.data }, { on := 3, ground := Go.Ground.data }, { on := 4, ground := Go.Ground.data }], guard := none }) rfl (fun K hK => ?_) AllReadyH.nil
            rw [if_pos (by rfl)]
            go_wp2_with fail
            refine Calls.mono (HRA.out _ _ _ _ _ HTD.out) ?_
            rintro e V1 ⟨rfl, hT1⟩
            have HT1 : Hid _ := hT1
            clear hHeld HTD HRA
            have hHeld := hT1
            refine hK.out _ _ hHeld (fun _ => ?_)
            clear hK K
            try simp only [Act.put, List.setIfInBounds_toArray, List.set_cons_zero, List.set_cons_succ]
            refine wpAnyH_take (i := 6) (oi := { dst := some 141, op := Go.Op.binOp Go.BinOp.eql 23 (Go.Operand.tmp 135) (Go.Operand.tmp 140) 23, type := 4, pos := _, after := #[{ on := 0, ground := Go.Ground.data }, { on := 5, ground := Go.Ground.data }], guard := none }) (v := .bool true) rfl (by kernel_rfl) (by kernel_rfl) (by kernel_rfl) (fun _ _ _ h => h) (Or.inl ⟨by rfl, fun w' hw' => ?_⟩) hHeld ?_
            · exact run_eql rfl rfl rfl gD (HQX.out w')
            try simp only [Act.put, List.setIfInBounds_toArray, List.set_cons_zero, List.set_cons_succ]
            refine wpAnyH_take (i := 7) (oi := { dst := some 142, op := Go.Op.move (Go.Operand.tmp 141), type := 4, pos := _, after := #[{ on := 6, ground := Go.Ground.data }, { on := 5, ground := Go.Ground.chain }], guard := none }) (v := .bool true) rfl (by kernel_rfl) (by kernel_rfl) (by kernel_rfl) (fun _ _ _ h => h) (Or.inl ⟨by rfl, fun w' hw' => ?_⟩) hHeld ?_
            · first | (go_simp; done) | (go_simp; rfl)
            try simp only [Act.put, List.setIfInBounds_toArray, List.set_cons_zero, List.set_cons_succ]
            refine wpAnyH_take (i := 8) (oi := { dst := some 143, op := Go.Op.move (Go.Operand.tmp 13), type := 37, pos := _, after := #[{ on := 7, ground := Go.Ground.guard }], guard := some (7, true) }) (v := .int .i64 0) rfl (by kernel_rfl) (by kernel_rfl) (by kernel_rfl) (fun _ _ _ h => h) (Or.inl ⟨by rfl, fun w' hw' => ?_⟩) hHeld ?_
            · first | (go_simp; done) | (go_simp; rfl)
            try simp only [Act.put, List.setIfInBounds_toArray, List.set_cons_zero, List.set_cons_succ]
            refine wpAnyH_ready (rs := [9]) (by kernel_rfl) (by simp) ?_
            refine AllReadyH.cons (o := { dst := some 144, op := Go.Op.call { callee := Go.Callee.value (Go.Operand.func 17), args := #[Go.Operand.tmp 143], argTypes := #[37] }, type := 3, pos := _, after := #[{ on := 8, ground := Go.Ground.data }, { on := 7, ground := Go.Ground.chain }, { on := 7, ground := Go.Ground.guard }], guard := some (7, true) }) rfl (fun K hK => ?_) AllReadyH.nil
            rw [if_pos (by rfl)]
            go_wp2_with fail
            refine Calls.mono (HNM.out 0 _) ?_
            rintro e Z9 ⟨rfl, hy⟩
            rw [← hy]
            clear hy Z9
            refine hK.out _ _ hHeld (fun _ => ?_)
            clear hK K
            try simp only [Act.put, List.setIfInBounds_toArray, List.set_cons_zero, List.set_cons_succ]
            refine wpAnyH_take (i := 10) (oi := { dst := some 145, op := Go.Op.binOp Go.BinOp.eql 3 (Go.Operand.tmp 144) (Go.Operand.const (Go.Value.int Go.IntKind.i64 0)) 3, type := 4, pos := _, after := #[{ on := 9, ground := Go.Ground.data }, { on := 7, ground := Go.Ground.guard }], guard := some (7, true) }) (v := .bool true) rfl (by kernel_rfl) (by kernel_rfl) (by kernel_rfl) (fun _ _ _ h => h) (Or.inl ⟨by rfl, fun w' hw' => ?_⟩) hHeld ?_
            · first | (go_simp; done) | (go_simp; rfl)
            try simp only [Act.put, List.setIfInBounds_toArray, List.set_cons_zero, List.set_cons_succ]
            refine wpAnyH_take (i := 11) (oi := { dst := some 146, op := Go.Op.pick (Go.Operand.tmp 142) (Go.Operand.tmp 145) (Go.Operand.const (Go.Value.bool false)), type := 4, pos := _, after := #[{ on := 7, ground := Go.Ground.data }, { on := 10, ground := Go.Ground.data }], guard := none }) (v := .bool true) rfl (by kernel_rfl) (by kernel_rfl) (by kernel_rfl) (fun _ _ _ h => h) (Or.inl ⟨by rfl, fun w' hw' => ?_⟩) hHeld ?_
            · first | (go_simp; done) | (go_simp; rfl)
            try simp only [Act.put, List.setIfInBounds_toArray, List.set_cons_zero, List.set_cons_succ]
            refine wpAnyH_take (i := 12) (oi := { dst := some 147, op := Go.Op.move (Go.Operand.tmp 146), type := 4, pos := _, after := #[{ on := 11, ground := Go.Ground.data }, { on := 9, ground := Go.Ground.chain }], guard := none }) (v := .bool true) rfl (by kernel_rfl) (by kernel_rfl) (by kernel_rfl) (fun _ _ _ h => h) (Or.inl ⟨by rfl, fun w' hw' => ?_⟩) hHeld ?_
            · first | (go_simp; done) | (go_simp; rfl)
            try simp only [Act.put, List.setIfInBounds_toArray, List.set_cons_zero, List.set_cons_succ]
            refine wpAnyH_ready (rs := [13]) (by kernel_rfl) (by simp) ?_
            refine AllReadyH.cons (o := { dst := some 148, op := Go.Op.call { callee := Go.Callee.value (Go.Operand.func 7), args := #[], argTypes := #[] }, type := 4, pos := _, after := #[{ on := 12, ground := Go.Ground.chain }, { on := 12, ground := Go.Ground.guard }], guard := some (12, true) }) rfl (fun K hK => ?_) AllReadyH.nil
            rw [if_pos (by rfl)]
            go_wp2_with fail
            refine Calls.mono (HK.out _) ?_
            rintro e V6 ⟨rfl, hb6⟩
            clear hHeld
            have hHeld := hT1.step hb6
            refine hK.out _ _ hHeld (fun _ => ?_)
            clear hK K
            try simp only [Act.put, List.setIfInBounds_toArray, List.set_cons_zero, List.set_cons_succ]
            refine wpAnyH_take (i := 14) (oi := { dst := some 149, op := Go.Op.pick (Go.Operand.tmp 147) (Go.Operand.tmp 148) (Go.Operand.const (Go.Value.bool false)), type := 4, pos := _, after := #[{ on := 12, ground := Go.Ground.data }, { on := 13, ground := Go.Ground.data }], guard := none }) (v := .bool true) rfl (by kernel_rfl) (by kernel_rfl) (by kernel_rfl) (fun _ _ _ h => h) (Or.inl ⟨by rfl, fun w' hw' => ?_⟩) hHeld ?_
            · first | (go_simp; done) | (go_simp; rfl)
            try simp only [Act.put, List.setIfInBounds_toArray, List.set_cons_zero, List.set_cons_succ]
            refine wpAnyH_ready (rs := [15]) (by kernel_rfl) (by simp) ?_
            refine AllReadyH.cons (o := { dst := some 4, op := Go.Op.assign (Go.Operand.tmp 149), type := 4, pos := _, after := #[{ on := 14, ground := Go.Ground.data }, { on := 13, ground := Go.Ground.chain }, { on := 0, ground := Go.Ground.phase }, { on := 1, ground := Go.Ground.phase }, { on := 2, ground := Go.Ground.phase }, { on := 3, ground := Go.Ground.phase }, { on := 4, ground := Go.Ground.phase }, { on := 5, ground := Go.Ground.phase }, { on := 6, ground := Go.Ground.phase }, { on := 7, ground := Go.Ground.phase }, { on := 8, ground := Go.Ground.phase }, { on := 9, ground := Go.Ground.phase }, { on := 10, ground := Go.Ground.phase }, { on := 11, ground := Go.Ground.phase }, { on := 12, ground := Go.Ground.phase }, { on := 13, ground := Go.Ground.phase }, { on := 14, ground := Go.Ground.phase }], guard := none }) rfl (fun K hK => ?_) AllReadyH.nil
            rw [if_pos (by rfl)]
            go_wp2_with fail
            refine hK.out _ _ hHeld (fun _ => ?_)
            clear hK K
            try simp only [Act.put, List.setIfInBounds_toArray, List.set_cons_zero, List.set_cons_succ]
            refine wpAnyH_done (by kernel_rfl) ?_ _
            have HE : Hid (Below w.heap.size w V6) := hHeld.tb.bel
            clear hHeld hT1 hb6 HT1
            go_wp2
            go_ret
            exact ⟨rfl, HE.out⟩
end Go.Proofs.YtnijjoankahddaaGreat.DC
