/- tree: TreeMeans' walk. -/
import Derived.Test.YtnijjoankahddaaFT
import Derived.Test.YtnijjoankahddaaFP
import Derived.Test.YtnijjoankahddaaWx
import Derived.Test.YtnijjoankahddaaFK
set_option linter.unusedVariables false
set_option linter.unusedSimpArgs false
namespace Go.Proofs.Ytnijjoankahddaa.DC
open Go.RowKit

theorem infoCc (L : List Value) (h : L.length = 37) : (Try.prog.info? 28).map (·.size) = some L.length := by rw [h]; kernel_rfl
abbrev RW2 (w : World) (OT CL : List Value) : Rws := [(w.heap.size + 1, 23, OT), (w.heap.size, 28, CL)]
/-- Where the walk stands: a tree lies, and the latest leaf of the page. -/
structure At (i : Bool) (D : List (List UInt8)) (a p k : Nat) (L : Lg) (M root lat : List UInt8) : Prop where
  tree : Tree L M a root
  good : gL D L
  ans : i = true → ansOk D L
  len : L.length ≤ 300 + 7 * k
  lat : lat = nodeB M a (128 + p)
  r32 : root.length = 32
theorem At.l32 {i : Bool} {D : List (List UInt8)} {a p k : Nat} {L : Lg} {M root lat : List UInt8} (h : At i D a p k L M root lat) (hp : p < 128) : lat.length = 32 := by rw [h.lat]; exact nodeB_32 h.tree.len (by omega)
theorem At.mono {i : Bool} {D : List (List UInt8)} {a p k : Nat} {L : Lg} {M root lat : List UInt8} (h : At i D a p k L M root lat) : At i D a p (k + 1) L M root lat := ⟨h.tree, h.good, h.ans, by have := h.len; omega, h.lat, h.r32⟩
theorem At.set {i : Bool} {D : List (List UInt8)} {a p k : Nat} {L : Lg} {M root lat : List UInt8} (h : At i D a p k L M root lat) (hp : p < 128) (q : Nat) (hq : q < 128) (leaf : List UInt8) (hl : leaf.length = 32) :
    At i D a p (k + 1) (upS i D (nodeB M a) (128 + q) leaf L 7).2 (layS M a (128 + q) (upS i D (nodeB M a) (128 + q) leaf L 7).1 7) ((upS i D (nodeB M a) (128 + q) leaf L 7).1.getD 7 []) (if q = p then leaf else lat) := by
  obtain ⟨t1, t2, t3⟩ := tree_set (i := i) h.tree h.good (show 128 ≤ 128 + q by omega) (by omega) hl
  refine ⟨t1, upS_good h.good 7, fun hi => by subst hi; exact upS_ans (h.ans rfl) 7, ?_, ?_, ?_⟩
  · have := upS_log (i := i) (D := D) (nb := nodeB M a) (j := 128 + q) (leaf := leaf) (L := L) 7
    have := h.len; omega
  · by_cases e : q = p
    · subst e; rw [if_pos rfl, t2]
    · rw [if_neg e, h.lat, t3 (128 + p) (by omega) (by omega) (by omega)]
  · exact getD_len (upS_each h.good hl 7) 7 (by rw [upS_len]; decide)
section
variable {w X Y : World} {og mb rg mm gb rm bb n : Nat} {i : Bool} {m : List UInt8} {D : List (List UInt8)} {L L' R R' : Lg} {rows rows' : Rws} {l1 l2 l' A : List UInt8}
theorem TM.pnone (h : TM w og mb rg i m D L R mm gb rm bb n l1 l2 rows X) (hll : L.length < 1000000) (p : Nat) (hp : p < 128) {A : List UInt8} (hf : R5.fndA (qNone p) L = some A) : Calls Try.prog 12 #[.pointer (some ⟨og, 0, none⟩), .int .i64 (p : Int)] X fun e Y => e = .returned (R5.okV A) ∧ TM w og mb rg i m D L R mm gb rm bb n l1 l2 rows Y := by
  have q := h.tb.pnone hll p hp
  rw [nx2_old hf] at q
  exact q.mono fun e Y ⟨h1, h2⟩ => ⟨h1, h.with h2⟩
end
set_option maxHeartbeats 4000000 in
set_option maxRecDepth 100000 in
theorem means_walk (w : World) (c : Ca) (dv fv lv : Value) (ls : List (Int × List UInt8)) (pg : Int) (other : List UInt8) (hc : c.ok dv fv w) (hls : HLf w lv ls) (ho : other.length = 32) :
    Calls Try.prog 3 #[.agg (caL c dv fv).toArray, lv, .int .i64 pg, .agg (other.map B8).toArray] w fun e w' => e = .returned (.bool true) ∧ Below w.heap.size w w' := by
  have HK : Hid (∀ W, Calls Try.prog 6 #[] W fun e w' => e = .returned (.bool true) ∧ Below W.heap.size W w') := known_any
  have HNM : Hid (∀ n W, Calls Try.prog 13 #[.int .i64 n] W fun x w' => x = .returned (.int .i64 n) ∧ W = w') := num_any
  have hz := fun W => R5.zero_dig W
  obtain ⟨ZL, hZL⟩ : ∃ L, L = (List.replicate 32 (0 : UInt8)).map B8 := ⟨_, rfl⟩
  rw [← hZL] at hz
  have HZL : Hid (ZL.length = 32) := by show _ = _; rw [hZL]; simp
  obtain ⟨hdl, pd, capd, hde, _⟩ := id hc.d
  obtain ⟨hfl, pf, capf, hfe, _⟩ := id hc.f
  obtain ⟨lp, lcap, rfl, hlr⟩ := hls
  have HLS : Hid (∀ k x, ls[k]? = some x → x.2.length = 32 ∧ ∃ b o, lp = some ⟨b, o, none⟩ ∧ ∀ W, Below w.heap.size w W → W.cell? ⟨b, o + k * 33, none⟩ = some (.int .i64 x.1) ∧ W.rangeAt b (o + k * 33 + 1) (x.2.map B8)) := fun k x hx => by
    obtain ⟨h1, b, o, h2, h3⟩ := hlr k x hx
    refine ⟨h1, b, o, h2, fun W hW => ?_⟩
    have h4 := MC.rangeAt_below h3 hW
    refine ⟨h4 0 (.int .i64 x.1) rfl, fun j v hv => ?_⟩
    have := h4 (j + 1) v (by show (x.2.map B8)[j]? = some v; exact hv)
    rw [show o + k * 33 + 1 + j = o + k * 33 + (j + 1) by omega]; exact this
  have HSB : Hid (∀ W, Calls Try.prog 7 #[.agg (caL c dv fv).toArray] W fun e Y => e = .returned (.bool (smB c)) ∧ Below W.heap.size W Y) := fun W => by rw [hde, hfe]; exact small_any W c pd pf capd capf hc.m
  have HTWO : Hid (smB c = true → ∀ W rows, RS w rows W → Calls Try.prog 10 #[.agg (caL c dv fv).toArray] W fun e Y => TwEnd w c c.n.toNat ((W.heap.size, 28, caL c dv fv) :: rows) e Y) := fun h W rows hR => by
    have hs := of_decide_eq_true h
    exact two_any w W c dv fv c.n.toNat rows hc hR (by omega) (by omega) (by omega) (by omega) (by omega)
  have HNN : Hid (smB c = true → ∃ n : Nat, c.n.toNat = n ∧ c.n = (n : Int) ∧ n ≤ 80 ∧ 1 ≤ n ∧ c.D.length ≤ 700) := fun h => by have hs := of_decide_eq_true h; exact ⟨c.n.toNat, rfl, by omega, by omega, by omega, by omega⟩
  have HCLN : Hid _ := caL_len c dv fv hc.m
  have HDD : Hid (∀ d ∈ c.D, d.length = 32) := hdl
  have HDS : Hid (R5.HDs w dv c.D) := hc.d
  have HCA : Hid (c.a < 18446744073709551616) := hc.a
  have HCR : Hid (∀ W : World, W.heap[w.heap.size]? = some (.cells (caL c dv fv).toArray 28 (0, 0)) → CaC w.heap.size c dv fv W) := fun W hW => CaC.of hc.m hW
  have HR0 : Hid _ := ((RS.start w).alloc _ rfl 28 (caL c dv fv)).alloc (w.heap.size + 1) (by simp) 23 (other.map B8)
  have HOO : Hid (other.length = 32) := ho
  obtain ⟨CL, hCL⟩ : ∃ L, caL c dv fv = L := ⟨_, rfl⟩
  obtain ⟨OT, hOT⟩ : ∃ L, other.map B8 = L := ⟨_, rfl⟩
  have HOE : Hid (other.map B8 = OT) := hOT
  have HOTN : Hid (OT.length = 32) := by show _ = _; rw [← hOT]; simpa using ho
  have HMP : Hid (∀ pg W, Calls Try.prog 8 #[.int .i64 pg] W fun e w' => e = .returned (.bool (mayP pg)) ∧ w' = W) := fun pg W => mayPage_any pg W
  rw [hCL] at HSB HTWO HCLN HCR
  rw [hCL, hOT] at HR0 ⊢
  obtain ⟨sb, hsb⟩ : ∃ b, smB c = b := ⟨_, rfl⟩
  rw [hsb] at HSB HTWO HNN
  obtain ⟨ln, hln⟩ : ∃ k, ls.length = k := ⟨_, rfl⟩
  have HLN : Hid (ls.length = ln) := hln
  rw [hln]
  clear hZL hfe hfl hde hdl hc ho hCL hOT hsb hlr hln
  go_enter Try.func3, Try.ntmps3
  go_wp2_with fail
  refine Calls.mono (HK.out _) ?_
  rintro e X0 ⟨rfl, hb0⟩
  have HR1 : Hid _ := HR0.out.step hb0
  clear hb0 HR0 HK
  go_wp2_with (refine wpList_load_mid rfl 28 (.tmp 4) rfl w.heap.size 0 rfl CL _ (MC.rangeAt_row (HR1.out.at 1 rfl)) Try.underlying28 rfl (infoCc CL HCLN.out) ?_)
  refine Calls.mono (HSB.out _) ?_
  rintro e X1 ⟨rfl, hb1⟩
  have HR2 : Hid _ := HR1.out.step hb1
  clear hb1 HR1 HSB
  cases sb with
  | false =>
    have hRS := HR2.out
    clear HTWO HNN
    have HE : Hid (Below w.heap.size w X1) := hRS.bel
    clear hRS
    go_wp2
    go_ret
    exact ⟨rfl, HE.out⟩
  | true =>
    by_cases h12 : ln ≤ 12
    · have h12I : ¬ (12 : Int) < (ln : Int) := by omega
      go_wp2_with fail
      refine Calls.mono (HMP.out pg X1) ?_
      rintro e Y0 ⟨rfl, hy⟩
      rw [hy]
      clear hy Y0
      obtain ⟨mp, hmp⟩ : ∃ b, mayP pg = b := ⟨_, rfl⟩
      rw [hmp]
      cases mp with
      | false =>
        have hRS := HR2.out
        clear HTWO HNN
        have HE : Hid (Below w.heap.size w X1) := hRS.bel
        clear hRS
        go_wp2
        go_ret
        exact ⟨rfl, HE.out⟩
      | true =>
        obtain ⟨p, rfl, hp⟩ := mayP_nat hmp
        obtain ⟨n, hn1, hn2, hn80, hn1b, hD7⟩ := HNN.out (by trivial)
        have HTW : Hid _ := HTWO.out (by trivial)
        rw [hn1] at HTW
        have HN2 : Hid (c.n = (n : Int)) := hn2
        have HC36 : Hid (∀ W : World, W.heap[w.heap.size]? = some (.cells CL.toArray 28 (0, 0)) → W.cell? ⟨w.heap.size, 36, none⟩ = some (.int .u64 (c.a : Int)) ∧ W.cell? ⟨w.heap.size, 34, none⟩ = some (.int .i64 (n : Int)) ∧ W.cell? ⟨w.heap.size, 0, none⟩ = some (.bool c.i) ∧ W.cell? ⟨w.heap.size, 33, none⟩ = some dv) := fun W hW => ⟨(HCR.out W hW).c36, by rw [← HN2.out]; exact (HCR.out W hW).c34, (HCR.out W hW).c0, (HCR.out W hW).c33⟩
        have HRW : Hid (∀ W, Calls Try.prog 9 #[.int .i64 (n : Int), .int .u64 (c.a : Int)] W fun e w' => e = .returned (.bool (witB n c.a)) ∧ w' = W) := fun W => rwit_any n c.a W (by omega) HCA.out
        obtain ⟨c36, c34, _⟩ := HC36.out X1 (HR2.out.at 1 rfl)
        clear HTWO HNN hn1 hn2 hmp HCR HN2
        generalize hca : (c.a : Int) = ca at *
        go_wp2_with fail
        refine Calls.mono (HRW.out X1) ?_
        rintro e Y0 ⟨rfl, hy⟩
        rw [hy]
        clear hy Y0 c36 c34 HRW
        obtain ⟨ok, hok⟩ : ∃ b, witB n c.a = b := ⟨_, rfl⟩
        rw [hok]
        cases ok with
        | false =>
          have hRS := HR2.out
          have HE : Hid (Below w.heap.size w X1) := hRS.bel
          clear hRS
          go_wp2
          go_ret
          exact ⟨rfl, HE.out⟩
        | true =>
          go_wp2_with (refine wpList_load_mid rfl 28 (.tmp 4) rfl w.heap.size 0 rfl CL _ (MC.rangeAt_row (HR2.out.at 1 rfl)) Try.underlying28 rfl (infoCc CL HCLN.out) ?_)
          refine Calls.mono (HTW.out X1 _ HR2.out) ?_
          rintro e X2 ⟨og, mb, rg, mm, gb, rm, bq, rfl, hTM⟩
          have hT0 : TM w og mb rg c.i c.m c.D [] [] mm gb rm bq n (filled n c.F (min c.F.length n)) (filled n c.F (min c.F.length n)) (RW2 w OT CL) X2 := hTM.drop
          clear hTM HTW HR2
          generalize filled n c.F (min c.F.length n) = l at *
          have hgl : gL c.D [] := gL.nil HDD.out
          have hwd := of_decide_eq_true hok
          have hl2 : c.a + 8192 ≤ l.length := by rw [hT0.len1]; omega
          obtain ⟨ht1, ht2⟩ := tree_lay (i := c.i) (L := []) hgl hl2
          have hroot32 : (rootA c.i c.D l c.a []).length = 32 := by unfold rootA; exact (nodeM_good hgl 126).len _
          have hA0 : At c.i c.D c.a p 0 (nodeM c.i c.D l c.a [] 127).2 (nodeM c.i c.D l c.a [] 126).1 (rootA c.i c.D l c.a []) (nodeB (nodeM c.i c.D l c.a [] 126).1 c.a (128 + p)) :=
            ⟨ht1, nodeM_good hgl 127, fun hi => by rw [hi]; exact nodeM_ans (fun i e he => by simp at he) 127, by have := nodeM_log (i := c.i) (D := c.D) (l := l) (a := c.a) (L := []) 127; simp at this; omega, rfl, hroot32⟩
          have hfp := ht2 p hp
          obtain ⟨L1, hL1⟩ : ∃ x, (nodeM c.i c.D l c.a [] 127).2 = x := ⟨_, rfl⟩
          obtain ⟨M1, hM1⟩ : ∃ x, (nodeM c.i c.D l c.a [] 126).1 = x := ⟨_, rfl⟩
          obtain ⟨RA, hRA⟩ : ∃ x, rootA c.i c.D l c.a [] = x := ⟨_, rfl⟩
          rw [hL1, hM1, hRA] at hA0
          rw [hL1, hM1] at hfp
          have HLY : Hid (∀ rws W, TM w og mb rg c.i c.m c.D [] [] mm gb rm bq n l l rws W → Calls Try.prog 11 #[.pointer (some ⟨og, 0, none⟩), .pointer (some ⟨mm, 0, none⟩), .int .u64 ca] W fun e Y => e = .returned (.tuple #[.agg (RA.map B8).toArray, .int .i64 0]) ∧ TM w og mb rg c.i c.m c.D L1 [] mm gb rm bq n M1 l rws Y) := fun rws W hW => by
            rw [← hca]
            exact (hW.play c.a hgl hok (by decide)).mono fun e Y ⟨z, hz, h1, h2⟩ => by
              obtain ⟨r1, r2⟩ := root_same (i := c.i) (L := []) (l := l) (a := c.a) (z := z) hgl hl2 hz
              rw [r1, hRA] at h1
              rw [r2, hL1, lays_same hgl hl2 hz, hM1] at h2
              exact ⟨h1, h2⟩
          have HNO : Hid (∀ rws W, TM w og mb rg c.i c.m c.D L1 [] mm gb rm bq n M1 l rws W → Calls Try.prog 12 #[.pointer (some ⟨og, 0, none⟩), .int .i64 (p : Int)] W fun e Y => e = .returned (.tuple #[.agg ((nodeB M1 c.a (128 + p)).map B8).toArray, .int .i64 0]) ∧ TM w og mb rg c.i c.m c.D L1 [] mm gb rm bq n M1 l rws Y) := fun rws W hW => hW.pnone (by have := hA0.len; omega) p hp hfp
          have HST : Hid (∀ k L M root lat q leaf, At c.i c.D c.a p k L M root lat → k ≤ 12 → q < 128 → leaf.length = 32 → ∀ rws W, TM w og mb rg c.i c.m c.D L [] mm gb rm bq n M l rws W → Calls Try.prog 14 #[.pointer (some ⟨og, 0, none⟩), .pointer (some ⟨mm, 0, none⟩), .int .u64 ca, .int .i64 ((q : Nat) : Int), .agg (leaf.map B8).toArray] W fun e Y => e = .returned (.tuple #[.agg (((upS c.i c.D (nodeB M c.a) (128 + q) leaf L 7).1.getD 7 []).map B8).toArray, .int .i64 0]) ∧ TM w og mb rg c.i c.m c.D (upS c.i c.D (nodeB M c.a) (128 + q) leaf L 7).2 [] mm gb rm bq n (layS M c.a (128 + q) (upS c.i c.D (nodeB M c.a) (128 + q) leaf L 7).1 7) l rws Y) := fun k L M root lat q leaf hA hk hq hl rws W hW => by
            rw [← hca]
            exact hW.pset c.a q leaf hA.good hok hq hl (by have := hA.len; omega)
          have HCH : Hid (∀ k L M root lat leaf, At c.i c.D c.a p k L M root lat → k ≤ 20 → leaf.length = 32 → ∀ rws W, TM w og mb rg c.i c.m c.D L [] mm gb rm bq n M l rws W → Calls Try.prog 15 #[.pointer (some ⟨og, 0, none⟩), .pointer (some ⟨mm, 0, none⟩), .int .u64 ca, .agg (root.map B8).toArray, .int .i64 (p : Int), .agg (leaf.map B8).toArray] W fun e Y => e = .returned (.tuple #[.bool ((upS c.i c.D (nodeB M c.a) (128 + p) leaf L 7).1.getD 7 [] == root), .int .i64 0]) ∧ TM w og mb rg c.i c.m c.D (upS c.i c.D (nodeB M c.a) (128 + p) leaf L 7).2 [] mm gb rm bq n M l rws Y) := fun k L M root lat leaf hA hk hl rws W hW => by
            rw [← hca]
            exact hW.pcheck c.a p root leaf hA.good hok hp hA.r32 hl (by have := hA.len; omega)
          have HA0 : Hid _ := hA0
          have HR32 : Hid (RA.length = 32) := by show _ = _; rw [← hRA]; exact hroot32
          have HL32 : Hid ((nodeB M1 c.a (128 + p)).length = 32) := hA0.l32 hp
          have HP : Hid (p < 128) := hp
          have HD7 : Hid (c.D.length ≤ 700) := hD7
          have HT0 : Hid _ := hT0
          obtain ⟨c36, _⟩ := HC36.out X2 (hT0.at 1 rfl)
          clear hT0 hok hn1b hn80 hgl hwd hl2 ht1 ht2 hroot32 hA0 hfp hL1 hM1 hRA hp hD7 HDD HCA
          go_wp2_with fail
          refine Calls.mono (HLY.out _ _ HT0.out) ?_
          rintro e X3 ⟨rfl, hT3⟩
          have HTA : Hid _ := hT3.alloc X3.heap.size rfl 23 ZL
          clear hT3 HT0 HLY c36
          have HRAL : Hid ((RA.map B8).length = 32) := by show _ = _; simpa using HR32.out
          have HRA1 : Hid _ := R5.B8_onea RA
          go_upto_region 9 with (refine wpList_store_dL rfl (.tmp 14) (.tmp 62) rfl X3.heap.size (RA.map B8) ZL rfl rfl (HTA.out.at 0 rfl) HRAL.out HZL.out HRA1.out ?_; intro X4 e4; have HT4 : Hid _ := HTA.out.put' 0 rfl (RA.map B8); rw [← e4] at HT4; clear e4)
          clear HTA
          generalize X3.heap.size = b14 at *
          go_wp2_with fail
          refine Calls.mono (HNO.out _ _ HT4.out) ?_
          rintro e X5 ⟨rfl, hT5⟩
          have HTB : Hid _ := hT5.alloc X5.heap.size rfl 23 ZL
          clear hT5 HT4 HNO
          have HLAL : Hid (((nodeB M1 c.a (128 + p)).map B8).length = 32) := by show _ = _; simpa using HL32.out
          have HLA1 : Hid _ := R5.B8_onea (nodeB M1 c.a (128 + p))
          go_upto_region 10 with (refine wpList_store_dL rfl (.tmp 16) (.tmp 68) rfl X5.heap.size ((nodeB M1 c.a (128 + p)).map B8) ZL rfl rfl (HTB.out.at 0 rfl) HLAL.out HZL.out HLA1.out ?_; intro X6 e6; have HT6 : Hid _ := HTB.out.put' 0 rfl ((nodeB M1 c.a (128 + p)).map B8); rw [← e6] at HT6; clear e6)
          clear HTB
          generalize X5.heap.size = b16 at *
          go_wp2_with fail
          refine Calls.mono (HNM.out 0 _) ?_
          rintro e Y0 ⟨rfl, hy⟩
          rw [← hy]
          clear hy Y0
          go_wp2_with fail
          refine Calls.mono (HNM.out 0 _) ?_
          rintro e Y0 ⟨rfl, hy⟩
          rw [← hy]
          clear hy Y0
          go_wp2
          go_loopw [15, 18] (fun e t wr => ∃ (k : Nat) (Lk : Lg) (Mk root lat : List UInt8), k ≤ ln ∧ e = .int .i64 0 ∧ t = .int .i64 k ∧ At c.i c.D c.a p k Lk Mk root lat ∧ TM w og mb rg c.i c.m c.D Lk [] mm gb rm bq n Mk l ((b16, 23, lat.map B8) :: (b14, 23, root.map B8) :: RW2 w OT CL) wr) (fun _ t _ => ln - (intOf t).toNat)
          case atStart => exact ⟨0, L1, M1, RA, _, by omega, rfl, rfl, HA0.out, HT6.out⟩
          case round =>
            obtain ⟨k, Lk, Mk, root, lat, hk, rfl, rfl, hA, hT⟩ := hrel
            clear HT6 HA0 HR32 HL32 HRAL HRA1 HLAL HLA1
            by_cases hlt : k < ln
            · have hkI : (k : Int) < (ln : Int) := by omega
              obtain ⟨x, hx⟩ : ∃ x, ls[k]? = some x := ⟨_, List.getElem?_eq_getElem (by have := HLN.out; omega)⟩
              obtain ⟨hx32, b, o, hlp, hcx⟩ := HLS.out k x hx
              subst hlp
              have HCX : Hid (∀ W, Below w.heap.size w W → W.cell? ⟨b, o + k * 33, none⟩ = some (.int .i64 x.1) ∧ W.rangeAt b (o + k * 33 + 1) (x.2.map B8)) := hcx
              obtain ⟨hc1, _⟩ := hcx wr hT.tb.bel
              have HAT : Hid _ := hA
              have HT : Hid _ := hT
              have HK12 : Hid (k < ln ∧ ln ≤ 12) := ⟨hlt, h12⟩
              have HX32 : Hid (x.2.length = 32) := hx32
              obtain ⟨xp, hxp⟩ : ∃ y, x.1 = y := ⟨_, rfl⟩
              obtain ⟨xd, hxd⟩ : ∃ y, x.2 = y := ⟨_, rfl⟩
              rw [hxp] at hc1 HCX
              rw [hxd] at HCX HX32
              clear hx hcx hA hT hx32 hxp hxd
              go_wp2_with fail
              refine Calls.mono (HMP.out xp wr) ?_
              rintro e Y0 ⟨rfl, hy⟩
              rw [hy]
              clear hy Y0
              obtain ⟨mp, hmp⟩ : ∃ b, mayP xp = b := ⟨_, rfl⟩
              rw [hmp]
              cases mp with
              | false =>
                clear hmp hc1
                go_wp2
                go_roundw
                case rel => exact ⟨k + 1, Lk, Mk, root, lat, by have := HK12.out; omega, rfl, by go_num, HAT.out.mono, HT.out⟩
                case measure => have := HK12.out; simp [intOf]; omega
              | true =>
                obtain ⟨q, rfl, hq⟩ := mayP_nat hmp
                have hAN := HAT.out.set HP.out q hq xd HX32.out
                have hC := HST.out k Lk Mk root lat q xd HAT.out (by have := HK12.out; omega) hq HX32.out
                obtain ⟨G, hG⟩ : ∃ g, (upS c.i c.D (nodeB Mk c.a) (128 + q) xd Lk 7).1.getD 7 [] = g := ⟨_, rfl⟩
                obtain ⟨L2, hL2⟩ : ∃ g, (upS c.i c.D (nodeB Mk c.a) (128 + q) xd Lk 7).2 = g := ⟨_, rfl⟩
                obtain ⟨M2, hM2⟩ : ∃ g, layS Mk c.a (128 + q) (upS c.i c.D (nodeB Mk c.a) (128 + q) xd Lk 7).1 7 = g := ⟨_, rfl⟩
                rw [hG, hL2, hM2] at hAN hC
                have HAN : Hid _ := hAN
                have HC : Hid _ := hC
                have HG32 : Hid ((G.map B8).length = 32) := by show _ = _; rw [List.length_map]; exact hAN.r32
                have HG1 : Hid _ := R5.B8_onea G
                have HRTL : Hid ((root.map B8).length = 32) := by show _ = _; rw [List.length_map]; exact HAT.out.r32
                have HLTL : Hid ((lat.map B8).length = 32) := by show _ = _; rw [List.length_map]; exact HAT.out.l32 HP.out
                have HXDL : Hid ((xd.map B8).length = 32) := by show _ = _; rw [List.length_map]; exact HX32.out
                have HXD1 : Hid _ := R5.B8_onea xd
                clear hmp hAN hC hG hL2 hM2 hq hc1
                obtain ⟨GL, hGL⟩ : ∃ g, G.map B8 = g := ⟨_, rfl⟩
                have HGE : Hid (G.map B8 = GL) := hGL
                obtain ⟨XDL, hXDL⟩ : ∃ g, xd.map B8 = g := ⟨_, rfl⟩
                have HXE : Hid (xd.map B8 = XDL) := hXDL
                rw [hGL] at HG32 HG1 HC
                rw [hXDL] at HXDL HXD1 HCX HC
                clear hGL hXDL
                go_upto_region 16 with fail
                have HTD : Hid _ := HT.out.step (Below.refl _ _).drew
                refine wp_region_held_drew (S := fun W => Below w.heap.size w W ∧ W.heap[w.heap.size]? = some (.cells CL.toArray 28 (0, 0))) (by kernel_rfl) ⟨HTD.out.tb.bel, HTD.out.at 3 rfl⟩ (fun hHeld => ?_)
                clear HT
                generalize World.drew _ = V0 at *
                refine wpAnyH_take (i := 0) (oi := { dst := some 90, op := Go.Op.move (Go.Operand.tmp 9), type := 34, pos := _, after := #[], guard := none }) (v := .pointer (some ⟨og, 0, none⟩)) rfl (by kernel_rfl) (by kernel_rfl) (by kernel_rfl) (fun _ _ _ h => h) (Or.inl ⟨by rfl, fun w' hw' => ?_⟩) hHeld ?_
                · first | (go_simp; done) | (go_simp; rfl)
                try simp only [Act.put, List.setIfInBounds_toArray, List.set_cons_zero, List.set_cons_succ]
                refine wpAnyH_take (i := 1) (oi := { dst := some 91, op := Go.Op.move (Go.Operand.tmp 10), type := 35, pos := _, after := #[], guard := none }) (v := .pointer (some ⟨mm, 0, none⟩)) rfl (by kernel_rfl) (by kernel_rfl) (by kernel_rfl) (fun _ _ _ h => h) (Or.inl ⟨by rfl, fun w' hw' => ?_⟩) hHeld ?_
                · first | (go_simp; done) | (go_simp; rfl)
                try simp only [Act.put, List.setIfInBounds_toArray, List.set_cons_zero, List.set_cons_succ]
                refine wpAnyH_take (i := 2) (oi := { dst := some 92, op := Go.Op.fieldAddr 28 (Go.Operand.tmp 4) 5, type := 0, pos := _, after := #[], guard := none }) (v := .pointer (some ⟨w.heap.size, 36, none⟩)) rfl (by kernel_rfl) (by kernel_rfl) (by kernel_rfl) (fun _ _ _ h => h) (Or.inl ⟨by rfl, fun w' hw' => ?_⟩) hHeld ?_
                · first | (go_simp; done) | (go_simp; rfl)
                try simp only [Act.put, List.setIfInBounds_toArray, List.set_cons_zero, List.set_cons_succ]
                refine wpAnyH_take (i := 3) (oi := { dst := some 93, op := Go.Op.load 26 (Go.Operand.tmp 92), type := 26, pos := _, after := #[{ on := 2, ground := Go.Ground.data }], guard := none }) (v := .int .u64 ca) rfl (by kernel_rfl) (by kernel_rfl) (by kernel_rfl) (fun _ _ _ h => h) (Or.inl ⟨by rfl, fun w' hw' => ?_⟩) hHeld ?_
                · have hcc := (HC36.out w' hw'.2).1; first | (go_simp; done) | (go_simp; rfl)
                try simp only [Act.put, List.setIfInBounds_toArray, List.set_cons_zero, List.set_cons_succ]
                refine wpAnyH_take (i := 4) (oi := { dst := some 94, op := Go.Op.move (Go.Operand.tmp 1), type := 29, pos := _, after := #[], guard := none }) (v := .slice (some ⟨b, o, none⟩) ln lcap) rfl (by kernel_rfl) (by kernel_rfl) (by kernel_rfl) (fun _ _ _ h => h) (Or.inl ⟨by rfl, fun w' hw' => ?_⟩) hHeld ?_
                · first | (go_simp; done) | (go_simp; rfl)
                try simp only [Act.put, List.setIfInBounds_toArray, List.set_cons_zero, List.set_cons_succ]
                refine wpAnyH_take (i := 5) (oi := { dst := some 95, op := Go.Op.move (Go.Operand.tmp 18), type := 3, pos := _, after := #[], guard := none }) (v := .int .i64 (k : Int)) rfl (by kernel_rfl) (by kernel_rfl) (by kernel_rfl) (fun _ _ _ h => h) (Or.inl ⟨by rfl, fun w' hw' => ?_⟩) hHeld ?_
                · first | (go_simp; done) | (go_simp; rfl)
                try simp only [Act.put, List.setIfInBounds_toArray, List.set_cons_zero, List.set_cons_succ]
                refine wpAnyH_take (i := 6) (oi := { dst := some 96, op := Go.Op.indexAddr 29 (Go.Operand.tmp 94) (Go.Operand.tmp 95), type := 0, pos := _, after := #[{ on := 4, ground := Go.Ground.data }, { on := 5, ground := Go.Ground.data }], guard := none }) (v := .pointer (some ⟨b, o + k * 33, none⟩)) rfl (by kernel_rfl) (by kernel_rfl) (by kernel_rfl) (fun _ _ _ h => h) (Or.inl ⟨by rfl, fun w' hw' => ?_⟩) hHeld ?_
                · have h8I : ¬ (ln : Int) ≤ (k : Int) := (by have := HK12.out; omega); first | (go_simp; done) | (go_simp; rfl)
                try simp only [Act.put, List.setIfInBounds_toArray, List.set_cons_zero, List.set_cons_succ]
                refine wpAnyH_take (i := 7) (oi := { dst := some 97, op := Go.Op.fieldAddr 46 (Go.Operand.tmp 96) 0, type := 0, pos := _, after := #[{ on := 6, ground := Go.Ground.data }], guard := none }) (v := .pointer (some ⟨b, o + k * 33, none⟩)) rfl (by kernel_rfl) (by kernel_rfl) (by kernel_rfl) (fun _ _ _ h => h) (Or.inl ⟨by rfl, fun w' hw' => ?_⟩) hHeld ?_
                · first | (go_simp; done) | (go_simp; rfl)
                try simp only [Act.put, List.setIfInBounds_toArray, List.set_cons_zero, List.set_cons_succ]
                refine wpAnyH_take (i := 8) (oi := { dst := some 98, op := Go.Op.load 3 (Go.Operand.tmp 97), type := 3, pos := _, after := #[{ on := 7, ground := Go.Ground.data }], guard := none }) (v := .int .i64 (q : Int)) rfl (by kernel_rfl) (by kernel_rfl) (by kernel_rfl) (fun _ _ _ h => h) (Or.inl ⟨by rfl, fun w' hw' => ?_⟩) hHeld ?_
                · have hcc := (HCX.out w' hw'.1).1; first | (go_simp; done) | (go_simp; rfl)
                try simp only [Act.put, List.setIfInBounds_toArray, List.set_cons_zero, List.set_cons_succ]
                refine wpAnyH_take (i := 9) (oi := { dst := some 99, op := Go.Op.move (Go.Operand.tmp 1), type := 29, pos := _, after := #[], guard := none }) (v := .slice (some ⟨b, o, none⟩) ln lcap) rfl (by kernel_rfl) (by kernel_rfl) (by kernel_rfl) (fun _ _ _ h => h) (Or.inl ⟨by rfl, fun w' hw' => ?_⟩) hHeld ?_
                · first | (go_simp; done) | (go_simp; rfl)
                try simp only [Act.put, List.setIfInBounds_toArray, List.set_cons_zero, List.set_cons_succ]
                refine wpAnyH_take (i := 10) (oi := { dst := some 100, op := Go.Op.move (Go.Operand.tmp 18), type := 3, pos := _, after := #[], guard := none }) (v := .int .i64 (k : Int)) rfl (by kernel_rfl) (by kernel_rfl) (by kernel_rfl) (fun _ _ _ h => h) (Or.inl ⟨by rfl, fun w' hw' => ?_⟩) hHeld ?_
                · first | (go_simp; done) | (go_simp; rfl)
                try simp only [Act.put, List.setIfInBounds_toArray, List.set_cons_zero, List.set_cons_succ]
                refine wpAnyH_take (i := 11) (oi := { dst := some 101, op := Go.Op.indexAddr 29 (Go.Operand.tmp 99) (Go.Operand.tmp 100), type := 0, pos := _, after := #[{ on := 9, ground := Go.Ground.data }, { on := 10, ground := Go.Ground.data }], guard := none }) (v := .pointer (some ⟨b, o + k * 33, none⟩)) rfl (by kernel_rfl) (by kernel_rfl) (by kernel_rfl) (fun _ _ _ h => h) (Or.inl ⟨by rfl, fun w' hw' => ?_⟩) hHeld ?_
                · have h8I : ¬ (ln : Int) ≤ (k : Int) := (by have := HK12.out; omega); first | (go_simp; done) | (go_simp; rfl)
                try simp only [Act.put, List.setIfInBounds_toArray, List.set_cons_zero, List.set_cons_succ]
                refine wpAnyH_take (i := 12) (oi := { dst := some 102, op := Go.Op.fieldAddr 46 (Go.Operand.tmp 101) 1, type := 0, pos := _, after := #[{ on := 11, ground := Go.Ground.data }], guard := none }) (v := .pointer (some ⟨b, o + k * 33 + 1, none⟩)) rfl (by kernel_rfl) (by kernel_rfl) (by kernel_rfl) (fun _ _ _ h => h) (Or.inl ⟨by rfl, fun w' hw' => ?_⟩) hHeld ?_
                · first | (go_simp; done) | (go_simp; rfl)
                try simp only [Act.put, List.setIfInBounds_toArray, List.set_cons_zero, List.set_cons_succ]
                refine wpAnyH_take (i := 13) (oi := { dst := some 103, op := Go.Op.load 23 (Go.Operand.tmp 102), type := 23, pos := _, after := #[{ on := 12, ground := Go.Ground.data }], guard := none }) rfl (by kernel_rfl) (by kernel_rfl) (by kernel_rfl) (fun _ _ _ h => h) (yieldsIf_load_mid (by rfl) 23 (.tmp 102) rfl (b) (o + k * 33 + 1) rfl (XDL) _ (fun _ h => (HCX.out _ h.1).2) Try.underlying23 rfl (infoD XDL HXDL.out)) hHeld ?_
                try simp only [Act.put, List.setIfInBounds_toArray, List.set_cons_zero, List.set_cons_succ]
                refine wpAnyH_ready (rs := [14]) (by kernel_rfl) (by simp) ?_
                refine AllReadyH.cons (o := { dst := some 104, op := Go.Op.call { callee := Go.Callee.value (Go.Operand.func 14), args := #[Go.Operand.tmp 90, Go.Operand.tmp 91, Go.Operand.tmp 93, Go.Operand.tmp 98, Go.Operand.tmp 103], argTypes := #[34, 35, 26, 3, 23] }, type := 41, pos := _, after := #[{ on := 0, ground := Go.Ground.data }, { on := 1, ground := Go.Ground.data }, { on := 3, ground := Go.Ground.data }, { on := 8, ground := Go.Ground.data }, { on := 13, ground := Go.Ground.data }], guard := none }) rfl (fun K hK => ?_) AllReadyH.nil
                rw [if_pos (by rfl)]
                go_wp2_with fail
                refine Calls.mono (HC.out _ _ HTD.out) ?_
                rintro e V1 ⟨rfl, hT1⟩
                have HT1 : Hid _ := hT1
                clear hHeld HTD HC
                have hHeld : Below w.heap.size w V1 ∧ V1.heap[w.heap.size]? = some (.cells CL.toArray 28 (0, 0)) := ⟨hT1.tb.bel, hT1.at 3 rfl⟩
                clear hT1
                refine hK.out _ _ hHeld (fun _ => ?_)
                clear hK K
                try simp only [Act.put, List.setIfInBounds_toArray, List.set_cons_zero, List.set_cons_succ]
                refine wpAnyH_take (i := 15) (oi := { dst := some 89, op := Go.Op.move (Go.Operand.tmp 104), type := 41, pos := _, after := #[{ on := 14, ground := Go.Ground.data }], guard := none }) (v := .tuple #[.agg GL.toArray, .int .i64 0]) rfl (by kernel_rfl) (by kernel_rfl) (by kernel_rfl) (fun _ _ _ h => h) (Or.inl ⟨by rfl, fun w' hw' => ?_⟩) hHeld ?_
                · first | (go_simp; done) | (go_simp; rfl)
                try simp only [Act.put, List.setIfInBounds_toArray, List.set_cons_zero, List.set_cons_succ]
                refine wpAnyH_take (i := 16) (oi := { dst := some 105, op := Go.Op.extract (Go.Operand.tmp 89) 0, type := 23, pos := _, after := #[{ on := 15, ground := Go.Ground.data }], guard := none }) (v := .agg GL.toArray) rfl (by kernel_rfl) (by kernel_rfl) (by kernel_rfl) (fun _ _ _ h => h) (Or.inl ⟨by rfl, fun w' hw' => ?_⟩) hHeld ?_
                · first | (go_simp; done) | (go_simp; rfl)
                try simp only [Act.put, List.setIfInBounds_toArray, List.set_cons_zero, List.set_cons_succ]
                refine wpAnyH_take (i := 17) (oi := { dst := some 106, op := Go.Op.extract (Go.Operand.tmp 89) 1, type := 40, pos := _, after := #[{ on := 15, ground := Go.Ground.data }, { on := 18, ground := Go.Ground.gcOnly Go.Departure.lateStores }], guard := none }) (v := .int .i64 0) rfl (by kernel_rfl) (by kernel_rfl) (by kernel_rfl) (fun _ _ _ h => h) (Or.inl ⟨by rfl, fun w' hw' => ?_⟩) hHeld ?_
                · first | (go_simp; done) | (go_simp; rfl)
                try simp only [Act.put, List.setIfInBounds_toArray, List.set_cons_zero, List.set_cons_succ]
                refine wpAnyH_ready (rs := [18]) (by kernel_rfl) (by simp) ?_
                refine AllReadyH.cons (o := { dst := none, op := Go.Op.store 23 (Go.Operand.tmp 14) (Go.Operand.tmp 105), type := 0, pos := _, after := #[{ on := 16, ground := Go.Ground.data }, { on := 14, ground := Go.Ground.chain }, { on := 0, ground := Go.Ground.phase }, { on := 1, ground := Go.Ground.phase }, { on := 2, ground := Go.Ground.phase }, { on := 3, ground := Go.Ground.phase }, { on := 4, ground := Go.Ground.phase }, { on := 5, ground := Go.Ground.phase }, { on := 6, ground := Go.Ground.phase }, { on := 7, ground := Go.Ground.phase }, { on := 8, ground := Go.Ground.phase }, { on := 9, ground := Go.Ground.phase }, { on := 10, ground := Go.Ground.phase }, { on := 11, ground := Go.Ground.phase }, { on := 12, ground := Go.Ground.phase }, { on := 13, ground := Go.Ground.phase }, { on := 14, ground := Go.Ground.phase }, { on := 15, ground := Go.Ground.phase }, { on := 16, ground := Go.Ground.phase }, { on := 17, ground := Go.Ground.textOnly Go.Departure.lateStores }], guard := none }) rfl (fun K hK => ?_) AllReadyH.nil
                rw [if_pos (by rfl)]
                refine wp_store_row 23 (.tmp 14) (.tmp 105) rfl b14 GL.toArray rfl rfl 23 (root.map B8).toArray (HT1.out.at 1 rfl) (infoDa GL HG32.out) (by simp [HG32.out, HRTL.out]) HG1.out ?_
                have HT2 : Hid _ := HT1.out.put' 1 rfl GL
                have hH2 : Below w.heap.size w (V1.setRow b14 GL.toArray) ∧ (V1.setRow b14 GL.toArray).heap[w.heap.size]? = some (.cells CL.toArray 28 (0, 0)) := ⟨HT2.out.tb.bel, HT2.out.at 3 rfl⟩
                generalize V1.setRow b14 GL.toArray = V2 at *
                clear hHeld HT1
                refine hK.out _ _ hH2 (fun _ => ?_)
                clear hK K
                try simp only [Act.put, List.setIfInBounds_toArray, List.set_cons_zero, List.set_cons_succ]
                refine wpAnyH_ready (rs := [19]) (by kernel_rfl) (by simp) ?_
                refine AllReadyH.cons (o := { dst := some 15, op := Go.Op.assign (Go.Operand.tmp 106), type := 40, pos := _, after := #[{ on := 17, ground := Go.Ground.data }, { on := 18, ground := Go.Ground.chain }, { on := 0, ground := Go.Ground.phase }, { on := 1, ground := Go.Ground.phase }, { on := 2, ground := Go.Ground.phase }, { on := 3, ground := Go.Ground.phase }, { on := 4, ground := Go.Ground.phase }, { on := 5, ground := Go.Ground.phase }, { on := 6, ground := Go.Ground.phase }, { on := 7, ground := Go.Ground.phase }, { on := 8, ground := Go.Ground.phase }, { on := 9, ground := Go.Ground.phase }, { on := 10, ground := Go.Ground.phase }, { on := 11, ground := Go.Ground.phase }, { on := 12, ground := Go.Ground.phase }, { on := 13, ground := Go.Ground.phase }, { on := 14, ground := Go.Ground.phase }, { on := 15, ground := Go.Ground.phase }, { on := 16, ground := Go.Ground.phase }, { on := 17, ground := Go.Ground.phase }, { on := 18, ground := Go.Ground.phase }], guard := none }) rfl (fun K hK => ?_) AllReadyH.nil
                rw [if_pos (by rfl)]
                go_wp2_with fail
                refine hK.out _ _ hH2 (fun _ => ?_)
                clear hK K
                try simp only [Act.put, List.setIfInBounds_toArray, List.set_cons_zero, List.set_cons_succ]
                refine wpAnyH_done (by kernel_rfl) ?_ _
                clear hH2
                go_wp2_with fail
                refine Calls.mono (HNM.out 0 _) ?_
                rintro e Y0 ⟨rfl, hy⟩
                rw [← hy]
                clear hy Y0
                have hc1 := (HCX.out V2 HT2.out.tb.bel).1
                by_cases hqp : q = p
                · have hqI : ((q : Int) == (p : Int)) = true := by rw [beq_iff_eq]; omega
                  have HQP : Hid (q = p) := hqp
                  clear hqp
                  have HRX : Hid (V2.rangeAt b (o + k * 33 + 1) XDL) := (HCX.out V2 HT2.out.tb.bel).2
                  go_wp2_with (first
                    | (refine wpList_load_mid rfl 23 (.tmp 120) rfl b (o + k * 33 + 1) rfl XDL _ HRX.out Try.underlying23 rfl (infoD XDL HXDL.out) ?_)
                    | (refine wpList_store_dL rfl (.tmp 16) (.tmp 121) rfl b16 XDL (lat.map B8) rfl rfl (HT2.out.at 0 rfl) HXDL.out HLTL.out HXD1.out ?_; intro V3 e3; have HT3 : Hid _ := HT2.out.put' 0 rfl XDL; rw [← e3] at HT3; clear e3))
                  go_roundw
                  case rel => exact ⟨k + 1, L2, M2, G, xd, by have := HK12.out; omega, rfl, by go_num, by have r := HAN.out; rw [if_pos HQP.out] at r; exact r, by rw [HGE.out, HXE.out]; exact HT3.out⟩
                  case measure => have := HK12.out; simp [intOf]; omega
                · have hqI : ((q : Int) == (p : Int)) = false := by rw [beq_eq_false_iff_ne]; omega
                  have HQP : Hid (¬ q = p) := hqp
                  clear hqp
                  go_wp2_with fail
                  go_roundw
                  case rel => exact ⟨k + 1, L2, M2, G, lat, by have := HK12.out; omega, rfl, by go_num, by have r := HAN.out; rw [if_neg HQP.out] at r; exact r, by rw [HGE.out]; exact HT2.out⟩
                  case measure => have := HK12.out; simp [intOf]; omega
            · have hke : k = ln := by omega
              have hkI : ¬ (k : Int) < (ln : Int) := by omega
              have hul := up_lies (i := c.i) (D := c.D) (j := 128 + p) hA.tree (by omega) (by have := HP.out; omega) 7 (Nat.le_refl _)
              rw [← hA.lat] at hul
              have hc1 := HCH.out k Lk Mk root lat lat hA (by omega) (hA.l32 HP.out)
              rw [hul.1, hul.2.2 rfl, show (root == root) = true by simp] at hc1
              have hc2 := HCH.out k Lk Mk root lat other hA (by omega) HOO.out
              obtain ⟨L2, hL2⟩ : ∃ g, (upS c.i c.D (nodeB Mk c.a) (128 + p) other Lk 7).2 = g := ⟨_, rfl⟩
              obtain ⟨nbo, hnbo⟩ : ∃ g, ((upS c.i c.D (nodeB Mk c.a) (128 + p) other Lk 7).1.getD 7 [] == root) = g := ⟨_, rfl⟩
              rw [hL2, hnbo, HOE.out] at hc2
              have HON : Hid (c.i = true → dst c.D → nbo = (other == lat)) := fun hi hd => by
                have ha := hA.ans hi
                rw [hi] at hnbo hul
                rw [← hnbo]
                by_cases e : other = lat
                · subst e
                  rw [hul.2.2 rfl]; simp
                · have h2 : ¬ (upS true c.D (nodeB Mk c.a) (128 + p) other Lk 7).1.getD 7 [] = root := fun h => e (by
                    rw [hA.lat]
                    exact up_only hd hA.tree ha hA.good (by have := hA.len; omega) (by omega) (by have := HP.out; omega) HOO.out h)
                  rw [beq_eq_false_iff_ne.2 h2, beq_eq_false_iff_ne.2 e]
              have HQ : Hid (∀ W, (Op.equalIn 10000 23 (.agg OT.toArray) (.agg (lat.map B8).toArray)).run Try.prog W = .ok (other == lat) W) := fun W => by rw [← HOE.out]; exact eq_dig W other lat HOO.out (hA.l32 HP.out) _ rfl
              have HC1 : Hid _ := hc1
              have HC2 : Hid _ := hc2
              have HRTL : Hid ((root.map B8).length = 32) := by show _ = _; rw [List.length_map]; exact hA.r32
              have HLTL : Hid ((lat.map B8).length = 32) := by show _ = _; rw [List.length_map]; exact hA.l32 HP.out
              have HT : Hid _ := hT
              obtain ⟨c36, _⟩ := HC36.out wr (hT.at 3 rfl)
              clear hA hT hul hc1 hc2 hL2 hnbo hlt hk HST HCH
              generalize root.map B8 = RTL at *
              generalize lat.map B8 = LTL at *
              obtain ⟨ob, hob⟩ : ∃ g, (other == lat) = g := ⟨_, rfl⟩
              rw [hob] at HON HQ
              clear hob
              go_wp2_with (first
                | (refine wpList_load_mid rfl 23 (.tmp 14) rfl b14 0 rfl RTL _ (MC.rangeAt_row (HT.out.at 1 rfl)) Try.underlying23 rfl (infoD RTL HRTL.out) ?_)
                | (refine wpList_load_mid rfl 23 (.tmp 16) rfl b16 0 rfl LTL _ (MC.rangeAt_row (HT.out.at 0 rfl)) Try.underlying23 rfl (infoD LTL HLTL.out) ?_))
              refine Calls.mono (HC1.out _ _ HT.out) ?_
              rintro e X7 ⟨rfl, hT7⟩
              have HT7 : Hid _ := hT7
              obtain ⟨c36b, _⟩ := HC36.out X7 (hT7.at 3 rfl)
              clear hT7 HT HC1 c36
              go_wp2_with (first
                | (refine wpList_load_mid rfl 23 (.tmp 14) rfl b14 0 rfl RTL _ (MC.rangeAt_row (HT7.out.at 1 rfl)) Try.underlying23 rfl (infoD RTL HRTL.out) ?_)
                | (refine wpList_load_mid rfl 23 (.tmp 7) rfl (w.heap.size + 1) 0 rfl OT _ (MC.rangeAt_row (HT7.out.at 2 rfl)) Try.underlying23 rfl (infoD OT HOTN.out) ?_))
              refine Calls.mono (HC2.out _ _ HT7.out) ?_
              rintro e X8 ⟨rfl, hT8⟩
              have HT8 : Hid _ := hT8
              obtain ⟨_, _, ci, c33⟩ := HC36.out X8 (hT8.at 3 rfl)
              clear hT8 HT7 HC2 c36b HC36
              go_wp2_with fail
              refine Calls.mono (HNM.out 0 _) ?_
              rintro e Y0 ⟨rfl, hy⟩
              rw [← hy]
              clear hy Y0
              go_wp2_with fail
              refine Calls.mono (HNM.out 0 _) ?_
              rintro e Y0 ⟨rfl, hy⟩
              rw [← hy]
              clear hy Y0
              obtain ⟨id, hid⟩ : ∃ b, c.i = b := ⟨_, rfl⟩
              rw [hid] at ci HON
              cases id with
              | false =>
                clear HON HQ c33
                go_wp2
                go_ret
                exact ⟨rfl, HT8.out.tb.bel⟩
              | true =>
                go_wp2_with fail
                refine Calls.mono (distinct_any dv c.D X8 (by have := HD7.out; omega) (R5.hds_below HDS.out HT8.out.tb.bel)) ?_
                rintro e X9 ⟨bd, rfl, hbd, hb9⟩
                have HT9 : Hid _ := HT8.out.step hb9
                clear hb9 HT8 ci c33
                cases bd with
                | false =>
                  clear hbd HON HQ
                  go_wp2
                  go_ret
                  exact ⟨rfl, HT9.out.tb.bel⟩
                | true =>
                  have hno := HON.out (by trivial) (hbd rfl)
                  rw [hno]
                  have heq := HQ.out
                  clear hbd HON hno
                  go_wp2_with (first
                    | (refine R5.load_mid_g (by rfl) 23 (.tmp 7) rfl (w.heap.size + 1) 0 rfl OT _ (MC.rangeAt_row (HT9.out.at 2 rfl)) Try.underlying23 rfl (infoD OT HOTN.out) ?_)
                    | (refine R5.load_mid_g (by rfl) 23 (.tmp 16) rfl b16 0 rfl LTL _ (MC.rangeAt_row (HT9.out.at 0 rfl)) Try.underlying23 rfl (infoD LTL HLTL.out) ?_))
                  go_ret
                  exact ⟨by first | rfl | simp, HT9.out.tb.bel⟩
    · have h12I : (12 : Int) < (ln : Int) := by omega
      have hRS := HR2.out
      clear HTWO HNN
      have HE : Hid (Below w.heap.size w X1) := hRS.bel
      clear hRS
      go_wp2
      go_ret
      exact ⟨rfl, HE.out⟩
end Go.Proofs.Ytnijjoankahddaa.DC
