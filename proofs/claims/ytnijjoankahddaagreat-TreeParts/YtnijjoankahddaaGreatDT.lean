/- tree: the statements' two, walked. -/
import Derived.Test.YtnijjoankahddaaGreatDS
set_option linter.unusedVariables false
set_option linter.unusedSimpArgs false
namespace Go.Proofs.YtnijjoankahddaaGreat.DC
open Go.RowKit

/-- A case in memory. -/
structure CaC (b : Nat) (c : Ca) (dv fv : Value) (W : World) : Prop where
  c0 : W.cell? ⟨b, 0, none⟩ = some (.bool c.i)
  c33 : W.cell? ⟨b, 33, none⟩ = some dv
  c34 : W.cell? ⟨b, 34, none⟩ = some (.int .i64 c.n)
  c35 : W.cell? ⟨b, 35, none⟩ = some fv
  c36 : W.cell? ⟨b, 36, none⟩ = some (.int .u64 (c.a : Int))
  m : W.rangeAt b 1 (c.m.map B8)
theorem CaC.of {b : Nat} {c : Ca} {dv fv : Value} {W : World} {t : TypeId} (hm : c.m.length = 32) (h : W.heap[b]? = some (.cells (caL c dv fv).toArray t (0, 0))) : CaC b c dv fv W := by
  have hc := fun k => cell_of_row W _ k _ _ _ h
  refine ⟨by rw [hc]; rfl, ?_, ?_, ?_, ?_, ?_⟩
  · rw [hc, List.getElem?_toArray]; exact caL_at c dv fv hm 0
  · rw [hc, List.getElem?_toArray]; exact caL_at c dv fv hm 1
  · rw [hc, List.getElem?_toArray]; exact caL_at c dv fv hm 2
  · rw [hc, List.getElem?_toArray]; exact caL_at c dv fv hm 3
  · have q := MC.rangeAt_part (MC.rangeAt_row h) 1 32
    rw [caL_m c dv fv hm, Nat.zero_add] at q
    exact q
theorem filled_len (n : Nat) (F : List (List UInt8)) (hF : ∀ g ∈ F, g.length = 128) : ∀ k, k ≤ F.length → k ≤ n → (filled n F k).length = 128 * n
  | 0, _, _ => by simp [filled]
  | k + 1, h1, h2 => by
    have hk : k < F.length := by omega
    have hg : (F.getD k []).length = 128 := by rw [List.getD_eq_getElem?_getD, List.getElem?_eq_getElem hk]; exact hF _ (List.getElem_mem _)
    unfold filled
    rw [MC.splice_len _ _ _ (by rw [filled_len n F hF k (by omega) (by omega), hg]; omega)]
    exact filled_len n F hF k (by omega) (by omega)
theorem results_tmp5 {fn : Func} {t u v x y : Tmp} (h : fn.results = #[.tmp t, .tmp u, .tmp v, .tmp x, .tmp y]) (tmps : Array Value) (P : Program) (w : World) :
    (results fn tmps).run P w = .ok (.tuple #[tmps.getD t undef, tmps.getD u undef, tmps.getD v undef, tmps.getD x undef, tmps.getD y undef]) w := by
  simp [results, h]
set_option maxHeartbeats 4000000 in
set_option maxRecDepth 100000 in
theorem two_any (w X : World) (c : Ca) (dv fv : Value) (n : Nat) (rows : Rws) (hc : c.ok dv fv w) (hrows : RS w rows X) (hn : c.n = (n : Int)) (h1 : 1 ≤ n) (h2 : n ≤ 4096) (hD : c.D.length ≤ 1000) (hF : c.F.length ≤ 1000) :
    Calls Tryz.prog 8 #[.agg (caL c dv fv).toArray] X fun e Y => TwEnd w c n ((X.heap.size, 28, caL c dv fv) :: rows) e Y := by
  obtain ⟨X0, hX0⟩ : ∃ X0, X0 = X.alloc (.cells (caL c dv fv).toArray 28 (0, 0)) := ⟨_, rfl⟩
  have hb0 : Below X.heap.size X X0 := by rw [hX0]; exact (Below.refl _ _).alloc (Nat.le_refl _) _
  have hwX0 : Below w.heap.size w X0 := hrows.bel.trans (hb0.mono hrows.bel.size)
  have hrow0 : X0.heap[X.heap.size]? = some (.cells (caL c dv fv).toArray 28 (0, 0)) := by rw [hX0]; exact heap_alloc_new _ _
  have HCC : Hid (∀ W, Below X0.heap.size X0 W → CaC X.heap.size c dv fv W) := fun W hW => CaC.of hc.m ((hW.block _ (MC.row_lt hrow0)).trans hrow0)
  have HCR : Hid (∀ W, W.heap[X.heap.size]? = some (.cells (caL c dv fv).toArray 28 (0, 0)) → CaC X.heap.size c dv fv W) := fun W hW => CaC.of hc.m hW
  obtain ⟨hdl, pd, capd, hde, _⟩ := id hc.d
  obtain ⟨hfl, pf, capf, hfe, hfr⟩ := id hc.f
  have hNEW := R5.pnew_any c.i c.m pd c.D.length capd c.D X0 hc.m (hc.dn _ _ _ hde) (by omega) (by rw [← hde]; exact R5.hds_below hc.d hwX0)
  have HNEW : Hid (Calls Tryz.prog 34 #[.bool c.i, .agg (c.m.map B8).toArray, dv] X0 fun e w' => R5.PNew X0 c.i c.m c.D e w') := by rw [hde]; exact hNEW
  have HMN : Hid (∀ W, Calls Tryz.prog 35 #[.int .i64 c.n] W fun e w' => MC.NewEnd W n e w') := fun W => by rw [hn]; exact MC.new_ok n W h1 h2
  have HRN : Hid (∀ W, Calls Tryz.prog 36 #[.int .i64 c.n] W fun e w' => MC.RNewEnd W n e w') := fun W => by rw [hn]; exact MC.rnew_ok n W h1 h2
  have HMI : Hid _ := R5.info32 (c.m.map B8) (by simpa using hc.m)
  obtain ⟨OL, hOL⟩ : ∃ OL, OL = R5.oL c.i c.m dv 0 (.slice none 0 0) := ⟨_, rfl⟩
  have HBO : Hid (∀ W, (Instr.build 61 #[(0, .bool c.i), (1, .agg (c.m.map B8).toArray), (2, dv)]).run Tryz.prog W = .ok (.agg OL.toArray) W) := fun W => by rw [hOL, hde]; exact build_orG W c.i (c.m.map B8) (by simpa using hc.m) pd c.D.length capd
  have HOL : Hid (OL = R5.oL c.i c.m dv 0 (.slice none 0 0)) := hOL
  have HX0 : Hid (X0 = X.alloc (.cells (caL c dv fv).toArray 28 (0, 0))) := hX0
  have HROW : Hid (RS w rows X) := hrows
  have HOK : Hid (c.ok dv fv w) := hc
  have HNM : Hid (∀ n W, Calls Tryz.prog 17 #[.int .i64 n] W fun x w' => x = .returned (.int .i64 n) ∧ W = w') := num_any
  have C0 := HCC.out X0 (Below.refl _ _)
  have k0 := C0.c0
  have k33 := C0.c33
  have HM0 : Hid (X0.rangeAt X.heap.size 1 (c.m.map B8)) := C0.m
  rw [hX0] at k0 k33 HM0 HNEW
  clear hOL hX0 hb0 hwX0 hrow0 hNEW C0
  obtain ⟨CL, hCL⟩ : ∃ L, (caL c dv fv).toArray = L := ⟨_, rfl⟩
  rw [hCL] at k0 k33 HM0 HNEW HX0 ⊢
  have HCL : Hid ((caL c dv fv).toArray = CL) := hCL
  obtain ⟨ci, hci⟩ : ∃ x, c.i = x := ⟨_, rfl⟩
  obtain ⟨cn, hcn⟩ : ∃ x, c.n = x := ⟨_, rfl⟩
  obtain ⟨ML, hML⟩ : ∃ x, c.m.map B8 = x := ⟨_, rfl⟩
  rw [hci] at k0 HNEW HBO
  rw [hML] at HM0 HNEW HBO HMI
  rw [hcn] at HMN HRN
  have HCI : Hid (c.i = ci) := hci
  have HCN : Hid (c.n = cn) := hcn
  have HML : Hid (c.m.map B8 = ML) := hML
  have HFG : Hid (∀ W, Below w.heap.size w W → ∀ k, k < c.F.length → ∃ b o gl, pf = some ⟨b, o, none⟩ ∧ W.rangeAt b (o + k * 128) (gl.map B8) ∧ gl.length = 128 ∧ c.F.getD k [] = gl) := fun W hW k hk => by
    obtain ⟨b, o, h4, h5⟩ := hfr k (c.F[k]) (List.getElem?_eq_getElem hk)
    exact ⟨b, o, _, h4, MC.rangeAt_below h5 hW, hfl _ (List.getElem_mem _), by rw [List.getD_eq_getElem?_getD, List.getElem?_eq_getElem hk]; rfl⟩
  have HFE : Hid (fv = .slice pf c.F.length capf) := hfe
  have HNC : Hid (cn = (n : Int)) := by show _ = _; rw [← hcn]; exact hn
  have hFl : c.F.length ≤ 1000 := hF
  clear hCL hci hcn hML hn hc hrows hdl hde hfl hfe hfr hF hD
  go_enter Tryz.func8, Tryz.ntmps8
  go_wp2_with (refine wpList_load_mid rfl 23 (.tmp 15) rfl X.heap.size 1 rfl ML _ HM0.out Tryz.underlying23 rfl HMI.out ?_)
  refine Calls.mono HNEW.out ?_
  rintro e V1 ⟨og, mb, dvo, rfl, hpo, hbV, hdv⟩
  rw [← HX0.out] at hpo hbV hdv
  rw [← HCI.out] at hpo
  have HPO : Hid (R5.PO X0.heap.size og mb (fun k => k = og ∨ k = mb) V1 ⟨c.i, c.m, c.D, []⟩ dvo (.slice none 0 0)) := hpo
  have HB1 : Hid (Below X0.heap.size X0 V1) := hbV
  have HDV : Hid (∀ k, dvo.ownBlock = some k → X0.heap.size ≤ k) := hdv
  have k34 := (HCC.out V1 hbV).c34
  rw [HCN.out] at k34
  clear hpo hbV hdv k0 k33 HNEW HM0
  go_wp2_with fail
  refine Calls.mono (HMN.out V1) ?_
  rintro e V2 ⟨mm, gb, rfl, hpm, hm1, hm2, hb2⟩
  have HPM : Hid (MC.PM V2 mm gb n (List.replicate (128 * n) 0)) := hpm
  have HM1 : Hid (V1.heap.size ≤ mm) := hm1
  have HM2 : Hid (V1.heap.size ≤ gb) := hm2
  have HB2 : Hid (Below V1.heap.size V1 V2) := hb2
  have hb02 : Below X0.heap.size X0 V2 := HB1.out.trans (hb2.mono HB1.out.size)
  have C2 := HCC.out V2 hb02
  have k0 := C2.c0
  have k33 := C2.c33
  have HM0 : Hid (V2.rangeAt X.heap.size 1 ML) := by have q := C2.m; rw [HML.out] at q; exact q
  rw [HCI.out] at k0
  have hb3 : Below V2.heap.size V2 (V2.alloc (.cells OL.toArray 61 (0, 0))) := (Below.refl _ _).alloc (Nat.le_refl _) _
  have k34b := (HCC.out _ (hb02.trans (hb3.mono hb02.size))).c34
  rw [HCN.out] at k34b
  clear hpm hm1 hm2 hb2 hb02 C2 k34 HMN hb3
  go_wp2_with (first
    | (refine wpList_load_mid rfl 23 (.tmp 28) rfl X.heap.size 1 rfl ML _ HM0.out Tryz.underlying23 rfl HMI.out ?_)
    | (refine R5.wpList_build rfl 61 _ rfl #[(0, .bool ci), (1, .agg ML.toArray), (2, dv)] (.agg OL.toArray) (by simp; first | done | rfl | exact ⟨rfl, rfl, rfl⟩) (HBO.out _) ?_))
  refine Calls.mono (HRN.out _) ?_
  rintro e V4 ⟨rm, bb, rfl, hrm, hr1, hr2, hb4⟩
  have HTM : Hid (TM w og mb V2.heap.size c.i c.m c.D [] [] mm gb rm bb n (List.replicate (128 * n) 0) (List.replicate (128 * n) 0) ((X.heap.size, 28, caL c dv fv) :: rows) V4) := tw_start HOK.out HROW.out (by rw [HCL.out]; exact HX0.out) HPO.out HB1.out HDV.out HPM.out HM1.out HM2.out HB2.out (by rw [← HOL.out]) hrm hr1 hr2 hb4
  clear hrm hr1 hr2 hb4 HRN HPO HB1 HDV HPM HM1 HM2 HB2 HM0 HBO HMI HOL HROW HX0 k0 k33 k34b
  generalize V2.heap.size = rg at *
  go_wp2
  go_loopw [12] (fun i wr => ∃ k : Nat, k ≤ min c.F.length n ∧ i = .int .i64 k ∧ TM w og mb rg c.i c.m c.D [] [] mm gb rm bb n (filled n c.F k) (filled n c.F k) ((X.heap.size, 28, caL c dv fv) :: rows) wr) (fun i _ => min c.F.length n - (intOf i).toNat)
  case atStart => exact ⟨0, by omega, rfl, HTM.out⟩
  case round =>
    obtain ⟨k, hk, rfl, hT⟩ := hrel
    clear HTM
    have HT : Hid _ := hT
    have C2 := HCR.out wr (hT.tb.rs.at 4 rfl)
    have k34 := C2.c34
    have k35 := C2.c35
    rw [HCN.out, HNC.out] at k34
    rw [HFE.out] at k35
    by_cases hlt : k < min c.F.length n
    · obtain ⟨fb, fo, gl, hpf, hgr, hgl, hgd⟩ := HFG.out wr hT.tb.bel k (by omega)
      subst hpf
      have HGR : Hid (wr.rangeAt fb (fo + k * 128) (gl.map B8)) := hgr
      have HGI : Hid _ := MC.info128 (gl.map B8) (by simpa using hgl)
      have HPUT : Hid (Calls Tryz.prog 37 #[.pointer (some ⟨mm, 0, none⟩), .int .i64 (k : Int), .agg (gl.map B8).toArray] wr fun e Y => e = .returned (.int .i64 0) ∧ TM w og mb rg c.i c.m c.D [] [] mm gb rm bb n (splice (filled n c.F k) (128 * k) gl) (filled n c.F k) ((X.heap.size, 28, caL c dv fv) :: rows) Y) := hT.put k gl (by omega) hgl
      have HGD : Hid (splice (filled n c.F k) (128 * k) gl = filled n c.F (k + 1)) := by show _ = _; rw [← hgd]; rfl
      have HGL : Hid (gl.length = 128) := hgl
      have HGE : Hid (c.F.getD k [] = gl) := hgd
      have hk1 : (k : Int) < (c.F.length : Int) := by omega
      have hk2 : (k : Int) < (n : Int) := by omega
      have hk3 : k < c.F.length := by omega
      have hk4 : k < n := by omega
      clear hT C2 hgr hgd hgl
      generalize hGG : gl.map B8 = GG at *
      have HGG : Hid (gl.map B8 = GG) := hGG
      clear hGG
      go_wp2_with (refine wpList_load_mid rfl 76 (.tmp 55) rfl fb (fo + k * 128) rfl GG _ HGR.out Tryz.underlying76 rfl HGI.out ?_)
      refine Calls.mono HPUT.out ?_
      rintro e Y1 ⟨rfl, hT1⟩
      have HT1 : Hid _ := hT1
      clear HPUT HT
      go_wp2_with fail
      refine Calls.mono (HNM.out 0 Y1) ?_
      rintro e Y2 ⟨rfl, hy⟩
      rw [← hy]
      clear hy Y2
      have k35b := (HCR.out Y1 (HT1.out.tb.rs.at 4 rfl)).c35
      rw [HFE.out] at k35b
      obtain ⟨fb2, fo2, gl2, hpf2, hgr2, hgl2, hgd2⟩ := HFG.out Y1 HT1.out.tb.bel k hk3
      rw [HGE.out] at hgd2
      subst hgd2
      obtain ⟨rfl, rfl⟩ : fb = fb2 ∧ fo = fo2 := by simpa using hpf2
      have HGR2 : Hid (Y1.rangeAt fb (fo + k * 128) GG) := by rw [HGG.out] at hgr2; exact hgr2
      have HRP : Hid (Calls Tryz.prog 38 #[.pointer (some ⟨rm, 0, none⟩), .int .i64 (k : Int), .agg GG.toArray] Y1 fun e Y => (∃ v, e = .returned v) ∧ TM w og mb rg c.i c.m c.D [] [] mm gb rm bb n (filled n c.F (k + 1)) (filled n c.F (k + 1)) ((X.heap.size, 28, caL c dv fv) :: rows) Y) := by
        have q := HT1.out.rput k gl hk4 HGL.out
        rw [HGG.out, HGD.out] at q
        exact q
      clear hpf2 hgr2 hgl2 HT1 HGR k34 k35
      go_wp2_with (refine wpList_load_mid rfl 76 (.tmp 65) rfl fb (fo + k * 128) rfl GG _ HGR2.out Tryz.underlying76 rfl HGI.out ?_)
      refine Calls.mono HRP.out ?_
      rintro e Y3 ⟨⟨v3, rfl⟩, hT3⟩
      have HT3 : Hid _ := hT3
      clear HRP hT3 k35b
      go_wp2
      go_roundw
      case rel => exact ⟨k + 1, by omega, by go_num, HT3.out⟩
      case measure => simp [intOf]; omega
    · have hkm : k = min c.F.length n := by omega
      have HEND : Hid (TM w og mb rg c.i c.m c.D [] [] mm gb rm bb n (filled n c.F (min c.F.length n)) (filled n c.F (min c.F.length n)) ((X.heap.size, 28, caL c dv fv) :: rows) wr) := by rw [hkm] at hT; exact hT
      have HNN : Hid (∀ W, Calls Tryz.prog 17 #[.int .i64 0] W fun x w' => x = .returned (.int .i64 0) ∧ W = w') := fun W => HNM.out 0 W
      by_cases hk1 : k < c.F.length
      · have hk1I : (k : Int) < (c.F.length : Int) := by omega
        have hk2I : ¬ (k : Int) < (n : Int) := by omega
        clear hT C2 hk hlt hkm HT
        go_wp2_with fail
        refine Calls.mono (HNN.out wr) ?_
        rintro e Y2 ⟨rfl, hy⟩
        rw [← hy]
        clear hy Y2
        go_wp2
        try simp only [Exit.inBlock, Exit.then]
        refine bodyPost_ret (results_tmp5 rfl _ _ _) rfl ?_
        exact ⟨og, mb, rg, mm, gb, rm, bb, rfl, HEND.out⟩
      · have hk1I : ¬ (k : Int) < (c.F.length : Int) := by omega
        clear hT C2 hk hlt hkm HT
        go_wp2_with fail
        refine Calls.mono (HNN.out wr) ?_
        rintro e Y2 ⟨rfl, hy⟩
        rw [← hy]
        clear hy Y2
        go_wp2
        try simp only [Exit.inBlock, Exit.then]
        refine bodyPost_ret (results_tmp5 rfl _ _ _) rfl ?_
        exact ⟨og, mb, rg, mm, gb, rm, bb, rfl, HEND.out⟩
end Go.Proofs.YtnijjoankahddaaGreat.DC
