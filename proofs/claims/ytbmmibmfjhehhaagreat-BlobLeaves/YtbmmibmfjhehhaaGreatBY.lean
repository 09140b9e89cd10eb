/- BlobLeaves: for any mode, page, counter and granule the statement's function answers true. -/
import Derived.Test.YtbmmibmfjhehhaaGreatBW
import Derived.Test.YtbmmibmfjhehhaaGreatRows
import Derived.WalkKit
import Derived.ChangeOld
import Derived.ProofKit
import Derived.OpenShut
import Derived.Carry
set_option linter.unusedVariables false
set_option linter.unusedSimpArgs false
namespace Go.Proofs.YtbmmibmfjhehhaaGreat.blobLeaves
open Go.ChangeShapes Go.WideShapes Go.ChangeAt Go.RowKit Go.Proofs.YtbmmibmfjhehhaaGreat.BC

abbrev rows0 (w : World) (ML GL : List Value) : Rws := [(w.heap.size + 1, 29, GL), (w.heap.size, 26, ML)]
set_option maxHeartbeats 8000000 in
set_option maxRecDepth 100000 in
theorem walk (c : Mo) (dv : Value) (pg ct : Int) (g : List UInt8) (w : World) (hc : c.ok dv w) (wp : (Lit.int .i64 pg).wf = true) (wc : (Lit.int .u64 ct).wf = true) (hg : g.length = 128) :
    Calls Tryz.prog 4 #[.agg (moL c dv).toArray, .int .i64 pg, .int .u64 ct, .agg (g.map B8).toArray] w fun e w' => e = .returned (.bool true) ∧ Below w.heap.size w w' := by
  have u1 : 0 ≤ ct := by simp [Lit.wf, IntKind.min, IntKind.max, IntKind.signed, IntKind.bits] at wc; omega
  clear wp wc
  have HKN : Hid (∀ W, Calls Tryz.prog 5 #[] W fun e w' => e = .returned (.bool true) ∧ Below W.heap.size W w') := known_any
  have HNM : Hid (∀ n W, Calls Tryz.prog 10 #[.int .i64 n] W fun x w' => x = .returned (.int .i64 n) ∧ W = w') := num_any
  have hcm := hc.1
  have HT0 : Hid (RS w (rows0 w (moL c dv) (g.map B8)) _) := ((RS.start w).alloc w.heap.size rfl 26 (moL c dv)).alloc (w.heap.size + 1) (by simp) 29 (g.map B8)
  have HCC : Hid (∀ W, RS w (rows0 w (moL c dv) (g.map B8)) W → MoC w.heap.size c dv W) := fun W hW => MoC.of hcm (hW.at 1 rfl)
  obtain ⟨_, pd, capd, hde, _⟩ := id hc.2.1
  have HOK : Hid (c.ok dv w) := hc
  clear hc
  subst hde
  have HMI : Hid _ := infoMo (moL c (.slice pd c.D.length capd)) (moL_len c _ hcm)
  by_cases hA : 60 < c.D.length
  · have hAI : (60 : Int) < (c.D.length : Int) := by omega
    clear hA
    generalize moL c (.slice pd c.D.length capd) = MLL at *
    generalize g.map B8 = GL at *
    go_enter Tryz.func4, Tryz.ntmps4
    go_upto_region 1 with fail
    generalize World.alloc _ _ = X0 at *
    have k33 := (HCC.out X0 HT0.out).c33
    go_wp2_with fail
    refine Calls.mono (HKN.out X0) ?_
    rintro e X1 ⟨rfl, hb⟩
    have HT1 : Hid _ := HT0.out.step hb
    clear hb HT0
    go_wp2
    go_ret
    exact ⟨rfl, HT1.out.bel⟩
  have hAI : ¬ (60 : Int) < (c.D.length : Int) := by omega
  have HBOTH : Hid (∀ X rows, RS w rows X → Calls Tryz.prog 6 #[.agg (moL c (.slice pd c.D.length capd)).toArray] X fun e Y => BothEnd w c ((X.heap.size, 26, moL c (.slice pd c.D.length capd)) :: rows) e Y) := fun X rows hX => both_any w X c _ rows HOK.out hX (by omega)
  have hgl : gL c.D [] := gL.nil HOK.out.2.1.1
  have HGN : Hid ((g.map B8).length = 128) := by show _ = _; simpa using hg
  have hzd := fun W => R5.zero_dig W
  obtain ⟨ZD, hZD⟩ : ∃ L, L = (List.replicate 32 (0 : UInt8)).map B8 := ⟨_, rfl⟩
  have HBD : Hid (∀ W : World, (Instr.build 23 #[]).run Tryz.prog W = .ok (.agg ZD.toArray) W) := fun W => by rw [hZD]; exact R5.build_dig W
  have HEV : Hid (R5.errV 2 = .tuple #[.agg ZD.toArray, .int .i64 2]) := by rw [hZD]; exact rfl
  rw [← hZD] at hzd
  have HZDN : Hid (ZD.length = 32) := by show _ = _; rw [hZD]; simp
  have HZD1 : Hid _ := B8_onea (List.replicate 32 (0 : UInt8))
  rw [← hZD] at HZD1
  have HZE : Hid (∀ W, (Op.equalIn 10000 23 (.agg ZD.toArray) (.agg ZD.toArray)).run Tryz.prog W = .ok true W) := fun W => by rw [hZD]; exact eq_dig W _ _ (by simp) (by simp) true (beq_self_eq_true _)
  clear hZD
  cases hm1 : mayB pg ct with
  | true =>
    obtain ⟨p, n, rfl, rfl, hp, hn⟩ := mayB_nat hm1 u1
    have HM1 : Hid (∀ W, Calls Tryz.prog 9 #[.int .i64 (p : Int), .int .u64 (n : Int)] W fun e w' => e = .returned (.bool true) ∧ w' = W) := fun W => by have q := rmay_any p n W; rw [hm1] at q; exact q
    have HM2 : Hid (∀ W, Calls Tryz.prog 9 #[.int .i64 (p : Int), .int .u64 0] W fun e w' => e = .returned (.bool true) ∧ w' = W) := fun W => by have q := rmay_any p 0 W; rw [show mayB p 0 = true from decide_eq_true (by omega)] at q; exact q
    obtain ⟨x, L1, h3⟩ : ∃ x L3, nx2 c.i c.D [] (qLeaf p n g) = (x, L3) := ⟨_, _, rfl⟩
    obtain ⟨y, L2, h4⟩ : ∃ y L4, nx2 c.i c.D L1 (qNone p) = (y, L4) := ⟨_, _, rfl⟩
    have q3 := hgl.ok (i := c.i) (q := qLeaf p n g)
    rw [h3] at q3
    have q4 := q3.2.ok (i := c.i) (q := qNone p)
    simp only at q4
    rw [h4] at q4
    have l3 := nx2_len c.i c.D [] (qLeaf p n g)
    have l4 := nx2_len c.i c.D L1 (qNone p)
    rw [h3] at l3
    rw [h4] at l4
    simp only [List.length_nil] at q3 q4 l3 l4
    have hxl : x.length = 32 := q3.1
    have hyl : y.length = 32 := q4.1
    have HPL : Hid (∀ og mb rg rows X, TB w og mb rg c.i c.m c.D [] [] rows X → Calls Tryz.prog 14 #[.pointer (some ⟨og, 0, none⟩), .int .i64 (p : Int), .int .u64 (n : Int), .agg (g.map B8).toArray] X fun e Y => e = .returned (.tuple #[.agg (x.map B8).toArray, .int .i64 0]) ∧ TB w og mb rg c.i c.m c.D L1 [] rows Y) := fun og mb rg rows X hX => by
      have q := hX.pleaf (by decide) g p n hg hp hn
      rw [h3] at q
      exact q
    have HRL : Hid (∀ og mb rg rows X, TB w og mb rg c.i c.m c.D L1 [] rows X → Calls Tryz.prog 15 #[.pointer (some ⟨rg, 0, none⟩), .int .i64 (p : Int), .int .u64 (n : Int), .agg (g.map B8).toArray] X fun e Y => e = .returned (.agg (x.map B8).toArray) ∧ TB w og mb rg c.i c.m c.D L1 L1 rows Y) := fun og mb rg rows X hX => by
      have q := hX.rleaf (by decide) p n g hg hp hn
      rw [h3] at q
      exact q
    have HPN : Hid (∀ og mb rg rows X, TB w og mb rg c.i c.m c.D L1 L1 rows X → Calls Tryz.prog 16 #[.pointer (some ⟨og, 0, none⟩), .int .i64 (p : Int)] X fun e Y => e = .returned (.tuple #[.agg (y.map B8).toArray, .int .i64 0]) ∧ TB w og mb rg c.i c.m c.D L2 L1 rows Y) := fun og mb rg rows X hX => by
      have q := hX.pnone (by omega) p hp
      rw [h4] at q
      exact q
    have HRN : Hid (∀ og mb rg rows X, TB w og mb rg c.i c.m c.D L2 L1 rows X → Calls Tryz.prog 17 #[.pointer (some ⟨rg, 0, none⟩), .int .i64 (p : Int)] X fun e Y => e = .returned (.agg (y.map B8).toArray) ∧ TB w og mb rg c.i c.m c.D L2 L2 rows Y) := fun og mb rg rows X hX => by
      have q := hX.rnone (by omega) p hp
      rw [h4] at q
      exact q
    have HXX : Hid (∀ W, (Op.equalIn 10000 23 (.agg (x.map B8).toArray) (.agg (x.map B8).toArray)).run Tryz.prog W = .ok true W) := fun W => eq_dig W x x hxl hxl true (beq_self_eq_true _)
    have HYY : Hid (∀ W, (Op.equalIn 10000 23 (.agg (y.map B8).toArray) (.agg (y.map B8).toArray)).run Tryz.prog W = .ok true W) := fun W => eq_dig W y y hyl hyl true (beq_self_eq_true _)
    have HXN : Hid ((x.map B8).length = 32) := by show _ = _; simpa using hxl
    have HYN : Hid ((y.map B8).length = 32) := by show _ = _; simpa using hyl
    have HX1 : Hid _ := B8_onea x
    have HY1 : Hid _ := B8_onea y
    have HLL : Hid (L2.length < 1000000) := (by omega : L2.length < 1000000)
    clear hA hm1 hp hn hgl h3 h4 q3 q4 l3 l4 hxl hyl hg hcm u1
    generalize moL c (.slice pd c.D.length capd) = MLL at *
    generalize g.map B8 = GL at *
    generalize x.map B8 = XL at *
    generalize y.map B8 = YL at *
    go_enter Tryz.func4, Tryz.ntmps4
    go_upto_region 1 with fail
    generalize World.alloc _ _ = X0 at *
    have k33 := (HCC.out X0 HT0.out).c33
    go_wp2_with (refine wpList_load_mid rfl 26 (.tmp 4) rfl w.heap.size 0 rfl MLL _ (rangeAt_row (HT0.out.at 1 rfl)) Tryz.underlying26 rfl HMI.out ?_)
    refine Calls.mono (HBOTH.out X0 _ HT0.out) ?_
    rintro e X2 ⟨og, mb, rg, rfl, hTB⟩
    have HT2 : Hid (TB w og mb rg c.i c.m c.D [] [] (rows0 w MLL GL) X2) := hTB.drop
    clear hTB HT0 k33
    go_wp2_with (refine wpList_load_mid rfl 29 (.tmp 7) rfl (w.heap.size + 1) 0 rfl GL _ (rangeAt_row (HT2.out.rs.at 0 rfl)) Tryz.underlying29 rfl (info128 GL HGN.out) ?_)
    refine Calls.mono (HPL.out _ _ _ _ _ HT2.out) ?_
    rintro e X3 ⟨rfl, hTB⟩
    have HT3 : Hid _ := hTB.alloc X3.heap.size rfl 23 ZD
    clear hTB HT2
    go_upto_region 5 with (refine R5.wpList_store_rowL rfl 23 _ _ rfl X3.heap.size (XL).toArray rfl rfl 23 ZD.toArray (HT3.out.rs.at 0 rfl) (R5.info32a _ (by simp [HXN.out])) (by simp [HXN.out, HZDN.out]) HX1.out ?_; intro X4 e4; have HT4 : Hid _ := HT3.out.put 0 rfl (XL); rw [← e4] at HT4; clear e4)
    have HT5 : Hid (TB w og mb rg c.i c.m c.D L1 [] ((X3.heap.size, 23, XL) :: rows0 w MLL GL) X4) := HT4.out
    clear HT3 HT4
    generalize X3.heap.size = n11 at *
    go_wp2_with fail
    refine Calls.mono (HM1.out X4) ?_
    rintro e X5 ⟨rfl, h2⟩
    rw [h2]
    clear h2 X5
    go_upto_region 6 with fail
    have hTD := HT5.out.step (Below.refl _ _).drew
    refine wp_region_held_drew (S := fun X => RS w ((n11, 23, XL) :: rows0 w MLL GL) X) (by kernel_rfl) hTD.rs (fun hHeld => ?_)
    have HTD : Hid _ := hTD
    clear hTD HT5
    generalize World.drew _ = Y0 at *
    refine wpAnyH_take (i := 0) (oi := ⟨some 36, .load 23 (.tmp 11), 23, _, #[], none⟩) rfl (by kernel_rfl) (by kernel_rfl) (by kernel_rfl) (fun _ _ _ h => h) (yieldsIf_load_mid (by rfl) 23 (.tmp 11) rfl (n11) (0) rfl (XL) _ (fun _ h => rangeAt_row (h.at 0 rfl)) Tryz.underlying23 rfl (R5.info32 XL HXN.out)) hHeld ?_
    try simp only [Act.put, qT, q0, qS]
    refine wpAnyH_take (i := 1) (oi := ⟨some 37, .move (.tmp 10), 32, _, #[], none⟩) (v := .pointer (some ⟨rg, 0, none⟩)) rfl (by kernel_rfl) (by kernel_rfl) (by kernel_rfl) (fun _ _ _ h => h) (Or.inl ⟨by rfl, fun w' hw' => ?_⟩) hHeld ?_
    · first | (go_simp; done) | (go_simp; rfl)
    try simp only [Act.put, qT, q0, qS]
    refine wpAnyH_take (i := 2) (oi := ⟨some 38, .move (.tmp 1), 3, _, #[], none⟩) (v := .int .i64 (p : Int)) rfl (by kernel_rfl) (by kernel_rfl) (by kernel_rfl) (fun _ _ _ h => h) (Or.inl ⟨by rfl, fun w' hw' => ?_⟩) hHeld ?_
    · first | (go_simp; done) | (go_simp; rfl)
    try simp only [Act.put, qT, q0, qS]
    refine wpAnyH_take (i := 3) (oi := ⟨some 39, .move (.tmp 2), 27, _, #[], none⟩) (v := .int .u64 (n : Int)) rfl (by kernel_rfl) (by kernel_rfl) (by kernel_rfl) (fun _ _ _ h => h) (Or.inl ⟨by rfl, fun w' hw' => ?_⟩) hHeld ?_
    · first | (go_simp; done) | (go_simp; rfl)
    try simp only [Act.put, qT, q0, qS]
    refine wpAnyH_take (i := 4) (oi := ⟨some 40, .load 29 (.tmp 7), 29, _, #[], none⟩) rfl (by kernel_rfl) (by kernel_rfl) (by kernel_rfl) (fun _ _ _ h => h) (yieldsIf_load_mid (by rfl) 29 (.tmp 7) rfl (w.heap.size + 1) (0) rfl (GL) _ (fun _ h => rangeAt_row (h.at 1 rfl)) Tryz.underlying29 rfl (info128 GL HGN.out)) hHeld ?_
    try simp only [Act.put, qT, q0, qS]
    refine wpAnyH_ready (rs := [5]) (by kernel_rfl) (by simp) ?_
    refine AllReadyH.cons (o := { dst := some 41, op := .call { callee := Go.Callee.value (.func 15), args := #[.tmp 37, .tmp 38, .tmp 39, .tmp 40], argTypes := #[32, 3, 27, 29] }, type := 23, pos := _, after := #[⟨1, .data⟩, ⟨2, .data⟩, ⟨3, .data⟩, ⟨4, .data⟩], guard := none }) rfl (fun K hK => ?_) AllReadyH.nil
    rw [if_pos (by rfl)]
    go_wp2_with fail
    refine Calls.mono (HRL.out _ _ _ _ _ HTD.out) ?_
    rintro e Y1 ⟨rfl, hTB⟩
    have HT6 : Hid _ := hTB
    have hH1 := hTB.rs
    refine hK.out _ _ hH1 (fun _ => ?_)
    clear hK K
    try simp only [Act.put, qT, q0, qS]
    clear hHeld hTB HTD
    have hHeld := hH1
    clear hH1
    refine wpAnyH_take (i := 6) (oi := ⟨some 42, .binOp .neq 23 (.tmp 36) (.tmp 41) 23, 4, _, #[⟨0, .data⟩, ⟨5, .data⟩], none⟩) (v := .bool false) rfl (by kernel_rfl) (by kernel_rfl) (by kernel_rfl) (fun _ _ _ h => h) (Or.inl ⟨by rfl, fun w' hw' => ?_⟩) hHeld ?_
    · exact run_neq rfl rfl rfl gD (HXX.out w')
    try simp only [Act.put, qT, q0, qS]
    refine wpAnyH_take (i := 7) (oi := ⟨some 43, .move (.tmp 42), 4, _, #[⟨6, .data⟩, ⟨5, .chain⟩], none⟩) (v := .bool false) rfl (by kernel_rfl) (by kernel_rfl) (by kernel_rfl) (fun _ _ _ h => h) (Or.inl ⟨by rfl, fun w' hw' => ?_⟩) hHeld ?_
    · first | (go_simp; done) | (go_simp; rfl)
    try simp only [Act.put, qT, q0, qS]
    refine wpAnyH_take (i := 8) (oi := ⟨some 44, .move (.tmp 12), 35, _, #[⟨7, .guard⟩], some (7, false)⟩) (v := .int .i64 0) rfl (by kernel_rfl) (by kernel_rfl) (by kernel_rfl) (fun _ _ _ h => h) (Or.inl ⟨by rfl, fun w' hw' => ?_⟩) hHeld ?_
    · first | (go_simp; done) | (go_simp; rfl)
    try simp only [Act.put, qT, q0, qS]
    refine wpAnyH_ready (rs := [9]) (by kernel_rfl) (by simp) ?_
    refine AllReadyH.cons (o := { dst := some 45, op := .call { callee := Go.Callee.value (.func 10), args := #[.tmp 44], argTypes := #[35] }, type := 3, pos := _, after := #[⟨8, .data⟩, ⟨7, .chain⟩, ⟨7, .guard⟩], guard := some (7, false) }) rfl (fun K hK => ?_) AllReadyH.nil
    rw [if_pos (by rfl)]
    go_wp2_with fail
    refine Calls.mono (HNM.out 0 Y1) ?_
    rintro e W1 ⟨rfl, hy⟩
    rw [← hy]
    clear hy W1
    refine hK.out _ _ hHeld (fun _ => ?_)
    clear hK K
    try simp only [Act.put, qT, q0, qS]
    refine wpAnyH_take (i := 10) (oi := ⟨some 46, .binOp .neq 3 (.tmp 45) (.const (Go.Value.int Go.IntKind.i64 0)) 3, 4, _, #[⟨9, .data⟩, ⟨7, .guard⟩], some (7, false)⟩) (v := .bool false) rfl (by kernel_rfl) (by kernel_rfl) (by kernel_rfl) (fun _ _ _ h => h) (Or.inl ⟨by rfl, fun w' hw' => ?_⟩) hHeld ?_
    · first | (go_simp; done) | (go_simp; rfl)
    try simp only [Act.put, qT, q0, qS]
    refine wpAnyH_take (i := 11) (oi := ⟨some 47, .pick (.tmp 43) (.const (Go.Value.bool true)) (.tmp 46), 4, _, #[⟨7, .data⟩, ⟨10, .data⟩], none⟩) (v := .bool false) rfl (by kernel_rfl) (by kernel_rfl) (by kernel_rfl) (fun _ _ _ h => h) (Or.inl ⟨by rfl, fun w' hw' => ?_⟩) hHeld ?_
    · first | (go_simp; done) | (go_simp; rfl)
    try simp only [Act.put, qT, q0, qS]
    refine wpAnyH_done (by kernel_rfl) ?_ _
    clear hHeld
    go_wp2_with fail
    refine Calls.mono (HPN.out _ _ _ _ _ HT6.out) ?_
    rintro e X7 ⟨rfl, hTB⟩
    have HT7 : Hid _ := hTB.alloc X7.heap.size rfl 23 ZD
    clear hTB HT6
    go_upto_region 11 with (refine R5.wpList_store_rowL rfl 23 _ _ rfl X7.heap.size (YL).toArray rfl rfl 23 ZD.toArray (HT7.out.rs.at 0 rfl) (R5.info32a _ (by simp [HYN.out])) (by simp [HYN.out, HZDN.out]) HY1.out ?_; intro X8 e8; have HT8 : Hid _ := HT7.out.put 0 rfl (YL); rw [← e8] at HT8; clear e8)
    have HT9 : Hid (TB w og mb rg c.i c.m c.D L2 L1 ((X7.heap.size, 23, YL) :: (n11, 23, XL) :: rows0 w MLL GL) X8) := HT8.out
    clear HT7 HT8
    generalize X7.heap.size = n13 at *
    go_wp2_with fail
    refine Calls.mono (HM2.out X8) ?_
    rintro e X9 ⟨rfl, h2⟩
    rw [h2]
    clear h2 X9
    go_upto_region 12 with fail
    have hTD := HT9.out.step (Below.refl _ _).drew
    refine wp_region_held_drew (S := fun X => RS w ((n13, 23, YL) :: (n11, 23, XL) :: rows0 w MLL GL) X) (by kernel_rfl) hTD.rs (fun hHeld => ?_)
    have HTD : Hid _ := hTD
    clear hTD HT9
    generalize World.drew _ = Y0 at *
    refine wpAnyH_take (i := 0) (oi := ⟨some 64, .load 23 (.tmp 13), 23, _, #[], none⟩) rfl (by kernel_rfl) (by kernel_rfl) (by kernel_rfl) (fun _ _ _ h => h) (yieldsIf_load_mid (by rfl) 23 (.tmp 13) rfl (n13) (0) rfl (YL) _ (fun _ h => rangeAt_row (h.at 0 rfl)) Tryz.underlying23 rfl (R5.info32 YL HYN.out)) hHeld ?_
    try simp only [Act.put, qT, q0, qS]
    refine wpAnyH_take (i := 1) (oi := ⟨some 65, .move (.tmp 10), 32, _, #[], none⟩) (v := .pointer (some ⟨rg, 0, none⟩)) rfl (by kernel_rfl) (by kernel_rfl) (by kernel_rfl) (fun _ _ _ h => h) (Or.inl ⟨by rfl, fun w' hw' => ?_⟩) hHeld ?_
    · first | (go_simp; done) | (go_simp; rfl)
    try simp only [Act.put, qT, q0, qS]
    refine wpAnyH_take (i := 2) (oi := ⟨some 66, .move (.tmp 1), 3, _, #[], none⟩) (v := .int .i64 (p : Int)) rfl (by kernel_rfl) (by kernel_rfl) (by kernel_rfl) (fun _ _ _ h => h) (Or.inl ⟨by rfl, fun w' hw' => ?_⟩) hHeld ?_
    · first | (go_simp; done) | (go_simp; rfl)
    try simp only [Act.put, qT, q0, qS]
    refine wpAnyH_ready (rs := [3]) (by kernel_rfl) (by simp) ?_
    refine AllReadyH.cons (o := { dst := some 67, op := .call { callee := Go.Callee.value (.func 17), args := #[.tmp 65, .tmp 66], argTypes := #[32, 3] }, type := 23, pos := _, after := #[⟨1, .data⟩, ⟨2, .data⟩], guard := none }) rfl (fun K hK => ?_) AllReadyH.nil
    rw [if_pos (by rfl)]
    go_wp2_with fail
    refine Calls.mono (HRN.out _ _ _ _ _ HTD.out) ?_
    rintro e Y1 ⟨rfl, hTB⟩
    have HTA : Hid (TB w og mb rg c.i c.m c.D L2 L2 _ Y1) := hTB
    have hH1 := hTB.rs
    refine hK.out _ _ hH1 (fun _ => ?_)
    clear hK K
    try simp only [Act.put, qT, q0, qS]
    clear hHeld hTB HTD
    have hHeld := hH1
    clear hH1
    refine wpAnyH_take (i := 4) (oi := ⟨some 68, .binOp .neq 23 (.tmp 64) (.tmp 67) 23, 4, _, #[⟨0, .data⟩, ⟨3, .data⟩], none⟩) (v := .bool false) rfl (by kernel_rfl) (by kernel_rfl) (by kernel_rfl) (fun _ _ _ h => h) (Or.inl ⟨by rfl, fun w' hw' => ?_⟩) hHeld ?_
    · exact run_neq rfl rfl rfl gD (HYY.out w')
    try simp only [Act.put, qT, q0, qS]
    refine wpAnyH_take (i := 5) (oi := ⟨some 69, .move (.tmp 68), 4, _, #[⟨4, .data⟩, ⟨3, .chain⟩], none⟩) (v := .bool false) rfl (by kernel_rfl) (by kernel_rfl) (by kernel_rfl) (fun _ _ _ h => h) (Or.inl ⟨by rfl, fun w' hw' => ?_⟩) hHeld ?_
    · first | (go_simp; done) | (go_simp; rfl)
    try simp only [Act.put, qT, q0, qS]
    refine wpAnyH_take (i := 6) (oi := ⟨some 70, .move (.tmp 14), 35, _, #[⟨5, .guard⟩], some (5, false)⟩) (v := .int .i64 0) rfl (by kernel_rfl) (by kernel_rfl) (by kernel_rfl) (fun _ _ _ h => h) (Or.inl ⟨by rfl, fun w' hw' => ?_⟩) hHeld ?_
    · first | (go_simp; done) | (go_simp; rfl)
    try simp only [Act.put, qT, q0, qS]
    refine wpAnyH_ready (rs := [7]) (by kernel_rfl) (by simp) ?_
    refine AllReadyH.cons (o := { dst := some 71, op := .call { callee := Go.Callee.value (.func 10), args := #[.tmp 70], argTypes := #[35] }, type := 3, pos := _, after := #[⟨6, .data⟩, ⟨5, .chain⟩, ⟨5, .guard⟩], guard := some (5, false) }) rfl (fun K hK => ?_) AllReadyH.nil
    rw [if_pos (by rfl)]
    go_wp2_with fail
    refine Calls.mono (HNM.out 0 Y1) ?_
    rintro e W1 ⟨rfl, hy⟩
    rw [← hy]
    clear hy W1
    refine hK.out _ _ hHeld (fun _ => ?_)
    clear hK K
    try simp only [Act.put, qT, q0, qS]
    refine wpAnyH_take (i := 8) (oi := ⟨some 72, .binOp .neq 3 (.tmp 71) (.const (Go.Value.int Go.IntKind.i64 0)) 3, 4, _, #[⟨7, .data⟩, ⟨5, .guard⟩], some (5, false)⟩) (v := .bool false) rfl (by kernel_rfl) (by kernel_rfl) (by kernel_rfl) (fun _ _ _ h => h) (Or.inl ⟨by rfl, fun w' hw' => ?_⟩) hHeld ?_
    · first | (go_simp; done) | (go_simp; rfl)
    try simp only [Act.put, qT, q0, qS]
    refine wpAnyH_take (i := 9) (oi := ⟨some 73, .pick (.tmp 69) (.const (Go.Value.bool true)) (.tmp 72), 4, _, #[⟨5, .data⟩, ⟨8, .data⟩], none⟩) (v := .bool false) rfl (by kernel_rfl) (by kernel_rfl) (by kernel_rfl) (fun _ _ _ h => h) (Or.inl ⟨by rfl, fun w' hw' => ?_⟩) hHeld ?_
    · first | (go_simp; done) | (go_simp; rfl)
    try simp only [Act.put, qT, q0, qS]
    refine wpAnyH_done (by kernel_rfl) ?_ _
    clear hHeld
    go_upto_region 16 with fail
    have hTD := HTA.out.step (Below.refl _ _).drew
    obtain ⟨lv, hlc, hlr⟩ := hTD.rlog
    have HLOG : Hid _ := hTD.log HLL.out
    have HLR : Hid (R5.HLr _ lv L2) := hlr
    have HBE : Hid _ := hTD.bel
    refine wp_region_held_drew (S := fun X => X.cell? ⟨rg, 35, none⟩ = some lv) (by kernel_rfl) hlc (fun hHeld => ?_)
    clear hTD HTA hlc hlr
    generalize World.drew _ = Y0 at *
    refine wpAnyH_take (i := 0) (oi := ⟨some 82, .move (.tmp 9), 31, _, #[], none⟩) (v := .pointer (some ⟨og, 0, none⟩)) rfl (by kernel_rfl) (by kernel_rfl) (by kernel_rfl) (fun _ _ _ h => h) (Or.inl ⟨by rfl, fun w' hw' => ?_⟩) hHeld ?_
    · first | (go_simp; done) | (go_simp; rfl)
    try simp only [Act.put, qT, q0, qS]
    refine wpAnyH_take (i := 2) (oi := ⟨some 84, .move (.tmp 10), 32, _, #[], none⟩) (v := .pointer (some ⟨rg, 0, none⟩)) rfl (by kernel_rfl) (by kernel_rfl) (by kernel_rfl) (fun _ _ _ h => h) (Or.inl ⟨by rfl, fun w' hw' => ?_⟩) hHeld ?_
    · first | (go_simp; done) | (go_simp; rfl)
    try simp only [Act.put, qT, q0, qS]
    refine wpAnyH_take (i := 3) (oi := ⟨some 85, .nilCheck (.tmp 84), 0, _, #[⟨2, .data⟩], none⟩) (v := .pointer (some ⟨rg, 0, none⟩)) rfl (by kernel_rfl) (by kernel_rfl) (by kernel_rfl) (fun _ _ _ h => h) (Or.inl ⟨by rfl, fun w' hw' => ?_⟩) hHeld ?_
    · first | (go_simp; done) | (go_simp; rfl)
    try simp only [Act.put, qT, q0, qS]
    refine wpAnyH_take (i := 4) (oi := ⟨some 86, .fieldAddr 45 (.tmp 85) 4, 0, _, #[⟨3, .data⟩], none⟩) (v := .pointer (some ⟨rg, 35, none⟩)) rfl (by kernel_rfl) (by kernel_rfl) (by kernel_rfl) (fun _ _ _ h => h) (Or.inl ⟨by rfl, fun w' hw' => ?_⟩) hHeld ?_
    · first | (go_simp; done) | (go_simp; rfl)
    try simp only [Act.put, qT, q0, qS]
    refine wpAnyH_take (i := 5) (oi := ⟨some 87, .load 40 (.tmp 86), 40, _, #[⟨4, .data⟩], none⟩) (v := lv) rfl (by kernel_rfl) (by kernel_rfl) (by kernel_rfl) (fun _ _ _ h => h) (Or.inl ⟨by rfl, fun w' hw' => ?_⟩) hHeld ?_
    · have hcc := hw'; first | (go_simp; done) | (go_simp; rfl)
    try simp only [Act.put, qT, q0, qS]
    refine wpAnyH_ready (rs := [1]) (by kernel_rfl) (by simp) ?_
    refine AllReadyH.cons (o := { dst := some 83, op := .call { callee := Go.Callee.value (.func 11), args := #[.tmp 82], argTypes := #[31] }, type := 40, pos := _, after := #[⟨0, .data⟩], guard := none }) rfl (fun K hK => ?_) AllReadyH.nil
    rw [if_pos (by rfl)]
    go_wp2_with fail
    refine Calls.mono HLOG.out ?_
    rintro e Y1 ⟨v1, rfl, hv1, b1⟩
    have hH1 : Y1.cell? ⟨rg, 35, none⟩ = some lv := (b1.cell (block_lt hHeld)).trans hHeld
    have HSL : Hid (Calls Tryz.prog 13 #[v1, lv] Y1 fun e w' => e = .returned (.bool true) ∧ Below Y1.heap.size Y1 w') := (R5.sameLog_any v1 lv L2 L2 Y1 HLL.out HLL.out hv1 (R5.hlr_below HLR.out b1)).mono (fun e w' ⟨h1, h2⟩ => ⟨by rw [h1]; simp, h2⟩)
    have HBE1 : Hid (Below w.heap.size w Y1) := HBE.out.trans (b1.mono HBE.out.size)
    clear b1 hv1 HBE HLOG
    refine hK.out _ _ hH1 (fun _ => ?_)
    clear hK K
    try simp only [Act.put, qT, q0, qS]
    clear hHeld
    have hHeld := hH1
    clear hH1
    refine wpAnyH_ready (rs := [6]) (by kernel_rfl) (by simp) ?_
    refine AllReadyH.cons (o := { dst := some 88, op := .call { callee := Go.Callee.value (.func 13), args := #[.tmp 83, .tmp 87], argTypes := #[40, 40] }, type := 4, pos := _, after := #[⟨1, .data⟩, ⟨5, .data⟩, ⟨1, .chain⟩], guard := none }) rfl (fun K hK => ?_) AllReadyH.nil
    rw [if_pos (by rfl)]
    go_wp2_with fail
    refine Calls.mono HSL.out ?_
    rintro e Y2 ⟨rfl, b1⟩
    have hH1 : Y2.cell? ⟨rg, 35, none⟩ = some lv := (b1.cell (block_lt hHeld)).trans hHeld
    have HBE2 : Hid (Below w.heap.size w Y2) := HBE1.out.trans (b1.mono HBE1.out.size)
    clear b1 HSL HBE1
    refine hK.out _ _ hH1 (fun _ => ?_)
    clear hK K
    try simp only [Act.put, qT, q0, qS]
    clear hHeld
    have hHeld := hH1
    clear hH1
    refine wpAnyH_take (i := 7) (oi := ⟨some 89, .move (.tmp 88), 4, _, #[⟨6, .data⟩, ⟨6, .chain⟩], none⟩) (v := .bool true) rfl (by kernel_rfl) (by kernel_rfl) (by kernel_rfl) (fun _ _ _ h => h) (Or.inl ⟨by rfl, fun w' hw' => ?_⟩) hHeld ?_
    · first | (go_simp; done) | (go_simp; rfl)
    try simp only [Act.put, qT, q0, qS]
    refine wpAnyH_ready (rs := [8]) (by kernel_rfl) (by simp) ?_
    refine AllReadyH.cons (o := { dst := some 90, op := .call { callee := Go.Callee.value (.func 5), args := #[], argTypes := #[] }, type := 4, pos := _, after := #[⟨7, .chain⟩, ⟨7, .guard⟩], guard := some (7, true) }) rfl (fun K hK => ?_) AllReadyH.nil
    rw [if_pos (by rfl)]
    go_wp2_with fail
    refine Calls.mono (HKN.out Y2) ?_
    rintro e Y3 ⟨rfl, b1⟩
    have hH1 : Y3.cell? ⟨rg, 35, none⟩ = some lv := (b1.cell (block_lt hHeld)).trans hHeld
    have HBE3 : Hid (Below w.heap.size w Y3) := HBE2.out.trans (b1.mono HBE2.out.size)
    clear b1 HBE2
    refine hK.out _ _ hH1 (fun _ => ?_)
    clear hK K
    try simp only [Act.put, qT, q0, qS]
    clear hHeld
    have hHeld := hH1
    clear hH1
    refine wpAnyH_take (i := 9) (oi := ⟨some 91, .pick (.tmp 89) (.tmp 90) (.const (Go.Value.bool false)), 4, _, #[⟨7, .data⟩, ⟨8, .data⟩], none⟩) (v := .bool true) rfl (by kernel_rfl) (by kernel_rfl) (by kernel_rfl) (fun _ _ _ h => h) (Or.inl ⟨by rfl, fun w' hw' => ?_⟩) hHeld ?_
    · first | (go_simp; done) | (go_simp; rfl)
    try simp only [Act.put, qT, q0, qS]
    refine wpAnyH_take (i := 10) (oi := ⟨some 8, .assign (.tmp 91), 4, _, #[⟨9, .data⟩, ⟨8, .chain⟩, ⟨0, .phase⟩, ⟨1, .phase⟩, ⟨2, .phase⟩, ⟨3, .phase⟩, ⟨4, .phase⟩, ⟨5, .phase⟩, ⟨6, .phase⟩, ⟨7, .phase⟩, ⟨8, .phase⟩, ⟨9, .phase⟩], none⟩) (v := .bool true) rfl (by kernel_rfl) (by kernel_rfl) (by kernel_rfl) (fun _ _ _ h => h) (Or.inl ⟨by rfl, fun w' hw' => ?_⟩) hHeld ?_
    · first | (go_simp; done) | (go_simp; rfl)
    try simp only [Act.put, qT, q0, qS]
    refine wpAnyH_done (by kernel_rfl) ?_ _
    clear hHeld
    go_wp2
    go_ret
    exact ⟨rfl, HBE3.out⟩
  | false =>
    have HM1 : Hid (∀ W, Calls Tryz.prog 9 #[.int .i64 pg, .int .u64 ct] W fun e w' => e = .returned (.bool false) ∧ w' = W) := fun W => by have q := rmay_any pg ct W; rw [hm1] at q; exact q
    have HPLN : Hid (∀ og mb rg rows X, TB w og mb rg c.i c.m c.D [] [] rows X → Calls Tryz.prog 14 #[.pointer (some ⟨og, 0, none⟩), .int .i64 pg, .int .u64 ct, .agg (g.map B8).toArray] X fun e Y => e = .returned (.tuple #[.agg ZD.toArray, .int .i64 2]) ∧ TB w og mb rg c.i c.m c.D [] [] rows Y) := fun og mb rg rows X hX => by
      rw [← HEV.out]; exact hX.pleaf_no g pg ct hm1
    cases hm2 : mayB pg 0 with
    | true =>
      obtain ⟨p, n, rfl, hn0, hp, _⟩ := mayB_nat hm2 (by decide)
      clear hn0
      have HM2 : Hid (∀ W, Calls Tryz.prog 9 #[.int .i64 (p : Int), .int .u64 0] W fun e w' => e = .returned (.bool true) ∧ w' = W) := fun W => by have q := rmay_any p 0 W; rw [hm2] at q; exact q
      obtain ⟨y, L2, h4⟩ : ∃ y L4, nx2 c.i c.D [] (qNone p) = (y, L4) := ⟨_, _, rfl⟩
      have q4 := hgl.ok (i := c.i) (q := qNone p)
      rw [h4] at q4
      have l4 := nx2_len c.i c.D [] (qNone p)
      rw [h4] at l4
      simp only [List.length_nil] at q4 l4
      have hyl : y.length = 32 := q4.1
      have HPN : Hid (∀ og mb rg rows X, TB w og mb rg c.i c.m c.D [] [] rows X → Calls Tryz.prog 16 #[.pointer (some ⟨og, 0, none⟩), .int .i64 (p : Int)] X fun e Y => e = .returned (.tuple #[.agg (y.map B8).toArray, .int .i64 0]) ∧ TB w og mb rg c.i c.m c.D L2 [] rows Y) := fun og mb rg rows X hX => by
        have q := hX.pnone (by decide) p hp
        rw [h4] at q
        exact q
      have HRN : Hid (∀ og mb rg rows X, TB w og mb rg c.i c.m c.D L2 [] rows X → Calls Tryz.prog 17 #[.pointer (some ⟨rg, 0, none⟩), .int .i64 (p : Int)] X fun e Y => e = .returned (.agg (y.map B8).toArray) ∧ TB w og mb rg c.i c.m c.D L2 L2 rows Y) := fun og mb rg rows X hX => by
        have q := hX.rnone (by decide) p hp
        rw [h4] at q
        exact q
      have HYY : Hid (∀ W, (Op.equalIn 10000 23 (.agg (y.map B8).toArray) (.agg (y.map B8).toArray)).run Tryz.prog W = .ok true W) := fun W => eq_dig W y y hyl hyl true (beq_self_eq_true _)
      have HYN : Hid ((y.map B8).length = 32) := by show _ = _; simpa using hyl
      have HY1 : Hid _ := B8_onea y
      have HLL : Hid (L2.length < 1000000) := (by omega : L2.length < 1000000)
      clear hA hm1 hm2 hp hgl h4 q4 l4 hyl hg hcm u1 HEV
      generalize moL c (.slice pd c.D.length capd) = MLL at *
      generalize g.map B8 = GL at *
      generalize y.map B8 = YL at *
      go_enter Tryz.func4, Tryz.ntmps4
      go_upto_region 1 with fail
      generalize World.alloc _ _ = X0 at *
      have k33 := (HCC.out X0 HT0.out).c33
      go_wp2_with (refine wpList_load_mid rfl 26 (.tmp 4) rfl w.heap.size 0 rfl MLL _ (rangeAt_row (HT0.out.at 1 rfl)) Tryz.underlying26 rfl HMI.out ?_)
      refine Calls.mono (HBOTH.out X0 _ HT0.out) ?_
      rintro e X2 ⟨og, mb, rg, rfl, hTB⟩
      have HT2 : Hid (TB w og mb rg c.i c.m c.D [] [] (rows0 w MLL GL) X2) := hTB.drop
      clear hTB HT0 k33
      go_wp2_with (refine wpList_load_mid rfl 29 (.tmp 7) rfl (w.heap.size + 1) 0 rfl GL _ (rangeAt_row (HT2.out.rs.at 0 rfl)) Tryz.underlying29 rfl (info128 GL HGN.out) ?_)
      refine Calls.mono (HPLN.out _ _ _ _ _ HT2.out) ?_
      rintro e X3 ⟨rfl, hTB⟩
      have HT3 : Hid _ := hTB.alloc X3.heap.size rfl 23 ZD
      clear hTB HT2
      go_upto_region 5 with (refine R5.wpList_store_rowL rfl 23 _ _ rfl X3.heap.size (ZD).toArray rfl rfl 23 ZD.toArray (HT3.out.rs.at 0 rfl) (R5.info32a _ (by simp [HZDN.out])) (by simp [HZDN.out, HZDN.out]) HZD1.out ?_; intro X4 e4; have HT4 : Hid _ := HT3.out.put 0 rfl (ZD); rw [← e4] at HT4; clear e4)
      have HT5 : Hid (TB w og mb rg c.i c.m c.D [] [] ((X3.heap.size, 23, ZD) :: rows0 w MLL GL) X4) := HT4.out
      clear HT3 HT4
      generalize X3.heap.size = n11 at *
      go_wp2_with fail
      refine Calls.mono (HM1.out X4) ?_
      rintro e X5 ⟨rfl, h2⟩
      rw [h2]
      clear h2 X5
      have heq := HZE.out X4
      go_wp2_with (first
        | (refine wpList_load_mid rfl 23 (.tmp 11) rfl n11 0 rfl ZD _ (rangeAt_row (HT5.out.rs.at 0 rfl)) Tryz.underlying23 rfl (R5.info32 ZD HZDN.out) ?_)
        | (refine R5.wpList_build rfl 23 #[] rfl #[] (.agg ZD.toArray) (by simp) (HBD.out _) ?_))
      refine Calls.mono (HNM.out 2 X4) ?_
      rintro e W1 ⟨rfl, rfl⟩
      have HT6 : Hid _ := HT5.out
      clear HT5 heq
      go_wp2_with fail
      refine Calls.mono (HPN.out _ _ _ _ _ HT6.out) ?_
      rintro e X7 ⟨rfl, hTB⟩
      have HT7 : Hid _ := hTB.alloc X7.heap.size rfl 23 ZD
      clear hTB HT6
      go_upto_region 11 with (refine R5.wpList_store_rowL rfl 23 _ _ rfl X7.heap.size (YL).toArray rfl rfl 23 ZD.toArray (HT7.out.rs.at 0 rfl) (R5.info32a _ (by simp [HYN.out])) (by simp [HYN.out, HZDN.out]) HY1.out ?_; intro X8 e8; have HT8 : Hid _ := HT7.out.put 0 rfl (YL); rw [← e8] at HT8; clear e8)
      have HT9 : Hid (TB w og mb rg c.i c.m c.D L2 [] ((X7.heap.size, 23, YL) :: (n11, 23, ZD) :: rows0 w MLL GL) X8) := HT8.out
      clear HT7 HT8
      generalize X7.heap.size = n13 at *
      go_wp2_with fail
      refine Calls.mono (HM2.out X8) ?_
      rintro e X9 ⟨rfl, h2⟩
      rw [h2]
      clear h2 X9
      go_upto_region 12 with fail
      have hTD := HT9.out.step (Below.refl _ _).drew
      refine wp_region_held_drew (S := fun X => RS w ((n13, 23, YL) :: (n11, 23, ZD) :: rows0 w MLL GL) X) (by kernel_rfl) hTD.rs (fun hHeld => ?_)
      have HTD : Hid _ := hTD
      clear hTD HT9
      generalize World.drew _ = Y0 at *
      refine wpAnyH_take (i := 0) (oi := ⟨some 64, .load 23 (.tmp 13), 23, _, #[], none⟩) rfl (by kernel_rfl) (by kernel_rfl) (by kernel_rfl) (fun _ _ _ h => h) (yieldsIf_load_mid (by rfl) 23 (.tmp 13) rfl (n13) (0) rfl (YL) _ (fun _ h => rangeAt_row (h.at 0 rfl)) Tryz.underlying23 rfl (R5.info32 YL HYN.out)) hHeld ?_
      try simp only [Act.put, qT, q0, qS]
      refine wpAnyH_take (i := 1) (oi := ⟨some 65, .move (.tmp 10), 32, _, #[], none⟩) (v := .pointer (some ⟨rg, 0, none⟩)) rfl (by kernel_rfl) (by kernel_rfl) (by kernel_rfl) (fun _ _ _ h => h) (Or.inl ⟨by rfl, fun w' hw' => ?_⟩) hHeld ?_
      · first | (go_simp; done) | (go_simp; rfl)
      try simp only [Act.put, qT, q0, qS]
      refine wpAnyH_take (i := 2) (oi := ⟨some 66, .move (.tmp 1), 3, _, #[], none⟩) (v := .int .i64 (p : Int)) rfl (by kernel_rfl) (by kernel_rfl) (by kernel_rfl) (fun _ _ _ h => h) (Or.inl ⟨by rfl, fun w' hw' => ?_⟩) hHeld ?_
      · first | (go_simp; done) | (go_simp; rfl)
      try simp only [Act.put, qT, q0, qS]
      refine wpAnyH_ready (rs := [3]) (by kernel_rfl) (by simp) ?_
      refine AllReadyH.cons (o := { dst := some 67, op := .call { callee := Go.Callee.value (.func 17), args := #[.tmp 65, .tmp 66], argTypes := #[32, 3] }, type := 23, pos := _, after := #[⟨1, .data⟩, ⟨2, .data⟩], guard := none }) rfl (fun K hK => ?_) AllReadyH.nil
      rw [if_pos (by rfl)]
      go_wp2_with fail
      refine Calls.mono (HRN.out _ _ _ _ _ HTD.out) ?_
      rintro e Y1 ⟨rfl, hTB⟩
      have HTA : Hid (TB w og mb rg c.i c.m c.D L2 L2 _ Y1) := hTB
      have hH1 := hTB.rs
      refine hK.out _ _ hH1 (fun _ => ?_)
      clear hK K
      try simp only [Act.put, qT, q0, qS]
      clear hHeld hTB HTD
      have hHeld := hH1
      clear hH1
      refine wpAnyH_take (i := 4) (oi := ⟨some 68, .binOp .neq 23 (.tmp 64) (.tmp 67) 23, 4, _, #[⟨0, .data⟩, ⟨3, .data⟩], none⟩) (v := .bool false) rfl (by kernel_rfl) (by kernel_rfl) (by kernel_rfl) (fun _ _ _ h => h) (Or.inl ⟨by rfl, fun w' hw' => ?_⟩) hHeld ?_
      · exact run_neq rfl rfl rfl gD (HYY.out w')
      try simp only [Act.put, qT, q0, qS]
      refine wpAnyH_take (i := 5) (oi := ⟨some 69, .move (.tmp 68), 4, _, #[⟨4, .data⟩, ⟨3, .chain⟩], none⟩) (v := .bool false) rfl (by kernel_rfl) (by kernel_rfl) (by kernel_rfl) (fun _ _ _ h => h) (Or.inl ⟨by rfl, fun w' hw' => ?_⟩) hHeld ?_
      · first | (go_simp; done) | (go_simp; rfl)
      try simp only [Act.put, qT, q0, qS]
      refine wpAnyH_take (i := 6) (oi := ⟨some 70, .move (.tmp 14), 35, _, #[⟨5, .guard⟩], some (5, false)⟩) (v := .int .i64 0) rfl (by kernel_rfl) (by kernel_rfl) (by kernel_rfl) (fun _ _ _ h => h) (Or.inl ⟨by rfl, fun w' hw' => ?_⟩) hHeld ?_
      · first | (go_simp; done) | (go_simp; rfl)
      try simp only [Act.put, qT, q0, qS]
      refine wpAnyH_ready (rs := [7]) (by kernel_rfl) (by simp) ?_
      refine AllReadyH.cons (o := { dst := some 71, op := .call { callee := Go.Callee.value (.func 10), args := #[.tmp 70], argTypes := #[35] }, type := 3, pos := _, after := #[⟨6, .data⟩, ⟨5, .chain⟩, ⟨5, .guard⟩], guard := some (5, false) }) rfl (fun K hK => ?_) AllReadyH.nil
      rw [if_pos (by rfl)]
      go_wp2_with fail
      refine Calls.mono (HNM.out 0 Y1) ?_
      rintro e W1 ⟨rfl, hy⟩
      rw [← hy]
      clear hy W1
      refine hK.out _ _ hHeld (fun _ => ?_)
      clear hK K
      try simp only [Act.put, qT, q0, qS]
      refine wpAnyH_take (i := 8) (oi := ⟨some 72, .binOp .neq 3 (.tmp 71) (.const (Go.Value.int Go.IntKind.i64 0)) 3, 4, _, #[⟨7, .data⟩, ⟨5, .guard⟩], some (5, false)⟩) (v := .bool false) rfl (by kernel_rfl) (by kernel_rfl) (by kernel_rfl) (fun _ _ _ h => h) (Or.inl ⟨by rfl, fun w' hw' => ?_⟩) hHeld ?_
      · first | (go_simp; done) | (go_simp; rfl)
      try simp only [Act.put, qT, q0, qS]
      refine wpAnyH_take (i := 9) (oi := ⟨some 73, .pick (.tmp 69) (.const (Go.Value.bool true)) (.tmp 72), 4, _, #[⟨5, .data⟩, ⟨8, .data⟩], none⟩) (v := .bool false) rfl (by kernel_rfl) (by kernel_rfl) (by kernel_rfl) (fun _ _ _ h => h) (Or.inl ⟨by rfl, fun w' hw' => ?_⟩) hHeld ?_
      · first | (go_simp; done) | (go_simp; rfl)
      try simp only [Act.put, qT, q0, qS]
      refine wpAnyH_done (by kernel_rfl) ?_ _
      clear hHeld
      go_upto_region 16 with fail
      have hTD := HTA.out.step (Below.refl _ _).drew
      obtain ⟨lv, hlc, hlr⟩ := hTD.rlog
      have HLOG : Hid _ := hTD.log HLL.out
      have HLR : Hid (R5.HLr _ lv L2) := hlr
      have HBE : Hid _ := hTD.bel
      refine wp_region_held_drew (S := fun X => X.cell? ⟨rg, 35, none⟩ = some lv) (by kernel_rfl) hlc (fun hHeld => ?_)
      clear hTD HTA hlc hlr
      generalize World.drew _ = Y0 at *
      refine wpAnyH_take (i := 0) (oi := ⟨some 82, .move (.tmp 9), 31, _, #[], none⟩) (v := .pointer (some ⟨og, 0, none⟩)) rfl (by kernel_rfl) (by kernel_rfl) (by kernel_rfl) (fun _ _ _ h => h) (Or.inl ⟨by rfl, fun w' hw' => ?_⟩) hHeld ?_
      · first | (go_simp; done) | (go_simp; rfl)
      try simp only [Act.put, qT, q0, qS]
      refine wpAnyH_take (i := 2) (oi := ⟨some 84, .move (.tmp 10), 32, _, #[], none⟩) (v := .pointer (some ⟨rg, 0, none⟩)) rfl (by kernel_rfl) (by kernel_rfl) (by kernel_rfl) (fun _ _ _ h => h) (Or.inl ⟨by rfl, fun w' hw' => ?_⟩) hHeld ?_
      · first | (go_simp; done) | (go_simp; rfl)
      try simp only [Act.put, qT, q0, qS]
      refine wpAnyH_take (i := 3) (oi := ⟨some 85, .nilCheck (.tmp 84), 0, _, #[⟨2, .data⟩], none⟩) (v := .pointer (some ⟨rg, 0, none⟩)) rfl (by kernel_rfl) (by kernel_rfl) (by kernel_rfl) (fun _ _ _ h => h) (Or.inl ⟨by rfl, fun w' hw' => ?_⟩) hHeld ?_
      · first | (go_simp; done) | (go_simp; rfl)
      try simp only [Act.put, qT, q0, qS]
      refine wpAnyH_take (i := 4) (oi := ⟨some 86, .fieldAddr 45 (.tmp 85) 4, 0, _, #[⟨3, .data⟩], none⟩) (v := .pointer (some ⟨rg, 35, none⟩)) rfl (by kernel_rfl) (by kernel_rfl) (by kernel_rfl) (fun _ _ _ h => h) (Or.inl ⟨by rfl, fun w' hw' => ?_⟩) hHeld ?_
      · first | (go_simp; done) | (go_simp; rfl)
      try simp only [Act.put, qT, q0, qS]
      refine wpAnyH_take (i := 5) (oi := ⟨some 87, .load 40 (.tmp 86), 40, _, #[⟨4, .data⟩], none⟩) (v := lv) rfl (by kernel_rfl) (by kernel_rfl) (by kernel_rfl) (fun _ _ _ h => h) (Or.inl ⟨by rfl, fun w' hw' => ?_⟩) hHeld ?_
      · have hcc := hw'; first | (go_simp; done) | (go_simp; rfl)
      try simp only [Act.put, qT, q0, qS]
      refine wpAnyH_ready (rs := [1]) (by kernel_rfl) (by simp) ?_
      refine AllReadyH.cons (o := { dst := some 83, op := .call { callee := Go.Callee.value (.func 11), args := #[.tmp 82], argTypes := #[31] }, type := 40, pos := _, after := #[⟨0, .data⟩], guard := none }) rfl (fun K hK => ?_) AllReadyH.nil
      rw [if_pos (by rfl)]
      go_wp2_with fail
      refine Calls.mono HLOG.out ?_
      rintro e Y1 ⟨v1, rfl, hv1, b1⟩
      have hH1 : Y1.cell? ⟨rg, 35, none⟩ = some lv := (b1.cell (block_lt hHeld)).trans hHeld
      have HSL : Hid (Calls Tryz.prog 13 #[v1, lv] Y1 fun e w' => e = .returned (.bool true) ∧ Below Y1.heap.size Y1 w') := (R5.sameLog_any v1 lv L2 L2 Y1 HLL.out HLL.out hv1 (R5.hlr_below HLR.out b1)).mono (fun e w' ⟨h1, h2⟩ => ⟨by rw [h1]; simp, h2⟩)
      have HBE1 : Hid (Below w.heap.size w Y1) := HBE.out.trans (b1.mono HBE.out.size)
      clear b1 hv1 HBE HLOG
      refine hK.out _ _ hH1 (fun _ => ?_)
      clear hK K
      try simp only [Act.put, qT, q0, qS]
      clear hHeld
      have hHeld := hH1
      clear hH1
      refine wpAnyH_ready (rs := [6]) (by kernel_rfl) (by simp) ?_
      refine AllReadyH.cons (o := { dst := some 88, op := .call { callee := Go.Callee.value (.func 13), args := #[.tmp 83, .tmp 87], argTypes := #[40, 40] }, type := 4, pos := _, after := #[⟨1, .data⟩, ⟨5, .data⟩, ⟨1, .chain⟩], guard := none }) rfl (fun K hK => ?_) AllReadyH.nil
      rw [if_pos (by rfl)]
      go_wp2_with fail
      refine Calls.mono HSL.out ?_
      rintro e Y2 ⟨rfl, b1⟩
      have hH1 : Y2.cell? ⟨rg, 35, none⟩ = some lv := (b1.cell (block_lt hHeld)).trans hHeld
      have HBE2 : Hid (Below w.heap.size w Y2) := HBE1.out.trans (b1.mono HBE1.out.size)
      clear b1 HSL HBE1
      refine hK.out _ _ hH1 (fun _ => ?_)
      clear hK K
      try simp only [Act.put, qT, q0, qS]
      clear hHeld
      have hHeld := hH1
      clear hH1
      refine wpAnyH_take (i := 7) (oi := ⟨some 89, .move (.tmp 88), 4, _, #[⟨6, .data⟩, ⟨6, .chain⟩], none⟩) (v := .bool true) rfl (by kernel_rfl) (by kernel_rfl) (by kernel_rfl) (fun _ _ _ h => h) (Or.inl ⟨by rfl, fun w' hw' => ?_⟩) hHeld ?_
      · first | (go_simp; done) | (go_simp; rfl)
      try simp only [Act.put, qT, q0, qS]
      refine wpAnyH_ready (rs := [8]) (by kernel_rfl) (by simp) ?_
      refine AllReadyH.cons (o := { dst := some 90, op := .call { callee := Go.Callee.value (.func 5), args := #[], argTypes := #[] }, type := 4, pos := _, after := #[⟨7, .chain⟩, ⟨7, .guard⟩], guard := some (7, true) }) rfl (fun K hK => ?_) AllReadyH.nil
      rw [if_pos (by rfl)]
      go_wp2_with fail
      refine Calls.mono (HKN.out Y2) ?_
      rintro e Y3 ⟨rfl, b1⟩
      have hH1 : Y3.cell? ⟨rg, 35, none⟩ = some lv := (b1.cell (block_lt hHeld)).trans hHeld
      have HBE3 : Hid (Below w.heap.size w Y3) := HBE2.out.trans (b1.mono HBE2.out.size)
      clear b1 HBE2
      refine hK.out _ _ hH1 (fun _ => ?_)
      clear hK K
      try simp only [Act.put, qT, q0, qS]
      clear hHeld
      have hHeld := hH1
      clear hH1
      refine wpAnyH_take (i := 9) (oi := ⟨some 91, .pick (.tmp 89) (.tmp 90) (.const (Go.Value.bool false)), 4, _, #[⟨7, .data⟩, ⟨8, .data⟩], none⟩) (v := .bool true) rfl (by kernel_rfl) (by kernel_rfl) (by kernel_rfl) (fun _ _ _ h => h) (Or.inl ⟨by rfl, fun w' hw' => ?_⟩) hHeld ?_
      · first | (go_simp; done) | (go_simp; rfl)
      try simp only [Act.put, qT, q0, qS]
      refine wpAnyH_take (i := 10) (oi := ⟨some 8, .assign (.tmp 91), 4, _, #[⟨9, .data⟩, ⟨8, .chain⟩, ⟨0, .phase⟩, ⟨1, .phase⟩, ⟨2, .phase⟩, ⟨3, .phase⟩, ⟨4, .phase⟩, ⟨5, .phase⟩, ⟨6, .phase⟩, ⟨7, .phase⟩, ⟨8, .phase⟩, ⟨9, .phase⟩], none⟩) (v := .bool true) rfl (by kernel_rfl) (by kernel_rfl) (by kernel_rfl) (fun _ _ _ h => h) (Or.inl ⟨by rfl, fun w' hw' => ?_⟩) hHeld ?_
      · first | (go_simp; done) | (go_simp; rfl)
      try simp only [Act.put, qT, q0, qS]
      refine wpAnyH_done (by kernel_rfl) ?_ _
      clear hHeld
      go_wp2
      go_ret
      exact ⟨rfl, HBE3.out⟩
    | false =>
      have HM2 : Hid (∀ W, Calls Tryz.prog 9 #[.int .i64 pg, .int .u64 0] W fun e w' => e = .returned (.bool false) ∧ w' = W) := fun W => by have q := rmay_any pg 0 W; rw [hm2] at q; exact q
      have HPNN : Hid (∀ og mb rg rows X, TB w og mb rg c.i c.m c.D [] [] rows X → Calls Tryz.prog 16 #[.pointer (some ⟨og, 0, none⟩), .int .i64 pg] X fun e Y => e = .returned (.tuple #[.agg ZD.toArray, .int .i64 2]) ∧ TB w og mb rg c.i c.m c.D [] [] rows Y) := fun og mb rg rows X hX => by
        rw [← HEV.out]; exact hX.pnone_no pg hm2
      have HLL : Hid (([] : Lg).length < 1000000) := (by decide : ([] : Lg).length < 1000000)
      clear hA hm1 hm2 hgl hg hcm u1 HEV
      generalize moL c (.slice pd c.D.length capd) = MLL at *
      generalize g.map B8 = GL at *
      go_enter Tryz.func4, Tryz.ntmps4
      go_upto_region 1 with fail
      generalize World.alloc _ _ = X0 at *
      have k33 := (HCC.out X0 HT0.out).c33
      go_wp2_with (refine wpList_load_mid rfl 26 (.tmp 4) rfl w.heap.size 0 rfl MLL _ (rangeAt_row (HT0.out.at 1 rfl)) Tryz.underlying26 rfl HMI.out ?_)
      refine Calls.mono (HBOTH.out X0 _ HT0.out) ?_
      rintro e X2 ⟨og, mb, rg, rfl, hTB⟩
      have HT2 : Hid (TB w og mb rg c.i c.m c.D [] [] (rows0 w MLL GL) X2) := hTB.drop
      clear hTB HT0 k33
      go_wp2_with (refine wpList_load_mid rfl 29 (.tmp 7) rfl (w.heap.size + 1) 0 rfl GL _ (rangeAt_row (HT2.out.rs.at 0 rfl)) Tryz.underlying29 rfl (info128 GL HGN.out) ?_)
      refine Calls.mono (HPLN.out _ _ _ _ _ HT2.out) ?_
      rintro e X3 ⟨rfl, hTB⟩
      have HT3 : Hid _ := hTB.alloc X3.heap.size rfl 23 ZD
      clear hTB HT2
      go_upto_region 5 with (refine R5.wpList_store_rowL rfl 23 _ _ rfl X3.heap.size (ZD).toArray rfl rfl 23 ZD.toArray (HT3.out.rs.at 0 rfl) (R5.info32a _ (by simp [HZDN.out])) (by simp [HZDN.out, HZDN.out]) HZD1.out ?_; intro X4 e4; have HT4 : Hid _ := HT3.out.put 0 rfl (ZD); rw [← e4] at HT4; clear e4)
      have HT5 : Hid (TB w og mb rg c.i c.m c.D [] [] ((X3.heap.size, 23, ZD) :: rows0 w MLL GL) X4) := HT4.out
      clear HT3 HT4
      generalize X3.heap.size = n11 at *
      go_wp2_with fail
      refine Calls.mono (HM1.out X4) ?_
      rintro e X5 ⟨rfl, h2⟩
      rw [h2]
      clear h2 X5
      have heq := HZE.out X4
      go_wp2_with (first
        | (refine wpList_load_mid rfl 23 (.tmp 11) rfl n11 0 rfl ZD _ (rangeAt_row (HT5.out.rs.at 0 rfl)) Tryz.underlying23 rfl (R5.info32 ZD HZDN.out) ?_)
        | (refine R5.wpList_build rfl 23 #[] rfl #[] (.agg ZD.toArray) (by simp) (HBD.out _) ?_))
      refine Calls.mono (HNM.out 2 X4) ?_
      rintro e W1 ⟨rfl, rfl⟩
      have HT6 : Hid _ := HT5.out
      clear HT5 heq
      go_wp2_with fail
      refine Calls.mono (HPNN.out _ _ _ _ _ HT6.out) ?_
      rintro e X7 ⟨rfl, hTB⟩
      have HT7 : Hid _ := hTB.alloc X7.heap.size rfl 23 ZD
      clear hTB HT6
      go_upto_region 11 with (refine R5.wpList_store_rowL rfl 23 _ _ rfl X7.heap.size (ZD).toArray rfl rfl 23 ZD.toArray (HT7.out.rs.at 0 rfl) (R5.info32a _ (by simp [HZDN.out])) (by simp [HZDN.out, HZDN.out]) HZD1.out ?_; intro X8 e8; have HT8 : Hid _ := HT7.out.put 0 rfl (ZD); rw [← e8] at HT8; clear e8)
      have HT9 : Hid (TB w og mb rg c.i c.m c.D [] [] ((X7.heap.size, 23, ZD) :: (n11, 23, ZD) :: rows0 w MLL GL) X8) := HT8.out
      clear HT7 HT8
      generalize X7.heap.size = n13 at *
      go_wp2_with fail
      refine Calls.mono (HM2.out X8) ?_
      rintro e X9 ⟨rfl, h2⟩
      rw [h2]
      clear h2 X9
      have heq := HZE.out X8
      go_wp2_with (first
        | (refine wpList_load_mid rfl 23 (.tmp 13) rfl n13 0 rfl ZD _ (rangeAt_row (HT9.out.rs.at 0 rfl)) Tryz.underlying23 rfl (R5.info32 ZD HZDN.out) ?_)
        | (refine R5.wpList_build rfl 23 #[] rfl #[] (.agg ZD.toArray) (by simp) (HBD.out _) ?_))
      refine Calls.mono (HNM.out 2 X8) ?_
      rintro e W1 ⟨rfl, rfl⟩
      have HTA : Hid _ := HT9.out
      clear HT9 heq
      go_upto_region 16 with fail
      have hTD := HTA.out.step (Below.refl _ _).drew
      obtain ⟨lv, hlc, hlr⟩ := hTD.rlog
      have HLOG : Hid _ := hTD.log HLL.out
      have HLR : Hid (R5.HLr _ lv ([] : Lg)) := hlr
      have HBE : Hid _ := hTD.bel
      refine wp_region_held_drew (S := fun X => X.cell? ⟨rg, 35, none⟩ = some lv) (by kernel_rfl) hlc (fun hHeld => ?_)
      clear hTD HTA hlc hlr
      generalize World.drew _ = Y0 at *
      refine wpAnyH_take (i := 0) (oi := ⟨some 82, .move (.tmp 9), 31, _, #[], none⟩) (v := .pointer (some ⟨og, 0, none⟩)) rfl (by kernel_rfl) (by kernel_rfl) (by kernel_rfl) (fun _ _ _ h => h) (Or.inl ⟨by rfl, fun w' hw' => ?_⟩) hHeld ?_
      · first | (go_simp; done) | (go_simp; rfl)
      try simp only [Act.put, qT, q0, qS]
      refine wpAnyH_take (i := 2) (oi := ⟨some 84, .move (.tmp 10), 32, _, #[], none⟩) (v := .pointer (some ⟨rg, 0, none⟩)) rfl (by kernel_rfl) (by kernel_rfl) (by kernel_rfl) (fun _ _ _ h => h) (Or.inl ⟨by rfl, fun w' hw' => ?_⟩) hHeld ?_
      · first | (go_simp; done) | (go_simp; rfl)
      try simp only [Act.put, qT, q0, qS]
      refine wpAnyH_take (i := 3) (oi := ⟨some 85, .nilCheck (.tmp 84), 0, _, #[⟨2, .data⟩], none⟩) (v := .pointer (some ⟨rg, 0, none⟩)) rfl (by kernel_rfl) (by kernel_rfl) (by kernel_rfl) (fun _ _ _ h => h) (Or.inl ⟨by rfl, fun w' hw' => ?_⟩) hHeld ?_
      · first | (go_simp; done) | (go_simp; rfl)
      try simp only [Act.put, qT, q0, qS]
      refine wpAnyH_take (i := 4) (oi := ⟨some 86, .fieldAddr 45 (.tmp 85) 4, 0, _, #[⟨3, .data⟩], none⟩) (v := .pointer (some ⟨rg, 35, none⟩)) rfl (by kernel_rfl) (by kernel_rfl) (by kernel_rfl) (fun _ _ _ h => h) (Or.inl ⟨by rfl, fun w' hw' => ?_⟩) hHeld ?_
      · first | (go_simp; done) | (go_simp; rfl)
      try simp only [Act.put, qT, q0, qS]
      refine wpAnyH_take (i := 5) (oi := ⟨some 87, .load 40 (.tmp 86), 40, _, #[⟨4, .data⟩], none⟩) (v := lv) rfl (by kernel_rfl) (by kernel_rfl) (by kernel_rfl) (fun _ _ _ h => h) (Or.inl ⟨by rfl, fun w' hw' => ?_⟩) hHeld ?_
      · have hcc := hw'; first | (go_simp; done) | (go_simp; rfl)
      try simp only [Act.put, qT, q0, qS]
      refine wpAnyH_ready (rs := [1]) (by kernel_rfl) (by simp) ?_
      refine AllReadyH.cons (o := { dst := some 83, op := .call { callee := Go.Callee.value (.func 11), args := #[.tmp 82], argTypes := #[31] }, type := 40, pos := _, after := #[⟨0, .data⟩], guard := none }) rfl (fun K hK => ?_) AllReadyH.nil
      rw [if_pos (by rfl)]
      go_wp2_with fail
      refine Calls.mono HLOG.out ?_
      rintro e Y1 ⟨v1, rfl, hv1, b1⟩
      have hH1 : Y1.cell? ⟨rg, 35, none⟩ = some lv := (b1.cell (block_lt hHeld)).trans hHeld
      have HSL : Hid (Calls Tryz.prog 13 #[v1, lv] Y1 fun e w' => e = .returned (.bool true) ∧ Below Y1.heap.size Y1 w') := (R5.sameLog_any v1 lv ([] : Lg) ([] : Lg) Y1 HLL.out HLL.out hv1 (R5.hlr_below HLR.out b1)).mono (fun e w' ⟨h1, h2⟩ => ⟨by rw [h1]; simp, h2⟩)
      have HBE1 : Hid (Below w.heap.size w Y1) := HBE.out.trans (b1.mono HBE.out.size)
      clear b1 hv1 HBE HLOG
      refine hK.out _ _ hH1 (fun _ => ?_)
      clear hK K
      try simp only [Act.put, qT, q0, qS]
      clear hHeld
      have hHeld := hH1
      clear hH1
      refine wpAnyH_ready (rs := [6]) (by kernel_rfl) (by simp) ?_
      refine AllReadyH.cons (o := { dst := some 88, op := .call { callee := Go.Callee.value (.func 13), args := #[.tmp 83, .tmp 87], argTypes := #[40, 40] }, type := 4, pos := _, after := #[⟨1, .data⟩, ⟨5, .data⟩, ⟨1, .chain⟩], guard := none }) rfl (fun K hK => ?_) AllReadyH.nil
      rw [if_pos (by rfl)]
      go_wp2_with fail
      refine Calls.mono HSL.out ?_
      rintro e Y2 ⟨rfl, b1⟩
      have hH1 : Y2.cell? ⟨rg, 35, none⟩ = some lv := (b1.cell (block_lt hHeld)).trans hHeld
      have HBE2 : Hid (Below w.heap.size w Y2) := HBE1.out.trans (b1.mono HBE1.out.size)
      clear b1 HSL HBE1
      refine hK.out _ _ hH1 (fun _ => ?_)
      clear hK K
      try simp only [Act.put, qT, q0, qS]
      clear hHeld
      have hHeld := hH1
      clear hH1
      refine wpAnyH_take (i := 7) (oi := ⟨some 89, .move (.tmp 88), 4, _, #[⟨6, .data⟩, ⟨6, .chain⟩], none⟩) (v := .bool true) rfl (by kernel_rfl) (by kernel_rfl) (by kernel_rfl) (fun _ _ _ h => h) (Or.inl ⟨by rfl, fun w' hw' => ?_⟩) hHeld ?_
      · first | (go_simp; done) | (go_simp; rfl)
      try simp only [Act.put, qT, q0, qS]
      refine wpAnyH_ready (rs := [8]) (by kernel_rfl) (by simp) ?_
      refine AllReadyH.cons (o := { dst := some 90, op := .call { callee := Go.Callee.value (.func 5), args := #[], argTypes := #[] }, type := 4, pos := _, after := #[⟨7, .chain⟩, ⟨7, .guard⟩], guard := some (7, true) }) rfl (fun K hK => ?_) AllReadyH.nil
      rw [if_pos (by rfl)]
      go_wp2_with fail
      refine Calls.mono (HKN.out Y2) ?_
      rintro e Y3 ⟨rfl, b1⟩
      have hH1 : Y3.cell? ⟨rg, 35, none⟩ = some lv := (b1.cell (block_lt hHeld)).trans hHeld
      have HBE3 : Hid (Below w.heap.size w Y3) := HBE2.out.trans (b1.mono HBE2.out.size)
      clear b1 HBE2
      refine hK.out _ _ hH1 (fun _ => ?_)
      clear hK K
      try simp only [Act.put, qT, q0, qS]
      clear hHeld
      have hHeld := hH1
      clear hH1
      refine wpAnyH_take (i := 9) (oi := ⟨some 91, .pick (.tmp 89) (.tmp 90) (.const (Go.Value.bool false)), 4, _, #[⟨7, .data⟩, ⟨8, .data⟩], none⟩) (v := .bool true) rfl (by kernel_rfl) (by kernel_rfl) (by kernel_rfl) (fun _ _ _ h => h) (Or.inl ⟨by rfl, fun w' hw' => ?_⟩) hHeld ?_
      · first | (go_simp; done) | (go_simp; rfl)
      try simp only [Act.put, qT, q0, qS]
      refine wpAnyH_take (i := 10) (oi := ⟨some 8, .assign (.tmp 91), 4, _, #[⟨9, .data⟩, ⟨8, .chain⟩, ⟨0, .phase⟩, ⟨1, .phase⟩, ⟨2, .phase⟩, ⟨3, .phase⟩, ⟨4, .phase⟩, ⟨5, .phase⟩, ⟨6, .phase⟩, ⟨7, .phase⟩, ⟨8, .phase⟩, ⟨9, .phase⟩], none⟩) (v := .bool true) rfl (by kernel_rfl) (by kernel_rfl) (by kernel_rfl) (fun _ _ _ h => h) (Or.inl ⟨by rfl, fun w' hw' => ?_⟩) hHeld ?_
      · first | (go_simp; done) | (go_simp; rfl)
      try simp only [Act.put, qT, q0, qS]
      refine wpAnyH_done (by kernel_rfl) ?_ _
      clear hHeld
      go_wp2
      go_ret
      exact ⟨rfl, HBE3.out⟩
set_option maxRecDepth 100000 in
theorem lifted (os : Os) (started : os.Started) (H : Type) (enc : TypeId × Value → H) :
    ReturnsInHanded {} Tryz.checked os 4 .any (Rows.blobLeavesSpec.pre6 enc Tryz.prog Tryz.f4 Rows.blobLeavesRow.domain false) (Rows.blobLeavesSpec.post enc Tryz.prog Tryz.f4 false true false false) := by
  refine returnsInHanded_of_change (C := Tryz.checked) own started (by kernel_rfl) Tryz.func4
    (ChangeSpec.witness6 (enc := enc) (C := Tryz.checked) false ⟨#[], #[.agg (#[.bool false] ++ Array.replicate 32 (.int .u8 0) ++ #[.slice none 0 0]), .int .i64 0, .int .u64 0, .agg (Array.replicate 128 (.int .u8 0))], []⟩ 8 (by kernel_rfl) (by kernel_rfl) (by kernel_rfl) (by kernel_rfl)) ?_
  intro W base args ds gs before hval0 hW hcnd _
  have hval : ∀ (j : Nat) t v, Tryz.f4.params[j]? = some t → args[j]? = some v → Value.okWide Tryz.prog W .any base t v := hval0
  have hW' := hW
  obtain ⟨p, q, hA0, hV, rfl, hfz, hnd⟩ := hW
  have hA : DataW.TrodAll enc Tryz.prog W 0 (fun _ => true) true Tryz.f4.params.toList args.toList ds p := hA0
  rw [Tryz.params4] at hA hval
  obtain ⟨v0, vs0, d0, ds0, p0, q0, hargs, rfl, rfl, h0, r0⟩ := trodAll_cons hA
  obtain ⟨v1, vs1, d1, ds1, p1, q1, rfl, rfl, rfl, h1, r1⟩ := trodAll_cons r0
  obtain ⟨v2, vs2, d2, ds2, p2, q2, rfl, rfl, rfl, h2, r2⟩ := trodAll_cons r1
  obtain ⟨v3, vs3, d3, ds3, p3, q3, rfl, rfl, rfl, h3, r3⟩ := trodAll_cons r2
  obtain ⟨rfl, rfl, rfl⟩ := trodAll_nil r3
  obtain rfl : args = #[v0, v1, v2, v3] := by cases args; simp_all
  obtain ⟨rfl, rfl⟩ := trodVars_none hV
  have k0 := h0
  have lt0 : ∀ x ∈ p0, x.block < W.heap.size := by obtain ⟨m, hm⟩ := k0; exact DataW.trod_lt m _ _ _ hm
  obtain ⟨xs0, rfl⟩ := BC.okWide_str Tryz.underlying26 (hval 0 26 v0 rfl rfl)
  obtain ⟨c0, dv0, rfl, hl0⟩ : ∃ c dv, xs0 = (BC.moL c dv).toArray ∧ BC.Mo.ok c dv W := by obtain ⟨fuel, hf⟩ := h0; obtain ⟨c, dv, e, h1⟩ := BC.open_mode hf; exact ⟨c, dv, by rw [← Array.toList_inj]; exact e, h1⟩
  obtain ⟨n1, rfl, rfl, rfl, w1⟩ := open_int Tryz.underlying3 (hval 1 3 v1 rfl rfl) h1
  obtain ⟨n2, rfl, rfl, rfl, w2⟩ := open_int Tryz.underlying27 (hval 2 27 v2 rfl rfl) h2
  have k3 := h3
  have lt3 : ∀ x ∈ p3, x.block < W.heap.size := by obtain ⟨m, hm⟩ := k3; exact DataW.trod_lt m _ _ _ hm
  obtain ⟨l3, rfl, hl3⟩ := open_octets Tryz.underlying29 (by kernel_rfl) (hval 3 29 v3 rfl rfl) h3
  clear hA0 hval0
  refine (walk c0 dv0 n1 n2 l3 W hl0 w1 w2 hl3).mono fun e W' ⟨he, bel⟩ => ?_
  subst he
  exact ⟨_, rfl, _, _, _, [], _, [], hW', trodAll_mk1 (shut_bool Tryz.underlying4 _), (trodAll_cons_mk (Below.trod laidOut (by kernel_rfl) (of_decide_eq_true (by kernel_rfl)) k0 bel lt0) (trodAll_cons_mk (shut_int Tryz.underlying3 w1) (trodAll_cons_mk (shut_int Tryz.underlying27 w2) (trodAll_cons_mk (Below.trod laidOut (by kernel_rfl) (of_decide_eq_true (by kernel_rfl)) k3 bel lt3) trodAll_mk0)))), rfl, bel.frame _, fun h => by cases h⟩

theorem over : Rows.blobLeavesRow.holds Tryz.pinned (OpenSpec.ofChange Rows.blobLeavesSpec) :=
  OpenClaim.holds_of_wide 4 Tryz.f4 rfl rfl rfl rfl rfl rfl rfl ⟨rfl, rfl, rfl, rfl, rfl⟩ rfl rfl rfl rfl rfl (by kernel_rfl) Tryz.func4 (by kernel_rfl)
    (of_decide_eq_true (by kernel_rfl)) (by unfold Func.isWrapper; first | (rw [if_pos (by decide +kernel)]; kernel_rfl) | (rw [if_neg (by decide +kernel)]; exact ⟨rfl, rfl⟩))
    (fun os started H enc _ => lifted os started H enc)

end Go.Proofs.YtbmmibmfjhehhaaGreat.blobLeaves
namespace Go.Proofs.YtbmmibmfjhehhaaGreat
theorem blobLeaves_holds : Rows.BlobLeavesSaid := blobLeaves.over
#print axioms blobLeaves_holds
end Go.Proofs.YtbmmibmfjhehhaaGreat
