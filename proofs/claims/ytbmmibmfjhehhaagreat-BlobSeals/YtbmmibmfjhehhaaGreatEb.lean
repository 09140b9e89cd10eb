/- BlobSeals: for any mode, key, page, counter and granule the statement's function answers true. -/
import Derived.Test.YtbmmibmfjhehhaaGreatEa
import Derived.Test.YtbmmibmfjhehhaaGreatRows
import Derived.WalkKit
import Derived.ChangeOld
import Derived.ProofKit
import Derived.OpenShut
import Derived.Carry
set_option linter.unusedVariables false
set_option linter.unusedSimpArgs false
namespace Go.Proofs.YtbmmibmfjhehhaaGreat.blobSeals
open Go.ChangeShapes Go.WideShapes Go.ChangeAt Go.RowKit Go.Proofs.YtbmmibmfjhehhaaGreat.BC

abbrev rows0 (w : World) (ML KL GL : List Value) : Rws := [(w.heap.size + 1 + 1, 29, GL), (w.heap.size + 1, 23, KL), (w.heap.size, 26, ML)]
set_option maxHeartbeats 8000000 in
set_option maxRecDepth 100000 in
theorem walk (c : Mo) (dv : Value) (key : List UInt8) (pg ct : Int) (g : List UInt8) (w : World) (hc : c.ok dv w) (hk : key.length = 32) (wp : (Lit.int .i64 pg).wf = true) (wc : (Lit.int .u64 ct).wf = true) (hg : g.length = 128) :
    Calls Tryz.prog 3 #[.agg (moL c dv).toArray, .agg (key.map B8).toArray, .int .i64 pg, .int .u64 ct, .agg (g.map B8).toArray] w fun e w' => e = .returned (.bool true) ∧ Below w.heap.size w w' := by
  have u1 : 0 ≤ ct := by simp [Lit.wf, IntKind.min, IntKind.max, IntKind.signed, IntKind.bits] at wc; omega
  clear wp wc
  have HKW : Hid (∀ W, Calls Tryz.prog 5 #[] W fun e w' => e = .returned (.bool true) ∧ Below W.heap.size W w') := known_any
  have HNM : Hid (∀ n W, Calls Tryz.prog 10 #[.int .i64 n] W fun x w' => x = .returned (.int .i64 n) ∧ W = w') := num_any
  have hcm := hc.1
  have HT0 : Hid (RS w (rows0 w (moL c dv) (key.map B8) (g.map B8)) _) := (((RS.start w).alloc w.heap.size rfl 26 (moL c dv)).alloc (w.heap.size + 1) (by simp) 23 (key.map B8)).alloc (w.heap.size + 1 + 1) (by simp) 29 (g.map B8)
  have HCC : Hid (∀ W, RS w (rows0 w (moL c dv) (key.map B8) (g.map B8)) W → MoC w.heap.size c dv W) := fun W hW => MoC.of hcm (hW.at 2 rfl)
  obtain ⟨_, pd, capd, hde, _⟩ := id hc.2.1
  have HOK : Hid (c.ok dv w) := hc
  clear hc
  subst hde
  have HMI : Hid _ := infoMo (moL c (.slice pd c.D.length capd)) (moL_len c _ hcm)
  by_cases hA : 60 < c.D.length
  · have hAI : (60 : Int) < (c.D.length : Int) := by omega
    clear hA
    generalize moL c (.slice pd c.D.length capd) = MLL at *
    generalize key.map B8 = KL at *
    generalize g.map B8 = GL at *
    go_enter Tryz.func3, Tryz.ntmps3
    go_upto_region 1 with fail
    generalize World.alloc _ _ = X0 at *
    have k33 := (HCC.out X0 HT0.out).c33
    go_wp2_with fail
    refine Calls.mono (HKW.out X0) ?_
    rintro e X1 ⟨rfl, hb⟩
    have HT1 : Hid _ := HT0.out.step hb
    clear hb HT0
    go_wp2
    go_ret
    exact ⟨rfl, HT1.out.bel⟩
  have hAI : ¬ (60 : Int) < (c.D.length : Int) := by omega
  have HBOTH : Hid (∀ X rows, RS w rows X → Calls Tryz.prog 6 #[.agg (moL c (.slice pd c.D.length capd)).toArray] X fun e Y => BothEnd w c ((X.heap.size, 26, moL c (.slice pd c.D.length capd)) :: rows) e Y) := fun X rows hX => both_any w X c _ rows HOK.out hX (by omega)
  have hgl : gL c.D [] := gL.nil HOK.out.2.1.1
  have HGN : Hid ((g.map B8).length = 128) := by show _ = _; simpa using hg
  have HKN : Hid ((key.map B8).length = 32) := by show _ = _; simpa using hk
  have hzg := fun W => zero_gr W
  obtain ⟨ZG, hZG⟩ : ∃ L, L = Z128.map B8 := ⟨_, rfl⟩
  rw [← hZG] at hzg
  have HBG : Hid (∀ W : World, (Instr.build 29 #[]).run Tryz.prog W = .ok (.agg ZG.toArray) W) := fun W => by rw [hZG]; exact build_gr W
  have HGZ : Hid (gz 2 = .tuple #[.agg ZG.toArray, .int .i64 2]) := by rw [hZG]; exact rfl
  have HZN : Hid (ZG.length = 128) := by show _ = _; rw [hZG]; simp [z128_len]
  have HZ1 : Hid (ZG.toArray.all (·.oneCell') = true) := by show _ = _; rw [hZG]; exact B8_onea _
  have HZE : Hid (∀ W, (Op.equalIn 10000 29 (.agg ZG.toArray) (.agg ZG.toArray)).run Tryz.prog W = .ok true W) := fun W => by rw [hZG]; exact eq_gr W _ _ z128_len z128_len true (beq_self_eq_true _)
  clear hZG
  cases hm1 : mayB pg ct with
  | true =>
    obtain ⟨p, n, rfl, rfl, hp, hn⟩ := mayB_nat hm1 u1
    have HM1 : Hid (∀ W, Calls Tryz.prog 9 #[.int .i64 (p : Int), .int .u64 (n : Int)] W fun e w' => e = .returned (.bool true) ∧ w' = W) := fun W => by have q := rmay_any p n W; rw [hm1] at q; exact q
    obtain ⟨x, L1, h3⟩ : ∃ x L3, st2 c.i c.D [] ⟨4, key, 10, W1.le 8 p ++ W1.le 8 n⟩ = (x, L3) := ⟨_, _, rfl⟩
    have q3 := st2_len (i := c.i) hgl (q := ⟨4, key, 10, W1.le 8 p ++ W1.le 8 n⟩) hk
    have h4 := st2_again c.i c.D [] ⟨4, key, 10, W1.le 8 p ++ W1.le 8 n⟩
    have l3 := st2_log c.i c.D [] ⟨4, key, 10, W1.le 8 p ++ W1.le 8 n⟩
    rw [h3] at q3 l3 h4
    simp only [List.length_nil] at q3 l3 h4
    have hml : (mx g x).length = 128 := mx_len _ _ hg q3.1
    have HP1 : Hid (∀ og mb rg rows X, TB w og mb rg c.i c.m c.D [] [] rows X → Calls Tryz.prog 7 #[.pointer (some ⟨og, 0, none⟩), .agg (key.map B8).toArray, .int .i64 (p : Int), .int .u64 (n : Int), .agg (g.map B8).toArray] X fun e Y => e = .returned (.tuple #[.agg ((mx g x).map B8).toArray, .int .i64 0]) ∧ TB w og mb rg c.i c.m c.D L1 [] rows Y) := fun og mb rg rows X hX => by
      have q := hX.pseal (by decide) key g p n hgl hk hg hp hn
      rw [h3] at q
      exact q
    have HP2 : Hid (∀ og mb rg rows X, TB w og mb rg c.i c.m c.D L1 [] rows X → Calls Tryz.prog 8 #[.pointer (some ⟨og, 0, none⟩), .agg (key.map B8).toArray, .int .i64 (p : Int), .int .u64 (n : Int), .agg (g.map B8).toArray] X fun e Y => e = .returned (.tuple #[.agg ((mx g x).map B8).toArray, .int .i64 0]) ∧ TB w og mb rg c.i c.m c.D L1 [] rows Y) := fun og mb rg rows X hX => by
      have q := hX.popen (by omega) key g p n q3.2 hk hg hp hn
      rw [h4] at q
      exact q
    have HRS : Hid (∀ og mb rg rows X, TB w og mb rg c.i c.m c.D L1 [] rows X → Calls Tryz.prog 12 #[.pointer (some ⟨rg, 0, none⟩), .agg (key.map B8).toArray, .int .i64 (p : Int), .int .u64 (n : Int), .agg (g.map B8).toArray] X fun e Y => e = .returned (.agg ((mx g x).map B8).toArray) ∧ TB w og mb rg c.i c.m c.D L1 L1 rows Y) := fun og mb rg rows X hX => by
      have q := hX.rseal (by decide) key g p n hgl hk hg hp hn
      rw [h3] at q
      exact q
    have HEQ : Hid (∀ W, (Op.equalIn 10000 29 (.agg ((mx g x).map B8).toArray) (.agg ((mx g x).map B8).toArray)).run Tryz.prog W = .ok true W) := fun W => eq_gr W _ _ hml hml true (beq_self_eq_true _)
    have HXN : Hid (((mx g x).map B8).length = 128) := by show _ = _; simpa using hml
    have HX1 : Hid _ := B8_onea (mx g x)
    have HLL : Hid (L1.length < 1000000) := (by omega : L1.length < 1000000)
    clear hA hm1 hp hn hgl h3 h4 q3 l3 hml hk hg hcm u1 HGZ
    generalize moL c (.slice pd c.D.length capd) = MLL at *
    generalize key.map B8 = KL at *
    generalize g.map B8 = GL at *
    generalize (mx g x).map B8 = XL at *
    go_enter Tryz.func3, Tryz.ntmps3
    go_upto_region 1 with fail
    generalize World.alloc _ _ = X0 at *
    have k33 := (HCC.out X0 HT0.out).c33
    go_wp2_with (refine wpList_load_mid rfl 26 (.tmp 5) rfl w.heap.size 0 rfl MLL _ (rangeAt_row (HT0.out.at 2 rfl)) Tryz.underlying26 rfl HMI.out ?_)
    refine Calls.mono (HBOTH.out X0 _ HT0.out) ?_
    rintro e X2 ⟨og, mb, rg, rfl, hTB⟩
    have HT2 : Hid (TB w og mb rg c.i c.m c.D [] [] (rows0 w MLL KL GL) X2) := hTB.drop
    clear hTB HT0 k33
    go_wp2_with (first
      | (refine wpList_load_mid rfl 23 (.tmp 6) rfl (w.heap.size + 1) 0 rfl KL _ (rangeAt_row (HT2.out.rs.at 1 rfl)) Tryz.underlying23 rfl (R5.info32 KL HKN.out) ?_)
      | (refine wpList_load_mid rfl 29 (.tmp 9) rfl (w.heap.size + 1 + 1) 0 rfl GL _ (rangeAt_row (HT2.out.rs.at 0 rfl)) Tryz.underlying29 rfl (info128 GL HGN.out) ?_))
    refine Calls.mono (HP1.out _ _ _ _ _ HT2.out) ?_
    rintro e X3 ⟨rfl, hTB⟩
    have HT3 : Hid _ := hTB.alloc X3.heap.size rfl 29 ZG
    clear hTB HT2
    go_upto_region 5 with (refine R5.wpList_store_rowL rfl 29 _ _ rfl X3.heap.size (XL).toArray rfl rfl 29 ZG.toArray (HT3.out.rs.at 0 rfl) (info128a _ HXN.out) (by simp [HXN.out, HZN.out]) HX1.out ?_; intro X4 e4; have HT4 : Hid _ := HT3.out.put 0 rfl (XL); rw [← e4] at HT4; clear e4)
    have HT5 : Hid (TB w og mb rg c.i c.m c.D L1 [] ((X3.heap.size, 29, XL) :: rows0 w MLL KL GL) X4) := HT4.out
    clear HT3 HT4
    generalize X3.heap.size = n13 at *
    go_wp2_with (first
      | (refine wpList_load_mid rfl 23 (.tmp 6) rfl (w.heap.size + 1) 0 rfl KL _ (rangeAt_row (HT5.out.rs.at 2 rfl)) Tryz.underlying23 rfl (R5.info32 KL HKN.out) ?_)
      | (refine wpList_load_mid rfl 29 (.tmp 9) rfl (w.heap.size + 1 + 1) 0 rfl GL _ (rangeAt_row (HT5.out.rs.at 1 rfl)) Tryz.underlying29 rfl (info128 GL HGN.out) ?_))
    refine Calls.mono (HP2.out _ _ _ _ _ HT5.out) ?_
    rintro e X5 ⟨rfl, hTB⟩
    have HT6 : Hid _ := hTB.alloc X5.heap.size rfl 29 ZG
    clear hTB HT5
    go_upto_region 6 with (refine R5.wpList_store_rowL rfl 29 _ _ rfl X5.heap.size (XL).toArray rfl rfl 29 ZG.toArray (HT6.out.rs.at 0 rfl) (info128a _ HXN.out) (by simp [HXN.out, HZN.out]) HX1.out ?_; intro X6 e6; have HT7 : Hid _ := HT6.out.put 0 rfl (XL); rw [← e6] at HT7; clear e6)
    have HT8 : Hid (TB w og mb rg c.i c.m c.D L1 [] ((X5.heap.size, 29, XL) :: (n13, 29, XL) :: rows0 w MLL KL GL) X6) := HT7.out
    clear HT6 HT7
    generalize X5.heap.size = n15 at *
    go_wp2_with fail
    refine Calls.mono (HM1.out X6) ?_
    rintro e X7 ⟨rfl, h2⟩
    rw [h2]
    clear h2 X7
    go_wp2_with (first
      | (refine wpList_load_mid rfl 23 (.tmp 6) rfl (w.heap.size + 1) 0 rfl KL _ (rangeAt_row (HT8.out.rs.at 3 rfl)) Tryz.underlying23 rfl (R5.info32 KL HKN.out) ?_)
      | (refine wpList_load_mid rfl 29 (.tmp 9) rfl (w.heap.size + 1 + 1) 0 rfl GL _ (rangeAt_row (HT8.out.rs.at 2 rfl)) Tryz.underlying29 rfl (info128 GL HGN.out) ?_))
    refine Calls.mono (HRS.out _ _ _ _ _ HT8.out) ?_
    rintro e X8 ⟨rfl, hTB⟩
    have HT9 : Hid _ := hTB.alloc X8.heap.size rfl 29 ZG
    clear hTB HT8
    go_upto_region 9 with (refine R5.wpList_store_rowL rfl 29 _ _ rfl X8.heap.size XL.toArray rfl rfl 29 ZG.toArray (HT9.out.rs.at 0 rfl) (info128a _ HXN.out) (by simp [HXN.out, HZN.out]) HX1.out ?_; intro X9 e9; have HTA : Hid _ := HT9.out.put 0 rfl XL; rw [← e9] at HTA; clear e9)
    have hTD : TB w og mb rg c.i c.m c.D L1 L1 ((X8.heap.size, 29, XL) :: (n15, 29, XL) :: (n13, 29, XL) :: rows0 w MLL KL GL) X9.drew := HTA.out.step (Below.refl _ _).drew
    clear HT9 HTA
    generalize X8.heap.size = n17 at *
    obtain ⟨lv, hlc, hlr⟩ := hTD.rlog
    have HLOG : Hid (∀ W, TB w og mb rg c.i c.m c.D L1 L1 ((n17, 29, XL) :: (n15, 29, XL) :: (n13, 29, XL) :: rows0 w MLL KL GL) W → Calls Tryz.prog 11 #[.pointer (some ⟨og, 0, none⟩)] W fun e Y => ∃ v, e = .returned v ∧ R5.HLr Y v L1 ∧ Below W.heap.size W Y) := fun W h => h.log HLL.out
    have HLR : Hid (R5.HLr _ lv L1) := hlr
    have HTD : Hid _ := hTD
    refine wp_region_held_drew (S := fun X => RS w ((n17, 29, XL) :: (n15, 29, XL) :: (n13, 29, XL) :: rows0 w MLL KL GL) X ∧ X.cell? ⟨rg, 35, none⟩ = some lv) (by kernel_rfl) ⟨hTD.rs, hlc⟩ (fun hHeld => ?_)
    clear hTD hlc hlr
    generalize World.drew _ = Y0 at *
    refine wpAnyH_take (i := 0) (oi := ⟨some 83, .load 29 (.tmp 13), 29, _, #[], none⟩) rfl (by kernel_rfl) (by kernel_rfl) (by kernel_rfl) (fun _ _ _ h => h) (yieldsIf_load_mid (by rfl) 29 (.tmp 13) rfl (n13) (0) rfl (XL) _ (fun _ h => rangeAt_row (h.1.at 2 rfl)) Tryz.underlying29 rfl (info128 XL HXN.out)) hHeld ?_
    try simp only [Act.put, qT, q0, qS]
    refine wpAnyH_take (i := 1) (oi := ⟨some 84, .load 29 (.tmp 17), 29, _, #[], none⟩) rfl (by kernel_rfl) (by kernel_rfl) (by kernel_rfl) (fun _ _ _ h => h) (yieldsIf_load_mid (by rfl) 29 (.tmp 17) rfl (n17) (0) rfl (XL) _ (fun _ h => rangeAt_row (h.1.at 0 rfl)) Tryz.underlying29 rfl (info128 XL HXN.out)) hHeld ?_
    try simp only [Act.put, qT, q0, qS]
    refine wpAnyH_take (i := 2) (oi := ⟨some 85, .binOp .eql 29 (.tmp 83) (.tmp 84) 29, 4, _, #[⟨0, .data⟩, ⟨1, .data⟩], none⟩) (v := .bool true) rfl (by kernel_rfl) (by kernel_rfl) (by kernel_rfl) (fun _ _ _ h => h) (Or.inl ⟨by rfl, fun w' hw' => ?_⟩) hHeld ?_
    · exact run_eql rfl rfl rfl gG (HEQ.out w')
    try simp only [Act.put, qT, q0, qS]
    refine wpAnyH_take (i := 3) (oi := ⟨some 86, .move (.tmp 85), 4, _, #[⟨2, .data⟩], none⟩) (v := .bool true) rfl (by kernel_rfl) (by kernel_rfl) (by kernel_rfl) (fun _ _ _ h => h) (Or.inl ⟨by rfl, fun w' hw' => ?_⟩) hHeld ?_
    · first | (go_simp; done) | (go_simp; rfl)
    try simp only [Act.put, qT, q0, qS]
    refine wpAnyH_take (i := 4) (oi := ⟨some 87, .load 29 (.tmp 15), 29, _, #[⟨3, .guard⟩], some (3, true)⟩) rfl (by kernel_rfl) (by kernel_rfl) (by kernel_rfl) (fun _ _ _ h => h) (yieldsIf_load_mid (by rfl) 29 (.tmp 15) rfl (n15) (0) rfl (XL) _ (fun _ h => rangeAt_row (h.1.at 1 rfl)) Tryz.underlying29 rfl (info128 XL HXN.out)) hHeld ?_
    try simp only [Act.put, qT, q0, qS]
    refine wpAnyH_take (i := 5) (oi := ⟨some 88, .load 29 (.tmp 17), 29, _, #[⟨3, .guard⟩], some (3, true)⟩) rfl (by kernel_rfl) (by kernel_rfl) (by kernel_rfl) (fun _ _ _ h => h) (yieldsIf_load_mid (by rfl) 29 (.tmp 17) rfl (n17) (0) rfl (XL) _ (fun _ h => rangeAt_row (h.1.at 0 rfl)) Tryz.underlying29 rfl (info128 XL HXN.out)) hHeld ?_
    try simp only [Act.put, qT, q0, qS]
    refine wpAnyH_take (i := 6) (oi := ⟨some 89, .binOp .eql 29 (.tmp 87) (.tmp 88) 29, 4, _, #[⟨4, .data⟩, ⟨5, .data⟩, ⟨3, .guard⟩], some (3, true)⟩) (v := .bool true) rfl (by kernel_rfl) (by kernel_rfl) (by kernel_rfl) (fun _ _ _ h => h) (Or.inl ⟨by rfl, fun w' hw' => ?_⟩) hHeld ?_
    · exact run_eql rfl rfl rfl gG (HEQ.out w')
    try simp only [Act.put, qT, q0, qS]
    refine wpAnyH_take (i := 7) (oi := ⟨some 90, .pick (.tmp 86) (.tmp 89) (.const (Go.Value.bool false)), 4, _, #[⟨3, .data⟩, ⟨6, .data⟩], none⟩) (v := .bool true) rfl (by kernel_rfl) (by kernel_rfl) (by kernel_rfl) (fun _ _ _ h => h) (Or.inl ⟨by rfl, fun w' hw' => ?_⟩) hHeld ?_
    · first | (go_simp; done) | (go_simp; rfl)
    try simp only [Act.put, qT, q0, qS]
    refine wpAnyH_take (i := 8) (oi := ⟨some 91, .move (.tmp 90), 4, _, #[⟨7, .data⟩, ⟨3, .chain⟩], none⟩) (v := .bool true) rfl (by kernel_rfl) (by kernel_rfl) (by kernel_rfl) (fun _ _ _ h => h) (Or.inl ⟨by rfl, fun w' hw' => ?_⟩) hHeld ?_
    · first | (go_simp; done) | (go_simp; rfl)
    try simp only [Act.put, qT, q0, qS]
    refine wpAnyH_take (i := 9) (oi := ⟨some 92, .move (.tmp 14), 35, _, #[⟨8, .guard⟩], some (8, true)⟩) (v := .int .i64 0) rfl (by kernel_rfl) (by kernel_rfl) (by kernel_rfl) (fun _ _ _ h => h) (Or.inl ⟨by rfl, fun w' hw' => ?_⟩) hHeld ?_
    · first | (go_simp; done) | (go_simp; rfl)
    try simp only [Act.put, qT, q0, qS]
    refine wpAnyH_take (i := 11) (oi := ⟨some 94, .move (.tmp 16), 35, _, #[⟨8, .guard⟩], some (8, true)⟩) (v := .int .i64 0) rfl (by kernel_rfl) (by kernel_rfl) (by kernel_rfl) (fun _ _ _ h => h) (Or.inl ⟨by rfl, fun w' hw' => ?_⟩) hHeld ?_
    · first | (go_simp; done) | (go_simp; rfl)
    try simp only [Act.put, qT, q0, qS]
    refine wpAnyH_ready (rs := [10]) (by kernel_rfl) (by simp) ?_
    refine AllReadyH.cons (o := { dst := some 93, op := .call { callee := Go.Callee.value (.func 10), args := #[.tmp 92], argTypes := #[35] }, type := 3, pos := _, after := #[⟨9, .data⟩, ⟨8, .chain⟩, ⟨8, .guard⟩], guard := some (8, true) }) rfl (fun K hK => ?_) AllReadyH.nil
    rw [if_pos (by rfl)]
    go_wp2_with fail
    refine Calls.mono (HNM.out 0 Y0) ?_
    rintro e W1 ⟨rfl, hy⟩
    rw [← hy]
    clear hy W1
    refine hK.out _ _ hHeld (fun _ => ?_)
    clear hK K
    try simp only [Act.put, qT, q0, qS]
    refine wpAnyH_ready (rs := [12]) (by kernel_rfl) (by simp) ?_
    refine AllReadyH.cons (o := { dst := some 95, op := .call { callee := Go.Callee.value (.func 10), args := #[.tmp 94], argTypes := #[35] }, type := 3, pos := _, after := #[⟨11, .data⟩, ⟨10, .chain⟩, ⟨8, .guard⟩], guard := some (8, true) }) rfl (fun K hK => ?_) AllReadyH.nil
    rw [if_pos (by rfl)]
    go_wp2_with fail
    refine Calls.mono (HNM.out 0 Y0) ?_
    rintro e W1 ⟨rfl, hy⟩
    rw [← hy]
    clear hy W1
    refine hK.out _ _ hHeld (fun _ => ?_)
    clear hK K
    try simp only [Act.put, qT, q0, qS]
    refine wpAnyH_take (i := 13) (oi := ⟨some 96, .binOp .add 3 (.tmp 93) (.tmp 95) 3, 3, _, #[⟨10, .data⟩, ⟨12, .data⟩, ⟨8, .guard⟩], some (8, true)⟩) (v := .int .i64 0) rfl (by kernel_rfl) (by kernel_rfl) (by kernel_rfl) (fun _ _ _ h => h) (Or.inl ⟨by rfl, fun w' hw' => ?_⟩) hHeld ?_
    · first | (go_simp; done) | (go_simp; rfl)
    try simp only [Act.put, qT, q0, qS]
    refine wpAnyH_take (i := 14) (oi := ⟨some 97, .binOp .eql 3 (.tmp 96) (.const (Go.Value.int Go.IntKind.i64 0)) 3, 4, _, #[⟨13, .data⟩, ⟨8, .guard⟩], some (8, true)⟩) (v := .bool true) rfl (by kernel_rfl) (by kernel_rfl) (by kernel_rfl) (fun _ _ _ h => h) (Or.inl ⟨by rfl, fun w' hw' => ?_⟩) hHeld ?_
    · first | (go_simp; done) | (go_simp; rfl)
    try simp only [Act.put, qT, q0, qS]
    refine wpAnyH_take (i := 15) (oi := ⟨some 98, .pick (.tmp 91) (.tmp 97) (.const (Go.Value.bool false)), 4, _, #[⟨8, .data⟩, ⟨14, .data⟩], none⟩) (v := .bool true) rfl (by kernel_rfl) (by kernel_rfl) (by kernel_rfl) (fun _ _ _ h => h) (Or.inl ⟨by rfl, fun w' hw' => ?_⟩) hHeld ?_
    · first | (go_simp; done) | (go_simp; rfl)
    try simp only [Act.put, qT, q0, qS]
    refine wpAnyH_take (i := 16) (oi := ⟨some 99, .move (.tmp 98), 4, _, #[⟨15, .data⟩, ⟨12, .chain⟩], none⟩) (v := .bool true) rfl (by kernel_rfl) (by kernel_rfl) (by kernel_rfl) (fun _ _ _ h => h) (Or.inl ⟨by rfl, fun w' hw' => ?_⟩) hHeld ?_
    · first | (go_simp; done) | (go_simp; rfl)
    try simp only [Act.put, qT, q0, qS]
    refine wpAnyH_take (i := 17) (oi := ⟨some 100, .move (.tmp 11), 31, _, #[⟨16, .guard⟩], some (16, true)⟩) (v := .pointer (some ⟨og, 0, none⟩)) rfl (by kernel_rfl) (by kernel_rfl) (by kernel_rfl) (fun _ _ _ h => h) (Or.inl ⟨by rfl, fun w' hw' => ?_⟩) hHeld ?_
    · first | (go_simp; done) | (go_simp; rfl)
    try simp only [Act.put, qT, q0, qS]
    refine wpAnyH_take (i := 19) (oi := ⟨some 102, .move (.tmp 12), 32, _, #[⟨16, .guard⟩], some (16, true)⟩) (v := .pointer (some ⟨rg, 0, none⟩)) rfl (by kernel_rfl) (by kernel_rfl) (by kernel_rfl) (fun _ _ _ h => h) (Or.inl ⟨by rfl, fun w' hw' => ?_⟩) hHeld ?_
    · first | (go_simp; done) | (go_simp; rfl)
    try simp only [Act.put, qT, q0, qS]
    refine wpAnyH_take (i := 20) (oi := ⟨some 103, .nilCheck (.tmp 102), 0, _, #[⟨19, .data⟩, ⟨16, .guard⟩], some (16, true)⟩) (v := .pointer (some ⟨rg, 0, none⟩)) rfl (by kernel_rfl) (by kernel_rfl) (by kernel_rfl) (fun _ _ _ h => h) (Or.inl ⟨by rfl, fun w' hw' => ?_⟩) hHeld ?_
    · first | (go_simp; done) | (go_simp; rfl)
    try simp only [Act.put, qT, q0, qS]
    refine wpAnyH_take (i := 21) (oi := ⟨some 104, .fieldAddr 45 (.tmp 103) 4, 0, _, #[⟨20, .data⟩, ⟨16, .guard⟩], some (16, true)⟩) (v := .pointer (some ⟨rg, 35, none⟩)) rfl (by kernel_rfl) (by kernel_rfl) (by kernel_rfl) (fun _ _ _ h => h) (Or.inl ⟨by rfl, fun w' hw' => ?_⟩) hHeld ?_
    · first | (go_simp; done) | (go_simp; rfl)
    try simp only [Act.put, qT, q0, qS]
    refine wpAnyH_take (i := 22) (oi := ⟨some 105, .load 40 (.tmp 104), 40, _, #[⟨21, .data⟩, ⟨16, .guard⟩], some (16, true)⟩) (v := lv) rfl (by kernel_rfl) (by kernel_rfl) (by kernel_rfl) (fun _ _ _ h => h) (Or.inl ⟨by rfl, fun w' hw' => ?_⟩) hHeld ?_
    · have hcc := hw'.2; first | (go_simp; done) | (go_simp; rfl)
    try simp only [Act.put, qT, q0, qS]
    refine wpAnyH_ready (rs := [18]) (by kernel_rfl) (by simp) ?_
    refine AllReadyH.cons (o := { dst := some 101, op := .call { callee := Go.Callee.value (.func 11), args := #[.tmp 100], argTypes := #[31] }, type := 40, pos := _, after := #[⟨17, .data⟩, ⟨16, .chain⟩, ⟨16, .guard⟩], guard := some (16, true) }) rfl (fun K hK => ?_) AllReadyH.nil
    rw [if_pos (by rfl)]
    go_wp2_with fail
    refine Calls.mono (HLOG.out Y0 HTD.out) ?_
    rintro e Y1 ⟨v1, rfl, hv1, b1⟩
    have hH1 := And.intro (hHeld.1.step b1) ((b1.cell (block_lt hHeld.2)).trans hHeld.2)
    have HSL : Hid (Calls Tryz.prog 13 #[v1, lv] Y1 fun e w' => e = .returned (.bool true) ∧ Below Y1.heap.size Y1 w') := (R5.sameLog_any v1 lv L1 L1 Y1 HLL.out HLL.out hv1 (R5.hlr_below HLR.out b1)).mono (fun e w' ⟨h1, h2⟩ => ⟨by rw [h1]; simp, h2⟩)
    clear b1 hv1 HLOG HTD
    refine hK.out _ _ hH1 (fun _ => ?_)
    clear hK K
    try simp only [Act.put, qT, q0, qS]
    clear hHeld
    have hHeld := hH1
    clear hH1
    refine wpAnyH_ready (rs := [23]) (by kernel_rfl) (by simp) ?_
    refine AllReadyH.cons (o := { dst := some 106, op := .call { callee := Go.Callee.value (.func 13), args := #[.tmp 101, .tmp 105], argTypes := #[40, 40] }, type := 4, pos := _, after := #[⟨18, .data⟩, ⟨22, .data⟩, ⟨18, .chain⟩, ⟨16, .guard⟩], guard := some (16, true) }) rfl (fun K hK => ?_) AllReadyH.nil
    rw [if_pos (by rfl)]
    go_wp2_with fail
    refine Calls.mono HSL.out ?_
    rintro e Y2 ⟨rfl, b1⟩
    have hH1 := And.intro (hHeld.1.step b1) ((b1.cell (block_lt hHeld.2)).trans hHeld.2)
    clear b1 HSL
    refine hK.out _ _ hH1 (fun _ => ?_)
    clear hK K
    try simp only [Act.put, qT, q0, qS]
    clear hHeld
    have hHeld := hH1
    clear hH1
    refine wpAnyH_take (i := 24) (oi := ⟨some 107, .pick (.tmp 99) (.tmp 106) (.const (Go.Value.bool false)), 4, _, #[⟨16, .data⟩, ⟨23, .data⟩], none⟩) (v := .bool true) rfl (by kernel_rfl) (by kernel_rfl) (by kernel_rfl) (fun _ _ _ h => h) (Or.inl ⟨by rfl, fun w' hw' => ?_⟩) hHeld ?_
    · first | (go_simp; done) | (go_simp; rfl)
    try simp only [Act.put, qT, q0, qS]
    refine wpAnyH_take (i := 25) (oi := ⟨some 108, .move (.tmp 107), 4, _, #[⟨24, .data⟩, ⟨23, .chain⟩], none⟩) (v := .bool true) rfl (by kernel_rfl) (by kernel_rfl) (by kernel_rfl) (fun _ _ _ h => h) (Or.inl ⟨by rfl, fun w' hw' => ?_⟩) hHeld ?_
    · first | (go_simp; done) | (go_simp; rfl)
    try simp only [Act.put, qT, q0, qS]
    refine wpAnyH_ready (rs := [26]) (by kernel_rfl) (by simp) ?_
    refine AllReadyH.cons (o := { dst := some 109, op := .call { callee := Go.Callee.value (.func 5), args := #[], argTypes := #[] }, type := 4, pos := _, after := #[⟨25, .chain⟩, ⟨25, .guard⟩], guard := some (25, true) }) rfl (fun K hK => ?_) AllReadyH.nil
    rw [if_pos (by rfl)]
    go_wp2_with fail
    refine Calls.mono (HKW.out Y2) ?_
    rintro e Y3 ⟨rfl, b1⟩
    have hH1 := And.intro (hHeld.1.step b1) ((b1.cell (block_lt hHeld.2)).trans hHeld.2)
    clear b1
    refine hK.out _ _ hH1 (fun _ => ?_)
    clear hK K
    try simp only [Act.put, qT, q0, qS]
    clear hHeld
    have HBE : Hid (Below w.heap.size w Y3) := hH1.1.bel
    have hHeld := hH1
    clear hH1
    refine wpAnyH_take (i := 27) (oi := ⟨some 110, .pick (.tmp 108) (.tmp 109) (.const (Go.Value.bool false)), 4, _, #[⟨25, .data⟩, ⟨26, .data⟩], none⟩) (v := .bool true) rfl (by kernel_rfl) (by kernel_rfl) (by kernel_rfl) (fun _ _ _ h => h) (Or.inl ⟨by rfl, fun w' hw' => ?_⟩) hHeld ?_
    · first | (go_simp; done) | (go_simp; rfl)
    try simp only [Act.put, qT, q0, qS]
    refine wpAnyH_take (i := 28) (oi := ⟨some 10, .assign (.tmp 110), 4, _, #[⟨27, .data⟩, ⟨26, .chain⟩, ⟨0, .phase⟩, ⟨1, .phase⟩, ⟨2, .phase⟩, ⟨3, .phase⟩, ⟨4, .phase⟩, ⟨5, .phase⟩, ⟨6, .phase⟩, ⟨7, .phase⟩, ⟨8, .phase⟩, ⟨9, .phase⟩, ⟨10, .phase⟩, ⟨11, .phase⟩, ⟨12, .phase⟩, ⟨13, .phase⟩, ⟨14, .phase⟩, ⟨15, .phase⟩, ⟨16, .phase⟩, ⟨17, .phase⟩, ⟨18, .phase⟩, ⟨19, .phase⟩, ⟨20, .phase⟩, ⟨21, .phase⟩, ⟨22, .phase⟩, ⟨23, .phase⟩, ⟨24, .phase⟩, ⟨25, .phase⟩, ⟨26, .phase⟩, ⟨27, .phase⟩], none⟩) (v := .bool true) rfl (by kernel_rfl) (by kernel_rfl) (by kernel_rfl) (fun _ _ _ h => h) (Or.inl ⟨by rfl, fun w' hw' => ?_⟩) hHeld ?_
    · first | (go_simp; done) | (go_simp; rfl)
    try simp only [Act.put, qT, q0, qS]
    refine wpAnyH_done (by kernel_rfl) ?_ _
    clear hHeld
    go_wp2
    go_ret
    exact ⟨rfl, HBE.out⟩
  | false =>
    have HM1 : Hid (∀ W, Calls Tryz.prog 9 #[.int .i64 pg, .int .u64 ct] W fun e w' => e = .returned (.bool false) ∧ w' = W) := fun W => by have q := rmay_any pg ct W; rw [hm1] at q; exact q
    have HP1 : Hid (∀ og mb rg rows X, TB w og mb rg c.i c.m c.D [] [] rows X → Calls Tryz.prog 7 #[.pointer (some ⟨og, 0, none⟩), .agg (key.map B8).toArray, .int .i64 pg, .int .u64 ct, .agg (g.map B8).toArray] X fun e Y => e = .returned (.tuple #[.agg ZG.toArray, .int .i64 2]) ∧ TB w og mb rg c.i c.m c.D [] [] rows Y) := fun og mb rg rows X hX => by
      rw [← HGZ.out]; exact hX.pseal_no key g pg ct hk hg hm1
    have HP2 : Hid (∀ og mb rg rows X, TB w og mb rg c.i c.m c.D [] [] rows X → Calls Tryz.prog 8 #[.pointer (some ⟨og, 0, none⟩), .agg (key.map B8).toArray, .int .i64 pg, .int .u64 ct, .agg (g.map B8).toArray] X fun e Y => e = .returned (.tuple #[.agg ZG.toArray, .int .i64 2]) ∧ TB w og mb rg c.i c.m c.D [] [] rows Y) := fun og mb rg rows X hX => by
      rw [← HGZ.out]; exact hX.popen_no key g pg ct hk hg hm1
    clear hA hm1 hgl hk hg hcm u1 HGZ
    generalize moL c (.slice pd c.D.length capd) = MLL at *
    generalize key.map B8 = KL at *
    generalize g.map B8 = GL at *
    go_enter Tryz.func3, Tryz.ntmps3
    go_upto_region 1 with fail
    generalize World.alloc _ _ = X0 at *
    have k33 := (HCC.out X0 HT0.out).c33
    go_wp2_with (refine wpList_load_mid rfl 26 (.tmp 5) rfl w.heap.size 0 rfl MLL _ (rangeAt_row (HT0.out.at 2 rfl)) Tryz.underlying26 rfl HMI.out ?_)
    refine Calls.mono (HBOTH.out X0 _ HT0.out) ?_
    rintro e X2 ⟨og, mb, rg, rfl, hTB⟩
    have HT2 : Hid (TB w og mb rg c.i c.m c.D [] [] (rows0 w MLL KL GL) X2) := hTB.drop
    clear hTB HT0 k33
    go_wp2_with (first
      | (refine wpList_load_mid rfl 23 (.tmp 6) rfl (w.heap.size + 1) 0 rfl KL _ (rangeAt_row (HT2.out.rs.at 1 rfl)) Tryz.underlying23 rfl (R5.info32 KL HKN.out) ?_)
      | (refine wpList_load_mid rfl 29 (.tmp 9) rfl (w.heap.size + 1 + 1) 0 rfl GL _ (rangeAt_row (HT2.out.rs.at 0 rfl)) Tryz.underlying29 rfl (info128 GL HGN.out) ?_))
    refine Calls.mono (HP1.out _ _ _ _ _ HT2.out) ?_
    rintro e X3 ⟨rfl, hTB⟩
    have HT3 : Hid _ := hTB.alloc X3.heap.size rfl 29 ZG
    clear hTB HT2
    go_upto_region 5 with (refine R5.wpList_store_rowL rfl 29 _ _ rfl X3.heap.size (ZG).toArray rfl rfl 29 ZG.toArray (HT3.out.rs.at 0 rfl) (info128a _ HZN.out) (by simp [HZN.out, HZN.out]) HZ1.out ?_; intro X4 e4; have HT4 : Hid _ := HT3.out.put 0 rfl (ZG); rw [← e4] at HT4; clear e4)
    have HT5 : Hid (TB w og mb rg c.i c.m c.D [] [] ((X3.heap.size, 29, ZG) :: rows0 w MLL KL GL) X4) := HT4.out
    clear HT3 HT4
    generalize X3.heap.size = n13 at *
    go_wp2_with (first
      | (refine wpList_load_mid rfl 23 (.tmp 6) rfl (w.heap.size + 1) 0 rfl KL _ (rangeAt_row (HT5.out.rs.at 2 rfl)) Tryz.underlying23 rfl (R5.info32 KL HKN.out) ?_)
      | (refine wpList_load_mid rfl 29 (.tmp 9) rfl (w.heap.size + 1 + 1) 0 rfl GL _ (rangeAt_row (HT5.out.rs.at 1 rfl)) Tryz.underlying29 rfl (info128 GL HGN.out) ?_))
    refine Calls.mono (HP2.out _ _ _ _ _ HT5.out) ?_
    rintro e X5 ⟨rfl, hTB⟩
    have HT6 : Hid _ := hTB.alloc X5.heap.size rfl 29 ZG
    clear hTB HT5
    go_upto_region 6 with (refine R5.wpList_store_rowL rfl 29 _ _ rfl X5.heap.size (ZG).toArray rfl rfl 29 ZG.toArray (HT6.out.rs.at 0 rfl) (info128a _ HZN.out) (by simp [HZN.out, HZN.out]) HZ1.out ?_; intro X6 e6; have HT7 : Hid _ := HT6.out.put 0 rfl (ZG); rw [← e6] at HT7; clear e6)
    have HT8 : Hid (TB w og mb rg c.i c.m c.D [] [] ((X5.heap.size, 29, ZG) :: (n13, 29, ZG) :: rows0 w MLL KL GL) X6) := HT7.out
    clear HT6 HT7
    generalize X5.heap.size = n15 at *
    go_wp2_with fail
    refine Calls.mono (HM1.out X6) ?_
    rintro e X7 ⟨rfl, h2⟩
    rw [h2]
    clear h2 X7
    have heq := HZE.out X6
    go_wp2_with (first
      | (refine wpList_load_mid rfl 29 (.tmp 13) rfl n13 0 rfl ZG _ (rangeAt_row (HT8.out.rs.at 1 rfl)) Tryz.underlying29 rfl (info128 ZG HZN.out) ?_)
      | (refine wpList_load_mid rfl 29 (.tmp 15) rfl n15 0 rfl ZG _ (rangeAt_row (HT8.out.rs.at 0 rfl)) Tryz.underlying29 rfl (info128 ZG HZN.out) ?_)
      | (refine R5.load_mid_g (by rfl) 29 (.tmp 15) rfl n15 0 rfl ZG _ (rangeAt_row (HT8.out.rs.at 0 rfl)) Tryz.underlying29 rfl (info128 ZG HZN.out) ?_)
      | (refine R5.load_mid_g (by rfl) 29 (.tmp 13) rfl n13 0 rfl ZG _ (rangeAt_row (HT8.out.rs.at 1 rfl)) Tryz.underlying29 rfl (info128 ZG HZN.out) ?_)
      | (refine R5.wpList_build rfl 29 #[] rfl #[] (.agg ZG.toArray) (by simp) (HBG.out _) ?_))
    refine Calls.mono (HNM.out 2 X6) ?_
    rintro e W1 ⟨rfl, rfl⟩
    go_wp2_with fail
    refine Calls.mono (HNM.out 2 X6) ?_
    rintro e W1 ⟨rfl, rfl⟩
    go_wp2_with fail
    refine Calls.mono (HT8.out.log (by decide)) ?_
    rintro e X7 ⟨v, rfl, ⟨pv, cv, rfl, _⟩, hb⟩
    have HT9 : Hid _ := HT8.out.step hb
    clear hb HT8 heq
    simp only [List.length_nil]
    go_wp2_with fail
    refine Calls.mono (HKW.out X7) ?_
    rintro e X8 ⟨rfl, hb⟩
    have HTA : Hid _ := HT9.out.step hb
    clear hb HT9
    go_wp2
    go_ret
    exact ⟨rfl, HTA.out.bel⟩
set_option maxRecDepth 100000 in
theorem lifted (os : Os) (started : os.Started) (H : Type) (enc : TypeId × Value → H) :
    ReturnsInHanded {} Tryz.checked os 3 .any (Rows.blobSealsSpec.pre6 enc Tryz.prog Tryz.f3 Rows.blobSealsRow.domain false) (Rows.blobSealsSpec.post enc Tryz.prog Tryz.f3 false true false false) := by
  refine returnsInHanded_of_change (C := Tryz.checked) own started (by kernel_rfl) Tryz.func3
    (ChangeSpec.witness6 (enc := enc) (C := Tryz.checked) false ⟨#[], #[.agg (#[.bool false] ++ Array.replicate 32 (.int .u8 0) ++ #[.slice none 0 0]), .agg (Array.replicate 32 (.int .u8 0)), .int .i64 0, .int .u64 0, .agg (Array.replicate 128 (.int .u8 0))], []⟩ 8 (by kernel_rfl) (by kernel_rfl) (by kernel_rfl) (by kernel_rfl)) ?_
  intro W base args ds gs before hval0 hW hcnd _
  have hval : ∀ (j : Nat) t v, Tryz.f3.params[j]? = some t → args[j]? = some v → Value.okWide Tryz.prog W .any base t v := hval0
  have hW' := hW
  obtain ⟨p, q, hA0, hV, rfl, hfz, hnd⟩ := hW
  have hA : DataW.TrodAll enc Tryz.prog W 0 (fun _ => true) true Tryz.f3.params.toList args.toList ds p := hA0
  rw [Tryz.params3] at hA hval
  obtain ⟨v0, vs0, d0, ds0, p0, q0, hargs, rfl, rfl, h0, r0⟩ := trodAll_cons hA
  obtain ⟨v1, vs1, d1, ds1, p1, q1, rfl, rfl, rfl, h1, r1⟩ := trodAll_cons r0
  obtain ⟨v2, vs2, d2, ds2, p2, q2, rfl, rfl, rfl, h2, r2⟩ := trodAll_cons r1
  obtain ⟨v3, vs3, d3, ds3, p3, q3, rfl, rfl, rfl, h3, r3⟩ := trodAll_cons r2
  obtain ⟨v4, vs4, d4, ds4, p4, q4, rfl, rfl, rfl, h4, r4⟩ := trodAll_cons r3
  obtain ⟨rfl, rfl, rfl⟩ := trodAll_nil r4
  obtain rfl : args = #[v0, v1, v2, v3, v4] := by cases args; simp_all
  obtain ⟨rfl, rfl⟩ := trodVars_none hV
  have k0 := h0
  have lt0 : ∀ x ∈ p0, x.block < W.heap.size := by obtain ⟨m, hm⟩ := k0; exact DataW.trod_lt m _ _ _ hm
  obtain ⟨xs0, rfl⟩ := BC.okWide_str Tryz.underlying26 (hval 0 26 v0 rfl rfl)
  obtain ⟨c0, dv0, rfl, hl0⟩ : ∃ c dv, xs0 = (BC.moL c dv).toArray ∧ BC.Mo.ok c dv W := by obtain ⟨fuel, hf⟩ := h0; obtain ⟨c, dv, e, h1⟩ := BC.open_mode hf; exact ⟨c, dv, by rw [← Array.toList_inj]; exact e, h1⟩
  have k1 := h1
  have lt1 : ∀ x ∈ p1, x.block < W.heap.size := by obtain ⟨m, hm⟩ := k1; exact DataW.trod_lt m _ _ _ hm
  obtain ⟨l1, rfl, hl1⟩ := open_octets Tryz.underlying23 (by kernel_rfl) (hval 1 23 v1 rfl rfl) h1
  obtain ⟨n2, rfl, rfl, rfl, w2⟩ := open_int Tryz.underlying3 (hval 2 3 v2 rfl rfl) h2
  obtain ⟨n3, rfl, rfl, rfl, w3⟩ := open_int Tryz.underlying27 (hval 3 27 v3 rfl rfl) h3
  have k4 := h4
  have lt4 : ∀ x ∈ p4, x.block < W.heap.size := by obtain ⟨m, hm⟩ := k4; exact DataW.trod_lt m _ _ _ hm
  obtain ⟨l4, rfl, hl4⟩ := open_octets Tryz.underlying29 (by kernel_rfl) (hval 4 29 v4 rfl rfl) h4
  clear hA0 hval0
  refine (walk c0 dv0 l1 n2 n3 l4 W hl0 hl1 w2 w3 hl4).mono fun e W' ⟨he, bel⟩ => ?_
  subst he
  exact ⟨_, rfl, _, _, _, [], _, [], hW', trodAll_mk1 (shut_bool Tryz.underlying4 _), (trodAll_cons_mk (Below.trod laidOut (by kernel_rfl) (of_decide_eq_true (by kernel_rfl)) k0 bel lt0) (trodAll_cons_mk (Below.trod laidOut (by kernel_rfl) (of_decide_eq_true (by kernel_rfl)) k1 bel lt1) (trodAll_cons_mk (shut_int Tryz.underlying3 w2) (trodAll_cons_mk (shut_int Tryz.underlying27 w3) (trodAll_cons_mk (Below.trod laidOut (by kernel_rfl) (of_decide_eq_true (by kernel_rfl)) k4 bel lt4) trodAll_mk0))))), rfl, bel.frame _, fun h => by cases h⟩

theorem over : Rows.blobSealsRow.holds Tryz.pinned (OpenSpec.ofChange Rows.blobSealsSpec) :=
  OpenClaim.holds_of_wide 3 Tryz.f3 rfl rfl rfl rfl rfl rfl rfl ⟨rfl, rfl, rfl, rfl, rfl⟩ rfl rfl rfl rfl rfl (by kernel_rfl) Tryz.func3 (by kernel_rfl)
    (of_decide_eq_true (by kernel_rfl)) (by unfold Func.isWrapper; first | (rw [if_pos (by decide +kernel)]; kernel_rfl) | (rw [if_neg (by decide +kernel)]; exact ⟨rfl, rfl⟩))
    (fun os started H enc _ => lifted os started H enc)

end Go.Proofs.YtbmmibmfjhehhaaGreat.blobSeals
namespace Go.Proofs.YtbmmibmfjhehhaaGreat
theorem blobSeals_holds : Rows.BlobSealsSaid := blobSeals.over
#print axioms blobSeals_holds
end Go.Proofs.YtbmmibmfjhehhaaGreat
