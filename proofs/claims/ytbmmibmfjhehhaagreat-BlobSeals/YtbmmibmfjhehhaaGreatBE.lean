/- blob: a page's stream is asked for, over any Stream. -/
import Derived.Test.YtbmmibmfjhehhaaGreatBD
set_option linter.unusedVariables false
set_option linter.unusedSimpArgs false
namespace Go.Proofs.YtbmmibmfjhehhaaGreat.BC
open Go.RowKit

theorem zero_qn (w : World) : (zeroValue 66).run Tryz.prog w = .ok (.agg (R5.qL ⟨0, List.replicate 32 0, 0, []⟩ (.slice none 0 0)).toArray) w := by kernel_rfl
theorem info35a (RS : List Value) (h : RS.length = 35) : (Tryz.prog.info? 66).map (·.size) = some RS.toArray.size := by rw [List.size_toArray, h]; kernel_rfl
theorem RS.tail {w X : World} {r : Nat × TypeId × List Value} {rows : List (Nat × TypeId × List Value)} (h : RS w (r :: rows) X) : RS w rows X :=
  ⟨h.bel, fun q hq => h.low q (List.mem_cons_of_mem _ hq), (List.nodup_cons.1 (show (r.1 :: rows.map (·.1)).Nodup from h.nd)).2, fun q hq => h.row q (List.mem_cons_of_mem _ hq)⟩
structure Q1 (w : World) (QL : List Value) (b : Nat) (v : Value) (l : List UInt8) (X : World) : Prop where
  rs : RS w [(b, 66, QL)] X
  data : HB X v l
  own : ∀ j, v.ownBlock = some j → w.heap.size ≤ j
set_option maxHeartbeats 4000000 in
set_option maxRecDepth 100000 in
theorem msk1_any (T : Value → Int → World → World → Prop) (key lp lc : List UInt8) (p1 p2 : Option Addr) (c1 c2 bk bo og : Nat) (w : World) (hk : key.length = 32) (hl1 : lp.length = 8) (hl2 : lc.length = 8)
    (hrk : w.heap[bk]? = some (.cells (key.map B8).toArray 23 (0, 0))) (hro : w.cell? ⟨bo, 0, none⟩ = some (.pointer (some ⟨og, 0, none⟩))) (hvp : HB w (.slice p1 8 c1) lp) (hvc : HB w (.slice p2 8 c2) lc)
    (hS : ∀ W dq, Below w.heap.size w W → HB W dq (lp ++ lc) → (∀ j, dq.ownBlock = some j → w.heap.size ≤ j) → Calls Tryz.prog 38 #[.pointer (some ⟨og, 0, none⟩), .agg (R5.qL ⟨4, key, 10, lp ++ lc⟩ dq).toArray, .int .i64 128] W fun e w' => Pass T W e w') :
    Calls Tryz.prog 36 #[.slice p1 8 c1, .slice p2 8 c2, .pointer (some ⟨bk, 0, none⟩), .pointer (some ⟨bo, 0, none⟩)] w fun e w' => Pass T w e w' := by
  have hz := fun W => zero_qn W
  obtain ⟨ZQ, hZQ⟩ : ∃ L, L = R5.qL ⟨0, List.replicate 32 0, 0, []⟩ (.slice none 0 0) := ⟨_, rfl⟩
  rw [← hZQ] at hz
  have HZQ : Hid (ZQ.length = 35) := by rw [hZQ]; rfl
  clear hZQ
  obtain ⟨QF, hQF⟩ : ∃ QF : Option Addr → Nat → List Value, QF = fun p c => R5.qL ⟨4, key, 10, lp ++ lc⟩ (.slice p 16 c) := ⟨_, rfl⟩
  have HQL : Hid (∀ p c, (QF p c).length = 35) := fun p c => by rw [hQF]; exact R5.qL_len _ _ hk
  have HQ1 : Hid (∀ p c, (QF p c).toArray.all (·.oneCell') = true) := fun p c => by rw [hQF]; exact R5.PS.all_of (R5.qL_one _ _ rfl)
  have HQE : Hid (∀ p c, QF p c = R5.qL ⟨4, key, 10, lp ++ lc⟩ (.slice p 16 c)) := fun p c => by rw [hQF]
  have HLL : Hid ((lp ++ lc).length = 16) := by show _ = _; rw [List.length_append, hl1, hl2]
  have HKL : (key.map B8).length = 32 := by simpa using hk
  have HBK : Hid (∀ (p : Option Addr) (c : Nat) (W : World), (Instr.build 66 #[(0, .int .i64 4), (1, .agg (key.map B8).toArray), (2, .int .i64 10), (3, .slice p 16 c)]).run Tryz.prog W = .ok (.agg (QF p c).toArray) W) := fun p c W => by rw [hQF]; exact R5.build_q4 W 4 10 (key.map B8) HKL p 16 c
  have HRK : Hid (∀ X, Below w.heap.size w X → X.rangeAt bk 0 (key.map B8)) := fun X hX => rangeAt_row ((hX.block _ (R5.row_lt hrk)).trans hrk)
  have HKI : Hid _ := R5.info32 (key.map B8) HKL
  have HRO : Hid (∀ X, Below w.heap.size w X → X.cell? ⟨bo, 0, none⟩ = some (.pointer (some ⟨og, 0, none⟩))) := fun X hX => (hX.cell (block_lt hro)).trans hro
  have HVP : Hid (∀ X, Below w.heap.size w X → HB X (.slice p1 8 c1) lp) := fun X hX => hvp.below hX
  have HVC : Hid (∀ X, Below w.heap.size w X → HB X (.slice p2 8 c2) lc) := fun X hX => hvc.below hX
  have HJN : Hid (∀ pv W, R5.HP W pv [lp, lc] → Calls Tryz.prog 37 #[pv] W fun e w' => ∃ v, e = .returned v ∧ FB W.heap.size w' v (lp ++ lc) ∧ Below W.heap.size W w') := fun pv W hp => by
    have q := R5.pjoin_any pv [lp, lc] W (by simp) (by simp; omega) hp
    rw [show [lp, lc].flatten = lp ++ lc by simp] at q
    exact q
  have HS : Hid (∀ W p c, Below w.heap.size w W → HB W (.slice p 16 c) (lp ++ lc) → (∀ j, (Value.slice p 16 c).ownBlock = some j → w.heap.size ≤ j) → Calls Tryz.prog 38 #[.pointer (some ⟨og, 0, none⟩), .agg (QF p c).toArray, .int .i64 128] W fun e w' => Pass T W e w') := fun W p c h1 h2 h3 => by rw [HQE.out]; exact hS W _ h1 h2 h3
  have HW0 : Hid (RS w [] w) := RS.start w
  clear hQF hS hrk hro hvp hvc hl1 hl2 hk
  generalize key.map B8 = KL at *
  go_enter Tryz.func36, Tryz.ntmps36
  go_upto_region 1 with fail
  go_cut [8] from 9 to 14 (fun p X => ∃ (b : Nat) (pj : Option Addr) (cj : Nat), p = .pointer (some ⟨b, 0, none⟩) ∧ Q1 w (QF pj cj) b (.slice pj 16 cj) (lp ++ lc) X)
  case first =>
    refine wp_region_held_drew (S := fun X => RS w [] X) (by kernel_rfl) (HW0.out.step (Below.refl _ _).drew) (fun hHeld => ?_)
    clear HW0
    generalize World.drew _ = V0 at *
    have hN := hHeld
    refine wpAnyH_take (i := 0) (oi := ⟨some 9, .load 23 (.tmp 2), 23, _, #[], none⟩) rfl (by kernel_rfl) (by kernel_rfl) (by kernel_rfl) (fun _ _ _ h => h) (yieldsIf_load_mid (by rfl) 23 (.tmp 2) rfl (bk) (0) rfl (KL) _ (fun _ h => HRK.out _ h.bel) Tryz.underlying23 rfl HKI.out) hHeld ?_
    try simp only [Act.put, qT, q0, qS]
    refine wpAnyH_take (i := 1) (oi := ⟨some 10, .move (.tmp 0), 64, _, #[], none⟩) (v := .slice p1 8 c1) rfl (by kernel_rfl) (by kernel_rfl) (by kernel_rfl) (fun _ _ _ h => h) (Or.inl ⟨by rfl, fun w' hw' => ?_⟩) hHeld ?_
    · first | (go_simp; done) | (go_simp; rfl)
    try simp only [Act.put, qT, q0, qS]
    refine wpAnyH_take (i := 2) (oi := ⟨some 11, .move (.tmp 1), 64, _, #[], none⟩) (v := .slice p2 8 c2) rfl (by kernel_rfl) (by kernel_rfl) (by kernel_rfl) (fun _ _ _ h => h) (Or.inl ⟨by rfl, fun w' hw' => ?_⟩) hHeld ?_
    · first | (go_simp; done) | (go_simp; rfl)
    try simp only [Act.put, qT, q0, qS]
    refine wpAnyH_ready (rs := [3, 6]) (by kernel_rfl) (by simp) ?_
    refine AllReadyH.cons (o := ⟨some 12, .buildSlice 93 2 #[(0, .tmp 10), (1, .tmp 11)], 93, _, #[⟨1, .data⟩, ⟨2, .data⟩], none⟩) rfl (fun K hK => ?_) (AllReadyH.cons (o := ⟨some 8, .alloc 66, 0, _, #[], none⟩) rfl (fun K hK => ?_) AllReadyH.nil)
    all_goals rw [if_pos (by rfl)]
    · skip
      refine R5.wp_bslice 93 2 _ rfl _ _ (by simp; first | done | rfl | exact ⟨rfl, rfl⟩) (R5.PS.bs_pair V0 _ _ _ _ _ _) ?_
      have hp := R5.PS.hp_pair (X := V0) (HVP.out V0 hHeld.bel) (HVC.out V0 hHeld.bel)
      have h3 : Below V0.heap.size V0 (V0.alloc (.cells #[.slice p1 8 c1, .slice p2 8 c2] 64 (0, 0))) := (Below.refl _ _).alloc (Nat.le_refl _) _
      replace hN := hN.step h3
      replace hHeld := hHeld.step h3
      clear h3
      generalize V0.alloc (.cells #[.slice p1 8 c1, .slice p2 8 c2] 64 (0, 0)) = V1 at *
      generalize V0.heap.size = n3 at *
      refine hK.out _ _ hHeld (fun _ => ?_)
      clear hK K
      try simp only [Act.put, qT, q0, qS]
      refine wpAnyH_ready (rs := [4, 6]) (by kernel_rfl) (by simp) ?_
      refine AllReadyH.cons (o := { dst := some 13, op := .call { callee := Go.Callee.value (.func 37), args := #[.tmp 12], argTypes := #[93] }, type := 64, pos := _, after := #[⟨3, .data⟩], guard := none }) rfl (fun K hK => ?_) (AllReadyH.cons (o := ⟨some 8, .alloc 66, 0, _, #[], none⟩) rfl (fun K hK => ?_) AllReadyH.nil)
      all_goals rw [if_pos (by rfl)]
      · skip
        go_wp2_with fail
        refine Calls.mono (HJN.out _ V1 hp) ?_
        rintro e V2 ⟨vj, rfl, hf, hb⟩
        obtain ⟨pj, cj, hvj, _⟩ := R5.hb_cells hf.hb
        rw [HLL.out] at hvj
        have hown : ∀ j, vj.ownBlock = some j → V1.heap.size ≤ j ∧ j < V2.heap.size := fun j e => World.ownsRow.lt hf j e
        have hhb := hf.hb
        have hs4 := hHeld.bel.size
        replace hN := hN.step hb
        replace hHeld := hHeld.step hb
        subst hvj
        clear hf hb
        refine hK.out _ _ hHeld (fun _ => ?_)
        clear hK K
        try simp only [Act.put, qT, q0, qS]
        refine wpAnyH_take (i := 5) (oi := ⟨some 14, .build 66 #[(0, .const (Go.Value.int Go.IntKind.i64 4)), (1, .tmp 9), (2, .const (Go.Value.int Go.IntKind.i64 10)), (3, .tmp 13)], 66, _, #[⟨0, .data⟩, ⟨4, .data⟩], none⟩) (v := .agg (QF pj cj).toArray) rfl (by kernel_rfl) (by kernel_rfl) (by kernel_rfl) (fun _ _ _ h => h) (Or.inl ⟨by rfl, fun w' hw' => ?_⟩) hHeld ?_
        · exact R5.exec_build _ _ 66 _ _ _ w' rfl (by simp; exact ⟨rfl, rfl, rfl, rfl⟩) (HBK.out pj cj w')
        try simp only [Act.put, qT, q0, qS]
        refine wpAnyH_ready (rs := [6]) (by kernel_rfl) (by simp) ?_
        refine AllReadyH.cons (o := ⟨some 8, .alloc 66, 0, _, #[], none⟩) rfl (fun K hK => ?_) AllReadyH.nil
        rw [if_pos (by rfl)]
        go_wp2_with fail
        replace hN := hN.alloc V2.heap.size rfl 66 ZQ
        replace hHeld := RS.tail hN
        generalize hX : V2.alloc (.cells ZQ.toArray 66 (0, 0)) = V3 at *
        generalize hn8 : V2.heap.size = n8 at *
        refine hK.out _ _ hHeld (fun _ => ?_)
        clear hK K
        try simp only [Act.put, qT, q0, qS]
        have hhb := hhb.below (w' := V3) (by rw [← hX]; exact (Below.refl _ _).alloc (Nat.le_refl _) _)
        clear hX
        refine wpAnyH_ready (rs := [7]) (by kernel_rfl) (by simp) ?_
        refine AllReadyH.cons (o := ⟨none, .store 66 (.tmp 8) (.tmp 14), 0, _, #[⟨6, .data⟩, ⟨5, .data⟩, ⟨4, .chain⟩, ⟨0, .phase⟩, ⟨1, .phase⟩, ⟨2, .phase⟩, ⟨3, .phase⟩, ⟨4, .phase⟩, ⟨5, .phase⟩, ⟨6, .phase⟩], none⟩) rfl (fun K hK => ?_) AllReadyH.nil
        rw [if_pos (by rfl)]
        refine wp_store_row 66 _ _ rfl n8 (QF pj cj).toArray rfl rfl 66 ZQ.toArray (hN.at 0 rfl) (info35a _ (HQL.out pj cj)) (by simp [HQL.out pj cj, HZQ.out]) (HQ1.out pj cj) ?_
        have hN2 := hN.put 0 rfl (QF pj cj)
        have hH2 := RS.tail hN2
        have hd2 : HB (V3.setRow n8 (QF pj cj).toArray) (.slice pj 16 cj) (lp ++ lc) := R5.hb_keep hhb (fun k e hl => setRow_other _ _ _ _ (by have := hown k e; omega))
        refine hK.out _ _ hH2 (fun _ => ?_)
        clear hK K
        try simp only [Act.put, qT, q0, qS]
        refine wpAnyH_done (by kernel_rfl) ?_ _
        go_wp2_with fail
        go_meet
        case rel => exact ⟨n8, pj, cj, rfl, ⟨hN2, hd2, fun j e => by have := (hown j e).1; omega⟩⟩
      · skip
        go_wp2_with fail
        replace hN := hN.alloc V1.heap.size rfl 66 ZQ
        replace hHeld := RS.tail hN
        generalize hX : V1.alloc (.cells ZQ.toArray 66 (0, 0)) = V2 at *
        generalize hn8 : V1.heap.size = n8 at *
        refine hK.out _ _ hHeld (fun _ => ?_)
        clear hK K
        try simp only [Act.put, qT, q0, qS]
        replace hp := R5.hp_below hp (show Below V1.heap.size V1 V2 by rw [← hX]; exact (Below.refl _ _).alloc (Nat.le_refl _) _)
        clear hX
        refine wpAnyH_ready (rs := [4]) (by kernel_rfl) (by simp) ?_
        refine AllReadyH.cons (o := { dst := some 13, op := .call { callee := Go.Callee.value (.func 37), args := #[.tmp 12], argTypes := #[93] }, type := 64, pos := _, after := #[⟨3, .data⟩], guard := none }) rfl (fun K hK => ?_) AllReadyH.nil
        rw [if_pos (by rfl)]
        have hlt8 := R5.row_lt (hN.at 0 rfl)
        go_wp2_with fail
        refine Calls.mono (HJN.out _ V2 hp) ?_
        rintro e V3 ⟨vj, rfl, hf, hb⟩
        obtain ⟨pj, cj, hvj, _⟩ := R5.hb_cells hf.hb
        rw [HLL.out] at hvj
        have hown : ∀ j, vj.ownBlock = some j → V2.heap.size ≤ j ∧ j < V3.heap.size := fun j e => World.ownsRow.lt hf j e
        have hhb := hf.hb
        have hs4 := hHeld.bel.size
        replace hN := hN.step hb
        replace hHeld := hHeld.step hb
        subst hvj
        clear hf hb
        refine hK.out _ _ hHeld (fun _ => ?_)
        clear hK K
        try simp only [Act.put, qT, q0, qS]
        refine wpAnyH_take (i := 5) (oi := ⟨some 14, .build 66 #[(0, .const (Go.Value.int Go.IntKind.i64 4)), (1, .tmp 9), (2, .const (Go.Value.int Go.IntKind.i64 10)), (3, .tmp 13)], 66, _, #[⟨0, .data⟩, ⟨4, .data⟩], none⟩) (v := .agg (QF pj cj).toArray) rfl (by kernel_rfl) (by kernel_rfl) (by kernel_rfl) (fun _ _ _ h => h) (Or.inl ⟨by rfl, fun w' hw' => ?_⟩) hHeld ?_
        · exact R5.exec_build _ _ 66 _ _ _ w' rfl (by simp; exact ⟨rfl, rfl, rfl, rfl⟩) (HBK.out pj cj w')
        try simp only [Act.put, qT, q0, qS]
        refine wpAnyH_ready (rs := [7]) (by kernel_rfl) (by simp) ?_
        refine AllReadyH.cons (o := ⟨none, .store 66 (.tmp 8) (.tmp 14), 0, _, #[⟨6, .data⟩, ⟨5, .data⟩, ⟨4, .chain⟩, ⟨0, .phase⟩, ⟨1, .phase⟩, ⟨2, .phase⟩, ⟨3, .phase⟩, ⟨4, .phase⟩, ⟨5, .phase⟩, ⟨6, .phase⟩], none⟩) rfl (fun K hK => ?_) AllReadyH.nil
        rw [if_pos (by rfl)]
        refine wp_store_row 66 _ _ rfl n8 (QF pj cj).toArray rfl rfl 66 ZQ.toArray (hN.at 0 rfl) (info35a _ (HQL.out pj cj)) (by simp [HQL.out pj cj, HZQ.out]) (HQ1.out pj cj) ?_
        have hN2 := hN.put 0 rfl (QF pj cj)
        have hH2 := RS.tail hN2
        have hd2 : HB (V3.setRow n8 (QF pj cj).toArray) (.slice pj 16 cj) (lp ++ lc) := R5.hb_keep hhb (fun k e hl => setRow_other _ _ _ _ (by have := hown k e; omega))
        refine hK.out _ _ hH2 (fun _ => ?_)
        clear hK K
        try simp only [Act.put, qT, q0, qS]
        refine wpAnyH_done (by kernel_rfl) ?_ _
        go_wp2_with fail
        go_meet
        case rel => exact ⟨n8, pj, cj, rfl, ⟨hN2, hd2, fun j e => by have := (hown j e).1; omega⟩⟩
    · skip
      go_wp2_with fail
      replace hN := hN.alloc V0.heap.size rfl 66 ZQ
      replace hHeld := RS.tail hN
      generalize hX : V0.alloc (.cells ZQ.toArray 66 (0, 0)) = V1 at *
      generalize hn8 : V0.heap.size = n8 at *
      refine hK.out _ _ hHeld (fun _ => ?_)
      clear hK K
      try simp only [Act.put, qT, q0, qS]
      clear hX
      refine wpAnyH_ready (rs := [3]) (by kernel_rfl) (by simp) ?_
      refine AllReadyH.cons (o := ⟨some 12, .buildSlice 93 2 #[(0, .tmp 10), (1, .tmp 11)], 93, _, #[⟨1, .data⟩, ⟨2, .data⟩], none⟩) rfl (fun K hK => ?_) AllReadyH.nil
      rw [if_pos (by rfl)]
      refine R5.wp_bslice 93 2 _ rfl _ _ (by simp; first | done | rfl | exact ⟨rfl, rfl⟩) (R5.PS.bs_pair V1 _ _ _ _ _ _) ?_
      have hp := R5.PS.hp_pair (X := V1) (HVP.out V1 hHeld.bel) (HVC.out V1 hHeld.bel)
      have h3 : Below V1.heap.size V1 (V1.alloc (.cells #[.slice p1 8 c1, .slice p2 8 c2] 64 (0, 0))) := (Below.refl _ _).alloc (Nat.le_refl _) _
      replace hN := hN.step h3
      replace hHeld := hHeld.step h3
      clear h3
      generalize V1.alloc (.cells #[.slice p1 8 c1, .slice p2 8 c2] 64 (0, 0)) = V2 at *
      generalize V1.heap.size = n3 at *
      refine hK.out _ _ hHeld (fun _ => ?_)
      clear hK K
      try simp only [Act.put, qT, q0, qS]
      refine wpAnyH_ready (rs := [4]) (by kernel_rfl) (by simp) ?_
      refine AllReadyH.cons (o := { dst := some 13, op := .call { callee := Go.Callee.value (.func 37), args := #[.tmp 12], argTypes := #[93] }, type := 64, pos := _, after := #[⟨3, .data⟩], guard := none }) rfl (fun K hK => ?_) AllReadyH.nil
      rw [if_pos (by rfl)]
      have hlt8 := R5.row_lt (hN.at 0 rfl)
      go_wp2_with fail
      refine Calls.mono (HJN.out _ V2 hp) ?_
      rintro e V3 ⟨vj, rfl, hf, hb⟩
      obtain ⟨pj, cj, hvj, _⟩ := R5.hb_cells hf.hb
      rw [HLL.out] at hvj
      have hown : ∀ j, vj.ownBlock = some j → V2.heap.size ≤ j ∧ j < V3.heap.size := fun j e => World.ownsRow.lt hf j e
      have hhb := hf.hb
      have hs4 := hHeld.bel.size
      replace hN := hN.step hb
      replace hHeld := hHeld.step hb
      subst hvj
      clear hf hb
      refine hK.out _ _ hHeld (fun _ => ?_)
      clear hK K
      try simp only [Act.put, qT, q0, qS]
      refine wpAnyH_take (i := 5) (oi := ⟨some 14, .build 66 #[(0, .const (Go.Value.int Go.IntKind.i64 4)), (1, .tmp 9), (2, .const (Go.Value.int Go.IntKind.i64 10)), (3, .tmp 13)], 66, _, #[⟨0, .data⟩, ⟨4, .data⟩], none⟩) (v := .agg (QF pj cj).toArray) rfl (by kernel_rfl) (by kernel_rfl) (by kernel_rfl) (fun _ _ _ h => h) (Or.inl ⟨by rfl, fun w' hw' => ?_⟩) hHeld ?_
      · exact R5.exec_build _ _ 66 _ _ _ w' rfl (by simp; exact ⟨rfl, rfl, rfl, rfl⟩) (HBK.out pj cj w')
      try simp only [Act.put, qT, q0, qS]
      refine wpAnyH_ready (rs := [7]) (by kernel_rfl) (by simp) ?_
      refine AllReadyH.cons (o := ⟨none, .store 66 (.tmp 8) (.tmp 14), 0, _, #[⟨6, .data⟩, ⟨5, .data⟩, ⟨4, .chain⟩, ⟨0, .phase⟩, ⟨1, .phase⟩, ⟨2, .phase⟩, ⟨3, .phase⟩, ⟨4, .phase⟩, ⟨5, .phase⟩, ⟨6, .phase⟩], none⟩) rfl (fun K hK => ?_) AllReadyH.nil
      rw [if_pos (by rfl)]
      refine wp_store_row 66 _ _ rfl n8 (QF pj cj).toArray rfl rfl 66 ZQ.toArray (hN.at 0 rfl) (info35a _ (HQL.out pj cj)) (by simp [HQL.out pj cj, HZQ.out]) (HQ1.out pj cj) ?_
      have hN2 := hN.put 0 rfl (QF pj cj)
      have hH2 := RS.tail hN2
      have hd2 : HB (V3.setRow n8 (QF pj cj).toArray) (.slice pj 16 cj) (lp ++ lc) := R5.hb_keep hhb (fun k e hl => setRow_other _ _ _ _ (by have := hown k e; omega))
      refine hK.out _ _ hH2 (fun _ => ?_)
      clear hK K
      try simp only [Act.put, qT, q0, qS]
      refine wpAnyH_done (by kernel_rfl) ?_ _
      go_wp2_with fail
      go_meet
      case rel => exact ⟨n8, pj, cj, rfl, ⟨hN2, hd2, fun j e => by have := (hown j e).1; omega⟩⟩
  case rest =>
    obtain ⟨b, pj, cj, rfl, hQ⟩ := hcut
    have hco := HRO.out _ hQ.rs.bel
    have HQ : Hid _ := hQ
    clear hQ
    go_wp2_with (refine wpList_load_mid rfl 66 _ rfl b 0 rfl (QF pj cj) _ (rangeAt_row (HQ.out.rs.at 0 rfl)) Tryz.underlying66 rfl (R5.info35 _ (HQL.out pj cj)) ?_)
    refine Calls.mono (HS.out _ pj cj HQ.out.rs.bel HQ.out.data HQ.out.own) ?_
    intro e w4 hP
    have hP2 := hP.ahead HQ.out.rs.bel
    clear hP
    obtain ⟨W, a, n, h1, rfl, h3⟩ := hP2
    have HEND : Hid (Pass T w (.returned (.tuple #[a, .int .i64 n])) w4) := ⟨W, a, n, h1, rfl, h3⟩
    clear h1 h3
    go_wp2
    go_ret2
    exact HEND.out
end Go.Proofs.YtbmmibmfjhehhaaGreat.BC
