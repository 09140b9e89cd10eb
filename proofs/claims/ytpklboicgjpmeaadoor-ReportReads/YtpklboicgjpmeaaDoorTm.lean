/- report: what is told of bytes by the document. -/
import Derived.Test.YtpklboicgjpmeaaDoorTl
set_option linter.unusedVariables false
set_option linter.unusedSimpArgs false
namespace Go.Proofs.YtpklboicgjpmeaaDoor.RB
open Go.RowKit

set_option maxHeartbeats 2000000 in
set_option maxRecDepth 100000 in
theorem rof_any (v : Value) (l : List UInt8) (w : World) (hv : HB w v l) : Calls Tryd.prog 17 #[v] w fun e w' => ∃ r b, e = .returned (.tuple #[rV r, .bool b]) ∧ BR l r b ∧ Below w.heap.size w w' := by
  have hz := zero_rp
  have HBD : Hid _ := build_rp
  have HBD1 : Hid _ := build_rp1
  have HI0 : Hid _ := infR r0_ok
  have HI0A : Hid _ := infRA r0_ok
  have H01 : Hid _ := rL_one r0
  have HR : Hid _ := (RS.start w).alloc _ rfl 26 (rL r0)
  by_cases hl : l.length = 80
  · obtain ⟨gb, o, cap, rfl, hcap⟩ : ∃ gb o cap, v = .slice (some ⟨gb, o, none⟩) 80 cap ∧ 80 ≤ cap := by
      rcases hv with ⟨rfl, _⟩ | ⟨b, o, cap, e, h1, _⟩
      · simp at hl
      · exact ⟨b, o, cap, by rw [e, hl], by omega⟩
    have HV : Hid _ := hv
    have HGT : Hid (∀ X, Below w.heap.size w X → Calls Tryd.prog 33 #[.slice (some ⟨gb, o + 8, none⟩) 8 (cap - 8)] X fun e w' => e = .returned (.int .u64 ((rdB l).inst : Int)) ∧ X = w') := fun X hb => by
      have h8 : ((l.drop 8).take 8).length = 8 := by simp [hl]
      have hp := hb_part (k := 8) (s := 8) (hv.below hb) hl (by decide) (by decide) rfl
      have := refGet_any gb (o + 8) (cap - 8) ((l.drop 8).take 8) X (by omega) (by
        rcases hp with ⟨e, _⟩ | ⟨b, o', cap', e, _, _, hc⟩
        · rw [e] at h8; simp at h8
        · obtain ⟨rfl, rfl⟩ : b = gb ∧ o' = o + 8 := by simp_all
          exact hc)
      rw [h8] at this
      exact this
    have HMS : Hid (∀ X, Below w.heap.size w X → ∀ j u, ((rdB l).ms.map B8)[j]? = some u → X.cell? ((⟨gb, o + 16, none⟩ : Addr).add j) = some u) := fun X hb => by
      obtain ⟨p, c, e, _, h2⟩ := hb_cells (hb_part (k := 16) (s := 32) (hv.below hb) hl (by decide) (by decide) rfl)
      exact h2 _ (by injection e with e1 _ _; exact e1.symm)
    have HCS : Hid (∀ X, Below w.heap.size w X → ∀ j u, ((rdB l).ch.map B8)[j]? = some u → X.cell? ((⟨gb, o + 48, none⟩ : Addr).add j) = some u) := fun X hb => by
      obtain ⟨p, c, e, _, h2⟩ := hb_cells (hb_part (k := 48) (s := 32) (hv.below hb) hl (by decide) (by decide) rfl)
      have e3 : (l.drop 48).take 32 = (rdB l).ch := rfl
      exact h2 _ (by injection e with e1 _ _; exact e1.symm)
    have HOK : Hid (rdB l).ok := rdB_ok hl
    have HYES : Hid (byt (rdB l) = l → BR l (rdB l) true) := br_yes hl
    have HNO : Hid (byt (rdB l) ≠ l → BR l r0 false) := br_no hl
    have HRB : Hid _ := HR.out.alloc (w.heap.size + 1) (by simp) 26 (rL r0)
    have HPB : Hid _ := fun W => rbytes_any (rdB l) (rdB_ok hl) W
    have i16 : (16 : Int) ≤ (cap : Int) := by omega
    have i48 : (48 : Int) ≤ (cap : Int) := by omega
    have i80 : (80 : Int) ≤ (cap : Int) := by omega
    have n8 : ¬ cap = 8 := by omega
    have n16 : ¬ cap = 16 := by omega
    have n48 : ¬ cap = 48 := by omega
    clear hv hl hcap
    go_enter Tryd.func17, Tryd.ntmps17
    go_wp2_with fail
    refine Calls.mono (HGT.out _ HR.out.bel) ?_
    rintro e w1 ⟨rfl, rfl⟩
    obtain ⟨rqms, hqm⟩ : ∃ r : Rp, r = ⟨(rdB l).inst, (rdB l).ms, Z32⟩ := ⟨_, rfl⟩
    obtain ⟨rqch, hqc⟩ : ∃ r : Rp, r = rdB l := ⟨_, rfl⟩
    have HQC : Hid _ := hqc
    have HRX : Hid (RS w [(w.heap.size + 1, 26, rL ⟨(rdB l).inst, Z32, Z32⟩), (w.heap.size, 26, rL r0)] _) := HRB.out.put 0 rfl (rL ⟨(rdB l).inst, Z32, Z32⟩)
    have H1A : Hid _ := rL_one ⟨(rdB l).inst, Z32, Z32⟩
    have HLNms : Hid ((rL ⟨(rdB l).inst, Z32, Z32⟩).length = 65) := rfl
    have HSPms : Hid (splice (rL ⟨(rdB l).inst, Z32, Z32⟩) 1 ((rdB l).ms.map B8) = rL rqms) := by rw [hqm]; exact spl_m rfl HOK.out.m
    have HLNch : Hid ((rL rqms).length = 65) := by show _ = _; rw [hqm]; simp [rL, HOK.out.m, Z32]
    have HSPch : Hid (splice (rL rqms) 33 ((rdB l).ch.map B8) = rL rqch) := by rw [hqm, hqc]; exact spl_c HOK.out.m rfl HOK.out.c
    clear hqm hqc HGT
    go_wp2_with (first
      | (refine build_g (by rfl) 26 #[(0, .tmp 11)] rfl #[(0, .int .u64 ((rdB l).inst : Int))] (.agg (rL ⟨(rdB l).inst, Z32, Z32⟩).toArray) (by simp [Act.eval]) (HBD1.out _ _) ?_)
      | (refine wpList_store_row rfl 26 (.tmp 4) (.tmp 12) rfl (w.heap.size + 1) (rL ⟨(rdB l).inst, Z32, Z32⟩).toArray rfl rfl 26 (rL r0).toArray (HRB.out.at 0 rfl) HI0A.out rfl H1A.out ?_))
    have HR4 := HRX
    clear HRX HRB HR
    generalize World.setRow _ _ _ = w5 at *
    have hsd1 := fun W => slice_dg W (w.heap.size + 1) 1
    have hsd2 := fun W => slice_dg W (w.heap.size + 1) 33
    refine wp_region_held_drew (S := fun _ => True) (by kernel_rfl) trivial (fun hHeld => ?_)
    have HRB : Hid _ := HR4.out.step (Below.refl _ _).drew
    clear HR4
    generalize World.drew _ = V0 at *
    refine wpAnyH_take (i := 0) (oi := { dst := some 13, op := Go.Op.fieldAddr 26 (Go.Operand.tmp 4) 1, type := 0, pos := _, after := #[], guard := none }) (v := .pointer (some ⟨w.heap.size + 1, 1, none⟩)) rfl (by kernel_rfl) (by kernel_rfl) (by kernel_rfl) (fun _ _ _ h => h) (Or.inl ⟨by rfl, fun w' hw' => ?_⟩) hHeld ?_
    · first | (go_simp; done) | (go_simp; rfl)
    try simp only [Act.put, List.setIfInBounds_toArray, List.set_cons_zero, List.set_cons_succ]
    refine wpAnyH_take (i := 1) (oi := { dst := some 14, op := Go.Op.slice 24 (Go.Operand.tmp 13) none none none, type := 28, pos := _, after := #[{ on := 0, ground := Go.Ground.data }], guard := none }) (v := .slice (some ⟨w.heap.size + 1, 1, none⟩) 32 32) rfl (by kernel_rfl) (by kernel_rfl) (by kernel_rfl) (fun _ _ _ h => h) (Or.inl ⟨by rfl, fun w' hw' => ?_⟩) hHeld ?_
    · first | (go_simp; done) | (go_simp; rfl)
    try simp only [Act.put, List.setIfInBounds_toArray, List.set_cons_zero, List.set_cons_succ]
    refine wpAnyH_take (i := 2) (oi := { dst := some 15, op := Go.Op.move (Go.Operand.tmp 0), type := 28, pos := _, after := #[], guard := none }) (v := .slice (some ⟨gb, o, none⟩) 80 cap) rfl (by kernel_rfl) (by kernel_rfl) (by kernel_rfl) (fun _ _ _ h => h) (Or.inl ⟨by rfl, fun w' hw' => ?_⟩) hHeld ?_
    · first | (go_simp; done) | (go_simp; rfl)
    try simp only [Act.put, List.setIfInBounds_toArray, List.set_cons_zero, List.set_cons_succ]
    refine wpAnyH_take (i := 3) (oi := { dst := some 16, op := Go.Op.slice 28 (Go.Operand.tmp 15) (some (Go.Operand.const (Go.Value.int Go.IntKind.i64 16))) (some (Go.Operand.const (Go.Value.int Go.IntKind.i64 48))) none, type := 28, pos := _, after := #[{ on := 2, ground := Go.Ground.data }], guard := none }) (v := .slice (some ⟨gb, o + 16, none⟩) 32 (cap - 16)) rfl (by kernel_rfl) (by kernel_rfl) (by kernel_rfl) (fun _ _ _ h => h) (Or.inl ⟨by rfl, fun w' hw' => ?_⟩) hHeld ?_
    · first | (go_simp; done) | (go_simp; rfl)
    try simp only [Act.put, List.setIfInBounds_toArray, List.set_cons_zero, List.set_cons_succ]
    refine wpAnyH_ready (rs := [4]) (by kernel_rfl) (by simp) ?_
    refine AllReadyH.cons (o := { dst := some 17, op := Go.Op.call { callee := Go.Callee.builtin Go.Builtin.copy, args := #[Go.Operand.tmp 14, Go.Operand.tmp 16], argTypes := #[28, 28] }, type := 3, pos := _, after := #[{ on := 1, ground := Go.Ground.data }, { on := 3, ground := Go.Ground.data }], guard := none }) rfl (fun K hK => ?_) AllReadyH.nil
    rw [if_pos (by rfl)]
    refine wp_copy_seg (.tmp 14) (.tmp 16) rfl (w.heap.size + 1) 1 32 32 (some ⟨gb, o + 16, none⟩) 32 (cap - 16) rfl rfl _ 26 (HRB.out.at 0 rfl) ((rdB l).ms.map B8) (by rw [List.length_map, HOK.out.m]; rfl) (fun _ => ⟨_, rfl, HMS.out _ HRB.out.bel⟩) (by rw [List.length_map, HOK.out.m, HLNms.out]; decide) (B8_one _) ?_
    have hRC := HRB.out.put 0 rfl (rL rqms)
    rw [HSPms.out]
    have HR4 : Hid (RS w [(w.heap.size + 1, 26, rL rqms), (w.heap.size, 26, rL r0)] (V0.setRow (w.heap.size + 1) (rL rqms).toArray)) := hRC
    clear hRC HRB
    generalize V0.setRow (w.heap.size + 1) _ = V2 at *
    refine hK.out _ _ trivial (fun _ => ?_)
    clear hK K
    try simp only [Act.put, List.setIfInBounds_toArray, List.set_cons_zero, List.set_cons_succ]
    refine wpAnyH_done (by kernel_rfl) ?_ _
    clear hHeld
    go_wp2_with fail
    refine wp_region_held_drew (S := fun _ => True) (by kernel_rfl) trivial (fun hHeld => ?_)
    have HRB : Hid _ := HR4.out.step (Below.refl _ _).drew
    clear HR4
    generalize World.drew _ = V0 at *
    refine wpAnyH_take (i := 0) (oi := { dst := some 18, op := Go.Op.fieldAddr 26 (Go.Operand.tmp 4) 2, type := 0, pos := _, after := #[], guard := none }) (v := .pointer (some ⟨w.heap.size + 1, 33, none⟩)) rfl (by kernel_rfl) (by kernel_rfl) (by kernel_rfl) (fun _ _ _ h => h) (Or.inl ⟨by rfl, fun w' hw' => ?_⟩) hHeld ?_
    · first | (go_simp; done) | (go_simp; rfl)
    try simp only [Act.put, List.setIfInBounds_toArray, List.set_cons_zero, List.set_cons_succ]
    refine wpAnyH_take (i := 1) (oi := { dst := some 19, op := Go.Op.slice 24 (Go.Operand.tmp 18) none none none, type := 28, pos := _, after := #[{ on := 0, ground := Go.Ground.data }], guard := none }) (v := .slice (some ⟨w.heap.size + 1, 33, none⟩) 32 32) rfl (by kernel_rfl) (by kernel_rfl) (by kernel_rfl) (fun _ _ _ h => h) (Or.inl ⟨by rfl, fun w' hw' => ?_⟩) hHeld ?_
    · first | (go_simp; done) | (go_simp; rfl)
    try simp only [Act.put, List.setIfInBounds_toArray, List.set_cons_zero, List.set_cons_succ]
    refine wpAnyH_take (i := 2) (oi := { dst := some 20, op := Go.Op.move (Go.Operand.tmp 0), type := 28, pos := _, after := #[], guard := none }) (v := .slice (some ⟨gb, o, none⟩) 80 cap) rfl (by kernel_rfl) (by kernel_rfl) (by kernel_rfl) (fun _ _ _ h => h) (Or.inl ⟨by rfl, fun w' hw' => ?_⟩) hHeld ?_
    · first | (go_simp; done) | (go_simp; rfl)
    try simp only [Act.put, List.setIfInBounds_toArray, List.set_cons_zero, List.set_cons_succ]
    refine wpAnyH_take (i := 3) (oi := { dst := some 21, op := Go.Op.slice 28 (Go.Operand.tmp 20) (some (Go.Operand.const (Go.Value.int Go.IntKind.i64 48))) none none, type := 28, pos := _, after := #[{ on := 2, ground := Go.Ground.data }], guard := none }) (v := .slice (some ⟨gb, o + 48, none⟩) 32 (cap - 48)) rfl (by kernel_rfl) (by kernel_rfl) (by kernel_rfl) (fun _ _ _ h => h) (Or.inl ⟨by rfl, fun w' hw' => ?_⟩) hHeld ?_
    · first | (go_simp; done) | (go_simp; rfl)
    try simp only [Act.put, List.setIfInBounds_toArray, List.set_cons_zero, List.set_cons_succ]
    refine wpAnyH_ready (rs := [4]) (by kernel_rfl) (by simp) ?_
    refine AllReadyH.cons (o := { dst := some 22, op := Go.Op.call { callee := Go.Callee.builtin Go.Builtin.copy, args := #[Go.Operand.tmp 19, Go.Operand.tmp 21], argTypes := #[28, 28] }, type := 3, pos := _, after := #[{ on := 1, ground := Go.Ground.data }, { on := 3, ground := Go.Ground.data }], guard := none }) rfl (fun K hK => ?_) AllReadyH.nil
    rw [if_pos (by rfl)]
    refine wp_copy_seg (.tmp 19) (.tmp 21) rfl (w.heap.size + 1) 33 32 32 (some ⟨gb, o + 48, none⟩) 32 (cap - 48) rfl rfl _ 26 (HRB.out.at 0 rfl) ((rdB l).ch.map B8) (by rw [List.length_map, HOK.out.c]; rfl) (fun _ => ⟨_, rfl, HCS.out _ HRB.out.bel⟩) (by rw [List.length_map, HOK.out.c, HLNch.out]; decide) (B8_one _) ?_
    have hRC := HRB.out.put 0 rfl (rL rqch)
    rw [HSPch.out]
    have HR4 : Hid (RS w [(w.heap.size + 1, 26, rL rqch), (w.heap.size, 26, rL r0)] (V0.setRow (w.heap.size + 1) (rL rqch).toArray)) := hRC
    clear hRC HRB
    generalize V0.setRow (w.heap.size + 1) _ = V2 at *
    refine hK.out _ _ trivial (fun _ => ?_)
    clear hK K
    try simp only [Act.put, List.setIfInBounds_toArray, List.set_cons_zero, List.set_cons_succ]
    refine wpAnyH_done (by kernel_rfl) ?_ _
    clear hHeld
    have eq := HQC.out
    subst eq
    clear hsd1 hsd2 HSPms HSPch HLNms HLNch HMS HCS HQC
    have HIR : Hid _ := infR HOK.out
    have HIRA : Hid _ := infRA HOK.out
    go_wp2_with (refine wpList_load_mid rfl 26 (.tmp 4) rfl (w.heap.size + 1) 0 rfl (rL (rdB l)) _ (rangeAt_row (HR4.out.at 0 rfl)) Tryd.underlying26 rfl HIR.out ?_)
    refine Calls.mono (HPB.out _) ?_
    rintro e w6 ⟨g, rfl, hg, hb⟩
    have HR5 : Hid _ := HR4.out.step hb
    have HSM : Hid _ := rsame_any g (.slice (some ⟨gb, o, none⟩) 80 cap) (byt (rdB l)) l w6 hg (HB.below HV.out HR5.out.bel)
    clear hg hb HR4 HPB HV
    go_wp2_with fail
    refine Calls.mono HSM.out ?_
    rintro e w7 ⟨rfl, rfl⟩
    clear HSM
    by_cases he : byt (rdB l) = l
    · have HBR : Hid (BR l (rdB l) true) := HYES.out he
      rw [decide_eq_true he]
      clear he HYES HNO
      have HRL : Hid _ := rL_one (rdB l)
      have HLL : Hid _ := rL_len HOK.out
      generalize rdB l = R at *
      go_wp2_with (first
        | (refine wpList_load_mid rfl 26 (.tmp 4) rfl (w.heap.size + 1) 0 rfl (rL R) _ (rangeAt_row (HR5.out.at 0 rfl)) Tryd.underlying26 rfl HIR.out ?_)
        | (refine wpList_store_row rfl 26 (.tmp 2) (.tmp 29) rfl w.heap.size (rL R).toArray rfl rfl 26 (rL r0).toArray (HR5.out.at 1 rfl) HIRA.out (by rw [List.size_toArray, List.size_toArray, HLL.out]; rfl) HRL.out ?_))
      have R8 := HR5.out.put 1 rfl (rL R)
      refine bodyPost_ret (v := .tuple #[.agg (rL R).toArray, .bool true]) (results2 Tryd.results17 _ _ w.heap.size _ (rL R) _ _ rfl rfl (R8.at 1 rfl) Tryd.underlying26 rfl HIR.out) rfl ⟨R, true, rfl, HBR.out, R8.bel⟩
    · have HBR : Hid (BR l r0 false) := HNO.out he
      rw [decide_eq_false he]
      clear he HYES HNO
      go_wp2_with (first
        | (refine build_g (by rfl) 26 #[] rfl #[] (.agg (rL r0).toArray) (by simp [Act.eval]) (HBD.out _) ?_)
        | (refine wpList_store_row rfl 26 (.tmp 2) (.tmp 28) rfl w.heap.size (rL r0).toArray rfl rfl 26 (rL r0).toArray (HR5.out.at 1 rfl) HI0A.out rfl H01.out ?_))
      have R8 := HR5.out.put 1 rfl (rL r0)
      refine bodyPost_ret (v := .tuple #[.agg (rL r0).toArray, .bool false]) (results2 Tryd.results17 _ _ w.heap.size _ (rL r0) _ _ rfl rfl (R8.at 1 rfl) Tryd.underlying26 rfl HI0.out) rfl ⟨r0, false, rfl, HBR.out, R8.bel⟩
  · obtain ⟨p, cap, rfl, _⟩ := hb_src hv
    have hl2 : (((l.length : Int) != 80)) = true := by rw [bne_iff_ne]; omega
    have HN : Hid (BR l r0 false) := br_len hl
    clear hv hl
    go_enter Tryd.func17, Tryd.ntmps17
    go_wp2_with (first
      | (refine build_g (by rfl) 26 #[] rfl #[] (.agg (rL r0).toArray) (by simp [Act.eval]) (HBD.out _) ?_)
      | (refine wpList_store_row rfl 26 (.tmp 2) (.tmp 8) rfl w.heap.size (rL r0).toArray rfl rfl 26 (rL r0).toArray (HR.out.at 0 rfl) HI0A.out rfl H01.out ?_))
    have R8 := HR.out.put 0 rfl (rL r0)
    refine bodyPost_ret (v := .tuple #[.agg (rL r0).toArray, .bool false]) (results2 Tryd.results17 _ _ w.heap.size _ (rL r0) _ _ rfl rfl (R8.at 0 rfl) Tryd.underlying26 rfl HI0.out) rfl ⟨r0, false, rfl, HN.out, R8.bel⟩
end Go.Proofs.YtpklboicgjpmeaaDoor.RB
