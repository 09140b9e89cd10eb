/- rec: contracts of told and mayTell. -/
import Derived.Test.YtpdafjamhccbnaaCG
set_option linter.unusedVariables false
set_option linter.unusedSimpArgs false
namespace Go.Proofs.Ytpdafjamhccbnaa.VC
open Go.RowKit

def tol (o : Ot) : Ot := ⟨o.re, if o.re = 2 then o.ns else Z4, if o.re = 3 then o.ad else 0, if o.re = 3 then o.wr else false, o.ran⟩
theorem tol_len {o : Ot} (h : o.ns.length = 4) : (tol o).ns.length = 4 := by unfold tol; simp only; split; exact h; rfl
theorem zero8 (W : World) : (zeroValue 40).run Try.prog W = .ok (.agg (oL o0).toArray) W := by kernel_rfl
theorem bld8 (W : World) : (Instr.build 40 #[]).run Try.prog W = .ok (.agg (oL o0).toArray) W := by kernel_rfl
theorem bldT (a b : Int) (W : World) : (Instr.build 40 #[(0, .int .i64 a), (4, .int .i64 b)]).run Try.prog W = .ok (.agg (oL ⟨a, Z4, 0, false, b⟩).toArray) W := by kernel_rfl
theorem info8oa (L : List Value) (h : L.length = 8) : (Try.prog.info? 40).map (·.size) = some L.toArray.size := by rw [List.size_toArray, h]; kernel_rfl
theorem info4ra (L : List Value) (h : L.length = 4) : (Try.prog.info? 29).map (·.size) = some L.toArray.size := by rw [List.size_toArray, h]; kernel_rfl
theorem run_stT (w : World) (b k : Nat) (OL : List Value) (t : TypeId) (hrow : w.heap[b]? = some (.cells OL.toArray t (0, 0))) (hk : k < OL.length) (x : Bool) : (Instr.storeAt 4 (.pointer (some ⟨b, k, none⟩)) (.bool x)).run Try.prog w = .ok () (w.setCell ⟨b, k, none⟩ (.bool x)) := by
  have hc := fields5 _ _ _ _ _ hrow k
  rw [List.getElem?_toArray, List.getElem?_eq_getElem hk] at hc
  have hf := frozen_of_row _ _ k _ _ hrow
  generalize OL[k] = ov at *
  unfold Instr.storeAt Instr.sureAddr
  go_simp
theorem wp_stT {o : Oper} {a : Act} {w : World} {K : Act → World → Prop} {Q : Exit → Act → World → Prop} (x y : Operand) (ho : o.op = .store 4 x y)
    (b k : Nat) (v : Bool) (hx : a.eval x = .pointer (some ⟨b, k, none⟩)) (hy : a.eval y = .bool v) (OL : List Value) (t : TypeId) (hrow : w.heap[b]? = some (.cells OL.toArray t (0, 0))) (hk : k < OL.length)
    (h : K (a.put o.dst undef) (w.setCell ⟨b, k, none⟩ (.bool v))) : o.wp Try.prog a w K Q := by
  unfold Oper.wp execOp
  simp only [ho, hx, hy, Sem.run_bind, run_stT w b k OL t hrow hk v, Result.andThen_ok]
  exact h
set_option maxHeartbeats 1000000 in
set_option maxRecDepth 100000 in
theorem told_any (o : Ot) (h4 : o.ns.length = 4) (w : World) : Calls Try.prog 26 #[.agg (oL o).toArray] w fun e w' => e = .returned (.agg (oL (tol o)).toArray) ∧ Below w.heap.size w w' := by
  have hz := zero8
  obtain ⟨ZL, hZL⟩ : ∃ L, L = oL o0 := ⟨_, rfl⟩
  have HZN : Hid (ZL.length = 8) := by rw [hZL]; rfl
  rw [← hZL] at hz
  have HBT : Hid _ := bldT o.re o.ran
  have HOL : Hid _ := oL_len h4
  have HO0 : Hid _ := oL_re o
  have HO7 : Hid _ := oL_ran h4
  have HO5 : Hid _ := oL_ad h4
  have HO6 : Hid _ := oL_wr h4
  have HRG : Hid _ := oL_ns h4
  have HR : Hid _ := ((RS.start w).alloc _ rfl 40 (oL o)).alloc (w.heap.size + 1) (by simp) 40 ZL
  have HBN : Hid ((oL ⟨o.re, Z4, 0, false, o.ran⟩).length = 8) := rfl
  have HB1 : Hid _ := oL_one ⟨o.re, Z4, 0, false, o.ran⟩
  have HTN : Hid _ := oL_len (tol_len h4)
  have HT1 : Hid _ := oL_one (tol o)
  by_cases h2 : o.re = 2
  · have HSG : Hid (splice (oL ⟨o.re, Z4, 0, false, o.ran⟩) 1 (o.ns.map U).toArray.toList = oL (tol o)) := by
      obtain ⟨a, b, c, d, hk⟩ := four h4
      show _ = _
      unfold tol oL; rw [h2, hk]; rfl
    have HNL : Hid ((o.ns.map U).length = 4) := by show _ = _; simpa using h4
    have HN1 : Hid ((o.ns.map U).toArray.all (·.oneCell') = true) := onea (U_one o.ns)
    generalize oL ⟨o.re, Z4, 0, false, o.ran⟩ = BL at *
    generalize oL (tol o) = TL at *
    generalize oL o = OL at *
    rw [h2] at HO0 HBT
    generalize o.ns.map U = NL at *
    generalize o.ran = ran at *
    clear hZL h2 h4
    go_enter Try.func26, Try.ntmps26
    have hc0 := HR.out.cell 1 rfl 0 HO0.out
    have hc7 := HR.out.cell 1 rfl 7 HO7.out
    go_wp2_with (first
      | (refine build_g (by rfl) 40 #[(0, .tmp 5), (4, .tmp 7)] rfl #[(0, .int .i64 2), (4, .int .i64 ran)] (.agg BL.toArray) (by first | (simp [Act.eval]; done) | (simp [Act.eval]; rfl)) (HBT.out _) ?_
         have R3 := HR.out.alloc (w.heap.size + 1 + 1) (by simp) 40 ZL
         have HR3 : Hid _ := R3
         have HR4 : Hid _ := R3.put 0 rfl BL
         clear R3 HR)
      | (refine wpList_store_rowL rfl 40 (.tmp 3) (.tmp 8) rfl (w.heap.size + 1 + 1) BL.toArray rfl rfl 40 ZL.toArray (HR3.out.at 0 rfl) (info8oa BL HBN.out) (by simp [HZN.out, HBN.out]) HB1.out ?_
         intro V2 hV2
         rw [← hV2] at HR4
         have hc0 := HR4.out.cell 2 rfl 0 HO0.out
         clear hV2 HR3)
      | (refine wpList_load_mid rfl 29 (.tmp 13) rfl w.heap.size 1 rfl NL _ (by have q := rangeAt_part (rangeAt_row (HR4.out.at 2 rfl)) 1 4; rw [HRG.out, Nat.zero_add] at q; exact q) Try.underlying29 rfl (info4r NL HNL.out) ?_) | (refine wpList_store_segL rfl 29 (.tmp 15) (.tmp 14) rfl (w.heap.size + 1 + 1) 1 NL.toArray BL 40 rfl rfl (HR4.out.at 0 rfl) (info4ra NL HNL.out) (by rw [List.size_toArray, HNL.out, HBN.out]; decide) HN1.out ?_; intro V5 hV5; (have HR5 : Hid (RS w [(w.heap.size + 1 + 1, 40, TL), (w.heap.size + 1, 40, ZL), (w.heap.size, 40, OL)] V5) := (by rw [hV5, HSG.out]; exact HR4.out.put 0 rfl TL)); clear hV5 HR4) | (refine wpList_load_mid rfl 40 (.tmp 3) rfl (w.heap.size + 1 + 1) 0 rfl TL _ (rangeAt_row (HR5.out.at 0 rfl)) Try.underlying40 rfl (info8o TL HTN.out) ?_) | (refine wpList_store_row rfl 40 (.tmp 2) (.tmp 24) rfl (w.heap.size + 1) TL.toArray rfl rfl 40 ZL.toArray (HR5.out.at 1 rfl) (info8oa TL HTN.out) (by simp [HZN.out, HTN.out]) HT1.out ?_))
    have R7 := HR5.out.put 1 rfl TL
    refine bodyPost_ret (v := .agg TL.toArray) (results1 Try.results26 _ _ (w.heap.size + 1) (R7.at 1 rfl) Try.underlying40 rfl (info8o TL HTN.out) rfl) rfl ⟨rfl, R7.bel⟩
  · by_cases h3 : o.re = 3
    · have HSG : Hid (((oL ⟨o.re, Z4, 0, false, o.ran⟩).set 5 (.int .u64 o.ad)).set 6 (.bool o.wr) = oL (tol o)) := by
        show _ = _
        unfold tol oL; rw [h3]; rfl
      have HSL : Hid (((oL ⟨o.re, Z4, 0, false, o.ran⟩).set 5 (.int .u64 o.ad)).length = 8) := by show _ = _; rw [List.length_set]; rfl
      generalize oL ⟨o.re, Z4, 0, false, o.ran⟩ = BL at *
      generalize oL (tol o) = TL at *
      generalize oL o = OL at *
      rw [h3] at HO0 HBT
      generalize o.ran = ran at *
      generalize o.ad = ad at *
      generalize o.wr = wr at *
      clear hZL h2 h3 h4
      obtain ⟨ML, hML⟩ : ∃ L, L = BL.set 5 (.int .u64 ad) := ⟨_, rfl⟩
      have HML : Hid _ := hML
      rw [← hML] at HSG HSL
      clear hML
      go_enter Try.func26, Try.ntmps26
      have hc0 := HR.out.cell 1 rfl 0 HO0.out
      have hc7 := HR.out.cell 1 rfl 7 HO7.out
      go_wp2_with (first
        | (refine build_g (by rfl) 40 #[(0, .tmp 5), (4, .tmp 7)] rfl #[(0, .int .i64 3), (4, .int .i64 ran)] (.agg BL.toArray) (by first | (simp [Act.eval]; done) | (simp [Act.eval]; rfl)) (HBT.out _) ?_
           have R3 := HR.out.alloc (w.heap.size + 1 + 1) (by simp) 40 ZL
           have HR3 : Hid _ := R3
           have HR4 : Hid _ := R3.put 0 rfl BL
           clear R3 HR)
        | (refine wpList_store_rowL rfl 40 (.tmp 3) (.tmp 8) rfl (w.heap.size + 1 + 1) BL.toArray rfl rfl 40 ZL.toArray (HR3.out.at 0 rfl) (info8oa BL HBN.out) (by simp [HZN.out, HBN.out]) HB1.out ?_
           intro V2 hV2
           rw [← hV2] at HR4
           have hc0 := HR4.out.cell 2 rfl 0 HO0.out
           clear hV2 HR3)
        | fail)
      have HR4' : Hid _ := HR4.out
      refine wp_region_held_drew (S := fun X => ∃ Z : List Value, RS w [(w.heap.size + 1 + 1, 40, Z), (w.heap.size + 1, 40, ZL), (w.heap.size, 40, OL)] X) (by kernel_rfl) ⟨BL, HR4.out.step (below_drew _)⟩ (fun hHeld => ?_)
      refine wpAnyH_take (i := 0) (oi := { dst := some 18, op := Go.Op.fieldAddr 40 (Go.Operand.tmp 1) 2, type := 0, pos := _, after := #[], guard := none }) (v := .pointer (some ⟨w.heap.size, 5, none⟩)) rfl (by kernel_rfl) (by kernel_rfl) (by kernel_rfl) (fun _ _ _ h => h) (Or.inl ⟨by rfl, fun w' hw' => ?_⟩) hHeld ?_
      · first | (go_simp; done) | (go_simp; rfl)
      try simp only [Act.put, List.setIfInBounds_toArray, List.set_cons_zero, List.set_cons_succ]
      refine wpAnyH_take (i := 1) (oi := { dst := some 19, op := Go.Op.load 22 (Go.Operand.tmp 18), type := 22, pos := _, after := #[{ on := 0, ground := Go.Ground.data }], guard := none }) (v := .int .u64 ad) rfl (by kernel_rfl) (by kernel_rfl) (by kernel_rfl) (fun _ _ _ h => h) (Or.inl ⟨by rfl, fun w' hw' => ?_⟩) hHeld ?_
      · obtain ⟨Z, hZ⟩ := hw'; have hcc := hZ.cell 2 rfl 5 HO5.out; first | (go_simp; done) | (go_simp; rfl)
      try simp only [Act.put, List.setIfInBounds_toArray, List.set_cons_zero, List.set_cons_succ]
      refine wpAnyH_take (i := 2) (oi := { dst := some 20, op := Go.Op.fieldAddr 40 (Go.Operand.tmp 1) 3, type := 0, pos := _, after := #[{ on := 5, ground := Go.Ground.gcOnly Go.Departure.lateStores }], guard := none }) (v := .pointer (some ⟨w.heap.size, 6, none⟩)) rfl (by kernel_rfl) (by kernel_rfl) (by kernel_rfl) (fun _ _ _ h => h) (Or.inl ⟨by rfl, fun w' hw' => ?_⟩) hHeld ?_
      · first | (go_simp; done) | (go_simp; rfl)
      try simp only [Act.put, List.setIfInBounds_toArray, List.set_cons_zero, List.set_cons_succ]
      refine wpAnyH_take (i := 3) (oi := { dst := some 21, op := Go.Op.load 4 (Go.Operand.tmp 20), type := 4, pos := _, after := #[{ on := 2, ground := Go.Ground.data }, { on := 5, ground := Go.Ground.gcOnly Go.Departure.lateStores }], guard := none }) (v := .bool wr) rfl (by kernel_rfl) (by kernel_rfl) (by kernel_rfl) (fun _ _ _ h => h) (Or.inl ⟨by rfl, fun w' hw' => ?_⟩) hHeld ?_
      · obtain ⟨Z, hZ⟩ := hw'; have hcc := hZ.cell 2 rfl 6 HO6.out; first | (go_simp; done) | (go_simp; rfl)
      try simp only [Act.put, List.setIfInBounds_toArray, List.set_cons_zero, List.set_cons_succ]
      refine wpAnyH_take (i := 4) (oi := { dst := some 22, op := Go.Op.fieldAddr 40 (Go.Operand.tmp 3) 2, type := 0, pos := _, after := #[{ on := 0, ground := Go.Ground.phase }, { on := 1, ground := Go.Ground.phase }, { on := 2, ground := Go.Ground.textOnly Go.Departure.lateStores }, { on := 3, ground := Go.Ground.textOnly Go.Departure.lateStores }], guard := none }) (v := .pointer (some ⟨w.heap.size + 1 + 1, 5, none⟩)) rfl (by kernel_rfl) (by kernel_rfl) (by kernel_rfl) (fun _ _ _ h => h) (Or.inl ⟨by rfl, fun w' hw' => ?_⟩) hHeld ?_
      · first | (go_simp; done) | (go_simp; rfl)
      try simp only [Act.put, List.setIfInBounds_toArray, List.set_cons_zero, List.set_cons_succ]
      refine wpAnyH_ready (rs := [5]) (by kernel_rfl) (by simp) ?_
      refine AllReadyH.cons (o := { dst := none, op := Go.Op.store 22 (Go.Operand.tmp 22) (Go.Operand.tmp 19), type := 0, pos := _, after := #[{ on := 4, ground := Go.Ground.data }, { on := 1, ground := Go.Ground.data }, { on := 0, ground := Go.Ground.phase }, { on := 1, ground := Go.Ground.phase }, { on := 2, ground := Go.Ground.textOnly Go.Departure.lateStores }, { on := 3, ground := Go.Ground.textOnly Go.Departure.lateStores }], guard := none }) rfl (fun K hK => ?_) AllReadyH.nil
      rw [if_pos (by rfl)]
      have R4 := HR4'.out.step (below_drew _)
      refine wp_stU (.tmp 22) (.tmp 19) rfl (w.heap.size + 1 + 1) 5 ad rfl rfl BL 40 (R4.at 0 rfl) (by rw [HBN.out]; decide) ?_
      have R5 := R4.poke 0 rfl 5 (.int .u64 ad) HML.out.symm
      have hHeld : ∃ Z : List Value, RS w [(w.heap.size + 1 + 1, 40, Z), (w.heap.size + 1, 40, ZL), (w.heap.size, 40, OL)] (V2.drew.setCell ⟨w.heap.size + 1 + 1, 5, none⟩ (.int .u64 ad)) := ⟨ML, R5⟩
      refine hK.out _ _ hHeld (fun _ => ?_)
      clear hK K
      try simp only [Act.put, List.setIfInBounds_toArray, List.set_cons_zero, List.set_cons_succ]
      refine wpAnyH_take (i := 6) (oi := { dst := some 23, op := Go.Op.fieldAddr 40 (Go.Operand.tmp 3) 3, type := 0, pos := _, after := #[{ on := 0, ground := Go.Ground.phase }, { on := 1, ground := Go.Ground.phase }, { on := 2, ground := Go.Ground.phase }, { on := 3, ground := Go.Ground.phase }, { on := 4, ground := Go.Ground.phase }, { on := 5, ground := Go.Ground.phase }], guard := none }) (v := .pointer (some ⟨w.heap.size + 1 + 1, 6, none⟩)) rfl (by kernel_rfl) (by kernel_rfl) (by kernel_rfl) (fun _ _ _ h => h) (Or.inl ⟨by rfl, fun w' hw' => ?_⟩) hHeld ?_
      · first | (go_simp; done) | (go_simp; rfl)
      try simp only [Act.put, List.setIfInBounds_toArray, List.set_cons_zero, List.set_cons_succ]
      refine wpAnyH_ready (rs := [7]) (by kernel_rfl) (by simp) ?_
      refine AllReadyH.cons (o := { dst := none, op := Go.Op.store 4 (Go.Operand.tmp 23) (Go.Operand.tmp 21), type := 0, pos := _, after := #[{ on := 6, ground := Go.Ground.data }, { on := 3, ground := Go.Ground.data }, { on := 5, ground := Go.Ground.chain }, { on := 0, ground := Go.Ground.phase }, { on := 1, ground := Go.Ground.phase }, { on := 2, ground := Go.Ground.phase }, { on := 3, ground := Go.Ground.phase }, { on := 4, ground := Go.Ground.phase }, { on := 5, ground := Go.Ground.phase }], guard := none }) rfl (fun K hK => ?_) AllReadyH.nil
      rw [if_pos (by rfl)]
      refine wp_stT (.tmp 23) (.tmp 21) rfl (w.heap.size + 1 + 1) 6 wr rfl rfl ML 40 (R5.at 0 rfl) (by rw [HSL.out]; decide) ?_
      have R6 := R5.poke 0 rfl 6 (.bool wr) HSG.out
      refine hK.out _ _ ⟨TL, R6⟩ (fun _ => ?_)
      clear hK K
      try simp only [Act.put, List.setIfInBounds_toArray, List.set_cons_zero, List.set_cons_succ]
      refine wpAnyH_done (by kernel_rfl) ?_ _
      have HR5 : Hid (RS w [(w.heap.size + 1 + 1, 40, TL), (w.heap.size + 1, 40, ZL), (w.heap.size, 40, OL)] ((V2.drew.setCell ⟨w.heap.size + 1 + 1, 5, none⟩ (.int .u64 ad)).setCell ⟨w.heap.size + 1 + 1, 6, none⟩ (.bool wr))) := R6
      clear R4 R5 R6 hHeld HR4 HR4' hc0 hc7
      generalize (V2.drew.setCell ⟨w.heap.size + 1 + 1, 5, none⟩ (.int .u64 ad)).setCell ⟨w.heap.size + 1 + 1, 6, none⟩ (.bool wr) = V6 at *
      go_wp2_with (first
        | (refine wpList_load_mid rfl 40 (.tmp 3) rfl (w.heap.size + 1 + 1) 0 rfl TL _ (rangeAt_row (HR5.out.at 0 rfl)) Try.underlying40 rfl (info8o TL HTN.out) ?_)
        | (refine wpList_store_row rfl 40 (.tmp 2) (.tmp 24) rfl (w.heap.size + 1) TL.toArray rfl rfl 40 ZL.toArray (HR5.out.at 1 rfl) (info8oa TL HTN.out) (by simp [HZN.out, HTN.out]) HT1.out ?_))
      have R7 := HR5.out.put 1 rfl TL
      refine bodyPost_ret (v := .agg TL.toArray) (results1 Try.results26 _ _ (w.heap.size + 1) (R7.at 1 rfl) Try.underlying40 rfl (info8o TL HTN.out) rfl) rfl ⟨rfl, R7.bel⟩
    · have HSG : Hid (oL ⟨o.re, Z4, 0, false, o.ran⟩ = oL (tol o)) := by
        show _ = _
        unfold tol; rw [if_neg h2, if_neg h3, if_neg h3]
      have hb2 : (o.re == 2) = false := by simpa using h2
      have hb3 : (o.re == 3) = false := by simpa using h3
      rw [HSG.out] at HBT HBN HB1
      clear HSG
      generalize oL (tol o) = BL at *
      generalize oL o = OL at *
      generalize o.ran = ran at *
      generalize o.re = re at *
      clear hZL h2 h3 h4
      go_enter Try.func26, Try.ntmps26
      have hc0 := HR.out.cell 1 rfl 0 HO0.out
      have hc7 := HR.out.cell 1 rfl 7 HO7.out
      go_wp2_with (first
        | (refine build_g (by rfl) 40 #[(0, .tmp 5), (4, .tmp 7)] rfl #[(0, .int .i64 re), (4, .int .i64 ran)] (.agg BL.toArray) (by first | (simp [Act.eval]; done) | (simp [Act.eval]; rfl)) (HBT.out _) ?_
           have R3 := HR.out.alloc (w.heap.size + 1 + 1) (by simp) 40 ZL
           have HR3 : Hid _ := R3
           have HR4 : Hid _ := R3.put 0 rfl BL
           clear R3 HR)
        | (refine wpList_store_rowL rfl 40 (.tmp 3) (.tmp 8) rfl (w.heap.size + 1 + 1) BL.toArray rfl rfl 40 ZL.toArray (HR3.out.at 0 rfl) (info8oa BL HBN.out) (by simp [HZN.out, HBN.out]) HB1.out ?_
           intro V2 hV2
           rw [← hV2] at HR4
           have hc0 := HR4.out.cell 2 rfl 0 HO0.out
           clear hV2 HR3)
        | (refine wpList_load_mid rfl 40 (.tmp 3) rfl (w.heap.size + 1 + 1) 0 rfl BL _ (rangeAt_row (HR4.out.at 0 rfl)) Try.underlying40 rfl (info8o BL HBN.out) ?_) | (refine wpList_store_row rfl 40 (.tmp 2) (.tmp 24) rfl (w.heap.size + 1) BL.toArray rfl rfl 40 ZL.toArray (HR4.out.at 1 rfl) (info8oa BL HBN.out) (by simp [HZN.out, HBN.out]) HB1.out ?_))
      have R7 := HR4.out.put 1 rfl BL
      refine bodyPost_ret (v := .agg BL.toArray) (results1 Try.results26 _ _ (w.heap.size + 1) (R7.at 1 rfl) Try.underlying40 rfl (info8o BL HBN.out) rfl) rfl ⟨rfl, R7.bel⟩
/-- Is it told just what its reason tells? -/
def mt (o : Ot) : Bool := isRe o.re && decide (0 ≤ o.ran ∧ o.ran ≤ 10000) && ((decide (o.re = 2) || o.ns == Z4) && (decide (o.re = 3) || (decide (o.ad = 0) && !o.wr)))
end Go.Proofs.Ytpdafjamhccbnaa.VC
