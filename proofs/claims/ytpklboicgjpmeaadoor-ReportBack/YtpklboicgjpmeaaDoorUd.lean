/- ReportBack: for any two reports, the tables as the program's text lays them, the statement's function answers true. -/
import Derived.Test.YtpklboicgjpmeaaDoorTy
set_option linter.unusedVariables false
set_option linter.unusedSimpArgs false
namespace Go.Proofs.YtpklboicgjpmeaaDoor.reportBack
open Go.ChangeShapes Go.WideShapes Go.ChangeAt Go.RowKit
open Go.Proofs.YtpklboicgjpmeaaDoor.RB

theorem rpt (r q : Rp) (hr : r.ok) (hq : q.ok) {a : Act} {o : Oper} {x y : Operand} {u : TypeId} {w : World} (ho : o.op = .binOp .eql 26 x y u) (hx : a.eval x = .agg (rL r).toArray) (hy : a.eval y = .agg (rL q).toArray) : (execOp a.eval o).run Tryd.prog w = .ok (.value (.bool (rpE r q))) w := by
  have h1 := rp_ge x y (rL r).toArray (rL q).toArray w
  have h2 := rp_eq r q hr hq w
  unfold execOp
  simp only [ho, hx, hy, Sem.run_bind, h1, h2, Result.andThen_ok]
  rfl
theorem byt_rpE {a b : Rp} (ha : a.ok) (hb : b.ok) : decide (byt a = byt b) = rpE a b := by
  rw [Bool.eq_iff_iff, decide_eq_true_eq, rpE_iff]
  exact ⟨byt_inj ha hb, fun h => by rw [h]⟩
theorem tex_rpE {a b : Rp} : decide (tex a = tex b) = rpE a b := by
  rw [Bool.eq_iff_iff, decide_eq_true_eq, rpE_iff]
  exact ⟨tex_inj, fun h => by rw [h]⟩
theorem run_seq (a b : List UInt8) (W : World) : (binOp .eql 9 (sV a) (sV b)).run Tryd.prog W = .ok (.bool (decide (a = b))) W := by
  unfold sV
  go_simp
  rw [Bool.eq_iff_iff]; simp
theorem run_sge (x y : Operand) (a b : List UInt8) (W : World) : (eqGuard .eql 9 x y (sV a) (sV b)).run Tryd.prog W = .ok () W := by
  unfold sV
  go_simp
theorem tet (r q : Rp) {a : Act} {o : Oper} {x y : Operand} {u : TypeId} {w : World} (ho : o.op = .binOp .eql 9 x y u) (hx : a.eval x = sV (tex r)) (hy : a.eval y = sV (tex q)) : (execOp a.eval o).run Tryd.prog w = .ok (.value (.bool (rpE r q))) w := by
  have h1 := run_sge x y (tex r) (tex q) w
  have h2 := run_seq (tex r) (tex q) w
  rw [tex_rpE] at h2
  unfold execOp
  simp only [ho, hx, hy, Sem.run_bind, h1, h2, Result.andThen_ok]
  rfl
theorem br_self {a : Rp} (h : a.ok) : BR (byt a) a true := .inl ⟨h, rfl, rfl⟩
theorem tr_self {a : Rp} (h : a.ok) : TR (tex a) a true := .inl ⟨h, rfl, rfl⟩
set_option maxHeartbeats 16000000 in
set_option maxRecDepth 100000 in
theorem walk (a b : Rp) (w : World) (ha : a.ok) (hb : b.ok) (hG : GV w) : Calls Tryd.prog 5 #[rV a, rV b] w fun e w' => e = .returned (.bool true) ∧ Below w.heap.size w w' := by
  have HKN : Hid (∀ X, Below w.heap.size w X → Calls Tryd.prog 15 #[] X fun e w' => e = .returned (.bool true) ∧ Below X.heap.size X w') := fun X hb => known_any X (hG.below hb)
  have HPBa : Hid (∀ X, Calls Tryd.prog 9 #[rV a] X _) := fun X => pbytes_any a ha X
  have HPBb : Hid (∀ X, Calls Tryd.prog 9 #[rV b] X _) := fun X => pbytes_any b hb X
  have HPTa : Hid (∀ X, Below w.heap.size w X → Calls Tryd.prog 11 #[rV a] X fun e w' => e = .returned (sV (tex a)) ∧ Below X.heap.size X w') := fun X hb => ptext_any a ha X (hG.below hb)
  have HPTb : Hid (∀ X, Below w.heap.size w X → Calls Tryd.prog 11 #[rV b] X fun e w' => e = .returned (sV (tex b)) ∧ Below X.heap.size X w') := fun X hx => ptext_any b hb X (hG.below hx)
  have HUN : Hid (∀ X, Below w.heap.size w X → Calls Tryd.prog 19 #[sV (tex a)] X fun e w' => e = .returned (.tuple #[rV a, .int .i64 0]) ∧ Below X.heap.size X w') := fun X hx => Calls.mono (puntext_any (tex a) (by have := tex_len ha; omega) X (hG.below hx)) fun e w' ⟨r, b, e1, ht, hb⟩ => by
    obtain ⟨rfl, rfl⟩ := TR.uniq ht (tr_self ha)
    exact ⟨e1, hb⟩
  have HOF : Hid (∀ X g, X.heap[g]? = some (.cells ((byt a).map B8).toArray 5 (0, 0)) → Calls Tryd.prog 16 #[.slice (some ⟨g, 0, none⟩) 80 80] X fun e w' => e = .returned (.tuple #[rV a, .int .i64 0]) ∧ Below X.heap.size X w') := fun X g hg => Calls.mono (pof_any _ (byt a) X (hb_range 80 (byt_len ha).symm (by rw [byt_len ha]; decide) (by decide) (rangeAt_row hg))) fun e w' ⟨r, b, e1, ht, hb⟩ => by
    obtain ⟨rfl, rfl⟩ := BR.uniq ht (br_self ha)
    exact ⟨e1, hb⟩
  have HSM : Hid (∀ X g g2, X.heap[g]? = some (.cells ((byt a).map B8).toArray 5 (0, 0)) → X.heap[g2]? = some (.cells ((byt b).map B8).toArray 5 (0, 0)) → Calls Tryd.prog 8 #[.slice (some ⟨g, 0, none⟩) 80 80, .slice (some ⟨g2, 0, none⟩) 80 80] X fun e w' => e = .returned (.bool (rpE a b)) ∧ X = w') := fun X g g2 h1 h2 => by
    rw [← byt_rpE ha hb]
    exact rsame_any _ _ (byt a) (byt b) X (hb_range 80 (byt_len ha).symm (by rw [byt_len ha]; decide) (by decide) (rangeAt_row h1)) (hb_range 80 (byt_len hb).symm (by rw [byt_len hb]; decide) (by decide) (rangeAt_row h2))
  have hz := zero_rp
  have hnm := num_any 0
  have hsz := size_any
  have HT1 : Hid (∀ {A : Act} {o : Oper} {x y : Operand} {u : TypeId} {w : World}, o.op = .binOp .eql 26 x y u → A.eval x = .agg (rL a).toArray → A.eval y = .agg (rL a).toArray → (execOp A.eval o).run Tryd.prog w = .ok (.value (.bool true)) w) := fun ho hx hy => by rw [rpt a a ha ha ho hx hy, rpE_self]
  have HT2 : Hid (∀ {A : Act} {o : Oper} {x y : Operand} {u : TypeId} {w : World}, o.op = .binOp .eql 26 x y u → A.eval x = .agg (rL a).toArray → A.eval y = .agg (rL b).toArray → (execOp A.eval o).run Tryd.prog w = .ok (.value (.bool (rpE a b))) w) := fun ho hx hy => rpt a b ha hb ho hx hy
  have HT3 : Hid (∀ {A : Act} {o : Oper} {x y : Operand} {u : TypeId} {w : World}, o.op = .binOp .eql 9 x y u → A.eval x = sV (tex a) → A.eval y = sV (tex b) → (execOp A.eval o).run Tryd.prog w = .ok (.value (.bool (rpE a b))) w) := fun ho hx hy => tet a b ho hx hy
  have HIa : Hid _ := infR ha
  have HIb : Hid _ := infR hb
  have HAa : Hid _ := infRA ha
  have HLa : Hid _ := rL_len ha
  have HOa : Hid _ := rL_one a
  have HR0 : Hid _ := ((RS.start w).alloc _ rfl 26 (rL a)).alloc (w.heap.size + 1) (by simp) 26 (rL b)
  clear ha hb hG
  generalize rpE a b = AB at *
  generalize tex a = TA at *
  generalize tex b = TB at *
  unfold rV
  go_enter Tryd.func5, Tryd.ntmps5
  go_wp2_with (go_at_call 15; refine Calls.mono (HKN.out _ HR0.out.bel) ?_; rintro e X1 ⟨rfl, hb⟩; have HR1 : Hid _ := HR0.out.step hb; clear hb HR0)
  refine wp_region_held_drew (S := fun X => RS w [(w.heap.size + 1, 26, rL b), (w.heap.size, 26, rL a)] X) (by kernel_rfl) (HR1.out.step (Below.refl _ _).drew) (fun hHeld => ?_)
  generalize World.drew _ = V0 at *
  refine wpAnyH_take (i := 0) (oi := { dst := some 13, op := Go.Op.load 26 (Go.Operand.tmp 2), type := 26, pos := _, after := #[], guard := none }) rfl (by kernel_rfl) (by kernel_rfl) (by kernel_rfl) (fun _ _ _ h => h) (yieldsIf_load_mid (by rfl) 26 (.tmp 2) rfl (w.heap.size) (0) rfl (rL a) _ (fun _ h => rangeAt_row (RS.at h 1 rfl)) Tryd.underlying26 rfl HIa.out) hHeld ?_
  try simp only [Act.put, List.setIfInBounds_toArray, List.set_cons_zero, List.set_cons_succ]
  refine wpAnyH_take (i := 2) (oi := { dst := some 15, op := Go.Op.load 26 (Go.Operand.tmp 3), type := 26, pos := _, after := #[], guard := none }) rfl (by kernel_rfl) (by kernel_rfl) (by kernel_rfl) (fun _ _ _ h => h) (yieldsIf_load_mid (by rfl) 26 (.tmp 3) rfl ((w.heap.size + 1)) (0) rfl (rL b) _ (fun _ h => rangeAt_row (RS.at h 0 rfl)) Tryd.underlying26 rfl HIb.out) hHeld ?_
  try simp only [Act.put, List.setIfInBounds_toArray, List.set_cons_zero, List.set_cons_succ]
  refine wpAnyH_ready (rs := [1]) (by kernel_rfl) (by simp) ?_
  refine AllReadyH.cons (o := { dst := some 14, op := Go.Op.call { callee := Go.Callee.value (Go.Operand.func 9), args := #[Go.Operand.tmp 13], argTypes := #[26] }, type := 28, pos := _, after := #[{ on := 0, ground := Go.Ground.data }], guard := none }) rfl (fun K hK => ?_) AllReadyH.nil
  rw [if_pos (by rfl)]
  go_wp2_with fail
  refine Calls.mono (HPBa.out _) ?_
  rintro e V1 ⟨g, rfl, hg, hb, hr⟩
  have HR2 : Hid _ := hHeld.add hb hg hr
  replace hHeld := hHeld.step hb
  clear hb hg hr
  refine hK.out _ _ hHeld (fun _ => ?_)
  clear hK K
  try simp only [Act.put, List.setIfInBounds_toArray, List.set_cons_zero, List.set_cons_succ]
  refine wpAnyH_ready (rs := [3]) (by kernel_rfl) (by simp) ?_
  refine AllReadyH.cons (o := { dst := some 16, op := Go.Op.call { callee := Go.Callee.value (Go.Operand.func 9), args := #[Go.Operand.tmp 15], argTypes := #[26] }, type := 28, pos := _, after := #[{ on := 2, ground := Go.Ground.data }, { on := 1, ground := Go.Ground.chain }], guard := none }) rfl (fun K hK => ?_) AllReadyH.nil
  rw [if_pos (by rfl)]
  go_wp2_with fail
  refine Calls.mono (HPBb.out _) ?_
  rintro e V2 ⟨g2, rfl, hg, hb, hr⟩
  have HR3 : Hid _ := HR2.out.add hb hg hr
  replace hHeld := hHeld.step hb
  clear hb hg hr HR2
  refine hK.out _ _ hHeld (fun _ => ?_)
  clear hK K
  try simp only [Act.put, List.setIfInBounds_toArray, List.set_cons_zero, List.set_cons_succ]
  refine wpAnyH_take (i := 4) (oi := { dst := some 5, op := Go.Op.assign (Go.Operand.tmp 14), type := 28, pos := _, after := #[{ on := 1, ground := Go.Ground.data }, { on := 3, ground := Go.Ground.chain }, { on := 0, ground := Go.Ground.phase }, { on := 1, ground := Go.Ground.phase }, { on := 2, ground := Go.Ground.textOnly Go.Departure.lateStores }, { on := 3, ground := Go.Ground.textOnly Go.Departure.lateStoresUnsure }], guard := none }) (v := .slice (some ⟨g, 0, none⟩) 80 80) rfl (by kernel_rfl) (by kernel_rfl) (by kernel_rfl) (fun _ _ _ h => h) (Or.inl ⟨by rfl, fun w' hw' => ?_⟩) hHeld ?_
  · first | (go_simp; done) | (go_simp; rfl)
  try simp only [Act.put, List.setIfInBounds_toArray, List.set_cons_zero, List.set_cons_succ]
  refine wpAnyH_take (i := 5) (oi := { dst := some 6, op := Go.Op.assign (Go.Operand.tmp 16), type := 28, pos := _, after := #[{ on := 3, ground := Go.Ground.data }, { on := 4, ground := Go.Ground.chain }, { on := 0, ground := Go.Ground.phase }, { on := 1, ground := Go.Ground.phase }, { on := 2, ground := Go.Ground.phase }, { on := 3, ground := Go.Ground.phase }, { on := 4, ground := Go.Ground.phase }], guard := none }) (v := .slice (some ⟨g2, 0, none⟩) 80 80) rfl (by kernel_rfl) (by kernel_rfl) (by kernel_rfl) (fun _ _ _ h => h) (Or.inl ⟨by rfl, fun w' hw' => ?_⟩) hHeld ?_
  · first | (go_simp; done) | (go_simp; rfl)
  try simp only [Act.put, List.setIfInBounds_toArray, List.set_cons_zero, List.set_cons_succ]
  refine wpAnyH_done (by kernel_rfl) ?_ _
  clear hHeld HR1 HPBa HPBb
  go_wp2_with fail
  refine Calls.mono (HOF.out _ g (HR3.out.at 1 rfl)) ?_
  rintro e V3 ⟨rfl, hb⟩
  have HR4 : Hid _ := (HR3.out.step hb).alloc V3.heap.size rfl 26 (rL r0)
  clear hb HR3 HOF
  go_wp2_with (first
    | (refine wpList_store_rowL rfl 26 (.tmp 7) (.tmp 20) rfl V3.heap.size (rL a).toArray rfl rfl 26 (rL r0).toArray (HR4.out.at 0 rfl) HAa.out (by rw [List.size_toArray, List.size_toArray, HLa.out]; rfl) HOa.out ?_; intro W1 hW; have HR5 : Hid _ := (HR4.out.put 0 rfl (rL a)); rw [← hW] at HR5; clear hW HR4)
    | (refine wpList_load_mid rfl 26 (.tmp 2) rfl w.heap.size 0 rfl (rL a) _ (rangeAt_row (HR5.out.at 4 rfl)) Tryd.underlying26 rfl HIa.out ?_)
    | (go_at_call 11; refine Calls.mono (HPTa.out _ HR5.out.bel) ?_; rintro e V4 ⟨rfl, hb⟩; have HR6 : Hid _ := HR5.out.step hb; clear hb HR5))
  refine Calls.mono (HUN.out _ HR6.out.bel) ?_
  rintro e V5 ⟨rfl, hb⟩
  have HR7 : Hid _ := (HR6.out.step hb).alloc V5.heap.size rfl 26 (rL r0)
  clear hb HR6 HUN
  go_wp2_with (refine wpList_store_rowL rfl 26 (.tmp 9) (.tmp 26) rfl V5.heap.size (rL a).toArray rfl rfl 26 (rL r0).toArray (HR7.out.at 0 rfl) HAa.out (by rw [List.size_toArray, List.size_toArray, HLa.out]; rfl) HOa.out ?_; intro W2 hW; have HR8 : Hid (RS w [(V5.heap.size, 26, rL a), (V3.heap.size, 26, rL a), (g2, 5, (byt b).map B8), (g, 5, (byt a).map B8), (w.heap.size + 1, 26, rL b), (w.heap.size, 26, rL a)] W2) := (by rw [hW]; exact HR7.out.put 0 rfl (rL a)); clear hW HR7)
  generalize V5.heap.size = n5 at *
  generalize V3.heap.size = n3 at *
  refine wp_region_held_drew (S := fun X => RS w [(n5, 26, rL a), (n3, 26, rL a), (g2, 5, (byt b).map B8), (g, 5, (byt a).map B8), (w.heap.size + 1, 26, rL b), (w.heap.size, 26, rL a)] X) (by kernel_rfl) (HR8.out.step (Below.refl _ _).drew) (fun hHeld => ?_)
  clear HR8
  generalize World.drew _ = V6 at *
  refine wpAnyH_take (i := 0) (oi := { dst := some 28, op := Go.Op.move (Go.Operand.tmp 8), type := 33, pos := _, after := #[], guard := none }) (v := .int .i64 0) rfl (by kernel_rfl) (by kernel_rfl) (by kernel_rfl) (fun _ _ _ h => h) (Or.inl ⟨by rfl, fun w' hw' => ?_⟩) hHeld ?_
  · first | (go_simp; done) | (go_simp; rfl)
  try simp only [Act.put, List.setIfInBounds_toArray, List.set_cons_zero, List.set_cons_succ]
  refine wpAnyH_take (i := 2) (oi := { dst := some 30, op := Go.Op.move (Go.Operand.tmp 10), type := 33, pos := _, after := #[], guard := none }) (v := .int .i64 0) rfl (by kernel_rfl) (by kernel_rfl) (by kernel_rfl) (fun _ _ _ h => h) (Or.inl ⟨by rfl, fun w' hw' => ?_⟩) hHeld ?_
  · first | (go_simp; done) | (go_simp; rfl)
  try simp only [Act.put, List.setIfInBounds_toArray, List.set_cons_zero, List.set_cons_succ]
  refine wpAnyH_ready (rs := [1]) (by kernel_rfl) (by simp) ?_
  refine AllReadyH.cons (o := { dst := some 29, op := Go.Op.call { callee := Go.Callee.value (Go.Operand.func 18), args := #[Go.Operand.tmp 28], argTypes := #[33] }, type := 3, pos := _, after := #[{ on := 0, ground := Go.Ground.data }], guard := none }) rfl (fun K hK => ?_) AllReadyH.nil
  rw [if_pos (by rfl)]
  go_wp2_with fail
  refine Calls.mono (hnm _) ?_
  rintro e w1 ⟨rfl, rfl⟩
  refine hK.out _ _ hHeld (fun _ => ?_)
  clear hK K
  try simp only [Act.put, List.setIfInBounds_toArray, List.set_cons_zero, List.set_cons_succ]
  refine wpAnyH_ready (rs := [3]) (by kernel_rfl) (by simp) ?_
  refine AllReadyH.cons (o := { dst := some 31, op := Go.Op.call { callee := Go.Callee.value (Go.Operand.func 18), args := #[Go.Operand.tmp 30], argTypes := #[33] }, type := 3, pos := _, after := #[{ on := 2, ground := Go.Ground.data }, { on := 1, ground := Go.Ground.chain }], guard := none }) rfl (fun K hK => ?_) AllReadyH.nil
  rw [if_pos (by rfl)]
  go_wp2_with fail
  refine Calls.mono (hnm _) ?_
  rintro e w1 ⟨rfl, rfl⟩
  refine hK.out _ _ hHeld (fun _ => ?_)
  clear hK K
  try simp only [Act.put, List.setIfInBounds_toArray, List.set_cons_zero, List.set_cons_succ]
  refine wpAnyH_take (i := 4) (oi := { dst := some 32, op := Go.Op.binOp Go.BinOp.add 3 (Go.Operand.tmp 29) (Go.Operand.tmp 31) 3, type := 3, pos := _, after := #[{ on := 1, ground := Go.Ground.data }, { on := 3, ground := Go.Ground.data }], guard := none }) (v := .int .i64 0) rfl (by kernel_rfl) (by kernel_rfl) (by kernel_rfl) (fun _ _ _ h => h) (Or.inl ⟨by rfl, fun w' hw' => ?_⟩) hHeld ?_
  · first | (go_simp; done) | (go_simp; rfl)
  try simp only [Act.put, List.setIfInBounds_toArray, List.set_cons_zero, List.set_cons_succ]
  refine wpAnyH_take (i := 5) (oi := { dst := some 33, op := Go.Op.binOp Go.BinOp.eql 3 (Go.Operand.tmp 32) (Go.Operand.const (Go.Value.int Go.IntKind.i64 0)) 3, type := 4, pos := _, after := #[{ on := 4, ground := Go.Ground.data }], guard := none }) (v := .bool true) rfl (by kernel_rfl) (by kernel_rfl) (by kernel_rfl) (fun _ _ _ h => h) (Or.inl ⟨by rfl, fun w' hw' => ?_⟩) hHeld ?_
  · first | (go_simp; done) | (go_simp; rfl)
  try simp only [Act.put, List.setIfInBounds_toArray, List.set_cons_zero, List.set_cons_succ]
  refine wpAnyH_take (i := 6) (oi := { dst := some 34, op := Go.Op.move (Go.Operand.tmp 33), type := 4, pos := _, after := #[{ on := 5, ground := Go.Ground.data }, { on := 3, ground := Go.Ground.chain }], guard := none }) (v := .bool true) rfl (by kernel_rfl) (by kernel_rfl) (by kernel_rfl) (fun _ _ _ h => h) (Or.inl ⟨by rfl, fun w' hw' => ?_⟩) hHeld ?_
  · first | (go_simp; done) | (go_simp; rfl)
  try simp only [Act.put, List.setIfInBounds_toArray, List.set_cons_zero, List.set_cons_succ]
  refine wpAnyH_take (i := 7) (oi := { dst := some 35, op := Go.Op.load 26 (Go.Operand.tmp 7), type := 26, pos := _, after := #[{ on := 6, ground := Go.Ground.guard }], guard := some (6, true) }) rfl (by kernel_rfl) (by kernel_rfl) (by kernel_rfl) (fun _ _ _ h => h) (yieldsIf_load_mid (by rfl) 26 (.tmp 7) rfl (n3) (0) rfl (rL a) _ (fun _ h => rangeAt_row (RS.at h 1 rfl)) Tryd.underlying26 rfl HIa.out) hHeld ?_
  try simp only [Act.put, List.setIfInBounds_toArray, List.set_cons_zero, List.set_cons_succ]
  refine wpAnyH_take (i := 8) (oi := { dst := some 36, op := Go.Op.load 26 (Go.Operand.tmp 2), type := 26, pos := _, after := #[{ on := 6, ground := Go.Ground.guard }], guard := some (6, true) }) rfl (by kernel_rfl) (by kernel_rfl) (by kernel_rfl) (fun _ _ _ h => h) (yieldsIf_load_mid (by rfl) 26 (.tmp 2) rfl (w.heap.size) (0) rfl (rL a) _ (fun _ h => rangeAt_row (RS.at h 5 rfl)) Tryd.underlying26 rfl HIa.out) hHeld ?_
  try simp only [Act.put, List.setIfInBounds_toArray, List.set_cons_zero, List.set_cons_succ]
  refine wpAnyH_take (i := 9) (oi := { dst := some 37, op := Go.Op.binOp Go.BinOp.eql 26 (Go.Operand.tmp 35) (Go.Operand.tmp 36) 26, type := 4, pos := _, after := #[{ on := 7, ground := Go.Ground.data }, { on := 8, ground := Go.Ground.data }, { on := 6, ground := Go.Ground.guard }], guard := some (6, true) }) (v := .bool true) rfl (by kernel_rfl) (by kernel_rfl) (by kernel_rfl) (fun _ _ _ h => h) (Or.inl ⟨by rfl, fun w' hw' => ?_⟩) hHeld ?_
  · exact HT1.out rfl rfl rfl
  try simp only [Act.put, List.setIfInBounds_toArray, List.set_cons_zero, List.set_cons_succ]
  refine wpAnyH_take (i := 10) (oi := { dst := some 38, op := Go.Op.pick (Go.Operand.tmp 34) (Go.Operand.tmp 37) (Go.Operand.const (Go.Value.bool false)), type := 4, pos := _, after := #[{ on := 6, ground := Go.Ground.data }, { on := 9, ground := Go.Ground.data }], guard := none }) (v := .bool true) rfl (by kernel_rfl) (by kernel_rfl) (by kernel_rfl) (fun _ _ _ h => h) (Or.inl ⟨by rfl, fun w' hw' => ?_⟩) hHeld ?_
  · first | (go_simp; done) | (go_simp; rfl)
  try simp only [Act.put, List.setIfInBounds_toArray, List.set_cons_zero, List.set_cons_succ]
  refine wpAnyH_take (i := 11) (oi := { dst := some 39, op := Go.Op.move (Go.Operand.tmp 38), type := 4, pos := _, after := #[{ on := 10, ground := Go.Ground.data }, { on := 6, ground := Go.Ground.chain }], guard := none }) (v := .bool true) rfl (by kernel_rfl) (by kernel_rfl) (by kernel_rfl) (fun _ _ _ h => h) (Or.inl ⟨by rfl, fun w' hw' => ?_⟩) hHeld ?_
  · first | (go_simp; done) | (go_simp; rfl)
  try simp only [Act.put, List.setIfInBounds_toArray, List.set_cons_zero, List.set_cons_succ]
  refine wpAnyH_take (i := 12) (oi := { dst := some 40, op := Go.Op.load 26 (Go.Operand.tmp 9), type := 26, pos := _, after := #[{ on := 11, ground := Go.Ground.guard }], guard := some (11, true) }) rfl (by kernel_rfl) (by kernel_rfl) (by kernel_rfl) (fun _ _ _ h => h) (yieldsIf_load_mid (by rfl) 26 (.tmp 9) rfl (n5) (0) rfl (rL a) _ (fun _ h => rangeAt_row (RS.at h 0 rfl)) Tryd.underlying26 rfl HIa.out) hHeld ?_
  try simp only [Act.put, List.setIfInBounds_toArray, List.set_cons_zero, List.set_cons_succ]
  refine wpAnyH_take (i := 13) (oi := { dst := some 41, op := Go.Op.load 26 (Go.Operand.tmp 2), type := 26, pos := _, after := #[{ on := 11, ground := Go.Ground.guard }], guard := some (11, true) }) rfl (by kernel_rfl) (by kernel_rfl) (by kernel_rfl) (fun _ _ _ h => h) (yieldsIf_load_mid (by rfl) 26 (.tmp 2) rfl (w.heap.size) (0) rfl (rL a) _ (fun _ h => rangeAt_row (RS.at h 5 rfl)) Tryd.underlying26 rfl HIa.out) hHeld ?_
  try simp only [Act.put, List.setIfInBounds_toArray, List.set_cons_zero, List.set_cons_succ]
  refine wpAnyH_take (i := 14) (oi := { dst := some 42, op := Go.Op.binOp Go.BinOp.eql 26 (Go.Operand.tmp 40) (Go.Operand.tmp 41) 26, type := 4, pos := _, after := #[{ on := 12, ground := Go.Ground.data }, { on := 13, ground := Go.Ground.data }, { on := 11, ground := Go.Ground.guard }], guard := some (11, true) }) (v := .bool true) rfl (by kernel_rfl) (by kernel_rfl) (by kernel_rfl) (fun _ _ _ h => h) (Or.inl ⟨by rfl, fun w' hw' => ?_⟩) hHeld ?_
  · exact HT1.out rfl rfl rfl
  try simp only [Act.put, List.setIfInBounds_toArray, List.set_cons_zero, List.set_cons_succ]
  refine wpAnyH_take (i := 15) (oi := { dst := some 43, op := Go.Op.pick (Go.Operand.tmp 39) (Go.Operand.tmp 42) (Go.Operand.const (Go.Value.bool false)), type := 4, pos := _, after := #[{ on := 11, ground := Go.Ground.data }, { on := 14, ground := Go.Ground.data }], guard := none }) (v := .bool true) rfl (by kernel_rfl) (by kernel_rfl) (by kernel_rfl) (fun _ _ _ h => h) (Or.inl ⟨by rfl, fun w' hw' => ?_⟩) hHeld ?_
  · first | (go_simp; done) | (go_simp; rfl)
  try simp only [Act.put, List.setIfInBounds_toArray, List.set_cons_zero, List.set_cons_succ]
  refine wpAnyH_take (i := 16) (oi := { dst := some 44, op := Go.Op.move (Go.Operand.tmp 43), type := 4, pos := _, after := #[{ on := 15, ground := Go.Ground.data }, { on := 11, ground := Go.Ground.chain }], guard := none }) (v := .bool true) rfl (by kernel_rfl) (by kernel_rfl) (by kernel_rfl) (fun _ _ _ h => h) (Or.inl ⟨by rfl, fun w' hw' => ?_⟩) hHeld ?_
  · first | (go_simp; done) | (go_simp; rfl)
  try simp only [Act.put, List.setIfInBounds_toArray, List.set_cons_zero, List.set_cons_succ]
  refine wpAnyH_take (i := 17) (oi := { dst := some 45, op := Go.Op.move (Go.Operand.tmp 5), type := 28, pos := _, after := #[{ on := 16, ground := Go.Ground.guard }], guard := some (16, true) }) (v := .slice (some ⟨g, 0, none⟩) 80 80) rfl (by kernel_rfl) (by kernel_rfl) (by kernel_rfl) (fun _ _ _ h => h) (Or.inl ⟨by rfl, fun w' hw' => ?_⟩) hHeld ?_
  · first | (go_simp; done) | (go_simp; rfl)
  try simp only [Act.put, List.setIfInBounds_toArray, List.set_cons_zero, List.set_cons_succ]
  refine wpAnyH_take (i := 18) (oi := { dst := some 46, op := Go.Op.move (Go.Operand.tmp 6), type := 28, pos := _, after := #[{ on := 16, ground := Go.Ground.guard }], guard := some (16, true) }) (v := .slice (some ⟨g2, 0, none⟩) 80 80) rfl (by kernel_rfl) (by kernel_rfl) (by kernel_rfl) (fun _ _ _ h => h) (Or.inl ⟨by rfl, fun w' hw' => ?_⟩) hHeld ?_
  · first | (go_simp; done) | (go_simp; rfl)
  try simp only [Act.put, List.setIfInBounds_toArray, List.set_cons_zero, List.set_cons_succ]
  refine wpAnyH_take (i := 20) (oi := { dst := some 48, op := Go.Op.load 26 (Go.Operand.tmp 2), type := 26, pos := _, after := #[{ on := 16, ground := Go.Ground.guard }], guard := some (16, true) }) rfl (by kernel_rfl) (by kernel_rfl) (by kernel_rfl) (fun _ _ _ h => h) (yieldsIf_load_mid (by rfl) 26 (.tmp 2) rfl (w.heap.size) (0) rfl (rL a) _ (fun _ h => rangeAt_row (RS.at h 5 rfl)) Tryd.underlying26 rfl HIa.out) hHeld ?_
  try simp only [Act.put, List.setIfInBounds_toArray, List.set_cons_zero, List.set_cons_succ]
  refine wpAnyH_take (i := 21) (oi := { dst := some 49, op := Go.Op.load 26 (Go.Operand.tmp 3), type := 26, pos := _, after := #[{ on := 16, ground := Go.Ground.guard }], guard := some (16, true) }) rfl (by kernel_rfl) (by kernel_rfl) (by kernel_rfl) (fun _ _ _ h => h) (yieldsIf_load_mid (by rfl) 26 (.tmp 3) rfl ((w.heap.size + 1)) (0) rfl (rL b) _ (fun _ h => rangeAt_row (RS.at h 4 rfl)) Tryd.underlying26 rfl HIb.out) hHeld ?_
  try simp only [Act.put, List.setIfInBounds_toArray, List.set_cons_zero, List.set_cons_succ]
  refine wpAnyH_take (i := 22) (oi := { dst := some 50, op := Go.Op.binOp Go.BinOp.eql 26 (Go.Operand.tmp 48) (Go.Operand.tmp 49) 26, type := 4, pos := _, after := #[{ on := 20, ground := Go.Ground.data }, { on := 21, ground := Go.Ground.data }, { on := 16, ground := Go.Ground.guard }], guard := some (16, true) }) (v := .bool AB) rfl (by kernel_rfl) (by kernel_rfl) (by kernel_rfl) (fun _ _ _ h => h) (Or.inl ⟨by rfl, fun w' hw' => ?_⟩) hHeld ?_
  · exact HT2.out rfl rfl rfl
  try simp only [Act.put, List.setIfInBounds_toArray, List.set_cons_zero, List.set_cons_succ]
  refine wpAnyH_ready (rs := [19]) (by kernel_rfl) (by simp) ?_
  refine AllReadyH.cons (o := { dst := some 47, op := Go.Op.call { callee := Go.Callee.value (Go.Operand.func 8), args := #[Go.Operand.tmp 45, Go.Operand.tmp 46], argTypes := #[28, 28] }, type := 4, pos := _, after := #[{ on := 17, ground := Go.Ground.data }, { on := 18, ground := Go.Ground.data }, { on := 16, ground := Go.Ground.chain }, { on := 16, ground := Go.Ground.guard }], guard := some (16, true) }) rfl (fun K hK => ?_) AllReadyH.nil
  rw [if_pos (by rfl)]
  go_wp2_with fail
  refine Calls.mono (HSM.out _ g g2 (RS.at hHeld 3 rfl) (RS.at hHeld 2 rfl)) ?_
  rintro e w1 ⟨rfl, rfl⟩
  refine hK.out _ _ hHeld (fun _ => ?_)
  clear hK K
  try simp only [Act.put, List.setIfInBounds_toArray, List.set_cons_zero, List.set_cons_succ]
  refine wpAnyH_take (i := 23) (oi := { dst := some 51, op := Go.Op.binOp Go.BinOp.eql 4 (Go.Operand.tmp 47) (Go.Operand.tmp 50) 4, type := 4, pos := _, after := #[{ on := 19, ground := Go.Ground.data }, { on := 22, ground := Go.Ground.data }, { on := 16, ground := Go.Ground.guard }], guard := some (16, true) }) (v := .bool true) rfl (by kernel_rfl) (by kernel_rfl) (by kernel_rfl) (fun _ _ _ h => h) (Or.inl ⟨by rfl, fun w' hw' => ?_⟩) hHeld ?_
  · first | (go_simp; done) | (go_simp; rfl)
  try simp only [Act.put, List.setIfInBounds_toArray, List.set_cons_zero, List.set_cons_succ]
  refine wpAnyH_take (i := 24) (oi := { dst := some 52, op := Go.Op.pick (Go.Operand.tmp 44) (Go.Operand.tmp 51) (Go.Operand.const (Go.Value.bool false)), type := 4, pos := _, after := #[{ on := 16, ground := Go.Ground.data }, { on := 23, ground := Go.Ground.data }], guard := none }) (v := .bool true) rfl (by kernel_rfl) (by kernel_rfl) (by kernel_rfl) (fun _ _ _ h => h) (Or.inl ⟨by rfl, fun w' hw' => ?_⟩) hHeld ?_
  · first | (go_simp; done) | (go_simp; rfl)
  try simp only [Act.put, List.setIfInBounds_toArray, List.set_cons_zero, List.set_cons_succ]
  refine wpAnyH_take (i := 25) (oi := { dst := some 53, op := Go.Op.move (Go.Operand.tmp 52), type := 4, pos := _, after := #[{ on := 24, ground := Go.Ground.data }, { on := 19, ground := Go.Ground.chain }], guard := none }) (v := .bool true) rfl (by kernel_rfl) (by kernel_rfl) (by kernel_rfl) (fun _ _ _ h => h) (Or.inl ⟨by rfl, fun w' hw' => ?_⟩) hHeld ?_
  · first | (go_simp; done) | (go_simp; rfl)
  try simp only [Act.put, List.setIfInBounds_toArray, List.set_cons_zero, List.set_cons_succ]
  refine wpAnyH_take (i := 26) (oi := { dst := some 54, op := Go.Op.load 26 (Go.Operand.tmp 2), type := 26, pos := _, after := #[{ on := 25, ground := Go.Ground.guard }], guard := some (25, true) }) rfl (by kernel_rfl) (by kernel_rfl) (by kernel_rfl) (fun _ _ _ h => h) (yieldsIf_load_mid (by rfl) 26 (.tmp 2) rfl (w.heap.size) (0) rfl (rL a) _ (fun _ h => rangeAt_row (RS.at h 5 rfl)) Tryd.underlying26 rfl HIa.out) hHeld ?_
  try simp only [Act.put, List.setIfInBounds_toArray, List.set_cons_zero, List.set_cons_succ]
  refine wpAnyH_take (i := 28) (oi := { dst := some 56, op := Go.Op.load 26 (Go.Operand.tmp 3), type := 26, pos := _, after := #[{ on := 25, ground := Go.Ground.guard }], guard := some (25, true) }) rfl (by kernel_rfl) (by kernel_rfl) (by kernel_rfl) (fun _ _ _ h => h) (yieldsIf_load_mid (by rfl) 26 (.tmp 3) rfl ((w.heap.size + 1)) (0) rfl (rL b) _ (fun _ h => rangeAt_row (RS.at h 4 rfl)) Tryd.underlying26 rfl HIb.out) hHeld ?_
  try simp only [Act.put, List.setIfInBounds_toArray, List.set_cons_zero, List.set_cons_succ]
  refine wpAnyH_take (i := 31) (oi := { dst := some 59, op := Go.Op.load 26 (Go.Operand.tmp 2), type := 26, pos := _, after := #[{ on := 25, ground := Go.Ground.guard }], guard := some (25, true) }) rfl (by kernel_rfl) (by kernel_rfl) (by kernel_rfl) (fun _ _ _ h => h) (yieldsIf_load_mid (by rfl) 26 (.tmp 2) rfl (w.heap.size) (0) rfl (rL a) _ (fun _ h => rangeAt_row (RS.at h 5 rfl)) Tryd.underlying26 rfl HIa.out) hHeld ?_
  try simp only [Act.put, List.setIfInBounds_toArray, List.set_cons_zero, List.set_cons_succ]
  refine wpAnyH_take (i := 32) (oi := { dst := some 60, op := Go.Op.load 26 (Go.Operand.tmp 3), type := 26, pos := _, after := #[{ on := 25, ground := Go.Ground.guard }], guard := some (25, true) }) rfl (by kernel_rfl) (by kernel_rfl) (by kernel_rfl) (fun _ _ _ h => h) (yieldsIf_load_mid (by rfl) 26 (.tmp 3) rfl ((w.heap.size + 1)) (0) rfl (rL b) _ (fun _ h => rangeAt_row (RS.at h 4 rfl)) Tryd.underlying26 rfl HIb.out) hHeld ?_
  try simp only [Act.put, List.setIfInBounds_toArray, List.set_cons_zero, List.set_cons_succ]
  refine wpAnyH_take (i := 33) (oi := { dst := some 61, op := Go.Op.binOp Go.BinOp.eql 26 (Go.Operand.tmp 59) (Go.Operand.tmp 60) 26, type := 4, pos := _, after := #[{ on := 31, ground := Go.Ground.data }, { on := 32, ground := Go.Ground.data }, { on := 25, ground := Go.Ground.guard }], guard := some (25, true) }) (v := .bool AB) rfl (by kernel_rfl) (by kernel_rfl) (by kernel_rfl) (fun _ _ _ h => h) (Or.inl ⟨by rfl, fun w' hw' => ?_⟩) hHeld ?_
  · exact HT2.out rfl rfl rfl
  try simp only [Act.put, List.setIfInBounds_toArray, List.set_cons_zero, List.set_cons_succ]
  refine wpAnyH_ready (rs := [27]) (by kernel_rfl) (by simp) ?_
  refine AllReadyH.cons (o := { dst := some 55, op := Go.Op.call { callee := Go.Callee.value (Go.Operand.func 11), args := #[Go.Operand.tmp 54], argTypes := #[26] }, type := 9, pos := _, after := #[{ on := 26, ground := Go.Ground.data }, { on := 25, ground := Go.Ground.chain }, { on := 25, ground := Go.Ground.guard }], guard := some (25, true) }) rfl (fun K hK => ?_) AllReadyH.nil
  rw [if_pos (by rfl)]
  go_wp2_with fail
  refine Calls.mono (HPTa.out _ hHeld.bel) ?_
  rintro e V7 ⟨rfl, hb⟩
  replace hHeld := hHeld.step hb
  clear hb
  refine hK.out _ _ hHeld (fun _ => ?_)
  clear hK K
  try simp only [Act.put, List.setIfInBounds_toArray, List.set_cons_zero, List.set_cons_succ]
  refine wpAnyH_ready (rs := [29]) (by kernel_rfl) (by simp) ?_
  refine AllReadyH.cons (o := { dst := some 57, op := Go.Op.call { callee := Go.Callee.value (Go.Operand.func 11), args := #[Go.Operand.tmp 56], argTypes := #[26] }, type := 9, pos := _, after := #[{ on := 28, ground := Go.Ground.data }, { on := 27, ground := Go.Ground.chain }, { on := 25, ground := Go.Ground.guard }], guard := some (25, true) }) rfl (fun K hK => ?_) AllReadyH.nil
  rw [if_pos (by rfl)]
  go_wp2_with fail
  refine Calls.mono (HPTb.out _ hHeld.bel) ?_
  rintro e V8 ⟨rfl, hb⟩
  replace hHeld := hHeld.step hb
  clear hb
  refine hK.out _ _ hHeld (fun _ => ?_)
  clear hK K
  try simp only [Act.put, List.setIfInBounds_toArray, List.set_cons_zero, List.set_cons_succ]
  refine wpAnyH_take (i := 30) (oi := { dst := some 58, op := Go.Op.binOp Go.BinOp.eql 9 (Go.Operand.tmp 55) (Go.Operand.tmp 57) 9, type := 4, pos := _, after := #[{ on := 27, ground := Go.Ground.data }, { on := 29, ground := Go.Ground.data }, { on := 25, ground := Go.Ground.guard }], guard := some (25, true) }) (v := .bool AB) rfl (by kernel_rfl) (by kernel_rfl) (by kernel_rfl) (fun _ _ _ h => h) (Or.inl ⟨by rfl, fun w' hw' => ?_⟩) hHeld ?_
  · exact HT3.out rfl rfl rfl
  try simp only [Act.put, List.setIfInBounds_toArray, List.set_cons_zero, List.set_cons_succ]
  refine wpAnyH_take (i := 34) (oi := { dst := some 62, op := Go.Op.binOp Go.BinOp.eql 4 (Go.Operand.tmp 58) (Go.Operand.tmp 61) 4, type := 4, pos := _, after := #[{ on := 30, ground := Go.Ground.data }, { on := 33, ground := Go.Ground.data }, { on := 25, ground := Go.Ground.guard }], guard := some (25, true) }) (v := .bool true) rfl (by kernel_rfl) (by kernel_rfl) (by kernel_rfl) (fun _ _ _ h => h) (Or.inl ⟨by rfl, fun w' hw' => ?_⟩) hHeld ?_
  · first | (go_simp; done) | (go_simp; rfl)
  try simp only [Act.put, List.setIfInBounds_toArray, List.set_cons_zero, List.set_cons_succ]
  refine wpAnyH_take (i := 35) (oi := { dst := some 63, op := Go.Op.pick (Go.Operand.tmp 53) (Go.Operand.tmp 62) (Go.Operand.const (Go.Value.bool false)), type := 4, pos := _, after := #[{ on := 25, ground := Go.Ground.data }, { on := 34, ground := Go.Ground.data }], guard := none }) (v := .bool true) rfl (by kernel_rfl) (by kernel_rfl) (by kernel_rfl) (fun _ _ _ h => h) (Or.inl ⟨by rfl, fun w' hw' => ?_⟩) hHeld ?_
  · first | (go_simp; done) | (go_simp; rfl)
  try simp only [Act.put, List.setIfInBounds_toArray, List.set_cons_zero, List.set_cons_succ]
  refine wpAnyH_take (i := 36) (oi := { dst := some 64, op := Go.Op.move (Go.Operand.tmp 63), type := 4, pos := _, after := #[{ on := 35, ground := Go.Ground.data }, { on := 29, ground := Go.Ground.chain }], guard := none }) (v := .bool true) rfl (by kernel_rfl) (by kernel_rfl) (by kernel_rfl) (fun _ _ _ h => h) (Or.inl ⟨by rfl, fun w' hw' => ?_⟩) hHeld ?_
  · first | (go_simp; done) | (go_simp; rfl)
  try simp only [Act.put, List.setIfInBounds_toArray, List.set_cons_zero, List.set_cons_succ]
  refine wpAnyH_take (i := 37) (oi := { dst := some 65, op := Go.Op.move (Go.Operand.tmp 5), type := 28, pos := _, after := #[{ on := 36, ground := Go.Ground.guard }], guard := some (36, true) }) (v := .slice (some ⟨g, 0, none⟩) 80 80) rfl (by kernel_rfl) (by kernel_rfl) (by kernel_rfl) (fun _ _ _ h => h) (Or.inl ⟨by rfl, fun w' hw' => ?_⟩) hHeld ?_
  · first | (go_simp; done) | (go_simp; rfl)
  try simp only [Act.put, List.setIfInBounds_toArray, List.set_cons_zero, List.set_cons_succ]
  refine wpAnyH_take (i := 38) (oi := { dst := some 66, op := Go.Op.call { callee := Go.Callee.builtin Go.Builtin.len, args := #[Go.Operand.tmp 65], argTypes := #[28] }, type := 3, pos := _, after := #[{ on := 37, ground := Go.Ground.data }, { on := 36, ground := Go.Ground.guard }], guard := some (36, true) }) (v := .int .i64 80) rfl (by kernel_rfl) (by kernel_rfl) (by kernel_rfl) (fun _ _ _ h => h) (Or.inl ⟨by rfl, fun w' hw' => ?_⟩) hHeld ?_
  · first | (go_simp; done) | (go_simp; rfl)
  try simp only [Act.put, List.setIfInBounds_toArray, List.set_cons_zero, List.set_cons_succ]
  refine wpAnyH_ready (rs := [39]) (by kernel_rfl) (by simp) ?_
  refine AllReadyH.cons (o := { dst := some 67, op := Go.Op.call { callee := Go.Callee.value (Go.Operand.func 21), args := #[], argTypes := #[] }, type := 3, pos := _, after := #[{ on := 36, ground := Go.Ground.chain }, { on := 36, ground := Go.Ground.guard }], guard := some (36, true) }) rfl (fun K hK => ?_) AllReadyH.nil
  rw [if_pos (by rfl)]
  go_wp2_with fail
  refine Calls.mono (hsz _) ?_
  rintro e w1 ⟨rfl, rfl⟩
  refine hK.out _ _ hHeld (fun _ => ?_)
  clear hK K
  try simp only [Act.put, List.setIfInBounds_toArray, List.set_cons_zero, List.set_cons_succ]
  refine wpAnyH_take (i := 40) (oi := { dst := some 68, op := Go.Op.binOp Go.BinOp.eql 3 (Go.Operand.tmp 66) (Go.Operand.tmp 67) 3, type := 4, pos := _, after := #[{ on := 38, ground := Go.Ground.data }, { on := 39, ground := Go.Ground.data }, { on := 36, ground := Go.Ground.guard }], guard := some (36, true) }) (v := .bool true) rfl (by kernel_rfl) (by kernel_rfl) (by kernel_rfl) (fun _ _ _ h => h) (Or.inl ⟨by rfl, fun w' hw' => ?_⟩) hHeld ?_
  · first | (go_simp; done) | (go_simp; rfl)
  try simp only [Act.put, List.setIfInBounds_toArray, List.set_cons_zero, List.set_cons_succ]
  refine wpAnyH_take (i := 41) (oi := { dst := some 69, op := Go.Op.pick (Go.Operand.tmp 64) (Go.Operand.tmp 68) (Go.Operand.const (Go.Value.bool false)), type := 4, pos := _, after := #[{ on := 36, ground := Go.Ground.data }, { on := 40, ground := Go.Ground.data }], guard := none }) (v := .bool true) rfl (by kernel_rfl) (by kernel_rfl) (by kernel_rfl) (fun _ _ _ h => h) (Or.inl ⟨by rfl, fun w' hw' => ?_⟩) hHeld ?_
  · first | (go_simp; done) | (go_simp; rfl)
  try simp only [Act.put, List.setIfInBounds_toArray, List.set_cons_zero, List.set_cons_succ]
  refine wpAnyH_take (i := 42) (oi := { dst := some 4, op := Go.Op.assign (Go.Operand.tmp 69), type := 4, pos := _, after := #[{ on := 41, ground := Go.Ground.data }, { on := 39, ground := Go.Ground.chain }, { on := 0, ground := Go.Ground.phase }, { on := 1, ground := Go.Ground.phase }, { on := 2, ground := Go.Ground.phase }, { on := 3, ground := Go.Ground.phase }, { on := 4, ground := Go.Ground.phase }, { on := 5, ground := Go.Ground.phase }, { on := 6, ground := Go.Ground.phase }, { on := 7, ground := Go.Ground.phase }, { on := 8, ground := Go.Ground.phase }, { on := 9, ground := Go.Ground.phase }, { on := 10, ground := Go.Ground.phase }, { on := 11, ground := Go.Ground.phase }, { on := 12, ground := Go.Ground.phase }, { on := 13, ground := Go.Ground.phase }, { on := 14, ground := Go.Ground.phase }, { on := 15, ground := Go.Ground.phase }, { on := 16, ground := Go.Ground.phase }, { on := 17, ground := Go.Ground.phase }, { on := 18, ground := Go.Ground.phase }, { on := 19, ground := Go.Ground.phase }, { on := 20, ground := Go.Ground.phase }, { on := 21, ground := Go.Ground.phase }, { on := 22, ground := Go.Ground.phase }, { on := 23, ground := Go.Ground.phase }, { on := 24, ground := Go.Ground.phase }, { on := 25, ground := Go.Ground.phase }, { on := 26, ground := Go.Ground.phase }, { on := 27, ground := Go.Ground.phase }, { on := 28, ground := Go.Ground.phase }, { on := 29, ground := Go.Ground.phase }, { on := 30, ground := Go.Ground.phase }, { on := 31, ground := Go.Ground.phase }, { on := 32, ground := Go.Ground.phase }, { on := 33, ground := Go.Ground.phase }, { on := 34, ground := Go.Ground.phase }, { on := 35, ground := Go.Ground.phase }, { on := 36, ground := Go.Ground.phase }, { on := 37, ground := Go.Ground.phase }, { on := 38, ground := Go.Ground.phase }, { on := 39, ground := Go.Ground.phase }, { on := 40, ground := Go.Ground.phase }, { on := 41, ground := Go.Ground.phase }], guard := none }) (v := .bool true) rfl (by kernel_rfl) (by kernel_rfl) (by kernel_rfl) (fun _ _ _ h => h) (Or.inl ⟨by rfl, fun w' hw' => ?_⟩) hHeld ?_
  · first | (go_simp; done) | (go_simp; rfl)
  try simp only [Act.put, List.setIfInBounds_toArray, List.set_cons_zero, List.set_cons_succ]
  refine wpAnyH_done (by kernel_rfl) ?_ _
  have HRX : Hid _ := hHeld
  clear hHeld
  go_wp2
  go_ret
  exact ⟨rfl, HRX.out.bel⟩
set_option maxRecDepth 100000 in
theorem lifted (os : Os) (started : os.Started) (H : Type) (enc : TypeId × Value → H) :
    ReturnsInHanded {} Tryd.checked os 5 .any (fun w args => (Rows.reportBackSpec.pre enc Tryd.prog Tryd.f5 [] false w args ∧ laidMetH Tryd.prog Rows.reportBackRow.laid w) ∧ sizedMet enc Tryd.prog Tryd.f5 (OpenSpec.ofChange Rows.reportBackSpec) false w args) (Rows.reportBackSpec.post enc Tryd.prog Tryd.f5 false true false false) := by
  refine returnsInHanded_of_change_and (C := Tryd.checked) (X := fun w _ => laidMetH Tryd.prog Rows.reportBackRow.laid w) (fun _ _ _ hh h => h.of_heap hh) own started (by kernel_rfl) Tryd.func5
    (ChangeSpec.witness_shaped (enc := enc) (C := Tryd.checked) (os := os) (X := fun w _ => laidMetH Tryd.prog Rows.reportBackRow.laid w) false (World.doorLaid Tryd.prog 400 os) #[.agg (#[.int .u64 0] ++ Array.replicate 64 (.int .u8 0)), .agg (#[.int .u64 0] ++ Array.replicate 64 (.int .u8 0))] 8 rfl (World.shaped_of_RefB (by kernel_rfl) (by kernel_rfl)) (by kernel_rfl) (by kernel_rfl) (by kernel_rfl) (door_met os _)) ?_
  intro W base args ds gs before hval0 hW hcnd _ hL _
  have hval : ∀ (j : Nat) t v, Tryd.f5.params[j]? = some t → args[j]? = some v → Value.okWide Tryd.prog W .any base t v := hval0
  have hW' := hW
  obtain ⟨p, q, hA0, hV, rfl, hfz, hnd⟩ := hW
  have hA : DataW.TrodAll enc Tryd.prog W 0 (fun _ => true) true Tryd.f5.params.toList args.toList ds p := hA0
  rw [Tryd.params5] at hA hval
  obtain ⟨v0, vs0, d0, ds0, p0, q0, hargs, rfl, rfl, h0, r0⟩ := trodAll_cons hA
  obtain ⟨v1, vs1, d1, ds1, p1, q1, rfl, rfl, rfl, h1, r1⟩ := trodAll_cons r0
  obtain ⟨rfl, rfl, rfl⟩ := trodAll_nil r1
  obtain rfl : args = #[v0, v1] := by cases args; simp_all
  obtain ⟨rfl, rfl⟩ := trodVars_none hV
  have k0 := h0
  have lt0 : ∀ x ∈ p0, x.block < W.heap.size := by obtain ⟨m, hm⟩ := k0; exact DataW.trod_lt m _ _ _ hm
  obtain ⟨xs0, rfl⟩ := RB.okWide_str Tryd.underlying26 (hval 0 26 v0 rfl rfl)
  obtain ⟨R0, rfl, hl0⟩ : ∃ r : RB.Rp, xs0 = (RB.rL r).toArray ∧ r.ok := by obtain ⟨fuel, hf⟩ := h0; obtain ⟨s, e, h1⟩ := RB.open_rp hf; exact ⟨s, by rw [← Array.toList_inj]; exact e, h1⟩
  have k1 := h1
  have lt1 : ∀ x ∈ p1, x.block < W.heap.size := by obtain ⟨m, hm⟩ := k1; exact DataW.trod_lt m _ _ _ hm
  obtain ⟨xs1, rfl⟩ := RB.okWide_str Tryd.underlying26 (hval 1 26 v1 rfl rfl)
  obtain ⟨R1, rfl, hl1⟩ : ∃ r : RB.Rp, xs1 = (RB.rL r).toArray ∧ r.ok := by obtain ⟨fuel, hf⟩ := h1; obtain ⟨s, e, h1⟩ := RB.open_rp hf; exact ⟨s, by rw [← Array.toList_inj]; exact e, h1⟩
  clear hA0 hval0
  refine (walk R0 R1 W hl0 hl1 (of_laid hL)).mono fun e W' ⟨he, bel⟩ => ?_
  subst he
  exact ⟨_, rfl, _, _, _, [], _, [], hW', trodAll_mk1 (shut_bool Tryd.underlying4 _), (trodAll_cons_mk (Below.trod laidOut (by kernel_rfl) (of_decide_eq_true (by kernel_rfl)) k0 bel lt0) (trodAll_cons_mk (Below.trod laidOut (by kernel_rfl) (of_decide_eq_true (by kernel_rfl)) k1 bel lt1) trodAll_mk0)), rfl, bel.frame _, fun h => by cases h⟩

theorem over : Rows.reportBackRow.holds Tryd.pinned (OpenSpec.ofChange Rows.reportBackSpec) :=
  OpenClaim.holds_of_wide 5 Tryd.f5 rfl rfl rfl rfl rfl rfl rfl ⟨rfl, rfl, rfl, rfl, rfl⟩ rfl rfl rfl rfl rfl (by kernel_rfl) Tryd.func5 (by kernel_rfl)
    (of_decide_eq_true (by kernel_rfl)) (by unfold Func.isWrapper; first | (rw [if_pos (by decide +kernel)]; kernel_rfl) | (rw [if_neg (by decide +kernel)]; exact ⟨rfl, rfl⟩))
    (fun os started H enc _ => lifted os started H enc)

theorem card : Rows.ReportBackCardSaid :=
  Claim7.holds_tied_plain_at .later [] Rows.reportBackCard.laidKinds true Rows.reportBackCard.stood.harness Rows.reportBackCard.stood.looks
    over (fun _ h => by cases h) (by kernel_rfl) (fun _ h => by cases h) reportBack_row_tie rfl ⟨rfl, rfl⟩ (by kernel_rfl) rfl
    (fun f fn hf hfn => by
      obtain rfl : f = 5 := Option.some.inj ((show Tryd.prog.funcNamed Rows.reportBackRow.func = some 5 by kernel_rfl).symm.trans hf) |>.symm
      obtain rfl : fn = Tryd.f5 := (Option.some.inj (Tryd.func5.symm.trans hfn)).symm
      exact ⟨by kernel_rfl, fun j t ht => by
        rw [Tryd.params5] at ht
        have hm : t ∈ [26, 26] := by simpa using Array.mem_of_getElem? ht
        have hall : ([26, 26].all fun u => !Tryd.prog.wantsStandIn u) = true := by kernel_rfl
        exact (show Tryd.prog.wantsStandIn t = false by simpa using List.all_eq_true.1 hall t hm)⟩)
    (by kernel_rfl)
end Go.Proofs.YtpklboicgjpmeaaDoor.reportBack
namespace Go.Proofs.YtpklboicgjpmeaaDoor
theorem reportBack_holds : Rows.ReportBackCardSaid := reportBack.card
#print axioms reportBack_holds
end Go.Proofs.YtpklboicgjpmeaaDoor
