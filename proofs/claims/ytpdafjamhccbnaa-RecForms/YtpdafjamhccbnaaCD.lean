/- rec: contract of Leave. -/
import Derived.Test.YtpdafjamhccbnaaCB
set_option linter.unusedVariables false
set_option linter.unusedSimpArgs false
namespace Go.Proofs.Ytpdafjamhccbnaa.VC
open Go.RowKit

theorem run_stW (w : World) (b k : Nat) (OL : List Value) (t : TypeId) (hrow : w.heap[b]? = some (.cells OL.toArray t (0, 0))) (hk : k < OL.length) (x : Int) : (Instr.storeAt 26 (.pointer (some ⟨b, k, none⟩)) (.int .i64 x)).run Try.prog w = .ok () (w.setCell ⟨b, k, none⟩ (.int .i64 x)) := by
  have hc := fields5 _ _ _ _ _ hrow k
  rw [List.getElem?_toArray, List.getElem?_eq_getElem hk] at hc
  have hf := frozen_of_row _ _ k _ _ hrow
  generalize OL[k] = ov at *
  unfold Instr.storeAt Instr.sureAddr
  go_simp
theorem wp_stW {o : Oper} {a : Act} {w : World} {K : Act → World → Prop} {Q : Exit → Act → World → Prop} (x y : Operand) (ho : o.op = .store 26 x y)
    (b k : Nat) (v : Int) (hx : a.eval x = .pointer (some ⟨b, k, none⟩)) (hy : a.eval y = .int .i64 v) (OL : List Value) (t : TypeId) (hrow : w.heap[b]? = some (.cells OL.toArray t (0, 0))) (hk : k < OL.length)
    (h : K (a.put o.dst undef) (w.setCell ⟨b, k, none⟩ (.int .i64 v))) : o.wp Try.prog a w K Q := by
  unfold Oper.wp execOp
  simp only [ho, hx, hy, Sem.run_bind, run_stW w b k OL t hrow hk v, Result.andThen_ok]
  exact h
theorem wpList_stW {ops : Array Oper} {rest : List Oper} {o : Oper} {a : Act} {w : World} {Q : Exit → Act → World → Prop} (hgd : o.guard = none) (x y : Operand) (ho : o.op = .store 26 x y)
    (b k : Nat) (v : Int) (hx : a.eval x = .pointer (some ⟨b, k, none⟩)) (hy : a.eval y = .int .i64 v) (OL : List Value) (t : TypeId) (hrow : w.heap[b]? = some (.cells OL.toArray t (0, 0))) (hk : k < OL.length)
    (h : ∀ W', W' = w.setCell ⟨b, k, none⟩ (.int .i64 v) → wpList Try.prog ops Q rest (a.put o.dst undef) W') : wpList Try.prog ops Q (o :: rest) a w :=
  wpList_plain hgd fun _ hK => wp_stW x y ho b k v hx hy OL t hrow hk (hK _ _ (h _ rfl))
theorem run_stU (w : World) (b k : Nat) (OL : List Value) (t : TypeId) (hrow : w.heap[b]? = some (.cells OL.toArray t (0, 0))) (hk : k < OL.length) (x : Int) : (Instr.storeAt 22 (.pointer (some ⟨b, k, none⟩)) (.int .u64 x)).run Try.prog w = .ok () (w.setCell ⟨b, k, none⟩ (.int .u64 x)) := by
  have hc := fields5 _ _ _ _ _ hrow k
  rw [List.getElem?_toArray, List.getElem?_eq_getElem hk] at hc
  have hf := frozen_of_row _ _ k _ _ hrow
  generalize OL[k] = ov at *
  unfold Instr.storeAt Instr.sureAddr
  go_simp
theorem wp_stU {o : Oper} {a : Act} {w : World} {K : Act → World → Prop} {Q : Exit → Act → World → Prop} (x y : Operand) (ho : o.op = .store 22 x y)
    (b k : Nat) (v : Int) (hx : a.eval x = .pointer (some ⟨b, k, none⟩)) (hy : a.eval y = .int .u64 v) (OL : List Value) (t : TypeId) (hrow : w.heap[b]? = some (.cells OL.toArray t (0, 0))) (hk : k < OL.length)
    (h : K (a.put o.dst undef) (w.setCell ⟨b, k, none⟩ (.int .u64 v))) : o.wp Try.prog a w K Q := by
  unfold Oper.wp execOp
  simp only [ho, hx, hy, Sem.run_bind, run_stU w b k OL t hrow hk v, Result.andThen_ok]
  exact h
theorem wpList_stU {ops : Array Oper} {rest : List Oper} {o : Oper} {a : Act} {w : World} {Q : Exit → Act → World → Prop} (hgd : o.guard = none) (x y : Operand) (ho : o.op = .store 22 x y)
    (b k : Nat) (v : Int) (hx : a.eval x = .pointer (some ⟨b, k, none⟩)) (hy : a.eval y = .int .u64 v) (OL : List Value) (t : TypeId) (hrow : w.heap[b]? = some (.cells OL.toArray t (0, 0))) (hk : k < OL.length)
    (h : ∀ W', W' = w.setCell ⟨b, k, none⟩ (.int .u64 v) → wpList Try.prog ops Q rest (a.put o.dst undef) W') : wpList Try.prog ops Q (o :: rest) a w :=
  wpList_plain hgd fun _ hK => wp_stU x y ho b k v hx hy OL t hrow hk (hK _ _ (h _ rfl))
theorem run_stB (w : World) (b k : Nat) (OL : List Value) (t : TypeId) (hrow : w.heap[b]? = some (.cells OL.toArray t (0, 0))) (hk : k < OL.length) (x : Int) : (Instr.storeAt 5 (.pointer (some ⟨b, k, none⟩)) (.int .u8 x)).run Try.prog w = .ok () (w.setCell ⟨b, k, none⟩ (.int .u8 x)) := by
  have hc := fields5 _ _ _ _ _ hrow k
  rw [List.getElem?_toArray, List.getElem?_eq_getElem hk] at hc
  have hf := frozen_of_row _ _ k _ _ hrow
  generalize OL[k] = ov at *
  unfold Instr.storeAt Instr.sureAddr
  go_simp
theorem wp_stB {o : Oper} {a : Act} {w : World} {K : Act → World → Prop} {Q : Exit → Act → World → Prop} (x y : Operand) (ho : o.op = .store 5 x y)
    (b k : Nat) (v : Int) (hx : a.eval x = .pointer (some ⟨b, k, none⟩)) (hy : a.eval y = .int .u8 v) (OL : List Value) (t : TypeId) (hrow : w.heap[b]? = some (.cells OL.toArray t (0, 0))) (hk : k < OL.length)
    (h : K (a.put o.dst undef) (w.setCell ⟨b, k, none⟩ (.int .u8 v))) : o.wp Try.prog a w K Q := by
  unfold Oper.wp execOp
  simp only [ho, hx, hy, Sem.run_bind, run_stB w b k OL t hrow hk v, Result.andThen_ok]
  exact h
theorem wpList_stB {ops : Array Oper} {rest : List Oper} {o : Oper} {a : Act} {w : World} {Q : Exit → Act → World → Prop} (hgd : o.guard = none) (x y : Operand) (ho : o.op = .store 5 x y)
    (b k : Nat) (v : Int) (hx : a.eval x = .pointer (some ⟨b, k, none⟩)) (hy : a.eval y = .int .u8 v) (OL : List Value) (t : TypeId) (hrow : w.heap[b]? = some (.cells OL.toArray t (0, 0))) (hk : k < OL.length)
    (h : ∀ W', W' = w.setCell ⟨b, k, none⟩ (.int .u8 v) → wpList Try.prog ops Q rest (a.put o.dst undef) W') : wpList Try.prog ops Q (o :: rest) a w :=
  wpList_plain hgd fun _ hK => wp_stB x y ho b k v hx hy OL t hrow hk (hK _ _ (h _ rfl))

theorem below_drew (w : World) : Below w.heap.size w w.drew := ⟨rfl, rfl, rfl, Nat.le_refl _, fun _ _ => rfl⟩
def lvOk (o : Ot) : Bool := isRe o.re && decide (0 ≤ o.ran)
def lvR (r : Rc) (rs : List Int) (pc : Int) (o : Ot) : Rc := ⟨r.rd, r.ins, rs, pc, r.rn, wtOf o.re⟩
theorem oL_re (o : Ot) : (oL o)[0]? = some (.int .i64 o.re) := rfl
theorem oL_ran {o : Ot} (h : o.ns.length = 4) : (oL o)[7]? = some (.int .i64 o.ran) := by
  obtain ⟨a, b, c, d, hk⟩ := four h
  unfold oL; rw [hk]; rfl
theorem oL_ad {o : Ot} (h : o.ns.length = 4) : (oL o)[5]? = some (.int .u64 o.ad) := by
  obtain ⟨a, b, c, d, hk⟩ := four h
  unfold oL; rw [hk]; rfl
theorem oL_wr {o : Ot} (h : o.ns.length = 4) : (oL o)[6]? = some (.bool o.wr) := by
  obtain ⟨a, b, c, d, hk⟩ := four h
  unfold oL; rw [hk]; rfl
theorem oL_ns {o : Ot} (h : o.ns.length = 4) : ((oL o).drop 1).take 4 = o.ns.map U := by
  obtain ⟨a, b, c, d, hk⟩ := four h
  unfold oL; rw [hk]; rfl
theorem info8o (L : List Value) (h : L.length = 8) : (Try.prog.info? 40).map (·.size) = some L.length := by rw [h]; kernel_rfl
theorem info9a (L : List Value) (h : L.length = 9) : (Try.prog.info? 25).map (·.size) = some L.toArray.size := by rw [List.size_toArray, h]; kernel_rfl
theorem cL_one (rs : List Int) (pc : Int) : (cL rs pc).toArray.all (·.oneCell') = true := by
  refine onea fun u hu => ?_
  unfold cL at hu
  rcases List.mem_append.1 hu with h | h
  · exact U_one _ _ h
  · rw [List.mem_singleton] at h; subst h; rfl
theorem lv_seg (r : Rc) (rs : List Int) (pc : Int) (o : Ot) (h : r.rs.length = 8) (h2 : rs.length = 8) : (splice (rL r) 2 (cL rs pc)).set 12 (.int .i64 (wtOf o.re)) = rL (lvR r rs pc o) := by
  obtain ⟨a, b, c, d, e, f, g, k, hk⟩ := eight h
  obtain ⟨a', b', c', d', e', f', g', k', rfl⟩ := eight h2
  unfold rL lvR; rw [hk]; rfl
theorem seg_len (r : Rc) (rs : List Int) (pc : Int) (h : r.rs.length = 8) (h2 : rs.length = 8) : (splice (rL r) 2 (cL rs pc)).length = 13 := by
  rw [splice_len _ _ _ (by rw [cL_len h2, rL_len h]; decide)]; exact rL_len h
set_option maxHeartbeats 2000000 in
set_option maxRecDepth 100000 in
theorem leave_any (r : Rc) (rs : List Int) (pc : Int) (o : Ot) (h : r.rs.length = 8) (h2 : rs.length = 8) (h3 : o.ns.length = 4) (hre : (Lit.int .i64 o.re).wf = true) (w : World) :
    Calls Try.prog 11 #[.agg (rL r).toArray, .agg (cL rs pc).toArray, .agg (oL o).toArray] w fun e w' => e = .returned (.tuple #[.agg (rL (if lvOk o = true then lvR r rs pc o else r0)).toArray, .int .i64 (if lvOk o = true then 0 else 2)]) ∧ Below w.heap.size w w' := by
  have hz := zero13
  have HB0 : Hid _ := bld13
  obtain ⟨ZL, hZL⟩ : ∃ L, L = rL r0 := ⟨_, rfl⟩
  have HZN : Hid (ZL.length = 13) := by rw [hZL]; rfl
  have HZ1 : Hid (ZL.toArray.all (·.oneCell') = true) := by show _ = _; rw [hZL]; exact rL_one r0
  rw [← hZL] at hz HB0
  have HR : Hid _ := ((((RS.start w).alloc _ rfl 28 (rL r)).alloc (w.heap.size + 1) (by simp) 25 (cL rs pc)).alloc (w.heap.size + 1 + 1) (by simp) 40 (oL o)).alloc (w.heap.size + 1 + 1 + 1) (by simp) 28 ZL
  have HO0 : Hid _ := oL_re o
  have HO7 : Hid _ := oL_ran h3
  have HRE : Hid _ := hre
  obtain ⟨wt, hwt⟩ : ∃ x, wtOf o.re = x := ⟨_, rfl⟩
  obtain ⟨IS, his⟩ : ∃ x, isRe o.re = x := ⟨_, rfl⟩
  have HWT : Hid _ := hwt
  have HIS : Hid _ := his
  have HSEG : Hid ((splice (rL r) 2 (cL rs pc)).set 12 (.int .i64 wt) = rL (lvR r rs pc o)) := by rw [← hwt]; exact lv_seg r rs pc o h h2
  have HSL : Hid _ := seg_len r rs pc h h2
  have HCL : Hid _ := cL_len (pc := pc) h2
  have HC1 : Hid _ := cL_one rs pc
  have HRL : Hid _ := rL_len h
  have HNL : Hid _ := rL_len (r := lvR r rs pc o) h2
  have HN1 : Hid _ := rL_one (lvR r rs pc o)
  have HOK : Hid (lvOk o = (IS && decide (0 ≤ o.ran))) := by show _ = _; unfold lvOk; rw [his]
  have HFIN : Hid (∀ b, lvOk o = b → (.tuple #[.agg (rL (if lvOk o = true then lvR r rs pc o else r0)).toArray, .int .i64 (if lvOk o = true then 0 else 2)] : Value) = if b = true then .tuple #[.agg (rL (lvR r rs pc o)).toArray, .int .i64 0] else .tuple #[.agg ZL.toArray, .int .i64 2]) := by
    intro b hb; rw [hb, hZL]; cases b <;> rfl
  generalize (.tuple #[.agg (rL (if lvOk o = true then lvR r rs pc o else r0)).toArray, .int .i64 (if lvOk o = true then 0 else 2)] : Value) = RV at *
  generalize lvOk o = OK at *
  generalize rL (lvR r rs pc o) = NL at *
  obtain ⟨SL, hSL⟩ : ∃ L, splice (rL r) 2 (cL rs pc) = L := ⟨_, rfl⟩
  have HSP : Hid (splice (rL r) 2 (cL rs pc).toArray.toList = SL) := hSL
  rw [hSL] at HSEG HSL
  clear hSL
  generalize hs : rL r = RL at *
  generalize cL rs pc = CL at *
  generalize oL o = OL at *
  generalize o.re = re at *
  generalize o.ran = ran at *
  clear hs hZL h h2 h3 hre hwt his
  cases IS
  · skip
    go_enter Try.func11, Try.ntmps11
    go_wp2_with fail
    refine wp_region_held_drew (S := fun X => RS w [(w.heap.size + 1 + 1 + 1, 28, ZL), (w.heap.size + 1 + 1, 40, OL), (w.heap.size + 1, 25, CL), (w.heap.size, 28, RL)] X) (by kernel_rfl) (HR.out.step (below_drew _)) (fun hHeld => ?_)
    clear HR
    refine wpAnyH_take (i := 1) (oi := { dst := some 12, op := Go.Op.fieldAddr 40 (Go.Operand.tmp 5) 0, type := 0, pos := _, after := #[], guard := none }) (v := .pointer (some ⟨w.heap.size + 1 + 1, 0, none⟩)) rfl (by kernel_rfl) (by kernel_rfl) (by kernel_rfl) (fun _ _ _ h => h) (Or.inl ⟨by rfl, fun w' hw' => ?_⟩) hHeld ?_
    · first | (go_simp; done) | (go_simp; rfl)
    try simp only [Act.put, List.setIfInBounds_toArray, List.set_cons_zero, List.set_cons_succ]
    refine wpAnyH_take (i := 2) (oi := { dst := some 13, op := Go.Op.load 38 (Go.Operand.tmp 12), type := 38, pos := _, after := #[{ on := 1, ground := Go.Ground.data }], guard := none }) (v := .int .i64 re) rfl (by kernel_rfl) (by kernel_rfl) (by kernel_rfl) (fun _ _ _ h => h) (Or.inl ⟨by rfl, fun w' hw' => ?_⟩) hHeld ?_
    · have hcc := hw'.cell 1 rfl 0 HO0.out; first | (go_simp; done) | (go_simp; rfl)
    try simp only [Act.put, List.setIfInBounds_toArray, List.set_cons_zero, List.set_cons_succ]
    refine wpAnyH_ready (rs := [0]) (by kernel_rfl) (by simp) ?_
    refine AllReadyH.cons (o := { dst := some 11, op := Go.Op.call { callee := Go.Callee.value (Go.Operand.func 21), args := #[], argTypes := #[] }, type := 66, pos := _, after := #[], guard := none }) rfl (fun K hK => ?_) AllReadyH.nil
    rw [if_pos (by rfl)]
    go_wp2_with fail
    refine Calls.mono (waits_any _) ?_
    rintro e w4 ⟨mb, rfl, hM, hb4⟩
    replace hHeld := hHeld.step hb4
    have hlk := mj_look hM re HRE.out
    rw [HIS.out, HWT.out] at hlk
    clear hM hb4
    refine hK.out _ _ hHeld (fun _ => ?_)
    clear hK K
    try simp only [Act.put, List.setIfInBounds_toArray, List.set_cons_zero, List.set_cons_succ]
    refine wpAnyH_ready (rs := [3]) (by kernel_rfl) (by simp) ?_
    refine AllReadyH.cons (o := { dst := some 14, op := Go.Op.lookup 66 (Go.Operand.tmp 11) (Go.Operand.tmp 13) true, type := 65, pos := _, after := #[{ on := 0, ground := Go.Ground.data }, { on := 2, ground := Go.Ground.data }], guard := none }) rfl (fun K hK => ?_) AllReadyH.nil
    rw [if_pos (by rfl)]
    go_wp2_with fail
    refine hK.out _ _ hHeld (fun _ => ?_)
    clear hK K
    try simp only [Act.put, List.setIfInBounds_toArray, List.set_cons_zero, List.set_cons_succ]
    clear hlk
    refine wpAnyH_take (i := 4) (oi := { dst := some 10, op := Go.Op.move (Go.Operand.tmp 14), type := 65, pos := _, after := #[{ on := 3, ground := Go.Ground.data }], guard := none }) (v := .tuple #[.int .i64 wt, .bool false]) rfl (by kernel_rfl) (by kernel_rfl) (by kernel_rfl) (fun _ _ _ h => h) (Or.inl ⟨by rfl, fun w' hw' => ?_⟩) hHeld ?_
    · first | (go_simp; done) | (go_simp; rfl)
    try simp only [Act.put, List.setIfInBounds_toArray, List.set_cons_zero, List.set_cons_succ]
    refine wpAnyH_take (i := 5) (oi := { dst := some 15, op := Go.Op.extract (Go.Operand.tmp 10) 0, type := 26, pos := _, after := #[{ on := 4, ground := Go.Ground.data }], guard := none }) (v := .int .i64 wt) rfl (by kernel_rfl) (by kernel_rfl) (by kernel_rfl) (fun _ _ _ h => h) (Or.inl ⟨by rfl, fun w' hw' => ?_⟩) hHeld ?_
    · first | (go_simp; done) | (go_simp; rfl)
    try simp only [Act.put, List.setIfInBounds_toArray, List.set_cons_zero, List.set_cons_succ]
    refine wpAnyH_take (i := 6) (oi := { dst := some 16, op := Go.Op.extract (Go.Operand.tmp 10) 1, type := 4, pos := _, after := #[{ on := 4, ground := Go.Ground.data }, { on := 7, ground := Go.Ground.gcOnly Go.Departure.lateStores }], guard := none }) (v := .bool false) rfl (by kernel_rfl) (by kernel_rfl) (by kernel_rfl) (fun _ _ _ h => h) (Or.inl ⟨by rfl, fun w' hw' => ?_⟩) hHeld ?_
    · first | (go_simp; done) | (go_simp; rfl)
    try simp only [Act.put, List.setIfInBounds_toArray, List.set_cons_zero, List.set_cons_succ]
    refine wpAnyH_take (i := 7) (oi := { dst := some 8, op := Go.Op.assign (Go.Operand.tmp 15), type := 26, pos := _, after := #[{ on := 5, ground := Go.Ground.data }, { on := 0, ground := Go.Ground.chain }, { on := 0, ground := Go.Ground.phase }, { on := 1, ground := Go.Ground.phase }, { on := 2, ground := Go.Ground.phase }, { on := 3, ground := Go.Ground.phase }, { on := 4, ground := Go.Ground.phase }, { on := 5, ground := Go.Ground.phase }, { on := 6, ground := Go.Ground.textOnly Go.Departure.lateStores }], guard := none }) (v := .int .i64 wt) rfl (by kernel_rfl) (by kernel_rfl) (by kernel_rfl) (fun _ _ _ h => h) (Or.inl ⟨by rfl, fun w' hw' => ?_⟩) hHeld ?_
    · first | (go_simp; done) | (go_simp; rfl)
    try simp only [Act.put, List.setIfInBounds_toArray, List.set_cons_zero, List.set_cons_succ]
    refine wpAnyH_take (i := 8) (oi := { dst := some 9, op := Go.Op.assign (Go.Operand.tmp 16), type := 4, pos := _, after := #[{ on := 6, ground := Go.Ground.data }, { on := 7, ground := Go.Ground.chain }, { on := 0, ground := Go.Ground.phase }, { on := 1, ground := Go.Ground.phase }, { on := 2, ground := Go.Ground.phase }, { on := 3, ground := Go.Ground.phase }, { on := 4, ground := Go.Ground.phase }, { on := 5, ground := Go.Ground.phase }, { on := 6, ground := Go.Ground.phase }, { on := 7, ground := Go.Ground.phase }], guard := none }) (v := .bool false) rfl (by kernel_rfl) (by kernel_rfl) (by kernel_rfl) (fun _ _ _ h => h) (Or.inl ⟨by rfl, fun w' hw' => ?_⟩) hHeld ?_
    · first | (go_simp; done) | (go_simp; rfl)
    try simp only [Act.put, List.setIfInBounds_toArray, List.set_cons_zero, List.set_cons_succ]
    refine wpAnyH_done (by kernel_rfl) ?_ _
    have HR4 : Hid _ := hHeld
    clear hHeld
    go_wp2_with (first
      | (refine build_g (by rfl) 28 #[] rfl #[] (.agg ZL.toArray) (by simp [Act.eval]) (HB0.out _) ?_)
      | (refine wpList_store_row rfl 28 (.tmp 6) (.tmp 24) rfl (w.heap.size + 1 + 1 + 1) ZL.toArray rfl rfl 28 ZL.toArray (HR4.out.at 0 rfl) (info13a ZL HZN.out) rfl HZ1.out ?_))
    have R5 := HR4.out.put 0 rfl ZL
    refine bodyPost_ret (v := .tuple #[.agg ZL.toArray, .int .i64 2]) (results2 Try.results11 _ _ (w.heap.size + 1 + 1 + 1) _ ZL _ _ rfl rfl (R5.at 0 rfl) Try.underlying28 rfl (info13 ZL HZN.out)) rfl ⟨by rw [HFIN.out false HOK.out]; rfl, R5.bel⟩
  · by_cases hran : ran < 0
    · have hd : decide (ran < 0) = true := decide_eq_true hran
      have HOK2 : Hid (OK = false) := by show _ = _; rw [HOK.out]; simp; omega
      clear HOK hran
      go_enter Try.func11, Try.ntmps11
      go_wp2_with fail
      refine wp_region_held_drew (S := fun X => RS w [(w.heap.size + 1 + 1 + 1, 28, ZL), (w.heap.size + 1 + 1, 40, OL), (w.heap.size + 1, 25, CL), (w.heap.size, 28, RL)] X) (by kernel_rfl) (HR.out.step (below_drew _)) (fun hHeld => ?_)
      clear HR
      refine wpAnyH_take (i := 1) (oi := { dst := some 12, op := Go.Op.fieldAddr 40 (Go.Operand.tmp 5) 0, type := 0, pos := _, after := #[], guard := none }) (v := .pointer (some ⟨w.heap.size + 1 + 1, 0, none⟩)) rfl (by kernel_rfl) (by kernel_rfl) (by kernel_rfl) (fun _ _ _ h => h) (Or.inl ⟨by rfl, fun w' hw' => ?_⟩) hHeld ?_
      · first | (go_simp; done) | (go_simp; rfl)
      try simp only [Act.put, List.setIfInBounds_toArray, List.set_cons_zero, List.set_cons_succ]
      refine wpAnyH_take (i := 2) (oi := { dst := some 13, op := Go.Op.load 38 (Go.Operand.tmp 12), type := 38, pos := _, after := #[{ on := 1, ground := Go.Ground.data }], guard := none }) (v := .int .i64 re) rfl (by kernel_rfl) (by kernel_rfl) (by kernel_rfl) (fun _ _ _ h => h) (Or.inl ⟨by rfl, fun w' hw' => ?_⟩) hHeld ?_
      · have hcc := hw'.cell 1 rfl 0 HO0.out; first | (go_simp; done) | (go_simp; rfl)
      try simp only [Act.put, List.setIfInBounds_toArray, List.set_cons_zero, List.set_cons_succ]
      refine wpAnyH_ready (rs := [0]) (by kernel_rfl) (by simp) ?_
      refine AllReadyH.cons (o := { dst := some 11, op := Go.Op.call { callee := Go.Callee.value (Go.Operand.func 21), args := #[], argTypes := #[] }, type := 66, pos := _, after := #[], guard := none }) rfl (fun K hK => ?_) AllReadyH.nil
      rw [if_pos (by rfl)]
      go_wp2_with fail
      refine Calls.mono (waits_any _) ?_
      rintro e w4 ⟨mb, rfl, hM, hb4⟩
      replace hHeld := hHeld.step hb4
      have hlk := mj_look hM re HRE.out
      rw [HIS.out, HWT.out] at hlk
      clear hM hb4
      refine hK.out _ _ hHeld (fun _ => ?_)
      clear hK K
      try simp only [Act.put, List.setIfInBounds_toArray, List.set_cons_zero, List.set_cons_succ]
      refine wpAnyH_ready (rs := [3]) (by kernel_rfl) (by simp) ?_
      refine AllReadyH.cons (o := { dst := some 14, op := Go.Op.lookup 66 (Go.Operand.tmp 11) (Go.Operand.tmp 13) true, type := 65, pos := _, after := #[{ on := 0, ground := Go.Ground.data }, { on := 2, ground := Go.Ground.data }], guard := none }) rfl (fun K hK => ?_) AllReadyH.nil
      rw [if_pos (by rfl)]
      go_wp2_with fail
      refine hK.out _ _ hHeld (fun _ => ?_)
      clear hK K
      try simp only [Act.put, List.setIfInBounds_toArray, List.set_cons_zero, List.set_cons_succ]
      clear hlk
      refine wpAnyH_take (i := 4) (oi := { dst := some 10, op := Go.Op.move (Go.Operand.tmp 14), type := 65, pos := _, after := #[{ on := 3, ground := Go.Ground.data }], guard := none }) (v := .tuple #[.int .i64 wt, .bool true]) rfl (by kernel_rfl) (by kernel_rfl) (by kernel_rfl) (fun _ _ _ h => h) (Or.inl ⟨by rfl, fun w' hw' => ?_⟩) hHeld ?_
      · first | (go_simp; done) | (go_simp; rfl)
      try simp only [Act.put, List.setIfInBounds_toArray, List.set_cons_zero, List.set_cons_succ]
      refine wpAnyH_take (i := 5) (oi := { dst := some 15, op := Go.Op.extract (Go.Operand.tmp 10) 0, type := 26, pos := _, after := #[{ on := 4, ground := Go.Ground.data }], guard := none }) (v := .int .i64 wt) rfl (by kernel_rfl) (by kernel_rfl) (by kernel_rfl) (fun _ _ _ h => h) (Or.inl ⟨by rfl, fun w' hw' => ?_⟩) hHeld ?_
      · first | (go_simp; done) | (go_simp; rfl)
      try simp only [Act.put, List.setIfInBounds_toArray, List.set_cons_zero, List.set_cons_succ]
      refine wpAnyH_take (i := 6) (oi := { dst := some 16, op := Go.Op.extract (Go.Operand.tmp 10) 1, type := 4, pos := _, after := #[{ on := 4, ground := Go.Ground.data }, { on := 7, ground := Go.Ground.gcOnly Go.Departure.lateStores }], guard := none }) (v := .bool true) rfl (by kernel_rfl) (by kernel_rfl) (by kernel_rfl) (fun _ _ _ h => h) (Or.inl ⟨by rfl, fun w' hw' => ?_⟩) hHeld ?_
      · first | (go_simp; done) | (go_simp; rfl)
      try simp only [Act.put, List.setIfInBounds_toArray, List.set_cons_zero, List.set_cons_succ]
      refine wpAnyH_take (i := 7) (oi := { dst := some 8, op := Go.Op.assign (Go.Operand.tmp 15), type := 26, pos := _, after := #[{ on := 5, ground := Go.Ground.data }, { on := 0, ground := Go.Ground.chain }, { on := 0, ground := Go.Ground.phase }, { on := 1, ground := Go.Ground.phase }, { on := 2, ground := Go.Ground.phase }, { on := 3, ground := Go.Ground.phase }, { on := 4, ground := Go.Ground.phase }, { on := 5, ground := Go.Ground.phase }, { on := 6, ground := Go.Ground.textOnly Go.Departure.lateStores }], guard := none }) (v := .int .i64 wt) rfl (by kernel_rfl) (by kernel_rfl) (by kernel_rfl) (fun _ _ _ h => h) (Or.inl ⟨by rfl, fun w' hw' => ?_⟩) hHeld ?_
      · first | (go_simp; done) | (go_simp; rfl)
      try simp only [Act.put, List.setIfInBounds_toArray, List.set_cons_zero, List.set_cons_succ]
      refine wpAnyH_take (i := 8) (oi := { dst := some 9, op := Go.Op.assign (Go.Operand.tmp 16), type := 4, pos := _, after := #[{ on := 6, ground := Go.Ground.data }, { on := 7, ground := Go.Ground.chain }, { on := 0, ground := Go.Ground.phase }, { on := 1, ground := Go.Ground.phase }, { on := 2, ground := Go.Ground.phase }, { on := 3, ground := Go.Ground.phase }, { on := 4, ground := Go.Ground.phase }, { on := 5, ground := Go.Ground.phase }, { on := 6, ground := Go.Ground.phase }, { on := 7, ground := Go.Ground.phase }], guard := none }) (v := .bool true) rfl (by kernel_rfl) (by kernel_rfl) (by kernel_rfl) (fun _ _ _ h => h) (Or.inl ⟨by rfl, fun w' hw' => ?_⟩) hHeld ?_
      · first | (go_simp; done) | (go_simp; rfl)
      try simp only [Act.put, List.setIfInBounds_toArray, List.set_cons_zero, List.set_cons_succ]
      refine wpAnyH_done (by kernel_rfl) ?_ _
      have HR4 : Hid _ := hHeld
      clear hHeld
      have hc7 := HR4.out.cell 1 rfl 7 HO7.out
      go_wp2_with (first
        | (refine build_g (by rfl) 28 #[] rfl #[] (.agg ZL.toArray) (by simp [Act.eval]) (HB0.out _) ?_)
        | (refine wpList_store_row rfl 28 (.tmp 6) (.tmp 24) rfl (w.heap.size + 1 + 1 + 1) ZL.toArray rfl rfl 28 ZL.toArray (HR4.out.at 0 rfl) (info13a ZL HZN.out) rfl HZ1.out ?_))
      have R5 := HR4.out.put 0 rfl ZL
      refine bodyPost_ret (v := .tuple #[.agg ZL.toArray, .int .i64 2]) (results2 Try.results11 _ _ (w.heap.size + 1 + 1 + 1) _ ZL _ _ rfl rfl (R5.at 0 rfl) Try.underlying28 rfl (info13 ZL HZN.out)) rfl ⟨by rw [HFIN.out false HOK2.out]; rfl, R5.bel⟩
    · have hd : decide (ran < 0) = false := decide_eq_false hran
      have HOK2 : Hid (OK = true) := by show _ = _; rw [HOK.out]; simp; omega
      clear HOK hran
      go_enter Try.func11, Try.ntmps11
      go_wp2_with fail
      refine wp_region_held_drew (S := fun X => RS w [(w.heap.size + 1 + 1 + 1, 28, ZL), (w.heap.size + 1 + 1, 40, OL), (w.heap.size + 1, 25, CL), (w.heap.size, 28, RL)] X) (by kernel_rfl) (HR.out.step (below_drew _)) (fun hHeld => ?_)
      clear HR
      refine wpAnyH_take (i := 1) (oi := { dst := some 12, op := Go.Op.fieldAddr 40 (Go.Operand.tmp 5) 0, type := 0, pos := _, after := #[], guard := none }) (v := .pointer (some ⟨w.heap.size + 1 + 1, 0, none⟩)) rfl (by kernel_rfl) (by kernel_rfl) (by kernel_rfl) (fun _ _ _ h => h) (Or.inl ⟨by rfl, fun w' hw' => ?_⟩) hHeld ?_
      · first | (go_simp; done) | (go_simp; rfl)
      try simp only [Act.put, List.setIfInBounds_toArray, List.set_cons_zero, List.set_cons_succ]
      refine wpAnyH_take (i := 2) (oi := { dst := some 13, op := Go.Op.load 38 (Go.Operand.tmp 12), type := 38, pos := _, after := #[{ on := 1, ground := Go.Ground.data }], guard := none }) (v := .int .i64 re) rfl (by kernel_rfl) (by kernel_rfl) (by kernel_rfl) (fun _ _ _ h => h) (Or.inl ⟨by rfl, fun w' hw' => ?_⟩) hHeld ?_
      · have hcc := hw'.cell 1 rfl 0 HO0.out; first | (go_simp; done) | (go_simp; rfl)
      try simp only [Act.put, List.setIfInBounds_toArray, List.set_cons_zero, List.set_cons_succ]
      refine wpAnyH_ready (rs := [0]) (by kernel_rfl) (by simp) ?_
      refine AllReadyH.cons (o := { dst := some 11, op := Go.Op.call { callee := Go.Callee.value (Go.Operand.func 21), args := #[], argTypes := #[] }, type := 66, pos := _, after := #[], guard := none }) rfl (fun K hK => ?_) AllReadyH.nil
      rw [if_pos (by rfl)]
      go_wp2_with fail
      refine Calls.mono (waits_any _) ?_
      rintro e w4 ⟨mb, rfl, hM, hb4⟩
      replace hHeld := hHeld.step hb4
      have hlk := mj_look hM re HRE.out
      rw [HIS.out, HWT.out] at hlk
      clear hM hb4
      refine hK.out _ _ hHeld (fun _ => ?_)
      clear hK K
      try simp only [Act.put, List.setIfInBounds_toArray, List.set_cons_zero, List.set_cons_succ]
      refine wpAnyH_ready (rs := [3]) (by kernel_rfl) (by simp) ?_
      refine AllReadyH.cons (o := { dst := some 14, op := Go.Op.lookup 66 (Go.Operand.tmp 11) (Go.Operand.tmp 13) true, type := 65, pos := _, after := #[{ on := 0, ground := Go.Ground.data }, { on := 2, ground := Go.Ground.data }], guard := none }) rfl (fun K hK => ?_) AllReadyH.nil
      rw [if_pos (by rfl)]
      go_wp2_with fail
      refine hK.out _ _ hHeld (fun _ => ?_)
      clear hK K
      try simp only [Act.put, List.setIfInBounds_toArray, List.set_cons_zero, List.set_cons_succ]
      clear hlk
      refine wpAnyH_take (i := 4) (oi := { dst := some 10, op := Go.Op.move (Go.Operand.tmp 14), type := 65, pos := _, after := #[{ on := 3, ground := Go.Ground.data }], guard := none }) (v := .tuple #[.int .i64 wt, .bool true]) rfl (by kernel_rfl) (by kernel_rfl) (by kernel_rfl) (fun _ _ _ h => h) (Or.inl ⟨by rfl, fun w' hw' => ?_⟩) hHeld ?_
      · first | (go_simp; done) | (go_simp; rfl)
      try simp only [Act.put, List.setIfInBounds_toArray, List.set_cons_zero, List.set_cons_succ]
      refine wpAnyH_take (i := 5) (oi := { dst := some 15, op := Go.Op.extract (Go.Operand.tmp 10) 0, type := 26, pos := _, after := #[{ on := 4, ground := Go.Ground.data }], guard := none }) (v := .int .i64 wt) rfl (by kernel_rfl) (by kernel_rfl) (by kernel_rfl) (fun _ _ _ h => h) (Or.inl ⟨by rfl, fun w' hw' => ?_⟩) hHeld ?_
      · first | (go_simp; done) | (go_simp; rfl)
      try simp only [Act.put, List.setIfInBounds_toArray, List.set_cons_zero, List.set_cons_succ]
      refine wpAnyH_take (i := 6) (oi := { dst := some 16, op := Go.Op.extract (Go.Operand.tmp 10) 1, type := 4, pos := _, after := #[{ on := 4, ground := Go.Ground.data }, { on := 7, ground := Go.Ground.gcOnly Go.Departure.lateStores }], guard := none }) (v := .bool true) rfl (by kernel_rfl) (by kernel_rfl) (by kernel_rfl) (fun _ _ _ h => h) (Or.inl ⟨by rfl, fun w' hw' => ?_⟩) hHeld ?_
      · first | (go_simp; done) | (go_simp; rfl)
      try simp only [Act.put, List.setIfInBounds_toArray, List.set_cons_zero, List.set_cons_succ]
      refine wpAnyH_take (i := 7) (oi := { dst := some 8, op := Go.Op.assign (Go.Operand.tmp 15), type := 26, pos := _, after := #[{ on := 5, ground := Go.Ground.data }, { on := 0, ground := Go.Ground.chain }, { on := 0, ground := Go.Ground.phase }, { on := 1, ground := Go.Ground.phase }, { on := 2, ground := Go.Ground.phase }, { on := 3, ground := Go.Ground.phase }, { on := 4, ground := Go.Ground.phase }, { on := 5, ground := Go.Ground.phase }, { on := 6, ground := Go.Ground.textOnly Go.Departure.lateStores }], guard := none }) (v := .int .i64 wt) rfl (by kernel_rfl) (by kernel_rfl) (by kernel_rfl) (fun _ _ _ h => h) (Or.inl ⟨by rfl, fun w' hw' => ?_⟩) hHeld ?_
      · first | (go_simp; done) | (go_simp; rfl)
      try simp only [Act.put, List.setIfInBounds_toArray, List.set_cons_zero, List.set_cons_succ]
      refine wpAnyH_take (i := 8) (oi := { dst := some 9, op := Go.Op.assign (Go.Operand.tmp 16), type := 4, pos := _, after := #[{ on := 6, ground := Go.Ground.data }, { on := 7, ground := Go.Ground.chain }, { on := 0, ground := Go.Ground.phase }, { on := 1, ground := Go.Ground.phase }, { on := 2, ground := Go.Ground.phase }, { on := 3, ground := Go.Ground.phase }, { on := 4, ground := Go.Ground.phase }, { on := 5, ground := Go.Ground.phase }, { on := 6, ground := Go.Ground.phase }, { on := 7, ground := Go.Ground.phase }], guard := none }) (v := .bool true) rfl (by kernel_rfl) (by kernel_rfl) (by kernel_rfl) (fun _ _ _ h => h) (Or.inl ⟨by rfl, fun w' hw' => ?_⟩) hHeld ?_
      · first | (go_simp; done) | (go_simp; rfl)
      try simp only [Act.put, List.setIfInBounds_toArray, List.set_cons_zero, List.set_cons_succ]
      refine wpAnyH_done (by kernel_rfl) ?_ _
      have HR4 : Hid _ := hHeld
      clear hHeld
      have hc7 := HR4.out.cell 1 rfl 7 HO7.out
      go_wp2_with (first
        | (refine wpList_load_mid rfl 25 (.tmp 4) rfl (w.heap.size + 1) 0 rfl CL _ (rangeAt_row (HR4.out.at 2 rfl)) Try.underlying25 rfl (info9 CL HCL.out) ?_)
        | (refine wpList_store_segL rfl 25 (.tmp 27) (.tmp 25) rfl w.heap.size 2 CL.toArray RL 28 rfl rfl (HR4.out.at 3 rfl) (info9a CL HCL.out) (by rw [List.size_toArray, HCL.out, HRL.out]; decide) HC1.out ?_
           intro W5 hW5
           have HR5 : Hid (RS w [(w.heap.size + 1 + 1 + 1, 28, ZL), (w.heap.size + 1 + 1, 40, OL), (w.heap.size + 1, 25, CL), (w.heap.size, 28, SL)] W5) := by rw [hW5, HSP.out]; exact HR4.out.put 3 rfl SL
           clear hW5 hc7)
        | (refine wpList_stW rfl (.tmp 28) (.tmp 26) rfl w.heap.size 12 wt rfl rfl SL 28 (HR5.out.at 3 rfl) (by rw [HSL.out]; decide) ?_
           intro W6 hW6
           have HR6 : Hid (RS w [(w.heap.size + 1 + 1 + 1, 28, ZL), (w.heap.size + 1 + 1, 40, OL), (w.heap.size + 1, 25, CL), (w.heap.size, 28, NL)] W6) := by rw [hW6]; exact HR5.out.poke 3 rfl 12 _ HSEG.out
           clear hW6)
        | (refine wpList_load_mid rfl 28 (.tmp 3) rfl w.heap.size 0 rfl NL _ (rangeAt_row (HR6.out.at 3 rfl)) Try.underlying28 rfl (info13 NL HNL.out) ?_)
        | (refine wpList_store_row rfl 28 (.tmp 6) (.tmp 29) rfl (w.heap.size + 1 + 1 + 1) NL.toArray rfl rfl 28 ZL.toArray (HR6.out.at 0 rfl) (info13a NL HNL.out) (by simp [HZN.out, HNL.out]) HN1.out ?_))
      have R7 := HR6.out.put 0 rfl NL
      refine bodyPost_ret (v := .tuple #[.agg NL.toArray, .int .i64 0]) (results2 Try.results11 _ _ (w.heap.size + 1 + 1 + 1) _ NL _ _ rfl rfl (R7.at 0 rfl) Try.underlying28 rfl (info13 NL HNL.out)) rfl ⟨by rw [HFIN.out true HOK2.out]; rfl, R7.bel⟩
end Go.Proofs.Ytpdafjamhccbnaa.VC
