/- cpu: Do. -/
import Derived.Test.YtkpjfhphohanlaaGreatDoorJP
set_option linter.unusedVariables false
set_option linter.unusedSimpArgs false
namespace Go.Proofs.YtkpjfhphohanlaaGreatDoor.JC
open Go.RowKit
open Go.Proofs.YtkpjfhphohanlaaGreatDoor.EC (row_lt heap_at rangeAt_below rangeAt_row ret_bool ret_i64 beq_int)

/-- While Do runs: the state, the instruction, the result, the event. -/
structure SQ (w : World) (CL IL RL EL : List Value) (X : World) : Prop where
  bel : Below w.heap.size w X
  sz : w.heap.size + 4 ≤ X.heap.size
  c : X.heap[w.heap.size]? = some (.cells CL.toArray 50 (0, 0))
  i : X.heap[w.heap.size + 1]? = some (.cells IL.toArray 41 (0, 0))
  r : X.heap[w.heap.size + 1 + 1]? = some (.cells RL.toArray 50 (0, 0))
  e : X.heap[w.heap.size + 1 + 1 + 1]? = some (.cells EL.toArray 53 (0, 0))
theorem SQ.new (w : World) (CL IL RL EL : List Value) : SQ w CL IL RL EL ((((w.alloc (.cells CL.toArray 50 (0, 0))).alloc (.cells IL.toArray 41 (0, 0))).alloc (.cells RL.toArray 50 (0, 0))).alloc (.cells EL.toArray 53 (0, 0))) := by
  have hold : ∀ (W : World) (o : Obj) (k : Nat), k < W.heap.size → (W.alloc o).heap[k]? = W.heap[k]? := fun W o k hk => heap_alloc_old _ _ hk
  refine ⟨((((Below.refl _ _).alloc (Nat.le_refl _) _).alloc (by simp) _).alloc (by first | (simp; done) | (simp; omega)) _).alloc (by first | (simp; done) | (simp; omega)) _, by simp, ?_, ?_, ?_, ?_⟩
  · rw [hold _ _ _ (by first | (simp; done) | (simp; omega)), hold _ _ _ (by first | (simp; done) | (simp; omega)), hold _ _ _ (by simp)]; exact heap_alloc_new _ _
  · rw [hold _ _ _ (by first | (simp; done) | (simp; omega)), hold _ _ _ (by simp)]; exact heap_at _ _ _ (by simp)
  · rw [hold _ _ _ (by simp)]; exact heap_at _ _ _ (by simp)
  · exact heap_at _ _ _ (by simp)
theorem SQ.below {w : World} {CL IL RL EL : List Value} {X Y : World} (h : SQ w CL IL RL EL X) (hb : Below X.heap.size X Y) : SQ w CL IL RL EL Y :=
  ⟨h.bel.trans (hb.mono h.bel.size), Nat.le_trans h.sz hb.size, (hb.block _ (row_lt h.c)).trans h.c, (hb.block _ (row_lt h.i)).trans h.i, (hb.block _ (row_lt h.r)).trans h.r, (hb.block _ (row_lt h.e)).trans h.e⟩
theorem SQ.rowr {w : World} {CL IL RL EL : List Value} {X : World} (h : SQ w CL IL RL EL X) (L : List Value) : SQ w CL IL L EL (X.setRow (w.heap.size + 1 + 1) L.toArray) :=
  ⟨below_setRow h.bel (by omega) _, by rw [setRow_size]; exact h.sz, (setRow_other _ _ _ _ (by omega)).trans h.c, (setRow_other _ _ _ _ (by omega)).trans h.i, setRow_heap _ _ _ _ _ _ h.r, (setRow_other _ _ _ _ (by omega)).trans h.e⟩
theorem SQ.rowe {w : World} {CL IL RL EL : List Value} {X : World} (h : SQ w CL IL RL EL X) (L : List Value) : SQ w CL IL RL L (X.setRow (w.heap.size + 1 + 1 + 1) L.toArray) :=
  ⟨below_setRow h.bel (by omega) _, by rw [setRow_size]; exact h.sz, (setRow_other _ _ _ _ (by omega)).trans h.c, (setRow_other _ _ _ _ (by omega)).trans h.i, (setRow_other _ _ _ _ (by omega)).trans h.r, setRow_heap _ _ _ _ _ _ h.e⟩
theorem results23 {fn : Func} {p u : Tmp} (h : fn.results = #[.cell p 50, .cell u 53]) (tmps : Array Value) (X : World) (b1 b2 : Nat) {RL EL : List Value} (h1 : X.heap[b1]? = some (.cells RL.toArray 50 (0, 0))) (h2 : X.heap[b2]? = some (.cells EL.toArray 53 (0, 0))) (hr : RL.length = 9) (he : EL.length = 2)
    (hp : tmps.getD p undef = .pointer (some ⟨b1, 0, none⟩)) (hu : tmps.getD u undef = .pointer (some ⟨b2, 0, none⟩)) : (results fn tmps).run Tryz.prog X = .ok (.tuple #[.agg RL.toArray, .agg EL.toArray]) X := by
  have e1 : (asAddr (tmps.getD p undef)).run Tryz.prog X = .ok ⟨b1, 0, none⟩ X := by rw [hp]; rfl
  have e2 : (asAddr (tmps.getD u undef)).run Tryz.prog X = .ok ⟨b2, 0, none⟩ X := by rw [hu]; rfl
  have e3 := run_loadVar_mid X b1 0 50 RL _ (rangeAt_row h1) Tryz.underlying50 rfl (info9 RL hr)
  have e4 := run_loadVar_mid X b2 0 53 EL _ (rangeAt_row h2) Tryz.underlying53 rfl (info2 EL he)
  rw [results_cell2 h, e1, Result.andThen_ok, e3, Result.andThen_ok, e2, Result.andThen_ok, e4, Result.andThen_ok]
def SQE (w : World) (CL IL : List Value) (X : World) : Prop := ∃ RL EL, SQ w CL IL RL EL X
theorem SQE.rc {w : World} {CL IL : List Value} {X : World} (h : SQE w CL IL X) : X.rangeAt w.heap.size 0 CL := by obtain ⟨_, _, h⟩ := h; exact rangeAt_row h.c
theorem SQE.ri {w : World} {CL IL : List Value} {X : World} (h : SQE w CL IL X) : X.rangeAt (w.heap.size + 1) 0 IL := by obtain ⟨_, _, h⟩ := h; exact rangeAt_row h.i
/-- What Do answers. -/
def doR (s : St) (i : Ins) (ld : Int) : St × Int × Int := if may i = true then doS s i ld else (s, 3, 0)
theorem swf.set {s : St} (h : swf s) (k : Nat) (R : Int) (hR : u64 R) : swf ⟨s.rs.set k R, s.pc⟩ := ⟨by simp [h.len], fun x hx => by rcases List.mem_or_eq_of_mem_set hx with hx | rfl; exact h.r x hx; exact hR, h.p⟩
theorem doS_wf {s : St} (h : swf s) (i : Ins) (ld : Int) (hl : u64 ld) : swf (doS s i ld).1 := by
  unfold doS
  split
  · exact h.go
  · split
    · exact h.jump _
    · split
      · show swf (s.br _ _)
        unfold St.br; split
        · exact h.go
        · exact h.jump _
      · split
        · exact h
        · split
          · exact h.go
          · split
            · exact h.go
            · exact (h.set _ _ (rk_u _ _ _ _ _ (wrap_u _) hl (rs_u h _) (rs_u h _))).go
set_option maxRecDepth 100000 in
theorem lk_dm {E : Env} {m : Nat} {X : World} (h : DM E m X) (k : Int) (hk : 1 ≤ k ∧ k ≤ 17) : ∃ v, (Instr.lookup 82 (.map (some m)) (.int .i64 k) false).run Tryz.prog X = .ok v X ∧ G E k X v := by
  obtain ⟨ml, h1, h2, h3, h4⟩ := h.ex
  obtain ⟨v, hv⟩ := h3 k.toNat (by omega) (by omega)
  have e : ((k.toNat : Nat) : Int) = k := by omega
  rw [e] at hv
  exact ⟨v, mf_get h1 h4 hv, h2 _ hv⟩
theorem run_lk {a : Act} {o : Oper} {m k : Operand} (h : o.op = .lookup 82 m k false) {w : World} {v mv kv : Value} (hm : a.eval m = mv) (hk : a.eval k = kv) (hr : (Instr.lookup 82 mv kv false).run Tryz.prog w = .ok v w) : (execOp a.eval o).run Tryz.prog w = .ok (.value v) w := by
  unfold execOp
  simp only [h, hm, hk, Sem.run_bind, hr, Result.andThen_ok]
  rfl
theorem wp_value {P : Program} {Q : Exit → Act → World → Prop} {o : Oper} {K : Act → World → Prop} {a : Act} {w w' : World} {v : Value} (hr : (execOp a.eval o).run P w = .ok (.value v) w') (h : K (a.put o.dst v) w') : o.wp P a w K Q := by
  unfold Oper.wp; rw [hr, Oper.upon_value]; exact h
set_option maxHeartbeats 1000000 in
set_option maxRecDepth 100000 in
theorem do_bad (s : St) (h : swf s) (i : Ins) (hi : iwf i) (ld : Int) (hm : may i = false) (w : World) : Calls Tryz.prog 14 #[.agg (sL s).toArray, iV i, .int .u64 ld] w fun e w' => DoEnd s 3 0 w e w' := by
  have hM := fun W => may_any i hi W
  rw [hm] at hM
  have hzv := fun W => zero9 W
  have hz2 := fun W => zero2 W
  obtain ⟨ZL, hZL⟩ : ∃ L, L = Z9 := ⟨_, rfl⟩
  have HZN : Hid (ZL.length = 9) := by rw [hZL]; rfl
  rw [← hZL] at hzv
  obtain ⟨EZ, hEZ⟩ : ∃ L, L = eL 0 0 := ⟨_, rfl⟩
  have HEN : Hid (EZ.length = 2) := by rw [hEZ]; rfl
  rw [← hEZ] at hz2
  clear hZL hEZ
  have HLEN : Hid _ := sL_len h
  have HONE : Hid _ := sL_one s
  generalize hCL : sL s = CL at *
  have HIN : Hid _ := ins_info i
  have hiV : iV i = .agg (iL i).toArray := rfl
  rw [hiV] at hM ⊢
  have HI0 : Hid ((iL i)[0]? = some (.int .i64 i.op)) := rfl
  generalize iL i = IL at *
  have HX : Hid _ := SQ.new w CL IL ZL EZ
  obtain ⟨EV, hEV⟩ : ∃ L, L = eL 3 0 := ⟨_, rfl⟩
  have HEVN : Hid (EV.length = 2) := by rw [hEV]; rfl
  have HEV1 : Hid (EV.toArray.all (·.oneCell') = true) := by show _ = _; rw [hEV]; exact eL_one 3 0
  have HBL : Hid (∀ W, (Instr.build 53 #[(0, .int .i64 3)]).run Tryz.prog W = .ok (.agg EV.toArray) W) := fun W => by rw [hEV]; exact bld48a 3 W
  have HEVE : Hid _ := hEV
  clear hEV
  go_enter Tryz.func14, Tryz.ntmps14
  go_wp2_with (first
    | (refine wpList_load_mid rfl 41 _ rfl (w.heap.size + 1) 0 rfl IL _ (rangeAt_row HX.out.i) Tryz.underlying41 rfl HIN.out ?_))
  refine Calls.mono (hM _) ?_
  rintro e Y ⟨rfl, hbY⟩
  have HY : Hid _ := HX.out.below hbY
  clear hbY HX hM
  go_wp2_with (first
    | (refine wpList_load_mid rfl 50 _ rfl w.heap.size 0 rfl CL _ (rangeAt_row HY.out.c) Tryz.underlying50 rfl (info9 CL HLEN.out) ?_)
    | (refine wpList_build rfl 53 #[(0, .const (.int .i64 3))] rfl #[(0, .int .i64 3)] (.agg EV.toArray) (by simp [Act.eval]) (HBL.out _) ?_)
    | (refine wpList_store_row rfl 50 _ _ rfl (w.heap.size + 1 + 1) CL.toArray rfl rfl 50 ZL.toArray HY.out.r (info9a CL HLEN.out) (by simp [HZN.out, HLEN.out]) HONE.out ?_)
    | (refine wpList_store_row rfl 53 _ _ rfl (w.heap.size + 1 + 1 + 1) EV.toArray rfl rfl 53 EZ.toArray (HY.out.rowr CL).e (info2a EV HEVN.out) (by simp [HEN.out, HEVN.out]) HEV1.out ?_))
  refine bodyPost_ret (v := .tuple #[.agg CL.toArray, .agg EV.toArray]) (results23 Tryz.results14 _ _ _ _ ((HY.out.rowr CL).rowe EV).r ((HY.out.rowr CL).rowe EV).e HLEN.out HEVN.out rfl rfl) rfl ⟨by rw [hCL, HEVE.out], ((HY.out.rowr CL).rowe EV).bel⟩
set_option maxHeartbeats 1000000 in
set_option maxRecDepth 100000 in
theorem do_ok (s : St) (h : swf s) (i : Ins) (hi : iwf i) (ld : Int) (hl : u64 ld) (hm : may i = true) (w : World) : Calls Tryz.prog 14 #[.agg (sL s).toArray, iV i, .int .u64 ld] w fun e w' => DoEnd (doS s i ld).1 (doS s i ld).2.1 (doS s i ld).2.2 w e w' := by
  have hM := fun W => may_any i hi W
  have hDE := fun W => deeds_any i ld W
  have HDC : Hid (∀ (E : Env), E.i = i → E.ld = ld → ∀ (X : World), SB E X → ∀ v, G E i.op X v → ∃ f caps, v = cV f caps ∧ Enters Tryz.prog f ∧ Calls Tryz.prog f (#[.agg (sL s).toArray] ++ caps) X fun e w' => DoEnd (doS s i ld).1 (doS s i ld).2.1 (doS s i ld).2.2 X e w') := fun E h1 h2 X hS v hG => deed_call s h i ld hl hm E h1 h2 X hS v hG
  rw [hm] at hM
  obtain ⟨m1, m2, _⟩ := may_bd hm
  have HOP : Hid (1 ≤ i.op ∧ i.op ≤ 17) := ⟨m1, m2⟩
  have HSE : Hid (swf (doS s i ld).1) := doS_wf h i ld hl
  clear m1 m2
  generalize hDS : doS s i ld = DS at *
  obtain ⟨s', k, n⟩ := DS
  simp only at *
  obtain ⟨CR, hCR⟩ : ∃ L, L = sL s' := ⟨_, rfl⟩
  have HCN : Hid (CR.length = 9) := by show _ = _; rw [hCR]; exact sL_len HSE.out
  have HC1 : Hid (CR.toArray.all (·.oneCell') = true) := by show _ = _; rw [hCR]; exact sL_one _
  have HCR : Hid _ := hCR
  obtain ⟨EV, hEV⟩ : ∃ L, L = eL k n := ⟨_, rfl⟩
  have HEVN : Hid (EV.length = 2) := by rw [hEV]; rfl
  have HEV1 : Hid (EV.toArray.all (·.oneCell') = true) := by show _ = _; rw [hEV]; exact eL_one k n
  have HEV : Hid _ := hEV
  clear hCR hEV
  have hiV2 : iV i = .agg (iL i).toArray := rfl
  rw [hiV2] at hDE
  have hzv := fun W => zero9 W
  have hz2 := fun W => zero2 W
  obtain ⟨ZL, hZL⟩ : ∃ L, L = Z9 := ⟨_, rfl⟩
  have HZN : Hid (ZL.length = 9) := by rw [hZL]; rfl
  rw [← hZL] at hzv
  obtain ⟨EZ, hEZ⟩ : ∃ L, L = eL 0 0 := ⟨_, rfl⟩
  have HEN : Hid (EZ.length = 2) := by rw [hEZ]; rfl
  rw [← hEZ] at hz2
  clear hZL hEZ
  have HLEN : Hid _ := sL_len h
  have HONE : Hid _ := sL_one s
  generalize hCL : sL s = CL at *
  have HIN : Hid _ := ins_info i
  have hiV : iV i = .agg (iL i).toArray := rfl
  rw [hiV] at hM ⊢
  have HI0 : Hid ((iL i)[0]? = some (.int .i64 i.op)) := rfl
  generalize iL i = IL at *
  have HX : Hid _ := SQ.new w CL IL ZL EZ
  go_enter Tryz.func14, Tryz.ntmps14
  go_wp2_with (first
    | (refine wpList_load_mid rfl 41 _ rfl (w.heap.size + 1) 0 rfl IL _ (rangeAt_row HX.out.i) Tryz.underlying41 rfl HIN.out ?_))
  refine Calls.mono (hM _) ?_
  rintro e Y ⟨rfl, hbY⟩
  have HY : Hid _ := HX.out.below hbY
  clear hbY HX hM
  have HS9 : Hid (SQE w CL IL Y.drew) := ⟨_, _, HY.out.below (Below.drew (Below.refl _ _))⟩
  have HW1 : Hid _ := HY.out.below (Below.drew (Below.refl _ _))
  clear HY
  go_wp2
  refine wp_region_held_drew (S := SQE w CL IL) (by kernel_rfl) HS9.out (fun hHeld => ?_)
  generalize Y.drew = W at *
  refine wpAnyH_take (i := 0) (oi := { dst := some 13, op := Go.Op.load 41 (Go.Operand.tmp 4), type := 41, pos := _, after := #[], guard := none }) rfl (by kernel_rfl) (by kernel_rfl) (by kernel_rfl) (fun _ _ _ h => h) (yieldsIf_load_mid (by rfl) 41 (.tmp 4) rfl (w.heap.size + 1) (0) rfl (IL) _ (fun _ h => h.ri) Tryz.underlying41 rfl HIN.out) hHeld ?_
  try simp only [Act.put, List.setIfInBounds_toArray, List.set_cons_zero, List.set_cons_succ]
  refine wpAnyH_take (i := 1) (oi := { dst := some 14, op := Go.Op.move (Go.Operand.tmp 2), type := 36, pos := _, after := #[], guard := none }) (v := .int .u64 ld) rfl (by kernel_rfl) (by kernel_rfl) (by kernel_rfl) (fun _ _ _ h => h) (Or.inl ⟨by rfl, fun w' hw' => ?_⟩) hHeld ?_
  · first | (go_simp; done) | (go_simp; rfl)
  try simp only [Act.put, List.setIfInBounds_toArray, List.set_cons_zero, List.set_cons_succ]
  refine wpAnyH_take (i := 3) (oi := { dst := some 16, op := Go.Op.fieldAddr 41 (Go.Operand.tmp 4) 0, type := 0, pos := _, after := #[], guard := none }) (v := .pointer (some ⟨w.heap.size + 1, 0, none⟩)) rfl (by kernel_rfl) (by kernel_rfl) (by kernel_rfl) (fun _ _ _ h => h) (Or.inl ⟨by rfl, fun w' hw' => ?_⟩) hHeld ?_
  · first | (go_simp; done) | (go_simp; rfl)
  try simp only [Act.put, List.setIfInBounds_toArray, List.set_cons_zero, List.set_cons_succ]
  refine wpAnyH_take (i := 4) (oi := { dst := some 17, op := Go.Op.load 39 (Go.Operand.tmp 16), type := 39, pos := _, after := #[{ on := 3, ground := Go.Ground.data }], guard := none }) (v := .int .i64 i.op) rfl (by kernel_rfl) (by kernel_rfl) (by kernel_rfl) (fun _ _ _ h => h) (Or.inl ⟨by rfl, fun w' hw' => ?_⟩) hHeld ?_
  · have hcc : w'.cell? ⟨w.heap.size + 1, 0, none⟩ = some (.int .i64 i.op) := (hw'.ri 0 _ HI0.out); first | (go_simp; done) | (go_simp; rfl)
  try simp only [Act.put, List.setIfInBounds_toArray, List.set_cons_zero, List.set_cons_succ]
  refine wpAnyH_take (i := 6) (oi := { dst := some 19, op := Go.Op.load 50 (Go.Operand.tmp 3), type := 50, pos := _, after := #[], guard := none }) rfl (by kernel_rfl) (by kernel_rfl) (by kernel_rfl) (fun _ _ _ h => h) (yieldsIf_load_mid (by rfl) 50 (.tmp 3) rfl (w.heap.size) (0) rfl (CL) _ (fun _ h => h.rc) Tryz.underlying50 rfl (info9 CL HLEN.out)) hHeld ?_
  try simp only [Act.put, List.setIfInBounds_toArray, List.set_cons_zero, List.set_cons_succ]
  refine wpAnyH_ready (rs := [2]) (by kernel_rfl) (by simp) ?_
  refine AllReadyH.cons (o := { dst := some 15, op := Go.Op.call { callee := Go.Callee.value (Go.Operand.func 28), args := #[Go.Operand.tmp 13, Go.Operand.tmp 14], argTypes := #[41, 36] }, type := 82, pos := _, after := #[{ on := 0, ground := Go.Ground.data }, { on := 1, ground := Go.Ground.data }], guard := none }) rfl (fun K hK => ?_) AllReadyH.nil
  rw [if_pos (by rfl)]
  go_wp2_with fail
  refine Calls.mono (hDE _) ?_
  rintro e V ⟨E, m, rfl, hE1, hE2, hDM, hbV⟩
  have HV : Hid _ := HW1.out.below hbV
  have hH2 : SQE w CL IL V := ⟨_, _, HV.out⟩
  clear hbV HW1 hDE
  refine hK.out _ _ hH2 (fun _ => ?_)
  clear hK K
  try simp only [Act.put, List.setIfInBounds_toArray, List.set_cons_zero, List.set_cons_succ]
  obtain ⟨v, hlk, hG⟩ := lk_dm hDM i.op HOP.out
  obtain ⟨f, caps, rfl, hen, hcall⟩ := HDC.out E hE1 hE2 V hDM.sb v hG
  refine wpAnyH_ready (rs := [5]) (by kernel_rfl) (by simp) ?_
  refine AllReadyH.cons (o := { dst := some 18, op := Go.Op.lookup 82 (Go.Operand.tmp 15) (Go.Operand.tmp 17) false, type := 81, pos := _, after := #[{ on := 2, ground := Go.Ground.data }, { on := 4, ground := Go.Ground.data }], guard := none }) rfl (fun K hK => ?_) AllReadyH.nil
  rw [if_pos (by rfl)]
  refine wp_value (v := cV f caps) (run_lk (mv := .map (some m)) (kv := .int .i64 i.op) rfl rfl rfl hlk) ?_
  refine hK.out _ _ hH2 (fun _ => ?_)
  clear hK K
  try simp only [Act.put, List.setIfInBounds_toArray, List.set_cons_zero, List.set_cons_succ]
  refine wpAnyH_ready (rs := [7]) (by kernel_rfl) (by simp) ?_
  refine AllReadyH.cons (o := { dst := some 20, op := Go.Op.call { callee := Go.Callee.value (Go.Operand.tmp 18), args := #[Go.Operand.tmp 19], argTypes := #[50] }, type := 54, pos := _, after := #[{ on := 5, ground := Go.Ground.data }, { on := 6, ground := Go.Ground.data }, { on := 2, ground := Go.Ground.chain }], guard := none }) rfl (fun K hK => ?_) AllReadyH.nil
  rw [if_pos (by rfl)]
  refine wp_enter (R := fun v w' => v = .tuple #[.agg CR.toArray, .agg EV.toArray] ∧ Below V.heap.size V w') (run_call1 (vx := .agg CL.toArray) rfl rfl rfl hen V) (hcall.mono fun e w' hh => ⟨_, hh.1, by rw [HCR.out, HEV.out], hh.2⟩) ?_
  rintro v T ⟨rfl, hbT⟩
  have HT : Hid _ := HV.out.below hbT
  have hH3 : SQE w CL IL T := ⟨_, _, HT.out⟩
  clear hbT HV hcall hlk hG hDM
  refine hK.out _ _ hH3 (fun _ => ?_)
  clear hK K
  try simp only [Act.put, List.setIfInBounds_toArray, List.set_cons_zero, List.set_cons_succ]
  clear hHeld hH2
  have hHeld := hH3
  clear hH3
  refine wpAnyH_take (i := 8) (oi := { dst := some 21, op := Go.Op.extract (Go.Operand.tmp 20) 0, type := 50, pos := _, after := #[{ on := 7, ground := Go.Ground.data }], guard := none }) (v := .agg CR.toArray) rfl (by kernel_rfl) (by kernel_rfl) (by kernel_rfl) (fun _ _ _ h => h) (Or.inl ⟨by rfl, fun w' hw' => ?_⟩) hHeld ?_
  · first | (go_simp; done) | (go_simp; rfl)
  try simp only [Act.put, List.setIfInBounds_toArray, List.set_cons_zero, List.set_cons_succ]
  refine wpAnyH_take (i := 9) (oi := { dst := some 22, op := Go.Op.extract (Go.Operand.tmp 20) 1, type := 53, pos := _, after := #[{ on := 7, ground := Go.Ground.data }], guard := none }) (v := .agg EV.toArray) rfl (by kernel_rfl) (by kernel_rfl) (by kernel_rfl) (fun _ _ _ h => h) (Or.inl ⟨by rfl, fun w' hw' => ?_⟩) hHeld ?_
  · first | (go_simp; done) | (go_simp; rfl)
  try simp only [Act.put, List.setIfInBounds_toArray, List.set_cons_zero, List.set_cons_succ]
  refine wpAnyH_ready (rs := [10]) (by kernel_rfl) (by simp) ?_
  refine AllReadyH.cons (o := { dst := none, op := Go.Op.store 50 (Go.Operand.tmp 6) (Go.Operand.tmp 21), type := 0, pos := _, after := #[{ on := 8, ground := Go.Ground.data }, { on := 7, ground := Go.Ground.chain }, { on := 0, ground := Go.Ground.phase }, { on := 1, ground := Go.Ground.phase }, { on := 2, ground := Go.Ground.phase }, { on := 3, ground := Go.Ground.phase }, { on := 4, ground := Go.Ground.phase }, { on := 5, ground := Go.Ground.phase }, { on := 6, ground := Go.Ground.phase }, { on := 7, ground := Go.Ground.phase }, { on := 8, ground := Go.Ground.phase }, { on := 9, ground := Go.Ground.phase }], guard := none }) rfl (fun K hK => ?_) AllReadyH.nil
  rw [if_pos (by rfl)]
  refine wp_store_row 50 _ _ rfl (w.heap.size + 1 + 1) CR.toArray rfl rfl 50 ZL.toArray HT.out.r (info9a CR HCN.out) (by simp [HZN.out, HCN.out]) HC1.out ?_
  have hH4 : SQE w CL IL (T.setRow (w.heap.size + 1 + 1) CR.toArray) := ⟨_, _, HT.out.rowr CR⟩
  refine hK.out _ _ hH4 (fun _ => ?_)
  clear hK K
  try simp only [Act.put, List.setIfInBounds_toArray, List.set_cons_zero, List.set_cons_succ]
  refine wpAnyH_ready (rs := [11]) (by kernel_rfl) (by simp) ?_
  refine AllReadyH.cons (o := { dst := none, op := Go.Op.store 53 (Go.Operand.tmp 7) (Go.Operand.tmp 22), type := 0, pos := _, after := #[{ on := 9, ground := Go.Ground.data }, { on := 10, ground := Go.Ground.chain }, { on := 0, ground := Go.Ground.phase }, { on := 1, ground := Go.Ground.phase }, { on := 2, ground := Go.Ground.phase }, { on := 3, ground := Go.Ground.phase }, { on := 4, ground := Go.Ground.phase }, { on := 5, ground := Go.Ground.phase }, { on := 6, ground := Go.Ground.phase }, { on := 7, ground := Go.Ground.phase }, { on := 8, ground := Go.Ground.phase }, { on := 9, ground := Go.Ground.phase }, { on := 10, ground := Go.Ground.phase }], guard := none }) rfl (fun K hK => ?_) AllReadyH.nil
  rw [if_pos (by rfl)]
  refine wp_store_row 53 _ _ rfl (w.heap.size + 1 + 1 + 1) EV.toArray rfl rfl 53 EZ.toArray (HT.out.rowr CR).e (info2a EV HEVN.out) (by simp [HEN.out, HEVN.out]) HEV1.out ?_
  have hH5 : SQE w CL IL ((T.setRow (w.heap.size + 1 + 1) CR.toArray).setRow (w.heap.size + 1 + 1 + 1) EV.toArray) := ⟨_, _, (HT.out.rowr CR).rowe EV⟩
  refine hK.out _ _ hH5 (fun _ => ?_)
  clear hK K
  try simp only [Act.put, List.setIfInBounds_toArray, List.set_cons_zero, List.set_cons_succ]
  refine wpAnyH_done (by kernel_rfl) ?_ _
  clear hHeld hH4 hH5
  go_wp2
  refine bodyPost_ret (v := .tuple #[.agg CR.toArray, .agg EV.toArray]) (results23 Tryz.results14 _ _ _ _ ((HT.out.rowr CR).rowe EV).r ((HT.out.rowr CR).rowe EV).e HCN.out HEVN.out rfl rfl) rfl ⟨by rw [HCR.out, HEV.out], ((HT.out.rowr CR).rowe EV).bel⟩
/-- Do, of any. -/
theorem do_any (s : St) (h : swf s) (i : Ins) (hi : iwf i) (ld : Int) (hl : u64 ld) (w : World) : Calls Tryz.prog 14 #[.agg (sL s).toArray, iV i, .int .u64 ld] w fun e w' => DoEnd (doR s i ld).1 (doR s i ld).2.1 (doR s i ld).2.2 w e w' := by
  cases hm : may i
  · have e : doR s i ld = (s, 3, 0) := by unfold doR; rw [hm]; rfl
    rw [e]; exact do_bad s h i hi ld hm w
  · have e : doR s i ld = doS s i ld := by unfold doR; rw [hm]; rfl
    rw [e]; exact do_ok s h i hi ld hl hm w
theorem doR_wf {s : St} (h : swf s) (i : Ins) (ld : Int) (hl : u64 ld) : swf (doR s i ld).1 := by
  unfold doR; split
  · exact doS_wf h i ld hl
  · exact h
end Go.Proofs.YtkpjfhphohanlaaGreatDoor.JC
