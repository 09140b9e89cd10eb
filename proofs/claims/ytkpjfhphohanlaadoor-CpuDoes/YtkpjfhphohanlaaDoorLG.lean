/- cpu: the reference's Do. -/
import Derived.Test.YtkpjfhphohanlaaDoorLC
set_option linter.unusedVariables false
set_option linter.unusedSimpArgs false
namespace Go.Proofs.YtkpjfhphohanlaaDoor.JC
open Go.RowKit
open Go.Proofs.YtkpjfhphohanlaaDoor.EC (row_lt heap_at rangeAt_below rangeAt_row ret_bool ret_i64 beq_int)

/-- As SQ, and the state that is made. -/
structure SO (w : World) (CL IL RL EL : List Value) (ob : Nat) (OL : List Value) (X : World) : Prop where
  q : SQ w CL IL RL EL X
  lt : w.heap.size + 4 ≤ ob
  o : X.heap[ob]? = some (.cells OL.toArray 45 (0, 0))
theorem SO.new {w : World} {CL IL RL EL : List Value} {Z : World} (h : SQ w CL IL RL EL Z) (ZL : List Value) : SO w CL IL RL EL Z.heap.size CL ((Z.alloc (.cells ZL.toArray 45 (0, 0))).setRow Z.heap.size CL.toArray) := by
  obtain ⟨p, r⟩ := put_row Z ZL CL 45
  exact ⟨h.below p, h.sz, r⟩
theorem SO.set {w : World} {CL IL RL EL : List Value} {ob : Nat} {OL : List Value} {X : World} (h : SO w CL IL RL EL ob OL X) (k : Nat) (v : Value) : SO w CL IL RL EL ob (OL.set k v) (X.setCell ⟨ob, k, none⟩ v) := by
  have hlt := h.lt
  have kp : ∀ j, j ≠ ob → (X.setCell ⟨ob, k, none⟩ v).heap[j]? = X.heap[j]? := fun j hj => heap_setCell_other _ _ _ _ (by show j ≠ ob; exact hj)
  have hb := h.q.bel.setCell (p := ⟨ob, k, none⟩) (by show w.heap.size ≤ ob; omega) v
  refine ⟨⟨hb, ?_, (kp _ (by omega)).trans h.q.c, (kp _ (by omega)).trans h.q.i, (kp _ (by omega)).trans h.q.r, (kp _ (by omega)).trans h.q.e⟩, hlt, ?_⟩
  · have := row_lt ((kp (w.heap.size + 1 + 1 + 1) (by omega)).trans h.q.e); omega
  · have e := heap_setCell_same _ _ k _ _ v h.o
    rw [List.setIfInBounds_toArray] at e
    exact e
theorem SO.below {w : World} {CL IL RL EL : List Value} {ob : Nat} {OL : List Value} {X Y : World} (h : SO w CL IL RL EL ob OL X) (hb : Below X.heap.size X Y) : SO w CL IL RL EL ob OL Y := ⟨h.q.below hb, h.lt, (hb.block _ (row_lt h.o)).trans h.o⟩
theorem SO.ci {w : World} {CL IL RL EL : List Value} {ob : Nat} {OL : List Value} {X : World} (h : SO w CL IL RL EL ob OL X) (k : Nat) (v : Value) (hv : IL[k]? = some v) : X.cell? ⟨w.heap.size + 1, k, none⟩ = some v := (fields5 _ _ _ _ _ h.q.i k).trans (by rw [List.getElem?_toArray]; exact hv)
theorem SO.cc {w : World} {CL IL RL EL : List Value} {ob : Nat} {OL : List Value} {X : World} (h : SO w CL IL RL EL ob OL X) (k : Nat) (v : Value) (hv : CL[k]? = some v) : X.cell? ⟨w.heap.size, k, none⟩ = some v := (fields5 _ _ _ _ _ h.q.c k).trans (by rw [List.getElem?_toArray]; exact hv)
theorem SO.co {w : World} {CL IL RL EL : List Value} {ob : Nat} {OL : List Value} {X : World} (h : SO w CL IL RL EL ob OL X) (k : Nat) (v : Value) (hv : OL[k]? = some v) : X.cell? ⟨ob, k, none⟩ = some v := (fields5 _ _ _ _ _ h.o k).trans (by rw [List.getElem?_toArray]; exact hv)
/-- The same, whatever stands in the results. -/
def SOE (w : World) (CL IL : List Value) (ob : Nat) (OL : List Value) (X : World) : Prop := ∃ RL EL, SO w CL IL RL EL ob OL X
theorem SOE.ro {w : World} {CL IL : List Value} {ob : Nat} {OL : List Value} {X : World} (h : SOE w CL IL ob OL X) : X.rangeAt ob 0 OL := by obtain ⟨_, _, h⟩ := h; exact rangeAt_row h.o
theorem SOE.ci {w : World} {CL IL : List Value} {ob : Nat} {OL : List Value} {X : World} (h : SOE w CL IL ob OL X) (k : Nat) (v : Value) (hv : IL[k]? = some v) : X.cell? ⟨w.heap.size + 1, k, none⟩ = some v := by obtain ⟨_, _, h⟩ := h; exact h.ci k v hv
theorem SO.rowr {w : World} {CL IL RL EL : List Value} {ob : Nat} {OL : List Value} {X : World} (h : SO w CL IL RL EL ob OL X) (L : List Value) : SO w CL IL L EL ob OL (X.setRow (w.heap.size + 1 + 1) L.toArray) := by
  have := h.lt; exact ⟨h.q.rowr L, h.lt, (setRow_other _ _ _ _ (by omega)).trans h.o⟩
theorem SO.rowe {w : World} {CL IL RL EL : List Value} {ob : Nat} {OL : List Value} {X : World} (h : SO w CL IL RL EL ob OL X) (L : List Value) : SO w CL IL RL L ob OL (X.setRow (w.heap.size + 1 + 1 + 1) L.toArray) := by
  have := h.lt; exact ⟨h.q.rowe L, h.lt, (setRow_other _ _ _ _ (by omega)).trans h.o⟩
theorem wpList_store_rowL {ops : Array Oper} {rest : List Oper} {o : Oper} {a : Act} {w : World} {Q : Exit → Act → World → Prop} (hgd : o.guard = none) (ty : TypeId) (x y : Operand) (ho : o.op = .store ty x y)
    (g : Nat) (cells : Array Value) (hx : a.eval x = .pointer (some ⟨g, 0, none⟩)) (hy : a.eval y = .agg cells)
    (t : TypeId) (old : Array Value) (hg : w.heap[g]? = some (.cells old t (0, 0))) (hi : (Tryd.prog.info? ty).map (·.size) = some cells.size)
    (hold : old.size = cells.size) (h1 : cells.all (·.oneCell') = true)
    (h : ∀ W', W' = w.setRow g cells → wpList Tryd.prog ops Q rest (a.put o.dst undef) W') : wpList Tryd.prog ops Q (o :: rest) a w :=
  wpList_store_row hgd ty x y ho g cells hx hy t old hg hi hold h1 (h _ rfl)
theorem run_store_u64 (w : World) (b k : Nat) (OL : List Value) (t : TypeId) (hrow : w.heap[b]? = some (.cells OL.toArray t (0, 0))) (hk : k < OL.length) (x : Int) : (Instr.storeAt 25 (.pointer (some ⟨b, k, none⟩)) (.int .u64 x)).run Tryd.prog w = .ok () (w.setCell ⟨b, k, none⟩ (.int .u64 x)) := by
  have hc := fields5 _ _ _ _ _ hrow k
  rw [List.getElem?_toArray, List.getElem?_eq_getElem hk] at hc
  have hf := frozen_of_row _ _ k _ _ hrow
  generalize OL[k] = ov at *
  unfold Instr.storeAt Instr.sureAddr
  go_simp
theorem wpList_store_cL {ops : Array Oper} {rest : List Oper} {o : Oper} {a : Act} {w : World} {Q : Exit → Act → World → Prop} (hgd : o.guard = none) (x y : Operand) (ho : o.op = .store 25 x y)
    (b k : Nat) (v : Int) (hx : a.eval x = .pointer (some ⟨b, k, none⟩)) (hy : a.eval y = .int .u64 v) (OL : List Value) (t : TypeId) (hrow : w.heap[b]? = some (.cells OL.toArray t (0, 0))) (hk : k < OL.length)
    (h : ∀ W', W' = w.setCell ⟨b, k, none⟩ (.int .u64 v) → wpList Tryd.prog ops Q rest (a.put o.dst undef) W') : wpList Tryd.prog ops Q (o :: rest) a w :=
  wpList_plain hgd fun _ hK => by
    unfold Oper.wp execOp
    simp only [ho, hx, hy, Sem.run_bind, run_store_u64 w b k OL t hrow hk v, Result.andThen_ok]
    exact hK _ _ (h _ rfl)
theorem bld48z (W : World) : (Instr.build 48 #[]).run Tryd.prog W = .ok (.agg (eL 0 0).toArray) W := by kernel_rfl
set_option maxHeartbeats 1000000 in
set_option maxRecDepth 100000 in
theorem rdo_bad (s : St) (h : swf s) (i : Ins) (ld : Int) (hm : may i = false) (w : World) : Calls Tryd.prog 21 #[.agg (sL s).toArray, iV i, .int .u64 ld] w fun e w' => DoEnd s 3 0 w e w' := by
  have hM := fun W => rmay_any i W
  rw [hm] at hM
  have hzv := fun W => zero9 W
  have hz2 := fun W => zero2 W
  obtain ⟨ZL, hZL⟩ : ∃ L, L = Z9 := ⟨_, rfl⟩
  have HZN : Hid (ZL.length = 9) := by rw [hZL]; rfl
  rw [← hZL] at hzv
  obtain ⟨EZ, hEZ⟩ : ∃ L, L = eL 0 0 := ⟨_, rfl⟩
  have HEN : Hid (EZ.length = 2) := by rw [hEZ]; rfl
  rw [← hEZ] at hz2
  have HEZ : Hid _ := hEZ
  have HE1 : Hid (EZ.toArray.all (·.oneCell') = true) := by show _ = _; rw [hEZ]; exact eL_one 0 0
  have HBL : Hid (∀ W, (Instr.build 48 #[]).run Tryd.prog W = .ok (.agg EZ.toArray) W) := fun W => by rw [hEZ]; exact bld48z W
  clear hZL hEZ
  have HLEN : Hid _ := sL_len h
  have HONE : Hid _ := sL_one s
  generalize hCL : sL s = CL at *
  have HIN : Hid _ := ins_info i
  have hiV : iV i = .agg (iL i).toArray := rfl
  rw [hiV] at hM ⊢
  have HI0 : Hid ((iL i)[0]? = some (.int .i64 i.op)) := rfl
  have HI1 : Hid ((iL i)[1]? = some (.int .i64 i.d)) := rfl
  have HI2 : Hid ((iL i)[2]? = some (.int .i64 i.a)) := rfl
  have HI3 : Hid ((iL i)[3]? = some (.int .i64 i.b)) := rfl
  have HI4 : Hid ((iL i)[4]? = some (.int .i64 i.imm)) := rfl
  generalize iL i = IL at *
  have HX : Hid _ := SQ.new w CL IL ZL EZ
  obtain ⟨EV, hEV⟩ : ∃ L, L = eL 3 0 := ⟨_, rfl⟩
  have HEVN : Hid (EV.length = 2) := by rw [hEV]; rfl
  have HEV1 : Hid (EV.toArray.all (·.oneCell') = true) := by show _ = _; rw [hEV]; exact eL_one 3 0
  have HBL : Hid (∀ W, (Instr.build 48 #[(0, .int .i64 3)]).run Tryd.prog W = .ok (.agg EV.toArray) W) := fun W => by rw [hEV]; exact bld48a 3 W
  have HEVE : Hid _ := hEV
  clear hEV
  go_enter Tryd.func21, Tryd.ntmps21
  go_wp2_with (first
    | (refine wpList_load_mid rfl 24 _ rfl (w.heap.size + 1) 0 rfl IL _ (rangeAt_row HX.out.i) Tryd.underlying24 rfl HIN.out ?_))
  refine Calls.mono (hM _) ?_
  rintro e Y ⟨rfl, hbY⟩
  have HY : Hid _ := HX.out.below hbY
  clear hbY HX hM
  skip
  go_wp2_with (first
    | (refine wpList_load_mid rfl 45 _ rfl w.heap.size 0 rfl CL _ (rangeAt_row HY.out.c) Tryd.underlying45 rfl (info9 CL HLEN.out) ?_)
    | (refine wpList_build rfl 48 #[(0, .const (.int .i64 3))] rfl #[(0, .int .i64 3)] (.agg EV.toArray) (by simp [Act.eval]) (HBL.out _) ?_)
    | (refine wpList_store_row rfl 45 _ _ rfl (w.heap.size + 1 + 1) CL.toArray rfl rfl 45 ZL.toArray HY.out.r (info9a CL HLEN.out) (by simp [HZN.out, HLEN.out]) HONE.out ?_)
    | (refine wpList_store_row rfl 48 _ _ rfl (w.heap.size + 1 + 1 + 1) EV.toArray rfl rfl 48 EZ.toArray (HY.out.rowr CL).e (info2a EV HEVN.out) (by simp [HEN.out, HEVN.out]) HEV1.out ?_))
  refine bodyPost_ret (v := .tuple #[.agg CL.toArray, .agg EV.toArray]) (results23 Tryd.results21 _ _ _ _ ((HY.out.rowr CL).rowe EV).r ((HY.out.rowr CL).rowe EV).e HLEN.out HEVN.out rfl rfl) rfl ⟨by rw [hCL, HEVE.out], ((HY.out.rowr CL).rowe EV).bel⟩
set_option maxHeartbeats 1000000 in
set_option maxRecDepth 100000 in
theorem rdo_stop (s : St) (h : swf s) (i : Ins) (ld : Int) (hm : may i = true) (ho : i.op = 17) (w : World) : Calls Tryd.prog 21 #[.agg (sL s).toArray, iV i, .int .u64 ld] w fun e w' => DoEnd s 3 0 w e w' := by
  have hM := fun W => rmay_any i W
  rw [hm] at hM
  have hzv := fun W => zero9 W
  have hz2 := fun W => zero2 W
  obtain ⟨ZL, hZL⟩ : ∃ L, L = Z9 := ⟨_, rfl⟩
  have HZN : Hid (ZL.length = 9) := by rw [hZL]; rfl
  rw [← hZL] at hzv
  obtain ⟨EZ, hEZ⟩ : ∃ L, L = eL 0 0 := ⟨_, rfl⟩
  have HEN : Hid (EZ.length = 2) := by rw [hEZ]; rfl
  rw [← hEZ] at hz2
  have HEZ : Hid _ := hEZ
  have HE1 : Hid (EZ.toArray.all (·.oneCell') = true) := by show _ = _; rw [hEZ]; exact eL_one 0 0
  have HBL : Hid (∀ W, (Instr.build 48 #[]).run Tryd.prog W = .ok (.agg EZ.toArray) W) := fun W => by rw [hEZ]; exact bld48z W
  clear hZL hEZ
  have HLEN : Hid _ := sL_len h
  have HONE : Hid _ := sL_one s
  generalize hCL : sL s = CL at *
  have HIN : Hid _ := ins_info i
  have hiV : iV i = .agg (iL i).toArray := rfl
  rw [hiV] at hM ⊢
  have HI0 : Hid ((iL i)[0]? = some (.int .i64 i.op)) := rfl
  have HI1 : Hid ((iL i)[1]? = some (.int .i64 i.d)) := rfl
  have HI2 : Hid ((iL i)[2]? = some (.int .i64 i.a)) := rfl
  have HI3 : Hid ((iL i)[3]? = some (.int .i64 i.b)) := rfl
  have HI4 : Hid ((iL i)[4]? = some (.int .i64 i.imm)) := rfl
  generalize iL i = IL at *
  have HX : Hid _ := SQ.new w CL IL ZL EZ
  rw [ho] at HI0
  obtain ⟨EV, hEV⟩ : ∃ L, L = eL 3 0 := ⟨_, rfl⟩
  have HEVN : Hid (EV.length = 2) := by rw [hEV]; rfl
  have HEV1 : Hid (EV.toArray.all (·.oneCell') = true) := by show _ = _; rw [hEV]; exact eL_one 3 0
  have HBL : Hid (∀ W, (Instr.build 48 #[(0, .int .i64 3)]).run Tryd.prog W = .ok (.agg EV.toArray) W) := fun W => by rw [hEV]; exact bld48a 3 W
  have HEVE : Hid _ := hEV
  clear hEV
  go_enter Tryd.func21, Tryd.ntmps21
  go_wp2_with (first
    | (refine wpList_load_mid rfl 24 _ rfl (w.heap.size + 1) 0 rfl IL _ (rangeAt_row HX.out.i) Tryd.underlying24 rfl HIN.out ?_))
  refine Calls.mono (hM _) ?_
  rintro e Y ⟨rfl, hbY⟩
  have HY : Hid _ := HX.out.below hbY
  clear hbY HX hM
  have hc0 : Y.cell? ⟨w.heap.size + 1, 0, none⟩ = some (.int .i64 17) := (fields5 _ _ _ _ _ HY.out.i 0).trans (by rw [List.getElem?_toArray]; exact HI0.out)
  go_wp2_with (first
    | (refine wpList_load_mid rfl 45 _ rfl w.heap.size 0 rfl CL _ (rangeAt_row HY.out.c) Tryd.underlying45 rfl (info9 CL HLEN.out) ?_)
    | (refine wpList_build rfl 48 #[(0, .const (.int .i64 3))] rfl #[(0, .int .i64 3)] (.agg EV.toArray) (by simp [Act.eval]) (HBL.out _) ?_)
    | (refine wpList_store_row rfl 45 _ _ rfl (w.heap.size + 1 + 1) CL.toArray rfl rfl 45 ZL.toArray HY.out.r (info9a CL HLEN.out) (by simp [HZN.out, HLEN.out]) HONE.out ?_)
    | (refine wpList_store_row rfl 48 _ _ rfl (w.heap.size + 1 + 1 + 1) EV.toArray rfl rfl 48 EZ.toArray (HY.out.rowr CL).e (info2a EV HEVN.out) (by simp [HEN.out, HEVN.out]) HEV1.out ?_))
  refine bodyPost_ret (v := .tuple #[.agg CL.toArray, .agg EV.toArray]) (results23 Tryd.results21 _ _ _ _ ((HY.out.rowr CL).rowe EV).r ((HY.out.rowr CL).rowe EV).e HLEN.out HEVN.out rfl rfl) rfl ⟨by rw [hCL, HEVE.out], ((HY.out.rowr CL).rowe EV).bel⟩
end Go.Proofs.YtkpjfhphohanlaaDoor.JC
