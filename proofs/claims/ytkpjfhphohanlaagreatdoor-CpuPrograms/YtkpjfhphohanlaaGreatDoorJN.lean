/- cpu: what the closures of deeds do: what is put into a register. -/
import Derived.Test.YtkpjfhphohanlaaGreatDoorJM
set_option linter.unusedVariables false
set_option linter.unusedSimpArgs false
namespace Go.Proofs.YtkpjfhphohanlaaGreatDoor.JC
open Go.RowKit
open Go.Proofs.YtkpjfhphohanlaaGreatDoor.EC (row_lt heap_at rangeAt_below rangeAt_row ret_bool ret_i64 beq_int)

theorem wrap_u (x : Int) : u64 (IntKind.u64.wrap x) := by rw [IntKind.wrap_u64]; constructor <;> omega
theorem swf.go {s : St} (h : swf s) : swf s.go := ⟨h.len, h.r, wrap_u _⟩
theorem swf.jump {s : St} (h : swf s) (M : Int) : swf (s.jump M) := ⟨h.len, h.r, wrap_u _⟩
/-- While put's closure runs. -/
structure S57 (w : World) (E : Env) (r : Nat) (fv : Value) (ZL EZ : List Value) (X : World) : Prop where
  sw : ∃ L, SW w L ZL EZ X
  sb : SB E X
  rr : X.heap[r]? = some (.cells #[fv] 105 (0, 0))
theorem S57.below {w : World} {E : Env} {r : Nat} {fv : Value} {ZL EZ : List Value} {X Y : World} (h : S57 w E r fv ZL EZ X) (hb : Below X.heap.size X Y) : S57 w E r fv ZL EZ Y := by
  obtain ⟨L, hL⟩ := h.sw
  exact ⟨⟨L, hL.below hb⟩, h.sb.keep (Kc.of_below hb), (hb.block _ (row_lt h.rr)).trans h.rr⟩
theorem S57.ci {w : World} {E : Env} {r : Nat} {fv : Value} {ZL EZ : List Value} {X : World} (h : S57 w E r fv ZL EZ X) (k : Nat) (v : Value) (hv : (iL E.i)[k]? = some v) : X.cell? ⟨E.b2, k, none⟩ = some v := (fields5 _ _ _ _ _ h.sb.i k).trans (by rw [List.getElem?_toArray]; exact hv)
theorem SW.cc {w : World} {CL ZL EZ : List Value} {X : World} (h : SW w CL ZL EZ X) (k : Nat) (v : Value) (hv : CL[k]? = some v) : X.cell? ⟨w.heap.size, k, none⟩ = some v := (fields5 _ _ _ _ _ h.c k).trans (by rw [List.getElem?_toArray]; exact hv)
theorem Kc.setCell {X : World} {b k : Nat} {v : Value} {E : Env} (h : SB E X) (h2 : b ≠ E.b2 ∧ b ≠ E.b3 ∧ b ≠ E.b5 ∧ b ≠ E.b6 ∧ b ≠ E.b7) : SB E (X.setCell ⟨b, k, none⟩ v) := by
  have kp : ∀ j, j ≠ b → (X.setCell ⟨b, k, none⟩ v).heap[j]? = X.heap[j]? := fun j hj => heap_setCell_other _ _ _ _ (by show j ≠ b; exact hj)
  exact ⟨(kp _ h2.1.symm).trans h.i, (kp _ h2.2.1.symm).trans h.ld, (kp _ h2.2.2.1.symm).trans h.imm, (kp _ h2.2.2.2.1.symm).trans h.go, (kp _ h2.2.2.2.2.symm).trans h.jp⟩
theorem SB.lt {E : Env} {w : World} (h : SB E w) : w.heap.size ≠ E.b2 ∧ w.heap.size ≠ E.b3 ∧ w.heap.size ≠ E.b5 ∧ w.heap.size ≠ E.b6 ∧ w.heap.size ≠ E.b7 := by
  have h1 := row_lt h.i; have h2 := row_lt h.ld; have h3 := row_lt h.imm; have h4 := row_lt h.go; have h5 := row_lt h.jp
  omega
theorem wp_enter {P : Program} {Q : Exit → Act → World → Prop} {o : Oper} {K : Act → World → Prop} {a : Act} {w : World} {f : FuncId} {args : Array Value} {R : Value → World → Prop} (hr : (execOp a.eval o).run P w = .ok (.enter f args) w)
    (hc : Calls P f args w fun e w' => ∃ v, e = .returned v ∧ R v w') (h : ∀ v w', R v w' → K (a.put o.dst v) w') : o.wp P a w K Q := by
  unfold Oper.wp
  rw [hr, Oper.upon_enter]
  refine hc.mono fun e w' hh => ?_
  obtain ⟨v, rfl, hR⟩ := hh
  exact h v w' hR
theorem run_call2 {a : Act} {o : Oper} {f x y : Operand} {ts : Array TypeId} (h : o.op = .call { callee := .value f, args := #[x, y], argTypes := ts }) {g : Nat} {caps : Array Value} {vx vy : Value} (hf : a.eval f = .func (.func g) #[] caps) (hx : a.eval x = vx) (hy : a.eval y = vy) (he : Enters Tryz.prog g) (w : World) : (execOp a.eval o).run Tryz.prog w = .ok (.enter g (#[vx, vy] ++ caps)) w := by
  unfold execOp
  simp only [h, resolve, hf]
  show (callFunc g _).run Tryz.prog w = _
  rw [he]; simp [hx, hy]
theorem run_call1 {a : Act} {o : Oper} {f x : Operand} {ts : Array TypeId} (h : o.op = .call { callee := .value f, args := #[x], argTypes := ts }) {g : Nat} {caps : Array Value} {vx : Value} (hf : a.eval f = .func (.func g) #[] caps) (hx : a.eval x = vx) (he : Enters Tryz.prog g) (w : World) : (execOp a.eval o).run Tryz.prog w = .ok (.enter g (#[vx] ++ caps)) w := by
  unfold execOp
  simp only [h, resolve, hf]
  show (callFunc g _).run Tryz.prog w = _
  rw [he]; simp [hx]
set_option maxHeartbeats 400000 in
set_option maxRecDepth 100000 in
theorem put1_any (s : St) (h : swf s) (E : Env) (r f : Nat) (caps : Array Value) (dn an bn : Nat) (hd : dn < 8) (ha : an < 8) (hb : bn < 8) (hi1 : E.i.d = (dn : Int)) (hi2 : E.i.a = (an : Int)) (hi3 : E.i.b = (bn : Int)) (R : Int) (w : World) (hS : SB E w) (hr : w.heap[r]? = some (.cells #[cV f caps] 105 (0, 0))) (he : Enters Tryz.prog f)
    (hRu : u64 R) (hR : ∀ X, SB E X → RkC f caps X (s.rs.getD an 0) (s.rs.getD bn 0) R) : Calls Tryz.prog 50 #[.agg (sL s).toArray, pB r, pB E.b2, pB E.b6] w fun e w' => DoEnd (St.go ⟨s.rs.set dn R, s.pc⟩) 0 0 w e w' := by
  have hs2 : swf ⟨s.rs.set dn R, s.pc⟩ := ⟨by simp [h.len], fun x hx => by rcases List.mem_or_eq_of_mem_set hx with hx | rfl; exact h.r x hx; exact hRu, h.p⟩
  have HRA : Hid _ := sL_reg h an ha
  have HRB : Hid _ := sL_reg h bn hb
  have HSR : Hid _ := sL_setreg h dn hd R
  have hzv := fun W => zero9 W
  have hz2 := fun W => zero2 W
  obtain ⟨ZL, hZL⟩ : ∃ L, L = Z9 := ⟨_, rfl⟩
  have HN0 : Hid (∀ L : List Value, SW w L Z9 (eL 0 0) (((w.alloc (.cells L.toArray 50 (0, 0))).alloc (.cells Z9.toArray 50 (0, 0))).alloc (.cells (eL 0 0).toArray 53 (0, 0)))) := fun L => SW.new w L
  have HZN : Hid (ZL.length = 9) := by rw [hZL]; rfl
  rw [← hZL] at hzv HN0
  obtain ⟨EZ, hEZ⟩ : ∃ L, L = eL 0 0 := ⟨_, rfl⟩
  have HEN : Hid (EZ.length = 2) := by rw [hEZ]; rfl
  rw [← hEZ] at hz2 HN0
  have HEZ : Hid _ := hEZ
  have HE1 : Hid (EZ.toArray.all (·.oneCell') = true) := by show _ = _; rw [hEZ]; exact eL_one 0 0
  clear hEZ
  have HPC : Hid _ := sL_pc h
  have HLEN : Hid _ := sL_len h
  have HONE : Hid _ := sL_one s
  have HSP : Hid (∀ x, (sL s).set 8 (U x) = sL ⟨s.rs, x⟩) := fun x => sL_setpc h x
  clear hZL
  generalize hCL : sL s = CL at *
  obtain ⟨CLX, hCLX⟩ : ∃ L, sL ⟨s.rs.set dn R, s.pc⟩ = L := ⟨_, rfl⟩
  rw [hCLX] at HSR
  have HGO : Hid (∀ W, Calls Tryz.prog 47 #[.agg CLX.toArray] W fun e w' => e = .returned (.tuple #[.agg (sL (St.go ⟨s.rs.set dn R, s.pc⟩)).toArray, .agg EZ.toArray]) ∧ Below W.heap.size W w') := fun W => by rw [← hCLX, HEZ.out]; exact goOn_any _ hs2 W
  have HXN : Hid (CLX.length = 9) := by show _ = _; rw [← hCLX]; exact sL_len hs2
  have H3N : Hid ((sL (St.go ⟨s.rs.set dn R, s.pc⟩)).length = 9) := sL_len hs2.go
  have H31 : Hid ((sL (St.go ⟨s.rs.set dn R, s.pc⟩)).toArray.all (·.oneCell') = true) := sL_one _
  obtain ⟨CL3, hCL3⟩ : ∃ L, sL (St.go ⟨s.rs.set dn R, s.pc⟩) = L := ⟨_, rfl⟩
  rw [hCL3] at HGO H3N H31
  have H3E : Hid _ := hCL3
  clear hCL3
  clear hCLX
  have hI1 : (iL E.i)[1]? = some (.int .i64 (dn : Int)) := by rw [← hi1]; rfl
  have hI2 : (iL E.i)[2]? = some (.int .i64 (an : Int)) := by rw [← hi2]; rfl
  have hI3 : (iL E.i)[3]? = some (.int .i64 (bn : Int)) := by rw [← hi3]; rfl
  have HI1 : Hid _ := hI1
  have HI2 : Hid _ := hI2
  have HI3 : Hid _ := hI3
  clear hI1 hI2 hI3 hi1 hi2 hi3
  generalize s.rs.getD an 0 = xa at *
  generalize s.rs.getD bn 0 = xb at *
  have HS0 : Hid (S57 w E r (cV f caps) ZL EZ (((w.alloc (.cells CL.toArray 50 (0, 0))).alloc (.cells ZL.toArray 50 (0, 0))).alloc (.cells EZ.toArray 53 (0, 0))).drew) := by
    have h1 := HN0.out CL
    have h2 : Below w.heap.size w _ := h1.bel
    exact (⟨⟨_, h1⟩, hS.keep (Kc.of_below h2), (h2.block _ (row_lt hr)).trans hr⟩ : S57 w E r (cV f caps) ZL EZ _).below (Below.drew (Below.refl _ _))
  have HER : Hid _ := hR
  have HW0 : Hid _ := (HN0.out CL).below (Below.drew (Below.refl _ _))
  have HLT : Hid _ := hS.lt
  have HRL : Hid (r ≠ w.heap.size) := by have := row_lt hr; show _ ≠ _; omega
  clear hS hr hR HPC HSP HN0
  have hai : ((an : Int) < 8) := by omega
  have hbi : ((bn : Int) < 8) := by omega
  have hdi : ((dn : Int) < 8) := by omega
  unfold pB
  go_enter Tryz.func50, Tryz.ntmps50
  go_wp2
  refine wp_region_held_drew (S := S57 w E r (cV f caps) ZL EZ) (by kernel_rfl) HS0.out (fun hHeld => ?_)
  generalize (((w.alloc (.cells CL.toArray 50 (0, 0))).alloc (.cells ZL.toArray 50 (0, 0))).alloc (.cells EZ.toArray 53 (0, 0))).drew = W at *
  refine wpAnyH_take (i := 0) (oi := { dst := some 7, op := Go.Op.fieldAddr 41 (Go.Operand.tmp 2) 1, type := 0, pos := _, after := #[], guard := none }) (v := .pointer (some ⟨E.b2, 1, none⟩)) rfl (by kernel_rfl) (by kernel_rfl) (by kernel_rfl) (fun _ _ _ h => h) (Or.inl ⟨by rfl, fun w' hw' => ?_⟩) hHeld ?_
  · first | (go_simp; done) | (go_simp; rfl)
  try simp only [Act.put, List.setIfInBounds_toArray, List.set_cons_zero, List.set_cons_succ]
  refine wpAnyH_take (i := 1) (oi := { dst := some 8, op := Go.Op.load 3 (Go.Operand.tmp 7), type := 3, pos := _, after := #[{ on := 0, ground := Go.Ground.data }], guard := none }) (v := .int .i64 (dn : Int)) rfl (by kernel_rfl) (by kernel_rfl) (by kernel_rfl) (fun _ _ _ h => h) (Or.inl ⟨by rfl, fun w' hw' => ?_⟩) hHeld ?_
  · have hcc := hw'.ci 1 _ HI1.out; first | (go_simp; done) | (go_simp; rfl)
  try simp only [Act.put, List.setIfInBounds_toArray, List.set_cons_zero, List.set_cons_succ]
  refine wpAnyH_take (i := 2) (oi := { dst := some 9, op := Go.Op.load 105 (Go.Operand.tmp 1), type := 105, pos := _, after := #[], guard := none }) (v := .func (.func f) #[] caps) rfl (by kernel_rfl) (by kernel_rfl) (by kernel_rfl) (fun _ _ _ h => h) (Or.inl ⟨by rfl, fun w' hw' => ?_⟩) hHeld ?_
  · have hcc : w'.cell? ⟨r, 0, none⟩ = some (.func (.func f) #[] caps) := (fields5 _ _ _ _ _ hw'.rr 0).trans rfl; first | (go_simp; done) | (go_simp; rfl)
  try simp only [Act.put, List.setIfInBounds_toArray, List.set_cons_zero, List.set_cons_succ]
  refine wpAnyH_take (i := 3) (oi := { dst := some 10, op := Go.Op.fieldAddr 41 (Go.Operand.tmp 2) 2, type := 0, pos := _, after := #[], guard := none }) (v := .pointer (some ⟨E.b2, 2, none⟩)) rfl (by kernel_rfl) (by kernel_rfl) (by kernel_rfl) (fun _ _ _ h => h) (Or.inl ⟨by rfl, fun w' hw' => ?_⟩) hHeld ?_
  · first | (go_simp; done) | (go_simp; rfl)
  try simp only [Act.put, List.setIfInBounds_toArray, List.set_cons_zero, List.set_cons_succ]
  refine wpAnyH_take (i := 4) (oi := { dst := some 11, op := Go.Op.load 3 (Go.Operand.tmp 10), type := 3, pos := _, after := #[{ on := 3, ground := Go.Ground.data }], guard := none }) (v := .int .i64 (an : Int)) rfl (by kernel_rfl) (by kernel_rfl) (by kernel_rfl) (fun _ _ _ h => h) (Or.inl ⟨by rfl, fun w' hw' => ?_⟩) hHeld ?_
  · have hcc := hw'.ci 2 _ HI2.out; first | (go_simp; done) | (go_simp; rfl)
  try simp only [Act.put, List.setIfInBounds_toArray, List.set_cons_zero, List.set_cons_succ]
  refine wpAnyH_take (i := 5) (oi := { dst := some 12, op := Go.Op.fieldAddr 50 (Go.Operand.tmp 4) 0, type := 0, pos := _, after := #[], guard := none }) (v := .pointer (some ⟨w.heap.size, 0, none⟩)) rfl (by kernel_rfl) (by kernel_rfl) (by kernel_rfl) (fun _ _ _ h => h) (Or.inl ⟨by rfl, fun w' hw' => ?_⟩) hHeld ?_
  · first | (go_simp; done) | (go_simp; rfl)
  try simp only [Act.put, List.setIfInBounds_toArray, List.set_cons_zero, List.set_cons_succ]
  refine wpAnyH_take (i := 6) (oi := { dst := some 13, op := Go.Op.indexAddr 48 (Go.Operand.tmp 12) (Go.Operand.tmp 11), type := 0, pos := _, after := #[{ on := 5, ground := Go.Ground.data }, { on := 4, ground := Go.Ground.data }], guard := none }) (v := .pointer (some ⟨w.heap.size, an, none⟩)) rfl (by kernel_rfl) (by kernel_rfl) (by kernel_rfl) (fun _ _ _ h => h) (Or.inl ⟨by rfl, fun w' hw' => ?_⟩) hHeld ?_
  · first | (go_simp; done) | (go_simp; rfl)
  try simp only [Act.put, List.setIfInBounds_toArray, List.set_cons_zero, List.set_cons_succ]
  refine wpAnyH_take (i := 8) (oi := { dst := some 15, op := Go.Op.fieldAddr 41 (Go.Operand.tmp 2) 3, type := 0, pos := _, after := #[], guard := none }) (v := .pointer (some ⟨E.b2, 3, none⟩)) rfl (by kernel_rfl) (by kernel_rfl) (by kernel_rfl) (fun _ _ _ h => h) (Or.inl ⟨by rfl, fun w' hw' => ?_⟩) hHeld ?_
  · first | (go_simp; done) | (go_simp; rfl)
  try simp only [Act.put, List.setIfInBounds_toArray, List.set_cons_zero, List.set_cons_succ]
  refine wpAnyH_take (i := 9) (oi := { dst := some 16, op := Go.Op.load 3 (Go.Operand.tmp 15), type := 3, pos := _, after := #[{ on := 8, ground := Go.Ground.data }], guard := none }) (v := .int .i64 (bn : Int)) rfl (by kernel_rfl) (by kernel_rfl) (by kernel_rfl) (fun _ _ _ h => h) (Or.inl ⟨by rfl, fun w' hw' => ?_⟩) hHeld ?_
  · have hcc := hw'.ci 3 _ HI3.out; first | (go_simp; done) | (go_simp; rfl)
  try simp only [Act.put, List.setIfInBounds_toArray, List.set_cons_zero, List.set_cons_succ]
  refine wpAnyH_take (i := 10) (oi := { dst := some 17, op := Go.Op.fieldAddr 50 (Go.Operand.tmp 4) 0, type := 0, pos := _, after := #[], guard := none }) (v := .pointer (some ⟨w.heap.size, 0, none⟩)) rfl (by kernel_rfl) (by kernel_rfl) (by kernel_rfl) (fun _ _ _ h => h) (Or.inl ⟨by rfl, fun w' hw' => ?_⟩) hHeld ?_
  · first | (go_simp; done) | (go_simp; rfl)
  try simp only [Act.put, List.setIfInBounds_toArray, List.set_cons_zero, List.set_cons_succ]
  refine wpAnyH_take (i := 11) (oi := { dst := some 18, op := Go.Op.indexAddr 48 (Go.Operand.tmp 17) (Go.Operand.tmp 16), type := 0, pos := _, after := #[{ on := 10, ground := Go.Ground.data }, { on := 9, ground := Go.Ground.data }], guard := none }) (v := .pointer (some ⟨w.heap.size, bn, none⟩)) rfl (by kernel_rfl) (by kernel_rfl) (by kernel_rfl) (fun _ _ _ h => h) (Or.inl ⟨by rfl, fun w' hw' => ?_⟩) hHeld ?_
  · first | (go_simp; done) | (go_simp; rfl)
  try simp only [Act.put, List.setIfInBounds_toArray, List.set_cons_zero, List.set_cons_succ]
  refine wpAnyH_take (i := 14) (oi := { dst := some 21, op := Go.Op.fieldAddr 50 (Go.Operand.tmp 4) 0, type := 0, pos := _, after := #[], guard := none }) (v := .pointer (some ⟨w.heap.size, 0, none⟩)) rfl (by kernel_rfl) (by kernel_rfl) (by kernel_rfl) (fun _ _ _ h => h) (Or.inl ⟨by rfl, fun w' hw' => ?_⟩) hHeld ?_
  · first | (go_simp; done) | (go_simp; rfl)
  try simp only [Act.put, List.setIfInBounds_toArray, List.set_cons_zero, List.set_cons_succ]
  have hcA : W.cell? ⟨w.heap.size, an, none⟩ = some (.int .u64 xa) := HW0.out.cc an _ HRA.out
  have hcB : W.cell? ⟨w.heap.size, bn, none⟩ = some (.int .u64 xb) := HW0.out.cc bn _ HRB.out
  have hcd : ∃ v, W.cell? ⟨w.heap.size, dn, none⟩ = some v := ⟨_, HW0.out.cc dn _ (List.getElem?_eq_getElem (by rw [HLEN.out]; omega))⟩
  obtain ⟨vd, hcd⟩ := hcd
  have HCD : Hid (W.cell? ⟨w.heap.size, dn, none⟩ = some vd) := hcd
  clear hcd
  have HFD : Hid _ := frozen_of_row _ _ dn _ _ HW0.out.c
  have HSW : Hid _ := HW0.out.cellc dn (.int .u64 R) _ HSR.out
  have HSE : Hid (S57 w E r (cV f caps) ZL EZ (W.setCell ⟨w.heap.size, dn, none⟩ (.int .u64 R))) := ⟨⟨_, HSW.out⟩, Kc.setCell hHeld.sb HLT.out, (heap_setCell_other _ _ _ _ (by show r ≠ w.heap.size; exact HRL.out)).trans hHeld.rr⟩
  refine wpAnyH_ready (rs := [7, 12]) (by kernel_rfl) (by simp) ?_
  refine AllReadyH.cons (o := { dst := some 14, op := Go.Op.load 36 (Go.Operand.tmp 13), type := 36, pos := _, after := #[{ on := 6, ground := Go.Ground.data }], guard := none }) rfl (fun K hK => ?_) (AllReadyH.cons (o := { dst := some 19, op := Go.Op.load 36 (Go.Operand.tmp 18), type := 36, pos := _, after := #[{ on := 11, ground := Go.Ground.data }], guard := none }) rfl (fun K hK => ?_) AllReadyH.nil)
  all_goals rw [if_pos (by rfl)]
  · go_wp2
    refine hK.out _ _ hHeld (fun _ => ?_)
    clear hK K
    try simp only [Act.put, List.setIfInBounds_toArray, List.set_cons_zero, List.set_cons_succ]
    refine wpAnyH_ready (rs := [12]) (by kernel_rfl) (by simp) ?_
    refine AllReadyH.cons (o := { dst := some 19, op := Go.Op.load 36 (Go.Operand.tmp 18), type := 36, pos := _, after := #[{ on := 11, ground := Go.Ground.data }], guard := none }) rfl (fun K hK => ?_) AllReadyH.nil
    rw [if_pos (by rfl)]
    go_wp2
    refine hK.out _ _ hHeld (fun _ => ?_)
    clear hK K
    try simp only [Act.put, List.setIfInBounds_toArray, List.set_cons_zero, List.set_cons_succ]
    refine wpAnyH_ready (rs := [13]) (by kernel_rfl) (by simp) ?_
    refine AllReadyH.cons (o := { dst := some 20, op := Go.Op.call { callee := Go.Callee.value (Go.Operand.tmp 9), args := #[Go.Operand.tmp 14, Go.Operand.tmp 19], argTypes := #[36, 36] }, type := 36, pos := _, after := #[{ on := 2, ground := Go.Ground.data }, { on := 7, ground := Go.Ground.data }, { on := 12, ground := Go.Ground.data }], guard := none }) rfl (fun K hK => ?_) AllReadyH.nil
    rw [if_pos (by rfl)]
    refine wp_enter (R := fun v w' => v = .int .u64 R ∧ w' = W) (run_call2 (vx := .int .u64 xa) (vy := .int .u64 xb) rfl rfl rfl rfl he W) ((HER.out W hHeld.sb).mono fun e w' hh => ⟨_, hh.1, rfl, hh.2.symm⟩) ?_
    rintro v w' ⟨rfl, rfl⟩
    refine hK.out _ _ hHeld (fun _ => ?_)
    clear hK K
    try simp only [Act.put, List.setIfInBounds_toArray, List.set_cons_zero, List.set_cons_succ]
    refine wpAnyH_take (i := 15) (oi := { dst := some 22, op := Go.Op.indexAddr 48 (Go.Operand.tmp 21) (Go.Operand.tmp 8), type := 0, pos := _, after := #[{ on := 14, ground := Go.Ground.data }, { on := 1, ground := Go.Ground.data }, { on := 0, ground := Go.Ground.phase }, { on := 1, ground := Go.Ground.phase }, { on := 2, ground := Go.Ground.phase }, { on := 3, ground := Go.Ground.phase }, { on := 4, ground := Go.Ground.phase }, { on := 5, ground := Go.Ground.phase }, { on := 6, ground := Go.Ground.phase }, { on := 7, ground := Go.Ground.phase }, { on := 8, ground := Go.Ground.phase }, { on := 9, ground := Go.Ground.phase }, { on := 10, ground := Go.Ground.phase }, { on := 11, ground := Go.Ground.phase }, { on := 12, ground := Go.Ground.phase }, { on := 13, ground := Go.Ground.phase }], guard := none }) (v := .pointer (some ⟨w.heap.size, dn, none⟩)) rfl (by kernel_rfl) (by kernel_rfl) (by kernel_rfl) (fun _ _ _ h => h) (Or.inl ⟨by rfl, fun w' hw' => ?_⟩) hHeld ?_
    · first | (go_simp; done) | (go_simp; rfl)
    try simp only [Act.put, List.setIfInBounds_toArray, List.set_cons_zero, List.set_cons_succ]
    have hcd := HCD.out
    have hfd := HFD.out
    refine wpAnyH_ready (rs := [16]) (by kernel_rfl) (by simp) ?_
    refine AllReadyH.cons (o := { dst := none, op := Go.Op.store 36 (Go.Operand.tmp 22) (Go.Operand.tmp 20), type := 0, pos := _, after := #[{ on := 15, ground := Go.Ground.data }, { on := 13, ground := Go.Ground.data }, { on := 13, ground := Go.Ground.chain }, { on := 0, ground := Go.Ground.phase }, { on := 1, ground := Go.Ground.phase }, { on := 2, ground := Go.Ground.phase }, { on := 3, ground := Go.Ground.phase }, { on := 4, ground := Go.Ground.phase }, { on := 5, ground := Go.Ground.phase }, { on := 6, ground := Go.Ground.phase }, { on := 7, ground := Go.Ground.phase }, { on := 8, ground := Go.Ground.phase }, { on := 9, ground := Go.Ground.phase }, { on := 10, ground := Go.Ground.phase }, { on := 11, ground := Go.Ground.phase }, { on := 12, ground := Go.Ground.phase }, { on := 13, ground := Go.Ground.phase }], guard := none }) rfl (fun K hK => ?_) AllReadyH.nil
    rw [if_pos (by rfl)]
    go_wp2
    refine hK.out _ _ HSE.out (fun _ => ?_)
    clear hK K
    try simp only [Act.put, List.setIfInBounds_toArray, List.set_cons_zero, List.set_cons_succ]
    refine wpAnyH_done (by kernel_rfl) ?_ _
    have hcg : (w'.setCell ⟨w.heap.size, dn, none⟩ (.int .u64 R)).cell? ⟨E.b6, 0, none⟩ = some (.func (.func 47) #[] #[]) := (fields5 _ _ _ _ _ HSE.out.sb.go 0).trans rfl
    have HX : Hid (SW w CLX ZL EZ (w'.setCell ⟨w.heap.size, dn, none⟩ (.int .u64 R))) := HSW.out
    clear hHeld hcA hcB hcd hfd HCD HFD HW0 HSE HSW
    generalize w'.setCell ⟨w.heap.size, dn, none⟩ (.int .u64 R) = X at *
    go_wp2_with (first
      | (refine wpList_load_mid rfl 50 _ rfl w.heap.size 0 rfl CLX _ (rangeAt_row HX.out.c) Tryz.underlying50 rfl (info9 CLX HXN.out) ?_)
      | (go_at_call 47; refine Calls.mono (HGO.out _) ?_; rintro e Y ⟨rfl, hbY⟩; (have HY : Hid (SW w CLX ZL EZ Y) := HX.out.below hbY); clear hbY)
      | (refine wpList_store_row rfl 50 _ _ rfl (w.heap.size + 1) CL3.toArray rfl rfl 50 ZL.toArray HY.out.r (info9a CL3 H3N.out) (by simp [HZN.out, H3N.out]) H31.out ?_)
      | (refine wpList_store_row rfl 53 _ _ rfl (w.heap.size + 1 + 1) EZ.toArray rfl rfl 53 EZ.toArray (HY.out.rowr CL3).e (info2a EZ HEN.out) rfl HE1.out ?_))
    refine bodyPost_ret (v := .tuple #[.agg CL3.toArray, .agg EZ.toArray]) (results22 Tryz.results50 _ w _ ((HY.out.rowr CL3).rowe EZ) H3N.out HEN.out rfl rfl) rfl ⟨by rw [H3E.out, HEZ.out], ((HY.out.rowr CL3).rowe EZ).bel⟩
  · go_wp2
    refine hK.out _ _ hHeld (fun _ => ?_)
    clear hK K
    try simp only [Act.put, List.setIfInBounds_toArray, List.set_cons_zero, List.set_cons_succ]
    refine wpAnyH_ready (rs := [7]) (by kernel_rfl) (by simp) ?_
    refine AllReadyH.cons (o := { dst := some 14, op := Go.Op.load 36 (Go.Operand.tmp 13), type := 36, pos := _, after := #[{ on := 6, ground := Go.Ground.data }], guard := none }) rfl (fun K hK => ?_) AllReadyH.nil
    rw [if_pos (by rfl)]
    go_wp2
    refine hK.out _ _ hHeld (fun _ => ?_)
    clear hK K
    try simp only [Act.put, List.setIfInBounds_toArray, List.set_cons_zero, List.set_cons_succ]
    refine wpAnyH_ready (rs := [13]) (by kernel_rfl) (by simp) ?_
    refine AllReadyH.cons (o := { dst := some 20, op := Go.Op.call { callee := Go.Callee.value (Go.Operand.tmp 9), args := #[Go.Operand.tmp 14, Go.Operand.tmp 19], argTypes := #[36, 36] }, type := 36, pos := _, after := #[{ on := 2, ground := Go.Ground.data }, { on := 7, ground := Go.Ground.data }, { on := 12, ground := Go.Ground.data }], guard := none }) rfl (fun K hK => ?_) AllReadyH.nil
    rw [if_pos (by rfl)]
    refine wp_enter (R := fun v w' => v = .int .u64 R ∧ w' = W) (run_call2 (vx := .int .u64 xa) (vy := .int .u64 xb) rfl rfl rfl rfl he W) ((HER.out W hHeld.sb).mono fun e w' hh => ⟨_, hh.1, rfl, hh.2.symm⟩) ?_
    rintro v w' ⟨rfl, rfl⟩
    refine hK.out _ _ hHeld (fun _ => ?_)
    clear hK K
    try simp only [Act.put, List.setIfInBounds_toArray, List.set_cons_zero, List.set_cons_succ]
    refine wpAnyH_take (i := 15) (oi := { dst := some 22, op := Go.Op.indexAddr 48 (Go.Operand.tmp 21) (Go.Operand.tmp 8), type := 0, pos := _, after := #[{ on := 14, ground := Go.Ground.data }, { on := 1, ground := Go.Ground.data }, { on := 0, ground := Go.Ground.phase }, { on := 1, ground := Go.Ground.phase }, { on := 2, ground := Go.Ground.phase }, { on := 3, ground := Go.Ground.phase }, { on := 4, ground := Go.Ground.phase }, { on := 5, ground := Go.Ground.phase }, { on := 6, ground := Go.Ground.phase }, { on := 7, ground := Go.Ground.phase }, { on := 8, ground := Go.Ground.phase }, { on := 9, ground := Go.Ground.phase }, { on := 10, ground := Go.Ground.phase }, { on := 11, ground := Go.Ground.phase }, { on := 12, ground := Go.Ground.phase }, { on := 13, ground := Go.Ground.phase }], guard := none }) (v := .pointer (some ⟨w.heap.size, dn, none⟩)) rfl (by kernel_rfl) (by kernel_rfl) (by kernel_rfl) (fun _ _ _ h => h) (Or.inl ⟨by rfl, fun w' hw' => ?_⟩) hHeld ?_
    · first | (go_simp; done) | (go_simp; rfl)
    try simp only [Act.put, List.setIfInBounds_toArray, List.set_cons_zero, List.set_cons_succ]
    have hcd := HCD.out
    have hfd := HFD.out
    refine wpAnyH_ready (rs := [16]) (by kernel_rfl) (by simp) ?_
    refine AllReadyH.cons (o := { dst := none, op := Go.Op.store 36 (Go.Operand.tmp 22) (Go.Operand.tmp 20), type := 0, pos := _, after := #[{ on := 15, ground := Go.Ground.data }, { on := 13, ground := Go.Ground.data }, { on := 13, ground := Go.Ground.chain }, { on := 0, ground := Go.Ground.phase }, { on := 1, ground := Go.Ground.phase }, { on := 2, ground := Go.Ground.phase }, { on := 3, ground := Go.Ground.phase }, { on := 4, ground := Go.Ground.phase }, { on := 5, ground := Go.Ground.phase }, { on := 6, ground := Go.Ground.phase }, { on := 7, ground := Go.Ground.phase }, { on := 8, ground := Go.Ground.phase }, { on := 9, ground := Go.Ground.phase }, { on := 10, ground := Go.Ground.phase }, { on := 11, ground := Go.Ground.phase }, { on := 12, ground := Go.Ground.phase }, { on := 13, ground := Go.Ground.phase }], guard := none }) rfl (fun K hK => ?_) AllReadyH.nil
    rw [if_pos (by rfl)]
    go_wp2
    refine hK.out _ _ HSE.out (fun _ => ?_)
    clear hK K
    try simp only [Act.put, List.setIfInBounds_toArray, List.set_cons_zero, List.set_cons_succ]
    refine wpAnyH_done (by kernel_rfl) ?_ _
    have hcg : (w'.setCell ⟨w.heap.size, dn, none⟩ (.int .u64 R)).cell? ⟨E.b6, 0, none⟩ = some (.func (.func 47) #[] #[]) := (fields5 _ _ _ _ _ HSE.out.sb.go 0).trans rfl
    have HX : Hid (SW w CLX ZL EZ (w'.setCell ⟨w.heap.size, dn, none⟩ (.int .u64 R))) := HSW.out
    clear hHeld hcA hcB hcd hfd HCD HFD HW0 HSE HSW
    generalize w'.setCell ⟨w.heap.size, dn, none⟩ (.int .u64 R) = X at *
    go_wp2_with (first
      | (refine wpList_load_mid rfl 50 _ rfl w.heap.size 0 rfl CLX _ (rangeAt_row HX.out.c) Tryz.underlying50 rfl (info9 CLX HXN.out) ?_)
      | (go_at_call 47; refine Calls.mono (HGO.out _) ?_; rintro e Y ⟨rfl, hbY⟩; (have HY : Hid (SW w CLX ZL EZ Y) := HX.out.below hbY); clear hbY)
      | (refine wpList_store_row rfl 50 _ _ rfl (w.heap.size + 1) CL3.toArray rfl rfl 50 ZL.toArray HY.out.r (info9a CL3 H3N.out) (by simp [HZN.out, H3N.out]) H31.out ?_)
      | (refine wpList_store_row rfl 53 _ _ rfl (w.heap.size + 1 + 1) EZ.toArray rfl rfl 53 EZ.toArray (HY.out.rowr CL3).e (info2a EZ HEN.out) rfl HE1.out ?_))
    refine bodyPost_ret (v := .tuple #[.agg CL3.toArray, .agg EZ.toArray]) (results22 Tryz.results50 _ w _ ((HY.out.rowr CL3).rowe EZ) H3N.out HEN.out rfl rfl) rfl ⟨by rw [H3E.out, HEZ.out], ((HY.out.rowr CL3).rowe EZ).bel⟩
end Go.Proofs.YtkpjfhphohanlaaGreatDoor.JC
