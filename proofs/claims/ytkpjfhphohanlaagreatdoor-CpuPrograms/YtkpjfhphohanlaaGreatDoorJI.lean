/- cpu: deeds: the operations that make the map, one by one. -/
import Derived.Test.YtkpjfhphohanlaaGreatDoorJH
import Derived.Test.YtkpjfhphohanlaaGreatDoorJS
set_option linter.unusedVariables false
set_option linter.unusedSimpArgs false
namespace Go.Proofs.YtkpjfhphohanlaaGreatDoor.JC
open Go.RowKit
open Go.Proofs.YtkpjfhphohanlaaGreatDoor.EC (row_lt heap_at rangeAt_below rangeAt_row ret_bool ret_i64 beq_int)

/-- put, ask. -/
theorem put_any (fv : Value) (hfv : ∃ f c, fv = cV f c) (c1 c2 : Nat) (w : World) : Calls Tryz.prog 49 #[fv, pB c1, pB c2] w fun e w' => e = .returned (cV 50 #[pB w.heap.size, pB c1, pB c2]) ∧ w' = w.alloc (.cells #[fv] 105 (0, 0)) := by
  obtain ⟨f, c, rfl⟩ := hfv
  unfold cV pB
  go_enter Tryz.func49, Tryz.ntmps49
  go_wp2
  go_ret
  exact ⟨rfl, rfl⟩
theorem ask_any (k x : Int) (c1 : Nat) (w : World) : Calls Tryz.prog 51 #[.int .i64 k, .int .i64 x, pB c1] w fun e w' => e = .returned (cV 52 #[pB c1, pB w.heap.size, pB (w.heap.size + 1)]) ∧ w' = (w.alloc (.cells #[.int .i64 k] 51 (0, 0))).alloc (.cells #[.int .i64 x] 3 (0, 0)) := by
  unfold cV pB
  go_enter Tryz.func51, Tryz.ntmps51
  go_wp2
  go_ret
  exact ⟨rfl, rfl⟩
def regOf (f : Func) (n : Nat) : Array Oper := (f.body.bind (findR n)).getD #[]
theorem dOp {i : Nat} {X : Op} {D : Option Tmp} (h : (((regOf Tryz.f28 6)[i]?).map fun o => (o.op, o.dst, o.guard)) = some (X, D, none)) : ∃ o, (regOf Tryz.f28 6)[i]? = some o ∧ o.op = X ∧ o.dst = D ∧ o.guard = none := by
  rw [Option.map_eq_some_iff] at h
  obtain ⟨o, ho, e⟩ := h
  simp only [Prod.mk.injEq] at e
  exact ⟨o, ho, e.1, e.2.1, e.2.2⟩
theorem dNeed {l : Array Bool} {i j : Nat} (hi : i ∈ Region.ready .any (regOf Tryz.f28 6) l) (h : (((regOf Tryz.f28 6)[i]?).map fun o => o.after.any fun e => e.on == j && Region.binds .any e) = some true) : l.getD j false = true := by
  obtain ⟨_, o, ho, hall⟩ := mem_ready.1 hi
  rw [ho] at h
  simp only [Option.map_some, Option.some.injEq, Array.any_eq_true'] at h
  obtain ⟨e, he, h2⟩ := h
  simp only [Bool.and_eq_true, beq_iff_eq] at h2
  rw [← h2.1]
  exact hall e he h2.2
theorem unlisted {l : Array Bool} {i : Nat} (hs : i < l.size) (hi : i ∈ Region.ready .any (regOf Tryz.f28 6) l) : l.getD i false = false := by
  have := (mem_ready.1 hi).1
  simp [Array.getD, hs] at this ⊢
  exact this
theorem run_move {a : Act} {o : Oper} {x : Operand} (h : o.op = .move x) (w : World) : (execOp a.eval o).run Tryz.prog w = .ok (.value (a.eval x)) w := by unfold execOp; simp only [h]; rfl
theorem run_assign {a : Act} {o : Oper} {x : Operand} (h : o.op = .assign x) (w : World) : (execOp a.eval o).run Tryz.prog w = .ok (.value (a.eval x)) w := by unfold execOp; simp only [h]; rfl
theorem run_clo {a : Act} {o : Oper} {f : Nat} {c : Array Operand} (h : o.op = .makeFunc (.func f) #[] c) (w : World) : (execOp a.eval o).run Tryz.prog w = .ok (.value (cV f (c.map a.eval))) w := by unfold execOp cV; simp only [h]; go_simp
theorem run_ld {a : Act} {o : Oper} {t : TypeId} {x : Operand} {b k : Nat} {v : Value} (h : o.op = .load t x) (hx : a.eval x = .pointer (some ⟨b, k, none⟩)) (w : World) (hl : (Instr.loadAt t (.pointer (some ⟨b, k, none⟩))).run Tryz.prog w = .ok v w) : (execOp a.eval o).run Tryz.prog w = .ok (.value v) w := by
  unfold execOp; simp only [h, hx, Sem.run_bind, hl, Result.andThen_ok]; rfl
theorem run_fld {a : Act} {o : Oper} {x : Operand} {b k : Nat} (h : o.op = .fieldAddr 41 x k) (hk : k = 1 ∨ k = 4) (hx : a.eval x = pB b) (w : World) : (execOp a.eval o).run Tryz.prog w = .ok (.value (.pointer (some ⟨b, k, none⟩))) w := by
  unfold execOp pB at *
  rcases hk with rfl | rfl
  · simp only [h, hx]; go_simp
  · simp only [h, hx]; go_simp
theorem run_mk {a : Act} {o : Oper} (h : o.op = .makeMap 82 none) (w : World) : (execOp a.eval o).run Tryz.prog w = .ok (.value (.map (some w.heap.size))) (w.alloc (.map #[] 0)) := by
  have hmm := @run_makeMap Tryz.prog
  unfold execOp
  simp only [h, Option.map_none]
  go_simp
theorem run_ins {a : Act} {o : Oper} {m x : Operand} {k : Int} (h : o.op = .insert 82 m (.const (.int .i64 k)) x) {w w' : World} (hr : (Instr.mapUpdate 82 (a.eval m) (.int .i64 k) (a.eval x)).run Tryz.prog w = .ok () w') : (execOp a.eval o).run Tryz.prog w = .ok .skip w' := by
  unfold execOp
  simp only [h, Sem.run_bind]
  show Result.andThen ((Instr.mapUpdate 82 (a.eval m) (.int .i64 k) (a.eval x)).run Tryz.prog w) _ = _
  rw [hr]; rfl
theorem run_put {a : Act} {o : Oper} {f x : Operand} {ts : Array TypeId} (h : o.op = .call { callee := .value f, args := #[x], argTypes := ts }) {b1 b2 : Nat} (hf : a.eval f = cV 49 #[pB b1, pB b2]) (w : World) : (execOp a.eval o).run Tryz.prog w = .ok (.enter 49 #[a.eval x, pB b1, pB b2]) w := by
  have he : ∀ args w, (callFunc 49 args).run Tryz.prog w = .ok (.enter 49 args) w := enters_of Tryz.func49 (by kernel_rfl) rfl
  unfold execOp
  simp only [h, resolve, hf, cV]
  show (callFunc 49 _).run Tryz.prog w = _
  rw [he]; simp [Act.eval, cV]
theorem run_ask {a : Act} {o : Oper} {f x : Operand} {k : Value} {ts : Array TypeId} (h : o.op = .call { callee := .value f, args := #[.const k, x], argTypes := ts }) {b1 : Nat} (hf : a.eval f = cV 51 #[pB b1]) (w : World) : (execOp a.eval o).run Tryz.prog w = .ok (.enter 51 #[k, a.eval x, pB b1]) w := by
  have he : ∀ args w, (callFunc 51 args).run Tryz.prog w = .ok (.enter 51 args) w := enters_of Tryz.func51 (by kernel_rfl) rfl
  unfold execOp
  simp only [h, resolve, hf, cV]
  show (callFunc 51 _).run Tryz.prog w = _
  rw [he]; simp [Act.eval, cV]
end Go.Proofs.YtkpjfhphohanlaaGreatDoor.JC
