/- cpu: what the document makes of a text of an instruction: the walk. -/
import Derived.Test.YtkpjfhphohanlaaGreatDoorLT
set_option linter.unusedVariables false
set_option linter.unusedSimpArgs false
namespace Go.Proofs.YtkpjfhphohanlaaGreatDoor.JC
open Go.RowKit
open Go.Proofs.YtkpjfhphohanlaaGreatDoor.EC (row_lt heap_at rangeAt_below rangeAt_row ret_bool ret_i64 beq_int)

/-- The round's rows: the instruction that is made, and which parts it has. -/
structure UR (W1 : World) (ib bb : Nat) (IL BL : List Value) (Z : World) : Prop where
  bel : Below W1.heap.size W1 Z
  ge : W1.heap.size ≤ ib
  ne : bb ≠ ib
  i : Z.heap[ib]? = some (.cells IL.toArray 41 (0, 0))
  b : Z.heap[bb]? = some (.cells BL.toArray 4 (0, 0))
theorem UR.below {W1 : World} {ib bb : Nat} {IL BL : List Value} {Z Y : World} (h : UR W1 ib bb IL BL Z) (hb : Below Z.heap.size Z Y) : UR W1 ib bb IL BL Y :=
  ⟨h.bel.trans (hb.mono h.bel.size), h.ge, h.ne, (hb.block _ (row_lt h.i)).trans h.i, (hb.block _ (row_lt h.b)).trans h.b⟩
theorem UR.set {W1 : World} {ib bb : Nat} {IL BL : List Value} {Z : World} (h : UR W1 ib bb IL BL Z) (k : Nat) (v : Value) : UR W1 ib bb (IL.set k v) BL (Z.setCell ⟨ib, k, none⟩ v) := by
  refine ⟨h.bel.setCell (p := ⟨ib, k, none⟩) h.ge v, h.ge, h.ne, ?_, (heap_setCell_other _ _ _ _ h.ne).trans h.b⟩
  have e := heap_setCell_same _ _ k _ _ v h.i
  rw [List.setIfInBounds_toArray] at e
  exact e
theorem UR.cb {W1 : World} {ib bb : Nat} {IL BL : List Value} {Z : World} (h : UR W1 ib bb IL BL Z) (k : Nat) (v : Value) (hv : BL[k]? = some v) : Z.cell? ⟨bb, k, none⟩ = some v := (fields5 _ _ _ _ _ h.b k).trans (by rw [List.getElem?_toArray]; exact hv)
theorem run_sti3 (w : World) (b k : Nat) (OL : List Value) (t : TypeId) (hrow : w.heap[b]? = some (.cells OL.toArray t (0, 0))) (hk : k < OL.length) (x : Int) : (Instr.storeAt 3 (.pointer (some ⟨b, k, none⟩)) (.int .i64 x)).run Tryz.prog w = .ok () (w.setCell ⟨b, k, none⟩ (.int .i64 x)) := by
  have hc := fields5 _ _ _ _ _ hrow k
  rw [List.getElem?_toArray, List.getElem?_eq_getElem hk] at hc
  have hf := frozen_of_row _ _ k _ _ hrow
  generalize OL[k] = ov at *
  unfold Instr.storeAt Instr.sureAddr
  go_simp
theorem wpList_sti3 {ops : Array Oper} {rest : List Oper} {o : Oper} {a : Act} {w : World} {Q : Exit → Act → World → Prop} (hgd : o.guard = none) (x y : Operand) (ho : o.op = .store 3 x y)
    (b k : Nat) (v : Int) (hx : a.eval x = .pointer (some ⟨b, k, none⟩)) (hy : a.eval y = .int .i64 v) (OL : List Value) (t : TypeId) (hrow : w.heap[b]? = some (.cells OL.toArray t (0, 0))) (hk : k < OL.length)
    (h : ∀ W', W' = w.setCell ⟨b, k, none⟩ (.int .i64 v) → wpList Tryz.prog ops Q rest (a.put o.dst undef) W') : wpList Tryz.prog ops Q (o :: rest) a w :=
  wpList_plain hgd fun _ hK => by
    unfold Oper.wp execOp
    simp only [ho, hx, hy, Sem.run_bind, run_sti3 w b k OL t hrow hk v, Result.andThen_ok]
    exact hK _ _ (h _ rfl)
theorem run_sti2 (w : World) (b k : Nat) (OL : List Value) (t : TypeId) (hrow : w.heap[b]? = some (.cells OL.toArray t (0, 0))) (hk : k < OL.length) (x : Int) : (Instr.storeAt 2 (.pointer (some ⟨b, k, none⟩)) (.int .i64 x)).run Tryz.prog w = .ok () (w.setCell ⟨b, k, none⟩ (.int .i64 x)) := by
  have hc := fields5 _ _ _ _ _ hrow k
  rw [List.getElem?_toArray, List.getElem?_eq_getElem hk] at hc
  have hf := frozen_of_row _ _ k _ _ hrow
  generalize OL[k] = ov at *
  unfold Instr.storeAt Instr.sureAddr
  go_simp
theorem wpList_sti2 {ops : Array Oper} {rest : List Oper} {o : Oper} {a : Act} {w : World} {Q : Exit → Act → World → Prop} (hgd : o.guard = none) (x y : Operand) (ho : o.op = .store 2 x y)
    (b k : Nat) (v : Int) (hx : a.eval x = .pointer (some ⟨b, k, none⟩)) (hy : a.eval y = .int .i64 v) (OL : List Value) (t : TypeId) (hrow : w.heap[b]? = some (.cells OL.toArray t (0, 0))) (hk : k < OL.length)
    (h : ∀ W', W' = w.setCell ⟨b, k, none⟩ (.int .i64 v) → wpList Tryz.prog ops Q rest (a.put o.dst undef) W') : wpList Tryz.prog ops Q (o :: rest) a w :=
  wpList_plain hgd fun _ hK => by
    unfold Oper.wp execOp
    simp only [ho, hx, hy, Sem.run_bind, run_sti2 w b k OL t hrow hk v, Result.andThen_ok]
    exact hK _ _ (h _ rfl)
theorem cS_on {op : Int} {ps : List (List UInt8)} {k A : Nat} {I : Ins} (h : cS op ps k = (A, I)) (hf : fk op k = true) (hA : A < ps.length) : cS op ps (k + 1) = (A + 1, setI I k (pv k (ps.getD A []))) := by
  show (if fk op k = true ∧ (cS op ps k).1 < ps.length then _ else _) = _
  rw [h, if_pos ⟨hf, hA⟩]
theorem cS_no {op : Int} {ps : List (List UInt8)} {k A : Nat} {I : Ins} (h : cS op ps k = (A, I)) (hf : ¬ (fk op k = true ∧ A < ps.length)) : cS op ps (k + 1) = (A, I) := by
  show (if fk op k = true ∧ (cS op ps k).1 < ps.length then _ else _) = _
  rw [h, if_neg hf]
theorem iL_set (I : Ins) (k : Nat) (hk : k < 4) (n : Int) : iL (setI I k n) = (iL I).set (k + 1) (.int .i64 n) := by
  obtain rfl | rfl | rfl | rfl : k = 0 ∨ k = 1 ∨ k = 2 ∨ k = 3 := by omega
  all_goals rfl
theorem iL_n (I : Ins) : (iL I).length = 5 := rfl
end Go.Proofs.YtkpjfhphohanlaaGreatDoor.JC
