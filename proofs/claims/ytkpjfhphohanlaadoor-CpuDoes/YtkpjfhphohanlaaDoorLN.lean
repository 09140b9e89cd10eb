/- Two aggregates told apart by an operation. -/
import Derived.Test.YtkpjfhphohanlaaDoorJZ
set_option linter.unusedVariables false
set_option linter.unusedSimpArgs false
namespace Go.Proofs.YtkpjfhphohanlaaDoor.JC
open Go.RowKit
theorem eqg (t : TypeId) (x y : Operand) (xs ys : Array Value) (W : World) (h : Tryd.prog.eqGuardType Tryd.prog.depth t = false) : (eqGuard .eql t x y (.agg xs) (.agg ys)).run Tryd.prog W = .ok () W := by
  unfold eqGuard
  simp [h]
theorem run_eql {a : Act} {o : Oper} {t u : TypeId} {x y : Operand} {xs ys : Array Value} {w : World} (ho : o.op = .binOp .eql t x y u) (hx : a.eval x = .agg xs) (hy : a.eval y = .agg ys) (hg : Tryd.prog.eqGuardType Tryd.prog.depth t = false) (hq : (Op.equalIn 10000 t (.agg xs) (.agg ys)).run Tryd.prog w = .ok true w) : (execOp a.eval o).run Tryd.prog w = .ok (.value (.bool true)) w := by
  have h1 := eqg t x y xs ys w hg
  have h2 : (binOp .eql t (.agg xs) (.agg ys)).run Tryd.prog w = .ok (.bool true) w := by
    have e : Op.equal t (.agg xs) (.agg ys) = Op.equalIn 10000 t (.agg xs) (.agg ys) := rfl
    show ((do pure (.bool (← Op.equal t (.agg xs) (.agg ys))) : Sem Value)).run Tryd.prog w = _
    rw [e]
    simp [hq]
  unfold execOp
  simp only [ho, hx, hy, Sem.run_bind, h1, h2, Result.andThen_ok]
  rfl
theorem gC : Tryd.prog.eqGuardType Tryd.prog.depth 45 = false := by kernel_rfl
theorem gE : Tryd.prog.eqGuardType Tryd.prog.depth 48 = false := by kernel_rfl
theorem gN : Tryd.prog.eqGuardType Tryd.prog.depth 53 = false := by kernel_rfl
theorem gI : Tryd.prog.eqGuardType Tryd.prog.depth 24 = false := by kernel_rfl
end Go.Proofs.YtkpjfhphohanlaaDoor.JC
