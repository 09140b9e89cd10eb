/- cpu: the library's Builder, laid by hand. -/
import Derived.Test.YtkpjfhphohanlabDoorJU
set_option linter.unusedVariables false
set_option linter.unusedSimpArgs false
namespace Go.Proofs
open Go.Shelf
open Go.Proofs.YtkpjfhphohanlabDoor
def bren : Go.Shelf.Ren := ⟨fun | 166 => 23 | 240 => 36 | 276 => 68 | n => n, fun | 70 => 69 | 9 => 9 | 0 => 0 | 72 => 72 | 37 => 70 | 3 => 3 | 4 => 4 | 5 => 5 | 20 => 20 | 75 => 74 | 80 => 77 | 164 => 104 | n => n, fun | n => n⟩
theorem b166 : Tryd.f23 = Body.n166 bren := by kernel_rfl
theorem b240 : Tryd.f36 = Body.n240 bren := by kernel_rfl
theorem b276 : Tryd.f68 = Body.n276 bren := by kernel_rfl
theorem bmixed : Tryd.prog.follows .mixedOrders = true := by kernel_rfl
theorem blays : Go.Proofs.Lays.n166 Tryd.prog bren := {
  mixed := bmixed
  f166 := Tryd.func23.trans (congrArg some b166)
  f240 := Tryd.func36.trans (congrArg some b240)
  f276 := Tryd.func68.trans (congrArg some b276)
  t0 := Tryd.underlying0
  a0 := Tryd.isAgg0
  z0 := Tryd.sizeOf0
  v0 := Tryd.zeroValue0
  t3 := Tryd.underlying3
  a3 := Tryd.isAgg3
  z3 := Tryd.sizeOf3
  v3 := Tryd.zeroValue3
  t4 := Tryd.underlying4
  a4 := Tryd.isAgg4
  z4 := Tryd.sizeOf4
  v4 := Tryd.zeroValue4
  t9 := Tryd.underlying9
  a9 := Tryd.isAgg9
  z9 := Tryd.sizeOf9
  v9 := Tryd.zeroValue9
  t20 := Tryd.underlying20
  a20 := Tryd.isAgg20
  z20 := Tryd.sizeOf20
  v20 := Tryd.zeroValue20
  t37 := Tryd.underlying70
  a37 := Tryd.isAgg70
  z37 := Tryd.sizeOf70
  v37 := Tryd.zeroValue70
  t70 := Tryd.underlying69
  a70 := Tryd.isAgg69
  z70 := Tryd.sizeOf69
  v70 := Tryd.zeroValue69
  t72 := Tryd.underlying72
  a72 := Tryd.isAgg72
  z72 := Tryd.sizeOf72
  v72 := Tryd.zeroValue72
  t75 := Tryd.underlying74
  a75 := Tryd.isAgg74
  z75 := Tryd.sizeOf74
  v75 := Tryd.zeroValue74
  t164 := Tryd.underlying104
  a164 := Tryd.isAgg104
  z164 := Tryd.sizeOf104
  v164 := Tryd.zeroValue104 }
theorem bextra : Builder.Extra Tryd.prog bren := {
  sizeBuilder := by kernel_rfl
  liesBuilder := by kernel_rfl
  t5 := Tryd.underlying5
  a5 := Tryd.isAgg5
  z5 := Tryd.sizeOf5
  v5 := Tryd.zeroValue5
  infoByte := by kernel_rfl
  cellsByte := by kernel_rfl
  sizeByte := by kernel_rfl
  neB5 := by decide }
end Go.Proofs
namespace Go.Proofs.YtkpjfhphohanlabDoor.JC
open Go.RowKit
/-- WriteString on a builder of one's own. -/
theorem ws_any (B b : Nat) (l t : List UInt8) (w : World) (h : Lib.IsBuilderF 72 5 B b (Lib.byteCells l) w) (hlen : l.length + t.length ≤ 1000000000) (hBw : B ≤ w.heap.size) :
    Calls Tryd.prog 23 #[.pointer (some ⟨b, 0, none⟩), sV t] w fun e w' => e = .returned (.tuple #[.int .i64 (t.length : Int), .nilIface]) ∧ Lib.IsBuilderF 72 5 B b (Lib.byteCells (l ++ t)) w' ∧ Below B w w' := by
  have hsz : (⟨t.toArray⟩ : ByteArray).size = t.length := by simp [ByteArray.size]
  have hbl : (Lib.byteCells l).length = l.length := by simp [Lib.byteCells]
  refine (Any.Builder_WriteString_f blays bextra B b (Lib.byteCells l) ⟨t.toArray⟩ w h (by rw [hsz, hbl]; omega) hBw).mono ?_
  rintro e w' ⟨h1, h2, h3⟩
  refine ⟨by rw [h1, hsz], ?_, h3⟩
  have e1 : Lib.byteCells l ++ Lib.strCells ⟨t.toArray⟩ = Lib.byteCells (l ++ t) := by rw [Lib.strCells_eq, ← Lib.byteCells_append]
  rw [e1] at h2
  exact .inr h2
end Go.Proofs.YtkpjfhphohanlabDoor.JC
