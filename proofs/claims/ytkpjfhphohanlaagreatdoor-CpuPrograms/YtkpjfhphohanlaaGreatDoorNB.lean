/- cpu: the library's Builder, laid by hand. -/
import Derived.Test.YtkpjfhphohanlaaGreatDoorJU
set_option linter.unusedVariables false
set_option linter.unusedSimpArgs false
namespace Go.Proofs
open Go.Shelf
open Go.Proofs.YtkpjfhphohanlaaGreatDoor
def bren : Go.Shelf.Ren := ⟨fun | 166 => 22 | 240 => 41 | 276 => 77 | n => n, fun | 70 => 65 | 9 => 9 | 0 => 0 | 72 => 68 | 37 => 66 | 3 => 3 | 4 => 4 | 5 => 5 | 20 => 20 | 75 => 71 | 80 => 74 | 164 => 115 | n => n, fun | n => n⟩
theorem b166 : Tryz.f22 = Body.n166 bren := by kernel_rfl
theorem b240 : Tryz.f41 = Body.n240 bren := by kernel_rfl
theorem b276 : Tryz.f77 = Body.n276 bren := by kernel_rfl
theorem bmixed : Tryz.prog.follows .mixedOrders = true := by kernel_rfl
theorem blays : Go.Proofs.Lays.n166 Tryz.prog bren := {
  mixed := bmixed
  f166 := Tryz.func22.trans (congrArg some b166)
  f240 := Tryz.func41.trans (congrArg some b240)
  f276 := Tryz.func77.trans (congrArg some b276)
  t0 := Tryz.underlying0
  a0 := Tryz.isAgg0
  z0 := Tryz.sizeOf0
  v0 := Tryz.zeroValue0
  t3 := Tryz.underlying3
  a3 := Tryz.isAgg3
  z3 := Tryz.sizeOf3
  v3 := Tryz.zeroValue3
  t4 := Tryz.underlying4
  a4 := Tryz.isAgg4
  z4 := Tryz.sizeOf4
  v4 := Tryz.zeroValue4
  t9 := Tryz.underlying9
  a9 := Tryz.isAgg9
  z9 := Tryz.sizeOf9
  v9 := Tryz.zeroValue9
  t20 := Tryz.underlying20
  a20 := Tryz.isAgg20
  z20 := Tryz.sizeOf20
  v20 := Tryz.zeroValue20
  t37 := Tryz.underlying66
  a37 := Tryz.isAgg66
  z37 := Tryz.sizeOf66
  v37 := Tryz.zeroValue66
  t70 := Tryz.underlying65
  a70 := Tryz.isAgg65
  z70 := Tryz.sizeOf65
  v70 := Tryz.zeroValue65
  t72 := Tryz.underlying68
  a72 := Tryz.isAgg68
  z72 := Tryz.sizeOf68
  v72 := Tryz.zeroValue68
  t75 := Tryz.underlying71
  a75 := Tryz.isAgg71
  z75 := Tryz.sizeOf71
  v75 := Tryz.zeroValue71
  t164 := Tryz.underlying115
  a164 := Tryz.isAgg115
  z164 := Tryz.sizeOf115
  v164 := Tryz.zeroValue115 }
theorem bextra : Builder.Extra Tryz.prog bren := {
  sizeBuilder := by kernel_rfl
  liesBuilder := by kernel_rfl
  t5 := Tryz.underlying5
  a5 := Tryz.isAgg5
  z5 := Tryz.sizeOf5
  v5 := Tryz.zeroValue5
  infoByte := by kernel_rfl
  cellsByte := by kernel_rfl
  sizeByte := by kernel_rfl
  neB5 := by decide }
end Go.Proofs
namespace Go.Proofs.YtkpjfhphohanlaaGreatDoor.JC
open Go.RowKit
/-- WriteString on a builder of one's own. -/
theorem ws_any (B b : Nat) (l t : List UInt8) (w : World) (h : Lib.IsBuilderF 68 5 B b (Lib.byteCells l) w) (hlen : l.length + t.length ≤ 1000000000) (hBw : B ≤ w.heap.size) :
    Calls Tryz.prog 22 #[.pointer (some ⟨b, 0, none⟩), sV t] w fun e w' => e = .returned (.tuple #[.int .i64 (t.length : Int), .nilIface]) ∧ Lib.IsBuilderF 68 5 B b (Lib.byteCells (l ++ t)) w' ∧ Below B w w' := by
  have hsz : (⟨t.toArray⟩ : ByteArray).size = t.length := by simp [ByteArray.size]
  have hbl : (Lib.byteCells l).length = l.length := by simp [Lib.byteCells]
  refine (Any.Builder_WriteString_f blays bextra B b (Lib.byteCells l) ⟨t.toArray⟩ w h (by rw [hsz, hbl]; omega) hBw).mono ?_
  rintro e w' ⟨h1, h2, h3⟩
  refine ⟨by rw [h1, hsz], ?_, h3⟩
  have e1 : Lib.byteCells l ++ Lib.strCells ⟨t.toArray⟩ = Lib.byteCells (l ++ t) := by rw [Lib.strCells_eq, ← Lib.byteCells_append]
  rw [e1] at h2
  exact .inr h2
end Go.Proofs.YtkpjfhphohanlaaGreatDoor.JC
