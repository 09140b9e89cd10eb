/- cpu: the library's Builder, laid by hand. -/
import Derived.Test.YtkpjfhphohanlaaDoorJU
set_option linter.unusedVariables false
set_option linter.unusedSimpArgs false
namespace Go.Proofs
open Go.Shelf
open Go.Proofs.YtkpjfhphohanlaaDoor
def bren : Go.Shelf.Ren := ⟨fun | 166 => 44 | 240 => 72 | 276 => 83 | n => n, fun | 70 => 93 | 9 => 9 | 0 => 0 | 72 => 95 | 37 => 81 | 3 => 3 | 4 => 4 | 5 => 5 | 20 => 20 | 75 => 97 | 80 => 100 | 164 => 121 | n => n, fun | n => n⟩
theorem b166 : Tryd.f44 = Body.n166 bren := by kernel_rfl
theorem b240 : Tryd.f72 = Body.n240 bren := by kernel_rfl
theorem b276 : Tryd.f83 = Body.n276 bren := by kernel_rfl
theorem bmixed : Tryd.prog.follows .mixedOrders = true := by kernel_rfl
theorem blays : Go.Proofs.Lays.n166 Tryd.prog bren := {
  mixed := bmixed
  f166 := Tryd.func44.trans (congrArg some b166)
  f240 := Tryd.func72.trans (congrArg some b240)
  f276 := Tryd.func83.trans (congrArg some b276)
  t0 := Tryd.underlying0
  a0 := Tryd.isAgg0
  z0 := Tryd.sizeOf0
  v0 := Tryd.zeroValue0
  t3 := Tryd.underlying3
  a3 := Tryd.isAgg3
  z3 := Tryd.sizeOf3
  v3 := Tryd.zeroValue3
  t4 := Tryd.underlying4
  a4 := Tryd.isAgg4
  z4 := Tryd.sizeOf4
  v4 := Tryd.zeroValue4
  t9 := Tryd.underlying9
  a9 := Tryd.isAgg9
  z9 := Tryd.sizeOf9
  v9 := Tryd.zeroValue9
  t20 := Tryd.underlying20
  a20 := Tryd.isAgg20
  z20 := Tryd.sizeOf20
  v20 := Tryd.zeroValue20
  t37 := Tryd.underlying81
  a37 := Tryd.isAgg81
  z37 := Tryd.sizeOf81
  v37 := Tryd.zeroValue81
  t70 := Tryd.underlying93
  a70 := Tryd.isAgg93
  z70 := Tryd.sizeOf93
  v70 := Tryd.zeroValue93
  t72 := Tryd.underlying95
  a72 := Tryd.isAgg95
  z72 := Tryd.sizeOf95
  v72 := Tryd.zeroValue95
  t75 := Tryd.underlying97
  a75 := Tryd.isAgg97
  z75 := Tryd.sizeOf97
  v75 := Tryd.zeroValue97
  t164 := Tryd.underlying121
  a164 := Tryd.isAgg121
  z164 := Tryd.sizeOf121
  v164 := Tryd.zeroValue121 }
theorem bextra : Builder.Extra Tryd.prog bren := {
  sizeBuilder := by kernel_rfl
  liesBuilder := by kernel_rfl
  t5 := Tryd.underlying5
  a5 := Tryd.isAgg5
  z5 := Tryd.sizeOf5
  v5 := Tryd.zeroValue5
  infoByte := by kernel_rfl
  cellsByte := by kernel_rfl
  sizeByte := by kernel_rfl
  neB5 := by decide }
end Go.Proofs
namespace Go.Proofs.YtkpjfhphohanlaaDoor.JC
open Go.RowKit
/-- WriteString on a builder of one's own. -/
theorem ws_any (B b : Nat) (l t : List UInt8) (w : World) (h : Lib.IsBuilderF 95 5 B b (Lib.byteCells l) w) (hlen : l.length + t.length ≤ 1000000000) (hBw : B ≤ w.heap.size) :
    Calls Tryd.prog 44 #[.pointer (some ⟨b, 0, none⟩), sV t] w fun e w' => e = .returned (.tuple #[.int .i64 (t.length : Int), .nilIface]) ∧ Lib.IsBuilderF 95 5 B b (Lib.byteCells (l ++ t)) w' ∧ Below B w w' := by
  have hsz : (⟨t.toArray⟩ : ByteArray).size = t.length := by simp [ByteArray.size]
  have hbl : (Lib.byteCells l).length = l.length := by simp [Lib.byteCells]
  refine (Any.Builder_WriteString_f blays bextra B b (Lib.byteCells l) ⟨t.toArray⟩ w h (by rw [hsz, hbl]; omega) hBw).mono ?_
  rintro e w' ⟨h1, h2, h3⟩
  refine ⟨by rw [h1, hsz], ?_, h3⟩
  have e1 : Lib.byteCells l ++ Lib.strCells ⟨t.toArray⟩ = Lib.byteCells (l ++ t) := by rw [Lib.strCells_eq, ← Lib.byteCells_append]
  rw [e1] at h2
  exact .inr h2
end Go.Proofs.YtkpjfhphohanlaaDoor.JC
