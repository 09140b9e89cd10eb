/- entry: small functions of the program and of the reference. -/
import Derived.Test.YtkpjfhphohanlaaGreatDoorB1
import Derived.Laws.Tables
import Derived.Laws.Alloc2
import Derived.Laws.ResultCell
import Derived.Deep.MidRow
import Derived.Laws.CopyOwn
import Derived.Laws.CopyRow
import Derived.Laws.IdiomCopy
import Derived.BigQuiet
import Derived.Deep.QuietTactic
import Derived.WalkSmall
import Derived.Deep.RegionHeld3
set_option linter.unusedVariables false
set_option linter.unusedSimpArgs false
namespace Go.Proofs.YtkpjfhphohanlaaGreatDoor.EC
open Go.RowKit

theorem row_lt {w : World} {d : Nat} {o : Obj} (h : w.heap[d]? = some o) : d < w.heap.size := (Array.getElem?_eq_some_iff.1 h).1
theorem heap_at (w : World) (o : Obj) (n : Nat) (h : n = w.heap.size) : (w.alloc o).heap[n]? = some o := by subst h; exact heap_alloc_new _ _
theorem rangeAt_below {w w' : World} {b o : Nat} {cs : List Value} (h : w.rangeAt b o cs) (hb : Below w.heap.size w w') : w'.rangeAt b o cs := fun j v hv => (hb.cell (block_lt (h j v hv))).trans (h j v hv)
theorem rangeAt_row {w : World} {b : Nat} {cs : List Value} {t : TypeId} {fr : Nat × Nat} (h : w.heap[b]? = some (.cells cs.toArray t fr)) : w.rangeAt b 0 cs := fun j v hv => by
  rw [Nat.zero_add, cell_of_row _ _ j _ _ _ h]; simpa using hv
theorem ret_bool {a b : Bool} (h : a = b) : Ending.returned (.bool a) = .returned (.bool b) := by rw [h]
theorem ret_i64 {a b : Int} (h : a = b) : Ending.returned (.int .i64 a) = .returned (.int .i64 b) := by rw [h]

/-- Is there such a kind; has it a granule; is there such a level, such a page? -/
def kB (k : Int) : Bool := decide (0 ≤ k ∧ k ≤ 6)
def ldB (k : Int) : Bool := decide (k = 1 ∨ k = 2 ∨ k = 6)
def lvB (l : Int) : Bool := decide (0 ≤ l ∧ l < 4)
def pgB (p : Int) : Bool := decide (0 ≤ p ∧ p < 256)
/-- An entry; may it be? -/
def eV (k g : Int) : Value := .agg #[.int .i64 k, .int .i64 g]
def mayB (k g : Int) : Bool := decide (0 ≤ k ∧ k ≤ 6 ∧ 0 ≤ g ∧ g < 4096 ∧ (g = 0 ∨ k = 1 ∨ k = 2 ∨ k = 6))

theorem beq_int (a b : Int) : (a == b) = decide (a = b) := by rw [Bool.eq_iff_iff]; simp
/-- How many pages an entry of a level is for. -/
def mny (l : Int) : Int := if l = 0 then 64 else if l = 1 then 16 else if l = 2 then 4 else 1
theorem lv_cases {l : Int} (h : lvB l = true) : l = 0 ∨ l = 1 ∨ l = 2 ∨ l = 3 := by unfold lvB at h; simp at h; omega
/-- A page's slot; its first page. -/
def slo (p l : Int) : Int := p / mny l % 4
def fst (p l : Int) : Int := p - p % (4 * mny l)
end Go.Proofs.YtkpjfhphohanlaaGreatDoor.EC
