/- machine: memory in cells; contracts of Of, list, none, within and of what is refused. -/
import Derived.Test.YtnijjoankahddaaWh
import Derived.Laws.Tables
import Derived.Deep.MidRow
import Derived.Laws.CopyOwn
import Derived.Laws.CopyRow
import Derived.Laws.IdiomCopy
import Derived.BigQuiet
import Derived.Deep.QuietTactic
import Derived.WalkSmall
import Derived.Deep.RegionHeld3
set_option linter.unusedVariables false
set_option linter.unusedSimpArgs false
namespace Go.Proofs.Ytnijjoankahddaa.MC
open Go.RowKit

theorem row_lt {w : World} {d : Nat} {o : Obj} (h : w.heap[d]? = some o) : d < w.heap.size := (Array.getElem?_eq_some_iff.1 h).1
theorem B8_one (l : List UInt8) : ∀ u ∈ l.map B8, u.oneCell' = true := by
  intro u hu
  obtain ⟨x, _, rfl⟩ := List.mem_map.1 hu
  rfl
theorem B8_onea (l : List UInt8) : (l.map B8).toArray.all (·.oneCell') = true := by
  rw [Array.all_eq_true_iff_forall_mem]
  intro v hv
  simp only [List.mem_toArray, List.mem_map] at hv
  obtain ⟨x, _, rfl⟩ := hv
  rfl
theorem heap_at (w : World) (o : Obj) (n : Nat) (h : n = w.heap.size) : (w.alloc o).heap[n]? = some o := by subst h; exact heap_alloc_new _ _
theorem rangeAt_below {w w' : World} {b o : Nat} {cs : List Value} (h : w.rangeAt b o cs) (hb : Below w.heap.size w w') : w'.rangeAt b o cs := fun j v hv => (hb.cell (block_lt (h j v hv))).trans (h j v hv)
theorem rangeAt_row {w : World} {b : Nat} {cs : List Value} {t : TypeId} {fr : Nat × Nat} (h : w.heap[b]? = some (.cells cs.toArray t fr)) : w.rangeAt b 0 cs := fun j v hv => by
  rw [Nat.zero_add, cell_of_row _ _ j _ _ _ h]; simpa using hv
theorem rangeAt_blk {w w' : World} {b o : Nat} {cs : List Value} (h : w.rangeAt b o cs) (hb : w'.heap[b]? = w.heap[b]?) : w'.rangeAt b o cs := fun j v hv => by
  rw [World.cell?_of_block (w := w) (a := ⟨b, o + j, none⟩) hb]; exact h j v hv
/-- A part of a range. -/
theorem rangeAt_part {w : World} {b o : Nat} {cs : List Value} (h : w.rangeAt b o cs) (k n : Nat) : w.rangeAt b (o + k) ((cs.drop k).take n) := fun j v hv => by
  have hj : j < n := by have := (List.getElem?_eq_some_iff.1 hv).1; rw [List.length_take] at this; omega
  rw [List.getElem?_take_of_lt hj, List.getElem?_drop] at hv
  rw [show o + k + j = o + (k + j) by omega]
  exact h _ _ hv

/-- All but one block stay. -/
def KB (b : Nat) (w w' : World) : Prop := Below b w w' ∧ ∀ j, j < w.heap.size → j ≠ b → w'.heap[j]? = w.heap[j]?
theorem KB.refl (b : Nat) (w : World) : KB b w w := ⟨Below.refl _ _, fun _ _ _ => rfl⟩
theorem KB.of {b : Nat} {w w' : World} (hb : b ≤ w.heap.size) (h : Below w.heap.size w w') : KB b w w' := ⟨h.mono hb, fun j hj _ => h.block j hj⟩
theorem KB.below {b : Nat} {w a c : World} (hb : b ≤ w.heap.size) (h : KB b w a) (hc : Below a.heap.size a c) : KB b w c :=
  ⟨h.1.trans (hc.mono (Nat.le_trans hb h.1.size)), fun j hj hne => (hc.block j (Nat.lt_of_lt_of_le hj h.1.size)).trans (h.2 j hj hne)⟩
theorem KB.trans {b : Nat} {w a c : World} (h : KB b w a) (hc : KB b a c) : KB b w c :=
  ⟨h.1.trans hc.1, fun j hj hne => (hc.2 j (Nat.lt_of_lt_of_le hj h.1.size) hne).trans (h.2 j hj hne)⟩
theorem KB.set {b : Nat} {w a : World} (h : KB b w a) (N : Array Value) : KB b w (a.setRow b N) := ⟨below_setRow h.1 (Nat.le_refl _) _, fun j hj hne => (setRow_other _ _ _ _ hne).trans (h.2 j hj hne)⟩
theorem KB.drew {b : Nat} {w a : World} (h : KB b w a) : KB b w a.drew := ⟨h.1.drew, h.2⟩
theorem KB.bel {b B : Nat} {w w' : World} (h : KB b w w') (hB : B ≤ b) : Below B w w' := h.1.mono hB

/-- Memory that can be read: n granules, their bytes l. -/
structure PR (w : World) (mb gb n cap : Nat) (l : List UInt8) : Prop where
  cell : w.cell? ⟨mb, 0, none⟩ = some (.slice (some ⟨gb, 0, none⟩) n cap)
  row : w.rangeAt gb 0 (l.map B8)
  len : l.length = 128 * n
  pos : 1 ≤ n
  le : n ≤ 4096
  cap : n ≤ cap
/-- Memory that can be written too. -/
structure PM (w : World) (mb gb n : Nat) (l : List UInt8) : Prop where
  head : w.heap[mb]? = some (.cells #[.slice (some ⟨gb, 0, none⟩) n n] 87 (0, 0))
  row : w.heap[gb]? = some (.cells (l.map B8).toArray 68 (0, 0))
  len : l.length = 128 * n
  pos : 1 ≤ n
  le : n ≤ 4096
  ne : mb ≠ gb
theorem PM.cell {w : World} {mb gb n : Nat} {l : List UInt8} (h : PM w mb gb n l) : w.cell? ⟨mb, 0, none⟩ = some (.slice (some ⟨gb, 0, none⟩) n n) := by
  rw [cell_of_row _ _ 0 _ _ _ h.head]; rfl
theorem PM.pr {w : World} {mb gb n : Nat} {l : List UInt8} (h : PM w mb gb n l) : PR w mb gb n n l := ⟨h.cell, rangeAt_row h.row, h.len, h.pos, h.le, Nat.le_refl _⟩
theorem PR.below {w w' : World} {mb gb n cap : Nat} {l : List UInt8} (h : PR w mb gb n cap l) (hb : Below w.heap.size w w') : PR w' mb gb n cap l :=
  ⟨(hb.cell (block_lt h.cell)).trans h.cell, rangeAt_below h.row hb, h.len, h.pos, h.le, h.cap⟩
theorem PR.gb_lt {w : World} {mb gb n cap : Nat} {l : List UInt8} (h : PR w mb gb n cap l) : gb < w.heap.size := by
  have h0 : 0 < l.length := by have := h.len; have := h.pos; omega
  have := h.row 0 _ (List.getElem?_eq_getElem (by simpa using h0))
  exact block_lt this
theorem PR.kb {w w' : World} {b mb gb n cap : Nat} {l : List UInt8} (h : PR w mb gb n cap l) (hb : KB b w w') (h1 : mb ≠ b) (h2 : gb ≠ b) : PR w' mb gb n cap l :=
  ⟨by rw [World.cell?_of_block (w := w) (a := ⟨mb, 0, none⟩) (hb.2 mb (block_lt h.cell) h1)]; exact h.cell, rangeAt_blk h.row (hb.2 gb h.gb_lt h2), h.len, h.pos, h.le, h.cap⟩
theorem PM.below {w w' : World} {mb gb n : Nat} {l : List UInt8} (h : PM w mb gb n l) (hb : Below w.heap.size w w') : PM w' mb gb n l :=
  ⟨(hb.block _ (row_lt h.head)).trans h.head, (hb.block _ (row_lt h.row)).trans h.row, h.len, h.pos, h.le, h.ne⟩
theorem PM.kb {w w' : World} {b mb gb n : Nat} {l : List UInt8} (h : PM w mb gb n l) (hb : KB b w w') (h1 : mb ≠ b) (h2 : gb ≠ b) : PM w' mb gb n l :=
  ⟨(hb.2 _ (row_lt h.head) h1).trans h.head, (hb.2 _ (row_lt h.row) h2).trans h.row, h.len, h.pos, h.le, h.ne⟩

theorem u64_and127 (a : Nat) (ha : a < 18446744073709551616) : bits .and .u64 (a : Int) 127 = ((a % 128 : Nat) : Int) := by
  have h127 : (BitVec.ofInt 64 127).toNat = 2 ^ 7 - 1 := by decide
  have key : (BitVec.ofInt 64 (a : Int) &&& BitVec.ofInt 64 127).toNat = ((a : Int) % ((2 ^ 64 : Nat) : Int)).toNat % 2 ^ 7 := by
    rw [BitVec.toNat_and, BitVec.toNat_ofInt, h127, Nat.and_two_pow_sub_one_eq_mod]
  show IntKind.u64.wrap ((BitVec.ofInt 64 (a : Int) &&& BitVec.ofInt 64 127).toNat : Nat) = _
  rw [key, IntKind.wrap_u64]
  omega
theorem u64_and7 (a : Nat) (ha : a < 18446744073709551616) : bits .and .u64 (a : Int) 7 = ((a % 8 : Nat) : Int) := by
  have h7 : (BitVec.ofInt 64 7).toNat = 2 ^ 3 - 1 := by decide
  have key : (BitVec.ofInt 64 (a : Int) &&& BitVec.ofInt 64 7).toNat = ((a : Int) % ((2 ^ 64 : Nat) : Int)).toNat % 2 ^ 3 := by
    rw [BitVec.toNat_and, BitVec.toNat_ofInt, h7, Nat.and_two_pow_sub_one_eq_mod]
  show IntKind.u64.wrap ((BitVec.ofInt 64 (a : Int) &&& BitVec.ofInt 64 7).toNat : Nat) = _
  rw [key, IntKind.wrap_u64]
  omega
theorem ret_bool {a b : Bool} (h : a = b) : Ending.returned (.bool a) = .returned (.bool b) := by rw [h]
set_option maxHeartbeats 400000 in
set_option maxRecDepth 100000 in
theorem of_any (a : Nat) (w : World) (ha : a < 18446744073709551616) : Calls Try.prog 56 #[.int .u64 (a : Int)] w fun e w' => e = .returned (.tuple #[.int .i64 ((a / 128 : Nat) : Int), .int .i64 ((a % 128 : Nat) : Int)]) ∧ w = w' := by
  have hb := u64_and127 a ha
  go_enter Try.func56, Try.ntmps56
  go_wp2
  go_ret2
  exact ⟨rfl, rfl⟩
/-- list, of what is not there and of what is. -/
theorem list_nil (w : World) : Calls Try.prog 50 #[.pointer none] w fun e w' => e = .returned (.slice none 0 0) ∧ w = w' := by
  go_enter Try.func50, Try.ntmps50
  go_wp2
  go_ret
  exact ⟨rfl, rfl⟩
theorem list_at (mb : Nat) (v : Value) (w : World) (hc : w.cell? ⟨mb, 0, none⟩ = some v) : Calls Try.prog 50 #[.pointer (some ⟨mb, 0, none⟩)] w fun e w' => e = .returned v ∧ w = w' := by
  go_enter Try.func50, Try.ntmps50
  go_wp2
  go_ret
  exact ⟨rfl, rfl⟩
theorem none_of (p : Value) (q : Option Addr) (n cap : Nat) (w : World) (hl : Calls Try.prog 50 #[p] w fun e w' => e = .returned (.slice q n cap) ∧ w = w') :
    Calls Try.prog 51 #[p] w fun e w' => e = .returned (.bool (decide (n = 0))) ∧ w = w' := by
  go_enter Try.func51, Try.ntmps51
  go_wp2_with fail
  refine hl.mono ?_
  rintro e w1 ⟨rfl, rfl⟩
  go_wp2
  go_ret
  refine ⟨?_, rfl⟩
  by_cases h : n = 0
  · simp [h]
  · simp [h]
theorem granules_of (p : Value) (q : Option Addr) (n cap : Nat) (w : World) (hl : Calls Try.prog 50 #[p] w fun e w' => e = .returned (.slice q n cap) ∧ w = w') :
    Calls Try.prog 41 #[p] w fun e w' => e = .returned (.int .i64 (n : Int)) ∧ w = w' := by
  go_enter Try.func41, Try.ntmps41
  go_wp2_with fail
  refine hl.mono ?_
  rintro e w1 ⟨rfl, rfl⟩
  go_wp2
  go_ret
  exact ⟨rfl, rfl⟩
/-- Are m bytes from a on within memory of n granules? -/
def wIn (n a m : Nat) : Bool := decide (m = 0 ∨ (a < 128 * n ∧ m ≤ 128 * n - a))
set_option maxHeartbeats 400000 in
set_option maxRecDepth 100000 in
theorem within_any (mb n cap : Nat) (q : Option Addr) (a m : Nat) (w : World) (hc : w.cell? ⟨mb, 0, none⟩ = some (.slice q n cap)) (hn : n ≤ 4096) (ha : a < 18446744073709551616) (hm : m ≤ 9223372036854775807) :
    Calls Try.prog 55 #[.pointer (some ⟨mb, 0, none⟩), .int .u64 (a : Int), .int .i64 (m : Int)] w fun e w' => e = .returned (.bool (wIn n a m)) ∧ w = w' := by
  by_cases h0 : m = 0
  · subst h0
    go_enter Try.func55, Try.ntmps55
    go_wp2
    go_ret
    exact ⟨rfl, rfl⟩
  · have h0I : ¬ (m : Int) = 0 := by omega
    by_cases h1 : a < 128 * n
    · by_cases h2 : m ≤ 128 * n - a
      · rw [show wIn n a m = true by unfold wIn; simp; omega]
        go_enter Try.func55, Try.ntmps55
        go_wp2
        go_ret
        refine ⟨ret_bool ?_, rfl⟩
        simp; omega
      · rw [show wIn n a m = false by unfold wIn; simp; omega]
        go_enter Try.func55, Try.ntmps55
        go_wp2
        go_ret
        refine ⟨ret_bool ?_, rfl⟩
        simp; omega
    · rw [show wIn n a m = false by unfold wIn; simp; omega]
      go_enter Try.func55, Try.ntmps55
      go_wp2
      go_ret
      refine ⟨ret_bool ?_, rfl⟩
      simp; omega
/-- What is refused of a granule's number: 0 is nothing. -/
def gF (n : Nat) (g : Int) : Int := if g < 0 ∨ (n : Int) ≤ g then 2 else 0
/-- What is refused of a word's address. -/
def wF (n a : Nat) : Int := if a % 8 = 0 then (if wIn n a 8 = true then 0 else 6) else 2
set_option maxHeartbeats 400000 in
set_option maxRecDepth 100000 in
theorem gfault_any (mb n cap : Nat) (q : Option Addr) (g : Int) (w : World) (hc : w.cell? ⟨mb, 0, none⟩ = some (.slice q n cap)) (hn : 1 ≤ n) :
    Calls Try.prog 43 #[.pointer (some ⟨mb, 0, none⟩), .int .i64 g] w fun e w' => e = .returned (.int .i64 (gF n g)) ∧ w = w' := by
  have hnn := none_of _ _ _ _ w (list_at mb _ w hc)
  rw [show decide (n = 0) = false by simp; omega] at hnn
  by_cases h0 : g < 0
  · rw [show gF n g = 2 by unfold gF; rw [if_pos (.inl h0)]]
    go_enter Try.func43, Try.ntmps43
    go_wp2_with fail
    refine hnn.mono ?_
    rintro e w1 ⟨rfl, rfl⟩
    go_wp2
    go_ret
    exact ⟨rfl, rfl⟩
  · by_cases h1 : (n : Int) ≤ g
    · rw [show gF n g = 2 by unfold gF; rw [if_pos (.inr h1)]]
      go_enter Try.func43, Try.ntmps43
      go_wp2_with fail
      refine hnn.mono ?_
      rintro e w1 ⟨rfl, rfl⟩
      go_wp2
      go_ret
      exact ⟨rfl, rfl⟩
    · rw [show gF n g = 0 by unfold gF; rw [if_neg (by omega)]]
      go_enter Try.func43, Try.ntmps43
      go_wp2_with fail
      refine hnn.mono ?_
      rintro e w1 ⟨rfl, rfl⟩
      go_wp2
      go_ret
      exact ⟨rfl, rfl⟩
theorem gfault_nil (p : Value) (q : Option Addr) (cap : Nat) (g : Int) (w : World) (hl : Calls Try.prog 50 #[p] w fun e w' => e = .returned (.slice q 0 cap) ∧ w = w') :
    Calls Try.prog 43 #[p, .int .i64 g] w fun e w' => e = .returned (.int .i64 1) ∧ w = w' := by
  have hnn := none_of _ _ _ _ w hl
  rw [show decide ((0 : Nat) = 0) = true from rfl] at hnn
  go_enter Try.func43, Try.ntmps43
  go_wp2_with fail
  refine hnn.mono ?_
  rintro e w1 ⟨rfl, rfl⟩
  go_wp2
  go_ret
  exact ⟨rfl, rfl⟩
end Go.Proofs.Ytnijjoankahddaa.MC
