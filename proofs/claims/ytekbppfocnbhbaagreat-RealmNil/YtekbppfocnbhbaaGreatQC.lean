/- The program's oracle in memory; contracts of none, isDomain, numberBytes. -/
import Derived.Test.YtekbppfocnbhbaaGreatQB
import Derived.Test.YtekbppfocnbhbaaGreatJ9
import Derived.Test.YtekbppfocnbhbaaGreatC1
import Derived.WalkSpells
set_option linter.unusedVariables false
set_option linter.unusedSimpArgs false
namespace Go.Proofs.YtekbppfocnbhbaaGreat.R5
open scoped Classical
open Go.RowKit

/-- What the program's oracle knows. -/
structure Pra where
  ideal : Bool
  master : List UInt8
  draws : List (List UInt8)
  log : List (Qn × List UInt8)
/-- Its cells. -/
def pL (ideal : Bool) (m : List UInt8) (dv ov : Value) (mb : Nat) : List Value := .bool ideal :: (m.map B8 ++ [dv, ov, .map (some mb)])
theorem pL_len (i : Bool) (m : List UInt8) (dv ov : Value) (mb : Nat) (h : m.length = 32) : (pL i m dv ov mb).length = 36 := by unfold pL; simp [h]
theorem pL_0 (i : Bool) (m : List UInt8) (dv ov : Value) (mb : Nat) : (pL i m dv ov mb).toArray[0]? = some (.bool i) := by unfold pL; simp
theorem pL_at (i : Bool) (m : List UInt8) (dv ov : Value) (mb : Nat) (h : m.length = 32) (j : Nat) : (pL i m dv ov mb).toArray[33 + j]? = [dv, ov, .map (some mb)][j]? := by
  unfold pL
  rw [List.getElem?_toArray, show 33 + j = (32 + j) + 1 by omega, List.getElem?_cons_succ, List.getElem?_append_right (by simp [h])]
  simp [h]
theorem pL_set34 (i : Bool) (m : List UInt8) (dv ov : Value) (mb : Nat) (h : m.length = 32) (ov' : Value) : (pL i m dv ov mb).toArray.setIfInBounds 34 ov' = (pL i m dv ov' mb).toArray := by
  unfold pL
  rw [List.setIfInBounds_toArray, show (34 : Nat) = 33 + 1 from rfl, List.set_cons_succ, List.set_append_right _ _ (by simp [h])]
  simp [h]
/-- The keys of a log, one behind the other. -/
def kC (l : List (Qn × List UInt8)) : List Value := l.flatMap fun x => kL x.1
/-- The program's oracle in memory, at og, with all that it writes in S, from B on. -/
structure PO (B og mb : Nat) (S : Nat → Prop) (w : World) (o : Pra) (dv ov : Value) : Prop where
  ml : o.master.length = 32
  row : w.heap[og]? = some (.cells (pL o.ideal o.master dv ov mb).toArray 116 (0, 0))
  draws : HDs w dv o.draws
  dro : ∀ k, dv.ownBlock = some k → ¬ S k ∧ k < w.heap.size
  ok : lOk o.log
  order : w.ownsRow B 120 35 ov o.log.length (kC o.log)
  map : MH w mb o.log
  sog : S og
  smb : S mb
  sov : ∀ k, ov.ownBlock = some k → S k ∧ k ≠ og
  low : ∀ k, S k → B ≤ k
  top : ∀ k, S k → k < w.heap.size
section
variable {B og mb : Nat} {S : Nat → Prop} {w : World} {o : Pra} {dv ov : Value}
theorem PO.ne (h : PO B og mb S w o dv ov) : mb ≠ og := fun e => by
  obtain ⟨es, c, h1, _⟩ := h.map
  rw [e, h.row] at h1
  cases h1
theorem PO.ovne (h : PO B og mb S w o dv ov) : ov.ownBlock ≠ some mb := fun e => by
  obtain ⟨es, c, h1, _⟩ := h.map
  rcases h.order.2 with ⟨e1, _⟩ | ⟨g, cap, cur, e1, _, e3, _⟩
  · rw [e1] at e; cases e
  · rw [e1] at e
    have e' : g = mb := by simpa [Value.ownBlock] using e
    rw [e', h1] at e3
    cases e3
theorem PO.keep {w' : World} (h : PO B og mb S w o dv ov) (hs : w.heap.size ≤ w'.heap.size) (hk : ∀ k, k < w.heap.size → (S k ∨ dv.ownBlock = some k) → w'.heap[k]? = w.heap[k]?) : PO B og mb S w' o dv ov :=
  ⟨h.ml, (hk og (row_lt h.row) (.inl h.sog)).trans h.row, hds_keep h.draws (fun k e hl => hk k hl (.inr e)), fun k e => ⟨(h.dro k e).1, Nat.lt_of_lt_of_le (h.dro k e).2 hs⟩, h.ok,
    own_keep h.order (fun k e hl => hk k hl (.inl (h.sov k e).1)), h.map.keep (hk mb h.map.lt (.inl h.smb)), h.sog, h.smb, h.sov, h.low, fun k hk => Nat.lt_of_lt_of_le (h.top k hk) hs⟩
theorem PO.below {w' : World} (h : PO B og mb S w o dv ov) (hb : Below w.heap.size w w') : PO B og mb S w' o dv ov := h.keep hb.size (fun k hk _ => hb.block k hk)
theorem PO.more {S' : Nat → Prop} (h : PO B og mb S w o dv ov) (hs : ∀ k, S k → S' k) (hl : ∀ k, S' k → S k ∨ dv.ownBlock ≠ some k) (hl2 : ∀ k, S' k → B ≤ k ∧ k < w.heap.size) : PO B og mb S' w o dv ov :=
  ⟨h.ml, h.row, h.draws, fun k e => ⟨fun hs' => (hl k hs').elim (h.dro k e).1 (fun hg => hg e), (h.dro k e).2⟩, h.ok, h.order, h.map, hs _ h.sog, hs _ h.smb, fun k e => ⟨hs _ (h.sov k e).1, (h.sov k e).2⟩, fun k hk => (hl2 k hk).1, fun k hk => (hl2 k hk).2⟩
theorem PO.grow {w' : World} (h : PO B og mb S w o dv ov) (hb : Below w.heap.size w w') (hB : B ≤ w.heap.size) : PO B og mb (fun k => S k ∨ (w.heap.size ≤ k ∧ k < w'.heap.size)) w' o dv ov :=
  (h.below hb).more (fun k h => .inl h) (fun k hk => hk.imp id (fun hg e => by have := (h.dro k e).2; omega)) (fun k hk => hk.elim (fun hk => ⟨h.low k hk, Nat.lt_of_lt_of_le (h.top k hk) hb.size⟩) (fun hk => ⟨by omega, hk.2⟩))
/-- What the cells of an oracle hold. -/
theorem PO.cells (h : PO B og mb S w o dv ov) : w.cell? ⟨og, 0, none⟩ = some (.bool o.ideal) ∧ w.cell? ⟨og, 33, none⟩ = some dv ∧ w.cell? ⟨og, 34, none⟩ = some ov ∧ w.cell? ⟨og, 35, none⟩ = some (.map (some mb)) ∧ w.frozen? ⟨og, 34, none⟩ = false := by
  refine ⟨?_, ?_, ?_, ?_, frozen_of_row _ _ 34 _ _ h.row⟩
  · rw [cell_of_row _ _ 0 _ _ _ h.row]; exact pL_0 _ _ _ _ _
  · rw [cell_of_row _ _ 33 _ _ _ h.row]; exact pL_at _ _ _ _ _ h.ml 0
  · rw [cell_of_row _ _ 34 _ _ _ h.row]; exact pL_at _ _ _ _ _ h.ml 1
  · rw [cell_of_row _ _ 35 _ _ _ h.row]; exact pL_at _ _ _ _ _ h.ml 2
theorem PO.master (h : PO B og mb S w o dv ov) : w.rangeAt og 1 (o.master.map B8) := fun j v hv => by
  rw [cell_of_row _ _ (1 + j) _ _ _ h.row]
  have hj : j < o.master.length := by have := (List.getElem?_eq_some_iff.1 hv).1; simpa using this
  unfold pL
  rw [List.getElem?_toArray, show 1 + j = j + 1 by omega, List.getElem?_cons_succ, List.getElem?_append_left (by simpa using hj)]
  exact hv
/-- The slice of what was asked. -/
theorem PO.ordV (h : PO B og mb S w o dv ov) : ∃ p cap, ov = .slice p o.log.length cap := by
  rcases h.order.2 with ⟨e1, e2⟩ | ⟨g, cap, cur, e1, _⟩
  · exact ⟨none, 0, by rw [e1, e2]⟩
  · exact ⟨_, cap, e1⟩
end

set_option maxHeartbeats 1000000 in
set_option maxRecDepth 100000 in
theorem none_no (og mb : Nat) (w : World) (hc : w.cell? ⟨og, 35, none⟩ = some (.map (some mb))) : Calls Tryz.prog 56 #[.pointer (some ⟨og, 0, none⟩)] w fun e w' => e = .returned (.bool false) ∧ w' = w := by
  have qT : ∀ (w : World) (r : Option Nat), (binOp .eql 114 (.map r) (.map none)).run Tryz.prog w = .ok (.bool r.isNone) w := fun w r => run_eql_map_nil w _ _ _ r Tryz.underlying114
  go_enter Tryz.func56, Tryz.ntmps56
  go_wp2
  go_ret
  exact ⟨rfl, rfl⟩
set_option maxHeartbeats 1000000 in
set_option maxRecDepth 100000 in
theorem none_nil (w : World) : Calls Tryz.prog 56 #[.pointer none] w fun e w' => e = .returned (.bool true) ∧ w' = w := by
  go_enter Tryz.func56, Tryz.ntmps56
  go_wp2
  go_ret
  exact ⟨rfl, rfl⟩
set_option maxHeartbeats 1000000 in
set_option maxRecDepth 100000 in
theorem none_zero (og : Nat) (w : World) (hc : w.cell? ⟨og, 35, none⟩ = some (.map none)) : Calls Tryz.prog 56 #[.pointer (some ⟨og, 0, none⟩)] w fun e w' => e = .returned (.bool true) ∧ w' = w := by
  have qT : ∀ (w : World) (r : Option Nat), (binOp .eql 114 (.map r) (.map none)).run Tryz.prog w = .ok (.bool r.isNone) w := fun w r => run_eql_map_nil w _ _ _ r Tryz.underlying114
  go_enter Tryz.func56, Tryz.ntmps56
  go_wp2
  go_ret
  exact ⟨rfl, rfl⟩
def domB (d : Int) : Bool := decide (1 ≤ d ∧ d ≤ 16)
end Go.Proofs.YtekbppfocnbhbaaGreat.R5
