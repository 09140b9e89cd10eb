/- granule: rows in cells; contracts of list, none, Granules, fault. -/
import Derived.Test.YtpmbbnmpldeajaaRows
import Derived.WalkKit
import Derived.WalkSpells
import Derived.WalkLawsBesides
import Derived.Laws.Tables
import Derived.Laws.Alloc2
import Derived.Laws.ResultCell
import Derived.Deep.MidRow
import Derived.Laws.CopyOwn
import Derived.Laws.CopyRow
import Derived.Laws.IdiomCopy
import Derived.BigQuiet
import Derived.Deep.QuietTactic
import Derived.WalkSmall
import Derived.Deep.RegionHeld3
set_option linter.unusedVariables false
set_option linter.unusedSimpArgs false
namespace Go.Proofs.Ytpmbbnmpldeajaa.GC
open Go.RowKit

theorem block_lt {w : World} {a : Addr} {v : Value} (h : w.cell? a = some v) : a.block < w.heap.size := by
  rcases Nat.lt_or_ge a.block w.heap.size with h1 | h1
  · exact h1
  · have : w.heap[a.block]? = none := Array.getElem?_eq_none h1
    simp [World.cell?, this] at h
theorem row_lt {w : World} {d : Nat} {o : Obj} (h : w.heap[d]? = some o) : d < w.heap.size := (Array.getElem?_eq_some_iff.1 h).1
theorem heap_at (w : World) (o : Obj) (n : Nat) (h : n = w.heap.size) : (w.alloc o).heap[n]? = some o := by subst h; exact heap_alloc_new _ _
theorem rangeAt_below {w w' : World} {b o : Nat} {cs : List Value} (h : w.rangeAt b o cs) (hb : Below w.heap.size w w') : w'.rangeAt b o cs := fun j v hv => (hb.cell (block_lt (h j v hv))).trans (h j v hv)
theorem rangeAt_row {w : World} {b : Nat} {cs : List Value} {t : TypeId} {fr : Nat × Nat} (h : w.heap[b]? = some (.cells cs.toArray t fr)) : w.rangeAt b 0 cs := fun j v hv => by
  rw [Nat.zero_add, cell_of_row _ _ j _ _ _ h]; simpa using hv
theorem rangeAt_blk {w w' : World} {b o : Nat} {cs : List Value} (h : w.rangeAt b o cs) (hb : w'.heap[b]? = w.heap[b]?) : w'.rangeAt b o cs := fun j v hv => by
  rw [World.cell?_of_block (w := w) (a := ⟨b, o + j, none⟩) hb]; exact h j v hv
/-- A part of a range. -/
theorem rangeAt_part {w : World} {b o : Nat} {cs : List Value} (h : w.rangeAt b o cs) (k n : Nat) : w.rangeAt b (o + k) ((cs.drop k).take n) := fun j v hv => by
  have hj : j < n := by have := (List.getElem?_eq_some_iff.1 hv).1; rw [List.length_take] at this; omega
  rw [List.getElem?_take_of_lt hj, List.getElem?_drop] at hv
  rw [show o + k + j = o + (k + j) by omega]
  exact h _ _ hv
theorem add_none (b o j : Nat) : (⟨b, o, none⟩ : Addr).add j = ⟨b, o + j, none⟩ := by unfold Addr.add; split <;> simp_all
theorem cell_blk {w w' : World} {b o : Nat} {v : Value} (h : w.cell? ⟨b, o, none⟩ = some v) (hb : w'.heap[b]? = w.heap[b]?) : w'.cell? ⟨b, o, none⟩ = some v :=
  (World.cell?_of_block (a := ⟨b, o, none⟩) hb).trans h
theorem frozen_of_row (w : World) (b k : Nat) (cs : Array Value) (t : TypeId) (h : w.heap[b]? = some (.cells cs t (0, 0))) : w.frozen? ⟨b, k, none⟩ = false := by
  unfold World.frozen?; rw [h]; simp
theorem below_drew (w : World) : Below w.heap.size w w.drew := Below.drew (Below.refl _ _)
theorem wrap_i64_in (x : Int) (h1 : -9223372036854775808 ≤ x) (h2 : x ≤ 9223372036854775807) : IntKind.i64.wrap x = x := by
  rw [IntKind.wrap_i64]; omega

/-- All but one block stay. -/
def KB (b : Nat) (w w' : World) : Prop := Below b w w' ∧ ∀ j, j < w.heap.size → j ≠ b → w'.heap[j]? = w.heap[j]?
theorem KB.refl (b : Nat) (w : World) : KB b w w := ⟨Below.refl _ _, fun _ _ _ => rfl⟩
theorem KB.of {b : Nat} {w w' : World} (hb : b ≤ w.heap.size) (h : Below w.heap.size w w') : KB b w w' := ⟨h.mono hb, fun j hj _ => h.block j hj⟩
theorem KB.below {b : Nat} {w a c : World} (hb : b ≤ w.heap.size) (h : KB b w a) (hc : Below a.heap.size a c) : KB b w c :=
  ⟨h.1.trans (hc.mono (Nat.le_trans hb h.1.size)), fun j hj hne => (hc.block j (Nat.lt_of_lt_of_le hj h.1.size)).trans (h.2 j hj hne)⟩
theorem KB.trans {b : Nat} {w a c : World} (h : KB b w a) (hc : KB b a c) : KB b w c :=
  ⟨h.1.trans hc.1, fun j hj hne => (hc.2 j (Nat.lt_of_lt_of_le hj h.1.size) hne).trans (h.2 j hj hne)⟩
theorem KB.set {b : Nat} {w a : World} (h : KB b w a) (N : Array Value) : KB b w (a.setRow b N) := ⟨below_setRow h.1 (Nat.le_refl _) _, fun j hj hne => (setRow_other _ _ _ _ hne).trans (h.2 j hj hne)⟩
theorem KB.setCell {b k : Nat} {w a : World} (h : KB b w a) (v : Value) : KB b w (a.setCell ⟨b, k, none⟩ v) :=
  ⟨h.1.setCell (p := ⟨b, k, none⟩) (Nat.le_refl _) _, fun j hj hne => (heap_setCell_other _ _ _ _ (by simpa using hne)).trans (h.2 j hj hne)⟩
theorem KB.drew {b : Nat} {w a : World} (h : KB b w a) : KB b w a.drew := ⟨h.1.drew, h.2⟩
theorem KB.bel {b B : Nat} {w w' : World} (h : KB b w w') (hB : B ≤ b) : Below B w w' := h.1.mono hB

/-- A granule's row. -/
structure Rw where
  st : Int
  ow : Nat
  held : Nat
def rL (r : Rw) : List Value := [.int .i64 r.st, .int .u64 (r.ow : Int), .int .i64 (r.held : Int)]
def rV (r : Rw) : Value := .agg (rL r).toArray
def fl (l : List Rw) : List Value := l.flatMap rL
theorem rL_len (r : Rw) : (rL r).length = 3 := rfl
theorem fl_cons (r : Rw) (l : List Rw) : fl (r :: l) = rL r ++ fl l := by simp [fl]
theorem fl_len : ∀ l : List Rw, (fl l).length = l.length * 3
  | [] => rfl
  | r :: l => by rw [fl_cons, List.length_append, fl_len l, rL_len, List.length_cons]; omega
theorem fl_at : ∀ (l : List Rw) (g : Nat) (r : Rw), l[g]? = some r → ∀ j, j < 3 → (fl l)[g * 3 + j]? = (rL r)[j]?
  | [], _, _, h, _, _ => by simp at h
  | x :: l, 0, r, h, j, hj => by
    have e : x = r := by simpa using h
    subst e
    rw [fl_cons, Nat.zero_mul, Nat.zero_add, List.getElem?_append_left (by rw [rL_len]; exact hj)]
  | x :: l, g + 1, r, h, j, hj => by
    rw [fl_cons, List.getElem?_append_right (by rw [rL_len]; omega), rL_len, show (g + 1) * 3 + j - 3 = g * 3 + j by omega]
    exact fl_at l g r (by simpa using h) j hj
theorem fl_part (l : List Rw) (g : Nat) (r : Rw) (h : l[g]? = some r) : ((fl l).drop (g * 3)).take 3 = rL r := by
  apply List.ext_getElem?
  intro j
  by_cases hj : j < 3
  · rw [List.getElem?_take_of_lt hj, List.getElem?_drop]; exact fl_at l g r h j hj
  · have hg := (List.getElem?_eq_some_iff.1 h).1
    rw [List.getElem?_eq_none (by rw [List.length_take]; omega), List.getElem?_eq_none (by rw [rL_len]; omega)]
theorem fl_set : ∀ (l : List Rw) (g : Nat) (r r' : Rw) (j : Nat) (v : Value), l[g]? = some r → j < 3 → (rL r).set j v = rL r' → (fl l).set (g * 3 + j) v = fl (l.set g r')
  | [], _, _, _, _, _, h, _, _ => by simp at h
  | x :: l, 0, r, r', j, v, h, hj, e => by
    have ex : x = r := by simpa using h
    subst ex
    rw [fl_cons, Nat.zero_mul, Nat.zero_add, List.set_append_left _ _ (by rw [rL_len]; exact hj), e, List.set_cons_zero, fl_cons]
  | x :: l, g + 1, r, r', j, v, h, hj, e => by
    rw [fl_cons, List.set_append_right _ _ (by rw [rL_len]; omega), rL_len, show (g + 1) * 3 + j - 3 = g * 3 + j by omega, List.set_cons_succ, fl_cons, fl_set l g r r' j v (by simpa using h) hj e]
theorem splice_all {α : Type} (L cs : List α) (h : L.length = cs.length) : splice L 0 cs = cs := by simp [splice, h]
theorem fl_splice : ∀ (l : List Rw) (g : Nat) (r' : Rw), g < l.length → splice (fl l) (g * 3) (rL r') = fl (l.set g r')
  | [], _, _, h => by simp at h
  | x :: l, 0, r', h => by
    rw [List.set_cons_zero, fl_cons, fl_cons]
    simp [splice, rL_len, rL]
  | x :: l, g + 1, r', h => by
    have ih := fl_splice l g r' (by simpa using h)
    rw [List.set_cons_succ, fl_cons, fl_cons, ← ih]
    have e1 : (rL x ++ fl l).take ((g + 1) * 3) = rL x ++ (fl l).take (g * 3) := by
      rw [show (g + 1) * 3 = (rL x).length + g * 3 by rw [rL_len]; omega, List.take_length_add_append]
    have e2 : (rL x ++ fl l).drop ((g + 1) * 3 + (rL r').length) = (fl l).drop (g * 3 + (rL r').length) := by
      rw [show (g + 1) * 3 + (rL r').length = (rL x).length + (g * 3 + (rL r').length) by simp only [rL_len]; omega, List.drop_length_add_append]
    unfold splice
    rw [e1, e2]
    simp only [List.append_assoc]
theorem rL_inj {a b : Rw} (h : rL a = rL b) : a = b := by
  obtain ⟨a1, a2, a3⟩ := a
  obtain ⟨b1, b2, b3⟩ := b
  simp only [rL, List.cons.injEq, Value.int.injEq, true_and, and_true] at h
  obtain ⟨h1, h2, h3⟩ := h
  have e2 : a2 = b2 := by omega
  have e3 : a3 = b3 := by omega
  rw [h1, e2, e3]
theorem rL_one (r : Rw) : ∀ u ∈ rL r, u.oneCell' = true := by
  intro u hu
  simp only [rL, List.mem_cons, List.not_mem_nil, or_false] at hu
  rcases hu with rfl | rfl | rfl <;> rfl
theorem fl_one (l : List Rw) : ∀ u ∈ fl l, u.oneCell' = true := by
  intro u hu
  obtain ⟨r, _, hr⟩ := List.mem_flatMap.1 hu
  exact rL_one r u hr
theorem rL_onea (r : Rw) : (rL r).toArray.all (·.oneCell') = true := by
  rw [Array.all_eq_true_iff_forall_mem]
  intro v hv
  exact rL_one r v (by simpa using hv)

/-- Rows in a block, that can be written. -/
def AR (w : World) (b : Nat) (l : List Rw) : Prop := w.heap[b]? = some (.cells (fl l).toArray 43 (0, 0))
theorem AR.lt {w : World} {b : Nat} {l : List Rw} (h : AR w b l) : b < w.heap.size := row_lt h
theorem AR.range {w : World} {b : Nat} {l : List Rw} (h : AR w b l) : w.rangeAt b 0 (fl l) := rangeAt_row h
theorem AR.below {w w' : World} {b : Nat} {l : List Rw} (h : AR w b l) (hb : Below w.heap.size w w') : AR w' b l := (hb.block _ h.lt).trans h
theorem AR.kb {w w' : World} {b c : Nat} {l : List Rw} (h : AR w b l) (hb : KB c w w') (hn : b ≠ c) : AR w' b l := (hb.2 _ h.lt hn).trans h
theorem AR.frozen {w : World} {b : Nat} {l : List Rw} (h : AR w b l) (k : Nat) : w.frozen? ⟨b, k, none⟩ = false := frozen_of_row _ _ _ _ _ h
/-- The cells of one row in a range of rows. -/
theorem range_row {w : World} {b : Nat} {l : List Rw} (h : w.rangeAt b 0 (fl l)) {g : Nat} {r : Rw} (hg : l[g]? = some r) : w.rangeAt b (g * 3) (rL r) := by
  have := rangeAt_part h (g * 3) 3
  rw [fl_part l g r hg, Nat.zero_add] at this
  exact this
theorem range_cells {w : World} {b o : Nat} {r : Rw} (h : w.rangeAt b o (rL r)) : w.cell? ⟨b, o, none⟩ = some (.int .i64 r.st) ∧ w.cell? ⟨b, o + 1, none⟩ = some (.int .u64 (r.ow : Int)) ∧ w.cell? ⟨b, o + 2, none⟩ = some (.int .i64 (r.held : Int)) :=
  ⟨h 0 _ rfl, h 1 _ rfl, h 2 _ rfl⟩
theorem AR.set {w : World} {b : Nat} {l : List Rw} (h : AR w b l) {g : Nat} {r : Rw} (hg : l[g]? = some r) (r' : Rw) (j : Nat) (v : Value) (hj : j < 3) (e : (rL r).set j v = rL r') : AR (w.setCell ⟨b, g * 3 + j, none⟩ v) b (l.set g r') := by
  unfold AR
  rw [heap_setCell_same _ b (g * 3 + j) _ _ _ h, ← fl_set l g r r' j v hg hj e]
  simp
theorem AR.row {w : World} {b : Nat} {l : List Rw} (h : AR w b l) (l' : List Rw) : AR (w.setRow b (fl l').toArray) b l' := setRow_heap _ _ _ _ _ _ h

/-- A table that can be read: n granules, their rows l. -/
structure PR (w : World) (tb gb n cap : Nat) (l : List Rw) : Prop where
  cell : w.cell? ⟨tb, 0, none⟩ = some (.slice (some ⟨gb, 0, none⟩) n cap)
  row : w.rangeAt gb 0 (fl l)
  len : l.length = n
  pos : 1 ≤ n
  le : n ≤ 4096
  cap : n ≤ cap
/-- A table that can be written too. -/
structure PM (w : World) (tb gb n : Nat) (l : List Rw) : Prop where
  head : w.heap[tb]? = some (.cells #[.slice (some ⟨gb, 0, none⟩) n n] 49 (0, 0))
  row : AR w gb l
  len : l.length = n
  pos : 1 ≤ n
  le : n ≤ 4096
  ne : tb ≠ gb
theorem PM.cell {w : World} {tb gb n : Nat} {l : List Rw} (h : PM w tb gb n l) : w.cell? ⟨tb, 0, none⟩ = some (.slice (some ⟨gb, 0, none⟩) n n) := by
  rw [cell_of_row _ _ 0 _ _ _ h.head]; rfl
theorem PM.pr {w : World} {tb gb n : Nat} {l : List Rw} (h : PM w tb gb n l) : PR w tb gb n n l := ⟨h.cell, h.row.range, h.len, h.pos, h.le, Nat.le_refl _⟩
theorem PR.below {w w' : World} {tb gb n cap : Nat} {l : List Rw} (h : PR w tb gb n cap l) (hb : Below w.heap.size w w') : PR w' tb gb n cap l :=
  ⟨(hb.cell (block_lt h.cell)).trans h.cell, rangeAt_below h.row hb, h.len, h.pos, h.le, h.cap⟩
theorem range_lt {w : World} {b : Nat} {l : List Rw} (h : w.rangeAt b 0 (fl l)) (hl : 1 ≤ l.length) : b < w.heap.size := by
  have h0 : 0 < (fl l).length := by rw [fl_len]; omega
  exact block_lt (h 0 _ (List.getElem?_eq_getElem h0))
theorem PR.gb_lt {w : World} {tb gb n cap : Nat} {l : List Rw} (h : PR w tb gb n cap l) : gb < w.heap.size := range_lt h.row (by rw [h.len]; exact h.pos)
theorem PR.kb {w w' : World} {b tb gb n cap : Nat} {l : List Rw} (h : PR w tb gb n cap l) (hb : KB b w w') (h1 : tb ≠ b) (h2 : gb ≠ b) : PR w' tb gb n cap l :=
  ⟨cell_blk h.cell (hb.2 tb (block_lt h.cell) h1), rangeAt_blk h.row (hb.2 gb h.gb_lt h2), h.len, h.pos, h.le, h.cap⟩
theorem PM.below {w w' : World} {tb gb n : Nat} {l : List Rw} (h : PM w tb gb n l) (hb : Below w.heap.size w w') : PM w' tb gb n l :=
  ⟨(hb.block _ (row_lt h.head)).trans h.head, h.row.below hb, h.len, h.pos, h.le, h.ne⟩
theorem PM.kb {w w' : World} {b tb gb n : Nat} {l : List Rw} (h : PM w tb gb n l) (hb : KB b w w') (h1 : tb ≠ b) (h2 : gb ≠ b) : PM w' tb gb n l :=
  ⟨(hb.2 _ (row_lt h.head) h1).trans h.head, h.row.kb hb h2, h.len, h.pos, h.le, h.ne⟩
/-- The rows' block alone changes. -/
theorem PM.next {w w' : World} {tb gb n : Nat} {l l' : List Rw} (h : PM w tb gb n l) (hb : KB gb w w') (hr : AR w' gb l') (hl : l'.length = l.length) : PM w' tb gb n l' :=
  ⟨(hb.2 _ (row_lt h.head) h.ne).trans h.head, hr, hl.trans h.len, h.pos, h.le, h.ne⟩

theorem ret_bool {a b : Bool} (h : a = b) : Ending.returned (.bool a) = .returned (.bool b) := by rw [h]
theorem list_nil (w : World) : Calls Try.prog 31 #[.pointer none] w fun e w' => e = .returned (.slice none 0 0) ∧ w = w' := by
  go_enter Try.func31, Try.ntmps31
  go_wp2
  go_ret
  exact ⟨rfl, rfl⟩
theorem list_at (tb : Nat) (v : Value) (w : World) (hc : w.cell? ⟨tb, 0, none⟩ = some v) : Calls Try.prog 31 #[.pointer (some ⟨tb, 0, none⟩)] w fun e w' => e = .returned v ∧ w = w' := by
  go_enter Try.func31, Try.ntmps31
  go_wp2
  go_ret
  exact ⟨rfl, rfl⟩
theorem none_of (p : Value) (q : Option Addr) (n cap : Nat) (w : World) (hl : Calls Try.prog 31 #[p] w fun e w' => e = .returned (.slice q n cap) ∧ w = w') :
    Calls Try.prog 29 #[p] w fun e w' => e = .returned (.bool (decide (n = 0))) ∧ w = w' := by
  go_enter Try.func29, Try.ntmps29
  go_wp2_with fail
  refine hl.mono ?_
  rintro e w1 ⟨rfl, rfl⟩
  go_wp2
  go_ret
  refine ⟨?_, rfl⟩
  by_cases h : n = 0
  · simp [h]
  · simp [h]
theorem granules_of (p : Value) (q : Option Addr) (n cap : Nat) (w : World) (hl : Calls Try.prog 31 #[p] w fun e w' => e = .returned (.slice q n cap) ∧ w = w') :
    Calls Try.prog 24 #[p] w fun e w' => e = .returned (.int .i64 (n : Int)) ∧ w = w' := by
  go_enter Try.func24, Try.ntmps24
  go_wp2_with fail
  refine hl.mono ?_
  rintro e w1 ⟨rfl, rfl⟩
  go_wp2
  go_ret
  exact ⟨rfl, rfl⟩
/-- What is refused of a granule's number: 0 is nothing. -/
def gF (n : Nat) (g : Int) : Int := if g < 0 ∨ (n : Int) ≤ g then 2 else 0
theorem gF_zero {n : Nat} {g : Int} (h : gF n g = 0) : ∃ k : Nat, g = (k : Int) ∧ k < n := by
  unfold gF at h
  by_cases hg : g < 0 ∨ (n : Int) ≤ g
  · rw [if_pos hg] at h; omega
  · exact ⟨g.toNat, by omega, by omega⟩
theorem gF_pos {n : Nat} {g : Int} (h : gF n g ≠ 0) : gF n g = 2 ∧ (g < 0 ∨ (n : Int) ≤ g) := by
  unfold gF at h ⊢
  by_cases hg : g < 0 ∨ (n : Int) ≤ g
  · exact ⟨if_pos hg, hg⟩
  · rw [if_neg hg] at h; exact absurd rfl h
theorem gF_nat {n k : Nat} (h : k < n) : gF n (k : Int) = 0 := by unfold gF; rw [if_neg (by omega)]
set_option maxHeartbeats 400000 in
theorem fault_any (tb n cap : Nat) (q : Option Addr) (g : Int) (w : World) (hc : w.cell? ⟨tb, 0, none⟩ = some (.slice q n cap)) (hn : 1 ≤ n) :
    Calls Try.prog 34 #[.pointer (some ⟨tb, 0, none⟩), .int .i64 g] w fun e w' => e = .returned (.int .i64 (gF n g)) ∧ w = w' := by
  have hnn := none_of _ _ _ _ w (list_at tb _ w hc)
  rw [show decide (n = 0) = false by simp; omega] at hnn
  by_cases h0 : g < 0
  · rw [show gF n g = 2 by unfold gF; rw [if_pos (.inl h0)]]
    go_enter Try.func34, Try.ntmps34
    go_wp2_with fail
    refine hnn.mono ?_
    rintro e w1 ⟨rfl, rfl⟩
    go_wp2
    go_ret
    exact ⟨rfl, rfl⟩
  · by_cases h1 : (n : Int) ≤ g
    · rw [show gF n g = 2 by unfold gF; rw [if_pos (.inr h1)]]
      go_enter Try.func34, Try.ntmps34
      go_wp2_with fail
      refine hnn.mono ?_
      rintro e w1 ⟨rfl, rfl⟩
      go_wp2
      go_ret
      exact ⟨rfl, rfl⟩
    · rw [show gF n g = 0 by unfold gF; rw [if_neg (by omega)]]
      go_enter Try.func34, Try.ntmps34
      go_wp2_with fail
      refine hnn.mono ?_
      rintro e w1 ⟨rfl, rfl⟩
      go_wp2
      go_ret
      exact ⟨rfl, rfl⟩
theorem fault_nil (p : Value) (q : Option Addr) (cap : Nat) (g : Int) (w : World) (hl : Calls Try.prog 31 #[p] w fun e w' => e = .returned (.slice q 0 cap) ∧ w = w') :
    Calls Try.prog 34 #[p, .int .i64 g] w fun e w' => e = .returned (.int .i64 1) ∧ w = w' := by
  have hnn := none_of _ _ _ _ w hl
  rw [show decide ((0 : Nat) = 0) = true from rfl] at hnn
  go_enter Try.func34, Try.ntmps34
  go_wp2_with fail
  refine hnn.mono ?_
  rintro e w1 ⟨rfl, rfl⟩
  go_wp2
  go_ret
  exact ⟨rfl, rfl⟩
end Go.Proofs.Ytpmbbnmpldeajaa.GC
