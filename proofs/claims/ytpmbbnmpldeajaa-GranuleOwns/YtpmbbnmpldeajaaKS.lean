/- GranuleOwns: what the walk holds. -/
import Derived.Test.YtpmbbnmpldeajaaKR
import Derived.Laws.AppendOwnNone
import Derived.Deep.Cut
import Derived.Deep.CutRange
import Derived.Deep.CutBlock
set_option linter.unusedVariables false
set_option linter.unusedSimpArgs false
namespace Go.Proofs.Ytpmbbnmpldeajaa.GC
open Go.RowKit

theorem wp_only {c : Code} {Q : Exit → Act → World → Prop} {a : Act} {w : World} (h : c.wp Try.prog (Exit.then (fun a w => Q .normal a w) (fun _ _ _ => False)) a w) : c.wp Try.prog Q a w := Code.wp_mono (fun e a w h => by cases e <;> first | exact h | exact h.elim) h
/-- The cells of the number of granules, of the owner, and of the answer. -/
structure C7 (w X : World) (n : Int) (o : Int) (b : Bool) : Prop where
  bel : Below w.heap.size w X
  gc : X.heap[w.heap.size]? = some (.cells #[.int .i64 n] 3 (0, 0))
  oc : X.heap[w.heap.size + 1]? = some (.cells #[.int .u64 o] 32 (0, 0))
  rc : X.heap[w.heap.size + 2]? = some (.cells #[.bool b] 4 (0, 0))
theorem C7.step {w X Y : World} {n o : Int} {b : Bool} (h : C7 w X n o b) (hb : Below X.heap.size X Y) : C7 w Y n o b := ⟨h.bel.trans (hb.mono h.bel.size), (hb.block _ (row_lt h.gc)).trans h.gc, (hb.block _ (row_lt h.oc)).trans h.oc, (hb.block _ (row_lt h.rc)).trans h.rc⟩
theorem C7.ks {w X Y : World} {n o : Int} {b : Bool} {S : Nat → Prop} (h : C7 w X n o b) (hk : KS S X Y) (hS : ∀ j, S j → w.heap.size + 3 ≤ j) : C7 w Y n o b :=
  ⟨h.bel.trans (hk.bel h.bel.size (fun j hj => by have := hS j hj; omega)), (hk.blk _ (row_lt h.gc) (fun hs => by have := hS _ hs; omega)).trans h.gc, (hk.blk _ (row_lt h.oc) (fun hs => by have := hS _ hs; omega)).trans h.oc, (hk.blk _ (row_lt h.rc) (fun hs => by have := hS _ hs; omega)).trans h.rc⟩
theorem C7.set {w X : World} {n o : Int} {b : Bool} (h : C7 w X n o b) (b' : Bool) : C7 w (X.setCell ⟨w.heap.size + 2, 0, none⟩ (.bool b')) n o b' :=
  ⟨h.bel.setCell (p := ⟨w.heap.size + 2, 0, none⟩) (by simp) _, (heap_setCell_other _ _ _ _ (by simp)).trans h.gc, (heap_setCell_other _ _ _ _ (by simp)).trans h.oc, by rw [heap_setCell_same _ _ 0 _ _ _ h.rc]; rfl⟩
theorem C7.facts {w X : World} {n o : Int} {b : Bool} (h : C7 w X n o b) : X.cell? ⟨w.heap.size, 0, none⟩ = some (.int .i64 n) ∧ X.cell? ⟨w.heap.size + 1, 0, none⟩ = some (.int .u64 o) ∧ X.cell? ⟨w.heap.size + 2, 0, none⟩ = some (.bool b) ∧ X.frozen? ⟨w.heap.size + 2, 0, none⟩ = false :=
  ⟨by rw [cell_of_row _ _ 0 _ _ _ h.gc]; rfl, by rw [cell_of_row _ _ 0 _ _ _ h.oc]; rfl, by rw [cell_of_row _ _ 0 _ _ _ h.rc]; rfl, frozen_of_row _ _ 0 _ _ h.rc⟩
theorem C7.new (w : World) (n o : Int) : C7 w (((w.alloc (.cells #[.int .i64 n] 3 (0, 0))).alloc (.cells #[.int .u64 o] 32 (0, 0))).alloc (.cells #[.bool false] 4 (0, 0))) n o false := by
  refine ⟨(((Below.refl _ w).alloc (Nat.le_refl _) _).alloc (by simp) _).alloc (by simp; omega) _, ?_, ?_, heap_at _ _ _ (by simp)⟩
  · rw [Below.heap_alloc _ _ _ (by simp; omega)]; exact alloc2_first _ _ _
  · rw [Below.heap_alloc _ _ _ (by simp)]; exact heap_at _ _ _ (by simp)
/-- Copy, what Of handed back, and the rows as they were: apart from both tables. -/
structure EX (X : World) (S0 mc c1 k1 fb ob c2 k2 ws wb kw n o : Nat) (L : List Rw) : Prop where
  pr : PR X mc c1 n k1 L
  oh : OH X fb ob c2 n k2 o L
  wc : X.cell? ⟨ws, 0, none⟩ = some (.slice (some ⟨wb, 0, none⟩) n kw)
  wr : X.rangeAt wb 0 (fl L)
  s1 : S0 ≤ mc
  s2 : S0 ≤ c1
  s3 : S0 ≤ fb
  s4 : S0 ≤ ob
  s5 : S0 ≤ c2
  s6 : S0 ≤ ws
  s7 : S0 ≤ wb
theorem EX.wlt {X : World} {S0 mc c1 k1 fb ob c2 k2 ws wb kw n o : Nat} {L : List Rw} (h : EX X S0 mc c1 k1 fb ob c2 k2 ws wb kw n o L) : wb < X.heap.size := range_lt h.wr (by rw [h.pr.len]; exact h.pr.pos)
theorem EX.ks {X Y : World} {S0 mc c1 k1 fb ob c2 k2 ws wb kw n o : Nat} {L : List Rw} {S : Nat → Prop} (h : EX X S0 mc c1 k1 fb ob c2 k2 ws wb kw n o L) (hk : KS S X Y) (hS : ∀ j, S j → j < S0) : EX Y S0 mc c1 k1 fb ob c2 k2 ws wb kw n o L := by
  have e : ∀ j, S0 ≤ j → j < X.heap.size → Y.heap[j]? = X.heap[j]? := fun j h1 h2 => hk.blk j h2 (fun hs => by have := hS j hs; omega)
  have hn : 0 < n := h.pr.pos
  exact ⟨⟨cell_blk h.pr.cell (e _ h.s1 (block_lt h.pr.cell)), rangeAt_blk h.pr.row (e _ h.s2 h.pr.gb_lt), h.pr.len, h.pr.pos, h.pr.le, h.pr.cap⟩,
    ⟨cell_blk h.oh.cell (e _ h.s3 h.oh.lt), cell_blk h.oh.own (e _ h.s4 h.oh.olt), rangeAt_blk h.oh.row (e _ h.s5 (h.oh.clt hn)), h.oh.len, h.oh.le⟩,
    cell_blk h.wc (e _ h.s6 (block_lt h.wc)), rangeAt_blk h.wr (e _ h.s7 h.wlt), h.s1, h.s2, h.s3, h.s4, h.s5, h.s6, h.s7⟩
theorem EX.below {X Y : World} {S0 mc c1 k1 fb ob c2 k2 ws wb kw n o : Nat} {L : List Rw} (h : EX X S0 mc c1 k1 fb ob c2 k2 ws wb kw n o L) (hb : Below X.heap.size X Y) : EX Y S0 mc c1 k1 fb ob c2 k2 ws wb kw n o L :=
  h.ks (S := fun _ => False) (KS.of hb) (fun _ h => h.elim)
/-- While what Of handed back is gone over: the granules ahead of the k-th are done. -/
structure IW (w : World) (n o gx ws wb kw : Nat) (L : List Rw) (gv k : Nat) (X : World) : Prop where
  c7 : C7 w X n o false
  wc : X.cell? ⟨ws, 0, none⟩ = some (.slice (some ⟨wb, 0, none⟩) n kw)
  wr : X.rangeAt wb 0 (fl L)
  ln : L.length = n
  g : X.heap[gx]? = some (.cells #[.int .i64 (gv : Int)] 3 (0, 0))
  gk : gv ≤ k
  z : ∀ j r, gv ≤ j → j < k → L[j]? = some r → r.ow ≠ o
theorem IW.step {w X Y : World} {n o gx ws wb kw : Nat} {L : List Rw} {gv k : Nat} (h : IW w n o gx ws wb kw L gv k X) (hb : Below X.heap.size X Y) : IW w n o gx ws wb kw L gv k Y :=
  ⟨h.c7.step hb, (hb.cell (block_lt h.wc)).trans h.wc, rangeAt_below h.wr hb, h.ln, (hb.block _ (row_lt h.g)).trans h.g, h.gk, h.z⟩
theorem IW.put {w X : World} {n o gx ws wb kw : Nat} {L : List Rw} {gv k : Nat} (h : IW w n o gx ws wb kw L gv k X) (lp : Nat) (ob : Obj) (h1 : w.heap.size + 2 < lp) (h2 : ws < lp) (h3 : wb < lp) (h4 : gx < lp) : IW w n o gx ws wb kw L gv k (X.putObj lp ob) := by
  have e : ∀ j, j < lp → (X.putObj lp ob).heap[j]? = X.heap[j]? := fun j hj => World.putObj_heap_other (by omega)
  exact ⟨⟨h.c7.bel.grown (grownBy_putObj' X lp ob) h.c7.bel.size (fun k e => by cases e; omega), (e _ (by omega)).trans h.c7.gc, (e _ (by omega)).trans h.c7.oc, (e _ h1).trans h.c7.rc⟩, cell_blk h.wc (e _ h2), rangeAt_blk h.wr (e _ h3), h.ln, (e _ h4).trans h.g, h.gk, h.z⟩
theorem IW.skip {w X : World} {n o gx ws wb kw : Nat} {L : List Rw} {gv k : Nat} {r : Rw} (h : IW w n o gx ws wb kw L gv k X) (hr : L[k]? = some r) (hz : r.ow ≠ o) : IW w n o gx ws wb kw L gv (k + 1) X :=
  ⟨h.c7, h.wc, h.wr, h.ln, h.g, by have := h.gk; omega, fun j r' h1 h2 h3 => by
    rcases Nat.lt_succ_iff_lt_or_eq.1 h2 with h4 | rfl
    · exact h.z j r' h1 h4 h3
    · rw [hr] at h3; cases h3; exact hz⟩
theorem IW.cells {w X : World} {n o gx ws wb kw : Nat} {L : List Rw} {gv k : Nat} (h : IW w n o gx ws wb kw L gv k X) : X.cell? ⟨gx, 0, none⟩ = some (.int .i64 (gv : Int)) ∧ X.frozen? ⟨gx, 0, none⟩ = false ∧ X.cell? ⟨w.heap.size, 0, none⟩ = some (.int .i64 (n : Int)) ∧ X.cell? ⟨w.heap.size + 1, 0, none⟩ = some (.int .u64 (o : Int)) :=
  ⟨by rw [cell_of_row _ _ 0 _ _ _ h.g]; rfl, frozen_of_row _ _ 0 _ _ h.g, h.c7.facts.1, h.c7.facts.2.1⟩
/-- g is set. -/
theorem IW.set {w X : World} {n o gx ws wb kw : Nat} {L : List Rw} {gv k : Nat} (h : IW w n o gx ws wb kw L gv k X) (hd : w.heap.size + 3 ≤ gx) (h2 : ws ≠ gx) (h3 : wb ≠ gx) (gv' k' : Nat) (hg : gv' ≤ k') (hz : ∀ j r, gv' ≤ j → j < k' → L[j]? = some r → r.ow ≠ o) :
    IW w n o gx ws wb kw L gv' k' (X.setCell ⟨gx, 0, none⟩ (.int .i64 (gv' : Int))) := by
  have e : ∀ j, j ≠ gx → (X.setCell ⟨gx, 0, none⟩ (.int .i64 (gv' : Int))).heap[j]? = X.heap[j]? := fun j hj => heap_setCell_other _ _ _ _ (by simpa using hj)
  exact ⟨⟨h.c7.bel.setCell (p := ⟨gx, 0, none⟩) (by show w.heap.size ≤ gx; omega) _, (e _ (by omega)).trans h.c7.gc, (e _ (by omega)).trans h.c7.oc, (e _ (by omega)).trans h.c7.rc⟩, cell_blk h.wc (e _ h2), rangeAt_blk h.wr (e _ h3), h.ln, by rw [heap_setCell_same _ _ 0 _ _ _ h.g]; rfl, hg, hz⟩
/-- What g's cell holds. -/
def gAt (X : World) (gx : Nat) : Nat := match X.cell? ⟨gx, 0, none⟩ with
  | some v => (intOf v).toNat
  | none => 0
theorem IW.gAt {w X : World} {n o gx ws wb kw : Nat} {L : List Rw} {gv k : Nat} (h : IW w n o gx ws wb kw L gv k X) : GC.gAt X gx = gv := by
  unfold GC.gAt
  rw [h.cells.1]
  simp [intOf]
/-- What a region that reads finds. -/
theorem IW.row {w X : World} {n o gx ws wb kw : Nat} {L : List Rw} {gv k : Nat} (h : IW w n o gx ws wb kw L gv k X) {j : Nat} {r : Rw} (hr : L[j]? = some r) : X.cell? ⟨wb, j * 3, none⟩ = some (.int .i64 r.st) ∧ X.cell? ⟨wb, j * 3 + 1, none⟩ = some (.int .u64 (r.ow : Int)) :=
  ⟨(range_cells (range_row h.wr hr)).1, (range_cells (range_row h.wr hr)).2.1⟩
theorem KpR.refl (B fb ob cb : Nat) (X : World) : KpR B fb ob cb X X := ⟨Nat.le_refl _, fun _ _ _ => rfl⟩
theorem KpR.step {B fb ob cb : Nat} {X Y Z : World} (h : KpR B fb ob cb X Y) (hb : Below Y.heap.size Y Z) : KpR B fb ob cb X Z :=
  ⟨Nat.le_trans h.1 hb.size, fun k hk hS => (hb.block k (Nat.lt_of_lt_of_le hk h.1)).trans (h.2 k hk hS)⟩
theorem KpR.set {B fb ob cb gx : Nat} {X Y : World} (h : KpR B fb ob cb X Y) (h1 : gx < B) (h2 : gx ≠ fb) (h3 : gx ≠ ob) (h4 : gx ≠ cb) (v : Value) : KpR B fb ob cb X (Y.setCell ⟨gx, 0, none⟩ v) :=
  ⟨by have := h.1; simpa using this, fun k hk hS => (heap_setCell_other _ _ _ _ (by show k ≠ gx; rcases hS with hS | rfl | rfl | rfl <;> omega)).trans (h.2 k hk hS)⟩
/-- Rows, alike so far. -/
theorem take_lq {M L : List Rw} {b : Bool} {n : Nat} (hM : M.length = n) (hL : L.length = n) (h : b = true ↔ ∀ j, j < n → M[j]? = L[j]?) : lq L M = b := by
  have e : (L = M) ↔ b = true := by
    rw [h]
    constructor
    · intro e j _; rw [e]
    · intro hh
      apply List.ext_getElem?
      intro j
      by_cases hj : j < n
      · exact (hh j hj).symm
      · rw [List.getElem?_eq_none (by omega), List.getElem?_eq_none (by omega)]
  cases b with
  | true => exact (lq_iff L M).2 (e.2 rfl)
  | false =>
    cases hq : lq L M with
    | false => rfl
    | true => have := e.1 ((lq_iff L M).1 hq); cases this
end Go.Proofs.Ytpmbbnmpldeajaa.GC
