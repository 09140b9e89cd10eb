/- MachineWhole: what the walk holds. -/
import Derived.Test.YtikchlmfklbojaaMX
import Derived.Laws.AppendOwnNone
set_option linter.unusedVariables false
set_option linter.unusedSimpArgs false
namespace Go.Proofs.Ytikchlmfklbojaa.MC
open Go.RowKit

theorem wp_only {c : Code} {Q : Exit → Act → World → Prop} {a : Act} {w : World} (h : c.wp Try.prog (Exit.then (fun a w => Q .normal a w) (fun _ _ _ => False)) a w) : c.wp Try.prog Q a w := Code.wp_mono (fun e a w h => by cases e <;> first | exact h | exact h.elim) h
/-- The cells of the number of granules, and of the answer. -/
structure C6 (w X : World) (n : Int) (b : Bool) : Prop where
  bel : Below w.heap.size w X
  gc : X.heap[w.heap.size]? = some (.cells #[.int .i64 n] 3 (0, 0))
  rc : X.heap[w.heap.size + 1]? = some (.cells #[.bool b] 4 (0, 0))
theorem C6.step {w X Y : World} {n : Int} {b : Bool} (h : C6 w X n b) (hb : Below X.heap.size X Y) : C6 w Y n b := ⟨h.bel.trans (hb.mono h.bel.size), (hb.block _ (row_lt h.gc)).trans h.gc, (hb.block _ (row_lt h.rc)).trans h.rc⟩
theorem C6.ks {w X Y : World} {n : Int} {b : Bool} {S : Nat → Prop} (h : C6 w X n b) (hk : KS S X Y) (hS : ∀ j, S j → w.heap.size + 2 ≤ j) : C6 w Y n b :=
  ⟨h.bel.trans (hk.bel h.bel.size (fun j hj => by have := hS j hj; omega)), (hk.blk _ (row_lt h.gc) (fun hs => by have := hS _ hs; omega)).trans h.gc, (hk.blk _ (row_lt h.rc) (fun hs => by have := hS _ hs; omega)).trans h.rc⟩
theorem C6.set {w X : World} {n : Int} {b : Bool} (h : C6 w X n b) (b' : Bool) : C6 w (X.setCell ⟨w.heap.size + 1, 0, none⟩ (.bool b')) n b' :=
  ⟨h.bel.setCell (p := ⟨w.heap.size + 1, 0, none⟩) (by simp) _, (heap_setCell_other _ _ _ _ (by simp)).trans h.gc, by rw [heap_setCell_same _ _ 0 _ _ _ h.rc]; rfl⟩
theorem C6.facts {w X : World} {n : Int} {b : Bool} (h : C6 w X n b) : X.cell? ⟨w.heap.size, 0, none⟩ = some (.int .i64 n) ∧ X.cell? ⟨w.heap.size + 1, 0, none⟩ = some (.bool b) ∧ X.frozen? ⟨w.heap.size + 1, 0, none⟩ = false :=
  ⟨by rw [cell_of_row _ _ 0 _ _ _ h.gc]; rfl, by rw [cell_of_row _ _ 0 _ _ _ h.rc]; rfl, frozen_of_row _ _ 0 _ _ h.rc⟩
/-- The bytes behind the first k acts, from some bytes on. -/
def runB (n : Nat) (L0 : List UInt8) (ls : List Ac) (k : Nat) : List UInt8 := (ls.take k).foldl (doL n) L0
theorem runB_succ (n : Nat) (L0 : List UInt8) (ls : List Ac) (k : Nat) (a : Ac) (h : ls[k]? = some a) : runB n L0 ls (k + 1) = doL n (runB n L0 ls k) a := by
  obtain ⟨hk, rfl⟩ := List.getElem?_eq_some_iff.1 h
  unfold runB
  rw [List.take_succ_eq_append_getElem hk, List.foldl_append]
  rfl
/-- Copy, what Whole handed back, and the bytes as they were: apart from both memories. -/
structure EX (X : World) (S0 mc c1 k1 fb c2 k2 ws wb kw n : Nat) (L : List UInt8) : Prop where
  pr : PR X mc c1 n k1 L
  wh : WH X fb c2 n k2 L
  rr : RR X ws wb n kw L
  s1 : S0 ≤ mc
  s2 : S0 ≤ c1
  s3 : S0 ≤ fb
  s4 : S0 ≤ c2
  s5 : S0 ≤ ws
  s6 : S0 ≤ wb
theorem RR.bb_lt {w : World} {rb bb n cap : Nat} {l : List UInt8} (h : RR w rb bb n cap l) : bb < w.heap.size := by
  have h0 : 0 < l.length := by have := h.len; have := h.pos; omega
  have := h.row 0 _ (List.getElem?_eq_getElem (by simpa using h0))
  exact block_lt this
theorem cell_blk {w w' : World} {b o : Nat} {v : Value} (h : w.cell? ⟨b, o, none⟩ = some v) (hb : w'.heap[b]? = w.heap[b]?) : w'.cell? ⟨b, o, none⟩ = some v :=
  (World.cell?_of_block (a := ⟨b, o, none⟩) hb).trans h
theorem EX.ks {X Y : World} {S0 mc c1 k1 fb c2 k2 ws wb kw n : Nat} {L : List UInt8} {S : Nat → Prop} (h : EX X S0 mc c1 k1 fb c2 k2 ws wb kw n L) (hk : KS S X Y) (hS : ∀ j, S j → j < S0) : EX Y S0 mc c1 k1 fb c2 k2 ws wb kw n L := by
  have e : ∀ j, S0 ≤ j → j < X.heap.size → Y.heap[j]? = X.heap[j]? := fun j h1 h2 => hk.blk j h2 (fun hs => by have := hS j hs; omega)
  have hn : 0 < n := h.pr.pos
  exact ⟨⟨cell_blk h.pr.cell (e _ h.s1 (block_lt h.pr.cell)), rangeAt_blk h.pr.row (e _ h.s2 h.pr.gb_lt), h.pr.len, h.pr.pos, h.pr.le, h.pr.cap⟩,
    ⟨cell_blk h.wh.cell (e _ h.s3 h.wh.lt), rangeAt_blk h.wh.row (e _ h.s4 (h.wh.cb_lt hn)), h.wh.len, h.wh.le⟩,
    ⟨cell_blk h.rr.cell (e _ h.s5 (block_lt h.rr.cell)), rangeAt_blk h.rr.row (e _ h.s6 h.rr.bb_lt), h.rr.len, h.rr.pos, h.rr.le, h.rr.cap⟩, h.s1, h.s2, h.s3, h.s4, h.s5, h.s6⟩
theorem EX.below {X Y : World} {S0 mc c1 k1 fb c2 k2 ws wb kw n : Nat} {L : List UInt8} (h : EX X S0 mc c1 k1 fb c2 k2 ws wb kw n L) (hb : Below X.heap.size X Y) : EX Y S0 mc c1 k1 fb c2 k2 ws wb kw n L :=
  h.ks (S := fun _ => False) (KS.of hb) (fun _ h => h.elim)
theorem JM.lts {B : Nat} {w : World} {mb gb rb bb n : Nat} {l : List UInt8} (h : JM B w mb gb rb bb n l) : ∀ j, SJ gb bb j → j < w.heap.size := fun j hj => by
  rcases hj with rfl | rfl
  · exact row_lt h.pm.row
  · exact row_lt h.rm.row
theorem JM.ge {B : Nat} {w : World} {mb gb rb bb n : Nat} {l : List UInt8} (h : JM B w mb gb rb bb n l) : ∀ j, SJ gb bb j → B ≤ j := fun j hj => by
  rcases hj with rfl | rfl
  · exact h.bg
  · exact h.bbb
theorem txt_neq {a b : List UInt8} (h : a ≠ b) : ((txt a).toList == (txt b).toList) = false := by
  unfold txt
  rw [ByteArray.toList_eq, ByteArray.toList_eq, beq_eq_false_iff_ne]
  simpa using h
/-- While what Whole handed back is gone over: the granules ahead of the k-th are done. -/
structure IW (w : World) (n gx ws wb kw : Nat) (L : List UInt8) (gv k : Nat) (X : World) : Prop where
  c6 : C6 w X n false
  rr : RR X ws wb n kw L
  g : X.heap[gx]? = some (.cells #[.int .i64 (gv : Int)] 3 (0, 0))
  gk : gv ≤ k
  z : ∀ j, gv ≤ j → j < k → getB L j = Z128
theorem IW.step {w X Y : World} {n gx ws wb kw : Nat} {L : List UInt8} {gv k : Nat} (h : IW w n gx ws wb kw L gv k X) (hb : Below X.heap.size X Y) : IW w n gx ws wb kw L gv k Y :=
  ⟨h.c6.step hb, h.rr.below hb, (hb.block _ (row_lt h.g)).trans h.g, h.gk, h.z⟩
theorem IW.put {w X : World} {n gx ws wb kw : Nat} {L : List UInt8} {gv k : Nat} (h : IW w n gx ws wb kw L gv k X) (lp : Nat) (ob : Obj) (h1 : w.heap.size + 1 < lp) (h2 : ws < lp) (h3 : wb < lp) (h4 : gx < lp) : IW w n gx ws wb kw L gv k (X.putObj lp ob) := by
  have e : ∀ j, j < lp → (X.putObj lp ob).heap[j]? = X.heap[j]? := fun j hj => World.putObj_heap_other (by omega)
  refine ⟨⟨h.c6.bel.grown (grownBy_putObj' X lp ob) h.c6.bel.size (fun k e => by cases e; omega), (e _ (by omega)).trans h.c6.gc, (e _ h1).trans h.c6.rc⟩, ⟨cell_blk h.rr.cell (e _ h2), rangeAt_blk h.rr.row (e _ h3), h.rr.len, h.rr.pos, h.rr.le, h.rr.cap⟩, (e _ h4).trans h.g, h.gk, h.z⟩
theorem IW.skip {w X : World} {n gx ws wb kw : Nat} {L : List UInt8} {gv k : Nat} (h : IW w n gx ws wb kw L gv k X) (hz : getB L k = Z128) : IW w n gx ws wb kw L gv (k + 1) X :=
  ⟨h.c6, h.rr, h.g, by have := h.gk; omega, fun j h1 h2 => by
    rcases Nat.lt_succ_iff_lt_or_eq.1 h2 with h3 | rfl
    · exact h.z j h1 h3
    · exact hz⟩
theorem IW.cells {w X : World} {n gx ws wb kw : Nat} {L : List UInt8} {gv k : Nat} (h : IW w n gx ws wb kw L gv k X) : X.cell? ⟨gx, 0, none⟩ = some (.int .i64 (gv : Int)) ∧ X.frozen? ⟨gx, 0, none⟩ = false ∧ X.cell? ⟨w.heap.size, 0, none⟩ = some (.int .i64 (n : Int)) :=
  ⟨by rw [cell_of_row _ _ 0 _ _ _ h.g]; rfl, frozen_of_row _ _ 0 _ _ h.g, h.c6.facts.1⟩
/-- g is set. -/
theorem IW.set {w X : World} {n gx ws wb kw : Nat} {L : List UInt8} {gv k : Nat} (h : IW w n gx ws wb kw L gv k X) (hd : w.heap.size + 2 ≤ gx) (h2 : ws ≠ gx) (h3 : wb ≠ gx) (gv' k' : Nat) (hg : gv' ≤ k') (hz : ∀ j, gv' ≤ j → j < k' → getB L j = Z128) :
    IW w n gx ws wb kw L gv' k' (X.setCell ⟨gx, 0, none⟩ (.int .i64 (gv' : Int))) := by
  have e : ∀ j, j ≠ gx → (X.setCell ⟨gx, 0, none⟩ (.int .i64 (gv' : Int))).heap[j]? = X.heap[j]? := fun j hj => heap_setCell_other _ _ _ _ (by simpa using hj)
  exact ⟨⟨h.c6.bel.setCell (p := ⟨gx, 0, none⟩) (by show w.heap.size ≤ gx; omega) _, (e _ (by omega)).trans h.c6.gc, (e _ (by omega)).trans h.c6.rc⟩, ⟨cell_blk h.rr.cell (e _ h2), rangeAt_blk h.rr.row (e _ h3), h.rr.len, h.rr.pos, h.rr.le, h.rr.cap⟩, by rw [heap_setCell_same _ _ 0 _ _ _ h.g]; rfl, hg, hz⟩
/-- What g's cell holds. -/
def gAt (X : World) (gx : Nat) : Nat := match X.cell? ⟨gx, 0, none⟩ with
  | some v => (intOf v).toNat
  | none => 0
theorem IW.gAt {w X : World} {n gx ws wb kw : Nat} {L : List UInt8} {gv k : Nat} (h : IW w n gx ws wb kw L gv k X) : MC.gAt X gx = gv := by
  unfold MC.gAt
  rw [h.cells.1]
  simp [intOf]
theorem KpR.refl (B fb cb : Nat) (X : World) : KpR B fb cb X X := ⟨Nat.le_refl _, fun _ _ _ => rfl⟩
theorem KpR.step {B fb cb : Nat} {X Y Z : World} (h : KpR B fb cb X Y) (hb : Below Y.heap.size Y Z) : KpR B fb cb X Z :=
  ⟨Nat.le_trans h.1 hb.size, fun k hk hS => (hb.block k (Nat.lt_of_lt_of_le hk h.1)).trans (h.2 k hk hS)⟩
theorem KpR.set {B fb cb gx : Nat} {X Y : World} (h : KpR B fb cb X Y) (h1 : gx < B) (h2 : gx ≠ fb) (h3 : gx ≠ cb) (v : Value) : KpR B fb cb X (Y.setCell ⟨gx, 0, none⟩ v) :=
  ⟨by have := h.1; simpa using this, fun k hk hS => (heap_setCell_other _ _ _ _ (by show k ≠ gx; rcases hS with hS | rfl | rfl <;> omega)).trans (h.2 k hk hS)⟩
end Go.Proofs.Ytikchlmfklbojaa.MC
