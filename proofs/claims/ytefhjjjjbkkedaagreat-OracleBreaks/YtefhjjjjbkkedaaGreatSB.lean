/- Contract of the program's drawnStream. -/
import Derived.Test.YtefhjjjjbkkedaaGreatQI
import Derived.Test.YtefhjjjjbkkedaaGreatQQ
import Derived.OwnWalk
set_option linter.unusedVariables false
set_option linter.unusedSimpArgs false
namespace Go.Proofs.YtefhjjjjbkkedaaGreat.R5.PS
open scoped Classical
open Go.RowKit

/-- The question of block k. -/
def sQ (q : Qn) (k : Nat) : Qn := ⟨q.kind, q.key, q.dom, q.data ++ W1.le 8 k⟩
/-- Blocks of a stream, and what the oracle knows then. -/
def str (q : Qn) (o : Pra) : Nat → List UInt8 × Pra
  | 0 => ([], o)
  | k + 1 => ((str q o k).1 ++ (pAsk (str q o k).2 (sQ q k) (drawD (str q o k).2.draws (str q o k).2.log.length)).1, (pAsk (str q o k).2 (sQ q k) (drawD (str q o k).2.draws (str q o k).2.log.length)).2)
theorem str_log (q : Qn) (o : Pra) : ∀ k, (str q o k).2.log.length ≤ o.log.length + k
  | 0 => Nat.le_refl _
  | k + 1 => by
    have := str_log q o k
    show (pAsk (str q o k).2 (sQ q k) _).2.log.length ≤ _
    unfold pAsk
    split
    · show (str q o k).2.log.length ≤ _; omega
    · show ((str q o k).2.log ++ [_]).length ≤ _; rw [List.length_append, List.length_singleton]; omega
theorem zero_qn (w : World) : (zeroValue 39).run Tryz.prog w = .ok (.agg (qL ⟨0, List.replicate 32 0, 0, []⟩ (.slice none 0 0)).toArray) w := by kernel_rfl
theorem info35a (RS : Array Value) (h : RS.size = 35) : (Tryz.prog.info? 39).map (·.size) = some RS.size := by rw [h]; kernel_rfl
theorem all_of {l : List Value} (h : ∀ u ∈ l, u.oneCell' = true) : l.toArray.all (·.oneCell') = true := by
  rw [Array.all_eq_true_iff_forall_mem]; intro x hx; exact h x (by simpa using hx)
theorem sliceTo (w : World) (b k : Nat) (hk : k ≤ 32) : (Instr.sliceAt 29 (.pointer (some ⟨b, 0, none⟩)) none (some (.int .i64 (k : Int))) none).run Tryz.prog w = .ok (.slice (some ⟨b, 0, none⟩) k 32) w := by
  have ha : Tryz.prog.arrayLen 29 = 32 := by kernel_rfl
  have hu : Tryz.prog.underlying 29 = some (.array (Tryz.prog.arrayLen 29) (Tryz.prog.elem 29)) := by kernel_rfl
  have he : Tryz.prog.elem 29 = 5 := by kernel_rfl
  rw [run_sliceAt_array_h w 29 _ hu .i64 _ (by omega) (by rw [ha]; omega), he, size_u8, ha]
  have hadd : (⟨b, 0, none⟩ : Addr).add (0 * 1) = ⟨b, 0, none⟩ := by unfold Addr.add; split <;> simp_all
  simp [Result.andThen, slicedAt, hadd]
/-- Where drawnStream stands: what the oracle knows, what is had of the stream. -/
structure DS (B og mb : Nat) (S : Nat → Prop) (w : World) (QL : List Value) (o : Pra) (dv v : Value) (l : List UInt8) (X : World) : Prop where
  ex : ∃ S' ov, PO B og mb S' X o dv ov ∧ (∀ j, S' j → S j ∨ w.heap.size ≤ j) ∧ (∀ j, v.ownBlock = some j → ¬ S' j) ∧ ¬ S' w.heap.size
  out : FB (w.heap.size + 1) X v l
  row : X.heap[w.heap.size]? = some (.cells QL.toArray 39 (0, 0))
  fr : Fr S w X
  dl : ∀ j, dv.ownBlock = some j → j < w.heap.size
section
variable {B og mb : Nat} {S : Nat → Prop} {w X : World} {QL : List Value} {o : Pra} {dv v : Value} {l : List UInt8}
theorem DS.step {Y : World} (h : DS B og mb S w QL o dv v l X) (hb : Below X.heap.size X Y) : DS B og mb S w QL o dv v l Y := by
  obtain ⟨S', ov, h1, h2, h3, h4⟩ := h.ex
  exact ⟨⟨S', ov, h1.below hb, h2, h3, h4⟩, fb_below h.out hb, (hb.block _ (row_lt h.row)).trans h.row, h.fr.then hb, h.dl⟩
theorem DS.answer (h : DS B og mb S w QL o dv v l X) (hB : B ≤ w.heap.size) (hll : o.log.length < 1000000) (dq : Value) (q : Qn) (hq : kOk q) (hdq : HB X dq q.data) :
    Calls Tryz.prog 31 #[.pointer (some ⟨og, 0, none⟩), .agg (qL q dq).toArray, .func (.func 32) #[.pointer (some ⟨og, 0, none⟩)] #[]] X fun e Y => e = .returned (dV (pAsk o q (drawD o.draws o.log.length)).1) ∧ DS B og mb S w QL (pAsk o q (drawD o.draws o.log.length)).2 dv v l Y ∧ X.heap.size ≤ Y.heap.size := by
  obtain ⟨S', ov, h1, h2, h3, h4⟩ := h.ex
  have hs := h.fr.size
  refine (panswer_ideal B og mb S' dq dv ov o q X (by omega) hll h1 hq hdq).mono ?_
  rintro e Y ⟨rfl, hf, ov', hp⟩
  have hs2 := hf.size
  have hvb := fun j e => World.ownsRow.lt h.out j e
  refine ⟨rfl, ⟨⟨_, ov', hp, fun j hj => hj.elim (h2 j) (fun hg => .inr (by omega)), fun j e hj => hj.elim (h3 j e) (fun hg => by have := (hvb j e).2; omega), fun hj => hj.elim h4 (fun hg => by have := row_lt h.row; omega)⟩, ?_, (hf.block _ (row_lt h.row) h4).trans h.row, h.fr.trans hf h2, h.dl⟩, hs2⟩
  exact own_keep h.out (fun j e hl => hf.block j hl (h3 j e))
theorem DS.app {Z : World} {v' : Value} {l' : List UInt8} {g : Nat} (h : DS B og mb S w QL o dv v l X) (hg : X.grownBy Z v.ownBlock) (ho : FB (w.heap.size + 1) Z v' l') (hv : v'.ownBlock = some g) (hgl : v.ownBlock = some g ∨ X.heap.size ≤ g) : DS B og mb S w QL o dv v' l' Z := by
  obtain ⟨S', ov, h1, h2, h3, h4⟩ := h.ex
  have hvb := fun j e => World.ownsRow.lt h.out j e
  refine ⟨⟨S', ov, h1.keep hg.size (fun k hk hS => hg.block k hk (fun e => hS.elim (h3 k e.symm) (fun hd => ?_))), h2, fun j e hj => ?_, h4⟩, ho, (hg.block _ (row_lt h.row) (fun e => ?_)).trans h.row, h.fr.grown hg (fun k e => .inr (by have := (hvb k e).1; omega)), h.dl⟩
  · have := h.dl k hd; have := (hvb k e.symm).1; omega
  · rw [hv] at e
    have e' : g = j := by simpa using e
    subst e'
    rcases hgl with hgl | hgl
    · exact h3 g hgl hj
    · have := h1.top g hj; omega
  · have := (hvb _ e.symm).1; omega
end
theorem bs_pair (w : World) (p1 p2 : Option Addr) (n1 n2 c1 c2 : Nat) : (Instr.buildSlice 83 2 #[(0, .slice p1 n1 c1), (1, .slice p2 n2 c2)]).run Tryz.prog w = .ok (.slice (some ⟨w.heap.size, 0, none⟩) 2 2) (w.alloc (.cells #[.slice p1 n1 c1, .slice p2 n2 c2] 37 (0, 0))) := by kernel_rfl
theorem hp_pair {X : World} {u v : Value} {a b : List UInt8} (hu : HB X u a) (hv : HB X v b) : HP (X.alloc (.cells #[u, v] 37 (0, 0))) (.slice (some ⟨X.heap.size, 0, none⟩) 2 2) [a, b] := by
  have hb : Below X.heap.size X (X.alloc (.cells #[u, v] 37 (0, 0))) := (Below.refl _ _).alloc (Nat.le_refl _) _
  refine ⟨_, 2, rfl, fun i hi => ?_⟩
  have hi2 : i = 0 ∨ i = 1 := by simp at hi; omega
  rcases hi2 with rfl | rfl
  · exact ⟨X.heap.size, u, rfl, by rw [cell_of_row _ _ 0 _ _ _ (heap_alloc_new _ _)]; rfl, hu.below hb⟩
  · exact ⟨X.heap.size, v, rfl, by rw [cell_of_row _ _ 1 _ _ _ (heap_alloc_new _ _)]; rfl, hv.below hb⟩
end Go.Proofs.YtefhjjjjbkkedaaGreat.R5.PS
