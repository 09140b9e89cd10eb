/- Several texts in one. -/
import Derived.Test.YtbmmibmfjhehhaaGreatWr
import Derived.OwnWalk
set_option linter.unusedVariables false
set_option linter.unusedSimpArgs false
/- Contracts of the program's Ideal, Used, and of Stream where it refuses. -/
namespace Go.Proofs.YtbmmibmfjhehhaaGreat.R5
open scoped Classical
open Go.RowKit

def strB (q : Qn) (n : Int) : Bool := decide (q.kind = 4 ∧ 1 ≤ q.dom ∧ q.dom ≤ 16 ∧ 0 ≤ n ∧ n ≤ 1024)
structure Aft1 (w W : World) (QL : List Value) : Prop where
  below : Below w.heap.size w W
  r0 : W.heap[w.heap.size]? = some (.cells QL.toArray 66 (0, 0))
theorem aft1_of {w w1 : World} {QL : List Value} (h : Below (w.alloc (.cells QL.toArray 66 (0, 0))).heap.size (w.alloc (.cells QL.toArray 66 (0, 0))) w1) : Aft1 w w1 QL := by
  have hb : Below w.heap.size w (w.alloc (.cells QL.toArray 66 (0, 0))) := (Below.refl _ _).alloc (Nat.le_refl _) _
  have hr0 := heap_alloc_new w (.cells QL.toArray 66 (0, 0))
  exact ⟨hb.trans (h.mono hb.size), (h.block _ (row_lt hr0)).trans hr0⟩
end Go.Proofs.YtbmmibmfjhehhaaGreat.R5

/- What the statements know: the chapter's rows. -/
namespace Go.Proofs.YtbmmibmfjhehhaaGreat.R5
open scoped Classical
open Go.RowKit

theorem PO.lower {B B' og mb : Nat} {S : Nat → Prop} {w : World} {o : Pra} {dv ov : Value} (h : PO B og mb S w o dv ov) (hB : B' ≤ B) : PO B' og mb S w o dv ov :=
  ⟨h.ml, h.row, h.draws, h.dro, h.ok, own_lower h.order hB, h.map, h.sog, h.smb, h.sov, fun k hk => Nat.le_trans hB (h.low k hk), h.top⟩
structure KN (w : World) (og mb : Nat) (o : Pra) (rows : List (Nat × List UInt8)) (X : World) : Prop where
  ex : ∃ S dv ov, PO w.heap.size og mb S X o dv ov ∧ Below w.heap.size w X ∧ ∀ r ∈ rows, X.heap[r.1]? = some (.cells (r.2.map B8).toArray 23 (0, 0)) ∧ ¬ S r.1
section
variable {w X : World} {og mb : Nat} {o : Pra} {rows : List (Nat × List UInt8)}
theorem KN.bel (h : KN w og mb o rows X) : Below w.heap.size w X := by obtain ⟨_, _, _, _, h, _⟩ := h.ex; exact h
theorem KN.row (h : KN w og mb o rows X) {r : Nat × List UInt8} (hr : r ∈ rows) : X.rangeAt r.1 0 (r.2.map B8) := by obtain ⟨_, _, _, _, _, h⟩ := h.ex; exact rangeAt_row (h r hr).1
theorem KN.step {Y : World} (h : KN w og mb o rows X) (hb : Below X.heap.size X Y) : KN w og mb o rows Y := by
  obtain ⟨S, dv, ov, h1, h2, h3⟩ := h.ex
  exact .mk ⟨S, dv, ov, h1.below hb, h2.trans (hb.mono h2.size), fun r hr => ⟨(hb.block _ (row_lt (h3 r hr).1)).trans (h3 r hr).1, (h3 r hr).2⟩⟩
theorem KN.alloc (h : KN w og mb o rows X) (ob : Obj) : KN w og mb o rows (X.alloc ob) := h.step ((Below.refl _ _).alloc (Nat.le_refl _) _)
theorem KN.asked {Y : World} {S : Nat → Prop} {dv : Value} {o' : Pra} (hp : ∀ k, S k → w.heap.size ≤ k) (h2 : Below w.heap.size w X) (h3 : ∀ r ∈ rows, X.heap[r.1]? = some (.cells (r.2.map B8).toArray 23 (0, 0)) ∧ ¬ S r.1) (hf : Fr S X Y)
    (hq : ∃ ov', PO w.heap.size og mb (fun k => S k ∨ (X.heap.size ≤ k ∧ k < Y.heap.size)) Y o' dv ov') : KN w og mb o' rows Y := by
  obtain ⟨ov', hq⟩ := hq
  have hs2 := h2.size
  refine .mk ⟨_, dv, ov', hq, ⟨hf.os.trans h2.os, hf.tape.trans h2.tape, hf.output.trans h2.output, Nat.le_trans h2.size hf.size, fun k hk => (hf.block k (by omega) (fun h => by have := hp k h; omega)).trans (h2.block k hk)⟩, fun r hr => ?_⟩
  have hl := row_lt (h3 r hr).1
  exact ⟨(hf.block _ hl (h3 r hr).2).trans (h3 r hr).1, fun h => h.elim (h3 r hr).2 (fun h => by omega)⟩
end
end Go.Proofs.YtbmmibmfjhehhaaGreat.R5

/- Contract of the statements' known. -/
namespace Go.Proofs.YtbmmibmfjhehhaaGreat.R5
open scoped Classical
open Go.RowKit

def kA : List UInt8 := 1 :: List.replicate 31 0
def kB : List UInt8 := 2 :: List.replicate 31 0
def kZ : List UInt8 := 2 :: List.replicate 30 0 ++ [1]
def z32 : List UInt8 := List.replicate 32 0
def kO0 : Pra := ⟨true, z32, [kA, kB], []⟩
def kQ1 : Qn := ⟨1, z32, 2, [120]⟩
def kQ2 : Qn := ⟨1, z32, 2, [121]⟩
def kQ3 : Qn := ⟨1, z32, 3, [120]⟩
def kO1 : Pra := ⟨true, z32, [kA, kB], [(kQ1, kA)]⟩
def kO2 : Pra := ⟨true, z32, [kA, kB], [(kQ1, kA), (kQ2, kB)]⟩
def kO3 : Pra := ⟨true, z32, [kA, kB], [(kQ1, kA), (kQ2, kB), (kQ3, kZ)]⟩
theorem k1 : pAsk kO0 kQ1 (drawD kO0.draws kO0.log.length) = (kA, kO1) := by kernel_rfl
theorem k2 : pAsk kO1 kQ2 (drawD kO1.draws kO1.log.length) = (kB, kO2) := by kernel_rfl
theorem k3 : pAsk kO2 kQ1 (drawD kO2.draws kO2.log.length) = (kA, kO2) := by kernel_rfl
theorem k4 : pAsk kO2 kQ3 (drawD kO2.draws kO2.log.length) = (kZ, kO3) := by kernel_rfl
theorem wpList_bslice {ops : Array Oper} {rest : List Oper} {o : Oper} {a : Act} {Q : Exit → Act → World → Prop} {w w' : World} (hgd : o.guard = none) (t : TypeId) (n : Nat) (parts : Array (Nat × Operand)) (ho : o.op = .buildSlice t n parts) (vals : Array (Nat × Value)) (v : Value) (hp : (parts.map fun (i, x) => (i, a.eval x)) = vals)
    (hr : (Instr.buildSlice t n vals).run Tryz.prog w = .ok v w') (h : wpList Tryz.prog ops Q rest (a.put o.dst v) w') : wpList Tryz.prog ops Q (o :: rest) a w := by
  refine wpList_plain hgd fun K' hK' => ?_
  unfold Oper.wp execOp
  simp only [ho, Sem.run_bind, hp, hr, Result.andThen_ok]
  exact hK' _ _ h
theorem wpList_store_rowL {ops : Array Oper} {rest : List Oper} {o : Oper} {a : Act} {w : World} {Q : Exit → Act → World → Prop} (hgd : o.guard = none) (ty : TypeId) (x y : Operand) (ho : o.op = .store ty x y)
    (g : Nat) (cells : Array Value) (hx : a.eval x = .pointer (some ⟨g, 0, none⟩)) (hy : a.eval y = .agg cells)
    (t : TypeId) (old : Array Value) (hg : w.heap[g]? = some (.cells old t (0, 0))) (hi : (Tryz.prog.info? ty).map (·.size) = some cells.size)
    (hold : old.size = cells.size) (h1 : cells.all (·.oneCell') = true)
    (h : ∀ W', W' = w.setRow g cells → wpList Tryz.prog ops Q rest (a.put o.dst undef) W') : wpList Tryz.prog ops Q (o :: rest) a w :=
  wpList_store_row hgd ty x y ho g cells hx hy t old hg hi hold h1 (h _ rfl)

theorem wpList_buildg {ops : Array Oper} {rest : List Oper} {o : Oper} {a : Act} {Q : Exit → Act → World → Prop} {w : World} (hw : Region.wanted o (yielded ops a.tmps) = true) (t : TypeId) (parts : Array (Nat × Operand)) (ho : o.op = .build t parts) (vals : Array (Nat × Value)) (v : Value) (hp : (parts.map fun (i, x) => (i, a.eval x)) = vals)
    (hr : (Instr.build t vals).run Tryz.prog w = .ok v w) (h : wpList Tryz.prog ops Q rest (a.put o.dst v) w) : wpList Tryz.prog ops Q (o :: rest) a w := by
  refine wpList_step fun K hK => ?_
  rw [if_pos hw]
  unfold Oper.wp
  rw [exec_build a.eval o t parts vals v w ho hp hr]
  exact hK _ _ h
end Go.Proofs.YtbmmibmfjhehhaaGreat.R5

/- Contract of the program's drawnStream. -/
namespace Go.Proofs.YtbmmibmfjhehhaaGreat.R5.PS
open scoped Classical
open Go.RowKit

def sQ (q : Qn) (k : Nat) : Qn := ⟨q.kind, q.key, q.dom, q.data ++ W1.le 8 k⟩
def str (q : Qn) (o : Pra) : Nat → List UInt8 × Pra
  | 0 => ([], o)
  | k + 1 => ((str q o k).1 ++ (pAsk (str q o k).2 (sQ q k) (drawD (str q o k).2.draws (str q o k).2.log.length)).1, (pAsk (str q o k).2 (sQ q k) (drawD (str q o k).2.draws (str q o k).2.log.length)).2)
theorem str_log (q : Qn) (o : Pra) : ∀ k, (str q o k).2.log.length ≤ o.log.length + k
  | 0 => Nat.le_refl _
  | k + 1 => by
    have := str_log q o k
    show (pAsk (str q o k).2 (sQ q k) _).2.log.length ≤ _
    unfold pAsk
    split
    · show (str q o k).2.log.length ≤ _; omega
    · show ((str q o k).2.log ++ [_]).length ≤ _; rw [List.length_append, List.length_singleton]; omega
theorem zero_qn (w : World) : (zeroValue 66).run Tryz.prog w = .ok (.agg (qL ⟨0, List.replicate 32 0, 0, []⟩ (.slice none 0 0)).toArray) w := by kernel_rfl
theorem info35a (RS : Array Value) (h : RS.size = 35) : (Tryz.prog.info? 66).map (·.size) = some RS.size := by rw [h]; kernel_rfl
theorem all_of {l : List Value} (h : ∀ u ∈ l, u.oneCell' = true) : l.toArray.all (·.oneCell') = true := by
  rw [Array.all_eq_true_iff_forall_mem]; intro x hx; exact h x (by simpa using hx)
theorem sliceTo (w : World) (b k : Nat) (hk : k ≤ 32) : (Instr.sliceAt 23 (.pointer (some ⟨b, 0, none⟩)) none (some (.int .i64 (k : Int))) none).run Tryz.prog w = .ok (.slice (some ⟨b, 0, none⟩) k 32) w := by
  have ha : Tryz.prog.arrayLen 23 = 32 := by kernel_rfl
  have hu : Tryz.prog.underlying 23 = some (.array (Tryz.prog.arrayLen 23) (Tryz.prog.elem 23)) := by kernel_rfl
  have he : Tryz.prog.elem 23 = 5 := by kernel_rfl
  rw [run_sliceAt_array_h w 23 _ hu .i64 _ (by omega) (by rw [ha]; omega), he, size_u8, ha]
  have hadd : (⟨b, 0, none⟩ : Addr).add (0 * 1) = ⟨b, 0, none⟩ := by unfold Addr.add; split <;> simp_all
  simp [Result.andThen, slicedAt, hadd]
structure DS (B og mb : Nat) (S : Nat → Prop) (w : World) (QL : List Value) (o : Pra) (dv v : Value) (l : List UInt8) (X : World) : Prop where
  ex : ∃ S' ov, PO B og mb S' X o dv ov ∧ (∀ j, S' j → S j ∨ w.heap.size ≤ j) ∧ (∀ j, v.ownBlock = some j → ¬ S' j) ∧ ¬ S' w.heap.size
  out : FB (w.heap.size + 1) X v l
  row : X.heap[w.heap.size]? = some (.cells QL.toArray 66 (0, 0))
  fr : Fr S w X
  dl : ∀ j, dv.ownBlock = some j → j < w.heap.size
section
variable {B og mb : Nat} {S : Nat → Prop} {w X : World} {QL : List Value} {o : Pra} {dv v : Value} {l : List UInt8}
theorem DS.step {Y : World} (h : DS B og mb S w QL o dv v l X) (hb : Below X.heap.size X Y) : DS B og mb S w QL o dv v l Y := by
  obtain ⟨S', ov, h1, h2, h3, h4⟩ := h.ex
  exact ⟨⟨S', ov, h1.below hb, h2, h3, h4⟩, fb_below h.out hb, (hb.block _ (row_lt h.row)).trans h.row, h.fr.then hb, h.dl⟩
theorem DS.answer (h : DS B og mb S w QL o dv v l X) (hB : B ≤ w.heap.size) (hll : o.log.length < 1000000) (dq : Value) (q : Qn) (hq : kOk q) (hdq : HB X dq q.data) :
    Calls Tryz.prog 51 #[.pointer (some ⟨og, 0, none⟩), .agg (qL q dq).toArray, .func (.func 64) #[.pointer (some ⟨og, 0, none⟩)] #[]] X fun e Y => e = .returned (dV (pAsk o q (drawD o.draws o.log.length)).1) ∧ DS B og mb S w QL (pAsk o q (drawD o.draws o.log.length)).2 dv v l Y ∧ X.heap.size ≤ Y.heap.size := by
  obtain ⟨S', ov, h1, h2, h3, h4⟩ := h.ex
  have hs := h.fr.size
  refine (panswer_ideal B og mb S' dq dv ov o q X (by omega) hll h1 hq hdq).mono ?_
  rintro e Y ⟨rfl, hf, ov', hp⟩
  have hs2 := hf.size
  have hvb := fun j e => World.ownsRow.lt h.out j e
  refine ⟨rfl, ⟨⟨_, ov', hp, fun j hj => hj.elim (h2 j) (fun hg => .inr (by omega)), fun j e hj => hj.elim (h3 j e) (fun hg => by have := (hvb j e).2; omega), fun hj => hj.elim h4 (fun hg => by have := row_lt h.row; omega)⟩, ?_, (hf.block _ (row_lt h.row) h4).trans h.row, h.fr.trans hf h2, h.dl⟩, hs2⟩
  exact own_keep h.out (fun j e hl => hf.block j hl (h3 j e))
theorem DS.app {Z : World} {v' : Value} {l' : List UInt8} {g : Nat} (h : DS B og mb S w QL o dv v l X) (hg : X.grownBy Z v.ownBlock) (ho : FB (w.heap.size + 1) Z v' l') (hv : v'.ownBlock = some g) (hgl : v.ownBlock = some g ∨ X.heap.size ≤ g) : DS B og mb S w QL o dv v' l' Z := by
  obtain ⟨S', ov, h1, h2, h3, h4⟩ := h.ex
  have hvb := fun j e => World.ownsRow.lt h.out j e
  refine ⟨⟨S', ov, h1.keep hg.size (fun k hk hS => hg.block k hk (fun e => hS.elim (h3 k e.symm) (fun hd => ?_))), h2, fun j e hj => ?_, h4⟩, ho, (hg.block _ (row_lt h.row) (fun e => ?_)).trans h.row, h.fr.grown hg (fun k e => .inr (by have := (hvb k e).1; omega)), h.dl⟩
  · have := h.dl k hd; have := (hvb k e.symm).1; omega
  · rw [hv] at e
    have e' : g = j := by simpa using e
    subst e'
    rcases hgl with hgl | hgl
    · exact h3 g hgl hj
    · have := h1.top g hj; omega
  · have := (hvb _ e.symm).1; omega
end
theorem bs_pair (w : World) (p1 p2 : Option Addr) (n1 n2 c1 c2 : Nat) : (Instr.buildSlice 93 2 #[(0, .slice p1 n1 c1), (1, .slice p2 n2 c2)]).run Tryz.prog w = .ok (.slice (some ⟨w.heap.size, 0, none⟩) 2 2) (w.alloc (.cells #[.slice p1 n1 c1, .slice p2 n2 c2] 64 (0, 0))) := by kernel_rfl
theorem hp_pair {X : World} {u v : Value} {a b : List UInt8} (hu : HB X u a) (hv : HB X v b) : HP (X.alloc (.cells #[u, v] 64 (0, 0))) (.slice (some ⟨X.heap.size, 0, none⟩) 2 2) [a, b] := by
  have hb : Below X.heap.size X (X.alloc (.cells #[u, v] 64 (0, 0))) := (Below.refl _ _).alloc (Nat.le_refl _) _
  refine ⟨_, 2, rfl, fun i hi => ?_⟩
  have hi2 : i = 0 ∨ i = 1 := by simp at hi; omega
  rcases hi2 with rfl | rfl
  · exact ⟨X.heap.size, u, rfl, by rw [cell_of_row _ _ 0 _ _ _ (heap_alloc_new _ _)]; rfl, hu.below hb⟩
  · exact ⟨X.heap.size, v, rfl, by rw [cell_of_row _ _ 1 _ _ _ (heap_alloc_new _ _)]; rfl, hv.below hb⟩
end Go.Proofs.YtbmmibmfjhehhaaGreat.R5.PS

/- Contract of the program's drawnStream: the walk. -/
namespace Go.Proofs.YtbmmibmfjhehhaaGreat.R5.PS
open scoped Classical
open Go.RowKit

theorem hb_keepM {w w' : World} {v : Value} {l : List UInt8} (h : HB w v l) (hk : l ≠ [] → ∀ k, v.ownBlock = some k → k < w.heap.size → w'.heap[k]? = w.heap[k]?) : HB w' v l := by
  by_cases hl : l = []
  · subst hl
    rcases h with h | ⟨b, o, cap, h1, h2, h3, h4⟩
    · exact .inl h
    · exact .inr ⟨b, o, cap, h1, h2, h3, fun i hi => by simp at hi⟩
  · exact hb_keep h (hk hl)

def SEnd (B og mb : Nat) (S : Nat → Prop) (w : World) (o : Pra) (dv : Value) (q : Qn) (n : Nat) (e : Ending) (w' : World) : Prop :=
  ∃ v, e = .returned v ∧ (∀ j, v.ownBlock = some j → w.heap.size ≤ j) ∧ HB w' v ((str q o ((n + 31) / 32)).1.take n) ∧ Fr S w w' ∧ ∃ ov', PO B og mb (fun k => S k ∨ (w.heap.size ≤ k ∧ k < w'.heap.size)) w' (str q o ((n + 31) / 32)).2 dv ov'
theorem str_len {B og mb : Nat} {S : Nat → Prop} {w : World} {o : Pra} {dv ov : Value} (h : PO B og mb S w o dv ov) (q : Qn) : ∀ k, (str q o k).1.length = 32 * k ∧ (∀ x ∈ (str q o k).2.log, x.2.length = 32) ∧ (str q o k).2.draws = o.draws
  | 0 => ⟨rfl, fun x hx => (h.ok.all x hx).2, rfl⟩
  | k + 1 => by
    obtain ⟨h1, h2, h3⟩ := str_len h q k
    have hd : (drawD (str q o k).2.draws (str q o k).2.log.length).length = 32 := drawD_len _ _ (by rw [h3]; exact h.draws.1)
    show ((str q o k).1 ++ (pAsk (str q o k).2 (sQ q k) _).1).length = _ ∧ (∀ x ∈ (pAsk (str q o k).2 (sQ q k) _).2.log, _) ∧ (pAsk (str q o k).2 (sQ q k) _).2.draws = _
    cases hf : fndA (sQ q k) (str q o k).2.log with
    | some A =>
      rw [pAsk_some hf]
      exact ⟨by rw [List.length_append, h1, h2 _ (fndA_some hf)]; omega, h2, h3⟩
    | none =>
      rw [pAsk_none hf]
      refine ⟨by rw [List.length_append, h1, hd]; omega, fun x hx => ?_, h3⟩
      rcases List.mem_append.1 hx with hx | hx
      · exact h2 x hx
      · rw [List.mem_singleton] at hx; rw [hx]; exact hd
theorem new_take {X : World} {b : Nat} {AC : List Value} {t : TypeId} (h : X.heap[b]? = some (.cells AC.toArray t (0, 0))) (c : Nat) : ∀ j u, (AC.take c)[j]? = some u → X.cell? ((⟨b, 0, none⟩ : Addr).add j) = some u := fun j u hu => by
  rw [add_none]
  rw [List.getElem?_take] at hu
  split at hu
  · exact rangeAt_row h j u hu
  · cases hu
set_option maxHeartbeats 8000000 in
set_option maxRecDepth 100000 in
theorem dstream_any (B og mb : Nat) (S : Nat → Prop) (dq dv ov : Value) (o : Pra) (q : Qn) (n : Nat) (w : World) (hB : B ≤ w.heap.size) (hll : o.log.length < 900000) (ho : PO B og mb S w o dv ov) (hq : kOk q) (hql : q.data.length ≤ 1000000) (hn : n ≤ 1024) (hdq : HB w dq q.data) (hqo : q.data ≠ [] → ∀ j, dq.ownBlock = some j → ¬ S j) :
    Calls Tryz.prog 49 #[.pointer (some ⟨og, 0, none⟩), .agg (qL q dq).toArray, .int .i64 (n : Int)] w fun e w' => SEnd B og mb S w o dv q n e w' := by
  obtain ⟨pq, cq, hdv, _⟩ := hb_cells hdq
  subst hdv
  have HSL : Hid _ := str_len ho q
  have hdl := fun j e => (ho.dro j e).2
  have HQN : Hid ((qL q (.slice pq q.data.length cq)).length = 35) := qL_len _ _ hq.key
  have HQ34 : Hid ((qL q (.slice pq q.data.length cq)).toArray[34]? = some (.slice pq q.data.length cq)) := by have := qL_34 q (.slice pq q.data.length cq) hq.key; show _ = _; simpa using this
  have HQ1 : Hid ((qL q (.slice pq q.data.length cq)).toArray.all (·.oneCell') = true) := all_of (qL_one q _ rfl)
  have HSET : Hid (∀ v', (qL q (.slice pq q.data.length cq)).toArray.setIfInBounds 34 v' = (qL q v').toArray) := fun v' => qL_set34 q _ v' hq.key
  have HQI : Hid _ := info35 (qL q (.slice pq q.data.length cq)) HQN.out
  obtain ⟨QL, hQL⟩ : ∃ L, L = qL q (.slice pq q.data.length cq) := ⟨_, rfl⟩
  rw [← hQL] at HQN HQ34 HQ1 HSET HQI ⊢
  clear hQL
  have hb1 : Below w.heap.size w (w.alloc (.cells QL.toArray 66 (0, 0))) := (Below.refl _ _).alloc (Nat.le_refl _) _
  have hz := fun W => zero_qn W
  obtain ⟨ZQ, hZQ⟩ : ∃ A, A = (qL ⟨0, List.replicate 32 0, 0, []⟩ (.slice none 0 0)).toArray := ⟨_, rfl⟩
  rw [← hZQ] at hz
  have HZQ : Hid (ZQ.size = 35) := by show _ = _; rw [hZQ]; rfl
  have hzv := fun W => zero_dig W
  obtain ⟨ZA, hZA⟩ : ∃ A, A = ((List.replicate 32 (0 : UInt8)).map B8).toArray := ⟨_, rfl⟩
  rw [← hZA] at hzv
  have HZA : Hid (ZA.size = 32) := by show _ = _; rw [hZA]; simp
  obtain ⟨i0, hi, hz0, hz1, hz2⟩ := info_parts Tryz.infoU8
  have HD0 : Hid (DS B og mb S w QL o dv (.slice none 0 0) [] (w.alloc (.cells QL.toArray 66 (0, 0)))) :=
    ⟨⟨S, ov, ho.below hb1, fun j h => .inl h, fun j e => by simp [Value.ownBlock] at e, fun h => by have := ho.top _ h; omega⟩, World.ownsRow_nil _ _ _ _, heap_alloc_new _ _, Fr.ofBelow hb1, hdl⟩
  have HO : Hid _ := ho
  have HQ : Hid _ := hq
  have HDQ : Hid (∀ X, Fr S w X → HB X (.slice pq q.data.length cq) q.data) := fun X hf => hb_keepM hdq (fun hne j e hl => hf.block j hl (hqo hne j e))
  obtain ⟨M, hM⟩ : ∃ M, M = (n + 31) / 32 := ⟨_, rfl⟩
  have HM : Hid _ := hM
  have hM1 : 32 * M < n + 32 := by omega
  have hM2 : n ≤ 32 * M := by omega
  have hdiv : ((n : Int) + 32 - 1).tdiv 32 = (M : Int) := by rw [Int.tdiv_eq_ediv_of_nonneg (by omega)]; omega
  have HUQ : Hid _ := Tryz.underlying66
  clear hZQ hZA ho hq hdq hqo hb1 hdl hM
  go_enter Tryz.func49, Tryz.ntmps49
  go_wp2_with (first
    | ((refine wpList_make_own _ rfl _ _ 64 rfl (w.heap.size + 1) 5 i0 (.int .u8 0) 1 Tryz.underlying64 hi hz0 hz1 .i64 .i64 _ n rfl rfl rfl (by rw [hz2]; omega) (by unfold maxLen; omega) (by simp) ?_; intro w2 hown2 hgr2; have HD2 : Hid (DS B og mb S w QL o dv (.slice (some ⟨w.heap.size + 1, 0, none⟩) 0 n) [] w2) := (HD0.out.app hgr2 (by unfold FB; simpa using hown2) rfl (.inr (by simp))); clear hown2 hgr2)))
  go_loopw [7, 17] (fun v i wr => ∃ k : Nat, k ≤ M ∧ i = .int .i64 k ∧ DS B og mb S w QL (str q o k).2 dv v ((str q o k).1.take n) wr) (fun _ i _ => M - (intOf i).toNat)
  case atStart => exact ⟨0, Nat.zero_le _, rfl, by show DS B og mb S w QL o dv _ (List.take n []) _; rw [List.take_nil]; exact HD2.out⟩
  case round =>
    clear HD2 HD0
    obtain ⟨k, hk, rfl, hD⟩ := hrel
    obtain ⟨hl1, _, _⟩ := HSL.out k
    by_cases hlt : k < M
    · have hkI : (k : Int) < (M : Int) := by omega
      have hkn : 32 * k < n := by omega
      have hlen : ((str q o k).1.take n).length = 32 * k := by rw [List.length_take, hl1]; omega
      obtain ⟨p7, c7, hv7, _⟩ := hb_cells hD.out.hb
      rw [hlen] at hv7
      subst hv7
      have hsw := row_lt hD.row
      have HRQ : Hid (wr.rangeAt w.heap.size 0 QL) := rangeAt_row hD.row
      have HZR : Hid ((wr.alloc (.cells ZQ 66 (0, 0))).heap[wr.heap.size]? = some (.cells ZQ 66 (0, 0))) := heap_alloc_new _ _
      have HQS : Hid (QL.toArray.size = 35) := by show _ = _; simpa using HQN.out
      have HD : Hid _ := hD
      have HLEN : Hid _ := hlen
      clear hD hlen hl1
      go_wp2_with (first
        | (refine wpList_load_mid rfl 66 (.tmp 4) rfl w.heap.size 0 rfl QL _ HRQ.out HUQ.out rfl HQI.out ?_)
        | (refine wpList_store_rowL rfl 66 _ _ rfl wr.heap.size QL.toArray rfl rfl 66 ZQ HZR.out (info35a _ HQS.out) (HZQ.out.trans HQS.out.symm) HQ1.out ?_; intro X1 hX1; have HR1 : Hid (X1.drew.heap[wr.heap.size]? = some (.cells QL.toArray 66 (0, 0))) := (by rw [hX1]; exact setRow_heap _ _ _ _ _ _ HZR.out); have HB1 : Hid (Below wr.heap.size wr X1.drew) := (by rw [hX1]; exact (below_setRow ((Below.refl _ _).alloc (Nat.le_refl _) _) (Nat.le_refl _) _).drew); clear hX1))
      have HC1 : Hid (X1.drew.cell? ⟨w.heap.size, 34, none⟩ = some (.slice pq q.data.length cq)) := by
        show _ = _
        rw [cell_of_row _ _ 34 _ _ _ ((HB1.out.block _ hsw).trans HD.out.row)]; exact HQ34.out
      refine wp_region_held_drew (S := fun X => X.cell? ⟨w.heap.size, 34, none⟩ = some (.slice pq q.data.length cq)) (by kernel_rfl) HC1.out (fun hHeld => ?_)
      generalize X1.drew = Y1 at *
      refine wpAnyH_take (i := 0) (oi := ⟨some 21, .fieldAddr 66 (.tmp 4) 3, 0, _, #[], none⟩) (v := .pointer (some ⟨w.heap.size, 34, none⟩)) rfl (by kernel_rfl) (by kernel_rfl) (by kernel_rfl) (fun _ _ _ h => h) (Or.inl ⟨by rfl, fun w' hw' => ?_⟩) hHeld ?_
      · first | (go_simp; done) | (go_simp; rfl)
      try simp only [Act.put, qT, q0, qS]
      refine wpAnyH_take (i := 1) (oi := ⟨some 22, .load 64 (.tmp 21), 64, _, #[⟨0, .data⟩], none⟩) (v := .slice pq q.data.length cq) rfl (by kernel_rfl) (by kernel_rfl) (by kernel_rfl) (fun _ _ _ h => h) (Or.inl ⟨by rfl, fun w' hw' => ?_⟩) hHeld ?_
      · have hcc := hw'; first | (go_simp; done) | (go_simp; rfl)
      try simp only [Act.put, qT, q0, qS]
      refine wpAnyH_take (i := 2) (oi := ⟨some 23, .move (.tmp 8), 3, _, #[], none⟩) (v := .int .i64 k) rfl (by kernel_rfl) (by kernel_rfl) (by kernel_rfl) (fun _ _ _ h => h) (Or.inl ⟨by rfl, fun w' hw' => ?_⟩) hHeld ?_
      · first | (go_simp; done) | (go_simp; rfl)
      try simp only [Act.put, qT, q0, qS]
      refine wpAnyH_ready (rs := [3]) (by kernel_rfl) (by simp) ?_
      refine AllReadyH.cons (o := { dst := some 24, op := .call { callee := Go.Callee.value (.func 68), args := #[.tmp 23], argTypes := #[3] }, type := 64, pos := _, after := #[⟨2, .data⟩], guard := none }) rfl (fun K hK => ?_) AllReadyH.nil
      rw [if_pos (by rfl)]
      go_wp2_with fail
      refine (numB_any k Y1 (by omega)).mono ?_
      rintro e Y2 ⟨v2, rfl, hf2, hb2⟩
      obtain ⟨p2, c2, hv2, _⟩ := hb_cells hf2.hb
      rw [W1.le_length 8 k] at hv2
      subst hv2
      have hc2 := (hb2.cell (block_lt hHeld)).trans hHeld
      have hR2 : Y2.heap[wr.heap.size]? = some (.cells QL.toArray 66 (0, 0)) := (hb2.block _ (row_lt HR1.out)).trans HR1.out
      have hw1 := HB1.out.size
      have hB2 : Below wr.heap.size wr Y2 := HB1.out.trans (hb2.mono hw1)
      have hD2 := HD.out.step hB2
      have hP2 := hp_pair (HDQ.out Y2 hD2.fr) hf2.hb
      refine hK.out _ _ hc2 (fun _ => ?_)
      clear hK K
      try simp only [Act.put, qT, q0, qS]
      clear hHeld
      have hHeld := hc2
      refine wpAnyH_ready (rs := [4]) (by kernel_rfl) (by simp) ?_
      refine AllReadyH.cons (o := ⟨some 25, .buildSlice 93 2 #[(0, .tmp 22), (1, .tmp 24)], 93, _, #[⟨1, .data⟩, ⟨3, .data⟩], none⟩) rfl (fun K hK => ?_) AllReadyH.nil
      rw [if_pos (by rfl)]
      refine wp_bslice 93 2 _ rfl _ _ (by simp; first | done | rfl | exact ⟨rfl, rfl⟩) (bs_pair Y2 _ _ _ _ _ _) ?_
      have hb3 : Below Y2.heap.size Y2 (Y2.alloc (.cells #[.slice pq q.data.length cq, .slice p2 8 c2] 64 (0, 0))) := (Below.refl _ _).alloc (Nat.le_refl _) _
      generalize (Y2.alloc (.cells #[.slice pq q.data.length cq, .slice p2 8 c2] 64 (0, 0))) = Y3 at *
      have hc3 := (hb3.cell (block_lt hc2)).trans hc2
      refine hK.out _ _ hc3 (fun _ => ?_)
      clear hK K
      try simp only [Act.put, qT, q0, qS]
      clear hHeld
      have hHeld := hc3
      refine wpAnyH_ready (rs := [5]) (by kernel_rfl) (by simp) ?_
      refine AllReadyH.cons (o := { dst := some 26, op := .call { callee := Go.Callee.value (.func 37), args := #[.tmp 25], argTypes := #[93] }, type := 64, pos := _, after := #[⟨4, .data⟩, ⟨3, .chain⟩], guard := none }) rfl (fun K hK => ?_) AllReadyH.nil
      rw [if_pos (by rfl)]
      go_wp2_with fail
      have hJ := pjoin_any (.slice (some ⟨Y2.heap.size, 0, none⟩) 2 2) [q.data, W1.le 8 k] Y3 (by simp) (by simp [W1.le_length]; omega) hP2
      rw [show [q.data, W1.le 8 k].flatten = q.data ++ W1.le 8 k by simp] at hJ
      refine hJ.mono ?_
      rintro e Y4 ⟨v4, rfl, hf4, hb4⟩
      obtain ⟨p4, c4, hv4, _⟩ := hb_cells hf4.hb
      obtain ⟨m4, hm4⟩ : ∃ m, m = (q.data ++ W1.le 8 k).length := ⟨_, rfl⟩
      rw [← hm4] at hv4
      subst hv4
      clear hm4
      have hc4 := (hb4.cell (block_lt hc3)).trans hc3
      have hs2 := hb2.size
      have hs3 := hb3.size
      have hs4 := hb4.size
      have hb24 : Below Y2.heap.size Y2 Y4 := hb3.trans (hb4.mono hs3)
      have hR4 : Y4.heap[wr.heap.size]? = some (.cells QL.toArray 66 (0, 0)) := (hb24.block _ (row_lt hR2)).trans hR2
      have hB4 : Below wr.heap.size wr Y4 := hB2.trans (hb24.mono (by omega))
      have hq34 : Y4.cell? ⟨wr.heap.size, 34, none⟩ = some (.slice pq q.data.length cq) := by rw [cell_of_row _ _ 34 _ _ _ hR4]; exact HQ34.out
      have hfz := frozen_of_row _ _ 34 _ _ hR4
      have HR5 : Hid ((Y4.setCell ⟨wr.heap.size, 34, none⟩ (.slice p4 m4 c4)).heap[wr.heap.size]? = some (.cells (qL (sQ q k) (.slice p4 m4 c4)).toArray 66 (0, 0))) := by
        show _ = _
        rw [heap_setCell_same _ _ 34 _ _ _ hR4, HSET.out]; rfl
      have HB5 : Hid (Below wr.heap.size wr (Y4.setCell ⟨wr.heap.size, 34, none⟩ (.slice p4 m4 c4))) := hB4.setCell (Nat.le_refl _) _
      have HH5 : Hid (HB (Y4.setCell ⟨wr.heap.size, 34, none⟩ (.slice p4 m4 c4)) (.slice p4 m4 c4) (q.data ++ W1.le 8 k)) := hb_keep hf4.hb (fun j e hl => heap_setCell_other _ _ _ _ (by have h0 := (World.ownsRow.lt hf4 j e).1; have h1 := row_lt hR2; show j ≠ wr.heap.size; omega))
      have hc5 : (Y4.setCell ⟨wr.heap.size, 34, none⟩ (.slice p4 m4 c4)).cell? ⟨w.heap.size, 34, none⟩ = some (.slice pq q.data.length cq) := (World.cell?_of_block (a := ⟨w.heap.size, 34, none⟩) (heap_setCell_other _ _ _ _ (by show w.heap.size ≠ wr.heap.size; omega))).trans hc4
      have hc3' := hc3
      clear hP2 hJ
      refine hK.out _ _ hc4 (fun _ => ?_)
      clear hK K
      try simp only [Act.put, qT, q0, qS]
      clear hHeld
      have hHeld := hc4
      refine wpAnyH_take (i := 6) (oi := ⟨some 27, .fieldAddr 66 (.tmp 9) 3, 0, _, #[⟨0, .phase⟩, ⟨1, .phase⟩, ⟨2, .phase⟩, ⟨3, .phase⟩, ⟨4, .phase⟩, ⟨5, .phase⟩], none⟩) (v := .pointer (some ⟨wr.heap.size, 34, none⟩)) rfl (by kernel_rfl) (by kernel_rfl) (by kernel_rfl) (fun _ _ _ h => h) (Or.inl ⟨by rfl, fun w' hw' => ?_⟩) hHeld ?_
      · first | (go_simp; done) | (go_simp; rfl)
      try simp only [Act.put, qT, q0, qS]
      refine wpAnyH_ready (rs := [7]) (by kernel_rfl) (by simp) ?_
      refine AllReadyH.cons (o := ⟨none, .store 64 (.tmp 27) (.tmp 26), 0, _, #[⟨6, .data⟩, ⟨5, .data⟩, ⟨5, .chain⟩, ⟨0, .phase⟩, ⟨1, .phase⟩, ⟨2, .phase⟩, ⟨3, .phase⟩, ⟨4, .phase⟩, ⟨5, .phase⟩], none⟩) rfl (fun K hK => ?_) AllReadyH.nil
      rw [if_pos (by rfl)]
      go_wp2_with fail
      refine hK.out _ _ hc5 (fun _ => ?_)
      clear hK K
      try simp only [Act.put, qT, q0, qS]
      refine wpAnyH_done (by kernel_rfl) ?_ _
      have HD5 : Hid _ := HD.out.step HB5.out
      have hs5 := HB5.out.size
      clear hc5 hc4 hc3 hc2 hc3' hHeld hq34 hfz hR4 hB4 hR2 hB2 hD2 hf4 hf2 hb2 hb3 hb4 hb24 HRQ HZR HR1 HB1 HC1
      generalize Y4.setCell ⟨wr.heap.size, 34, none⟩ (.slice p4 m4 c4) = X5 at *
      have HQB : Hid _ := info35 (qL (sQ q k) (.slice p4 m4 c4)) (qL_len _ _ HQ.out.key)
      have hkq : kOk (sQ q k) := ⟨HQ.out.key, HQ.out.kind, HQ.out.dom, by show (q.data ++ W1.le 8 k).length ≤ _; rw [List.length_append, W1.le_length]; omega⟩
      have HCALL : Hid _ := HD5.out.answer hB (by have := str_log q o k; omega) (.slice p4 m4 c4) (sQ q k) hkq HH5.out
      have HR6 : Hid (X5.rangeAt wr.heap.size 0 (qL (sQ q k) (.slice p4 m4 c4))) := rangeAt_row HR5.out
      obtain ⟨hnl, _, _⟩ := HSL.out (k + 1)
      have hAl : (pAsk (str q o k).2 (sQ q k) (drawD (str q o k).2.draws (str q o k).2.log.length)).1.length = 32 := by
        have h0 : ((str q o k).1 ++ (pAsk (str q o k).2 (sQ q k) (drawD (str q o k).2.draws (str q o k).2.log.length)).1).length = 32 * (k + 1) := hnl
        rw [List.length_append, (HSL.out k).1] at h0
        omega
      have HNX : Hid ((str q o (k + 1)).2 = (pAsk (str q o k).2 (sQ q k) (drawD (str q o k).2.draws (str q o k).2.log.length)).2 ∧ (str q o (k + 1)).1 = (str q o k).1 ++ (pAsk (str q o k).2 (sQ q k) (drawD (str q o k).2.draws (str q o k).2.log.length)).1) := ⟨rfl, rfl⟩
      generalize qL (sQ q k) (.slice p4 m4 c4) = QB at *
      generalize pAsk (str q o k).2 (sQ q k) (drawD (str q o k).2.draws (str q o k).2.log.length) = r at *
      obtain ⟨A, o'⟩ := r
      simp only at HNX hAl HCALL
      unfold dV at HCALL
      have hAn : (A.map B8).length = 32 := by simpa using hAl
      have HAN : Hid ((A.map B8).toArray.size = 32) := by show _ = _; simpa using hAl
      have HA1 : Hid _ := B8_onea A
      have HAO : Hid _ := B8_one A
      obtain ⟨c, hcm⟩ : ∃ c, c = min 32 (n - 32 * k) := ⟨_, rfl⟩
      have hc32 : c ≤ 32 := by omega
      have hc1 : 1 ≤ c := by omega
      obtain ⟨r, hr⟩ : ∃ r, r = n - 32 * k := ⟨_, rfl⟩
      have q5' : (n : Int) - 32 * (k : Int) = (r : Int) := by omega
      have q6 : min (32 : Int) (r : Int) = (c : Int) := by omega
      have hr0 : (r : Int) ≤ 1048576 := by omega
      have hst := fun W g => sliceTo W g c hc32
      have HTK : Hid (((str q o k).1.take n) ++ A.take c = (str q o (k + 1)).1.take n) := by
        show _ = _
        rw [HNX.out.2, List.take_append, (HSL.out k).1, List.take_of_length_le (by rw [(HSL.out k).1]; omega)]
        congr 1
        rw [hcm]
        by_cases h32 : n - 32 * k ≤ 32
        · rw [show min 32 (n - 32 * k) = n - 32 * k by omega]
        · rw [show min 32 (n - 32 * k) = 32 by omega, List.take_of_length_le (by omega), List.take_of_length_le (by omega)]
      generalize hAC : A.map B8 = AC at *
      have HAC : Hid _ := hAC
      have HLT : Hid (((AC.take c)).length = c) := by show _ = _; rw [List.length_take]; omega
      clear hcm hr hAC hnl hAl hkq
      go_wp2_with (first
        | (refine wpList_load_mid rfl 66 (.tmp 9) rfl wr.heap.size 0 rfl QB _ HR6.out HUQ.out rfl HQB.out ?_)
        | (go_at_call 51; fail))
      refine Calls.mono HCALL.out ?_
      rintro e X6 ⟨rfl, hD6, hs6⟩
      have HZR : Hid ((X6.alloc (.cells ZA 23 (0, 0))).heap[X6.heap.size]? = some (.cells ZA 23 (0, 0))) := heap_alloc_new _ _
      have HD7 : Hid _ := hD6.step (below_setRow ((Below.refl _ _).alloc (Nat.le_refl _) (.cells ZA 23 (0, 0))) (Nat.le_refl _) AC.toArray)
      clear hD6 HCALL
      rcases (show (c = r ∧ (r : Int) < 32) ∨ (c = 32 ∧ ¬ (r : Int) < 32) by omega) with ⟨rfl, hr32⟩ | ⟨rfl, hr32⟩
      · clear q6
        go_wp2_with (first
          | (refine wpList_store_rowL rfl 23 _ _ rfl X6.heap.size AC.toArray rfl rfl 23 ZA HZR.out (info32a _ HAN.out) (HZA.out.trans HAN.out.symm) HA1.out ?_; intro X7 hX7; rw [← hX7] at HD7; have HR7 : Hid (X7.heap[X6.heap.size]? = some (.cells AC.toArray 23 (0, 0))) := (by rw [hX7]; exact setRow_heap _ _ _ _ _ _ HZR.out); have hs7 : X7.heap.size = X6.heap.size + 1 := (by rw [hX7]; simp); have HOUT : Hid (X7.ownsRow (w.heap.size + 1) 5 1 (.slice p7 (32 * k) c7) (32 * k) (((str q o k).1.take n).map B8)) := (by have h := HD7.out.out; unfold FB at h; rw [HLEN.out] at h; exact h); have HNEW : Hid (∀ j u, (AC.take c)[j]? = some u → X7.cell? ((⟨X6.heap.size, 0, none⟩ : Addr).add j) = some u) := (new_take HR7.out c); have hsz := row_lt HD7.out.row; have HS7 : Hid _ := hs7; clear hX7)
          | (at_builtin; (refine wpList_append_lies _ rfl (.tmp 33) (.tmp 39) 64 rfl (w.heap.size + 1) 5 i0 (.int .u8 0) 1 1 Tryz.underlying64 hi hz0 hz1 hz2 rfl (by decide) (.slice p7 (32 * k) c7) (32 * k) (((str q o k).1.take n).map B8) rfl HOUT.out ⟨X6.heap.size, 0, none⟩ c 32 (AC.take c) rfl (HLT.out.trans (Nat.mul_one _).symm) HNEW.out (fun u hu => HAO.out u (List.mem_of_mem_take hu)) (by omega) (by unfold maxLen; omega) (by omega) (by omega) (X6.heap.size + 1) HS7.out ?_; intro g2 cap3 Z hown4 hgr4 hgl4 hgZ4; have HO4 : Hid (Z.ownsRow (w.heap.size + 1) 5 1 (.slice (some ⟨g2, 0, none⟩) (32 * k + c) cap3) (32 * k + c) (((str q o k).1.take n).map B8 ++ AC.take c)) := hown4; have HG4 : Hid _ := hgr4; have HL4 : Hid _ := hgl4; clear hown4 hgr4 hgl4)))
        have HREL : Hid (DS B og mb S w QL (str q o (k + 1)).2 dv (.slice (some ⟨g2, 0, none⟩) (32 * k + c) cap3) ((str q o (k + 1)).1.take n) Z) := by
          rw [HNX.out.1]
          refine HD7.out.app HG4.out ?_ rfl (HL4.out.elim .inl (fun h => .inr (Nat.le_of_eq (HS7.out.trans h.symm))))
          unfold FB
          rw [← HTK.out, List.map_append, show (A.take c).map B8 = AC.take c by rw [List.map_take, HAC.out], List.length_append, HLEN.out, List.length_take, show min c A.length = c by have := congrArg List.length HAC.out; rw [List.length_map] at this; omega]
          exact HO4.out
        go_roundw
        case rel => exact ⟨k + 1, by omega, by go_num, HREL.out⟩
        case measure => simp [intOf]; omega
      · have hst2 : ∀ W g, (Instr.sliceAt 23 (.pointer (some ⟨g, 0, none⟩)) none (some (.int .i64 32)) none).run Tryz.prog W = .ok (.slice (some ⟨g, 0, none⟩) 32 32) W := fun W g => sliceTo W g 32 (Nat.le_refl _)
        clear q6 hst
        go_wp2_with (first
          | (refine wpList_store_rowL rfl 23 _ _ rfl X6.heap.size AC.toArray rfl rfl 23 ZA HZR.out (info32a _ HAN.out) (HZA.out.trans HAN.out.symm) HA1.out ?_; intro X7 hX7; rw [← hX7] at HD7; have HR7 : Hid (X7.heap[X6.heap.size]? = some (.cells AC.toArray 23 (0, 0))) := (by rw [hX7]; exact setRow_heap _ _ _ _ _ _ HZR.out); have hs7 : X7.heap.size = X6.heap.size + 1 := (by rw [hX7]; simp); have HOUT : Hid (X7.ownsRow (w.heap.size + 1) 5 1 (.slice p7 (32 * k) c7) (32 * k) (((str q o k).1.take n).map B8)) := (by have h := HD7.out.out; unfold FB at h; rw [HLEN.out] at h; exact h); have HNEW : Hid (∀ j u, (AC.take 32)[j]? = some u → X7.cell? ((⟨X6.heap.size, 0, none⟩ : Addr).add j) = some u) := (new_take HR7.out 32); have hsz := row_lt HD7.out.row; have HS7 : Hid _ := hs7; clear hX7)
          | (at_builtin; (refine wpList_append_lies _ rfl (.tmp 33) (.tmp 39) 64 rfl (w.heap.size + 1) 5 i0 (.int .u8 0) 1 1 Tryz.underlying64 hi hz0 hz1 hz2 rfl (by decide) (.slice p7 (32 * k) c7) (32 * k) (((str q o k).1.take n).map B8) rfl HOUT.out ⟨X6.heap.size, 0, none⟩ 32 32 (AC.take 32) rfl (HLT.out.trans (Nat.mul_one _).symm) HNEW.out (fun u hu => HAO.out u (List.mem_of_mem_take hu)) (by omega) (by unfold maxLen; omega) (by omega) (by omega) (X6.heap.size + 1) HS7.out ?_; intro g2 cap3 Z hown4 hgr4 hgl4 hgZ4; have HO4 : Hid (Z.ownsRow (w.heap.size + 1) 5 1 (.slice (some ⟨g2, 0, none⟩) (32 * k + 32) cap3) (32 * k + 32) (((str q o k).1.take n).map B8 ++ AC.take 32)) := hown4; have HG4 : Hid _ := hgr4; have HL4 : Hid _ := hgl4; clear hown4 hgr4 hgl4)))
        have HREL : Hid (DS B og mb S w QL (str q o (k + 1)).2 dv (.slice (some ⟨g2, 0, none⟩) (32 * k + 32) cap3) ((str q o (k + 1)).1.take n) Z) := by
          rw [HNX.out.1]
          refine HD7.out.app HG4.out ?_ rfl (HL4.out.elim .inl (fun h => .inr (Nat.le_of_eq (HS7.out.trans h.symm))))
          unfold FB
          rw [← HTK.out, List.map_append, show (A.take 32).map B8 = AC.take 32 by rw [List.map_take, HAC.out], List.length_append, HLEN.out, List.length_take, show min 32 A.length = 32 by have := congrArg List.length HAC.out; rw [List.length_map] at this; omega]
          exact HO4.out
        go_roundw
        case rel => exact ⟨k + 1, by omega, by go_num, HREL.out⟩
        case measure => simp [intOf]; omega
    · have hke : k = M := by omega
      subst hke
      have hkI : ¬ (k : Int) < (k : Int) := by omega
      have HD : Hid _ := hD
      clear hD
      go_wp2
      go_ret
      rw [HM.out] at HD
      obtain ⟨S', ov', h1, h2, h3, h4⟩ := HD.out.ex
      have hs := HD.out.fr.size
      refine ⟨_, rfl, fun j e => by have := (World.ownsRow.lt HD.out.out j e).1; omega, HD.out.out.hb, HD.out.fr, ov', h1.more (fun j h => (h2 j h).elim .inl (fun h2 => .inr ⟨h2, h1.top j h⟩)) (fun j h => ?_) (fun j h => ?_)⟩
      · exact h.elim (fun h => .inr (fun e => (HO.out.dro j e).1 h)) (fun h => .inr (fun e => by have := (HO.out.dro j e).2; omega))
      · exact h.elim (fun h => ⟨HO.out.low j h, by have := HO.out.top j h; omega⟩) (fun h => ⟨by omega, h.2⟩)
end Go.Proofs.YtbmmibmfjhehhaaGreat.R5.PS

/- Contract of the program's Stream, in ideal mode. -/
namespace Go.Proofs.YtbmmibmfjhehhaaGreat.R5.PS
open scoped Classical
open Go.RowKit

def SOk (B og mb : Nat) (S : Nat → Prop) (w : World) (o : Pra) (dv : Value) (q : Qn) (n : Nat) (e : Ending) (w' : World) : Prop :=
  ∃ v, e = .returned (.tuple #[v, .int .i64 0]) ∧ (∀ j, v.ownBlock = some j → w.heap.size ≤ j) ∧ HB w' v ((str q o ((n + 31) / 32)).1.take n) ∧ Fr S w w' ∧ ∃ ov', PO B og mb (fun k => S k ∨ (w.heap.size ≤ k ∧ k < w'.heap.size)) w' (str q o ((n + 31) / 32)).2 dv ov'
set_option maxHeartbeats 2000000 in
set_option maxRecDepth 100000 in
theorem pstream_ideal (B og mb : Nat) (S : Nat → Prop) (dq dv ov : Value) (o : Pra) (q : Qn) (n : Nat) (w : World) (hid : o.ideal = true) (hB : B ≤ w.heap.size) (hll : o.log.length < 900000) (ho : PO B og mb S w o dv ov) (hq : kOk q) (hql : q.data.length ≤ 1000000) (hdq : HB w dq q.data) (hqo : q.data ≠ [] → ∀ j, dq.ownBlock = some j → ¬ S j) (hok : strB q n = true) :
    Calls Tryz.prog 38 #[.pointer (some ⟨og, 0, none⟩), .agg (qL q dq).toArray, .int .i64 (n : Int)] w fun e w' => SOk B og mb S w o dv q n e w' := by
  have hok' : q.kind = 4 ∧ 1 ≤ q.dom ∧ q.dom ≤ 16 ∧ (0 : Int) ≤ n ∧ (n : Int) ≤ 1024 := by unfold strB at hok; simpa using hok
  obtain ⟨k4, d1, d2, n0, n1⟩ := hok'
  have hn : n ≤ 1024 := by omega
  have hqk := hq.key
  have hog := row_lt ho.row
  have hc := ho.cells.2.2.2.1
  have hci := ho.cells.1
  rw [hid] at hci
  have hans := fun W (hb : Below w.heap.size w W) => dstream_any B og mb S dq dv ov o q n W (Nat.le_trans hB hb.size) hll (ho.below hb) hq hql hn (hdq.below hb) hqo
  have hmy : mayQ q = true := by unfold mayQ; rw [k4]; simp [d1, d2]
  have hb : Below w.heap.size w (w.alloc (.cells (qL q dq).toArray 66 (0, 0))) := (Below.refl _ _).alloc (Nat.le_refl _) _
  have HNN : Hid _ := none_no og mb _ ((hb.cell (block_lt hc)).trans hc)
  have hiq := isq_any dq q (w.alloc (.cells (qL q dq).toArray 66 (0, 0))) hqk
  have hkc := fun W (h : Aft1 w W (qL q dq)) => (q_facts hqk h.r0).1
  have HQI : Hid _ := info35 (qL q dq) (qL_len q dq hqk)
  have HUQ : Hid _ := Tryz.underlying66
  have hr0 := heap_alloc_new w (.cells (qL q dq).toArray 66 (0, 0))
  obtain ⟨QL, hQL⟩ : ∃ L, L = qL q dq := ⟨_, rfl⟩
  rw [← hQL] at hb hr0 HNN hiq hkc HQI ⊢
  have HRQ : Hid _ := rangeAt_row hr0
  rw [hmy] at hiq
  rw [k4] at hkc
  rw [← hQL] at hans
  have HIQ : Hid _ := hiq
  have HO : Hid _ := ho
  have HCI : Hid _ := hci
  clear hr0 ho hq hdq hqo hok hb k4 hiq hQL hmy hc hci hid
  go_enter Tryz.func38, Tryz.ntmps38
  go_wp2_with (first
    | (go_at_call 22; refine Calls.mono HNN.out ?_; rintro e w1 ⟨rfl, rfl⟩)
    | (refine wpList_load_mid rfl 66 _ rfl w.heap.size 0 rfl QL _ HRQ.out HUQ.out rfl HQI.out ?_)
    | (go_at_call 48; fail))
  refine Calls.mono HIQ.out ?_
  rintro e w1 ⟨rfl, hq1⟩
  have hA := aft1_of hq1
  have a0 := hkc w1 hA
  have HA : Hid _ := hA
  clear hq1 hA
  have h0 : w1.cell? ⟨og, 0, none⟩ = some (.bool true) := (HA.out.below.cell (show (⟨og, 0, none⟩ : Addr).block < w.heap.size from hog)).trans HCI.out
  have HCALL : Hid _ := hans w1 HA.out.below
  have HRQ1 : Hid _ := rangeAt_row HA.out.r0
  clear hans hkc
  go_wp2_with (first
    | (refine wpList_load_mid rfl 66 _ rfl w.heap.size 0 rfl QL _ HRQ1.out HUQ.out rfl HQI.out ?_)
    | (go_at_call 49; fail))
  refine Calls.mono HCALL.out ?_
  rintro e w3 ⟨v, rfl, hvo, h1, h2, ov', h3⟩
  go_wp2
  go_ret2
  have hs1 := HA.out.below.size
  have hs2 := h2.size
  refine ⟨v, rfl, fun j e => by have := hvo j e; omega, h1, (Fr.ofBelow HA.out.below).trans h2 (fun _ h => .inl h), ov', h3.more (fun j h => h.imp id (fun h => ⟨by omega, h.2⟩)) (fun j h => .inr (fun e => h.elim (HO.out.dro j e).1 (fun h => by have := (HO.out.dro j e).2; omega))) (fun j h => h.elim (fun h => ⟨HO.out.low j h, by have := HO.out.top j h; omega⟩) (fun h => ⟨by omega, h.2⟩))⟩
end Go.Proofs.YtbmmibmfjhehhaaGreat.R5.PS
