/- Several texts in one. -/
import Derived.Test.YtbmmibmfjhehhaaWh
import Derived.RowKit3
import Derived.Laws.BitsAllLaws
import Derived.WalkSmall
import Derived.Laws.Tables
import Derived.Deep.MidRow
import Derived.Laws.CopyOwn
import Derived.Stop.BytesEq
import Derived.Laws.AppendOwnNone
import Derived.Deep.AppendLies
import Derived.Deep.RegionHeld3
import Derived.Laws.IdiomCopy
set_option linter.unusedVariables false
set_option linter.unusedSimpArgs false
/- Questions as values; rows (a small library of its own, in a namespace of its own). -/
namespace Go.Proofs.Ytbmmibmfjhehhaa.R5
open scoped Classical
open Go.RowKit

/-- A question. -/
structure Qn where
  kind : Int
  key : List UInt8
  dom : Int
  data : List UInt8
/-- Two questions are the same, or not. -/
def decQ (a b : Qn) : Decidable (a = b) := decidable_of_iff (a.kind = b.kind ∧ a.key = b.key ∧ a.dom = b.dom ∧ a.data = b.data) ⟨fun h => by cases a; cases b; simp_all, fun h => by rw [h]; exact ⟨rfl, rfl, rfl, rfl⟩⟩

/-- Its cells, its data being the value dv. -/
def qL (q : Qn) (dv : Value) : List Value := .int .i64 q.kind :: (q.key.map B8 ++ [.int .i64 q.dom, dv])
theorem qL_len (q : Qn) (dv : Value) (h : q.key.length = 32) : (qL q dv).length = 35 := by unfold qL; simp [h]
theorem qL_0 (q : Qn) (dv : Value) : (qL q dv).toArray[0]? = some (.int .i64 q.kind) := by unfold qL; simp
theorem qL_33 (q : Qn) (dv : Value) (h : q.key.length = 32) : (qL q dv).toArray[33]? = some (.int .i64 q.dom) := by
  unfold qL
  simp only [List.getElem?_toArray]
  rw [List.getElem?_cons_succ, List.getElem?_append_right (by simp [h])]
  simp [h]
theorem qL_34 (q : Qn) (dv : Value) (h : q.key.length = 32) : (qL q dv).toArray[34]? = some dv := by
  unfold qL
  simp only [List.getElem?_toArray]
  rw [List.getElem?_cons_succ, List.getElem?_append_right (by simp [h])]
  simp [h]
theorem qL_key (q : Qn) (dv : Value) (h : q.key.length = 32) (j : Nat) (v : Value) (hv : (q.key.map B8)[j]? = some v) : (qL q dv).toArray[1 + j]? = some v := by
  unfold qL
  simp only [List.getElem?_toArray]
  have hj : j < q.key.length := by
    rcases Nat.lt_or_ge j q.key.length with hj | hj
    · exact hj
    · rw [List.getElem?_eq_none (by simpa using hj)] at hv; cases hv
  rw [show 1 + j = j + 1 by omega, List.getElem?_cons_succ, List.getElem?_append_left (by simpa using hj)]
  exact hv
/-- A value that is a question. -/
def HQ (w : World) (v : Value) (q : Qn) : Prop := q.key.length = 32 ∧ ∃ dv, v = .agg (qL q dv).toArray ∧ HB w dv q.data
theorem row_lt {w : World} {d : Nat} {o : Obj} (h : w.heap[d]? = some o) : d < w.heap.size := (Array.getElem?_eq_some_iff.1 h).1
theorem heap_at (w : World) (o : Obj) (n : Nat) (h : n = w.heap.size) : (w.alloc o).heap[n]? = some o := by subst h; exact heap_alloc_new _ _
theorem alloc2_first (w : World) (A C : Obj) : ((w.alloc A).alloc C).heap[w.heap.size]? = some A := by
  rw [Below.heap_alloc _ _ _ (by simp), heap_alloc_new]
theorem B8_onea (l : List UInt8) : (l.map B8).toArray.all (·.oneCell') = true := by
  rw [Array.all_eq_true_iff_forall_mem]
  intro v hv
  simp only [List.mem_toArray, List.mem_map] at hv
  obtain ⟨x, _, rfl⟩ := hv
  rfl
theorem rangeAt_below {w w' : World} {b o : Nat} {cs : List Value} (h : w.rangeAt b o cs) (hb : Below w.heap.size w w') : w'.rangeAt b o cs := fun j v hv => (hb.cell (block_lt (h j v hv))).trans (h j v hv)
theorem rangeAt_row {w : World} {b : Nat} {cs : List Value} {t : TypeId} {fr : Nat × Nat} (h : w.heap[b]? = some (.cells cs.toArray t fr)) : w.rangeAt b 0 cs := fun j v hv => by
  rw [Nat.zero_add, cell_of_row _ _ j _ _ _ h]; simpa using hv
theorem hb_alloc {w : World} {v : Value} {l : List UInt8} (h : HB w v l) (o : Obj) : HB (w.alloc o) v l := h.below ((Below.refl _ _).alloc (Nat.le_refl _) o)
theorem hb_drew {w : World} {v : Value} {l : List UInt8} (h : HB w v l) : HB w.drew v l := h.below (Below.refl _ _).drew
theorem hq_below {w w' : World} {v : Value} {q : Qn} (h : HQ w v q) (hb : Below w.heap.size w w') : HQ w' v q := by
  obtain ⟨h1, dv, h2, h3⟩ := h
  exact ⟨h1, dv, h2, h3.below hb⟩
theorem fb_below {B : Nat} {v : Value} {l : List UInt8} {w w' : World} (h : FB B w v l) (hb : Below w.heap.size w w') : FB B w' v l :=
  h.kept (row := none) ⟨hb.os, hb.tape, hb.output, hb.size, fun j hj _ => hb.block j hj⟩ (by cases hv : v.ownBlock <;> simp)
theorem fb_lower {B B' : Nat} {w : World} {v : Value} {l : List UInt8} (h : FB B w v l) (hB : B' ≤ B) : FB B' w v l := by
  refine ⟨h.1, ?_⟩
  rcases h.2 with h1 | ⟨g, cap, cur, h1, h2, h3⟩
  · exact .inl h1
  · exact .inr ⟨g, cap, cur, h1, Nat.le_trans hB h2, h3⟩
theorem B8_one (l : List UInt8) : ∀ u ∈ l.map B8, u.oneCell' = true := by
  intro u hu
  obtain ⟨x, _, rfl⟩ := List.mem_map.1 hu
  rfl
theorem hb_cells {w : World} {v : Value} {l : List UInt8} (h : HB w v l) : ∃ p cap, v = .slice p l.length cap ∧ (p = none → l = [] ∧ cap = 0) ∧ (∀ a, p = some a → ∀ (j : Nat) u, (l.map B8)[j]? = some u → w.cell? (a.add j) = some u) := by
  rcases h with ⟨rfl, p, cap, rfl, hpc⟩ | ⟨b, o, cap, rfl, _, _, hc⟩
  · exact ⟨p, cap, rfl, fun h => ⟨rfl, hpc h⟩, fun a _ j u hu => by simp at hu⟩
  · refine ⟨_, cap, rfl, fun h => by simp at h, fun a ha j u hu => ?_⟩
    simp only [Option.some.injEq] at ha
    subst ha
    have hj : j < l.length := by
      have := (List.getElem?_eq_some_iff.1 hu).1
      simpa using this
    have hadd : (⟨b, o, none⟩ : Addr).add j = ⟨b, o + j, none⟩ := by unfold Addr.add; split <;> simp_all
    rw [hadd, hc j hj]
    rw [List.getElem?_map, List.getElem?_eq_getElem hj] at hu
    simp only [Option.map_some, Option.some.injEq] at hu
    rw [← hu]
    simp [B8, List.getD, List.getElem?_eq_getElem hj]
theorem size_u8 (w : World) : (sizeOf 5).run Try.prog w = .ok 1 w := by
  obtain ⟨i0, hi, hz0, hz1, hz2⟩ := info_parts Try.infoU8
  simp [sizeOf, typeInfo, hi, hz1]
theorem info35 (RS : List Value) (h : RS.length = 35) : (Try.prog.info? 67).map (·.size) = some RS.length := by rw [h]; kernel_rfl
theorem info32 (RS : List Value) (h : RS.length = 32) : (Try.prog.info? 28).map (·.size) = some RS.length := by rw [h]; kernel_rfl
theorem eql_digest (w : World) (xs ys : List UInt8) (hx : xs.length = 32) (hy : ys.length = 32) : (binOp .eql 28 (.agg (xs.map B8).toArray) (.agg (ys.map B8).toArray)).run Try.prog w = .ok (.bool (xs == ys)) w :=
  run_eql_bytes w 28 5 32 Try.underlying28 Try.underlying5 size_u8 xs ys hx hy
/-- A guarded load of a range, its guard met. -/
theorem load_mid_g {ops : Array Oper} {rest : List Oper} {o : Oper} {a : Act} {w : World} {Q : Exit → Act → World → Prop} (hw : Region.wanted o (yielded ops a.tmps) = true) (ty : TypeId) (x : Operand) (ho : o.op = .load ty x)
    (b off : Nat) (hx : a.eval x = .pointer (some ⟨b, off, none⟩)) (cs : List Value) (d : TypeDesc) (hc : w.rangeAt b off cs) (hu : Try.prog.underlying ty = some d) (hd : d.isRow = true) (hi : (Try.prog.info? ty).map (·.size) = some cs.length)
    (h : wpList Try.prog ops Q rest (a.put o.dst (.agg cs.toArray)) w) : wpList Try.prog ops Q (o :: rest) a w :=
  wpList_step fun K hK => by rw [if_pos hw]; exact wp_load_mid ty x ho b off hx cs d hc hu hd hi (hK _ _ h)
theorem txt_beq (a b : List UInt8) : ((⟨a.toArray⟩ : ByteArray).toList == (⟨b.toArray⟩ : ByteArray).toList) = decide (a = b) := by
  rw [ByteArray.toList_eq, ByteArray.toList_eq, Bool.eq_iff_iff]; simp

end Go.Proofs.Ytbmmibmfjhehhaa.R5

/- Appends of bytes; contracts of ref 5's Le and Text. -/
namespace Go.Proofs.Ytbmmibmfjhehhaa.R5
open scoped Classical
open Go.RowKit

/-- append(s, b...), b whatever it be. -/
theorem wpList_appHB {ops : Array Oper} {rest : List Oper} {o : Oper} {a : Act} {Q : Exit → Act → World → Prop} {w : World} (hgd : o.guard = none) (s x : Operand) (ho : o.op = .call { callee := .builtin .append, args := #[s, x], argTypes := #[57, 57] })
    (base : Nat) (v u : Value) (l b : List UInt8) (hs : a.eval s = v) (hx : a.eval x = u) (hown : FB base w v l) (hb : HB w u b) (hl : l.length + b.length ≤ 2199023255552) (hbase : base ≤ w.heap.size)
    (h : ∀ v' w', FB base w' v' (l ++ b) → w.grownBy w' v.ownBlock → wpList Try.prog ops Q rest (a.put o.dst v') w') : wpList Try.prog ops Q (o :: rest) a w := by
  obtain ⟨i0, hi, hz0, hz1, hz2⟩ := info_parts Try.infoU8
  obtain ⟨p, cp, rfl, hpn, hpc⟩ := hb_cells hb
  cases p with
  | none =>
    obtain ⟨rfl, rfl⟩ := hpn rfl
    refine wpList_append_own_none hgd s x 57 ho base 5 i0 1 Try.underlying57 hi v _ _ hs hown hx ?_
    exact h v w (by rw [List.append_nil]; exact hown) ⟨rfl, rfl, rfl, Nat.le_refl _, fun _ _ _ => rfl⟩
  | some ad =>
    refine wpList_append_own w hgd s x 57 ho base 5 i0 (.int .u8 0) 1 1 Try.underlying57 hi hz0 hz1 hz2 rfl (by decide) v _ _ hs hown ad b.length cp (b.map B8) hx (by simp) (hpc ad rfl) (B8_one b) (by unfold maxLen; omega) (by omega) hbase ?_
    intro v' w' h1 h2 _
    refine h v' w' ?_ h2
    unfold FB
    rw [List.length_append, List.map_append]
    exact h1
theorem hb_new (X : World) (n : Nat) (hn : n = X.heap.size) (cv : Value) (c : UInt8) (hc : cv = B8 c) : HB (X.alloc (.cells #[cv] 5)) (.slice (some ⟨n, 0, none⟩) 1 1) [c] := by
  subst hn hc
  refine .inr ⟨_, 0, _, rfl, Nat.le_refl _, by unfold maxLen; simp, fun i hi => ?_⟩
  have : i = 0 := by simpa using hi
  subst this
  rw [cell_of_row _ _ _ _ _ _ (heap_alloc_new X _)]
  rfl


/-- A number's lowest byte. -/
def lowB (z : Int) : UInt8 := UInt8.ofNat (z % 256).toNat
theorem lowB_nat (z : Int) : ((lowB z).toNat : Int) = z % 256 := by
  unfold lowB
  show (((z % 256).toNat % 256 : Nat) : Int) = _
  omega
/-- A question's text. -/
def textQ (q : Qn) : List UInt8 := [lowB q.kind] ++ q.key ++ [lowB q.dom] ++ q.data
theorem sliceDig (W : World) (b o : Nat) : (Instr.sliceAt 28 (.pointer (some ⟨b, o, none⟩)) none none none).run Try.prog W = .ok (.slice (some ⟨b, o, none⟩) 32 32) W := by
  have ha : Try.prog.arrayLen 28 = 32 := by kernel_rfl
  have hu : Try.prog.underlying 28 = some (.array (Try.prog.arrayLen 28) (Try.prog.elem 28)) := by kernel_rfl
  have he : Try.prog.elem 28 = 5 := by kernel_rfl
  rw [run_sliceAt_array_all W 28 _ hu, he, size_u8, ha]
  have hadd : (⟨b, o, none⟩ : Addr).add (0 * 1) = ⟨b, o, none⟩ := by unfold Addr.add; split <;> simp_all
  simp [Result.andThen, slicedAt, hadd]
theorem hb_range {W : World} {b o : Nat} {l : List UInt8} (k : Nat) (hk : k = l.length) (hl : l.length ≤ 1099511627776) (h : W.rangeAt b o (l.map B8)) : HB W (.slice (some ⟨b, o, none⟩) k k) l := by
  subst hk
  refine .inr ⟨_, o, _, rfl, Nat.le_refl _, by unfold maxLen; omega, fun i hi => ?_⟩
  rw [h i (B8 (l.getD i 0)) (by simp [List.getD, List.getElem?_eq_getElem hi])]
  rfl
theorem q_facts' {w : World} {b : Nat} {q : Qn} {dv : Value} {t : TypeId} {fr : Nat × Nat} (hk : q.key.length = 32) (h : w.heap[b]? = some (.cells (qL q dv).toArray t fr)) :
    w.cell? ⟨b, 0, none⟩ = some (.int .i64 q.kind) ∧ w.rangeAt b 1 (q.key.map B8) ∧ w.cell? ⟨b, 33, none⟩ = some (.int .i64 q.dom) ∧ w.cell? ⟨b, 34, none⟩ = some dv := by
  refine ⟨?_, fun j v hv => ?_, ?_, ?_⟩
  · rw [cell_of_row _ _ 0 _ _ _ h]; exact qL_0 q dv
  · rw [cell_of_row _ _ (1 + j) _ _ _ h]; exact qL_key q dv hk j v hv
  · rw [cell_of_row _ _ 33 _ _ _ h]; exact qL_33 q dv hk
  · rw [cell_of_row _ _ 34 _ _ _ h]; exact qL_34 q dv hk

end Go.Proofs.Ytbmmibmfjhehhaa.R5

/- Contract of ref 5's Draw. -/
namespace Go.Proofs.Ytbmmibmfjhehhaa.R5
open scoped Classical
open Go.RowKit

theorem wp_copy_seg {op : Oper} {a : Act} {w : World} {K : Act → World → Prop} {Q : Exit → Act → World → Prop} (d s : Operand) (ho : op.op = .call { callee := .builtin .copy, args := #[d, s], argTypes := #[57, 57] })
    (b o dLen dCap : Nat) (sp : Option Addr) (sLen sCap : Nat) (hd : a.eval d = .slice (some ⟨b, o, none⟩) dLen dCap) (hs : a.eval s = .slice sp sLen sCap) (cur : List Value) (t : TypeId) (hg : w.heap[b]? = some (.cells cur.toArray t (0, 0)))
    (cs : List Value) (hn : cs.length = Nat.min sLen dLen) (hpos : 0 < cs.length → ∃ ad, sp = some ad ∧ ∀ j v, cs[j]? = some v → w.cell? (ad.add j) = some v) (hfit : o + cs.length ≤ cur.length) (h1 : ∀ v ∈ cs, v.oneCell' = true)
    (h : K (a.put op.dst (goInt cs.length)) (w.setRow b (splice cur o cs).toArray)) : op.wp Try.prog a w K Q := by
  by_cases h0 : cs.length = 0
  · obtain rfl : cs = [] := List.eq_nil_of_length_eq_zero h0
    have hrun := run_copy_none (P := Try.prog) w 57 57 op.type 5 (some ⟨b, o, none⟩) sp dLen dCap sLen sCap Try.underlying57 (by kernel_rfl) (by simpa using hn.symm)
    have e : w.setRow b (splice cur o []).toArray = w := by
      have : splice cur o [] = cur := by simp [splice]
      rw [this]; exact setRow_self w b cur.toArray t (0, 0) hg
    rw [e] at h
    unfold Oper.wp
    simp [execOp, ho, resolve, invoke, builtin, hd, hs, hrun, Result.andThen]
    exact h
  · obtain ⟨ad, rfl, hsrc⟩ := hpos (by omega)
    have hrun := run_copy_row (P := Try.prog) w 57 57 op.type 5 b o dLen dCap ad sLen sCap cur.toArray t cs Try.underlying57 (by kernel_rfl) hg hn hsrc (by simpa using hfit) h1
    have e : (cur.toArray.toList.take o ++ cs ++ cur.toArray.toList.drop (o + cs.length)).toArray = (splice cur o cs).toArray := by simp [splice]
    rw [e] at hrun
    unfold Oper.wp
    simp [execOp, ho, resolve, invoke, builtin, hd, hs, hrun, Result.andThen]
    exact h

/-- A slice of digests. -/
def HDs (w : World) (v : Value) (ds : List (List UInt8)) : Prop :=
  (∀ d ∈ ds, d.length = 32) ∧ ∃ p cap, v = .slice p ds.length cap ∧ ∀ i, i < ds.length → ∃ b o, p = some ⟨b, o, none⟩ ∧ w.rangeAt b (o + i * 32) ((ds.getD i []).map B8)
theorem hds_below {w w' : World} {v : Value} {ds : List (List UInt8)} (h : HDs w v ds) (hb : Below w.heap.size w w') : HDs w' v ds := by
  obtain ⟨h0, p, cap, h1, h2⟩ := h
  refine ⟨h0, p, cap, h1, fun i hi => ?_⟩
  obtain ⟨b, o, e, hr⟩ := h2 i hi
  exact ⟨b, o, e, rangeAt_below hr hb⟩
/-- The draw of a number. -/
def drawD (ds : List (List UInt8)) (n : Nat) : List UInt8 := if n < ds.length then ds.getD n [] else W1.le 8 n ++ List.replicate 23 0 ++ [1]
theorem drawD_len (ds : List (List UInt8)) (n : Nat) (h : ∀ d ∈ ds, d.length = 32) : (drawD ds n).length = 32 := by
  unfold drawD
  by_cases hn : n < ds.length
  · rw [if_pos hn]
    have : ds.getD n [] ∈ ds := by simp [List.getD, List.getElem?_eq_getElem hn]
    exact h _ this
  · rw [if_neg hn]; simp [W1.le_length]
theorem info32a (RS : Array Value) (h : RS.size = 32) : (Try.prog.info? 28).map (·.size) = some RS.size := by rw [h]; kernel_rfl
theorem zero_dig (w : World) : (zeroValue 28).run Try.prog w = .ok (.agg ((List.replicate 32 (0 : UInt8)).map B8).toArray) w := by kernel_rfl
theorem splice_le (l : List UInt8) (h : l.length = 8) : splice ((List.replicate 32 (0 : UInt8)).map B8) 0 (l.map B8) = (l ++ List.replicate 24 0).map B8 := by
  unfold splice
  rw [List.take_zero, List.nil_append, List.length_map, h, List.map_append]
  congr 1
theorem set_31 (l : List UInt8) (h : l.length = 8) : (((l ++ List.replicate 24 0).map B8).toArray).setIfInBounds 31 (.int .u8 1) = ((l ++ List.replicate 23 0 ++ [1]).map B8).toArray := by
  match l, h with
  | [a0, a1, a2, a3, a4, a5, a6, a7], _ => rfl

end Go.Proofs.Ytbmmibmfjhehhaa.R5
