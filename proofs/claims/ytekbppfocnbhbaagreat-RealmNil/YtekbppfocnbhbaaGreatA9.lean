/- Questions as values; rows (a small library of its own, in a namespace of its own). -/
import Derived.Test.YtekbppfocnbhbaaGreatB1
import Derived.RowKit3
import Derived.Laws.BitsAllLaws
import Derived.WalkSmall
import Derived.Laws.Tables
import Derived.Deep.MidRow
import Derived.Laws.CopyOwn
import Derived.Stop.BytesEq
import Derived.Laws.AppendOwnNone
import Derived.Deep.AppendLies
import Derived.Deep.RegionHeld3
import Derived.Laws.IdiomCopy
set_option linter.unusedVariables false
set_option linter.unusedSimpArgs false
namespace Go.Proofs.YtekbppfocnbhbaaGreat.R5
open scoped Classical
open Go.RowKit

/-- A question. -/
structure Qn where
  kind : Int
  key : List UInt8
  dom : Int
  data : List UInt8
/-- Two questions are the same, or not. -/
def decQ (a b : Qn) : Decidable (a = b) := decidable_of_iff (a.kind = b.kind ∧ a.key = b.key ∧ a.dom = b.dom ∧ a.data = b.data) ⟨fun h => by cases a; cases b; simp_all, fun h => by rw [h]; exact ⟨rfl, rfl, rfl, rfl⟩⟩

/-- Its cells, its data being the value dv. -/
def qL (q : Qn) (dv : Value) : List Value := .int .i64 q.kind :: (q.key.map B8 ++ [.int .i64 q.dom, dv])
theorem qL_len (q : Qn) (dv : Value) (h : q.key.length = 32) : (qL q dv).length = 35 := by unfold qL; simp [h]
theorem qL_0 (q : Qn) (dv : Value) : (qL q dv).toArray[0]? = some (.int .i64 q.kind) := by unfold qL; simp
theorem qL_33 (q : Qn) (dv : Value) (h : q.key.length = 32) : (qL q dv).toArray[33]? = some (.int .i64 q.dom) := by
  unfold qL
  simp only [List.getElem?_toArray]
  rw [List.getElem?_cons_succ, List.getElem?_append_right (by simp [h])]
  simp [h]
theorem qL_34 (q : Qn) (dv : Value) (h : q.key.length = 32) : (qL q dv).toArray[34]? = some dv := by
  unfold qL
  simp only [List.getElem?_toArray]
  rw [List.getElem?_cons_succ, List.getElem?_append_right (by simp [h])]
  simp [h]
theorem qL_key (q : Qn) (dv : Value) (h : q.key.length = 32) (j : Nat) (v : Value) (hv : (q.key.map B8)[j]? = some v) : (qL q dv).toArray[1 + j]? = some v := by
  unfold qL
  simp only [List.getElem?_toArray]
  have hj : j < q.key.length := by
    rcases Nat.lt_or_ge j q.key.length with hj | hj
    · exact hj
    · rw [List.getElem?_eq_none (by simpa using hj)] at hv; cases hv
  rw [show 1 + j = j + 1 by omega, List.getElem?_cons_succ, List.getElem?_append_left (by simpa using hj)]
  exact hv
/-- A value that is a question. -/
def HQ (w : World) (v : Value) (q : Qn) : Prop := q.key.length = 32 ∧ ∃ dv, v = .agg (qL q dv).toArray ∧ HB w dv q.data
theorem row_lt {w : World} {d : Nat} {o : Obj} (h : w.heap[d]? = some o) : d < w.heap.size := (Array.getElem?_eq_some_iff.1 h).1
theorem heap_at (w : World) (o : Obj) (n : Nat) (h : n = w.heap.size) : (w.alloc o).heap[n]? = some o := by subst h; exact heap_alloc_new _ _
theorem alloc2_first (w : World) (A C : Obj) : ((w.alloc A).alloc C).heap[w.heap.size]? = some A := by
  rw [Below.heap_alloc _ _ _ (by simp), heap_alloc_new]
theorem B8_onea (l : List UInt8) : (l.map B8).toArray.all (·.oneCell') = true := by
  rw [Array.all_eq_true_iff_forall_mem]
  intro v hv
  simp only [List.mem_toArray, List.mem_map] at hv
  obtain ⟨x, _, rfl⟩ := hv
  rfl
theorem rangeAt_below {w w' : World} {b o : Nat} {cs : List Value} (h : w.rangeAt b o cs) (hb : Below w.heap.size w w') : w'.rangeAt b o cs := fun j v hv => (hb.cell (block_lt (h j v hv))).trans (h j v hv)
theorem rangeAt_row {w : World} {b : Nat} {cs : List Value} {t : TypeId} {fr : Nat × Nat} (h : w.heap[b]? = some (.cells cs.toArray t fr)) : w.rangeAt b 0 cs := fun j v hv => by
  rw [Nat.zero_add, cell_of_row _ _ j _ _ _ h]; simpa using hv
theorem hb_alloc {w : World} {v : Value} {l : List UInt8} (h : HB w v l) (o : Obj) : HB (w.alloc o) v l := h.below ((Below.refl _ _).alloc (Nat.le_refl _) o)
theorem hb_drew {w : World} {v : Value} {l : List UInt8} (h : HB w v l) : HB w.drew v l := h.below (Below.refl _ _).drew
theorem hq_below {w w' : World} {v : Value} {q : Qn} (h : HQ w v q) (hb : Below w.heap.size w w') : HQ w' v q := by
  obtain ⟨h1, dv, h2, h3⟩ := h
  exact ⟨h1, dv, h2, h3.below hb⟩
theorem fb_below {B : Nat} {v : Value} {l : List UInt8} {w w' : World} (h : FB B w v l) (hb : Below w.heap.size w w') : FB B w' v l :=
  h.kept (row := none) ⟨hb.os, hb.tape, hb.output, hb.size, fun j hj _ => hb.block j hj⟩ (by cases hv : v.ownBlock <;> simp)
theorem fb_lower {B B' : Nat} {w : World} {v : Value} {l : List UInt8} (h : FB B w v l) (hB : B' ≤ B) : FB B' w v l := by
  refine ⟨h.1, ?_⟩
  rcases h.2 with h1 | ⟨g, cap, cur, h1, h2, h3⟩
  · exact .inl h1
  · exact .inr ⟨g, cap, cur, h1, Nat.le_trans hB h2, h3⟩
theorem B8_one (l : List UInt8) : ∀ u ∈ l.map B8, u.oneCell' = true := by
  intro u hu
  obtain ⟨x, _, rfl⟩ := List.mem_map.1 hu
  rfl
theorem hb_cells {w : World} {v : Value} {l : List UInt8} (h : HB w v l) : ∃ p cap, v = .slice p l.length cap ∧ (p = none → l = [] ∧ cap = 0) ∧ (∀ a, p = some a → ∀ (j : Nat) u, (l.map B8)[j]? = some u → w.cell? (a.add j) = some u) := by
  rcases h with ⟨rfl, p, cap, rfl, hpc⟩ | ⟨b, o, cap, rfl, _, _, hc⟩
  · exact ⟨p, cap, rfl, fun h => ⟨rfl, hpc h⟩, fun a _ j u hu => by simp at hu⟩
  · refine ⟨_, cap, rfl, fun h => by simp at h, fun a ha j u hu => ?_⟩
    simp only [Option.some.injEq] at ha
    subst ha
    have hj : j < l.length := by
      have := (List.getElem?_eq_some_iff.1 hu).1
      simpa using this
    have hadd : (⟨b, o, none⟩ : Addr).add j = ⟨b, o + j, none⟩ := by unfold Addr.add; split <;> simp_all
    rw [hadd, hc j hj]
    rw [List.getElem?_map, List.getElem?_eq_getElem hj] at hu
    simp only [Option.map_some, Option.some.injEq] at hu
    rw [← hu]
    simp [B8, List.getD, List.getElem?_eq_getElem hj]
theorem size_u8 (w : World) : (sizeOf 5).run Tryz.prog w = .ok 1 w := by
  obtain ⟨i0, hi, hz0, hz1, hz2⟩ := info_parts Tryz.infoU8
  simp [sizeOf, typeInfo, hi, hz1]
theorem info35 (RS : List Value) (h : RS.length = 35) : (Tryz.prog.info? 138).map (·.size) = some RS.length := by rw [h]; kernel_rfl
theorem info32 (RS : List Value) (h : RS.length = 32) : (Tryz.prog.info? 33).map (·.size) = some RS.length := by rw [h]; kernel_rfl
theorem eql_digest (w : World) (xs ys : List UInt8) (hx : xs.length = 32) (hy : ys.length = 32) : (binOp .eql 33 (.agg (xs.map B8).toArray) (.agg (ys.map B8).toArray)).run Tryz.prog w = .ok (.bool (xs == ys)) w :=
  run_eql_bytes w 33 5 32 Tryz.underlying33 Tryz.underlying5 size_u8 xs ys hx hy
/-- A guarded load of a range, its guard met. -/
theorem load_mid_g {ops : Array Oper} {rest : List Oper} {o : Oper} {a : Act} {w : World} {Q : Exit → Act → World → Prop} (hw : Region.wanted o (yielded ops a.tmps) = true) (ty : TypeId) (x : Operand) (ho : o.op = .load ty x)
    (b off : Nat) (hx : a.eval x = .pointer (some ⟨b, off, none⟩)) (cs : List Value) (d : TypeDesc) (hc : w.rangeAt b off cs) (hu : Tryz.prog.underlying ty = some d) (hd : d.isRow = true) (hi : (Tryz.prog.info? ty).map (·.size) = some cs.length)
    (h : wpList Tryz.prog ops Q rest (a.put o.dst (.agg cs.toArray)) w) : wpList Tryz.prog ops Q (o :: rest) a w :=
  wpList_step fun K hK => by rw [if_pos hw]; exact wp_load_mid ty x ho b off hx cs d hc hu hd hi (hK _ _ h)
theorem txt_beq (a b : List UInt8) : ((⟨a.toArray⟩ : ByteArray).toList == (⟨b.toArray⟩ : ByteArray).toList) = decide (a = b) := by
  rw [ByteArray.toList_eq, ByteArray.toList_eq, Bool.eq_iff_iff]; simp

end Go.Proofs.YtekbppfocnbhbaaGreat.R5
