/- Contract of sha's Write. -/
import Derived.Test.YtojafgilpnnbiaaM6
import Derived.Laws.IdiomCopy
set_option linter.unusedVariables false
set_option linter.unusedSimpArgs false
namespace Go.Proofs.Ytojafgilpnnbiaa
open Go.RowKit

theorem run_store_seg (w : World) (b o : Nat) (ty t : TypeId) (cells : Array Value) (cur : List Value) (hg : w.heap[b]? = some (.cells cur.toArray t (0, 0))) (hi : (Try.prog.info? ty).map (·.size) = some cells.size) (hfit : o + cells.size ≤ cur.length) (h1 : cells.all (·.oneCell') = true) :
    (storeVar ty ⟨b, o, none⟩ (.agg cells)).run Try.prog w = .ok () (w.setRow b (splice cur o cells.toList).toArray) := by
  have h1' : ∀ v ∈ cells.toList, v.oneCell' = true := fun v hv => by
    rw [Array.all_eq_true_iff_forall_mem] at h1
    exact h1 v (by simpa using hv)
  have hst := run_storeCells_at Try.prog b o t cells.toList 0 cur.toArray w hg (by simpa using hfit) h1'
  have e : (cur.toArray.toList.take (o + 0) ++ cells.toList ++ cur.toArray.toList.drop (o + 0 + cells.toList.length)).toArray = (splice cur o cells.toList).toArray := by simp [splice]
  rw [e] at hst
  cases hq : Try.prog.info? ty with
  | none => simp [hq] at hi
  | some i =>
    have hs : cells.size = i.size := by simp [hq] at hi; omega
    simp [storeVar, sizeOf, typeInfo, hq, Value.cells, hs, hst]
theorem wp_store_seg {op : Oper} {a : Act} {w : World} {K : Act → World → Prop} {Q : Exit → Act → World → Prop} (ty : TypeId) (x y : Operand) (ho : op.op = .store ty x y)
    (b o : Nat) (cells : Array Value) (cur : List Value) (t : TypeId) (hx : a.eval x = .pointer (some ⟨b, o, none⟩)) (hy : a.eval y = .agg cells)
    (hg : w.heap[b]? = some (.cells cur.toArray t (0, 0))) (hi : (Try.prog.info? ty).map (·.size) = some cells.size) (hfit : o + cells.size ≤ cur.length) (h1 : cells.all (·.oneCell') = true)
    (h : K (a.put op.dst undef) (w.setRow b (splice cur o cells.toList).toArray)) : op.wp Try.prog a w K Q := by
  unfold Oper.wp execOp
  simp only [ho, hx, hy, Instr.storeAt, Instr.sureAddr, Sem.run_bind, Sem.run_pure, Result.andThen_ok, run_store_seg w b o ty t cells cur hg hi hfit h1]
  exact h
theorem wpList_store_seg {ops : Array Oper} {rest : List Oper} {op : Oper} {a : Act} {w : World} {Q : Exit → Act → World → Prop} (hgd : op.guard = none) (ty : TypeId) (x y : Operand) (ho : op.op = .store ty x y)
    (b o : Nat) (cells : Array Value) (cur : List Value) (t : TypeId) (hx : a.eval x = .pointer (some ⟨b, o, none⟩)) (hy : a.eval y = .agg cells)
    (hg : w.heap[b]? = some (.cells cur.toArray t (0, 0))) (hi : (Try.prog.info? ty).map (·.size) = some cells.size) (hfit : o + cells.size ≤ cur.length) (h1 : cells.all (·.oneCell') = true)
    (h : wpList Try.prog ops Q rest (a.put op.dst undef) (w.setRow b (splice cur o cells.toList).toArray)) : wpList Try.prog ops Q (op :: rest) a w :=
  wpList_plain hgd fun _ hK => wp_store_seg ty x y ho b o cells cur t hx hy hg hi hfit h1 (hK _ _ h)
theorem wp_copy_seg {op : Oper} {a : Act} {w : World} {K : Act → World → Prop} {Q : Exit → Act → World → Prop} (d s : Operand) (ho : op.op = .call { callee := .builtin .copy, args := #[d, s], argTypes := #[22, 22] })
    (b o dLen dCap : Nat) (sp : Option Addr) (sLen sCap : Nat) (hd : a.eval d = .slice (some ⟨b, o, none⟩) dLen dCap) (hs : a.eval s = .slice sp sLen sCap) (cur : List Value) (t : TypeId) (hg : w.heap[b]? = some (.cells cur.toArray t (0, 0)))
    (cs : List Value) (hn : cs.length = Nat.min sLen dLen) (hpos : 0 < cs.length → ∃ ad, sp = some ad ∧ ∀ j v, cs[j]? = some v → w.cell? (ad.add j) = some v) (hfit : o + cs.length ≤ cur.length) (h1 : ∀ v ∈ cs, v.oneCell' = true)
    (h : K (a.put op.dst (goInt cs.length)) (w.setRow b (splice cur o cs).toArray)) : op.wp Try.prog a w K Q := by
  by_cases h0 : cs.length = 0
  · obtain rfl : cs = [] := List.eq_nil_of_length_eq_zero h0
    have hrun := run_copy_none (P := Try.prog) w 22 22 op.type 5 (some ⟨b, o, none⟩) sp dLen dCap sLen sCap Try.underlying22 (by kernel_rfl) (by simpa using hn.symm)
    have e : w.setRow b (splice cur o []).toArray = w := by
      have : splice cur o [] = cur := by simp [splice]
      rw [this]; exact setRow_self w b cur.toArray t (0, 0) hg
    rw [e] at h
    unfold Oper.wp
    simp [execOp, ho, resolve, invoke, builtin, hd, hs, hrun, Result.andThen]
    exact h
  · obtain ⟨ad, rfl, hsrc⟩ := hpos (by omega)
    have hrun := run_copy_row (P := Try.prog) w 22 22 op.type 5 b o dLen dCap ad sLen sCap cur.toArray t cs Try.underlying22 (by kernel_rfl) hg hn hsrc (by simpa using hfit) h1
    have e : (cur.toArray.toList.take o ++ cs ++ cur.toArray.toList.drop (o + cs.length)).toArray = (splice cur o cs).toArray := by simp [splice]
    rw [e] at hrun
    unfold Oper.wp
    simp [execOp, ho, resolve, invoke, builtin, hd, hs, hrun, Result.andThen]
    exact h

/-- All but one block stay. -/
def KB (b : Nat) (w w' : World) : Prop := Below b w w' ∧ ∀ j, j < w.heap.size → j ≠ b → w'.heap[j]? = w.heap[j]?
theorem KB.of {b : Nat} {w w' : World} (hb : b ≤ w.heap.size) (h : Below w.heap.size w w') : KB b w w' := ⟨h.mono hb, fun j hj _ => h.block j hj⟩
theorem KB.below {b : Nat} {w a c : World} (hb : b ≤ w.heap.size) (h : KB b w a) (hc : Below a.heap.size a c) : KB b w c :=
  ⟨h.1.trans (hc.mono (Nat.le_trans hb h.1.size)), fun j hj hne => (hc.block j (Nat.lt_of_lt_of_le hj h.1.size)).trans (h.2 j hj hne)⟩
theorem KB.set {b : Nat} {w a : World} (h : KB b w a) (N : Array Value) : KB b w (a.setRow b N) := ⟨below_setRow h.1 (Nat.le_refl _) _, fun j hj hne => (setRow_other _ _ _ _ hne).trans (h.2 j hj hne)⟩
theorem KB.setCell {b o : Nat} {w a : World} (h : KB b w a) (v : Value) : KB b w (a.setCell ⟨b, o, none⟩ v) := ⟨h.1.setCell (p := ⟨b, o, none⟩) (by simp) _, fun j hj hne => (heap_setCell_other _ _ _ _ (by simpa using hne)).trans (h.2 j hj hne)⟩
theorem KB.drew {b : Nat} {w a : World} (h : KB b w a) : KB b w a.drew := ⟨h.1.drew, h.2⟩

theorem sliceTo (W : World) (p : Option Addr) (N cap k : Nat) (h : k ≤ cap) : (Instr.slice 22 (.slice p N cap) none (some (.int .i64 (k : Int))) none).run Try.prog W = .ok (.slice p k cap) W := by
  have hu : Try.prog.underlying 22 = some (.slice (Try.prog.elem 22)) := by kernel_rfl
  have he : Try.prog.elem 22 = 5 := by kernel_rfl
  rw [run_slice_h W 22 _ _ _ hu .i64 _ (by omega) (by omega), he, size_u8]
  cases p <;> simp [Result.andThen, sliced, Addr.add]
theorem sliceOff (W : World) (p : Option Addr) (N cap k : Nat) (h : k ≤ N) (hN : N ≤ cap) : (Instr.slice 22 (.slice p N cap) (some (.int .i64 (k : Int))) none none).run Try.prog W = .ok (.slice (if cap = k then p else p.map (·.add k)) (N - k) (cap - k)) W := by
  have hu : Try.prog.underlying 22 = some (.slice (Try.prog.elem 22)) := by kernel_rfl
  have he : Try.prog.elem 22 = 5 := by kernel_rfl
  rw [run_slice_l W 22 _ _ _ hu .i64 _ (by omega) (by omega), he, size_u8]
  simp [Result.andThen, sliced]
theorem sliceRest64 (W : World) (b : Nat) : (Instr.sliceAt 32 (.pointer (some ⟨b, 9, none⟩)) none none none).run Try.prog W = .ok (.slice (some ⟨b, 9, none⟩) 64 64) W := by
  have ha : Try.prog.arrayLen 32 = 64 := by kernel_rfl
  have hu : Try.prog.underlying 32 = some (.array (Try.prog.arrayLen 32) (Try.prog.elem 32)) := by kernel_rfl
  have he : Try.prog.elem 32 = 5 := by kernel_rfl
  rw [run_sliceAt_array_all W 32 _ hu, he, size_u8, ha]
  have hadd : (⟨b, 9, none⟩ : Addr).add (0 * 1) = ⟨b, 9, none⟩ := by unfold Addr.add; split <;> simp_all
  simp only [Result.andThen, slicedAt]
  rw [if_neg (by decide), hadd]

end Go.Proofs.Ytojafgilpnnbiaa
