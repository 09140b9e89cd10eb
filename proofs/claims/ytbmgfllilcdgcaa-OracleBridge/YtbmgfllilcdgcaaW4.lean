/- Contracts: sha's Press; ref's Press over lists; equal rows of words, of bytes; rows that came in. -/
import Derived.Test.YtbmgfllilcdgcaaA3
import Derived.Stop.BytesEq
import Derived.WideKeyArr2
set_option linter.unusedVariables false
set_option linter.unusedSimpArgs false
namespace Go.Proofs.Ytbmgfllilcdgcaa
open Go.RowKit

theorem heap_alloc_eq (w : World) (o : Obj) : (w.alloc o).heap = w.heap.push o := rfl
theorem h2a (w : World) (a b : Obj) : ((w.alloc a).alloc b).drew.heap[w.heap.size]? = some a := by
  rw [heap_drew, Below.heap_alloc _ _ _ (by simp)]; exact heap_alloc_new _ _
theorem h2b (w : World) (a b : Obj) : ((w.alloc a).alloc b).drew.heap[w.heap.size + 1]? = some b := by
  rw [heap_drew]; exact heap_at _ _ _ (by simp)
theorem h3a (w : World) (a b c : Obj) : (((w.alloc a).alloc b).alloc c).drew.heap[w.heap.size]? = some a := by
  rw [heap_drew, Below.heap_alloc _ _ _ (by simp; omega), Below.heap_alloc _ _ _ (by simp)]; exact heap_alloc_new _ _
theorem h3b (w : World) (a b c : Obj) : (((w.alloc a).alloc b).alloc c).drew.heap[w.heap.size + 1]? = some b := by
  rw [heap_drew, Below.heap_alloc _ _ _ (by simp)]; exact heap_at _ _ _ (by simp)
theorem h3c (w : World) (a b c : Obj) : (((w.alloc a).alloc b).alloc c).drew.heap[w.heap.size + 2]? = some c := by
  rw [heap_drew]; exact heap_at _ _ _ (by simp)
theorem below_size {w w' : World} (h : Below w.heap.size w w') : w.heap.size ≤ w'.heap.size := h.size
theorem HW.below {w w' : World} {v : Value} {l : List UInt32} (h : HW w v l) (hb : Below w.heap.size w w') : HW w' v l := by
  obtain ⟨p, cap, h1, h2⟩ := h
  refine ⟨p, cap, h1, fun i hi => ?_⟩
  obtain ⟨b, o, e, hc⟩ := h2 i hi
  exact ⟨b, o, e, (hb.cell (block_lt hc)).trans hc⟩
theorem eq_words_self (w : World) (d : Nat) (t e : TypeId) (n : Nat) (ht : Try.prog.underlying t = some (.array n e)) (he : Try.prog.underlying e = some (.int .u32)) (hsz : ∀ w, (sizeOf e).run Try.prog w = .ok 1 w)
    (xs : List UInt32) (hx : xs.length = n) :
    (Op.equalIn (d + 2) t (.agg (xs.map W32).toArray) (.agg (xs.map W32).toArray)).run Try.prog w = .ok true w := by
  rw [Op.equalIn]
  simp only [Sem.run_bind, run_underlying ht, Result.andThen_ok, hsz, Std.Legacy.Range.forIn_eq_forIn_range', Std.Legacy.Range.size, Nat.sub_zero, Nat.add_sub_cancel, Nat.div_one]
  have hl : ∀ i ∈ List.range' 0 n 1, i < n := fun i hi => by simpa using (List.mem_range'_1.1 hi).2
  generalize List.range' 0 n 1 = l at hl ⊢
  induction l with
  | nil => simp
  | cons i l ih =>
    have hi : i < n := hl i (by simp)
    have px : (Go.part e (xs.map W32).toArray (i * 1)).run Try.prog w = .ok (W32 (xs.getD i 0)) w := by
      simp [Go.part, isAgg, run_underlying he, List.getD, List.getElem?_eq_getElem (show i < xs.length by omega)]
    have pe : (Op.equalIn (d + 1) e (W32 (xs.getD i 0)) (W32 (xs.getD i 0))).run Try.prog w = .ok true w := by
      unfold W32
      rw [run_equalIn_int w d e .u32 .u32 _ _ he]
      simp
    simp only [List.forIn_cons, Sem.run_bind, px, pe, Result.andThen_ok]
    simp only [Bool.not_true, Bool.false_eq_true, if_false, Sem.run_pure, Result.andThen_ok, Bool.true_and]
    exact ih fun j hj => hl j (by simp [hj])
theorem size_u32 (w : World) : (sizeOf 97).run Try.prog w = .ok 1 w := by
  obtain ⟨i0, hi, hz0, hz1, hz2⟩ := info_parts Try.infoU32
  simp [sizeOf, typeInfo, hi, hz1]
theorem size_u8 (w : World) : (sizeOf 5).run Try.prog w = .ok 1 w := by
  obtain ⟨i0, hi, hz0, hz1, hz2⟩ := info_parts Try.infoU8
  simp [sizeOf, typeInfo, hi, hz1]
theorem eql_words (w : World) (xs : List UInt32) (hx : xs.length = 8) : (binOp .eql 98 (.agg (xs.map W32).toArray) (.agg (xs.map W32).toArray)).run Try.prog w = .ok (.bool true) w := by
  rw [run_eql_struct, eq_words_self w 9998 98 97 8 Try.underlying98 Try.underlying97 size_u32 xs hx]
  rfl
theorem eql_digest (w : World) (xs ys : List UInt8) (hx : xs.length = 32) (hy : ys.length = 32) : (binOp .eql 23 (.agg (xs.map B8).toArray) (.agg (ys.map B8).toArray)).run Try.prog w = .ok (.bool (xs == ys)) w :=
  run_eql_bytes w 23 5 32 Try.underlying23 Try.underlying5 size_u8 xs ys hx hy


end Go.Proofs.Ytbmgfllilcdgcaa
