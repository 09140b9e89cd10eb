/- A message written part by part: the mathematics, and the cells of a Hash. -/
import Derived.Test.YtojafgilpnnbiaaN4
import Derived.Test.YtojafgilpnnbiaaY4
import Derived.Test.YtojafgilpnnbiaaK1
import Derived.Laws.CopyRow
set_option linter.unusedVariables false
set_option linter.unusedSimpArgs false
namespace Go.Proofs.Ytojafgilpnnbiaa
open Go.RowKit

theorem pAll_congr (hs : List UInt32) (l l' : List UInt8) (k : Nat) (h : ∀ j, j < k → blk l j = blk l' j) : pAll hs l k = pAll hs l' k := by
  induction k with
  | zero => rfl
  | succ k ih =>
    show press (pAll hs l k) (blk l k) K64 = press (pAll hs l' k) (blk l' k) K64
    rw [ih (fun j hj => h j (by omega)), h k (by omega)]
theorem blk_left (a b : List UInt8) (n j : Nat) (ha : a.length = 64 * n) (hj : j < n) : blk (a ++ b) j = blk a j := by
  unfold blk
  rw [List.drop_append_of_le_length (by omega), List.take_append_of_le_length (by simp; omega)]
theorem blk_right (a b : List UInt8) (n k : Nat) (ha : a.length = 64 * n) : blk (a ++ b) (n + k) = blk b k := by
  unfold blk
  rw [show 64 * (n + k) = a.length + 64 * k by omega, List.drop_append, List.drop_eq_nil_of_le (by omega), List.nil_append, Nat.add_sub_cancel_left]
theorem pAll_append (hs : List UInt32) (a b : List UInt8) (n k : Nat) (ha : a.length = 64 * n) : pAll hs (a ++ b) (n + k) = pAll (pAll hs a n) b k := by
  induction k with
  | zero => exact pAll_congr hs _ _ n (fun j hj => blk_left a b n j ha hj)
  | succ k ih =>
    show press (pAll hs (a ++ b) (n + k)) (blk (a ++ b) (n + k)) K64 = press (pAll (pAll hs a n) b k) (blk b k) K64
    rw [ih, blk_right a b n k ha]
theorem pAll_take (hs : List UInt32) (l : List UInt8) (k : Nat) (h : 64 * k ≤ l.length) : pAll hs (l.take (64 * k)) k = pAll hs l k := by
  have := pAll_append hs (l.take (64 * k)) (l.drop (64 * k)) k 0 (by simp; omega)
  rw [List.take_append_drop] at this
  exact this.symm

/-- What is behind the last whole block; the state ahead of it. -/
def restL (m : List UInt8) : List UInt8 := m.drop (64 * (m.length / 64))
def stL (m : List UInt8) : List UInt32 := pAll H8 m (m.length / 64)
theorem restL_len (m : List UInt8) : (restL m).length = m.length % 64 := by unfold restL; simp; omega
theorem stL_len (m : List UInt8) : (stL m).length = 8 := pAll_len _ _ _ rfl
theorem split_m (m : List UInt8) : m = m.take (64 * (m.length / 64)) ++ restL m := (List.take_append_drop _ _).symm
theorem head_len (m : List UInt8) : (m.take (64 * (m.length / 64))).length = 64 * (m.length / 64) := by simp; omega
theorem st_head (m : List UInt8) : pAll H8 (m.take (64 * (m.length / 64))) (m.length / 64) = stL m := pAll_take _ _ _ (by omega)
theorem join_len (m l : List UInt8) : (m ++ l).length / 64 = m.length / 64 + (restL m ++ l).length / 64 := by
  rw [List.length_append, List.length_append, restL_len]; omega
theorem join_eq (m l : List UInt8) : m ++ l = m.take (64 * (m.length / 64)) ++ (restL m ++ l) := by
  rw [← List.append_assoc, ← split_m]
theorem st_join (m l : List UInt8) : stL (m ++ l) = pAll (stL m) (restL m ++ l) ((restL m ++ l).length / 64) := by
  unfold stL
  rw [join_len, join_eq, pAll_append _ _ _ _ _ (head_len m), st_head]
  rfl
theorem rest_join (m l : List UInt8) : restL (m ++ l) = (restL m ++ l).drop (64 * ((restL m ++ l).length / 64)) := by
  show (m ++ l).drop (64 * ((m ++ l).length / 64)) = _
  rw [join_len m l, join_eq m l, show 64 * (m.length / 64 + (restL m ++ l).length / 64) = (m.take (64 * (m.length / 64))).length + 64 * ((restL m ++ l).length / 64) by rw [head_len]; omega, List.drop_append, List.drop_eq_nil_of_le (by omega), List.nil_append, Nat.add_sub_cancel_left]
theorem sum_join (m : List UInt8) : shaL m = dig8 (pAll (stL m) (restL m ++ padT m.length) ((restL m ++ padT m.length).length / 64)) := by
  unfold shaL
  have e : padL m = m ++ padT m.length := padL_eq m
  rw [e, join_len, join_eq, pAll_append _ _ _ _ _ (head_len m), st_head]

/-- The cells of a Hash. -/
def hst (st rs : List Value) (n : Int) : List Value := Value.bool true :: (st ++ (rs ++ [Value.int .i64 n]))
def pad64 (r : List UInt8) : List UInt8 := r ++ List.replicate (64 - r.length) 0
theorem pad64_len (r : List UInt8) (h : r.length ≤ 64) : (pad64 r).length = 64 := by unfold pad64; simp; omega
/-- A Hash of a message at a block. -/
def HM (w : World) (b : Nat) (m : List UInt8) : Prop := w.heap[b]? = some (.cells (hst ((stL m).map W32) ((pad64 (restL m)).map B8) m.length).toArray 53 (0, 0))

theorem hst_st (st rs : List Value) (n : Int) (st' : List Value) (h8 : st.length = 8) (h8' : st'.length = 8) : splice (hst st rs n) 1 st' = hst st' rs n := by
  unfold splice hst
  simp only [List.take_succ_cons, List.take_zero, List.cons_append, List.nil_append]
  rw [show 1 + st'.length = st.length + 1 by omega, List.drop_succ_cons, List.drop_left]
theorem hst_rs (st rs : List Value) (n : Int) (cs : List Value) (h8 : st.length = 8) (hc : cs.length ≤ rs.length) : splice (hst st rs n) 9 cs = hst st (cs ++ rs.drop cs.length) n := by
  unfold splice hst
  rw [show (9 : Nat) = st.length + 1 by omega, List.take_succ_cons, List.take_left]
  rw [show st.length + 1 + cs.length = (st.length + cs.length) + 1 by omega, List.drop_succ_cons, List.drop_append]
  simp only [Nat.add_sub_cancel_left]
  rw [List.drop_eq_nil_of_le (by omega), List.drop_append_of_le_length hc]
  simp
theorem hst_len (st rs : List Value) (n : Int) (h8 : st.length = 8) (h64 : rs.length = 64) : (hst st rs n).length = 74 := by unfold hst; simp; omega
theorem hst_n (st rs : List Value) (n n' : Int) (h8 : st.length = 8) (h64 : rs.length = 64) : (hst st rs n).toArray.setIfInBounds 73 (.int .i64 n') = (hst st rs n').toArray := by
  rw [List.setIfInBounds_toArray]
  congr 1
  unfold hst
  rw [List.set_cons_succ, List.set_append_right _ _ (by omega), List.set_append_right _ _ (by omega)]
  rw [show 72 - st.length - rs.length = 0 by omega]
  rfl
theorem hst_get0 (st rs : List Value) (n : Int) : (hst st rs n).toArray[0]? = some (.bool true) := by unfold hst; simp
theorem hst_get73 (st rs : List Value) (n : Int) (h8 : st.length = 8) (h64 : rs.length = 64) : (hst st rs n).toArray[73]? = some (.int .i64 n) := by
  unfold hst
  simp only [List.getElem?_toArray, List.getElem?_cons_succ]
  rw [List.getElem?_append_right (by omega), List.getElem?_append_right (by omega), show 72 - st.length - rs.length = 0 by omega]
  rfl
theorem hst_range_st {w : World} {b : Nat} {st rs : List Value} {n : Int} {t : TypeId} (h : w.heap[b]? = some (.cells (hst st rs n).toArray t (0, 0))) : w.rangeAt b 1 st := fun j v hv => by
  rw [cell_of_row _ _ _ _ _ _ h]
  have hj := (List.getElem?_eq_some_iff.1 hv).1
  unfold hst
  rw [show 1 + j = j + 1 by omega]
  simp only [List.getElem?_toArray, List.getElem?_cons_succ]
  rw [List.getElem?_append_left hj, hv]
theorem hst_range_rs {w : World} {b : Nat} {st rs : List Value} {n : Int} {t : TypeId} (h8 : st.length = 8) (h : w.heap[b]? = some (.cells (hst st rs n).toArray t (0, 0))) : w.rangeAt b 9 rs := fun j v hv => by
  rw [cell_of_row _ _ _ _ _ _ h]
  have hj := (List.getElem?_eq_some_iff.1 hv).1
  unfold hst
  rw [show 9 + j = (8 + j) + 1 by omega]
  simp only [List.getElem?_toArray, List.getElem?_cons_succ]
  rw [List.getElem?_append_right (by omega), show 8 + j - st.length = j by omega, List.getElem?_append_left hj, hv]

end Go.Proofs.Ytojafgilpnnbiaa
