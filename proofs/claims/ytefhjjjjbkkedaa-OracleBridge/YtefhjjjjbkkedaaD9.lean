/- Contract of ref 5's Draw. -/
import Derived.Test.YtefhjjjjbkkedaaC9
set_option linter.unusedVariables false
set_option linter.unusedSimpArgs false
namespace Go.Proofs.Ytefhjjjjbkkedaa.R5
open scoped Classical
open Go.RowKit

theorem wp_copy_seg {op : Oper} {a : Act} {w : World} {K : Act → World → Prop} {Q : Exit → Act → World → Prop} (d s : Operand) (ho : op.op = .call { callee := .builtin .copy, args := #[d, s], argTypes := #[31, 31] })
    (b o dLen dCap : Nat) (sp : Option Addr) (sLen sCap : Nat) (hd : a.eval d = .slice (some ⟨b, o, none⟩) dLen dCap) (hs : a.eval s = .slice sp sLen sCap) (cur : List Value) (t : TypeId) (hg : w.heap[b]? = some (.cells cur.toArray t (0, 0)))
    (cs : List Value) (hn : cs.length = Nat.min sLen dLen) (hpos : 0 < cs.length → ∃ ad, sp = some ad ∧ ∀ j v, cs[j]? = some v → w.cell? (ad.add j) = some v) (hfit : o + cs.length ≤ cur.length) (h1 : ∀ v ∈ cs, v.oneCell' = true)
    (h : K (a.put op.dst (goInt cs.length)) (w.setRow b (splice cur o cs).toArray)) : op.wp Try.prog a w K Q := by
  by_cases h0 : cs.length = 0
  · obtain rfl : cs = [] := List.eq_nil_of_length_eq_zero h0
    have hrun := run_copy_none (P := Try.prog) w 31 31 op.type 5 (some ⟨b, o, none⟩) sp dLen dCap sLen sCap Try.underlying31 (by kernel_rfl) (by simpa using hn.symm)
    have e : w.setRow b (splice cur o []).toArray = w := by
      have : splice cur o [] = cur := by simp [splice]
      rw [this]; exact setRow_self w b cur.toArray t (0, 0) hg
    rw [e] at h
    unfold Oper.wp
    simp [execOp, ho, resolve, invoke, builtin, hd, hs, hrun, Result.andThen]
    exact h
  · obtain ⟨ad, rfl, hsrc⟩ := hpos (by omega)
    have hrun := run_copy_row (P := Try.prog) w 31 31 op.type 5 b o dLen dCap ad sLen sCap cur.toArray t cs Try.underlying31 (by kernel_rfl) hg hn hsrc (by simpa using hfit) h1
    have e : (cur.toArray.toList.take o ++ cs ++ cur.toArray.toList.drop (o + cs.length)).toArray = (splice cur o cs).toArray := by simp [splice]
    rw [e] at hrun
    unfold Oper.wp
    simp [execOp, ho, resolve, invoke, builtin, hd, hs, hrun, Result.andThen]
    exact h

/-- A slice of digests. -/
def HDs (w : World) (v : Value) (ds : List (List UInt8)) : Prop :=
  (∀ d ∈ ds, d.length = 32) ∧ ∃ p cap, v = .slice p ds.length cap ∧ ∀ i, i < ds.length → ∃ b o, p = some ⟨b, o, none⟩ ∧ w.rangeAt b (o + i * 32) ((ds.getD i []).map B8)
theorem hds_below {w w' : World} {v : Value} {ds : List (List UInt8)} (h : HDs w v ds) (hb : Below w.heap.size w w') : HDs w' v ds := by
  obtain ⟨h0, p, cap, h1, h2⟩ := h
  refine ⟨h0, p, cap, h1, fun i hi => ?_⟩
  obtain ⟨b, o, e, hr⟩ := h2 i hi
  exact ⟨b, o, e, rangeAt_below hr hb⟩
/-- The draw of a number. -/
def drawD (ds : List (List UInt8)) (n : Nat) : List UInt8 := if n < ds.length then ds.getD n [] else W1.le 8 n ++ List.replicate 23 0 ++ [1]
theorem drawD_len (ds : List (List UInt8)) (n : Nat) (h : ∀ d ∈ ds, d.length = 32) : (drawD ds n).length = 32 := by
  unfold drawD
  by_cases hn : n < ds.length
  · rw [if_pos hn]
    have : ds.getD n [] ∈ ds := by simp [List.getD, List.getElem?_eq_getElem hn]
    exact h _ this
  · rw [if_neg hn]; simp [W1.le_length]
theorem info32a (RS : Array Value) (h : RS.size = 32) : (Try.prog.info? 23).map (·.size) = some RS.size := by rw [h]; kernel_rfl
theorem zero_dig (w : World) : (zeroValue 23).run Try.prog w = .ok (.agg ((List.replicate 32 (0 : UInt8)).map B8).toArray) w := by kernel_rfl
theorem splice_le (l : List UInt8) (h : l.length = 8) : splice ((List.replicate 32 (0 : UInt8)).map B8) 0 (l.map B8) = (l ++ List.replicate 24 0).map B8 := by
  unfold splice
  rw [List.take_zero, List.nil_append, List.length_map, h, List.map_append]
  congr 1
theorem set_31 (l : List UInt8) (h : l.length = 8) : (((l ++ List.replicate 24 0).map B8).toArray).setIfInBounds 31 (.int .u8 1) = ((l ++ List.replicate 23 0 ++ [1]).map B8).toArray := by
  match l, h with
  | [a0, a1, a2, a3, a4, a5, a6, a7], _ => rfl

end Go.Proofs.Ytefhjjjjbkkedaa.R5
