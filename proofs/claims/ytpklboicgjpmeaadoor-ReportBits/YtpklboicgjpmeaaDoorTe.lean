/- report: the closures that lay parts and take them. -/
import Derived.Test.YtpklboicgjpmeaaDoorTb
import Derived.Deep.OwnRows
set_option linter.unusedVariables false
set_option linter.unusedSimpArgs false
namespace Go.Proofs.YtpklboicgjpmeaaDoor.RB
open Go.RowKit

theorem wp_copy_seg {op : Oper} {a : Act} {w : World} {K : Act → World → Prop} {Q : Exit → Act → World → Prop} (d s : Operand) (ho : op.op = .call { callee := .builtin .copy, args := #[d, s], argTypes := #[28, 28] })
    (b o dLen dCap : Nat) (sp : Option Addr) (sLen sCap : Nat) (hd : a.eval d = .slice (some ⟨b, o, none⟩) dLen dCap) (hs : a.eval s = .slice sp sLen sCap) (cur : List Value) (t : TypeId) (hg : w.heap[b]? = some (.cells cur.toArray t (0, 0)))
    (cs : List Value) (hn : cs.length = Nat.min sLen dLen) (hpos : 0 < cs.length → ∃ ad, sp = some ad ∧ ∀ j v, cs[j]? = some v → w.cell? (ad.add j) = some v) (hfit : o + cs.length ≤ cur.length) (h1 : ∀ v ∈ cs, v.oneCell' = true)
    (h : K (a.put op.dst (goInt cs.length)) (w.setRow b (splice cur o cs).toArray)) : op.wp Tryd.prog a w K Q := by
  by_cases h0 : cs.length = 0
  · obtain rfl : cs = [] := List.eq_nil_of_length_eq_zero h0
    have hrun := run_copy_none (P := Tryd.prog) w 28 28 op.type 5 (some ⟨b, o, none⟩) sp dLen dCap sLen sCap Tryd.underlying28 (by kernel_rfl) (by simpa using hn.symm)
    have e : w.setRow b (splice cur o []).toArray = w := by
      have : splice cur o [] = cur := by simp [splice]
      rw [this]; exact setRow_self w b cur.toArray t (0, 0) hg
    rw [e] at h
    unfold Oper.wp
    simp [execOp, ho, resolve, invoke, builtin, hd, hs, hrun, Result.andThen]
    exact h
  · obtain ⟨ad, rfl, hsrc⟩ := hpos (by omega)
    have hrun := run_copy_row (P := Tryd.prog) w 28 28 op.type 5 b o dLen dCap ad sLen sCap cur.toArray t cs Tryd.underlying28 (by kernel_rfl) hg hn hsrc (by simpa using hfit) h1
    have e : (cur.toArray.toList.take o ++ cs ++ cur.toArray.toList.drop (o + cs.length)).toArray = (splice cur o cs).toArray := by simp [splice]
    rw [e] at hrun
    unfold Oper.wp
    simp [execOp, ho, resolve, invoke, builtin, hd, hs, hrun, Result.andThen]
    exact h
theorem wpList_copy_segL {ops : Array Oper} {rest : List Oper} {op : Oper} {a : Act} {w : World} {Q : Exit → Act → World → Prop} (hgd : op.guard = none) (d s : Operand) (ho : op.op = .call { callee := .builtin .copy, args := #[d, s], argTypes := #[28, 28] })
    (b o dLen dCap : Nat) (sp : Option Addr) (sLen sCap : Nat) (hd : a.eval d = .slice (some ⟨b, o, none⟩) dLen dCap) (hs : a.eval s = .slice sp sLen sCap) (cur : List Value) (t : TypeId) (hg : w.heap[b]? = some (.cells cur.toArray t (0, 0)))
    (cs : List Value) (hn : cs.length = Nat.min sLen dLen) (hpos : 0 < cs.length → ∃ ad, sp = some ad ∧ ∀ j v, cs[j]? = some v → w.cell? (ad.add j) = some v) (hfit : o + cs.length ≤ cur.length) (h1 : ∀ v ∈ cs, v.oneCell' = true)
    (h : ∀ W', W' = w.setRow b (splice cur o cs).toArray → wpList Tryd.prog ops Q rest (a.put op.dst (goInt cs.length)) W') : wpList Tryd.prog ops Q (op :: rest) a w :=
  wpList_plain hgd fun _ hK => wp_copy_seg d s ho b o dLen dCap sp sLen sCap hd hs cur t hg cs hn hpos hfit h1 (hK _ _ (h _ rfl))
theorem wp_copy_segL {op : Oper} {a : Act} {w : World} {K : Act → World → Prop} {Q : Exit → Act → World → Prop} (d s : Operand) (ho : op.op = .call { callee := .builtin .copy, args := #[d, s], argTypes := #[28, 28] })
    (b o dLen dCap : Nat) (sp : Option Addr) (sLen sCap : Nat) (hd : a.eval d = .slice (some ⟨b, o, none⟩) dLen dCap) (hs : a.eval s = .slice sp sLen sCap) (cur : List Value) (t : TypeId) (hg : w.heap[b]? = some (.cells cur.toArray t (0, 0)))
    (cs : List Value) (hn : cs.length = Nat.min sLen dLen) (hpos : 0 < cs.length → ∃ ad, sp = some ad ∧ ∀ j v, cs[j]? = some v → w.cell? (ad.add j) = some v) (hfit : o + cs.length ≤ cur.length) (h1 : ∀ v ∈ cs, v.oneCell' = true)
    (h : ∀ W', W' = w.setRow b (splice cur o cs).toArray → K (a.put op.dst (goInt cs.length)) W') : op.wp Tryd.prog a w K Q :=
  wp_copy_seg d s ho b o dLen dCap sp sLen sCap hd hs cur t hg cs hn hpos hfit h1 (h _ rfl)
set_option maxRecDepth 100000 in
/-- A copy into a row, where the walk stands at it. -/
theorem upon_copyK {op : Oper} {a : Act} {K : Act → World → Prop} {Q : Exit → Act → World → Prop} {w : World} (b o dLen dCap : Nat) (sp : Option Addr) (sLen sCap : Nat) (cur : List Value) (t : TypeId) (hg : w.heap[b]? = some (.cells cur.toArray t (0, 0)))
    (cs : List Value) (hn : cs.length = Nat.min sLen dLen) (hpos : 0 < cs.length → ∃ ad, sp = some ad ∧ ∀ j v, cs[j]? = some v → w.cell? (ad.add j) = some v) (hfit : o + cs.length ≤ cur.length) (h1 : ∀ v ∈ cs, v.oneCell' = true)
    (h : ∀ W', W' = w.setRow b (splice cur o cs).toArray → Oper.upon Tryd.prog op a K Q (.ok (.value (goInt cs.length)) W')) :
    Oper.upon Tryd.prog op a K Q (((Builtin.copy_ #[28, 28] 3 #[.slice (some ⟨b, o, none⟩) dLen dCap, .slice sp sLen sCap]).run Tryd.prog w).andThen fun a w' => .ok (.value a) w') := by
  by_cases h0 : cs.length = 0
  · obtain rfl : cs = [] := List.eq_nil_of_length_eq_zero h0
    have e : w.setRow b (splice cur o []).toArray = w := by
      have : splice cur o [] = cur := by simp [splice]
      rw [this]; exact setRow_self w b cur.toArray t (0, 0) hg
    rw [run_copy_none (P := Tryd.prog) w 28 28 3 5 _ _ dLen dCap sLen sCap Tryd.underlying28 (by kernel_rfl) (by simpa using hn.symm)]
    exact h _ e.symm
  · obtain ⟨ad, rfl, hsrc⟩ := hpos (by omega)
    rw [run_copy_row (P := Tryd.prog) w 28 28 3 5 b o dLen dCap ad sLen sCap cur.toArray t cs Tryd.underlying28 (by kernel_rfl) hg hn hsrc (by simpa using hfit) h1]
    exact h _ (by simp [splice])
theorem run_stI (w : World) (b k : Nat) (OL : List Value) (t : TypeId) (hrow : w.heap[b]? = some (.cells OL.toArray t (0, 0))) (hk : k < OL.length) (x : Int) : (Instr.storeAt 3 (.pointer (some ⟨b, k, none⟩)) (.int .i64 x)).run Tryd.prog w = .ok () (w.setCell ⟨b, k, none⟩ (.int .i64 x)) := by
  have hc := cell_of_row w b k _ _ _ hrow
  rw [List.getElem?_toArray, List.getElem?_eq_getElem hk] at hc
  have hf := frozen_of_row _ _ k _ _ hrow
  generalize OL[k] = ov at *
  unfold Instr.storeAt Instr.sureAddr
  go_simp
theorem wp_stI {o : Oper} {a : Act} {w : World} {K : Act → World → Prop} {Q : Exit → Act → World → Prop} (x y : Operand) (ho : o.op = .store 3 x y)
    (b k : Nat) (v : Int) (hx : a.eval x = .pointer (some ⟨b, k, none⟩)) (hy : a.eval y = .int .i64 v) (OL : List Value) (t : TypeId) (hrow : w.heap[b]? = some (.cells OL.toArray t (0, 0))) (hk : k < OL.length)
    (h : K (a.put o.dst undef) (w.setCell ⟨b, k, none⟩ (.int .i64 v))) : o.wp Tryd.prog a w K Q := by
  unfold Oper.wp execOp
  simp only [ho, hx, hy, Sem.run_bind, run_stI w b k OL t hrow hk v, Result.andThen_ok]
  exact h
theorem wpList_stI {ops : Array Oper} {rest : List Oper} {o : Oper} {a : Act} {w : World} {Q : Exit → Act → World → Prop} (hgd : o.guard = none) (x y : Operand) (ho : o.op = .store 3 x y)
    (b k : Nat) (v : Int) (hx : a.eval x = .pointer (some ⟨b, k, none⟩)) (hy : a.eval y = .int .i64 v) (OL : List Value) (t : TypeId) (hrow : w.heap[b]? = some (.cells OL.toArray t (0, 0))) (hk : k < OL.length)
    (h : ∀ W', W' = w.setCell ⟨b, k, none⟩ (.int .i64 v) → wpList Tryd.prog ops Q rest (a.put o.dst undef) W') : wpList Tryd.prog ops Q (o :: rest) a w :=
  wpList_plain hgd fun _ hK => wp_stI x y ho b k v hx hy OL t hrow hk (hK _ _ (h _ rfl))
/-- Where bytes that a value tells lie. -/
theorem hb_src {w : World} {v : Value} {l : List UInt8} (h : HB w v l) : ∃ p cap, v = .slice p l.length cap ∧ (0 < (l.map B8).length → ∃ ad, p = some ad ∧ ∀ j u, (l.map B8)[j]? = some u → w.cell? (ad.add j) = some u) := by
  rcases h with ⟨rfl, p, cap, rfl, _⟩ | ⟨b, o, cap, rfl, _, _, hc⟩
  · exact ⟨p, cap, rfl, fun h => by simp at h⟩
  · refine ⟨_, cap, rfl, fun _ => ⟨_, rfl, fun j u hu => ?_⟩⟩
    rw [List.getElem?_map, Option.map_eq_some_iff] at hu
    obtain ⟨x, hx, rfl⟩ := hu
    obtain ⟨hj, e⟩ := List.getElem?_eq_some_iff.1 hx
    rw [add_none, hc j hj]
    simp [B8, List.getD, hx]
theorem lyr_any (p : Option Addr) (n c : Nat) (w : World) : Calls Tryd.prog 22 #[.slice p n c] w fun e w' => e = .returned (.func (.func 39) #[] #[pB w.heap.size, pB (w.heap.size + 1)]) ∧ w' = (w.alloc (.cells [.slice p n c].toArray 28 (0, 0))).alloc (.cells [.int .i64 0].toArray 3 (0, 0)) := by
  go_enter Tryd.func22, Tryd.ntmps22
  go_wp2
  go_ret
  exact ⟨rfl, rfl⟩
theorem tkr_any (p : Option Addr) (n c : Nat) (w : World) : Calls Tryd.prog 30 #[.slice p n c] w fun e w' => e = .returned (.func (.func 45) #[] #[pB w.heap.size, pB (w.heap.size + 1)]) ∧ w' = (w.alloc (.cells [.slice p n c].toArray 28 (0, 0))).alloc (.cells [.int .i64 0].toArray 3 (0, 0)) := by
  go_enter Tryd.func30, Tryd.ntmps30
  go_wp2
  go_ret
  exact ⟨rfl, rfl⟩
set_option maxHeartbeats 1000000 in
set_option maxRecDepth 100000 in
/-- A part is laid. -/
theorem lay_any (bb ab nb : Nat) (L : List Value) (p : List UInt8) (k size : Nat) (v : Value) (t : TypeId) (X : World) (hbb : X.heap[bb]? = some (.cells [.slice (some ⟨nb, 0, none⟩) 80 80].toArray 28 (0, 0))) (hab : X.heap[ab]? = some (.cells [.int .i64 (k : Int)].toArray 3 (0, 0)))
    (hnb : X.heap[nb]? = some (.cells L.toArray t (0, 0))) (hL : L.length = 80) (hv : HB X v p) (hp : p.length ≤ size) (hfit : k + size ≤ 80) (h0 : 0 < size) (hne : ab ≠ nb) :
    Calls Tryd.prog 39 #[v, .int .i64 (size : Int), pB bb, pB ab] X fun e X' => e = .returned (.tuple #[]) ∧ X' = (X.setRow nb (splice L k (p.map B8)).toArray).setCell ⟨ab, 0, none⟩ (.int .i64 ((k : Int) + (size : Int))) := by
  obtain ⟨pp, cap, rfl, hsrc⟩ := hb_src hv
  have HSRC : Hid _ := hsrc
  have HAB : Hid _ := hab
  have HNB : Hid _ := hnb
  have HL : Hid (L.length = 80) := hL
  have hcb : X.cell? ⟨bb, 0, none⟩ = some (.slice (some ⟨nb, 0, none⟩) 80 80) := (fields5 _ _ _ _ _ hbb 0).trans rfl
  have hca : X.cell? ⟨ab, 0, none⟩ = some (.int .i64 (k : Int)) := (fields5 _ _ _ _ _ hab 0).trans rfl
  have HP1 : Hid _ := B8_one p
  have HPL : Hid ((p.map B8).length = p.length) := List.length_map ..
  have HNE : Hid (ab ≠ nb) := hne
  have hk1 : ¬ (k : Int) = 80 := by omega
  have hk2 : ¬ k = 80 := by omega
  have hk3 : ¬ 80 = k := by omega
  clear hv hsrc hab hnb hL hbb hne
  unfold pB
  go_enter Tryd.func39, Tryd.ntmps39
  go_wp2_with fail
  refine upon_copyK nb k size (80 - k) pp p.length cap L t HNB.out (p.map B8) (by rw [HPL.out]; exact (Nat.min_eq_left hp).symm) HSRC.out (by rw [HPL.out, HL.out]; omega) HP1.out ?_
  intro X1 e1
  have HX1 : Hid _ := e1
  have HR1 : Hid (X1.heap[ab]? = some (.cells [.int .i64 (k : Int)].toArray 3 (0, 0))) := by show _ = _; rw [e1]; exact (setRow_other _ _ _ _ HNE.out).trans HAB.out
  have hc1 : X1.cell? ⟨ab, 0, none⟩ = some (.int .i64 (k : Int)) := (fields5 _ _ _ _ _ HR1.out 0).trans rfl
  have hf1 := frozen_of_row _ _ 0 _ _ HR1.out
  clear e1
  go_wp2
  go_end0
  exact ⟨rfl, by rw [HX1.out]⟩
end Go.Proofs.YtpklboicgjpmeaaDoor.RB
