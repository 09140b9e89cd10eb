/- rec: what each reason lets wait; stores and copies into a part of a row; contract of Leave. -/
import Derived.Test.YtpdafjamhccbnaaCA
import Derived.Maps.Keyed
import Derived.Maps.Own
import Derived.MapViews
import Derived.ChangeMaps
set_option linter.unusedVariables false
set_option linter.unusedSimpArgs false
namespace Go.Proofs.Ytpdafjamhccbnaa.VC
open Go.RowKit
open Go.ChangeMaps (setBlock heap_setBlock_same heap_setBlock_other)

theorem run_store_seg (w : World) (b o : Nat) (ty t : TypeId) (cells : Array Value) (cur : List Value) (hg : w.heap[b]? = some (.cells cur.toArray t (0, 0))) (hi : (Try.prog.info? ty).map (·.size) = some cells.size) (hfit : o + cells.size ≤ cur.length) (h1 : cells.all (·.oneCell') = true) :
    (storeVar ty ⟨b, o, none⟩ (.agg cells)).run Try.prog w = .ok () (w.setRow b (splice cur o cells.toList).toArray) := by
  have h1' : ∀ v ∈ cells.toList, v.oneCell' = true := fun v hv => by
    rw [Array.all_eq_true_iff_forall_mem] at h1
    exact h1 v (by simpa using hv)
  have hst := run_storeCells_at Try.prog b o t cells.toList 0 cur.toArray w hg (by simpa using hfit) h1'
  have e : (cur.toArray.toList.take (o + 0) ++ cells.toList ++ cur.toArray.toList.drop (o + 0 + cells.toList.length)).toArray = (splice cur o cells.toList).toArray := by simp [splice]
  rw [e] at hst
  cases hq : Try.prog.info? ty with
  | none => simp [hq] at hi
  | some i =>
    have hs : cells.size = i.size := by simp [hq] at hi; omega
    simp [storeVar, sizeOf, typeInfo, hq, Value.cells, hs, hst]
theorem wp_store_seg {op : Oper} {a : Act} {w : World} {K : Act → World → Prop} {Q : Exit → Act → World → Prop} (ty : TypeId) (x y : Operand) (ho : op.op = .store ty x y)
    (b o : Nat) (cells : Array Value) (cur : List Value) (t : TypeId) (hx : a.eval x = .pointer (some ⟨b, o, none⟩)) (hy : a.eval y = .agg cells)
    (hg : w.heap[b]? = some (.cells cur.toArray t (0, 0))) (hi : (Try.prog.info? ty).map (·.size) = some cells.size) (hfit : o + cells.size ≤ cur.length) (h1 : cells.all (·.oneCell') = true)
    (h : K (a.put op.dst undef) (w.setRow b (splice cur o cells.toList).toArray)) : op.wp Try.prog a w K Q := by
  unfold Oper.wp execOp
  simp only [ho, hx, hy, Instr.storeAt, Instr.sureAddr, Sem.run_bind, Sem.run_pure, Result.andThen_ok, run_store_seg w b o ty t cells cur hg hi hfit h1]
  exact h
theorem wpList_store_segL {ops : Array Oper} {rest : List Oper} {op : Oper} {a : Act} {w : World} {Q : Exit → Act → World → Prop} (hgd : op.guard = none) (ty : TypeId) (x y : Operand) (ho : op.op = .store ty x y)
    (b o : Nat) (cells : Array Value) (cur : List Value) (t : TypeId) (hx : a.eval x = .pointer (some ⟨b, o, none⟩)) (hy : a.eval y = .agg cells)
    (hg : w.heap[b]? = some (.cells cur.toArray t (0, 0))) (hi : (Try.prog.info? ty).map (·.size) = some cells.size) (hfit : o + cells.size ≤ cur.length) (h1 : cells.all (·.oneCell') = true)
    (h : ∀ W', W' = w.setRow b (splice cur o cells.toList).toArray → wpList Try.prog ops Q rest (a.put op.dst undef) W') : wpList Try.prog ops Q (op :: rest) a w :=
  wpList_plain hgd fun _ hK => wp_store_seg ty x y ho b o cells cur t hx hy hg hi hfit h1 (hK _ _ (h _ rfl))
theorem wp_copy_seg {op : Oper} {a : Act} {w : World} {K : Act → World → Prop} {Q : Exit → Act → World → Prop} (d s : Operand) (ho : op.op = .call { callee := .builtin .copy, args := #[d, s], argTypes := #[64, 64] })
    (b o dLen dCap : Nat) (sp : Option Addr) (sLen sCap : Nat) (hd : a.eval d = .slice (some ⟨b, o, none⟩) dLen dCap) (hs : a.eval s = .slice sp sLen sCap) (cur : List Value) (t : TypeId) (hg : w.heap[b]? = some (.cells cur.toArray t (0, 0)))
    (cs : List Value) (hn : cs.length = Nat.min sLen dLen) (hpos : 0 < cs.length → ∃ ad, sp = some ad ∧ ∀ j v, cs[j]? = some v → w.cell? (ad.add j) = some v) (hfit : o + cs.length ≤ cur.length) (h1 : ∀ v ∈ cs, v.oneCell' = true)
    (h : K (a.put op.dst (goInt cs.length)) (w.setRow b (splice cur o cs).toArray)) : op.wp Try.prog a w K Q := by
  by_cases h0 : cs.length = 0
  · obtain rfl : cs = [] := List.eq_nil_of_length_eq_zero h0
    have hrun := run_copy_none (P := Try.prog) w 64 64 op.type 22 (some ⟨b, o, none⟩) sp dLen dCap sLen sCap Try.underlying64 (by kernel_rfl) (by simpa using hn.symm)
    have e : w.setRow b (splice cur o []).toArray = w := by
      have : splice cur o [] = cur := by simp [splice]
      rw [this]; exact setRow_self w b cur.toArray t (0, 0) hg
    rw [e] at h
    unfold Oper.wp
    simp [execOp, ho, resolve, invoke, builtin, hd, hs, hrun, Result.andThen]
    exact h
  · obtain ⟨ad, rfl, hsrc⟩ := hpos (by omega)
    have hrun := run_copy_row (P := Try.prog) w 64 64 op.type 22 b o dLen dCap ad sLen sCap cur.toArray t cs Try.underlying64 (by kernel_rfl) hg hn hsrc (by simpa using hfit) h1
    have e : (cur.toArray.toList.take o ++ cs ++ cur.toArray.toList.drop (o + cs.length)).toArray = (splice cur o cs).toArray := by simp [splice]
    rw [e] at hrun
    unfold Oper.wp
    simp [execOp, ho, resolve, invoke, builtin, hd, hs, hrun, Result.andThen]
    exact h
theorem wp_insert {op : Oper} {a : Act} {w w' : World} {K : Act → World → Prop} {Q : Exit → Act → World → Prop} (m x v : Operand) (t : TypeId) (ho : op.op = Op.insert t m x v) (mv kv vv : Value) (hm : a.eval m = mv) (hx : a.eval x = kv) (hv : a.eval v = vv)
    (hr : (Instr.mapUpdate t mv kv vv).run Try.prog w = .ok () w') (h : K (a.put op.dst undef) w') : op.wp Try.prog a w K Q := by
  unfold Oper.wp execOp
  simp only [ho, hm, hx, hv, Sem.run_bind, hr, Result.andThen_ok]
  exact h
theorem wpList_insert {ops : Array Oper} {rest : List Oper} {op : Oper} {a : Act} {w w' : World} {Q : Exit → Act → World → Prop} (hgd : op.guard = none) (m x v : Operand) (t : TypeId) (ho : op.op = Op.insert t m x v) (mv kv vv : Value) (hm : a.eval m = mv) (hx : a.eval x = kv) (hv : a.eval v = vv)
    (hr : (Instr.mapUpdate t mv kv vv).run Try.prog w = .ok () w') (h : wpList Try.prog ops Q rest (a.put op.dst undef) w') : wpList Try.prog ops Q (op :: rest) a w :=
  wpList_plain hgd fun _ hK => wp_insert m x v t ho mv kv vv hm hx hv hr (hK _ _ h)
/-- Reasons, and what they let wait. -/
def isRe (n : Int) : Bool := decide (1 ≤ n ∧ n ≤ 5)
def wtOf (n : Int) : Int := if n = 2 then 1 else if n = 3 then 2 else if n = 5 then 3 else 0
def EN : List (Int × Int) := [(1, 0), (2, 1), (3, 2), (4, 0), (5, 3)]
def ek (p : Int × Int) : Value × Value := (.int .i64 p.1, .int .i64 p.2)
theorem lawK : Maps.Keyed Try.prog 38 := Maps.int_keyed Try.underlying38
theorem key_ok (n : Int) (h : (Lit.int .i64 n).wf = true) : keyOf Try.prog 38 (.int .i64 n) = some (.int .i64 n) := Maps.keyOf_int_mk Try.underlying38 h
def MJ (mb : Nat) (D : List (Int × Int)) (w : World) : Prop := ∃ es clock, w.heap[mb]? = some (.map es clock) ∧ (es.toList.map fun e => (e.key, e.val)) = D.map ek
theorem MJ.put {mb : Nat} {D : List (Int × Int)} {w : World} (h : MJ mb D w) (n v : Int) (hn : (Lit.int .i64 n).wf = true) (hD : ∀ p ∈ D, p.1 ≠ n ∧ (Lit.int .i64 p.1).wf = true) :
    ∃ o, (Instr.mapUpdate 66 (.map (some mb)) (.int .i64 n) (.int .i64 v)).run Try.prog w = .ok () (setBlock w mb o) ∧ MJ mb (D ++ [(n, v)]) (setBlock w mb o) ∧ w.grownBy (setBlock w mb o) (some mb) := by
  obtain ⟨es, clock, h1, h2⟩ := h
  have hk := key_ok n hn
  have hmem : ∀ e ∈ es.toList, ∃ p ∈ D, e.key = (ek p).1 := fun e he => by
    have : (e.key, e.val) ∈ D.map ek := by rw [← h2]; exact List.mem_map.2 ⟨e, he, rfl⟩
    obtain ⟨j, hj, hje⟩ := List.mem_map.1 this
    exact ⟨j, hj, by rw [hje]⟩
  rcases lawK.find w hk es.toList (fun e he => by obtain ⟨j, hj, e1⟩ := hmem e he; rw [e1]; exact ⟨_, key_ok _ (hD j hj).2⟩) with ⟨hr, hn'⟩ | ⟨j, e, hr, hj, he⟩
  · refine ⟨.map (es.push ⟨.int .i64 n, .int .i64 v, clock⟩) (clock + 1), ?_, ⟨_, _, heap_setBlock_same h1 _, ?_⟩, ⟨rfl, rfl, rfl, by simp [setBlock], fun i _ hi => heap_setBlock_other h1 _ (fun e => hi (by rw [e]))⟩⟩
    · simp [Instr.mapUpdate, run_underlying Try.underlying66, MapKept.run_getObj_map h1, lawK.check w false hk, hr, MapKept.run_setObj_map _ h1, Result.andThen, setBlock]
    · rw [Array.toList_push, List.map_append, List.map_append, h2]
      rfl
  · exfalso
    obtain ⟨p, hp, e1⟩ := hmem e (List.mem_of_getElem? hj)
    have e2 := e1.symm.trans he
    have e3 : p.1 = n := by simpa [ek] using e2
    exact (hD p hp).1 e3
theorem isRe_ex {n : Int} (h : isRe n = true) : (n, wtOf n) ∈ EN := by
  unfold isRe at h
  simp only [decide_eq_true_eq] at h
  have : n = 1 ∨ n = 2 ∨ n = 3 ∨ n = 4 ∨ n = 5 := by omega
  rcases this with rfl | rfl | rfl | rfl | rfl <;> decide
theorem en_re : ∀ p ∈ EN, isRe p.1 = true ∧ wtOf p.1 = p.2 ∧ (Lit.int .i64 p.1).wf = true := by decide
theorem zero_wt (w : World) : (zeroValue 26).run Try.prog w = .ok (.int .i64 0) w := by kernel_rfl
theorem wtOf_no {n : Int} (h : isRe n = false) : wtOf n = 0 := by
  unfold isRe at h; unfold wtOf
  simp only [decide_eq_false_iff_not] at h
  rw [if_neg (by omega), if_neg (by omega), if_neg (by omega)]
theorem mj_look {w : World} {mb : Nat} (h : MJ mb EN w) (n : Int) (hn : (Lit.int .i64 n).wf = true) :
    (Instr.lookup 66 (.map (some mb)) (.int .i64 n) true).run Try.prog w = .ok (.tuple #[.int .i64 (wtOf n), .bool (isRe n)]) w := by
  obtain ⟨es, clock, h1, h2⟩ := h
  have hk := key_ok n hn
  have hmem : ∀ e ∈ es.toList, ∃ p ∈ EN, e.key = (ek p).1 ∧ e.val = (ek p).2 := fun e he => by
    have : (e.key, e.val) ∈ EN.map ek := by rw [← h2]; exact List.mem_map.2 ⟨e, he, rfl⟩
    obtain ⟨j, hj, hje⟩ := List.mem_map.1 this
    exact ⟨j, hj, by rw [hje], by rw [hje]⟩
  rcases lawK.find w hk es.toList (fun e he => by obtain ⟨j, hj, e1, _⟩ := hmem e he; rw [e1]; exact ⟨_, key_ok _ (en_re j hj).2.2⟩) with ⟨hr, hno⟩ | ⟨j, e, hr, hj, he⟩
  · have hm : isRe n = false := by
      cases hq : isRe n with
      | false => rfl
      | true =>
        exfalso
        have h3 : ek (n, wtOf n) ∈ es.toList.map fun e => (e.key, e.val) := by rw [h2]; exact List.mem_map.2 ⟨_, isRe_ex hq, rfl⟩
        obtain ⟨e, he, hee⟩ := List.mem_map.1 h3
        refine hno e he ?_
        have : e.key = (ek (n, wtOf n)).1 := by rw [← hee]
        rw [this]; rfl
    rw [hm, wtOf_no hm]
    simp [Instr.lookup, run_underlying Try.underlying66, MapKept.run_getObj_map h1, lawK.check w _ hk, hr, zero_wt, Result.andThen]
  · obtain ⟨p, hp, e1, e2⟩ := hmem e (List.mem_of_getElem? hj)
    have e3 : p.1 = n := by have := e1.symm.trans he; simpa [ek] using this
    obtain ⟨m1, m2, _⟩ := en_re p hp
    rw [e3] at m1 m2
    rw [m1, m2]
    have e5 : e.val = .int .i64 p.2 := e2
    simp [Instr.lookup, run_underlying Try.underlying66, MapKept.run_getObj_map h1, lawK.check w _ hk, hr, e5, Result.andThen]
theorem MJ.below {w w' : World} {mb : Nat} {D : List (Int × Int)} (h : MJ mb D w) (hb : Below w.heap.size w w') : MJ mb D w' := by
  obtain ⟨es, clock, h1, h2⟩ := h
  exact ⟨es, clock, (hb.block _ (row_lt h1)).trans h1, h2⟩
def WtEnd (w : World) (e : Ending) (w' : World) : Prop := ∃ mb, e = .returned (.map (some mb)) ∧ MJ mb EN w' ∧ Below w.heap.size w w'
theorem wpList_makeMap {ops : Array Oper} {rest : List Oper} {op : Oper} {a : Act} {w : World} {Q : Exit → Act → World → Prop} (hgd : op.guard = none) (t : TypeId) (ho : op.op = Op.makeMap t none)
    (h : ∀ W', W' = w.alloc (.map #[] 0) → wpList Try.prog ops Q rest (a.put op.dst (.map (some w.heap.size))) W') : wpList Try.prog ops Q (op :: rest) a w :=
  wpList_plain hgd fun _ hK => by
    unfold Oper.wp execOp
    simp only [ho, Option.map_none, run_makeMap, Sem.run_bind, Result.andThen_ok]
    exact hK _ _ (h _ rfl)
theorem put_e {w W : World} {D : List (Int × Int)} (hM : MJ w.heap.size D W) (hB : Below w.heap.size w W) (n v : Int) (hn : (Lit.int .i64 n).wf = true) (hD : ∀ p ∈ D, p.1 ≠ n ∧ (Lit.int .i64 p.1).wf = true) :
    ∃ W', (Instr.mapUpdate 66 (.map (some w.heap.size)) (.int .i64 n) (.int .i64 v)).run Try.prog W = .ok () W' ∧ MJ w.heap.size (D ++ [(n, v)]) W' ∧ Below w.heap.size w W' := by
  obtain ⟨ob, hr, hM', hg⟩ := hM.put n v hn hD
  exact ⟨_, hr, hM', hB.grown hg hB.size (fun k e => by cases e; exact Nat.le_refl _)⟩
set_option maxHeartbeats 1000000 in
theorem waits_any (w : World) : Calls Try.prog 21 #[] w fun e w' => WtEnd w e w' := by
  have hM : MJ w.heap.size [] (w.alloc (.map #[] 0)) := ⟨#[], 0, heap_alloc_new _ _, rfl⟩
  have hB : Below w.heap.size w (w.alloc (.map #[] 0)) := (Below.refl _ _).alloc (Nat.le_refl _) _
  obtain ⟨W1, q1, hM1, hB1⟩ := put_e hM hB 1 0 (by decide) (by decide)
  obtain ⟨W2, q2, hM2, hB2⟩ := put_e hM1 hB1 2 1 (by decide) (by decide)
  obtain ⟨W3, q3, hM3, hB3⟩ := put_e hM2 hB2 3 2 (by decide) (by decide)
  obtain ⟨W4, q4, hM4, hB4⟩ := put_e hM3 hB3 4 0 (by decide) (by decide)
  obtain ⟨W5, q5, hM5, hB5⟩ := put_e hM4 hB4 5 3 (by decide) (by decide)
  have HE : Hid (WtEnd w (.returned (.map (some w.heap.size))) W5) := ⟨w.heap.size, rfl, hM5, hB5⟩
  have H1 : Hid _ := q1
  have H2 : Hid _ := q2
  have H3 : Hid _ := q3
  have H4 : Hid _ := q4
  have H5 : Hid _ := q5
  clear hM hB hM1 hB1 hM2 hB2 hM3 hB3 hM4 hB4 hM5 hB5 q1 q2 q3 q4 q5
  go_enter Try.func21, Try.ntmps21
  go_wp2_with (first
    | (refine wpList_makeMap rfl 66 rfl ?_; intro W0 hW0; rw [← hW0] at H1; clear hW0)
    | (refine wpList_insert rfl (.tmp 1) (.const (.int .i64 1)) (.const (.int .i64 0)) 66 rfl (.map (some w.heap.size)) (.int .i64 1) (.int .i64 0) rfl rfl rfl H1.out ?_)
    | (refine wpList_insert rfl (.tmp 1) (.const (.int .i64 2)) (.const (.int .i64 1)) 66 rfl (.map (some w.heap.size)) (.int .i64 2) (.int .i64 1) rfl rfl rfl H2.out ?_)
    | (refine wpList_insert rfl (.tmp 1) (.const (.int .i64 3)) (.const (.int .i64 2)) 66 rfl (.map (some w.heap.size)) (.int .i64 3) (.int .i64 2) rfl rfl rfl H3.out ?_)
    | (refine wpList_insert rfl (.tmp 1) (.const (.int .i64 4)) (.const (.int .i64 0)) 66 rfl (.map (some w.heap.size)) (.int .i64 4) (.int .i64 0) rfl rfl rfl H4.out ?_)
    | (refine wpList_insert rfl (.tmp 1) (.const (.int .i64 5)) (.const (.int .i64 3)) 66 rfl (.map (some w.heap.size)) (.int .i64 5) (.int .i64 3) rfl rfl rfl H5.out ?_))
  go_ret
  exact HE.out
end Go.Proofs.Ytpdafjamhccbnaa.VC
