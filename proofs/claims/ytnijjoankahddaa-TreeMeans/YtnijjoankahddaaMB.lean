/- machine: bytes spliced into memory (mathematics and steps); contracts of New, Get, Put, Scrub. -/
import Derived.Test.YtnijjoankahddaaMA
set_option linter.unusedVariables false
set_option linter.unusedSimpArgs false
namespace Go.Proofs.Ytnijjoankahddaa.MC
open Go.RowKit

theorem splice_map {α β : Type} (f : α → β) (L : List α) (o : Nat) (cs : List α) : splice (L.map f) o (cs.map f) = (splice L o cs).map f := by simp [splice, List.map_take, List.map_drop]
theorem splice_len {α : Type} (L : List α) (o : Nat) (cs : List α) (h : o + cs.length ≤ L.length) : (splice L o cs).length = L.length := by simp [splice]; omega
theorem splice_nil {α : Type} (L : List α) (o : Nat) : splice L o [] = L := by simp [splice]
theorem splice_get {α : Type} (L : List α) (o : Nat) (cs : List α) (h : o + cs.length ≤ L.length) (i : Nat) : (splice L o cs)[i]? = if i < o then L[i]? else if i < o + cs.length then cs[i - o]? else L[i]? := by
  unfold splice
  by_cases h1 : i < o
  · rw [if_pos h1, List.getElem?_append_left (by simp; omega), List.getElem?_take_of_lt h1]
  · rw [if_neg h1, List.getElem?_append_right (by simp; omega), List.length_take, Nat.min_eq_left (by omega)]
    by_cases h2 : i < o + cs.length
    · rw [if_pos h2, List.getElem?_append_left (by omega)]
    · rw [if_neg h2, List.getElem?_append_right (by omega), List.getElem?_drop]
      congr 1; omega
/-- A part behind what is spliced in already. -/
theorem splice_step {α : Type} (L : List α) (a : Nat) (b : List α) (k c : Nat) (h : a + b.length ≤ L.length) (hk : k + c ≤ b.length) : splice (splice L a (b.take k)) (a + k) ((b.drop k).take c) = splice L a (b.take (k + c)) := by
  have h1 : (b.take k).length = k := by rw [List.length_take]; omega
  have h2 : ((b.drop k).take c).length = c := by rw [List.length_take, List.length_drop]; omega
  have h3 : (b.take (k + c)).length = k + c := by rw [List.length_take]; omega
  apply List.ext_getElem?
  intro i
  rw [splice_get _ _ _ (by rw [splice_len _ _ _ (by omega)]; omega), splice_get _ _ _ (by omega), splice_get _ _ _ (by omega), h1, h2, h3]
  by_cases c1 : i < a
  · rw [if_pos (by omega), if_pos c1, if_pos c1]
  · by_cases c2 : i < a + k
    · rw [if_pos c2, if_neg c1, if_pos c2, if_neg c1, if_pos (by omega), List.getElem?_take_of_lt (by omega), List.getElem?_take_of_lt (by omega)]
    · rw [if_neg c2]
      by_cases c3 : i < a + k + c
      · rw [if_pos c3, if_neg c1, if_pos (by omega), List.getElem?_take_of_lt (by omega), List.getElem?_take_of_lt (by omega), List.getElem?_drop]
        congr 1; omega
      · rw [if_neg c3, if_neg c1, if_neg c2, if_neg c1, if_neg (by omega)]

theorem run_store_seg (w : World) (b o : Nat) (ty t : TypeId) (cells : Array Value) (cur : List Value) (hg : w.heap[b]? = some (.cells cur.toArray t (0, 0))) (hi : (Try.prog.info? ty).map (·.size) = some cells.size) (hfit : o + cells.size ≤ cur.length) (h1 : cells.all (·.oneCell') = true) :
    (storeVar ty ⟨b, o, none⟩ (.agg cells)).run Try.prog w = .ok () (w.setRow b (splice cur o cells.toList).toArray) := by
  have h1' : ∀ v ∈ cells.toList, v.oneCell' = true := fun v hv => by
    rw [Array.all_eq_true_iff_forall_mem] at h1
    exact h1 v (by simpa using hv)
  have hst := run_storeCells_at Try.prog b o t cells.toList 0 cur.toArray w hg (by simpa using hfit) h1'
  have e : (cur.toArray.toList.take (o + 0) ++ cells.toList ++ cur.toArray.toList.drop (o + 0 + cells.toList.length)).toArray = (splice cur o cells.toList).toArray := by simp [splice]
  rw [e] at hst
  cases hq : Try.prog.info? ty with
  | none => simp [hq] at hi
  | some i =>
    have hs : cells.size = i.size := by simp [hq] at hi; omega
    simp [storeVar, sizeOf, typeInfo, hq, Value.cells, hs, hst]
theorem wp_store_seg {op : Oper} {a : Act} {w : World} {K : Act → World → Prop} {Q : Exit → Act → World → Prop} (ty : TypeId) (x y : Operand) (ho : op.op = .store ty x y)
    (b o : Nat) (cells : Array Value) (cur : List Value) (t : TypeId) (hx : a.eval x = .pointer (some ⟨b, o, none⟩)) (hy : a.eval y = .agg cells)
    (hg : w.heap[b]? = some (.cells cur.toArray t (0, 0))) (hi : (Try.prog.info? ty).map (·.size) = some cells.size) (hfit : o + cells.size ≤ cur.length) (h1 : cells.all (·.oneCell') = true)
    (h : K (a.put op.dst undef) (w.setRow b (splice cur o cells.toList).toArray)) : op.wp Try.prog a w K Q := by
  unfold Oper.wp execOp
  simp only [ho, hx, hy, Instr.storeAt, Instr.sureAddr, Sem.run_bind, Sem.run_pure, Result.andThen_ok, run_store_seg w b o ty t cells cur hg hi hfit h1]
  exact h
theorem wp_copy_seg {op : Oper} {a : Act} {w : World} {K : Act → World → Prop} {Q : Exit → Act → World → Prop} (d s : Operand) (ho : op.op = .call { callee := .builtin .copy, args := #[d, s], argTypes := #[91, 91] })
    (b o dLen dCap : Nat) (sp : Option Addr) (sLen sCap : Nat) (hd : a.eval d = .slice (some ⟨b, o, none⟩) dLen dCap) (hs : a.eval s = .slice sp sLen sCap) (cur : List Value) (t : TypeId) (hg : w.heap[b]? = some (.cells cur.toArray t (0, 0)))
    (cs : List Value) (hn : cs.length = Nat.min sLen dLen) (hpos : 0 < cs.length → ∃ ad, sp = some ad ∧ ∀ j v, cs[j]? = some v → w.cell? (ad.add j) = some v) (hfit : o + cs.length ≤ cur.length) (h1 : ∀ v ∈ cs, v.oneCell' = true)
    (h : K (a.put op.dst (goInt cs.length)) (w.setRow b (splice cur o cs).toArray)) : op.wp Try.prog a w K Q := by
  by_cases h0 : cs.length = 0
  · obtain rfl : cs = [] := List.eq_nil_of_length_eq_zero h0
    have hrun := run_copy_none (P := Try.prog) w 91 91 op.type 5 (some ⟨b, o, none⟩) sp dLen dCap sLen sCap Try.underlying91 (by kernel_rfl) (by simpa using hn.symm)
    have e : w.setRow b (splice cur o []).toArray = w := by
      have : splice cur o [] = cur := by simp [splice]
      rw [this]; exact setRow_self w b cur.toArray t (0, 0) hg
    rw [e] at h
    unfold Oper.wp
    simp [execOp, ho, resolve, invoke, builtin, hd, hs, hrun, Result.andThen]
    exact h
  · obtain ⟨ad, rfl, hsrc⟩ := hpos (by omega)
    have hrun := run_copy_row (P := Try.prog) w 91 91 op.type 5 b o dLen dCap ad sLen sCap cur.toArray t cs Try.underlying91 (by kernel_rfl) hg hn hsrc (by simpa using hfit) h1
    have e : (cur.toArray.toList.take o ++ cs ++ cur.toArray.toList.drop (o + cs.length)).toArray = (splice cur o cs).toArray := by simp [splice]
    rw [e] at hrun
    unfold Oper.wp
    simp [execOp, ho, resolve, invoke, builtin, hd, hs, hrun, Result.andThen]
    exact h
theorem wpList_store_rowL {ops : Array Oper} {rest : List Oper} {o : Oper} {a : Act} {w : World} {Q : Exit → Act → World → Prop} (hgd : o.guard = none) (ty : TypeId) (x y : Operand) (ho : o.op = .store ty x y)
    (g : Nat) (cells : Array Value) (hx : a.eval x = .pointer (some ⟨g, 0, none⟩)) (hy : a.eval y = .agg cells)
    (t : TypeId) (old : Array Value) (hg : w.heap[g]? = some (.cells old t (0, 0))) (hi : (Try.prog.info? ty).map (·.size) = some cells.size)
    (hold : old.size = cells.size) (h1 : cells.all (·.oneCell') = true)
    (h : ∀ W', W' = w.setRow g cells → wpList Try.prog ops Q rest (a.put o.dst undef) W') : wpList Try.prog ops Q (o :: rest) a w :=
  wpList_store_row hgd ty x y ho g cells hx hy t old hg hi hold h1 (h _ rfl)
theorem exec_build (ev : Operand → Value) (o : Oper) (t : TypeId) (parts : Array (Nat × Operand)) (vals : Array (Nat × Value)) (v : Value) (w : World) (ho : o.op = .build t parts) (hp : (parts.map fun (i, x) => (i, ev x)) = vals)
    (hr : (Instr.build t vals).run Try.prog w = .ok v w) : (execOp ev o).run Try.prog w = .ok (.value v) w := by
  unfold execOp
  simp only [ho, Sem.run_bind, hp, hr, Result.andThen_ok]
  rfl
theorem wpList_build {ops : Array Oper} {rest : List Oper} {o : Oper} {a : Act} {Q : Exit → Act → World → Prop} {w : World} (hgd : o.guard = none) (t : TypeId) (parts : Array (Nat × Operand)) (ho : o.op = .build t parts) (vals : Array (Nat × Value)) (v : Value) (hp : (parts.map fun (i, x) => (i, a.eval x)) = vals)
    (hr : (Instr.build t vals).run Try.prog w = .ok v w) (h : wpList Try.prog ops Q rest (a.put o.dst v) w) : wpList Try.prog ops Q (o :: rest) a w := by
  refine wpList_plain hgd fun K' hK' => ?_
  unfold Oper.wp
  rw [exec_build a.eval o t parts vals v w ho hp hr]
  exact hK' _ _ h

/-- The cells of a granule of noughts. -/
def Z128 : List UInt8 := List.replicate 128 0
theorem z128_len : Z128.length = 128 := List.length_replicate
def gV (l : List UInt8) : Value := .agg (l.map B8).toArray
theorem zero_gr (w : World) : (zeroValue 68).run Try.prog w = .ok (.agg (Z128.map B8).toArray) w := by kernel_rfl
theorem build_gr (w : World) : (Instr.build 68 #[]).run Try.prog w = .ok (.agg (Z128.map B8).toArray) w := by kernel_rfl
theorem infoGr : (Try.prog.info? 68).map (fun i => (i.zero, i.size, i.bytes)) = some (some (gV Z128), 128, 128) := by kernel_rfl
theorem info128 (l : List Value) (h : l.length = 128) : (Try.prog.info? 68).map (·.size) = some l.length := by rw [h]; kernel_rfl
theorem info128a (A : Array Value) (h : A.size = 128) : (Try.prog.info? 68).map (·.size) = some A.size := by rw [h]; kernel_rfl
theorem z128_get (i : Nat) (h : i < 128) : (Z128.map B8).toArray[i]? = some (B8 0) := by
  unfold Z128
  rw [List.getElem?_toArray, List.getElem?_map, List.getElem?_replicate, if_pos h]; rfl
theorem made_gr (n : Nat) : (madeCells (gV Z128).cells (n * 128)).toList = (List.replicate (128 * n) (0 : UInt8)).map B8 := by
  have hc : (gV Z128).cells = (Z128.map B8).toArray := rfl
  have hs : (Z128.map B8).toArray.size = 128 := by rw [List.size_toArray, List.length_map, z128_len]
  have hget : ∀ i (h : i < (Z128.map B8).toArray.size), (Z128.map B8).toArray[i] = B8 0 := fun i h => by
    have := z128_get i (by omega)
    rw [Array.getElem?_eq_getElem h] at this
    simpa using this
  rw [hc]
  generalize (Z128.map B8).toArray = C at *
  apply List.ext_getElem?
  intro j
  by_cases hj : j < n * 128
  · have h2 : j < 128 * n := by omega
    have h3 : j % 128 < C.size := by rw [hs]; exact Nat.mod_lt _ (by decide)
    have h4 : C[j % 128]! = B8 0 := by rw [getElem!_pos C _ h3]; exact hget _ h3
    simp [madeCells, hj, h2, hs, h4]
  · have h2 : ¬ j < 128 * n := by omega
    simp [madeCells, hj, h2]
/-- A granule of memory. -/
def getB (l : List UInt8) (g : Nat) : List UInt8 := (l.drop (128 * g)).take 128
theorem getB_len (l : List UInt8) (n g : Nat) (hl : l.length = 128 * n) (hg : g < n) : (getB l g).length = 128 := by unfold getB; rw [List.length_take, List.length_drop]; omega
theorem getB_map (l : List UInt8) (g : Nat) : ((l.map B8).drop (128 * g)).take 128 = (getB l g).map B8 := by unfold getB; rw [List.map_take, List.map_drop]
theorem results_gr2 {fn : Func} {p u : Tmp} (h : fn.results = #[.cell p 68, .tmp u]) (tmps : Array Value) (w : World) (g : Nat) (t : TypeId) (cs : Array Value) (fr : Nat × Nat) (x : Value)
    (hp : tmps.getD p undef = .pointer (some ⟨g, 0, none⟩)) (hx : tmps.getD u undef = x) (hg : w.heap[g]? = some (.cells cs t fr)) (hi : (Try.prog.info? 68).map (·.size) = some cs.size) :
    (results fn tmps).run Try.prog w = .ok (.tuple #[.agg cs, x]) w := by
  rw [results_cell_tmp h, hp, hx]
  simp [asAddr, run_loadVar_row w g t 68 cs fr _ hg Try.underlying68 rfl hi]

/-- What New hands back. -/
def NewEnd (w : World) (n : Nat) (e : Ending) (w' : World) : Prop := ∃ mb gb, e = .returned (.tuple #[.pointer (some ⟨mb, 0, none⟩), .int .i64 0]) ∧ PM w' mb gb n (List.replicate (128 * n) 0) ∧ w.heap.size ≤ mb ∧ w.heap.size ≤ gb ∧ Below w.heap.size w w'
set_option maxHeartbeats 1000000 in
set_option maxRecDepth 100000 in
theorem new_ok (n : Nat) (w : World) (h1 : 1 ≤ n) (h2 : n ≤ 4096) : Calls Try.prog 18 #[.int .i64 (n : Int)] w fun e w' => NewEnd w n e w' := by
  obtain ⟨i0, hi, hz0, hz1, hz2⟩ := info_parts infoGr
  have hr := made_gr n
  obtain ⟨ZC, hZC⟩ : ∃ V, V = (Z128.map B8).toArray := ⟨_, rfl⟩
  unfold gV at hr hz0
  rw [← hZC] at hr hz0
  clear hZC
  obtain ⟨MCS, hMC⟩ : ∃ M, M = (madeCells ZC (n * 128)).toList := ⟨_, rfl⟩
  have HZ : Hid (MCS = (List.replicate (128 * n) (0 : UInt8)).map B8) := by show _ = _; rw [hMC]; exact hr
  clear hr
  go_enter Try.func18, Try.ntmps18
  go_wp2_with (at_make; refine wpList_make_full _ rfl _ _ 25 rfl w.heap.size 68 i0 (.agg ZC) 128 Try.underlying25 hi hz0 hz1 _ _ _ _ n rfl rfl (by omega) (by omega) ?b2 ?b3 (Nat.le_refl _) ?_)
  case b2 => rw [hz2]; omega
  case b3 => unfold maxLen; omega
  rw [← hMC]
  clear hMC
  intro w0 hown0 hgrow0
  have HO : Hid _ := hown0
  have HG : Hid _ := hgrow0
  clear hown0 hgrow0
  go_wp2
  go_ret2
  have hb0 : Below w.heap.size w w0 := (Below.refl _ _).grown HG.out (Nat.le_refl _) (fun k h => by cases h)
  have ho := HO.out
  rcases ho.2 with ⟨e1, e2⟩ | ⟨g, cap, cur, e1, e2, e3, e4, e5, e6, e7⟩
  · simp at e1
  · simp only [Value.slice.injEq, Option.some.injEq, Addr.mk.injEq] at e1
    obtain ⟨⟨rfl, _, _⟩, _, rfl⟩ := e1
    have hgl := row_lt e3
    refine ⟨w0.heap.size, w.heap.size, rfl, ⟨heap_alloc_new _ _, ?_, by simp, h1, h2, by omega⟩, by omega, Nat.le_refl _, hb0.alloc hb0.size _⟩
    rw [Below.heap_alloc _ _ _ hgl, e3]
    congr 2
    rw [← Array.toList_inj, List.toList_toArray, ← HZ.out, ← e7]
    rw [List.take_of_length_le (by simp; omega)]
theorem new_bad (n : Int) (w : World) (h : n < 1 ∨ 4096 < n) : Calls Try.prog 18 #[.int .i64 n] w fun e w' => e = .returned (.tuple #[.pointer none, .int .i64 2]) ∧ w = w' := by
  by_cases h1 : n < 1
  · go_enter Try.func18, Try.ntmps18
    go_wp2
    go_ret2
    exact ⟨rfl, rfl⟩
  · have h2 : 4096 < n := by omega
    go_enter Try.func18, Try.ntmps18
    go_wp2
    go_ret2
    exact ⟨rfl, rfl⟩

end Go.Proofs.Ytnijjoankahddaa.MC
