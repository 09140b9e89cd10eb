/- granule: contract of Step. -/
import Derived.Test.YtpmbbnmpldeajaaKE
set_option linter.unusedVariables false
set_option linter.unusedSimpArgs false
namespace Go.Proofs.Ytpmbbnmpldeajaa.GC
open Go.RowKit

theorem run_store_seg (w : World) (b o : Nat) (ty t : TypeId) (cells : Array Value) (cur : List Value) (hg : w.heap[b]? = some (.cells cur.toArray t (0, 0))) (hi : (Try.prog.info? ty).map (·.size) = some cells.size) (hfit : o + cells.size ≤ cur.length) (h1 : cells.all (·.oneCell') = true) :
    (storeVar ty ⟨b, o, none⟩ (.agg cells)).run Try.prog w = .ok () (w.setRow b (splice cur o cells.toList).toArray) := by
  have h1' : ∀ v ∈ cells.toList, v.oneCell' = true := fun v hv => by
    rw [Array.all_eq_true_iff_forall_mem] at h1
    exact h1 v (by simpa using hv)
  have hst := run_storeCells_at Try.prog b o t cells.toList 0 cur.toArray w hg (by simpa using hfit) h1'
  have e : (cur.toArray.toList.take (o + 0) ++ cells.toList ++ cur.toArray.toList.drop (o + 0 + cells.toList.length)).toArray = (splice cur o cells.toList).toArray := by simp [splice]
  rw [e] at hst
  cases hq : Try.prog.info? ty with
  | none => simp [hq] at hi
  | some i =>
    have hs : cells.size = i.size := by simp [hq] at hi; omega
    simp [storeVar, sizeOf, typeInfo, hq, Value.cells, hs, hst]
theorem wp_store_seg {op : Oper} {a : Act} {w : World} {K : Act → World → Prop} {Q : Exit → Act → World → Prop} (ty : TypeId) (x y : Operand) (ho : op.op = .store ty x y)
    (b o : Nat) (cells : Array Value) (cur : List Value) (t : TypeId) (hx : a.eval x = .pointer (some ⟨b, o, none⟩)) (hy : a.eval y = .agg cells)
    (hg : w.heap[b]? = some (.cells cur.toArray t (0, 0))) (hi : (Try.prog.info? ty).map (·.size) = some cells.size) (hfit : o + cells.size ≤ cur.length) (h1 : cells.all (·.oneCell') = true)
    (h : K (a.put op.dst undef) (w.setRow b (splice cur o cells.toList).toArray)) : op.wp Try.prog a w K Q := by
  unfold Oper.wp execOp
  simp only [ho, hx, hy, Instr.storeAt, Instr.sureAddr, Sem.run_bind, Sem.run_pure, Result.andThen_ok, run_store_seg w b o ty t cells cur hg hi hfit h1]
  exact h
/-- Step's answer. -/
def stC (r : Rw) (f t : Int) (o : Nat) : Int := if mayB f t = true ∧ decide (2 ≤ t) = decide (o ≠ 0) then (if r.st = f then (if 0 < r.held ∧ f ≠ 1 then 9 else 0) else 7) else 2
/-- The row behind it. -/
def stR (r : Rw) (f t : Int) (o : Nat) : Rw := if stC r f t o = 0 then ⟨t, o, r.held⟩ else r
theorem set_self {l : List Rw} {g : Nat} {r : Rw} (h : l[g]? = some r) : l.set g r = l := by
  obtain ⟨hg, rfl⟩ := List.getElem?_eq_some_iff.1 h
  simp
theorem stR_no {r : Rw} {f t : Int} {o : Nat} (h : stC r f t o ≠ 0) : stR r f t o = r := if_neg h
def StpEnd (tb gb n : Nat) (l : List Rw) (c : Int) (w : World) (e : Ending) (w' : World) : Prop := e = .returned (.int .i64 c) ∧ PM w' tb gb n l ∧ KB gb w w'
set_option maxHeartbeats 2000000 in
theorem step_no (tb gb n g : Nat) (l : List Rw) (r : Rw) (f t : Int) (o : Nat) (w : World) (h : PM w tb gb n l) (hr : l[g]? = some r) (hwf : (Lit.int .i64 f).wf = true) (hwt : (Lit.int .i64 t).wf = true) (hno : mayB f t = false) :
    Calls Try.prog 20 #[.pointer (some ⟨tb, 0, none⟩), .int .i64 (g : Int), .int .i64 f, .int .i64 t, .int .u64 (o : Int)] w fun e w' => e = .returned (.int .i64 2) ∧ Below w.heap.size w w' := by
  have HNO : Hid _ := hno
  clear hno
  have hg : g < n := by rw [← h.len]; exact (List.getElem?_eq_some_iff.1 hr).1
  have hf := fault_any tb n n _ (g : Int) w h.cell h.pos
  rw [gF_nat hg] at hf
  have HF : Hid _ := hf
  obtain ⟨hc0, hc1, hc2⟩ := range_cells (range_row h.row.range hr)
  have hc := h.cell
  have hn4 := h.le
  have HPM : Hid _ := h
  have HR : Hid _ := hr
  have HWF : Hid _ := hwf
  have HWT : Hid _ := hwt
  have hgb := h.row.lt
  obtain ⟨st, ow, held⟩ := r
  clear hf h hr hwf hwt
  go_enter Try.func20, Try.ntmps20
  go_wp2_with fail
  refine Calls.mono HF.out ?_
  rintro e w1 ⟨rfl, rfl⟩
  go_wp2_with fail
  refine Calls.mono (steps_any _) ?_
  rintro e w2 ⟨mb, rfl, hM, hmb, hb2⟩
  have hlk := sm_look hM f t HWF.out HWT.out
  unfold kV sV at hlk
  have hb1 : Below w.heap.size w (w.alloc (.cells #[.int .i64 st, .int .u64 (ow : Int), .int .i64 (held : Int)] 43 (0, 0))) := (Below.refl _ _).alloc (Nat.le_refl _) _
  have hbw : Below w.heap.size w w2 := hb1.trans (hb2.mono hb1.size)
  have hrw : w2.heap[w.heap.size]? = some (.cells #[.int .i64 st, .int .u64 (ow : Int), .int .i64 (held : Int)] 43 (0, 0)) := (hb2.block _ (by simp)).trans (heap_alloc_new _ _)
  obtain ⟨hr0, hr1, hr2⟩ : w2.cell? ⟨w.heap.size, 0, none⟩ = some (.int .i64 st) ∧ w2.cell? ⟨w.heap.size, 1, none⟩ = some (.int .u64 (ow : Int)) ∧ w2.cell? ⟨w.heap.size, 2, none⟩ = some (.int .i64 (held : Int)) := ⟨(cell_of_row _ _ 0 _ _ _ hrw).trans rfl, (cell_of_row _ _ 1 _ _ _ hrw).trans rfl, (cell_of_row _ _ 2 _ _ _ hrw).trans rfl⟩
  have HBW : Hid _ := hbw
  have HRW : Hid _ := hrw
  have hs2 := hbw.size
  rw [HNO.out] at hlk
  generalize owB f t = OW at *
  generalize loB f t = LO at *
  clear hM hb1 hb2 hbw hrw
  go_wp2
  go_ret
  exact ⟨rfl, HBW.out.alloc HBW.out.size _⟩
set_option maxHeartbeats 2000000 in
theorem step_own (tb gb n g : Nat) (l : List Rw) (r : Rw) (f t : Int) (o : Nat) (w : World) (h : PM w tb gb n l) (hr : l[g]? = some r) (hwf : (Lit.int .i64 f).wf = true) (hwt : (Lit.int .i64 t).wf = true) (hmy : mayB f t = true) (how : decide (2 ≤ t) ≠ ((o : Int) != 0)) :
    Calls Try.prog 20 #[.pointer (some ⟨tb, 0, none⟩), .int .i64 (g : Int), .int .i64 f, .int .i64 t, .int .u64 (o : Int)] w fun e w' => e = .returned (.int .i64 2) ∧ Below w.heap.size w w' := by
  obtain ⟨OB, hOB⟩ : ∃ OB, ((o : Int) != 0) = OB := ⟨_, rfl⟩
  rw [hOB] at how
  have HMY : Hid _ := hmy
  have HOW : Hid (owB f t = decide (2 ≤ t)) := owB_yes hmy
  have HLO : Hid (loB f t = decide (f ≠ 1)) := loB_yes hmy
  generalize decide (2 ≤ t) = OW at *
  generalize decide (f ≠ 1) = LO at *
  clear hmy
  cases OW <;> cases OB
  · exact absurd rfl how
  · clear how
    have hg : g < n := by rw [← h.len]; exact (List.getElem?_eq_some_iff.1 hr).1
    have hf := fault_any tb n n _ (g : Int) w h.cell h.pos
    rw [gF_nat hg] at hf
    have HF : Hid _ := hf
    obtain ⟨hc0, hc1, hc2⟩ := range_cells (range_row h.row.range hr)
    have hc := h.cell
    have hn4 := h.le
    have HPM : Hid _ := h
    have HR : Hid _ := hr
    have HWF : Hid _ := hwf
    have HWT : Hid _ := hwt
    have hgb := h.row.lt
    obtain ⟨st, ow, held⟩ := r
    clear hf h hr hwf hwt
    go_enter Try.func20, Try.ntmps20
    go_wp2_with fail
    refine Calls.mono HF.out ?_
    rintro e w1 ⟨rfl, rfl⟩
    go_wp2_with fail
    refine Calls.mono (steps_any _) ?_
    rintro e w2 ⟨mb, rfl, hM, hmb, hb2⟩
    have hlk := sm_look hM f t HWF.out HWT.out
    unfold kV sV at hlk
    have hb1 : Below w.heap.size w (w.alloc (.cells #[.int .i64 st, .int .u64 (ow : Int), .int .i64 (held : Int)] 43 (0, 0))) := (Below.refl _ _).alloc (Nat.le_refl _) _
    have hbw : Below w.heap.size w w2 := hb1.trans (hb2.mono hb1.size)
    have hrw : w2.heap[w.heap.size]? = some (.cells #[.int .i64 st, .int .u64 (ow : Int), .int .i64 (held : Int)] 43 (0, 0)) := (hb2.block _ (by simp)).trans (heap_alloc_new _ _)
    obtain ⟨hr0, hr1, hr2⟩ : w2.cell? ⟨w.heap.size, 0, none⟩ = some (.int .i64 st) ∧ w2.cell? ⟨w.heap.size, 1, none⟩ = some (.int .u64 (ow : Int)) ∧ w2.cell? ⟨w.heap.size, 2, none⟩ = some (.int .i64 (held : Int)) := ⟨(cell_of_row _ _ 0 _ _ _ hrw).trans rfl, (cell_of_row _ _ 1 _ _ _ hrw).trans rfl, (cell_of_row _ _ 2 _ _ _ hrw).trans rfl⟩
    have HBW : Hid _ := hbw
    have HRW : Hid _ := hrw
    have hs2 := hbw.size
    rw [HMY.out, HOW.out, HLO.out] at hlk
    have hra : (w2.alloc (.cells #[.bool false, .bool LO] 58 (0, 0))).heap[w.heap.size]? = some (.cells #[.int .i64 st, .int .u64 (ow : Int), .int .i64 (held : Int)] 43 (0, 0)) := (Below.heap_alloc _ _ _ (row_lt hrw)).trans hrw
    clear hr0 hr1 hr2
    obtain ⟨hr0, hr1, hr2⟩ : (w2.alloc (.cells #[.bool false, .bool LO] 58 (0, 0))).cell? ⟨w.heap.size, 0, none⟩ = some (.int .i64 st) ∧ (w2.alloc (.cells #[.bool false, .bool LO] 58 (0, 0))).cell? ⟨w.heap.size, 1, none⟩ = some (.int .u64 (ow : Int)) ∧ (w2.alloc (.cells #[.bool false, .bool LO] 58 (0, 0))).cell? ⟨w.heap.size, 2, none⟩ = some (.int .i64 (held : Int)) := ⟨(cell_of_row _ _ 0 _ _ _ hra).trans rfl, (cell_of_row _ _ 1 _ _ _ hra).trans rfl, (cell_of_row _ _ 2 _ _ _ hra).trans rfl⟩
    clear hM hb1 hb2 hbw hrw hra
    go_wp2
    go_ret
    exact ⟨rfl, HBW.out.alloc HBW.out.size _⟩
  · clear how
    have hg : g < n := by rw [← h.len]; exact (List.getElem?_eq_some_iff.1 hr).1
    have hf := fault_any tb n n _ (g : Int) w h.cell h.pos
    rw [gF_nat hg] at hf
    have HF : Hid _ := hf
    obtain ⟨hc0, hc1, hc2⟩ := range_cells (range_row h.row.range hr)
    have hc := h.cell
    have hn4 := h.le
    have HPM : Hid _ := h
    have HR : Hid _ := hr
    have HWF : Hid _ := hwf
    have HWT : Hid _ := hwt
    have hgb := h.row.lt
    obtain ⟨st, ow, held⟩ := r
    clear hf h hr hwf hwt
    go_enter Try.func20, Try.ntmps20
    go_wp2_with fail
    refine Calls.mono HF.out ?_
    rintro e w1 ⟨rfl, rfl⟩
    go_wp2_with fail
    refine Calls.mono (steps_any _) ?_
    rintro e w2 ⟨mb, rfl, hM, hmb, hb2⟩
    have hlk := sm_look hM f t HWF.out HWT.out
    unfold kV sV at hlk
    have hb1 : Below w.heap.size w (w.alloc (.cells #[.int .i64 st, .int .u64 (ow : Int), .int .i64 (held : Int)] 43 (0, 0))) := (Below.refl _ _).alloc (Nat.le_refl _) _
    have hbw : Below w.heap.size w w2 := hb1.trans (hb2.mono hb1.size)
    have hrw : w2.heap[w.heap.size]? = some (.cells #[.int .i64 st, .int .u64 (ow : Int), .int .i64 (held : Int)] 43 (0, 0)) := (hb2.block _ (by simp)).trans (heap_alloc_new _ _)
    obtain ⟨hr0, hr1, hr2⟩ : w2.cell? ⟨w.heap.size, 0, none⟩ = some (.int .i64 st) ∧ w2.cell? ⟨w.heap.size, 1, none⟩ = some (.int .u64 (ow : Int)) ∧ w2.cell? ⟨w.heap.size, 2, none⟩ = some (.int .i64 (held : Int)) := ⟨(cell_of_row _ _ 0 _ _ _ hrw).trans rfl, (cell_of_row _ _ 1 _ _ _ hrw).trans rfl, (cell_of_row _ _ 2 _ _ _ hrw).trans rfl⟩
    have HBW : Hid _ := hbw
    have HRW : Hid _ := hrw
    have hs2 := hbw.size
    rw [HMY.out, HOW.out, HLO.out] at hlk
    have hra : (w2.alloc (.cells #[.bool true, .bool LO] 58 (0, 0))).heap[w.heap.size]? = some (.cells #[.int .i64 st, .int .u64 (ow : Int), .int .i64 (held : Int)] 43 (0, 0)) := (Below.heap_alloc _ _ _ (row_lt hrw)).trans hrw
    clear hr0 hr1 hr2
    obtain ⟨hr0, hr1, hr2⟩ : (w2.alloc (.cells #[.bool true, .bool LO] 58 (0, 0))).cell? ⟨w.heap.size, 0, none⟩ = some (.int .i64 st) ∧ (w2.alloc (.cells #[.bool true, .bool LO] 58 (0, 0))).cell? ⟨w.heap.size, 1, none⟩ = some (.int .u64 (ow : Int)) ∧ (w2.alloc (.cells #[.bool true, .bool LO] 58 (0, 0))).cell? ⟨w.heap.size, 2, none⟩ = some (.int .i64 (held : Int)) := ⟨(cell_of_row _ _ 0 _ _ _ hra).trans rfl, (cell_of_row _ _ 1 _ _ _ hra).trans rfl, (cell_of_row _ _ 2 _ _ _ hra).trans rfl⟩
    clear hM hb1 hb2 hbw hrw hra
    go_wp2
    go_ret
    exact ⟨rfl, HBW.out.alloc HBW.out.size _⟩
  · exact absurd rfl how
set_option maxHeartbeats 2000000 in
theorem step_state (tb gb n g : Nat) (l : List Rw) (r : Rw) (f t : Int) (o : Nat) (w : World) (h : PM w tb gb n l) (hr : l[g]? = some r) (hwf : (Lit.int .i64 f).wf = true) (hwt : (Lit.int .i64 t).wf = true) (hmy : mayB f t = true) (how : decide (2 ≤ t) = ((o : Int) != 0)) (hst : r.st ≠ f) :
    Calls Try.prog 20 #[.pointer (some ⟨tb, 0, none⟩), .int .i64 (g : Int), .int .i64 f, .int .i64 t, .int .u64 (o : Int)] w fun e w' => e = .returned (.int .i64 7) ∧ Below w.heap.size w w' := by
  obtain ⟨OB, hOB⟩ : ∃ OB, ((o : Int) != 0) = OB := ⟨_, rfl⟩
  rw [hOB] at how
  have hsI : (r.st != f) = true := by simpa using hst
  clear hst
  have HMY : Hid _ := hmy
  have HOW : Hid (owB f t = decide (2 ≤ t)) := owB_yes hmy
  have HLO : Hid (loB f t = decide (f ≠ 1)) := loB_yes hmy
  generalize decide (2 ≤ t) = OW at *
  generalize decide (f ≠ 1) = LO at *
  clear hmy
  subst how
  cases OW
  · skip
    have hg : g < n := by rw [← h.len]; exact (List.getElem?_eq_some_iff.1 hr).1
    have hf := fault_any tb n n _ (g : Int) w h.cell h.pos
    rw [gF_nat hg] at hf
    have HF : Hid _ := hf
    obtain ⟨hc0, hc1, hc2⟩ := range_cells (range_row h.row.range hr)
    have hc := h.cell
    have hn4 := h.le
    have HPM : Hid _ := h
    have HR : Hid _ := hr
    have HWF : Hid _ := hwf
    have HWT : Hid _ := hwt
    have hgb := h.row.lt
    obtain ⟨st, ow, held⟩ := r
    clear hf h hr hwf hwt
    go_enter Try.func20, Try.ntmps20
    go_wp2_with fail
    refine Calls.mono HF.out ?_
    rintro e w1 ⟨rfl, rfl⟩
    go_wp2_with fail
    refine Calls.mono (steps_any _) ?_
    rintro e w2 ⟨mb, rfl, hM, hmb, hb2⟩
    have hlk := sm_look hM f t HWF.out HWT.out
    unfold kV sV at hlk
    have hb1 : Below w.heap.size w (w.alloc (.cells #[.int .i64 st, .int .u64 (ow : Int), .int .i64 (held : Int)] 43 (0, 0))) := (Below.refl _ _).alloc (Nat.le_refl _) _
    have hbw : Below w.heap.size w w2 := hb1.trans (hb2.mono hb1.size)
    have hrw : w2.heap[w.heap.size]? = some (.cells #[.int .i64 st, .int .u64 (ow : Int), .int .i64 (held : Int)] 43 (0, 0)) := (hb2.block _ (by simp)).trans (heap_alloc_new _ _)
    obtain ⟨hr0, hr1, hr2⟩ : w2.cell? ⟨w.heap.size, 0, none⟩ = some (.int .i64 st) ∧ w2.cell? ⟨w.heap.size, 1, none⟩ = some (.int .u64 (ow : Int)) ∧ w2.cell? ⟨w.heap.size, 2, none⟩ = some (.int .i64 (held : Int)) := ⟨(cell_of_row _ _ 0 _ _ _ hrw).trans rfl, (cell_of_row _ _ 1 _ _ _ hrw).trans rfl, (cell_of_row _ _ 2 _ _ _ hrw).trans rfl⟩
    have HBW : Hid _ := hbw
    have HRW : Hid _ := hrw
    have hs2 := hbw.size
    rw [HMY.out, HOW.out, HLO.out] at hlk
    have hra : (w2.alloc (.cells #[.bool false, .bool LO] 58 (0, 0))).heap[w.heap.size]? = some (.cells #[.int .i64 st, .int .u64 (ow : Int), .int .i64 (held : Int)] 43 (0, 0)) := (Below.heap_alloc _ _ _ (row_lt hrw)).trans hrw
    clear hr0 hr1 hr2
    obtain ⟨hr0, hr1, hr2⟩ : (w2.alloc (.cells #[.bool false, .bool LO] 58 (0, 0))).cell? ⟨w.heap.size, 0, none⟩ = some (.int .i64 st) ∧ (w2.alloc (.cells #[.bool false, .bool LO] 58 (0, 0))).cell? ⟨w.heap.size, 1, none⟩ = some (.int .u64 (ow : Int)) ∧ (w2.alloc (.cells #[.bool false, .bool LO] 58 (0, 0))).cell? ⟨w.heap.size, 2, none⟩ = some (.int .i64 (held : Int)) := ⟨(cell_of_row _ _ 0 _ _ _ hra).trans rfl, (cell_of_row _ _ 1 _ _ _ hra).trans rfl, (cell_of_row _ _ 2 _ _ _ hra).trans rfl⟩
    clear hM hb1 hb2 hbw hrw hra
    go_wp2
    go_ret
    exact ⟨rfl, HBW.out.alloc HBW.out.size _⟩
  · skip
    have hg : g < n := by rw [← h.len]; exact (List.getElem?_eq_some_iff.1 hr).1
    have hf := fault_any tb n n _ (g : Int) w h.cell h.pos
    rw [gF_nat hg] at hf
    have HF : Hid _ := hf
    obtain ⟨hc0, hc1, hc2⟩ := range_cells (range_row h.row.range hr)
    have hc := h.cell
    have hn4 := h.le
    have HPM : Hid _ := h
    have HR : Hid _ := hr
    have HWF : Hid _ := hwf
    have HWT : Hid _ := hwt
    have hgb := h.row.lt
    obtain ⟨st, ow, held⟩ := r
    clear hf h hr hwf hwt
    go_enter Try.func20, Try.ntmps20
    go_wp2_with fail
    refine Calls.mono HF.out ?_
    rintro e w1 ⟨rfl, rfl⟩
    go_wp2_with fail
    refine Calls.mono (steps_any _) ?_
    rintro e w2 ⟨mb, rfl, hM, hmb, hb2⟩
    have hlk := sm_look hM f t HWF.out HWT.out
    unfold kV sV at hlk
    have hb1 : Below w.heap.size w (w.alloc (.cells #[.int .i64 st, .int .u64 (ow : Int), .int .i64 (held : Int)] 43 (0, 0))) := (Below.refl _ _).alloc (Nat.le_refl _) _
    have hbw : Below w.heap.size w w2 := hb1.trans (hb2.mono hb1.size)
    have hrw : w2.heap[w.heap.size]? = some (.cells #[.int .i64 st, .int .u64 (ow : Int), .int .i64 (held : Int)] 43 (0, 0)) := (hb2.block _ (by simp)).trans (heap_alloc_new _ _)
    obtain ⟨hr0, hr1, hr2⟩ : w2.cell? ⟨w.heap.size, 0, none⟩ = some (.int .i64 st) ∧ w2.cell? ⟨w.heap.size, 1, none⟩ = some (.int .u64 (ow : Int)) ∧ w2.cell? ⟨w.heap.size, 2, none⟩ = some (.int .i64 (held : Int)) := ⟨(cell_of_row _ _ 0 _ _ _ hrw).trans rfl, (cell_of_row _ _ 1 _ _ _ hrw).trans rfl, (cell_of_row _ _ 2 _ _ _ hrw).trans rfl⟩
    have HBW : Hid _ := hbw
    have HRW : Hid _ := hrw
    have hs2 := hbw.size
    rw [HMY.out, HOW.out, HLO.out] at hlk
    have hra : (w2.alloc (.cells #[.bool true, .bool LO] 58 (0, 0))).heap[w.heap.size]? = some (.cells #[.int .i64 st, .int .u64 (ow : Int), .int .i64 (held : Int)] 43 (0, 0)) := (Below.heap_alloc _ _ _ (row_lt hrw)).trans hrw
    clear hr0 hr1 hr2
    obtain ⟨hr0, hr1, hr2⟩ : (w2.alloc (.cells #[.bool true, .bool LO] 58 (0, 0))).cell? ⟨w.heap.size, 0, none⟩ = some (.int .i64 st) ∧ (w2.alloc (.cells #[.bool true, .bool LO] 58 (0, 0))).cell? ⟨w.heap.size, 1, none⟩ = some (.int .u64 (ow : Int)) ∧ (w2.alloc (.cells #[.bool true, .bool LO] 58 (0, 0))).cell? ⟨w.heap.size, 2, none⟩ = some (.int .i64 (held : Int)) := ⟨(cell_of_row _ _ 0 _ _ _ hra).trans rfl, (cell_of_row _ _ 1 _ _ _ hra).trans rfl, (cell_of_row _ _ 2 _ _ _ hra).trans rfl⟩
    clear hM hb1 hb2 hbw hrw hra
    go_wp2
    go_ret
    exact ⟨rfl, HBW.out.alloc HBW.out.size _⟩
set_option maxHeartbeats 2000000 in
theorem step_use (tb gb n g : Nat) (l : List Rw) (r : Rw) (f t : Int) (o : Nat) (w : World) (h : PM w tb gb n l) (hr : l[g]? = some r) (hwf : (Lit.int .i64 f).wf = true) (hwt : (Lit.int .i64 t).wf = true) (hmy : mayB f t = true) (how : decide (2 ≤ t) = ((o : Int) != 0)) (hst : r.st = f) (hh : 0 < r.held) (hf1 : f ≠ 1) :
    Calls Try.prog 20 #[.pointer (some ⟨tb, 0, none⟩), .int .i64 (g : Int), .int .i64 f, .int .i64 t, .int .u64 (o : Int)] w fun e w' => e = .returned (.int .i64 9) ∧ Below w.heap.size w w' := by
  obtain ⟨OB, hOB⟩ : ∃ OB, ((o : Int) != 0) = OB := ⟨_, rfl⟩
  rw [hOB] at how
  have hsI : (r.st != f) = false := by simpa using hst
  have hhI : (0 : Int) < (r.held : Int) := by omega
  have HL1 : Hid (decide (f ≠ 1) = true) := by show _ = _; simpa using hf1
  clear hst hf1
  have HMY : Hid _ := hmy
  have HOW : Hid (owB f t = decide (2 ≤ t)) := owB_yes hmy
  have HLO : Hid (loB f t = decide (f ≠ 1)) := loB_yes hmy
  generalize decide (2 ≤ t) = OW at *
  generalize decide (f ≠ 1) = LO at *
  clear hmy
  have hl1 := HL1.out
  subst hl1
  subst how
  cases OW
  · skip
    have hg : g < n := by rw [← h.len]; exact (List.getElem?_eq_some_iff.1 hr).1
    have hf := fault_any tb n n _ (g : Int) w h.cell h.pos
    rw [gF_nat hg] at hf
    have HF : Hid _ := hf
    obtain ⟨hc0, hc1, hc2⟩ := range_cells (range_row h.row.range hr)
    have hc := h.cell
    have hn4 := h.le
    have HPM : Hid _ := h
    have HR : Hid _ := hr
    have HWF : Hid _ := hwf
    have HWT : Hid _ := hwt
    have hgb := h.row.lt
    obtain ⟨st, ow, held⟩ := r
    clear hf h hr hwf hwt
    go_enter Try.func20, Try.ntmps20
    go_wp2_with fail
    refine Calls.mono HF.out ?_
    rintro e w1 ⟨rfl, rfl⟩
    go_wp2_with fail
    refine Calls.mono (steps_any _) ?_
    rintro e w2 ⟨mb, rfl, hM, hmb, hb2⟩
    have hlk := sm_look hM f t HWF.out HWT.out
    unfold kV sV at hlk
    have hb1 : Below w.heap.size w (w.alloc (.cells #[.int .i64 st, .int .u64 (ow : Int), .int .i64 (held : Int)] 43 (0, 0))) := (Below.refl _ _).alloc (Nat.le_refl _) _
    have hbw : Below w.heap.size w w2 := hb1.trans (hb2.mono hb1.size)
    have hrw : w2.heap[w.heap.size]? = some (.cells #[.int .i64 st, .int .u64 (ow : Int), .int .i64 (held : Int)] 43 (0, 0)) := (hb2.block _ (by simp)).trans (heap_alloc_new _ _)
    obtain ⟨hr0, hr1, hr2⟩ : w2.cell? ⟨w.heap.size, 0, none⟩ = some (.int .i64 st) ∧ w2.cell? ⟨w.heap.size, 1, none⟩ = some (.int .u64 (ow : Int)) ∧ w2.cell? ⟨w.heap.size, 2, none⟩ = some (.int .i64 (held : Int)) := ⟨(cell_of_row _ _ 0 _ _ _ hrw).trans rfl, (cell_of_row _ _ 1 _ _ _ hrw).trans rfl, (cell_of_row _ _ 2 _ _ _ hrw).trans rfl⟩
    have HBW : Hid _ := hbw
    have HRW : Hid _ := hrw
    have hs2 := hbw.size
    rw [HMY.out, HOW.out, HLO.out] at hlk
    have hra : (w2.alloc (.cells #[.bool false, .bool true] 58 (0, 0))).heap[w.heap.size]? = some (.cells #[.int .i64 st, .int .u64 (ow : Int), .int .i64 (held : Int)] 43 (0, 0)) := (Below.heap_alloc _ _ _ (row_lt hrw)).trans hrw
    clear hr0 hr1 hr2
    obtain ⟨hr0, hr1, hr2⟩ : (w2.alloc (.cells #[.bool false, .bool true] 58 (0, 0))).cell? ⟨w.heap.size, 0, none⟩ = some (.int .i64 st) ∧ (w2.alloc (.cells #[.bool false, .bool true] 58 (0, 0))).cell? ⟨w.heap.size, 1, none⟩ = some (.int .u64 (ow : Int)) ∧ (w2.alloc (.cells #[.bool false, .bool true] 58 (0, 0))).cell? ⟨w.heap.size, 2, none⟩ = some (.int .i64 (held : Int)) := ⟨(cell_of_row _ _ 0 _ _ _ hra).trans rfl, (cell_of_row _ _ 1 _ _ _ hra).trans rfl, (cell_of_row _ _ 2 _ _ _ hra).trans rfl⟩
    clear hM hb1 hb2 hbw hrw hra
    go_wp2
    go_ret
    exact ⟨rfl, HBW.out.alloc HBW.out.size _⟩
  · skip
    have hg : g < n := by rw [← h.len]; exact (List.getElem?_eq_some_iff.1 hr).1
    have hf := fault_any tb n n _ (g : Int) w h.cell h.pos
    rw [gF_nat hg] at hf
    have HF : Hid _ := hf
    obtain ⟨hc0, hc1, hc2⟩ := range_cells (range_row h.row.range hr)
    have hc := h.cell
    have hn4 := h.le
    have HPM : Hid _ := h
    have HR : Hid _ := hr
    have HWF : Hid _ := hwf
    have HWT : Hid _ := hwt
    have hgb := h.row.lt
    obtain ⟨st, ow, held⟩ := r
    clear hf h hr hwf hwt
    go_enter Try.func20, Try.ntmps20
    go_wp2_with fail
    refine Calls.mono HF.out ?_
    rintro e w1 ⟨rfl, rfl⟩
    go_wp2_with fail
    refine Calls.mono (steps_any _) ?_
    rintro e w2 ⟨mb, rfl, hM, hmb, hb2⟩
    have hlk := sm_look hM f t HWF.out HWT.out
    unfold kV sV at hlk
    have hb1 : Below w.heap.size w (w.alloc (.cells #[.int .i64 st, .int .u64 (ow : Int), .int .i64 (held : Int)] 43 (0, 0))) := (Below.refl _ _).alloc (Nat.le_refl _) _
    have hbw : Below w.heap.size w w2 := hb1.trans (hb2.mono hb1.size)
    have hrw : w2.heap[w.heap.size]? = some (.cells #[.int .i64 st, .int .u64 (ow : Int), .int .i64 (held : Int)] 43 (0, 0)) := (hb2.block _ (by simp)).trans (heap_alloc_new _ _)
    obtain ⟨hr0, hr1, hr2⟩ : w2.cell? ⟨w.heap.size, 0, none⟩ = some (.int .i64 st) ∧ w2.cell? ⟨w.heap.size, 1, none⟩ = some (.int .u64 (ow : Int)) ∧ w2.cell? ⟨w.heap.size, 2, none⟩ = some (.int .i64 (held : Int)) := ⟨(cell_of_row _ _ 0 _ _ _ hrw).trans rfl, (cell_of_row _ _ 1 _ _ _ hrw).trans rfl, (cell_of_row _ _ 2 _ _ _ hrw).trans rfl⟩
    have HBW : Hid _ := hbw
    have HRW : Hid _ := hrw
    have hs2 := hbw.size
    rw [HMY.out, HOW.out, HLO.out] at hlk
    have hra : (w2.alloc (.cells #[.bool true, .bool true] 58 (0, 0))).heap[w.heap.size]? = some (.cells #[.int .i64 st, .int .u64 (ow : Int), .int .i64 (held : Int)] 43 (0, 0)) := (Below.heap_alloc _ _ _ (row_lt hrw)).trans hrw
    clear hr0 hr1 hr2
    obtain ⟨hr0, hr1, hr2⟩ : (w2.alloc (.cells #[.bool true, .bool true] 58 (0, 0))).cell? ⟨w.heap.size, 0, none⟩ = some (.int .i64 st) ∧ (w2.alloc (.cells #[.bool true, .bool true] 58 (0, 0))).cell? ⟨w.heap.size, 1, none⟩ = some (.int .u64 (ow : Int)) ∧ (w2.alloc (.cells #[.bool true, .bool true] 58 (0, 0))).cell? ⟨w.heap.size, 2, none⟩ = some (.int .i64 (held : Int)) := ⟨(cell_of_row _ _ 0 _ _ _ hra).trans rfl, (cell_of_row _ _ 1 _ _ _ hra).trans rfl, (cell_of_row _ _ 2 _ _ _ hra).trans rfl⟩
    clear hM hb1 hb2 hbw hrw hra
    go_wp2
    go_ret
    exact ⟨rfl, HBW.out.alloc HBW.out.size _⟩
set_option maxHeartbeats 2000000 in
theorem step_done (tb gb n g : Nat) (l : List Rw) (r : Rw) (f t : Int) (o : Nat) (w : World) (h : PM w tb gb n l) (hr : l[g]? = some r) (hwf : (Lit.int .i64 f).wf = true) (hwt : (Lit.int .i64 t).wf = true) (hmy : mayB f t = true) (how : decide (2 ≤ t) = ((o : Int) != 0)) (hst : r.st = f) (hh : ¬ (0 < r.held ∧ f ≠ 1)) :
    Calls Try.prog 20 #[.pointer (some ⟨tb, 0, none⟩), .int .i64 (g : Int), .int .i64 f, .int .i64 t, .int .u64 (o : Int)] w fun e w' => StpEnd tb gb n (l.set g ⟨t, o, r.held⟩) 0 w e w' := by
  obtain ⟨OB, hOB⟩ : ∃ OB, ((o : Int) != 0) = OB := ⟨_, rfl⟩
  rw [hOB] at how
  have hsI : (r.st != f) = false := by simpa using hst
  by_cases hf1 : f = 1
  · have HL1 : Hid (decide (f ≠ 1) = false) := by show _ = _; simpa using hf1
    clear hst hf1 hh
    have HMY : Hid _ := hmy
    have HOW : Hid (owB f t = decide (2 ≤ t)) := owB_yes hmy
    have HLO : Hid (loB f t = decide (f ≠ 1)) := loB_yes hmy
    generalize decide (2 ≤ t) = OW at *
    generalize decide (f ≠ 1) = LO at *
    clear hmy
    have hl1 := HL1.out
    subst hl1
    subst how
    have hg : g < n := by rw [← h.len]; exact (List.getElem?_eq_some_iff.1 hr).1
    have hf := fault_any tb n n _ (g : Int) w h.cell h.pos
    rw [gF_nat hg] at hf
    have HF : Hid _ := hf
    obtain ⟨hc0, hc1, hc2⟩ := range_cells (range_row h.row.range hr)
    have hc := h.cell
    have hn4 := h.le
    have HPM : Hid _ := h
    have HR : Hid _ := hr
    have HWF : Hid _ := hwf
    have HWT : Hid _ := hwt
    have hgb := h.row.lt
    obtain ⟨st, ow, held⟩ := r
    clear hf h hr hwf hwt
    go_enter Try.func20, Try.ntmps20
    go_wp2_with fail
    refine Calls.mono HF.out ?_
    rintro e w1 ⟨rfl, rfl⟩
    go_wp2_with fail
    refine Calls.mono (steps_any _) ?_
    rintro e w2 ⟨mb, rfl, hM, hmb, hb2⟩
    have hlk := sm_look hM f t HWF.out HWT.out
    unfold kV sV at hlk
    have hb1 : Below w.heap.size w (w.alloc (.cells #[.int .i64 st, .int .u64 (ow : Int), .int .i64 (held : Int)] 43 (0, 0))) := (Below.refl _ _).alloc (Nat.le_refl _) _
    have hbw : Below w.heap.size w w2 := hb1.trans (hb2.mono hb1.size)
    have hrw : w2.heap[w.heap.size]? = some (.cells #[.int .i64 st, .int .u64 (ow : Int), .int .i64 (held : Int)] 43 (0, 0)) := (hb2.block _ (by simp)).trans (heap_alloc_new _ _)
    obtain ⟨hr0, hr1, hr2⟩ : w2.cell? ⟨w.heap.size, 0, none⟩ = some (.int .i64 st) ∧ w2.cell? ⟨w.heap.size, 1, none⟩ = some (.int .u64 (ow : Int)) ∧ w2.cell? ⟨w.heap.size, 2, none⟩ = some (.int .i64 (held : Int)) := ⟨(cell_of_row _ _ 0 _ _ _ hrw).trans rfl, (cell_of_row _ _ 1 _ _ _ hrw).trans rfl, (cell_of_row _ _ 2 _ _ _ hrw).trans rfl⟩
    have HBW : Hid _ := hbw
    have HRW : Hid _ := hrw
    have hs2 := hbw.size
    rw [HMY.out, HOW.out, HLO.out] at hlk
    have hra : (w2.alloc (.cells #[.bool OW, .bool false] 58 (0, 0))).heap[w.heap.size]? = some (.cells #[.int .i64 st, .int .u64 (ow : Int), .int .i64 (held : Int)] 43 (0, 0)) := (Below.heap_alloc _ _ _ (row_lt hrw)).trans hrw
    clear hr0 hr1 hr2
    obtain ⟨hr0, hr1, hr2⟩ : (w2.alloc (.cells #[.bool OW, .bool false] 58 (0, 0))).cell? ⟨w.heap.size, 0, none⟩ = some (.int .i64 st) ∧ (w2.alloc (.cells #[.bool OW, .bool false] 58 (0, 0))).cell? ⟨w.heap.size, 1, none⟩ = some (.int .u64 (ow : Int)) ∧ (w2.alloc (.cells #[.bool OW, .bool false] 58 (0, 0))).cell? ⟨w.heap.size, 2, none⟩ = some (.int .i64 (held : Int)) := ⟨(cell_of_row _ _ 0 _ _ _ hra).trans rfl, (cell_of_row _ _ 1 _ _ _ hra).trans rfl, (cell_of_row _ _ 2 _ _ _ hra).trans rfl⟩
    clear hM hb1 hb2 hbw hrw hra
    obtain ⟨W3, hW3⟩ : ∃ W3, W3 = w2.alloc (.cells #[.bool OW, .bool false] 58 (0, 0)) := ⟨_, rfl⟩
    have hb3 : Below w.heap.size w W3 := by rw [hW3]; exact HBW.out.alloc HBW.out.size _
    have hP3 := HPM.out.below hb3
    have HP3 : Hid (PM W3 tb gb n l) := hP3
    have HK3 : Hid (KB gb w W3) := KB.of (by omega) hb3
    have HC3 : Hid (W3.cell? ⟨w.heap.size, 2, none⟩ = some (.int .i64 (held : Int))) := by rw [hW3]; exact hr2
    have hs3 : W3.heap.size = w2.heap.size + 1 := by rw [hW3]; simp
    have hsz : w.heap.size < w2.heap.size := row_lt HRW.out
    have HCE : Hid (∀ W, KB gb W3 W → W.cell? ⟨tb, 0, none⟩ = some (.slice (some ⟨gb, 0, none⟩) n n) ∧ W.cell? ⟨w.heap.size, 2, none⟩ = some (.int .i64 (held : Int))) := fun W hW => ⟨cell_blk HP3.out.cell (hW.2 tb (row_lt HP3.out.head) HP3.out.ne), cell_blk HC3.out (hW.2 _ (by omega) (by omega))⟩
    have HROW : Hid (W3.drew.heap[gb]? = some (.cells (fl l).toArray 43 (0, 0))) := by rw [heap_drew]; exact hP3.row
    have HFIT : Hid (g * 3 + (rL ⟨t, o, held⟩).toArray.size ≤ (fl l).length) := by show _ ≤ _; rw [fl_len, hP3.len]; show g * 3 + 3 ≤ _; omega
    have HEND : Hid (StpEnd tb gb n (l.set g ⟨t, o, held⟩) 0 w (.returned (.int .i64 0)) (W3.drew.setRow gb (splice (fl l) (g * 3) (rL ⟨t, o, held⟩).toArray.toList).toArray)) := by
      have hk : KB gb W3 (W3.drew.setRow gb (splice (fl l) (g * 3) (rL ⟨t, o, held⟩).toArray.toList).toArray) := KB.set (KB.drew (KB.refl _ _)) _
      refine ⟨rfl, HP3.out.next hk ?_ (by simp), HK3.out.trans hk⟩
      rw [List.toList_toArray, fl_splice l g _ (by rw [hP3.len]; exact hg)]
      exact (show AR W3.drew gb l from HP3.out.row).row _
    clear hP3 hb3
    go_wp2_with fail
    rw [← hW3]
    clear hW3 hr0 hr1 hr2
    refine wp_region_held_drew (S := KB gb W3) (by kernel_rfl) (KB.drew (KB.refl _ _)) (fun hHeld => ?_)
    refine wpAnyH_take (i := 0) (oi := { dst := some 59, op := Go.Op.move (Go.Operand.tmp 0), type := 24, pos := _, after := #[], guard := none }) (v := .pointer (some ⟨tb, 0, none⟩)) rfl (by kernel_rfl) (by kernel_rfl) (by kernel_rfl) (fun _ _ _ h => h) (Or.inl ⟨by rfl, fun w' hw' => ?_⟩) hHeld ?_
    · first | (go_simp; done) | (go_simp; rfl)
    try simp only [Act.put, List.setIfInBounds_toArray, List.set_cons_zero, List.set_cons_succ]
    refine wpAnyH_take (i := 1) (oi := { dst := some 60, op := Go.Op.nilCheck (Go.Operand.tmp 59), type := 0, pos := _, after := #[{ on := 0, ground := Go.Ground.data }], guard := none }) (v := .pointer (some ⟨tb, 0, none⟩)) rfl (by kernel_rfl) (by kernel_rfl) (by kernel_rfl) (fun _ _ _ h => h) (Or.inl ⟨by rfl, fun w' hw' => ?_⟩) hHeld ?_
    · first | (go_simp; done) | (go_simp; rfl)
    try simp only [Act.put, List.setIfInBounds_toArray, List.set_cons_zero, List.set_cons_succ]
    refine wpAnyH_take (i := 2) (oi := { dst := some 61, op := Go.Op.fieldAddr 49 (Go.Operand.tmp 60) 0, type := 0, pos := _, after := #[{ on := 1, ground := Go.Ground.data }], guard := none }) (v := .pointer (some ⟨tb, 0, none⟩)) rfl (by kernel_rfl) (by kernel_rfl) (by kernel_rfl) (fun _ _ _ h => h) (Or.inl ⟨by rfl, fun w' hw' => ?_⟩) hHeld ?_
    · first | (go_simp; done) | (go_simp; rfl)
    try simp only [Act.put, List.setIfInBounds_toArray, List.set_cons_zero, List.set_cons_succ]
    refine wpAnyH_take (i := 3) (oi := { dst := some 62, op := Go.Op.load 28 (Go.Operand.tmp 61), type := 28, pos := _, after := #[{ on := 2, ground := Go.Ground.data }], guard := none }) (v := .slice (some ⟨gb, 0, none⟩) n n) rfl (by kernel_rfl) (by kernel_rfl) (by kernel_rfl) (fun _ _ _ h => h) (Or.inl ⟨by rfl, fun w' hw' => ?_⟩) hHeld ?_
    · have hcc := (HCE.out _ hw').1; first | (go_simp; done) | (go_simp; rfl)
    try simp only [Act.put, List.setIfInBounds_toArray, List.set_cons_zero, List.set_cons_succ]
    refine wpAnyH_take (i := 4) (oi := { dst := some 63, op := Go.Op.move (Go.Operand.tmp 1), type := 3, pos := _, after := #[], guard := none }) (v := .int .i64 (g : Int)) rfl (by kernel_rfl) (by kernel_rfl) (by kernel_rfl) (fun _ _ _ h => h) (Or.inl ⟨by rfl, fun w' hw' => ?_⟩) hHeld ?_
    · first | (go_simp; done) | (go_simp; rfl)
    try simp only [Act.put, List.setIfInBounds_toArray, List.set_cons_zero, List.set_cons_succ]
    refine wpAnyH_take (i := 5) (oi := { dst := some 64, op := Go.Op.move (Go.Operand.tmp 3), type := 31, pos := _, after := #[], guard := none }) (v := .int .i64 t) rfl (by kernel_rfl) (by kernel_rfl) (by kernel_rfl) (fun _ _ _ h => h) (Or.inl ⟨by rfl, fun w' hw' => ?_⟩) hHeld ?_
    · first | (go_simp; done) | (go_simp; rfl)
    try simp only [Act.put, List.setIfInBounds_toArray, List.set_cons_zero, List.set_cons_succ]
    refine wpAnyH_take (i := 6) (oi := { dst := some 65, op := Go.Op.move (Go.Operand.tmp 4), type := 32, pos := _, after := #[], guard := none }) (v := .int .u64 (o : Int)) rfl (by kernel_rfl) (by kernel_rfl) (by kernel_rfl) (fun _ _ _ h => h) (Or.inl ⟨by rfl, fun w' hw' => ?_⟩) hHeld ?_
    · first | (go_simp; done) | (go_simp; rfl)
    try simp only [Act.put, List.setIfInBounds_toArray, List.set_cons_zero, List.set_cons_succ]
    refine wpAnyH_take (i := 7) (oi := { dst := some 66, op := Go.Op.fieldAddr 43 (Go.Operand.tmp 12) 2, type := 0, pos := _, after := #[], guard := none }) (v := .pointer (some ⟨w.heap.size, 2, none⟩)) rfl (by kernel_rfl) (by kernel_rfl) (by kernel_rfl) (fun _ _ _ h => h) (Or.inl ⟨by rfl, fun w' hw' => ?_⟩) hHeld ?_
    · first | (go_simp; done) | (go_simp; rfl)
    try simp only [Act.put, List.setIfInBounds_toArray, List.set_cons_zero, List.set_cons_succ]
    refine wpAnyH_take (i := 8) (oi := { dst := some 67, op := Go.Op.load 3 (Go.Operand.tmp 66), type := 3, pos := _, after := #[{ on := 7, ground := Go.Ground.data }], guard := none }) (v := .int .i64 (held : Int)) rfl (by kernel_rfl) (by kernel_rfl) (by kernel_rfl) (fun _ _ _ h => h) (Or.inl ⟨by rfl, fun w' hw' => ?_⟩) hHeld ?_
    · have hcc := (HCE.out _ hw').2; first | (go_simp; done) | (go_simp; rfl)
    try simp only [Act.put, List.setIfInBounds_toArray, List.set_cons_zero, List.set_cons_succ]
    refine wpAnyH_take (i := 9) (oi := { dst := some 68, op := Go.Op.build 43 #[(0, Go.Operand.tmp 64), (1, Go.Operand.tmp 65), (2, Go.Operand.tmp 67)], type := 43, pos := _, after := #[{ on := 5, ground := Go.Ground.data }, { on := 6, ground := Go.Ground.data }, { on := 8, ground := Go.Ground.data }], guard := none }) (v := .agg (rL ⟨t, o, held⟩).toArray) rfl (by kernel_rfl) (by kernel_rfl) (by kernel_rfl) (fun _ _ _ h => h) (Or.inl ⟨by rfl, fun w' hw' => ?_⟩) hHeld ?_
    · first | (go_simp; done) | (go_simp; rfl)
    try simp only [Act.put, List.setIfInBounds_toArray, List.set_cons_zero, List.set_cons_succ]
    refine wpAnyH_take (i := 10) (oi := { dst := some 69, op := Go.Op.indexAddr 28 (Go.Operand.tmp 62) (Go.Operand.tmp 63), type := 0, pos := _, after := #[{ on := 3, ground := Go.Ground.data }, { on := 4, ground := Go.Ground.data }, { on := 0, ground := Go.Ground.phase }, { on := 1, ground := Go.Ground.phase }, { on := 2, ground := Go.Ground.phase }, { on := 3, ground := Go.Ground.phase }, { on := 4, ground := Go.Ground.phase }, { on := 5, ground := Go.Ground.phase }, { on := 6, ground := Go.Ground.phase }, { on := 7, ground := Go.Ground.phase }, { on := 8, ground := Go.Ground.phase }, { on := 9, ground := Go.Ground.phase }], guard := none }) (v := .pointer (some ⟨gb, g * 3, none⟩)) rfl (by kernel_rfl) (by kernel_rfl) (by kernel_rfl) (fun _ _ _ h => h) (Or.inl ⟨by rfl, fun w' hw' => ?_⟩) hHeld ?_
    · first | (go_simp; done) | (go_simp; rfl)
    try simp only [Act.put, List.setIfInBounds_toArray, List.set_cons_zero, List.set_cons_succ]
    refine wpAnyH_ready (rs := [11]) (by kernel_rfl) (by simp) ?_
    refine AllReadyH.cons (o := { dst := none, op := Go.Op.store 43 (Go.Operand.tmp 69) (Go.Operand.tmp 68), type := 0, pos := _, after := #[{ on := 10, ground := Go.Ground.data }, { on := 9, ground := Go.Ground.data }, { on := 0, ground := Go.Ground.phase }, { on := 1, ground := Go.Ground.phase }, { on := 2, ground := Go.Ground.phase }, { on := 3, ground := Go.Ground.phase }, { on := 4, ground := Go.Ground.phase }, { on := 5, ground := Go.Ground.phase }, { on := 6, ground := Go.Ground.phase }, { on := 7, ground := Go.Ground.phase }, { on := 8, ground := Go.Ground.phase }, { on := 9, ground := Go.Ground.phase }], guard := none }) rfl (fun K hK => ?_) AllReadyH.nil
    rw [if_pos (by rfl)]
    refine wp_store_seg 43 _ _ rfl gb (g * 3) (rL ⟨t, o, held⟩).toArray (fl l) 43 rfl rfl HROW.out (info3a _ rfl) HFIT.out (rL_onea _) ?_
    have hK2 := KB.set hHeld (splice (fl l) (g * 3) (rL ⟨t, o, held⟩).toArray.toList).toArray
    refine hK.out _ _ hK2 (fun _ => ?_)
    clear hK K
    try simp only [Act.put, List.setIfInBounds_toArray, List.set_cons_zero, List.set_cons_succ]
    refine wpAnyH_done (by kernel_rfl) ?_ _
    go_wp2
    go_ret
    exact HEND.out
  · have HL1 : Hid (decide (f ≠ 1) = true) := by show _ = _; simpa using hf1
    have hh0 : r.held = 0 := by omega
    obtain ⟨st, ow, held⟩ := r
    simp only at hh0
    subst hh0
    clear hst hf1 hh
    obtain ⟨r, hrr⟩ : ∃ r, r = (⟨st, ow, 0⟩ : Rw) := ⟨_, rfl⟩
    have hsI' : (st != f) = false := hsI
    clear hsI
    have HMY : Hid _ := hmy
    have HOW : Hid (owB f t = decide (2 ≤ t)) := owB_yes hmy
    have HLO : Hid (loB f t = decide (f ≠ 1)) := loB_yes hmy
    generalize decide (2 ≤ t) = OW at *
    generalize decide (f ≠ 1) = LO at *
    clear hmy
    have hl1 := HL1.out
    subst hl1
    subst how
    clear hrr r
    have hg : g < n := by rw [← h.len]; exact (List.getElem?_eq_some_iff.1 hr).1
    have hf := fault_any tb n n _ (g : Int) w h.cell h.pos
    rw [gF_nat hg] at hf
    have HF : Hid _ := hf
    obtain ⟨hc0, hc1, hc2⟩ := range_cells (range_row h.row.range hr)
    have hc := h.cell
    have hn4 := h.le
    have HPM : Hid _ := h
    have HR : Hid _ := hr
    have HWF : Hid _ := hwf
    have HWT : Hid _ := hwt
    have hgb := h.row.lt
    clear hf h hr hwf hwt
    go_enter Try.func20, Try.ntmps20
    go_wp2_with fail
    refine Calls.mono HF.out ?_
    rintro e w1 ⟨rfl, rfl⟩
    go_wp2_with fail
    refine Calls.mono (steps_any _) ?_
    rintro e w2 ⟨mb, rfl, hM, hmb, hb2⟩
    have hlk := sm_look hM f t HWF.out HWT.out
    unfold kV sV at hlk
    have hb1 : Below w.heap.size w (w.alloc (.cells #[.int .i64 st, .int .u64 (ow : Int), .int .i64 0] 43 (0, 0))) := (Below.refl _ _).alloc (Nat.le_refl _) _
    have hbw : Below w.heap.size w w2 := hb1.trans (hb2.mono hb1.size)
    have hrw : w2.heap[w.heap.size]? = some (.cells #[.int .i64 st, .int .u64 (ow : Int), .int .i64 0] 43 (0, 0)) := (hb2.block _ (by simp)).trans (heap_alloc_new _ _)
    obtain ⟨hr0, hr1, hr2⟩ : w2.cell? ⟨w.heap.size, 0, none⟩ = some (.int .i64 st) ∧ w2.cell? ⟨w.heap.size, 1, none⟩ = some (.int .u64 (ow : Int)) ∧ w2.cell? ⟨w.heap.size, 2, none⟩ = some (.int .i64 0) := ⟨(cell_of_row _ _ 0 _ _ _ hrw).trans rfl, (cell_of_row _ _ 1 _ _ _ hrw).trans rfl, (cell_of_row _ _ 2 _ _ _ hrw).trans rfl⟩
    have HBW : Hid _ := hbw
    have HRW : Hid _ := hrw
    have hs2 := hbw.size
    rw [HMY.out, HOW.out, HLO.out] at hlk
    have hra : (w2.alloc (.cells #[.bool OW, .bool true] 58 (0, 0))).heap[w.heap.size]? = some (.cells #[.int .i64 st, .int .u64 (ow : Int), .int .i64 0] 43 (0, 0)) := (Below.heap_alloc _ _ _ (row_lt hrw)).trans hrw
    clear hr0 hr1 hr2
    obtain ⟨hr0, hr1, hr2⟩ : (w2.alloc (.cells #[.bool OW, .bool true] 58 (0, 0))).cell? ⟨w.heap.size, 0, none⟩ = some (.int .i64 st) ∧ (w2.alloc (.cells #[.bool OW, .bool true] 58 (0, 0))).cell? ⟨w.heap.size, 1, none⟩ = some (.int .u64 (ow : Int)) ∧ (w2.alloc (.cells #[.bool OW, .bool true] 58 (0, 0))).cell? ⟨w.heap.size, 2, none⟩ = some (.int .i64 0) := ⟨(cell_of_row _ _ 0 _ _ _ hra).trans rfl, (cell_of_row _ _ 1 _ _ _ hra).trans rfl, (cell_of_row _ _ 2 _ _ _ hra).trans rfl⟩
    clear hM hb1 hb2 hbw hrw hra
    obtain ⟨W3, hW3⟩ : ∃ W3, W3 = w2.alloc (.cells #[.bool OW, .bool true] 58 (0, 0)) := ⟨_, rfl⟩
    have hb3 : Below w.heap.size w W3 := by rw [hW3]; exact HBW.out.alloc HBW.out.size _
    have hP3 := HPM.out.below hb3
    have HP3 : Hid (PM W3 tb gb n l) := hP3
    have HK3 : Hid (KB gb w W3) := KB.of (by omega) hb3
    have HC3 : Hid (W3.cell? ⟨w.heap.size, 2, none⟩ = some (.int .i64 (0 : Int))) := by rw [hW3]; exact hr2
    have hs3 : W3.heap.size = w2.heap.size + 1 := by rw [hW3]; simp
    have hsz : w.heap.size < w2.heap.size := row_lt HRW.out
    have HCE : Hid (∀ W, KB gb W3 W → W.cell? ⟨tb, 0, none⟩ = some (.slice (some ⟨gb, 0, none⟩) n n) ∧ W.cell? ⟨w.heap.size, 2, none⟩ = some (.int .i64 (0 : Int))) := fun W hW => ⟨cell_blk HP3.out.cell (hW.2 tb (row_lt HP3.out.head) HP3.out.ne), cell_blk HC3.out (hW.2 _ (by omega) (by omega))⟩
    have HROW : Hid (W3.drew.heap[gb]? = some (.cells (fl l).toArray 43 (0, 0))) := by rw [heap_drew]; exact hP3.row
    have HFIT : Hid (g * 3 + (rL ⟨t, o, 0⟩).toArray.size ≤ (fl l).length) := by show _ ≤ _; rw [fl_len, hP3.len]; show g * 3 + 3 ≤ _; omega
    have HEND : Hid (StpEnd tb gb n (l.set g ⟨t, o, 0⟩) 0 w (.returned (.int .i64 0)) (W3.drew.setRow gb (splice (fl l) (g * 3) (rL ⟨t, o, 0⟩).toArray.toList).toArray)) := by
      have hk : KB gb W3 (W3.drew.setRow gb (splice (fl l) (g * 3) (rL ⟨t, o, 0⟩).toArray.toList).toArray) := KB.set (KB.drew (KB.refl _ _)) _
      refine ⟨rfl, HP3.out.next hk ?_ (by simp), HK3.out.trans hk⟩
      rw [List.toList_toArray, fl_splice l g _ (by rw [hP3.len]; exact hg)]
      exact (show AR W3.drew gb l from HP3.out.row).row _
    clear hP3 hb3
    go_wp2_with fail
    rw [← hW3]
    clear hW3 hr0 hr1 hr2
    refine wp_region_held_drew (S := KB gb W3) (by kernel_rfl) (KB.drew (KB.refl _ _)) (fun hHeld => ?_)
    refine wpAnyH_take (i := 0) (oi := { dst := some 59, op := Go.Op.move (Go.Operand.tmp 0), type := 24, pos := _, after := #[], guard := none }) (v := .pointer (some ⟨tb, 0, none⟩)) rfl (by kernel_rfl) (by kernel_rfl) (by kernel_rfl) (fun _ _ _ h => h) (Or.inl ⟨by rfl, fun w' hw' => ?_⟩) hHeld ?_
    · first | (go_simp; done) | (go_simp; rfl)
    try simp only [Act.put, List.setIfInBounds_toArray, List.set_cons_zero, List.set_cons_succ]
    refine wpAnyH_take (i := 1) (oi := { dst := some 60, op := Go.Op.nilCheck (Go.Operand.tmp 59), type := 0, pos := _, after := #[{ on := 0, ground := Go.Ground.data }], guard := none }) (v := .pointer (some ⟨tb, 0, none⟩)) rfl (by kernel_rfl) (by kernel_rfl) (by kernel_rfl) (fun _ _ _ h => h) (Or.inl ⟨by rfl, fun w' hw' => ?_⟩) hHeld ?_
    · first | (go_simp; done) | (go_simp; rfl)
    try simp only [Act.put, List.setIfInBounds_toArray, List.set_cons_zero, List.set_cons_succ]
    refine wpAnyH_take (i := 2) (oi := { dst := some 61, op := Go.Op.fieldAddr 49 (Go.Operand.tmp 60) 0, type := 0, pos := _, after := #[{ on := 1, ground := Go.Ground.data }], guard := none }) (v := .pointer (some ⟨tb, 0, none⟩)) rfl (by kernel_rfl) (by kernel_rfl) (by kernel_rfl) (fun _ _ _ h => h) (Or.inl ⟨by rfl, fun w' hw' => ?_⟩) hHeld ?_
    · first | (go_simp; done) | (go_simp; rfl)
    try simp only [Act.put, List.setIfInBounds_toArray, List.set_cons_zero, List.set_cons_succ]
    refine wpAnyH_take (i := 3) (oi := { dst := some 62, op := Go.Op.load 28 (Go.Operand.tmp 61), type := 28, pos := _, after := #[{ on := 2, ground := Go.Ground.data }], guard := none }) (v := .slice (some ⟨gb, 0, none⟩) n n) rfl (by kernel_rfl) (by kernel_rfl) (by kernel_rfl) (fun _ _ _ h => h) (Or.inl ⟨by rfl, fun w' hw' => ?_⟩) hHeld ?_
    · have hcc := (HCE.out _ hw').1; first | (go_simp; done) | (go_simp; rfl)
    try simp only [Act.put, List.setIfInBounds_toArray, List.set_cons_zero, List.set_cons_succ]
    refine wpAnyH_take (i := 4) (oi := { dst := some 63, op := Go.Op.move (Go.Operand.tmp 1), type := 3, pos := _, after := #[], guard := none }) (v := .int .i64 (g : Int)) rfl (by kernel_rfl) (by kernel_rfl) (by kernel_rfl) (fun _ _ _ h => h) (Or.inl ⟨by rfl, fun w' hw' => ?_⟩) hHeld ?_
    · first | (go_simp; done) | (go_simp; rfl)
    try simp only [Act.put, List.setIfInBounds_toArray, List.set_cons_zero, List.set_cons_succ]
    refine wpAnyH_take (i := 5) (oi := { dst := some 64, op := Go.Op.move (Go.Operand.tmp 3), type := 31, pos := _, after := #[], guard := none }) (v := .int .i64 t) rfl (by kernel_rfl) (by kernel_rfl) (by kernel_rfl) (fun _ _ _ h => h) (Or.inl ⟨by rfl, fun w' hw' => ?_⟩) hHeld ?_
    · first | (go_simp; done) | (go_simp; rfl)
    try simp only [Act.put, List.setIfInBounds_toArray, List.set_cons_zero, List.set_cons_succ]
    refine wpAnyH_take (i := 6) (oi := { dst := some 65, op := Go.Op.move (Go.Operand.tmp 4), type := 32, pos := _, after := #[], guard := none }) (v := .int .u64 (o : Int)) rfl (by kernel_rfl) (by kernel_rfl) (by kernel_rfl) (fun _ _ _ h => h) (Or.inl ⟨by rfl, fun w' hw' => ?_⟩) hHeld ?_
    · first | (go_simp; done) | (go_simp; rfl)
    try simp only [Act.put, List.setIfInBounds_toArray, List.set_cons_zero, List.set_cons_succ]
    refine wpAnyH_take (i := 7) (oi := { dst := some 66, op := Go.Op.fieldAddr 43 (Go.Operand.tmp 12) 2, type := 0, pos := _, after := #[], guard := none }) (v := .pointer (some ⟨w.heap.size, 2, none⟩)) rfl (by kernel_rfl) (by kernel_rfl) (by kernel_rfl) (fun _ _ _ h => h) (Or.inl ⟨by rfl, fun w' hw' => ?_⟩) hHeld ?_
    · first | (go_simp; done) | (go_simp; rfl)
    try simp only [Act.put, List.setIfInBounds_toArray, List.set_cons_zero, List.set_cons_succ]
    refine wpAnyH_take (i := 8) (oi := { dst := some 67, op := Go.Op.load 3 (Go.Operand.tmp 66), type := 3, pos := _, after := #[{ on := 7, ground := Go.Ground.data }], guard := none }) (v := .int .i64 (0 : Int)) rfl (by kernel_rfl) (by kernel_rfl) (by kernel_rfl) (fun _ _ _ h => h) (Or.inl ⟨by rfl, fun w' hw' => ?_⟩) hHeld ?_
    · have hcc := (HCE.out _ hw').2; first | (go_simp; done) | (go_simp; rfl)
    try simp only [Act.put, List.setIfInBounds_toArray, List.set_cons_zero, List.set_cons_succ]
    refine wpAnyH_take (i := 9) (oi := { dst := some 68, op := Go.Op.build 43 #[(0, Go.Operand.tmp 64), (1, Go.Operand.tmp 65), (2, Go.Operand.tmp 67)], type := 43, pos := _, after := #[{ on := 5, ground := Go.Ground.data }, { on := 6, ground := Go.Ground.data }, { on := 8, ground := Go.Ground.data }], guard := none }) (v := .agg (rL ⟨t, o, 0⟩).toArray) rfl (by kernel_rfl) (by kernel_rfl) (by kernel_rfl) (fun _ _ _ h => h) (Or.inl ⟨by rfl, fun w' hw' => ?_⟩) hHeld ?_
    · first | (go_simp; done) | (go_simp; rfl)
    try simp only [Act.put, List.setIfInBounds_toArray, List.set_cons_zero, List.set_cons_succ]
    refine wpAnyH_take (i := 10) (oi := { dst := some 69, op := Go.Op.indexAddr 28 (Go.Operand.tmp 62) (Go.Operand.tmp 63), type := 0, pos := _, after := #[{ on := 3, ground := Go.Ground.data }, { on := 4, ground := Go.Ground.data }, { on := 0, ground := Go.Ground.phase }, { on := 1, ground := Go.Ground.phase }, { on := 2, ground := Go.Ground.phase }, { on := 3, ground := Go.Ground.phase }, { on := 4, ground := Go.Ground.phase }, { on := 5, ground := Go.Ground.phase }, { on := 6, ground := Go.Ground.phase }, { on := 7, ground := Go.Ground.phase }, { on := 8, ground := Go.Ground.phase }, { on := 9, ground := Go.Ground.phase }], guard := none }) (v := .pointer (some ⟨gb, g * 3, none⟩)) rfl (by kernel_rfl) (by kernel_rfl) (by kernel_rfl) (fun _ _ _ h => h) (Or.inl ⟨by rfl, fun w' hw' => ?_⟩) hHeld ?_
    · first | (go_simp; done) | (go_simp; rfl)
    try simp only [Act.put, List.setIfInBounds_toArray, List.set_cons_zero, List.set_cons_succ]
    refine wpAnyH_ready (rs := [11]) (by kernel_rfl) (by simp) ?_
    refine AllReadyH.cons (o := { dst := none, op := Go.Op.store 43 (Go.Operand.tmp 69) (Go.Operand.tmp 68), type := 0, pos := _, after := #[{ on := 10, ground := Go.Ground.data }, { on := 9, ground := Go.Ground.data }, { on := 0, ground := Go.Ground.phase }, { on := 1, ground := Go.Ground.phase }, { on := 2, ground := Go.Ground.phase }, { on := 3, ground := Go.Ground.phase }, { on := 4, ground := Go.Ground.phase }, { on := 5, ground := Go.Ground.phase }, { on := 6, ground := Go.Ground.phase }, { on := 7, ground := Go.Ground.phase }, { on := 8, ground := Go.Ground.phase }, { on := 9, ground := Go.Ground.phase }], guard := none }) rfl (fun K hK => ?_) AllReadyH.nil
    rw [if_pos (by rfl)]
    refine wp_store_seg 43 _ _ rfl gb (g * 3) (rL ⟨t, o, 0⟩).toArray (fl l) 43 rfl rfl HROW.out (info3a _ rfl) HFIT.out (rL_onea _) ?_
    have hK2 := KB.set hHeld (splice (fl l) (g * 3) (rL ⟨t, o, 0⟩).toArray.toList).toArray
    refine hK.out _ _ hK2 (fun _ => ?_)
    clear hK K
    try simp only [Act.put, List.setIfInBounds_toArray, List.set_cons_zero, List.set_cons_succ]
    refine wpAnyH_done (by kernel_rfl) ?_ _
    go_wp2
    go_ret
    exact HEND.out
end Go.Proofs.Ytpmbbnmpldeajaa.GC
