/- granule: contracts of New, Row, Host, Hold, Let. -/
import Derived.Test.YtpmbbnmpldeajaaKD
set_option linter.unusedVariables false
set_option linter.unusedSimpArgs false
namespace Go.Proofs.Ytpmbbnmpldeajaa.GC
open Go.RowKit

/-- The row of a new granule. -/
def ZR : Rw := ⟨0, 0, 0⟩
theorem infoRow : (Try.prog.info? 43).map (fun i => (i.zero, i.size, i.bytes)) = some (some (rV ZR), 3, 24) := by kernel_rfl
theorem made_rw (n : Nat) : (madeCells (rV ZR).cells (n * 3)).toList = fl (List.replicate n ZR) := by
  have hc : (rV ZR).cells = (rL ZR).toArray := rfl
  rw [hc]
  apply List.ext_getElem?
  intro j
  by_cases hj : j < n * 3
  · have h1 : (List.replicate n ZR)[j / 3]? = some ZR := by rw [List.getElem?_replicate, if_pos (by omega)]
    have h2 := fl_at _ _ _ h1 (j % 3) (Nat.mod_lt _ (by decide))
    rw [show j / 3 * 3 + j % 3 = j by omega] at h2
    rw [h2]
    have h3 : j % 3 < 3 := Nat.mod_lt _ (by decide)
    have h4 : (rL ZR).toArray.size = 3 := rfl
    have h5 : (rL ZR)[j % 3]? = some ((rL ZR).toArray[j % 3]!) := by
      generalize j % 3 = k at *
      have : k = 0 ∨ k = 1 ∨ k = 2 := by omega
      rcases this with rfl | rfl | rfl <;> rfl
    rw [h5]
    simp [madeCells, hj, h4]
  · rw [List.getElem?_eq_none (by simp [madeCells]; omega), List.getElem?_eq_none (by rw [fl_len]; simp; omega)]
/-- Rows that were made new. -/
theorem own_ar {B : Nat} {w : World} {p N : Nat} (h : w.ownsRow B 43 3 (.slice (some ⟨p, 0, none⟩) N N) N (madeCells (rV ZR).cells (N * 3)).toList) : AR w p (List.replicate N ZR) := by
  unfold AR
  rw [made_rw] at h
  rcases h.2 with ⟨e1, e2⟩ | ⟨g, cap, cur, e1, e2, e3, e4, e5, e6, e7⟩
  · simp at e1
  · simp only [Value.slice.injEq, Option.some.injEq, Addr.mk.injEq] at e1
    obtain ⟨⟨rfl, _, _⟩, _, rfl⟩ := e1
    rw [e3]
    congr 2
    rw [← Array.toList_inj, List.toList_toArray, ← e7]
    rw [List.take_of_length_le (by simp; omega)]
/-- What New hands back. -/
def NewEnd (w : World) (n : Nat) (e : Ending) (w' : World) : Prop := ∃ tb gb, e = .returned (.tuple #[.pointer (some ⟨tb, 0, none⟩), .int .i64 0]) ∧ PM w' tb gb n (List.replicate n ZR) ∧ w.heap.size ≤ tb ∧ w.heap.size ≤ gb ∧ Below w.heap.size w w'
set_option maxHeartbeats 400000 in
theorem new_ok (n : Nat) (w : World) (h1 : 1 ≤ n) (h2 : n ≤ 4096) : Calls Try.prog 10 #[.int .i64 (n : Int)] w fun e w' => NewEnd w n e w' := by
  obtain ⟨i0, hi, hz0, hz1, hz2⟩ := info_parts infoRow
  unfold rV at hz0
  obtain ⟨ZC, hZC⟩ : ∃ V, V = (rL ZR).toArray := ⟨_, rfl⟩
  rw [← hZC] at hz0
  have HZC : Hid _ := hZC
  clear hZC
  go_enter Try.func10, Try.ntmps10
  go_wp2_with (at_make; refine wpList_make_full _ rfl _ _ 28 rfl w.heap.size 43 i0 (.agg ZC) 3 Try.underlying28 hi hz0 hz1 _ _ _ _ n rfl rfl (by omega) (by omega) ?b2 ?b3 (Nat.le_refl _) ?_)
  case b2 => rw [hz2]; omega
  case b3 => unfold maxLen; omega
  intro w0 hown0 hgrow0
  have hb0 : Below w.heap.size w w0 := (Below.refl _ _).grown hgrow0 (Nat.le_refl _) (fun k h => by cases h)
  have HR : Hid (AR w0 w.heap.size (List.replicate n ZR)) := own_ar (by unfold rV; rw [← HZC.out]; exact hown0)
  have HB0 : Hid _ := hb0
  clear hown0 hgrow0 hb0
  go_wp2
  go_ret2
  have hlt := HR.out.lt
  exact ⟨w0.heap.size, w.heap.size, rfl, ⟨heap_alloc_new _ _, (Below.heap_alloc _ _ _ hlt).trans HR.out, by simp, h1, h2, by omega⟩, HB0.out.size, Nat.le_refl _, HB0.out.alloc HB0.out.size _⟩
theorem new_bad (n : Int) (w : World) (h : n < 1 ∨ 4096 < n) : Calls Try.prog 10 #[.int .i64 n] w fun e w' => e = .returned (.tuple #[.pointer none, .int .i64 2]) ∧ w = w' := by
  by_cases h1 : n < 1
  · go_enter Try.func10, Try.ntmps10
    go_wp2
    go_ret2
    exact ⟨rfl, rfl⟩
  · have h2 : 4096 < n := by omega
    go_enter Try.func10, Try.ntmps10
    go_wp2
    go_ret2
    exact ⟨rfl, rfl⟩
theorem results_rw2 {fn : Func} {p u : Tmp} (h : fn.results = #[.cell p 43, .tmp u]) (tmps : Array Value) (w : World) (g : Nat) (t : TypeId) (cs : Array Value) (fr : Nat × Nat) (x : Value)
    (hp : tmps.getD p undef = .pointer (some ⟨g, 0, none⟩)) (hx : tmps.getD u undef = x) (hg : w.heap[g]? = some (.cells cs t fr)) (hi : (Try.prog.info? 43).map (·.size) = some cs.size) :
    (results fn tmps).run Try.prog w = .ok (.tuple #[.agg cs, x]) w := by
  rw [results_cell_tmp h, hp, hx]
  simp [asAddr, run_loadVar_row w g t 43 cs fr _ hg Try.underlying43 rfl hi]
theorem info3 (l : List Value) (h : l.length = 3) : (Try.prog.info? 43).map (·.size) = some l.length := by rw [h]; kernel_rfl
theorem info3a (A : Array Value) (h : A.size = 3) : (Try.prog.info? 43).map (·.size) = some A.size := by rw [h]; kernel_rfl
set_option maxHeartbeats 1000000 in
theorem row_bad (p : Value) (g c : Int) (w : World) (hc : c ≠ 0) (hf : ∀ W, Below w.heap.size w W → Calls Try.prog 34 #[p, .int .i64 g] W fun e w' => e = .returned (.int .i64 c) ∧ W = w') :
    Calls Try.prog 19 #[p, .int .i64 g] w fun e w' => e = .returned (.tuple #[rV ZR, .int .i64 c]) ∧ Below w.heap.size w w' := by
  have hbl : Below w.heap.size w (w.alloc (.cells #[.int .i64 0, .int .u64 0, .int .i64 0] 43 (0, 0))) := (Below.refl _ _).alloc (Nat.le_refl _) _
  have HF : Hid _ := hf _ hbl
  have hcI : (c != 0) = true := by simpa using hc
  clear hf hc
  go_enter Try.func19, Try.ntmps19
  go_wp2_with fail
  refine Calls.mono HF.out ?_
  rintro e w1 ⟨rfl, rfl⟩
  go_wp2
  refine bodyPost_ret (v := .tuple #[.agg #[.int .i64 0, .int .u64 0, .int .i64 0], .int .i64 c]) (results_rw2 Try.results19 _ _ w.heap.size 43 _ (0, 0) _ rfl rfl (heap_alloc_new _ _) (info3a _ rfl)) rfl ⟨rfl, (Below.refl _ _).alloc (Nat.le_refl _) _⟩
set_option maxHeartbeats 1000000 in
theorem row_ok (tb gb n cap g : Nat) (l : List Rw) (r : Rw) (w : World) (h : PR w tb gb n cap l) (hr : l[g]? = some r) :
    Calls Try.prog 19 #[.pointer (some ⟨tb, 0, none⟩), .int .i64 (g : Int)] w fun e w' => e = .returned (.tuple #[rV r, .int .i64 0]) ∧ Below w.heap.size w w' := by
  have hbl : Below w.heap.size w (w.alloc (.cells #[.int .i64 0, .int .u64 0, .int .i64 0] 43 (0, 0))) := (Below.refl _ _).alloc (Nat.le_refl _) _
  have h1 := h.below hbl
  have hg : g < n := by rw [← h.len]; exact (List.getElem?_eq_some_iff.1 hr).1
  have hf := fault_any tb n cap _ (g : Int) _ h1.cell h1.pos
  rw [gF_nat hg] at hf
  have HF : Hid _ := hf
  obtain ⟨hc0, hc1, hc2⟩ := range_cells (range_row h1.row hr)
  have hc := h1.cell
  have hn4 := h.le
  obtain ⟨st, ow, held⟩ := r
  clear hf h1 h hr
  go_enter Try.func19, Try.ntmps19
  go_wp2_with fail
  refine Calls.mono HF.out ?_
  rintro e w1 ⟨rfl, rfl⟩
  go_wp2
  refine bodyPost_ret (v := .tuple #[.agg #[.int .i64 st, .int .u64 (ow : Int), .int .i64 (held : Int)], .int .i64 0]) (results_rw2 Try.results19 _ _ w.heap.size 43 _ (0, 0) _ rfl rfl (heap_alloc_new _ _) (info3a _ rfl)) rfl ⟨rfl, (Below.refl _ _).alloc (Nat.le_refl _) _⟩
theorem host_bad (p : Value) (g c : Int) (w : World) (hc : c ≠ 0) (hf : Calls Try.prog 34 #[p, .int .i64 g] w fun e w' => e = .returned (.int .i64 c) ∧ w = w') :
    Calls Try.prog 23 #[p, .int .i64 g] w fun e w' => e = .returned (.bool false) ∧ w = w' := by
  have hcI : (c == 0) = false := by simpa using hc
  have HF : Hid _ := hf
  clear hf hc
  go_enter Try.func23, Try.ntmps23
  go_wp2_with fail
  refine Calls.mono HF.out ?_
  rintro e w1 ⟨rfl, rfl⟩
  go_wp2
  go_ret
  exact ⟨rfl, rfl⟩
theorem host_ok (tb gb n cap g : Nat) (l : List Rw) (r : Rw) (w : World) (h : PR w tb gb n cap l) (hr : l[g]? = some r) :
    Calls Try.prog 23 #[.pointer (some ⟨tb, 0, none⟩), .int .i64 (g : Int)] w fun e w' => e = .returned (.bool (r.st == 0)) ∧ w = w' := by
  have hg : g < n := by rw [← h.len]; exact (List.getElem?_eq_some_iff.1 hr).1
  have hf := fault_any tb n cap _ (g : Int) _ h.cell h.pos
  rw [gF_nat hg] at hf
  have HF : Hid _ := hf
  obtain ⟨hc0, hc1, hc2⟩ := range_cells (range_row h.row hr)
  have hc := h.cell
  have hn4 := h.le
  obtain ⟨st, ow, held⟩ := r
  clear hf h hr
  go_enter Try.func23, Try.ntmps23
  go_wp2_with fail
  refine Calls.mono HF.out ?_
  rintro e w1 ⟨rfl, rfl⟩
  go_wp2
  go_ret
  exact ⟨rfl, rfl⟩
theorem hold_bad (p : Value) (g c : Int) (w : World) (hc : c ≠ 0) (hf : Calls Try.prog 34 #[p, .int .i64 g] w fun e w' => e = .returned (.int .i64 c) ∧ w = w') :
    Calls Try.prog 21 #[p, .int .i64 g] w fun e w' => e = .returned (.int .i64 c) ∧ w = w' := by
  have hcI : (c != 0) = true := by simpa using hc
  have HF : Hid _ := hf
  clear hf hc
  go_enter Try.func21, Try.ntmps21
  go_wp2_with fail
  refine Calls.mono HF.out ?_
  rintro e w1 ⟨rfl, rfl⟩
  go_wp2
  go_ret
  exact ⟨rfl, rfl⟩
theorem let_bad (p : Value) (g c : Int) (w : World) (hc : c ≠ 0) (hf : Calls Try.prog 34 #[p, .int .i64 g] w fun e w' => e = .returned (.int .i64 c) ∧ w = w') :
    Calls Try.prog 22 #[p, .int .i64 g] w fun e w' => e = .returned (.int .i64 c) ∧ w = w' := by
  have hcI : (c != 0) = true := by simpa using hc
  have HF : Hid _ := hf
  clear hf hc
  go_enter Try.func22, Try.ntmps22
  go_wp2_with fail
  refine Calls.mono HF.out ?_
  rintro e w1 ⟨rfl, rfl⟩
  go_wp2
  go_ret
  exact ⟨rfl, rfl⟩
theorem step_bad (p : Value) (g c f t o : Int) (w : World) (hc : c ≠ 0) (hf : Calls Try.prog 34 #[p, .int .i64 g] w fun e w' => e = .returned (.int .i64 c) ∧ w = w') :
    Calls Try.prog 20 #[p, .int .i64 g, .int .i64 f, .int .i64 t, .int .u64 o] w fun e w' => e = .returned (.int .i64 c) ∧ w = w' := by
  have hcI : (c != 0) = true := by simpa using hc
  have HF : Hid _ := hf
  clear hf hc
  go_enter Try.func20, Try.ntmps20
  go_wp2_with fail
  refine Calls.mono HF.out ?_
  rintro e w1 ⟨rfl, rfl⟩
  go_wp2
  go_ret
  exact ⟨rfl, rfl⟩
set_option maxHeartbeats 1000000 in
theorem hold_ok (tb gb n g : Nat) (l : List Rw) (r : Rw) (w : World) (h : PM w tb gb n l) (hr : l[g]? = some r) (hh : r.held < 2147483647) :
    Calls Try.prog 21 #[.pointer (some ⟨tb, 0, none⟩), .int .i64 (g : Int)] w fun e w' => e = .returned (.int .i64 0) ∧ PM w' tb gb n (l.set g ⟨r.st, r.ow, r.held + 1⟩) ∧ KB gb w w' := by
  have hg : g < n := by rw [← h.len]; exact (List.getElem?_eq_some_iff.1 hr).1
  have hf := fault_any tb n n _ (g : Int) w h.cell h.pos
  rw [gF_nat hg] at hf
  have HF : Hid _ := hf
  obtain ⟨hc0, hc1, hc2⟩ := range_cells (range_row h.row.range hr)
  have hc := h.cell
  have hfz0 := h.row.frozen (g * 3)
  have hfz1 := h.row.frozen (g * 3 + 1)
  have hfz2 := h.row.frozen (g * 3 + 2)
  have hn4 := h.le
  have hhI : ¬ (2147483647 : Int) ≤ (r.held : Int) := by omega
  have HEND : Hid (PM (w.setCell ⟨gb, g * 3 + 2, none⟩ (.int .i64 ((r.held : Int) + 1))) tb gb n (l.set g ⟨r.st, r.ow, r.held + 1⟩) ∧ KB gb w (w.setCell ⟨gb, g * 3 + 2, none⟩ (.int .i64 ((r.held : Int) + 1)))) := by
    have hk := (KB.refl gb w).setCell (k := g * 3 + 2) (.int .i64 ((r.held : Int) + 1))
    exact ⟨h.next hk (h.row.set hr _ 2 _ (by omega) rfl) (by simp), hk⟩
  obtain ⟨x, hx⟩ : ∃ x : Int, x = (r.held : Int) := ⟨_, rfl⟩
  have hx1 : x ≤ 2147483646 := by omega
  have hx0 : 0 ≤ x := by omega
  rw [← hx] at hc2 hhI HEND
  clear hf h hr hh hx
  go_enter Try.func21, Try.ntmps21
  go_wp2_with fail
  refine Calls.mono HF.out ?_
  rintro e w1 ⟨rfl, rfl⟩
  go_wp2
  go_ret
  exact ⟨rfl, HEND.out⟩
set_option maxHeartbeats 1000000 in
theorem let_none (tb gb n g : Nat) (l : List Rw) (r : Rw) (w : World) (h : PM w tb gb n l) (hr : l[g]? = some r) (hh : r.held = 0) :
    Calls Try.prog 22 #[.pointer (some ⟨tb, 0, none⟩), .int .i64 (g : Int)] w fun e w' => e = .returned (.int .i64 6) ∧ w = w' := by
  have hg : g < n := by rw [← h.len]; exact (List.getElem?_eq_some_iff.1 hr).1
  have hf := fault_any tb n n _ (g : Int) w h.cell h.pos
  rw [gF_nat hg] at hf
  have HF : Hid _ := hf
  obtain ⟨hc0, hc1, hc2⟩ := range_cells (range_row h.row.range hr)
  have hc := h.cell
  have hfz0 := h.row.frozen (g * 3)
  have hfz1 := h.row.frozen (g * 3 + 1)
  have hfz2 := h.row.frozen (g * 3 + 2)
  have hn4 := h.le
  rw [hh] at hc2
  clear hf h hr
  go_enter Try.func22, Try.ntmps22
  go_wp2_with fail
  refine Calls.mono HF.out ?_
  rintro e w1 ⟨rfl, rfl⟩
  go_wp2
  go_ret
  exact ⟨rfl, rfl⟩
set_option maxHeartbeats 1000000 in
theorem let_ok (tb gb n g : Nat) (l : List Rw) (r : Rw) (w : World) (h : PM w tb gb n l) (hr : l[g]? = some r) (hh : 0 < r.held) (hm : r.held ≤ 2147483647) :
    Calls Try.prog 22 #[.pointer (some ⟨tb, 0, none⟩), .int .i64 (g : Int)] w fun e w' => e = .returned (.int .i64 0) ∧ PM w' tb gb n (l.set g ⟨r.st, r.ow, r.held - 1⟩) ∧ KB gb w w' := by
  have hg : g < n := by rw [← h.len]; exact (List.getElem?_eq_some_iff.1 hr).1
  have hf := fault_any tb n n _ (g : Int) w h.cell h.pos
  rw [gF_nat hg] at hf
  have HF : Hid _ := hf
  obtain ⟨hc0, hc1, hc2⟩ := range_cells (range_row h.row.range hr)
  have hc := h.cell
  have hfz0 := h.row.frozen (g * 3)
  have hfz1 := h.row.frozen (g * 3 + 1)
  have hfz2 := h.row.frozen (g * 3 + 2)
  have hn4 := h.le
  have hhI : ((r.held : Int) == 0) = false := by simp; omega
  have HEND : Hid (PM (w.setCell ⟨gb, g * 3 + 2, none⟩ (.int .i64 ((r.held : Int) - 1))) tb gb n (l.set g ⟨r.st, r.ow, r.held - 1⟩) ∧ KB gb w (w.setCell ⟨gb, g * 3 + 2, none⟩ (.int .i64 ((r.held : Int) - 1)))) := by
    have hk := (KB.refl gb w).setCell (k := g * 3 + 2) (.int .i64 ((r.held : Int) - 1))
    refine ⟨h.next hk (h.row.set hr _ 2 _ (by omega) ?_) (by simp), hk⟩
    simp only [rL, List.set_cons_succ, List.set_cons_zero]
    rw [show ((r.held - 1 : Nat) : Int) = (r.held : Int) - 1 by omega]
  clear hf h hr
  go_enter Try.func22, Try.ntmps22
  go_wp2_with fail
  refine Calls.mono HF.out ?_
  rintro e w1 ⟨rfl, rfl⟩
  go_wp2
  go_ret
  exact ⟨rfl, HEND.out⟩
end Go.Proofs.Ytpmbbnmpldeajaa.GC
