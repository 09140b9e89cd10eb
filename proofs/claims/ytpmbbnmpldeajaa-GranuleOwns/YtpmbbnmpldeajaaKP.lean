/- granule: contracts of Of, of nothing and of a table; a range over a function, in plain walks. -/
import Derived.Test.YtpmbbnmpldeajaaKO
import Derived.RangeFuncLeaves
import Derived.RangeFuncMany
import Derived.Shelf.Abstract
set_option linter.unusedVariables false
set_option linter.unusedSimpArgs false
namespace Go.Proofs.Ytpmbbnmpldeajaa.GC
open Go.RowKit

theorem alloc2_first (w : World) (A C : Obj) : ((w.alloc A).alloc C).heap[w.heap.size]? = some A := by
  rw [Below.heap_alloc _ _ _ (by simp), heap_alloc_new]

theorem calls_marks {f : FuncId} {fn : Func} {c : Code} {args : Array Value} {w : World} {R : Ending → World → Prop} (hf : Try.prog.funcs[f]? = some fn) (hb : fn.body = some c)
    (h : c.wp Try.prog (bodyPostM Fence.wide 9 Try.prog fn R) { tmps := args ++ Array.replicate (fn.ntmps - args.size) undef, defers := [] } w) : Calls Try.prog f args w R :=
  callsIn_wide.1 (callsIn_of_wp_marks (F := Fence.wide) (n := 9) hf hb trivial (wpIn_wide.2 h))
/-- The end of a function with marks: each is taken, then what comes of it. -/
theorem marks_ret {fn : Func} {R : Ending → World → Prop} {tmps : Array Value} {v : Value} : ∀ (Ds : List Nat) (w : World), (∀ D ∈ Ds, w.heap[D]? = some (.deferred (some []))) → Ds.Nodup →
    (∀ w', w'.heap.size = w.heap.size → w'.os = w.os → w'.tape = w.tape → w'.output = w.output → (∀ k, k ∉ Ds → w'.heap[k]? = w.heap[k]?) → (results fn tmps).run Try.prog w' = .ok v w' ∧ R (.returned v) w') →
    LeavesInM Fence.wide 9 Try.prog fn tmps R (Ds.map fun D => { target := .collected D, args := #[] }) .returning w
  | [], w, _, _, h => by
    obtain ⟨h1, h2⟩ := h w rfl rfl rfl rfl (fun _ _ => rfl)
    exact ⟨v, h1, h2⟩
  | D :: Ds, w, hD, hn, h => by
    have h0 := hD D (by simp)
    obtain ⟨hn1, hn2⟩ := List.nodup_cons.1 hn
    refine ⟨by simp, .inl ⟨D, _, rfl, run_takeDeferred h0, ?_⟩⟩
    refine marks_ret Ds _ (fun E hE => ?_) hn2 (fun w' h1 h2 h3 h4 h5 => h w' (by rw [h1]; simp) h2 h3 h4 (fun k hk => ?_))
    · have hne : E ≠ D := fun e => hn1 (e ▸ hE)
      rw [World.putObj_heap_other hne]; exact hD E (by simp [hE])
    · simp only [List.mem_cons, not_or] at hk
      rw [h5 k hk.2, World.putObj_heap_other hk.1]
/-- A range over a function that never yields. -/
theorem wp_rangeFunc_never {g : Operand} {ps : Array Tmp} {assign body : Code} {Q : Exit → Act → World → Prop} {a : Act} {w : World} {gf : Nat} {lb : Array Value} (hg : a.eval g = .func (.func gf) #[] lb) (eg : ∀ args w, (callFunc gf args).run Try.prog w = .ok (.enter gf args) w)
    (hc : ∀ y W, Below w.heap.size w W → Calls Try.prog gf (#[y] ++ lb) W fun e W' => (∃ v, e = .returned v) ∧ Below W.heap.size W W')
    (h : ∀ W, Below w.heap.size w W → w.heap.size < W.heap.size → W.heap[w.heap.size]? = some (.deferred (some [])) → Q .normal { a with defers := { target := .collected w.heap.size, args := #[] } :: a.defers } W) : (Code.rangeFunc g ps assign body).wp Try.prog Q a w := by
  refine (wpIn_wide (n := 9)).1 (wpIn_rangeFunc (F := Fence.wide) (n := 9) ?_)
  intro fn hfn
  obtain ⟨r, hr⟩ : ∃ r : Loop, r = { state := .ready, pending := none, fn, tmps := a.tmps, params := ps, assign, body, defers := w.heap.size } := ⟨_, rfl⟩
  have hb1 : Below w.heap.size w ((w.alloc (.deferred (some []))).alloc (.loop r)) := ((Below.refl _ _).alloc (Nat.le_refl _) _).alloc (by simp) _
  refine ⟨w.heap.size + 1, [{ target := .collected w.heap.size, args := #[] }], (w.alloc (.deferred (some []))).alloc (.loop r), { target := .fn (.func gf) lb, args := #[.func (.yield (w.heap.size + 1)) #[] #[]] }, (w.alloc (.deferred (some []))).alloc (.loop r), gf,
    #[.func (.yield (w.heap.size + 1)) #[] #[]] ++ lb, (w.alloc (.deferred (some []))).alloc (.loop r), ?_, ?_, fun f' hf' => trivial, ?_, fun _ => by omega, ?_⟩
  · rw [hr]; exact run_enterLoop_outer _ _ _ _ _
  · simp only [resolve, hg]
    simp [go_sem]
  · simp [invoke, go_sem, eg]
  · refine callsIn_wide.2 ((hc _ _ hb1).mono ?_)
    rintro e W ⟨⟨v, rfl⟩, hb⟩
    have hl : W.heap[w.heap.size + 1]? = some (.loop r) := (hb.block _ (by simp)).trans (heap_at _ _ _ (by simp))
    have hd : W.heap[w.heap.size]? = some (.deferred (some [])) := (hb.block _ (by simp; omega)).trans (alloc2_first _ _ _)
    have hend := run_endLoop (P := Try.prog) hl (by rw [hr]; simp)
    have hbW : Below w.heap.size w W := hb1.trans (hb.mono (by simp; omega))
    have hrow : ∀ o, W.grownBy (W.putObj (w.heap.size + 1) o) (some (w.heap.size + 1)) := fun o => grownBy_putObj' _ _ _
    refine ⟨none, _, by rw [hend, hr], h _ (hbW.grown (hrow _) hbW.size (fun k e => by cases e; omega)) (by simp; exact row_lt hd) ?_⟩
    rw [World.putObj_heap_other (by omega)]; exact hd
/-- A bool that is a result and lies in memory. -/
theorem results_bool {fn : Func} {p : Tmp} (h : fn.results = #[.cell p 4]) (tmps : Array Value) (w : World) (g : Nat) (b : Bool) (hp : tmps.getD p undef = .pointer (some ⟨g, 0, none⟩)) (hc : w.cell? ⟨g, 0, none⟩ = some (.bool b)) :
    (results fn tmps).run Try.prog w = .ok (.bool b) w := by
  have hp' : tmps[p]?.getD undef = .pointer (some ⟨g, 0, none⟩) := by simpa using hp
  have ha : (isAgg 4).run Try.prog w = .ok false w := by kernel_rfl
  have hl : (load ⟨g, 0, none⟩).run Try.prog w = .ok (.bool b) w := by go_simp
  simp [results, h, hp', asAddr, loadVar, ha, hl, hc]
/-- The function that Of hands back, over the list at a block, for the owner at another one. -/
abbrev oFun (fb ob : Nat) : Value := .func (.func 32) #[] #[.pointer (some ⟨fb, 0, none⟩), .pointer (some ⟨ob, 0, none⟩)]
def OnEnd (w : World) (e : Ending) (w' : World) : Prop := ∃ fb ob, e = .returned (oFun fb ob) ∧ w'.cell? ⟨fb, 0, none⟩ = some (.slice none 0 0) ∧ w.heap.size ≤ fb ∧ Below w.heap.size w w'
theorem of_nil (p : Value) (o : Int) (w : World) (hl : ∀ W, Below w.heap.size w W → Calls Try.prog 31 #[p] W fun e w' => e = .returned (.slice none 0 0) ∧ W = w') : Calls Try.prog 16 #[p, .int .u64 o] w fun e w' => OnEnd w e w' := by
  obtain ⟨V, hV⟩ : ∃ V, V = w.alloc (.cells #[.int .u64 o] 32 (0, 0)) := ⟨_, rfl⟩
  have hb : Below w.heap.size w V := by rw [hV]; exact (Below.refl _ _).alloc (Nat.le_refl _) _
  have HB : Hid _ := hb
  have HL : Hid _ := hl V hb
  have HC : Hid _ := cloneR_nil V
  clear hl hb
  go_enter Try.func16, Try.ntmps16
  go_wp2_with fail
  rw [← hV]
  clear hV
  refine Calls.mono HL.out ?_
  rintro e w1 ⟨rfl, rfl⟩
  go_wp2_with fail
  refine Calls.mono HC.out ?_
  rintro e w1 ⟨rfl, rfl⟩
  go_wp2
  go_ret
  refine ⟨V.heap.size, w.heap.size, rfl, ?_, HB.out.size, HB.out.alloc HB.out.size _⟩
  rw [cell_of_row _ _ 0 _ _ _ (heap_alloc_new _ _)]; rfl
/-- Of's function can be gone over. -/
structure OH (w : World) (fb ob cb n cap : Nat) (o : Nat) (l : List Rw) : Prop where
  cell : w.cell? ⟨fb, 0, none⟩ = some (.slice (some ⟨cb, 0, none⟩) n cap)
  own : w.cell? ⟨ob, 0, none⟩ = some (.int .u64 (o : Int))
  row : w.rangeAt cb 0 (fl l)
  len : l.length = n
  le : n ≤ 4096
theorem OH.lt {w : World} {fb ob cb n cap o : Nat} {l : List Rw} (h : OH w fb ob cb n cap o l) : fb < w.heap.size := block_lt h.cell
theorem OH.olt {w : World} {fb ob cb n cap o : Nat} {l : List Rw} (h : OH w fb ob cb n cap o l) : ob < w.heap.size := block_lt h.own
theorem OH.clt {w : World} {fb ob cb n cap o : Nat} {l : List Rw} (h : OH w fb ob cb n cap o l) (hn : 0 < n) : cb < w.heap.size := range_lt h.row (by rw [h.len]; exact hn)
theorem OH.below {w w' : World} {fb ob cb n cap o : Nat} {l : List Rw} (h : OH w fb ob cb n cap o l) (hb : Below w.heap.size w w') : OH w' fb ob cb n cap o l :=
  ⟨(hb.cell (block_lt h.cell)).trans h.cell, (hb.cell (block_lt h.own)).trans h.own, rangeAt_below h.row hb, h.len, h.le⟩
def OfEnd (n o : Nat) (l : List Rw) (w : World) (e : Ending) (w' : World) : Prop := ∃ fb ob cb cap, e = .returned (oFun fb ob) ∧ OH w' fb ob cb n cap o l ∧ w.heap.size ≤ fb ∧ w.heap.size ≤ ob ∧ w.heap.size ≤ cb ∧ Below w.heap.size w w'
theorem of_ok (tb gb n cap o : Nat) (l : List Rw) (w : World) (h : PR w tb gb n cap l) : Calls Try.prog 16 #[.pointer (some ⟨tb, 0, none⟩), .int .u64 (o : Int)] w fun e w' => OfEnd n o l w e w' := by
  obtain ⟨V, hV⟩ : ∃ V, V = w.alloc (.cells #[.int .u64 (o : Int)] 32 (0, 0)) := ⟨_, rfl⟩
  have hb : Below w.heap.size w V := by rw [hV]; exact (Below.refl _ _).alloc (Nat.le_refl _) _
  have hV1 := h.below hb
  have HB : Hid _ := hb
  have HL : Hid _ := list_at tb _ V hV1.cell
  have HC : Hid _ := cloneR_ok gb n cap l V hV1.row h.len h.pos h.le
  have HH : Hid _ := h
  have HO : Hid (V.heap[w.heap.size]? = some (.cells #[.int .u64 (o : Int)] 32 (0, 0))) := by rw [hV]; exact heap_alloc_new _ _
  clear h hV1 hb
  go_enter Try.func16, Try.ntmps16
  go_wp2_with fail
  rw [← hV]
  clear hV
  refine Calls.mono HL.out ?_
  rintro e w1 ⟨rfl, rfl⟩
  go_wp2_with fail
  refine Calls.mono HC.out ?_
  rintro e w1 ⟨cb, cp, rfl, hr, hcb, hcp, hcm, hb⟩
  have HR : Hid _ := hr
  have HB1 : Hid _ := hb
  clear hr hb
  go_wp2
  go_ret
  have hs := HB1.out.size
  have hs0 := HB.out.size
  have hbw : Below w.heap.size w w1 := HB.out.trans (HB1.out.mono hs0)
  have hal : Below w1.heap.size w1 (w1.alloc (.cells #[.slice (some ⟨cb, 0, none⟩) n cp] 28 (0, 0))) := (Below.refl _ _).alloc (Nat.le_refl _) _
  refine ⟨w1.heap.size, w.heap.size, cb, cp, rfl, ⟨?_, ?_, rangeAt_below HR.out hal, HH.out.len, HH.out.le⟩, by omega, Nat.le_refl _, by omega, hbw.alloc hbw.size _⟩
  · rw [cell_of_row _ _ 0 _ _ _ (heap_alloc_new _ _)]; rfl
  · have h1 := (HB1.out.block _ (row_lt HO.out)).trans HO.out
    rw [cell_of_row _ _ 0 _ _ _ ((hal.block _ (row_lt h1)).trans h1)]; rfl
set_option maxHeartbeats 1000000 in
theorem of1_empty (y : Value) (b ob : Nat) (p : Option Addr) (cap : Nat) (w : World) (hc : w.cell? ⟨b, 0, none⟩ = some (.slice p 0 cap)) :
    Calls Try.prog 32 #[y, .pointer (some ⟨b, 0, none⟩), .pointer (some ⟨ob, 0, none⟩)] w fun e w' => (∃ v, e = .returned v) ∧ Below w.heap.size w w' := by
  go_enter Try.func32, Try.ntmps32
  go_wp2
  refine wp_loop_rounds 1 ?_
  rw [rounds_succ]
  go_wp2
  go_end0
  exact ⟨⟨_, rfl⟩, Below.refl _ _⟩
end Go.Proofs.Ytpmbbnmpldeajaa.GC
