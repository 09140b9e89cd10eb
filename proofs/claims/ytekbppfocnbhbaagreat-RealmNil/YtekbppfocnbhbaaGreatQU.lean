/- A range over a function, in plain walks. -/
import Derived.Test.YtekbppfocnbhbaaGreatQM
import Derived.RangeFuncLeaves
import Derived.RangeFuncMany
set_option linter.unusedVariables false
set_option linter.unusedSimpArgs false
namespace Go.Proofs.YtekbppfocnbhbaaGreat.R5
open scoped Classical
open Go.RowKit

theorem calls_marks {f : FuncId} {fn : Func} {c : Code} {args : Array Value} {w : World} {R : Ending → World → Prop} (hf : Tryz.prog.funcs[f]? = some fn) (hb : fn.body = some c)
    (h : c.wp Tryz.prog (bodyPostM Fence.wide 9 Tryz.prog fn R) { tmps := args ++ Array.replicate (fn.ntmps - args.size) undef, defers := [] } w) : Calls Tryz.prog f args w R :=
  callsIn_wide.1 (callsIn_of_wp_marks (F := Fence.wide) (n := 9) hf hb trivial (wpIn_wide.2 h))
/-- The end of a function with marks: each is taken, then what comes of it. -/
theorem marks_ret {fn : Func} {R : Ending → World → Prop} {tmps : Array Value} {v : Value} : ∀ (Ds : List Nat) (w : World), (∀ D ∈ Ds, w.heap[D]? = some (.deferred (some []))) → Ds.Nodup →
    (∀ w', w'.heap.size = w.heap.size → w'.os = w.os → w'.tape = w.tape → w'.output = w.output → (∀ k, k ∉ Ds → w'.heap[k]? = w.heap[k]?) → (results fn tmps).run Tryz.prog w' = .ok v w' ∧ R (.returned v) w') →
    LeavesInM Fence.wide 9 Tryz.prog fn tmps R (Ds.map fun D => { target := .collected D, args := #[] }) .returning w
  | [], w, _, _, h => by
    obtain ⟨h1, h2⟩ := h w rfl rfl rfl rfl (fun _ _ => rfl)
    exact ⟨v, h1, h2⟩
  | D :: Ds, w, hD, hn, h => by
    have h0 := hD D (by simp)
    obtain ⟨hn1, hn2⟩ := List.nodup_cons.1 hn
    refine ⟨by simp, .inl ⟨D, _, rfl, run_takeDeferred h0, ?_⟩⟩
    refine marks_ret Ds _ (fun E hE => ?_) hn2 (fun w' h1 h2 h3 h4 h5 => h w' (by rw [h1]; simp) h2 h3 h4 (fun k hk => ?_))
    · have hne : E ≠ D := fun e => hn1 (e ▸ hE)
      rw [World.putObj_heap_other hne]; exact hD E (by simp [hE])
    · simp only [List.mem_cons, not_or] at hk
      rw [h5 k hk.2, World.putObj_heap_other hk.1]
/-- A range over a function that never yields. -/
theorem wp_rangeFunc_never {g : Operand} {ps : Array Tmp} {assign body : Code} {Q : Exit → Act → World → Prop} {a : Act} {w : World} {gf : Nat} {lb : Array Value} (hg : a.eval g = .func (.func gf) #[] lb) (eg : ∀ args w, (callFunc gf args).run Tryz.prog w = .ok (.enter gf args) w)
    (hc : ∀ y W, Below w.heap.size w W → Calls Tryz.prog gf (#[y] ++ lb) W fun e W' => (∃ v, e = .returned v) ∧ Below W.heap.size W W')
    (h : ∀ W, Below w.heap.size w W → w.heap.size < W.heap.size → W.heap[w.heap.size]? = some (.deferred (some [])) → Q .normal { a with defers := { target := .collected w.heap.size, args := #[] } :: a.defers } W) : (Code.rangeFunc g ps assign body).wp Tryz.prog Q a w := by
  refine (wpIn_wide (n := 9)).1 (wpIn_rangeFunc (F := Fence.wide) (n := 9) ?_)
  intro fn hfn
  obtain ⟨r, hr⟩ : ∃ r : Loop, r = { state := .ready, pending := none, fn, tmps := a.tmps, params := ps, assign, body, defers := w.heap.size } := ⟨_, rfl⟩
  have hb1 : Below w.heap.size w ((w.alloc (.deferred (some []))).alloc (.loop r)) := ((Below.refl _ _).alloc (Nat.le_refl _) _).alloc (by simp) _
  refine ⟨w.heap.size + 1, [{ target := .collected w.heap.size, args := #[] }], (w.alloc (.deferred (some []))).alloc (.loop r), { target := .fn (.func gf) lb, args := #[.func (.yield (w.heap.size + 1)) #[] #[]] }, (w.alloc (.deferred (some []))).alloc (.loop r), gf,
    #[.func (.yield (w.heap.size + 1)) #[] #[]] ++ lb, (w.alloc (.deferred (some []))).alloc (.loop r), ?_, ?_, fun f' hf' => trivial, ?_, fun _ => by omega, ?_⟩
  · rw [hr]; exact run_enterLoop_outer _ _ _ _ _
  · simp only [resolve, hg]
    simp [go_sem]
  · simp [invoke, go_sem, eg]
  · refine callsIn_wide.2 ((hc _ _ hb1).mono ?_)
    rintro e W ⟨⟨v, rfl⟩, hb⟩
    have hl : W.heap[w.heap.size + 1]? = some (.loop r) := (hb.block _ (by simp)).trans (heap_at _ _ _ (by simp))
    have hd : W.heap[w.heap.size]? = some (.deferred (some [])) := (hb.block _ (by simp; omega)).trans (alloc2_first _ _ _)
    have hend := run_endLoop (P := Tryz.prog) hl (by rw [hr]; simp)
    have hbW : Below w.heap.size w W := hb1.trans (hb.mono (by simp; omega))
    have hrow : ∀ o, W.grownBy (W.putObj (w.heap.size + 1) o) (some (w.heap.size + 1)) := fun o => grownBy_putObj' _ _ _
    refine ⟨none, _, by rw [hend, hr], h _ (hbW.grown (hrow _) hbW.size (fun k e => by cases e; omega)) (by simp; exact row_lt hd) ?_⟩
    rw [World.putObj_heap_other (by omega)]; exact hd
/-- A bool that is a result and lies in memory. -/
theorem results_bool {fn : Func} {p : Tmp} (h : fn.results = #[.cell p 4]) (tmps : Array Value) (w : World) (g : Nat) (b : Bool) (hp : tmps.getD p undef = .pointer (some ⟨g, 0, none⟩)) (hc : w.cell? ⟨g, 0, none⟩ = some (.bool b)) :
    (results fn tmps).run Tryz.prog w = .ok (.bool b) w := by
  have hp' : tmps[p]?.getD undef = .pointer (some ⟨g, 0, none⟩) := by simpa using hp
  have ha : (isAgg 4).run Tryz.prog w = .ok false w := by kernel_rfl
  have hl : (load ⟨g, 0, none⟩).run Tryz.prog w = .ok (.bool b) w := by go_simp
  simp [results, h, hp', asAddr, loadVar, ha, hl, hc]
end Go.Proofs.YtekbppfocnbhbaaGreat.R5
