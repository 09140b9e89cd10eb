/- Several texts in one. -/
import Derived.Test.YtefhjjjjbkkedaaGreatWd
import Derived.RangeFuncLeaves
import Derived.RangeFuncMany
import Derived.Shelf.Abstract
import Derived.Test.YtefhjjjjbkkedaaGreatQB
import Derived.Test.YtefhjjjjbkkedaaGreatQC
import Derived.RangeFuncFrom
import Derived.OwnWalkIn
import Derived.TacticsInMore
import Derived.RegionIn
import Derived.LoopNIn
import Derived.LoopIn
import Derived.Deep.RegionHeld3
import Derived.RangeFuncWrites
import Derived.RangeFuncCalls
import Derived.Test.YtefhjjjjbkkedaaGreatQZ
import Derived.Deep.OwnRows
import Derived.RangeFuncNested
import Derived.Test.YtefhjjjjbkkedaaGreatTA
import Derived.Test.YtefhjjjjbkkedaaGreatUA
set_option linter.unusedVariables false
set_option linter.unusedSimpArgs false
/- A range over a function, in plain walks. -/
namespace Go.Proofs.YtefhjjjjbkkedaaGreat.R5
open scoped Classical
open Go.RowKit

theorem calls_marks {f : FuncId} {fn : Func} {c : Code} {args : Array Value} {w : World} {R : Ending → World → Prop} (hf : Tryz.prog.funcs[f]? = some fn) (hb : fn.body = some c)
    (h : c.wp Tryz.prog (bodyPostM Fence.wide 9 Tryz.prog fn R) { tmps := args ++ Array.replicate (fn.ntmps - args.size) undef, defers := [] } w) : Calls Tryz.prog f args w R :=
  callsIn_wide.1 (callsIn_of_wp_marks (F := Fence.wide) (n := 9) hf hb trivial (wpIn_wide.2 h))
/-- The end of a function with marks: each is taken, then what comes of it. -/
theorem marks_ret {fn : Func} {R : Ending → World → Prop} {tmps : Array Value} {v : Value} : ∀ (Ds : List Nat) (w : World), (∀ D ∈ Ds, w.heap[D]? = some (.deferred (some []))) → Ds.Nodup →
    (∀ w', w'.heap.size = w.heap.size → w'.os = w.os → w'.tape = w.tape → w'.output = w.output → (∀ k, k ∉ Ds → w'.heap[k]? = w.heap[k]?) → (results fn tmps).run Tryz.prog w' = .ok v w' ∧ R (.returned v) w') →
    LeavesInM Fence.wide 9 Tryz.prog fn tmps R (Ds.map fun D => { target := .collected D, args := #[] }) .returning w
  | [], w, _, _, h => by
    obtain ⟨h1, h2⟩ := h w rfl rfl rfl rfl (fun _ _ => rfl)
    exact ⟨v, h1, h2⟩
  | D :: Ds, w, hD, hn, h => by
    have h0 := hD D (by simp)
    obtain ⟨hn1, hn2⟩ := List.nodup_cons.1 hn
    refine ⟨by simp, .inl ⟨D, _, rfl, run_takeDeferred h0, ?_⟩⟩
    refine marks_ret Ds _ (fun E hE => ?_) hn2 (fun w' h1 h2 h3 h4 h5 => h w' (by rw [h1]; simp) h2 h3 h4 (fun k hk => ?_))
    · have hne : E ≠ D := fun e => hn1 (e ▸ hE)
      rw [World.putObj_heap_other hne]; exact hD E (by simp [hE])
    · simp only [List.mem_cons, not_or] at hk
      rw [h5 k hk.2, World.putObj_heap_other hk.1]
/-- A range over a function that never yields. -/
theorem wp_rangeFunc_never {g : Operand} {ps : Array Tmp} {assign body : Code} {Q : Exit → Act → World → Prop} {a : Act} {w : World} {gf : Nat} {lb : Array Value} (hg : a.eval g = .func (.func gf) #[] lb) (eg : ∀ args w, (callFunc gf args).run Tryz.prog w = .ok (.enter gf args) w)
    (hc : ∀ y W, Below w.heap.size w W → Calls Tryz.prog gf (#[y] ++ lb) W fun e W' => (∃ v, e = .returned v) ∧ Below W.heap.size W W')
    (h : ∀ W, Below w.heap.size w W → w.heap.size < W.heap.size → W.heap[w.heap.size]? = some (.deferred (some [])) → Q .normal { a with defers := { target := .collected w.heap.size, args := #[] } :: a.defers } W) : (Code.rangeFunc g ps assign body).wp Tryz.prog Q a w := by
  refine (wpIn_wide (n := 9)).1 (wpIn_rangeFunc (F := Fence.wide) (n := 9) ?_)
  intro fn hfn
  obtain ⟨r, hr⟩ : ∃ r : Loop, r = { state := .ready, pending := none, fn, tmps := a.tmps, params := ps, assign, body, defers := w.heap.size } := ⟨_, rfl⟩
  have hb1 : Below w.heap.size w ((w.alloc (.deferred (some []))).alloc (.loop r)) := ((Below.refl _ _).alloc (Nat.le_refl _) _).alloc (by simp) _
  refine ⟨w.heap.size + 1, [{ target := .collected w.heap.size, args := #[] }], (w.alloc (.deferred (some []))).alloc (.loop r), { target := .fn (.func gf) lb, args := #[.func (.yield (w.heap.size + 1)) #[] #[]] }, (w.alloc (.deferred (some []))).alloc (.loop r), gf,
    #[.func (.yield (w.heap.size + 1)) #[] #[]] ++ lb, (w.alloc (.deferred (some []))).alloc (.loop r), ?_, ?_, fun f' hf' => trivial, ?_, fun _ => by omega, ?_⟩
  · rw [hr]; exact run_enterLoop_outer _ _ _ _ _
  · simp only [resolve, hg]
    simp [go_sem]
  · simp [invoke, go_sem, eg]
  · refine callsIn_wide.2 ((hc _ _ hb1).mono ?_)
    rintro e W ⟨⟨v, rfl⟩, hb⟩
    have hl : W.heap[w.heap.size + 1]? = some (.loop r) := (hb.block _ (by simp)).trans (heap_at _ _ _ (by simp))
    have hd : W.heap[w.heap.size]? = some (.deferred (some [])) := (hb.block _ (by simp; omega)).trans (alloc2_first _ _ _)
    have hend := run_endLoop (P := Tryz.prog) hl (by rw [hr]; simp)
    have hbW : Below w.heap.size w W := hb1.trans (hb.mono (by simp; omega))
    have hrow : ∀ o, W.grownBy (W.putObj (w.heap.size + 1) o) (some (w.heap.size + 1)) := fun o => grownBy_putObj' _ _ _
    refine ⟨none, _, by rw [hend, hr], h _ (hbW.grown (hrow _) hbW.size (fun k e => by cases e; omega)) (by simp; exact row_lt hd) ?_⟩
    rw [World.putObj_heap_other (by omega)]; exact hd
/-- A bool that is a result and lies in memory. -/
theorem results_bool {fn : Func} {p : Tmp} (h : fn.results = #[.cell p 4]) (tmps : Array Value) (w : World) (g : Nat) (b : Bool) (hp : tmps.getD p undef = .pointer (some ⟨g, 0, none⟩)) (hc : w.cell? ⟨g, 0, none⟩ = some (.bool b)) :
    (results fn tmps).run Tryz.prog w = .ok (.bool b) w := by
  have hp' : tmps[p]?.getD undef = .pointer (some ⟨g, 0, none⟩) := by simpa using hp
  have ha : (isAgg 4).run Tryz.prog w = .ok false w := by kernel_rfl
  have hl : (load ⟨g, 0, none⟩).run Tryz.prog w = .ok (.bool b) w := by go_simp
  simp [results, h, hp', asAddr, loadVar, ha, hl, hc]
end Go.Proofs.YtefhjjjjbkkedaaGreat.R5

/- The program's Breaks where nothing was asked; Log, Copy of what is not there. -/
namespace Go.Proofs.YtefhjjjjbkkedaaGreat.R5
open scoped Classical
open Go.RowKit

theorem mk_ints (w : World) : (Instr.makeSlice 81 (.int .i64 0) (.int .i64 0)).run Tryz.prog w = .ok (.slice (some ⟨w.heap.size, 0, none⟩) 0 0) (w.alloc (.cells #[] 3 (0, 0))) := by kernel_rfl
set_option maxHeartbeats 1000000 in
set_option maxRecDepth 100000 in
theorem back_empty (y : Value) (b : Nat) (p : Option Addr) (cap : Nat) (w : World) (hc : w.cell? ⟨b, 0, none⟩ = some (.slice p 0 cap)) :
    Calls Tryz.prog 71 #[y, .pointer (some ⟨b, 0, none⟩)] w fun e w' => (∃ v, e = .returned v) ∧ Below w.heap.size w w' := by
  go_enter Tryz.func71, Tryz.ntmps71
  go_wp2
  refine wp_loop_rounds 1 ?_
  rw [rounds_succ]
  go_wp2
  go_end0
  exact ⟨⟨_, rfl⟩, Below.refl _ _⟩
set_option maxHeartbeats 1000000 in
set_option maxRecDepth 100000 in
theorem backward_any (p : Option Addr) (n c : Nat) (w : World) : Calls Tryz.prog 54 #[.slice p n c] w fun e w' => e = .returned (.func (.func 71) #[] #[.pointer (some ⟨w.heap.size, 0, none⟩)]) ∧ w' = w.alloc (.cells #[.slice p n c] 65 (0, 0)) := by
  go_enter Tryz.func54, Tryz.ntmps54
  go_wp2
  go_ret
  exact ⟨rfl, rfl⟩
set_option maxHeartbeats 1000000 in
set_option maxRecDepth 100000 in
theorem next_empty (og : Nat) (p : Option Addr) (cap : Nat) (w : World) (hc : w.cell? ⟨og, 34, none⟩ = some (.slice p 0 cap)) :
    Calls Tryz.prog 37 #[.pointer (some ⟨og, 0, none⟩)] w fun e w' => (∃ v, e = .returned v) ∧ Below w.heap.size w w' := by
  have hmm := @run_makeMap Tryz.prog
  have hmk := fun W => mk_ints W
  have hog := block_lt hc
  simp only at hog
  have hc0 : (w.alloc (.cells #[.pointer (some ⟨og, 0, none⟩)] 26 (0, 0))).cell? ⟨og, 34, none⟩ = some (.slice p 0 cap) := (Below.cell ((Below.refl _ w).alloc (Nat.le_refl _) _) (show (⟨og, 34, none⟩ : Addr).block < w.heap.size from hog)).trans hc
  obtain ⟨W5, hW5⟩ : ∃ W5, W5 = ((((w.alloc (.cells #[.pointer (some ⟨og, 0, none⟩)] 26 (0, 0))).alloc (.cells #[] 3 (0, 0))).alloc (.cells #[.slice (some ⟨w.heap.size + 1, 0, none⟩) 0 0] 81 (0, 0))).alloc (.map #[] 0)).alloc (.cells #[.map (some (w.heap.size + 1 + 1 + 1))] 97 (0, 0)) := ⟨_, rfl⟩
  have hb5 : Below w.heap.size w W5 := by rw [hW5]; exact (((((Below.refl _ w).alloc (Nat.le_refl _) _).alloc (by simp) _).alloc (by simp; omega) _).alloc (by simp; omega) _).alloc (by simp; omega) _
  have hr5 : W5.heap[w.heap.size + 1 + 1]? = some (.cells #[.slice (some ⟨w.heap.size + 1, 0, none⟩) 0 0] 81 (0, 0)) := by rw [hW5, Below.heap_alloc _ _ _ (by simp), Below.heap_alloc _ _ _ (by simp)]; exact heap_at _ _ _ (by simp)
  have hs5 : w.heap.size + 5 = W5.heap.size := by rw [hW5]; simp
  have hc5 : W5.cell? ⟨og, 34, none⟩ = some (.slice p 0 cap) := (hb5.cell (show (⟨og, 34, none⟩ : Addr).block < w.heap.size from hog)).trans hc
  have HR5 : Hid _ := hr5
  have HB5 : Hid _ := hb5
  have HBK : Hid _ := backward_any p 0 cap W5
  rw [hW5] at hc5
  clear hb5 hr5 hc
  refine calls_marks Tryz.func37 rfl ?_
  simp only [Tryz.ntmps37, List.size_toArray, List.length_cons, List.length_nil, Nat.reduceAdd, Nat.reduceSub, Array.replicate_succ, Array.replicate_zero, List.push_toArray, List.append_toArray, List.nil_append, List.cons_append]
  go_wp2_with (go_at_call 54; fail)
  rw [← hW5]
  refine Calls.mono HBK.out ?_
  rintro e w6 ⟨rfl, hw6⟩
  have HB6 : Hid (Below w.heap.size w w6) := by rw [hw6]; exact HB5.out.alloc HB5.out.size _
  have HR6 : Hid (w6.cell? ⟨w.heap.size + 1 + 1, 0, none⟩ = some (.slice (some ⟨w.heap.size + 1, 0, none⟩) 0 0)) := by
    rw [hw6, cell_of_row _ _ 0 _ _ _ ((heap_alloc_old _ _ (by omega)).trans HR5.out)]; rfl
  have HC6 : Hid (w6.cell? ⟨W5.heap.size, 0, none⟩ = some (.slice p 0 cap)) := by
    rw [hw6, cell_of_row _ _ 0 _ _ _ (heap_alloc_new _ _)]; rfl
  clear hW5 hc5 hw6 HR5 HB5 HBK hc0
  go_wp2
  refine wp_rangeFunc_never (gf := 71) (lb := #[.pointer (some ⟨W5.heap.size, 0, none⟩)]) rfl (enters_of Tryz.func71 (by kernel_rfl) rfl) (fun y W hb => back_empty y W5.heap.size p cap W ((hb.cell (block_lt HC6.out)).trans HC6.out)) ?_
  intro W hb hlt hd
  have hcW : W.cell? ⟨w.heap.size + 1 + 1, 0, none⟩ = some (.slice (some ⟨w.heap.size + 1, 0, none⟩) 0 0) := (hb.cell (block_lt HR6.out)).trans HR6.out
  have HBW : Hid (Below w.heap.size w W) := HB6.out.trans (hb.mono HB6.out.size)
  have hs6 := HB6.out.size
  have HD : Hid _ := hd
  clear hb hd
  go_wp2
  refine marks_ret (v := .slice (some ⟨w.heap.size + 1, 0, none⟩) 0 0) [w6.heap.size] W (fun D hD => by have e : D = w6.heap.size := (by simpa using hD); rw [e]; exact HD.out) (by simp) (fun w' h1 h2 h3 h4 h5 => ⟨results_tmp Tryz.results37 _ _ _, ⟨_, rfl⟩, ⟨h2.trans HBW.out.os, h3.trans HBW.out.tape, h4.trans HBW.out.output, by rw [h1]; exact HBW.out.size, fun k hk => (h5 k (by simp; omega)).trans (HBW.out.block k hk)⟩⟩)

/-- The cells of a zero oracle. -/
def zOr : Array Value := (Value.bool false :: ((List.replicate 32 (0 : UInt8)).map B8 ++ [.slice none 0 0, .slice none 0 0, .map none])).toArray
theorem zero_or (w : World) : (zeroValue 67).run Tryz.prog w = .ok (.agg zOr) w := by kernel_rfl
theorem zOr_34 : zOr[34]? = some (.slice none 0 0) := by kernel_rfl
theorem zOr_35 : zOr[35]? = some (.map none) := by kernel_rfl
set_option maxHeartbeats 1000000 in
set_option maxRecDepth 100000 in
theorem breaks1_empty (y : Value) (b : Nat) (p : Option Addr) (cap : Nat) (w : World) (hc : w.cell? ⟨b, 34, none⟩ = some (.slice p 0 cap)) :
    Calls Tryz.prog 36 #[y, .pointer (some ⟨b, 0, none⟩)] w fun e w' => (∃ v, e = .returned v) ∧ Below w.heap.size w w' := by
  have HN : Hid _ := next_empty b p cap w hc
  have HC : Hid _ := hc
  have hbl := block_lt hc
  simp only at hbl
  clear hc
  go_enter Tryz.func36, Tryz.ntmps36
  go_wp2_with fail
  refine Calls.mono HN.out ?_
  rintro e w1 ⟨⟨v, rfl⟩, hb⟩
  have hc1 : w1.cell? ⟨b, 34, none⟩ = some (.slice p 0 cap) := (hb.cell (show (⟨b, 34, none⟩ : Addr).block < w.heap.size from hbl)).trans HC.out
  have HB : Hid _ := hb
  clear hb HC
  go_wp2
  refine wp_loop_rounds 1 ?_
  rw [rounds_succ]
  go_wp2
  go_end0
  exact ⟨⟨_, rfl⟩, HB.out⟩
set_option maxHeartbeats 1000000 in
set_option maxRecDepth 100000 in
theorem breaks_none (pz : Value) (w : World) (hn : ∀ X, Below w.heap.size w X → Calls Tryz.prog 25 #[pz] X fun e w' => e = .returned (.bool true) ∧ w' = X) :
    Calls Tryz.prog 15 #[pz] w fun e w' => e = .returned (.func (.func 36) #[] #[.pointer (some ⟨w.heap.size, 0, none⟩)]) ∧ w' = w.alloc (.cells zOr 67 (0, 0)) := by
  have hz := fun W => zero_or W
  have hnn := hn (w.alloc (.cells zOr 67 (0, 0))) ((Below.refl _ _).alloc (Nat.le_refl _) _)
  obtain ⟨Z, hZ⟩ : ∃ Z, Z = zOr := ⟨_, rfl⟩
  rw [← hZ] at hz hnn ⊢
  have HNN : Hid _ := hnn
  clear hn hnn hZ
  go_enter Tryz.func15, Tryz.ntmps15
  go_wp2_with (go_at_call 25; refine Calls.mono HNN.out ?_; rintro e w1 ⟨rfl, rfl⟩)
  go_ret
  exact ⟨rfl, rfl⟩
set_option maxHeartbeats 1000000 in
set_option maxRecDepth 100000 in
theorem log_none (pz : Value) (w : World) (hn : Calls Tryz.prog 25 #[pz] w fun e w' => e = .returned (.bool true) ∧ w' = w) :
    Calls Tryz.prog 10 #[pz] w fun e w' => e = .returned (.slice none 0 0) ∧ w' = w := by
  have HNN : Hid _ := hn
  clear hn
  go_enter Tryz.func10, Tryz.ntmps10
  go_wp2_with (go_at_call 25; refine Calls.mono HNN.out ?_; rintro e w1 ⟨rfl, rfl⟩)
  go_ret
  exact ⟨rfl, rfl⟩
set_option maxHeartbeats 1000000 in
set_option maxRecDepth 100000 in
theorem copy_none (pz : Value) (w : World) (hn : Calls Tryz.prog 25 #[pz] w fun e w' => e = .returned (.bool true) ∧ w' = w) :
    Calls Tryz.prog 9 #[pz] w fun e w' => e = .returned (.pointer none) ∧ w' = w := by
  have HNN : Hid _ := hn
  clear hn
  go_enter Tryz.func9, Tryz.ntmps9
  go_wp2_with (go_at_call 25; refine Calls.mono HNN.out ?_; rintro e w1 ⟨rfl, rfl⟩)
  go_ret
  exact ⟨rfl, rfl⟩
end Go.Proofs.YtefhjjjjbkkedaaGreat.R5

/- The map of classes that nextAlike keeps: its keys, and it in memory. -/
namespace Go.Proofs.YtefhjjjjbkkedaaGreat.R5.PS
open scoped Classical
open Go.RowKit
open Go.ChangeMaps (setBlock heap_setBlock_same heap_setBlock_other)

/-- A class. -/
structure Cl where
  kind : Int
  dom : Int
  ans : List UInt8
/-- Two classes, alike or not. -/
def decC (a b : Cl) : Decidable (a = b) := decidable_of_iff (a.kind = b.kind ∧ a.dom = b.dom ∧ a.ans = b.ans) ⟨fun h => by obtain ⟨h1, h2, h3⟩ := h; cases a; cases b; simp_all, fun h => by subst h; exact ⟨rfl, rfl, rfl⟩⟩
/-- A map with one more. -/
def upd (f : Cl → Option Int) (c : Cl) (i : Int) : Cl → Option Int := fun c' => @ite _ (c' = c) (decC c' c) (some i) (f c')
theorem upd_pos (f : Cl → Option Int) (c : Cl) (i : Int) : upd f c i c = some i := by unfold upd; rw [if_pos rfl]
theorem upd_neg (f : Cl → Option Int) {c c' : Cl} (i : Int) (h : c' ≠ c) : upd f c i c' = f c' := by unfold upd; rw [if_neg h]
structure cOk (c : Cl) : Prop where
  kind : (Lit.int .i64 c.kind).wf = true
  dom : (Lit.int .i64 c.dom).wf = true
  ans : c.ans.length = 32
def cLl (c : Cl) : List Value := .int .i64 c.kind :: .int .i64 c.dom :: c.ans.map B8
def cV (c : Cl) : Value := .agg (cLl c).toArray
theorem cLl_len (c : Cl) (h : c.ans.length = 32) : (cLl c).length = 34 := by unfold cLl; simp [h]
theorem cV_inj {a b : Cl} (h : cV a = cV b) : a = b := by
  unfold cV cLl at h
  have h' : Value.int .i64 a.kind :: Value.int .i64 a.dom :: a.ans.map B8 = Value.int .i64 b.kind :: Value.int .i64 b.dom :: b.ans.map B8 := by simpa using h
  simp only [List.cons.injEq, Value.int.injEq, true_and] at h'
  obtain ⟨h1, h2, h3⟩ := h'
  have h4 := mapB8_inj h3
  obtain ⟨_, _, _⟩ := a
  obtain ⟨_, _, _⟩ := b
  simp_all
theorem lawC : Maps.Keyed Tryz.prog 102 := Maps.Keyed.of_law (deep_law_laid laidOut5 (m := 3) (by omega) (of_decide_eq_true (by kernel_rfl)) (by kernel_rfl) (by kernel_rfl))
theorem cells_c : Tryz.prog.cellsOf 102 = 34 := by kernel_rfl
theorem key_c (c : Cl) (h : cOk c) : ∃ kl, keyOf Tryz.prog 102 (cV c) = some kl := by
  obtain ⟨m, hm⟩ := size5
  obtain ⟨ld, hd⟩ := keyLits_dig m c.ans h.ans
  have hk := keyLits_int5 (m + 1) 35 c.kind Tryz.underlying35 h.kind
  have ho := keyLits_int5 (m + 1) 36 c.dom Tryz.underlying36 h.dom
  have e1 : ((cLl c).drop 0).take 1 = [.int .i64 c.kind] := by unfold cLl; simp
  have e2 : ((cLl c).drop 1).take 1 = [.int .i64 c.dom] := by unfold cLl; simp
  have e3 : ((cLl c).drop 2).take 32 = c.ans.map B8 := by
    unfold cLl
    rw [show (2 : Nat) = 1 + 1 from rfl, List.drop_succ_cons, List.drop_succ_cons, List.drop_zero, List.take_of_length_le (by simp [h.ans])]
  have hlits : Tryz.prog.keyLits (m + 2 + 1) 102 (cLl c) = some ([[Lit.int .i64 c.kind], [.int .i64 c.dom], ld].flatten) := by
    unfold Program.keyLits
    rw [Tryz.underlying102]
    simp only
    rw [if_pos ⟨by rw [cells_c, cLl_len c h.ans], by kernel_rfl⟩]
    simp only [List.mapM_cons, List.mapM_nil, cells_k, cells_m, cells_d, e1, e2, e3, hd, hk, ho]
    rfl
  unfold keyOf
  rw [Tryz.underlying102]
  simp only
  rw [if_pos, hm]
  · rw [show (cV c).cells.toList = cLl c by unfold cV; simp [Value.cells], hlits]
    exact ⟨_, rfl⟩
  · rw [Bool.and_eq_true]
    refine ⟨by kernel_rfl, ?_⟩
    unfold cV Value.formed
    rw [Tryz.underlying102, cells_c]
    simp [cLl_len c h.ans]
/-- A map of classes in memory. -/
structure MI (w : World) (mb : Nat) (f : Cl → Option Int) : Prop where
  ex : ∃ es clock, w.heap[mb]? = some (.map es clock) ∧ (es.toList.map (·.key)).Nodup ∧ (∀ e ∈ es.toList, ∃ c i, cOk c ∧ e.key = cV c ∧ f c = some i ∧ e.val = .int .i64 i) ∧ ∀ c i, cOk c → f c = some i → ∃ e ∈ es.toList, e.key = cV c
theorem MI.lt {w : World} {mb : Nat} {f : Cl → Option Int} (h : MI w mb f) : mb < w.heap.size := by obtain ⟨es, c, h1, _⟩ := h.ex; exact row_lt h1
theorem MI.keep {w w' : World} {mb : Nat} {f : Cl → Option Int} (h : MI w mb f) (e : w'.heap[mb]? = w.heap[mb]?) : MI w' mb f := by
  obtain ⟨es, c, h1, h2⟩ := h.ex; exact ⟨es, c, e.trans h1, h2⟩
theorem MI.nil {w : World} {mb : Nat} (h : w.heap[mb]? = some (.map #[] 0)) : MI w mb (fun _ => none) := ⟨#[], 0, h, by simp, fun e he => by simp at he, fun c i _ h => by cases h⟩
theorem mi_find {w : World} {f : Cl → Option Int} {es : Array MapEntry} (h3 : ∀ e ∈ es.toList, ∃ c i, cOk c ∧ e.key = cV c ∧ f c = some i ∧ e.val = .int .i64 i) (h4 : ∀ c i, cOk c → f c = some i → ∃ e ∈ es.toList, e.key = cV c) {c : Cl} (hc : cOk c) :
    (f c = none ∧ (Instr.findKey 102 (cV c) es.toList).run Tryz.prog w = .ok none w ∧ ∀ e ∈ es.toList, e.key ≠ cV c) ∨
    (∃ i j, f c = some i ∧ (Instr.findKey 102 (cV c) es.toList).run Tryz.prog w = .ok (some (j, .int .i64 i)) w ∧ ∃ e, es.toList[j]? = some e ∧ e.key = cV c) := by
  obtain ⟨kl, hk⟩ := key_c c hc
  rcases lawC.find w hk es.toList (fun e he => by obtain ⟨c', i, hc', e1, _⟩ := h3 e he; rw [e1]; exact key_c c' hc') with ⟨hr, hn⟩ | ⟨j, e, hr, hj, he⟩
  · refine .inl ⟨?_, hr, hn⟩
    cases hf : f c with
    | none => rfl
    | some i => obtain ⟨e, he, e1⟩ := h4 c i hc hf; exact absurd e1 (hn e he)
  · obtain ⟨c', i, hc', e1, e2, e3⟩ := h3 e (List.mem_of_getElem? hj)
    have : c' = c := cV_inj (e1.symm.trans he)
    subst this
    exact .inr ⟨i, j, e2, by rw [← e3]; exact hr, e, hj, he⟩
theorem mi_look {w : World} {mb : Nat} {f : Cl → Option Int} (h : MI w mb f) {c : Cl} (hc : cOk c) (hz : (zeroValue 3).run Tryz.prog w = .ok (.int .i64 0) w) :
    (Instr.lookup 97 (.map (some mb)) (cV c) false).run Tryz.prog w = .ok (.int .i64 ((f c).getD 0)) w := by
  obtain ⟨es, clock, h1, h2, h3, h4⟩ := h.ex
  obtain ⟨kl, hk⟩ := key_c c hc
  rcases mi_find (w := w) h3 h4 hc with ⟨hf, hr, _⟩ | ⟨i, j, hf, hr, _⟩
  · simp [Instr.lookup, run_underlying Tryz.underlying97, MapKept.run_getObj_map h1, lawC.check w _ hk, hr, hz, hf, Result.andThen]
  · simp [Instr.lookup, run_underlying Tryz.underlying97, MapKept.run_getObj_map h1, lawC.check w _ hk, hr, hf, Result.andThen]
theorem mi_put {w : World} {mb : Nat} {f : Cl → Option Int} (h : MI w mb f) {c : Cl} (hc : cOk c) (i : Int) :
    ∃ o, (Instr.mapUpdate 97 (.map (some mb)) (cV c) (.int .i64 i)).run Tryz.prog w = .ok () (setBlock w mb o) ∧ MI (setBlock w mb o) mb (upd f c i) ∧ w.grownBy (setBlock w mb o) (some mb) := by
  obtain ⟨es, clock, h1, h2, h3, h4⟩ := h.ex
  obtain ⟨kl, hk⟩ := key_c c hc
  have hg : ∀ o : Obj, w.grownBy (setBlock w mb o) (some mb) := fun o => ⟨rfl, rfl, rfl, by simp [setBlock], fun i _ hi => heap_setBlock_other h1 _ (fun e => hi (by rw [e]))⟩
  rcases mi_find (w := w) h3 h4 hc with ⟨hf, hr, hn⟩ | ⟨i0, j, hf, hr, e0, hj, he0⟩
  · refine ⟨.map (es.push ⟨cV c, .int .i64 i, clock⟩) (clock + 1), ?_, ⟨_, _, heap_setBlock_same h1 _, ?_, ?_, ?_⟩, hg _⟩
    · simp [Instr.mapUpdate, run_underlying Tryz.underlying97, MapKept.run_getObj_map h1, lawC.check w false hk, hr, MapKept.run_setObj_map _ h1, Result.andThen, setBlock]
    · rw [Array.toList_push, List.map_append, List.nodup_append]
      refine ⟨h2, by simp, fun a ha b hb e => ?_⟩
      obtain ⟨x, hx, rfl⟩ := List.mem_map.1 ha
      have hb' : b = cV c := by simpa using hb
      exact hn x hx (e.trans hb')
    · intro e he
      rw [Array.toList_push] at he
      rcases List.mem_append.1 he with he | he
      · obtain ⟨c', i', q1, q2, q3, q4⟩ := h3 e he
        refine ⟨c', i', q1, q2, ?_, q4⟩
        rw [upd_neg f i (fun hcc => by rw [hcc] at q2; exact hn e he q2)]; exact q3
      · have : e = ⟨cV c, .int .i64 i, clock⟩ := by simpa using he
        subst this
        exact ⟨c, i, hc, rfl, upd_pos f _ i, rfl⟩
    · intro c' i' hc' hf'
      rw [Array.toList_push]
      by_cases hcc : c' = c
      · subst hcc; exact ⟨⟨cV c', .int .i64 i, clock⟩, List.mem_append_right _ (by simp), rfl⟩
      · rw [upd_neg f i hcc] at hf'
        obtain ⟨e, he, e1⟩ := h4 c' i' hc' hf'
        exact ⟨e, List.mem_append_left _ he, e1⟩
  · have hjl : j < es.toList.length := (List.getElem?_eq_some_iff.1 hj).1
    have hje : es.toList[j] = e0 := by have := hj; rw [List.getElem?_eq_getElem hjl] at this; simpa using this
    have hM : (es.modify j fun e => { e with key := cV c, val := .int .i64 i }).toList = es.toList.set j { e0 with key := cV c, val := .int .i64 i } := by
      rw [Array.toList_modify]
      apply List.ext_getElem?
      intro k
      rw [List.getElem?_modify, List.getElem?_set]
      by_cases hk' : j = k
      · subst hk'; rw [if_pos rfl, if_pos hjl, hj]; simp
      · rw [if_neg hk']; simp [hk']
    refine ⟨.map (es.modify j fun e => { e with key := cV c, val := .int .i64 i }) clock, ?_, ⟨_, _, heap_setBlock_same h1 _, ?_, ?_, ?_⟩, hg _⟩
    · have hst : (Instr.keyThatStays (cV c) (cV c)).run Tryz.prog w = .ok (cV c) w := lawC.stays w hk
      have hja : ((es[j]?).map (·.key)).getD (cV c) = cV c := by rw [← Array.getElem?_toList, hj]; exact he0
      simp [Instr.mapUpdate, run_underlying Tryz.underlying97, MapKept.run_getObj_map h1, lawC.check w false hk, hr, hja, hst, MapKept.run_setObj_map _ h1, Result.andThen, setBlock]
    · rw [hM, List.map_set]
      show ((es.toList.map (·.key)).set j (cV c)).Nodup
      have : (es.toList.map (·.key)).set j (cV c) = es.toList.map (·.key) := by
        apply List.ext_getElem?
        intro k
        rw [List.getElem?_set]
        split
        · rename_i hk'; subst hk'; rw [if_pos (by simpa using hjl), List.getElem?_map, hj]; simp [he0]
        · rfl
      rw [this]; exact h2
    · intro e he
      rw [hM] at he
      rcases List.mem_or_eq_of_mem_set he with he' | he'
      · obtain ⟨c', i', q1, q2, q3, q4⟩ := h3 e he'
        by_cases hcc : c' = c
        · subst hcc
          obtain ⟨k, hk'⟩ := List.getElem?_of_mem he
          rw [List.getElem?_set] at hk'
          split at hk'
          · have : e = { e0 with key := cV c', val := .int .i64 i } := by simpa using hk'.symm
            subst this
            exact ⟨c', i, hc, rfl, upd_pos f _ i, rfl⟩
          · rename_i hne
            exfalso
            have hk1 : (es.toList.map (·.key))[k]? = some (cV c') := by rw [List.getElem?_map, hk']; simp [q2]
            have hk2 : (es.toList.map (·.key))[j]? = some (cV c') := by rw [List.getElem?_map, hj]; simp [he0]
            obtain ⟨l1, g1⟩ := List.getElem?_eq_some_iff.1 hk1
            obtain ⟨l2, g2⟩ := List.getElem?_eq_some_iff.1 hk2
            exact hne ((List.getElem_inj h2).1 (g2.trans g1.symm))
        · exact ⟨c', i', q1, q2, by rw [upd_neg f i hcc]; exact q3, q4⟩
      · subst he'
        exact ⟨c, i, hc, rfl, upd_pos f _ i, rfl⟩
    · intro c' i' hc' hf'
      rw [hM]
      by_cases hcc : c' = c
      · subst hcc
        exact ⟨_, List.mem_set hjl _, rfl⟩
      · rw [upd_neg f i hcc] at hf'
        obtain ⟨e, he, e1⟩ := h4 c' i' hc' hf'
        obtain ⟨k, hk'⟩ := List.getElem?_of_mem he
        refine ⟨e, List.mem_of_getElem? (i := k) ?_, e1⟩
        rw [List.getElem?_set, if_neg ?_, hk']
        intro hjk
        subst hjk
        rw [hj] at hk'
        have : e0 = e := by simpa using hk'
        subst this
        exact hcc (cV_inj (e1.symm.trans he0))
end Go.Proofs.YtefhjjjjbkkedaaGreat.R5.PS

/- Breaks: the mathematics. -/
namespace Go.Proofs.YtefhjjjjbkkedaaGreat.R5.PS
open scoped Classical

/-- The first of its kind, and the rest. -/
theorem filter_head {p : Nat → Bool} : ∀ {n s : Nat} {j : Nat} {t : List Nat}, (List.range' s n).filter p = j :: t → s ≤ j ∧ j < s + n ∧ p j = true ∧ t = (List.range' (j + 1) (s + n - (j + 1))).filter p
  | 0, s, j, t, h => by simp at h
  | n + 1, s, j, t, h => by
    rw [List.range'_succ, List.filter_cons] at h
    split at h
    · rename_i hp
      obtain ⟨rfl, h2⟩ := List.cons.inj h
      exact ⟨Nat.le_refl _, by omega, hp, by rw [← h2, show s + (n + 1) - (s + 1) = n by omega]⟩
    · obtain ⟨h1, h2, h3, h4⟩ := filter_head h
      exact ⟨by omega, by omega, h3, by rw [h4, show s + 1 + n - (j + 1) = s + (n + 1) - (j + 1) by omega]⟩
/-- Is it of the class? -/
def isC (o : Option Cl) (c : Cl) : Bool := match o with
  | some d => @decide (d = c) (decC d c)
  | none => false
theorem isC_iff {o : Option Cl} {c : Cl} : isC o c = true ↔ o = some c := by
  unfold isC
  cases o with
  | none => simp
  | some d => simp
/-- The places from i on at which class c stands. -/
def plc (cs : List Cl) (i : Nat) (c : Cl) : List Nat := (List.range' i (cs.length - i)).filter (fun k => isC cs[k]? c)
/-- What the map tells of a class, when the places from i on have been gone through. -/
def firstAt (cs : List Cl) (i : Nat) (c : Cl) : Option Int := match plc cs i c with
  | [] => none
  | k :: _ => some (k : Int)
/-- The next place of the class at i, or 0. -/
def nextAt (cs : List Cl) (i : Nat) : Nat := match cs[i]? with
  | some c => (plc cs (i + 1) c).head?.getD 0
  | none => 0
theorem plc_end (cs : List Cl) (c : Cl) : plc cs cs.length c = [] := by unfold plc; simp
theorem plc_step (cs : List Cl) (i : Nat) (c d : Cl) (h : cs[i]? = some d) : plc cs i c = @ite _ (d = c) (decC d c) (i :: plc cs (i + 1) c) (plc cs (i + 1) c) := by
  have hi : i < cs.length := (List.getElem?_eq_some_iff.1 h).1
  unfold plc
  rw [show cs.length - i = (cs.length - (i + 1)) + 1 by omega, List.range'_succ, List.filter_cons, h]
  by_cases hd : d = c
  · rw [if_pos hd, if_pos (isC_iff.2 (by rw [hd]))]
  · rw [if_neg hd, if_neg (fun h => hd (by simpa using isC_iff.1 h))]
theorem firstAt_end (cs : List Cl) : firstAt cs cs.length = fun _ => none := by
  funext c
  unfold firstAt
  rw [plc_end]
theorem firstAt_step (cs : List Cl) (i : Nat) (d : Cl) (h : cs[i]? = some d) : firstAt cs i = upd (firstAt cs (i + 1)) d i := by
  funext c
  by_cases hd : d = c
  · subst hd
    rw [upd_pos]
    unfold firstAt
    rw [plc_step cs i d d h, if_pos rfl]
  · rw [upd_neg _ _ (fun e => hd e.symm)]
    unfold firstAt
    rw [plc_step cs i c d h, if_neg hd]
theorem nextAt_first (cs : List Cl) (i : Nat) (d : Cl) (h : cs[i]? = some d) : (firstAt cs (i + 1) d).getD 0 = (nextAt cs i : Int) := by
  unfold firstAt nextAt
  rw [h]
  simp only
  cases plc cs (i + 1) d with
  | nil => rfl
  | cons j t => rfl
/-- Going from place to place goes over all of a class. -/
theorem chain (cs : List Cl) (i : Nat) (c : Cl) (h : cs[i]? = some c) : (plc cs (i + 1) c = [] ∧ nextAt cs i = 0) ∨
    ∃ j t, plc cs (i + 1) c = j :: t ∧ nextAt cs i = j ∧ i < j ∧ j < cs.length ∧ cs[j]? = some c ∧ plc cs (j + 1) c = t := by
  unfold nextAt
  rw [h]
  cases hp : plc cs (i + 1) c with
  | nil => exact .inl ⟨rfl, by simp [hp]⟩
  | cons j t =>
    have hi : i < cs.length := (List.getElem?_eq_some_iff.1 h).1
    have hp' := hp
    unfold plc at hp'
    obtain ⟨h1, h2, h3, h4⟩ := filter_head hp'
    refine .inr ⟨j, t, rfl, by simp [hp], by omega, by omega, isC_iff.1 h3, ?_⟩
    rw [h4]
    unfold plc
    rw [show i + 1 + (cs.length - (i + 1)) - (j + 1) = cs.length - (j + 1) by omega]
/-- The pairs that the document asks for, and in what order. -/
def pairs (cs : List Cl) : List (Nat × Nat) := (List.range cs.length).flatMap fun i => match cs[i]? with
  | some c => (plc cs (i + 1) c).map fun k => (i, k)
  | none => []
theorem mem_plc {cs : List Cl} {i k : Nat} {c : Cl} : k ∈ plc cs i c ↔ i ≤ k ∧ k < cs.length ∧ cs[k]? = some c := by
  unfold plc
  rw [List.mem_filter, List.mem_range'_1]
  constructor
  · rintro ⟨⟨h1, h2⟩, h3⟩
    have h3' : cs[k]? = some c := isC_iff.1 h3
    exact ⟨h1, (List.getElem?_eq_some_iff.1 h3').1, h3'⟩
  · rintro ⟨h1, h2, h3⟩
    exact ⟨⟨h1, by omega⟩, isC_iff.2 h3⟩
end Go.Proofs.YtefhjjjjbkkedaaGreat.R5.PS

/- nextAlike: what its rounds make, as a fold. -/
namespace Go.Proofs.YtefhjjjjbkkedaaGreat.R5.PS
open scoped Classical

/-- A round at place i: the list of next places, and what the map tells. -/
def stp (cs : List Cl) (s : List Int × (Cl → Option Int)) (i : Nat) : List Int × (Cl → Option Int) := match cs[i]? with
  | some c => (s.1.set i ((s.2 c).getD 0), upd s.2 c i)
  | none => s
def stS (cs : List Cl) (pre : List Nat) : List Int × (Cl → Option Int) := pre.foldl (stp cs) (List.replicate cs.length 0, fun _ => none)
theorem stS_snoc (cs : List Cl) (pre : List Nat) (i : Nat) : stS cs (pre ++ [i]) = stp cs (stS cs pre) i := by unfold stS; rw [List.foldl_append]; rfl
theorem stS_len (cs : List Cl) (pre : List Nat) : (stS cs pre).1.length = cs.length := by
  unfold stS
  have : ∀ (pre : List Nat) (s : List Int × (Cl → Option Int)), s.1.length = cs.length → (pre.foldl (stp cs) s).1.length = cs.length := by
    intro pre
    induction pre with
    | nil => intro s h; exact h
    | cons i pre ih =>
      intro s h
      refine ih _ ?_
      unfold stp
      split
      · show (s.1.set _ _).length = _; rw [List.length_set]; exact h
      · exact h
  exact this pre _ (by simp)
def lst (cs : List Cl) (k : Nat) : List Int := (List.range cs.length).map fun i => if i < k then 0 else (nextAt cs i : Int)
theorem stS_down (cs : List Cl) : ∀ m, m ≤ cs.length → stS cs (List.range' (cs.length - m) m).reverse = (lst cs (cs.length - m), firstAt cs (cs.length - m))
  | 0, _ => by
    rw [Nat.sub_zero, firstAt_end]
    show (List.replicate cs.length 0, _) = _
    congr 1
    unfold lst
    apply List.ext_getElem?
    intro i
    rw [List.getElem?_replicate, List.getElem?_map]
    by_cases hi : i < cs.length
    · rw [List.getElem?_eq_getElem (by simpa using hi)]; simp [hi]
    · rw [List.getElem?_eq_none (by simpa using hi)]; simp [hi]
  | m + 1, hm => by
    have ih := stS_down cs m (by omega)
    obtain ⟨k, hk⟩ : ∃ k, k = cs.length - (m + 1) := ⟨_, rfl⟩
    have hk1 : cs.length - m = k + 1 := by omega
    have hkl : k < cs.length := by omega
    rw [hk1] at ih
    rw [← hk, List.range'_succ, List.reverse_cons, stS_snoc, ih]
    have hd : cs[k]? = some cs[k] := List.getElem?_eq_getElem hkl
    unfold stp
    rw [hd]
    simp only
    rw [nextAt_first cs k _ hd, firstAt_step cs k _ hd]
    congr 1
    unfold lst
    apply List.ext_getElem?
    intro i
    rw [List.getElem?_set, List.getElem?_map, List.getElem?_map, List.length_map, List.length_range]
    by_cases hki : k = i
    · subst hki
      rw [if_pos rfl, if_pos hkl, List.getElem?_eq_getElem (by simpa using hkl)]
      simp
    · rw [if_neg hki]
      by_cases hi : i < cs.length
      · rw [List.getElem?_eq_getElem (by simpa using hi)]
        simp only [List.getElem_range, Option.map_some, Option.some.injEq]
        by_cases hik : i < k
        · rw [if_pos (by omega), if_pos hik]
        · rw [if_neg (by omega), if_neg hik]
      · rw [List.getElem?_eq_none (by simpa using hi)]; rfl
/-- All rounds. -/
theorem stS_all (cs : List Cl) : (stS cs (List.range cs.length).reverse).1 = (List.range cs.length).map fun i => (nextAt cs i : Int) := by
  have h := stS_down cs cs.length (Nat.le_refl _)
  rw [Nat.sub_self] at h
  rw [List.range_eq_range', h]
  unfold lst
  simp [List.range_eq_range']
end Go.Proofs.YtefhjjjjbkkedaaGreat.R5.PS

/- slices.Backward over questions, for every loop body. -/
namespace Go.Proofs.YtefhjjjjbkkedaaGreat.R5.PS
open scoped Classical
open Go.RowKit

/-- A load of a range, in a fenced walk. -/
theorem wpListIn_load_mid {F : Fence} {n : Nat} {P : Program} {ops : Array Oper} {rest : List Oper} {op : Oper} {a : Act} {w : World} {Q : Exit → Act → World → Prop} (hgd : op.guard = none) (ty : TypeId) (x : Operand) (ho : op.op = .load ty x)
    (b o : Nat) (hx : a.eval x = .pointer (some ⟨b, o, none⟩)) (cs : List Value) (d : TypeDesc) (hc : w.rangeAt b o cs) (hu : P.underlying ty = some d) (hd : d.isRow = true) (hi : (P.info? ty).map (·.size) = some cs.length)
    (h : wpListIn F n P ops Q rest (a.put op.dst (.agg cs.toArray)) w) : wpListIn F n P ops Q (op :: rest) a w := by
  refine wpListIn_plain hgd fun K hK' => ?_
  unfold Oper.wpIn
  refine ⟨?_, ?_⟩
  · simp [Oper.about, ho]
  · rw [Oper.semAt_plain F _ _ (by rw [ho]; intro c hc'; cases hc')]
    unfold execOp
    simp only [ho, hx, Instr.loadAt, Instr.sureAddr, Sem.run_bind, Sem.run_pure, Result.andThen_ok, run_loadVar_mid w b o ty cs d hc hu hd hi]
    exact hK' _ _ h
/-- What a round hands on. -/
def encB (l : List (Qn × List UInt8)) (x : Fin l.length) : Array Value := #[.int .i64 (x.val : Int), .agg (kL l[x].1).toArray]
/-- What the body must leave as it is. -/
def KpB (Bm g : Nat) (A B : World) : Prop := B.heap[Bm]? = A.heap[Bm]? ∧ B.heap[g]? = A.heap[g]?
set_option maxRecDepth 100000 in
set_option maxHeartbeats 2000000 in
theorem back1_in (F : Fence) (n : Nat) (hf : F.fn 71) (hro : F.round = none) (hn : 1 ≤ n) (y Bm g cap : Nat) (l : List (Qn × List UInt8)) (hlk : ∀ x ∈ l, x.1.key.length = 32) (hll : l.length < 1000000) (J Jx : List (Fin l.length) → World → Prop)
    (hY : ∀ pre x W, J pre W → pre.length < l.length → YieldAt F (n - 1) Tryz.prog y (encB l x) W fun e W' =>
      (e = .returned (.bool true) ∧ J (pre ++ [x]) W' ∧ KpB Bm g W W') ∨ (e = .returned (.bool false) ∧ Jx (pre ++ [x]) W'))
    (W : World) (hm : W.cell? ⟨Bm, 0, none⟩ = some (.slice (some ⟨g, 0, none⟩) l.length cap)) (hrow : ∀ (i : Nat) (e : Qn × List UInt8), l[i]? = some e → W.rangeAt g (i * 35) (kL e.1)) (h0 : J [] W) :
    CallsIn F n Tryz.prog 71 #[.func (.yield y) #[] #[], .pointer (some ⟨Bm, 0, none⟩)] W fun e W' => (∃ v, e = .returned v) ∧
      ((∃ xs : List (Fin l.length), xs.map (·.val) = (List.range l.length).reverse ∧ J xs W') ∨ (∃ pre, True ∧ Jx pre W')) := by
  refine callsIn_of_wp Tryz.func71 rfl hf ?_ hro
  simp only [Tryz.ntmps71, List.size_toArray, List.length_cons, List.length_nil, Nat.reduceAdd, Nat.reduceSub, Array.replicate_succ, Array.replicate_zero, List.push_toArray, List.append_toArray, List.nil_append, List.cons_append]
  have HY : Hid _ := hY
  have HROW : Hid _ := hrow
  have HLK : Hid _ := hlk
  obtain ⟨N, hN⟩ : ∃ N, N = l.length := ⟨_, rfl⟩
  have HN : Hid _ := hN
  have hN6 : N < 1000000 := by rw [hN]; exact hll
  rw [← hN] at hm
  have HM : Hid _ := hm
  clear hY hrow hlk hN
  gi_wp2
  gi_loopw [3] (fun i wr => ∃ (k : Nat) (pre : List (Fin l.length)), k ≤ N ∧ i = .int .i64 ((k : Int) - 1) ∧ pre.map (·.val) = (List.range' k (N - k)).reverse ∧ KpB Bm g W wr ∧ J pre wr) (fun i _ => (intOf i + 1).toNat)
  case atStart => exact ⟨N, [], Nat.le_refl _, rfl, by simp, ⟨rfl, rfl⟩, h0⟩
  case round =>
    obtain ⟨k, pre, hk, rfl, hpre, hKp, hJ⟩ := hrel
    have HJ : Hid (J pre wr) := hJ
    have HKP : Hid (KpB Bm g W wr) := hKp
    have HPRE : Hid _ := hpre
    clear hJ hKp hpre
    cases k with
    | zero =>
      gi_wp2
      go_end0
      refine ⟨⟨_, rfl⟩, .inl ⟨pre, ?_, HJ.out⟩⟩
      have h := HPRE.out
      rw [Nat.sub_zero, HN.out] at h
      rw [h, List.range_eq_range']
    | succ k =>
      have hkl : k < l.length := by rw [← HN.out]; omega
      have hk1 : ((k + 1 : Nat) : Int) - 1 = (k : Int) := by omega
      have hc := (World.cell?_of_block (a := ⟨Bm, 0, none⟩) HKP.out.1).trans HM.out
      have HR : Hid (wr.rangeAt g (k * 35) (kL l[k].1)) := fun j v hv => (World.cell?_of_block (a := ⟨g, k * 35 + j, none⟩) HKP.out.2).trans (HROW.out k l[k] (List.getElem?_eq_getElem hkl) j v hv)
      have HKI : Hid _ := info35k (kL l[k].1) (kL_len _ (HLK.out _ (List.getElem_mem hkl)))
      have hpl : pre.length < l.length := by have := congrArg List.length HPRE.out; simp at this; have h1 := HN.out; omega
      obtain ⟨fn, tmps, assign, body, hy, hR⟩ := HY.out pre ⟨k, hkl⟩ wr HJ.out hpl
      have henc : encB l ⟨k, hkl⟩ = #[.int .i64 (k : Int), .agg (kL l[k].1).toArray] := rfl
      rw [henc] at hy
      clear henc
      generalize kL l[k].1 = KL at *
      gi_wp2_with (first
        | (refine wpListIn_load_mid rfl 74 (.tmp 15) rfl g (k * 35) rfl KL _ HR.out Tryz.underlying74 rfl HKI.out ?_)
        | gi_in)
      refine hR.mono ?_
      rintro e W3 (⟨rfl, hJ3, hk3⟩ | ⟨rfl, hJx3⟩)
      · have HREL : Hid ((pre ++ [(⟨k, hkl⟩ : Fin l.length)]).map (·.val) = (List.range' k (N - k)).reverse ∧ KpB Bm g W W3 ∧ J (pre ++ [⟨k, hkl⟩]) W3) := by
          refine ⟨?_, ⟨hk3.1.trans HKP.out.1, hk3.2.trans HKP.out.2⟩, hJ3⟩
          rw [List.map_append, HPRE.out, show N - k = (N - (k + 1)) + 1 by omega, List.range'_succ, List.reverse_cons]
          rfl
        clear hJ3 hk3 hR hy
        gi_wp2
        go_roundw
        case rel => exact ⟨k, _, by omega, by go_num, HREL.out.1, HREL.out.2.1, HREL.out.2.2⟩
        case measure => simp [intOf]
      · clear hR hy
        gi_wp2
        refine bodyPost_ret (results_none rfl _ _ _) rfl ?_
        exact ⟨⟨_, rfl⟩, .inr ⟨_, trivial, hJx3⟩⟩
/-- Backward's value goes over all, the last first. -/
theorem back_stops (F : Fence) (n : Nat) (hf : F.fn 71) (hro : F.round = none) (hn : 1 ≤ n) (Bm g cap : Nat) (l : List (Qn × List UInt8)) (hlk : ∀ x ∈ l, x.1.key.length = 32) (hll : l.length < 1000000) (w : World)
    (hm : w.cell? ⟨Bm, 0, none⟩ = some (.slice (some ⟨g, 0, none⟩) l.length cap)) (hrow : ∀ (i : Nat) (e : Qn × List UInt8), l[i]? = some e → w.rangeAt g (i * 35) (kL e.1)) :
    SeqStopsK F n Tryz.prog 71 #[.pointer (some ⟨Bm, 0, none⟩)] (encB l) (KpB Bm g) (fun xs => xs.map (·.val) = (List.range l.length).reverse) (fun _ => True) l.length w := fun y J Jx W hW hJ _ hY h0 =>
  back1_in F n hf hro hn y Bm g cap l hlk hll J Jx hY W ((hW.cell (block_lt hm)).trans hm) (fun i e he => rangeAt_below (hrow i e he) hW) h0
end Go.Proofs.YtefhjjjjbkkedaaGreat.R5.PS

/- A region that draws its order, inside a round of a range over a function: led back to the plain walk. -/
namespace Go.Proofs.YtefhjjjjbkkedaaGreat.R5
open scoped Classical
open Go.RowKit

/-- One operation that defers nothing. -/
theorem op_round {P : Program} {ops : Array Oper} {Q : Exit → Act → World → Prop} {l n i : Nat} {K : Act → World → Prop} {a : Act} {w : World} (hnd : ∀ o, ops[i]? = some o → ∀ c, o.op ≠ .defer c) (hL : ¬ LetsOut Q) (h : wpOp P ops Q i K a w) : wpOpIn (Fence.wide.inRound l) n P ops Q i K a w := by
  unfold wpOp at h
  unfold wpOpIn
  cases ho : ops[i]? with
  | none => rw [ho] at h; exact h
  | some o =>
    rw [ho] at h
    simp only at h ⊢
    by_cases hw : Region.wanted o (yielded ops a.tmps) = true
    · rw [if_pos hw] at h ⊢
      rcases h with h | h
      · refine ⟨fun f _ => trivial, ?_⟩
        rw [Fence.inRound_round, Oper.semAt_some l _ _ (hnd o ho)]
        unfold Oper.wp at h
        generalize (execOp a.eval o).run P w = r at h
        cases r with
        | ok x w' =>
          cases x with
          | value v => exact h
          | skip => exact h
          | defer d => exact h
          | enter f args => exact ⟨fun hd => by simp [Fence.inRound, Fence.wide] at hd, CallsIn.inRound l (callsIn_wide.2 h)⟩
          | row row args =>
            refine ⟨fun hd => by simp [Fence.inRound, Fence.wide] at hd, fun c cs _ => ?_⟩
            obtain ⟨v, w2, hr, hs⟩ := h c cs
            exact ⟨v, w2, hr, stepsIn_wide.2 hs⟩
          | _ => exact h.elim
        | halt x w' =>
          cases x with
          | panic v => exact h
          | _ => exact h.elim
      · exact absurd h.2 hL
    · rw [if_neg hw] at h ⊢
      exact ⟨fun f _ => trivial, h⟩
theorem ops_round {P : Program} {ops : Array Oper} {Q : Exit → Act → World → Prop} {l n : Nat} (hnd : ∀ (i : Nat) o, ops[i]? = some o → ∀ c, o.op ≠ .defer c) (hL : ¬ LetsOut Q) : ∀ (sch : List Nat) (a : Act) (w : World), wpOps P ops Q sch a w → wpOpsIn (Fence.wide.inRound l) n P ops Q sch a w
  | [], _, _, h => h
  | i :: rest, a, w, h => by
    rw [wpOps_cons] at h
    rw [wpOpsIn_cons]
    exact wpOpIn_mono (fun a w hh => ops_round hnd hL rest a w hh) (op_round (hnd i) hL h)
/-- An operation that runs plainly, in the fence that lets all by. -/
theorem op_wide {P : Program} {Q : Exit → Act → World → Prop} {o : Oper} {n : Nat} {K : Act → World → Prop} {a : Act} {w : World} (h : o.wp P a w K Q) : o.wpIn Fence.wide n P a w K Q := by
  refine ⟨fun f _ => trivial, ?_⟩
  show o.uponIn Fence.wide n P a K Q ((execOp a.eval o).run P w)
  unfold Oper.wp at h
  generalize (execOp a.eval o).run P w = r at h
  cases r with
  | ok x w' =>
    cases x with
    | value v => exact h
    | skip => exact h
    | defer d => exact h
    | enter f args => exact ⟨fun hd => by simp [Fence.wide] at hd, callsIn_wide.2 h⟩
    | row row args =>
      refine ⟨fun hd => by simp [Fence.wide] at hd, fun c cs _ => ?_⟩
      obtain ⟨v, w2, hr, hs⟩ := h c cs
      exact ⟨v, w2, hr, stepsIn_wide.2 hs⟩
    | _ => exact h.elim
  | halt x w' =>
    cases x with
    | panic v => exact h
    | _ => exact h.elim
/-- A load of a range. -/
theorem op_load_mid {P : Program} {op : Oper} {a : Act} {w : World} {K : Act → World → Prop} {Q : Exit → Act → World → Prop} (ty : TypeId) (x : Operand) (ho : op.op = .load ty x)
    (b o : Nat) (hx : a.eval x = .pointer (some ⟨b, o, none⟩)) (cs : List Value) (d : TypeDesc) (hc : w.rangeAt b o cs) (hu : P.underlying ty = some d) (hd : d.isRow = true) (hi : (P.info? ty).map (·.size) = some cs.length)
    (h : K (a.put op.dst (.agg cs.toArray)) w) : op.wp P a w K Q := by
  unfold Oper.wp execOp
  simp only [ho, hx, Instr.loadAt, Instr.sureAddr, Sem.run_bind, Sem.run_pure, Result.andThen_ok, run_loadVar_mid w b o ty cs d hc hu hd hi]
  exact h
/-- No operation of a list defers. -/
def noDefer (ops : Array Oper) : Bool := ops.all fun o => match o.op with
  | .defer _ => false
  | _ => true
theorem noDefer_spec {ops : Array Oper} (h : noDefer ops = true) : ∀ (i : Nat) o, ops[i]? = some o → ∀ c, o.op ≠ .defer c := fun i o ho c e => by
  unfold noDefer at h
  rw [Array.all_eq_true] at h
  obtain ⟨hi, rfl⟩ := Array.getElem?_eq_some_iff.1 ho
  have := h i hi
  rw [e] at this
  simp at this
/-- The region, by the plain walk with a condition S. -/
theorem region_round {P : Program} {ops : Array Oper} {Q : Exit → Act → World → Prop} {S : World → Prop} {l n id : Nat} {a : Act} {w : World} (hm : P.follows .mixedOrders = true) (hnd : noDefer ops = true) (hL : ¬ LetsOut Q) (hS : S w.drew)
    (h : S w.drew → wpAnyH P .any ops Q S ops.size (Array.replicate ops.size false) a w.drew) : (Code.region id ops true).wpIn (Fence.wide.inRound l) n P Q a w :=
  wpIn_region_draw fun t => by
    simp only [Region.schedule, hm, Bool.true_or, if_true]
    exact ops_round (noDefer_spec hnd) hL _ _ _ (wpAny_sound ops.size t _ a _ (wpAny_of_held _ _ _ _ (h hS)))
theorem region_plain {P : Program} {ops : Array Oper} {Q : Exit → Act → World → Prop} {l n id : Nat} {a : Act} {w : World} (hnd : noDefer ops = true) (hL : ¬ LetsOut Q) (h : wpList P ops Q ops.toList a w) : (Code.region id ops false).wpIn (Fence.wide.inRound l) n P Q a w :=
  wpIn_region (ops_round (noDefer_spec hnd) hL _ _ _ (by rw [List.range_eq_range', ← Array.length_toList, wpOps_eq_wpList ops.toList 0 (by simp)]; exact h))
end Go.Proofs.YtefhjjjjbkkedaaGreat.R5

/- Contract of the program's nextAlike. -/
namespace Go.Proofs.YtefhjjjjbkkedaaGreat.R5.PS
open scoped Classical
open Go.RowKit

/-- The class of what was asked. -/
def clX (x : Qn × List UInt8) : Cl := ⟨x.1.kind, x.1.dom, x.2⟩
def cls (l : List (Qn × List UInt8)) : List Cl := l.map clX
theorem cls_len (l : List (Qn × List UInt8)) : (cls l).length = l.length := by unfold cls; simp
theorem cls_at {l : List (Qn × List UInt8)} {i : Nat} {x : Qn × List UInt8} (h : l[i]? = some x) : (cls l)[i]? = some (clX x) := by unfold cls; rw [List.getElem?_map, h]; rfl
/-- Numbers in cells. -/
def iC (zs : List Int) : List Value := zs.map fun z => .int .i64 z
theorem iC_len (zs : List Int) : (iC zs).length = zs.length := by unfold iC; simp
theorem iC_at {zs : List Int} {i : Nat} {z : Int} (h : zs[i]? = some z) : (iC zs)[i]? = some (.int .i64 z) := by unfold iC; rw [List.getElem?_map, h]; rfl
theorem iC_set (zs : List Int) (i : Nat) (z : Int) : (iC zs).toArray.setIfInBounds i (.int .i64 z) = (iC (zs.set i z)).toArray := by unfold iC; simp [List.map_set]
/-- While nextAlike runs: its memory, from w.heap.size on. -/
structure NXI (w : World) (og : Nat) (N : Nat) (ov : Value) (s : List Int × (Cl → Option Int)) (W : World) : Prop where
  bel : Below w.heap.size w W
  c1 : W.heap[w.heap.size]? = some (.cells #[.pointer (some ⟨og, 0, none⟩)] 26 (0, 0))
  r2 : W.heap[w.heap.size + 1]? = some (.cells (iC s.1).toArray 3 (0, 0))
  c3 : W.heap[w.heap.size + 2]? = some (.cells #[.slice (some ⟨w.heap.size + 1, 0, none⟩) N N] 81 (0, 0))
  m4 : MI W (w.heap.size + 3) s.2
  c5 : W.heap[w.heap.size + 4]? = some (.cells #[.map (some (w.heap.size + 3))] 97 (0, 0))
  c6 : W.heap[w.heap.size + 5]? = some (.cells #[ov] 65 (0, 0))
  top : w.heap.size + 6 ≤ W.heap.size
theorem NXI.keep {w : World} {og N : Nat} {ov : Value} {s : List Int × (Cl → Option Int)} {W W' : World} (h : NXI w og N ov s W) (hb : Below w.heap.size w W') (hs : W.heap.size ≤ W'.heap.size) (hk : ∀ k, w.heap.size ≤ k → k < w.heap.size + 6 → W'.heap[k]? = W.heap[k]?) : NXI w og N ov s W' :=
  ⟨hb, (hk _ (by omega) (by omega)).trans h.c1, (hk _ (by omega) (by omega)).trans h.r2, (hk _ (by omega) (by omega)).trans h.c3, h.m4.keep (hk _ (by omega) (by omega)), (hk _ (by omega) (by omega)).trans h.c5, (hk _ (by omega) (by omega)).trans h.c6, Nat.le_trans h.top hs⟩
theorem NXI.step {w : World} {og N : Nat} {ov : Value} {s : List Int × (Cl → Option Int)} {W W' : World} (h : NXI w og N ov s W) (hb : Below W.heap.size W W') : NXI w og N ov s W' :=
  h.keep (h.bel.trans (hb.mono h.bel.size)) hb.size (fun k _ hk => hb.block k (by have := h.top; omega))
theorem nxi_own {w : World} {og N : Nat} {ov : Value} {β : Type} (f : β → List Int × (Cl → Option Int)) {B : Nat} (hB : w.heap.size + 6 ≤ B) : OwnFrom B (fun (x : β) W => NXI w og N ov (f x) W) := fun x W W' row hs hg hr =>
  hs.keep (hs.bel.grown hg hs.bel.size (fun k e => by have := (hr k e).1; omega)) hg.size (fun k h1 h2 => hg.block k (by have := hs.top; omega) (fun e => by have := (hr k e.symm).1; omega))
theorem infoInt : (Tryz.prog.info? 3).map (fun i => (i.zero, i.size, i.bytes)) = some (some (.int .i64 0), 1, 8) := by kernel_rfl
theorem made_iC (N : Nat) : madeCells #[Value.int .i64 0] N = (iC (List.replicate N 0)).toArray := by
  unfold iC madeCells
  apply Array.ext
  · simp
  · intro i h1 h2
    simp [Nat.mod_one]
/-- The numbers that nextAlike tells. -/
def nxL (l : List (Qn × List UInt8)) : List Int := (List.range l.length).map fun i => (nextAt (cls l) i : Int)
/-- The temporaries of nextAlike in a round. -/
def nT (w : World) (og g N cap : Nat) (u5 u6 u20 u21 : Value) : Array Value := #[.pointer (some ⟨og, 0, none⟩), .pointer (some ⟨w.heap.size, 0, none⟩), .slice none 0 0, .pointer (some ⟨w.heap.size + 1 + 1, 0, none⟩), .pointer (some ⟨w.heap.size + 1 + 1 + 1 + 1, 0, none⟩), u5, u6, undef,
  .pointer (some ⟨og, 0, none⟩), .pointer (some ⟨og, 0, none⟩), .pointer (some ⟨og, 34, none⟩), .slice (some ⟨g, 0, none⟩) N cap, .int .i64 (N : Int), .slice (some ⟨w.heap.size + 1, 0, none⟩) N N, .map (some (w.heap.size + 1 + 1 + 1)), .pointer (some ⟨og, 0, none⟩), .pointer (some ⟨og, 0, none⟩), .pointer (some ⟨og, 34, none⟩), .slice (some ⟨g, 0, none⟩) N cap,
  .func (.func 71) #[] #[.pointer (some ⟨w.heap.size + 5, 0, none⟩)], u20, u21, undef, undef, undef, undef, undef, undef, undef, undef, undef, undef, undef, undef, undef, undef, undef, undef, undef, undef, undef, undef, undef]
theorem wpListIn_mapUpd {F : Fence} {n : Nat} {P : Program} {ops : Array Oper} {rest : List Oper} {op : Oper} {a : Act} {w w' : World} {Q : Exit → Act → World → Prop} (hgd : op.guard = none) (ty : TypeId) (m k v : Operand) (ho : op.op = .mapUpdate ty m k v)
    (hr : (Instr.mapUpdate ty (a.eval m) (a.eval k) (a.eval v)).run P w = .ok () w') (h : wpListIn F n P ops Q rest (a.put op.dst undef) w') : wpListIn F n P ops Q (op :: rest) a w := by
  refine wpListIn_plain hgd fun K hK' => ?_
  unfold Oper.wpIn
  refine ⟨?_, ?_⟩
  · simp [Oper.about, ho]
  · rw [Oper.semAt_plain F _ _ (by rw [ho]; intro c hc'; cases hc')]
    unfold execOp
    simp only [ho, Sem.run_bind, hr, Result.andThen_ok]
    exact hK' _ _ h
set_option maxHeartbeats 4000000 in
set_option maxRecDepth 100000 in
theorem build_cl (w : World) (k d : Int) (DL : List Value) (h2 : DL.length = 32) : (Instr.build 102 #[(0, .int .i64 k), (1, .int .i64 d), (2, .agg DL.toArray)]).run Tryz.prog w = .ok (.agg (.int .i64 k :: .int .i64 d :: DL).toArray) w := by
  iterate 32 (obtain ⟨_, _, e, g⟩ := cons_of h2; clear h2; subst e; have h2 := g; clear g)
  obtain rfl := List.eq_nil_of_length_eq_zero h2
  show _ = _
  kernel_rfl
def zCl : Array Value := (Value.int .i64 0 :: .int .i64 0 :: (List.replicate 32 (0 : UInt8)).map B8).toArray
theorem zero_cl (w : World) : (zeroValue 102).run Tryz.prog w = .ok (.agg zCl) w := by kernel_rfl
theorem zero_in (w : World) : (zeroValue 3).run Tryz.prog w = .ok (.int .i64 0) w := by kernel_rfl
theorem info34a (RS : Array Value) (h : RS.size = 34) : (Tryz.prog.info? 102).map (·.size) = some RS.size := by rw [h]; kernel_rfl
theorem info34 (l : List Value) (h : l.length = 34) : (Tryz.prog.info? 102).map (·.size) = some l.length := by rw [h]; kernel_rfl
theorem cLl_one (c : Cl) : ∀ u ∈ cLl c, u.oneCell' = true := by
  intro u hu
  unfold cLl at hu
  rcases List.mem_cons.1 hu with rfl | hu
  · rfl
  · rcases List.mem_cons.1 hu with rfl | hu
    · rfl
    · exact B8_one c.ans u hu
theorem all_ofN {l : List Value} (h : ∀ u ∈ l, u.oneCell' = true) : l.toArray.all (·.oneCell') = true := by
  rw [Array.all_eq_true_iff_forall_mem]; intro x hx; exact h x (by simpa using hx)
/-- What region 7 reads. -/
structure NS7 (w : World) (N : Nat) (f : Cl → Option Int) (b : Nat) (CL : List Value) (W : World) : Prop where
  c3 : W.heap[w.heap.size + 2]? = some (.cells #[.slice (some ⟨w.heap.size + 1, 0, none⟩) N N] 81 (0, 0))
  m4 : MI W (w.heap.size + 3) f
  c5 : W.heap[w.heap.size + 4]? = some (.cells #[.map (some (w.heap.size + 3))] 97 (0, 0))
  k : W.heap[b]? = some (.cells CL.toArray 102 (0, 0))
/-- What region 6 reads. -/
structure NS (w : World) (og N : Nat) (ov : Value) (s : List Int × (Cl → Option Int)) (b : Nat) (KL : List Value) (t : TypeId) (W : World) : Prop where
  x : NXI w og N ov s W
  k : W.heap[b]? = some (.cells KL.toArray t (0, 0))
set_option maxHeartbeats 2000000 in
set_option maxRecDepth 100000 in
theorem next_any {B og mb : Nat} {S : Nat → Prop} {w : World} {o : Pra} {dv ov : Value} (ho : PO B og mb S w o dv ov) (hll : o.log.length < 1000000) (h0 : 0 < o.log.length) :
    Calls Tryz.prog 37 #[.pointer (some ⟨og, 0, none⟩)] w fun e w' => e = .returned (.slice (some ⟨w.heap.size + 1, 0, none⟩) o.log.length o.log.length) ∧ w'.heap[w.heap.size + 1]? = some (.cells (iC (nxL o.log)).toArray 3 (0, 0)) ∧ Below w.heap.size w w' := by
  obtain ⟨c0, c33, c34, hc, cf⟩ := ho.cells
  have hog := row_lt ho.row
  obtain ⟨e0, he0⟩ : ∃ e, o.log[0]? = some e := ⟨_, List.getElem?_eq_getElem h0⟩
  obtain ⟨g, cap, hov, _, _⟩ := ho.ordRow he0
  subst hov
  have hmm := @run_makeMap Tryz.prog
  obtain ⟨N, hN⟩ : ∃ N, N = o.log.length := ⟨_, rfl⟩
  have hmk := run_make_row' (P := Tryz.prog) 81 3 (.int .i64 0) 8 Tryz.underlying81 infoInt rfl .i64 .i64 N (by omega) (by omega)
  rw [made_iC] at hmk
  rw [← hN] at c34 ⊢
  have hc0 : (w.alloc (.cells #[.pointer (some ⟨og, 0, none⟩)] 26 (0, 0))).cell? ⟨og, 34, none⟩ = some (.slice (some ⟨g, 0, none⟩) N cap) := (Below.cell ((Below.refl _ w).alloc (Nat.le_refl _) _) (show (⟨og, 34, none⟩ : Addr).block < w.heap.size from hog)).trans c34
  have HO : Hid _ := ho
  have HNE : Hid _ := hN
  have hN6 : N < 1000000 := by omega
  clear ho he0 hN c0 c33 c34 hc cf
  obtain ⟨W5, hW5⟩ : ∃ W5, W5 = ((((w.alloc (.cells #[.pointer (some ⟨og, 0, none⟩)] 26 (0, 0))).alloc (.cells (iC (List.replicate N 0)).toArray 3 (0, 0))).alloc (.cells #[.slice (some ⟨w.heap.size + 1, 0, none⟩) N N] 81 (0, 0))).alloc (.map #[] 0)).alloc (.cells #[.map (some (w.heap.size + 1 + 1 + 1))] 97 (0, 0)) := ⟨_, rfl⟩
  have hs5 : W5.heap.size = w.heap.size + 5 := by rw [hW5]; simp
  have hb5 : Below w.heap.size w W5 := by rw [hW5]; exact (((((Below.refl _ w).alloc (Nat.le_refl _) _).alloc (by simp) _).alloc (by simp <;> omega) _).alloc (by simp <;> omega) _).alloc (by simp <;> omega) _
  have HNX : Hid (NXI w og N (.slice (some ⟨g, 0, none⟩) N cap) (stS (cls o.log) []) (W5.alloc (.cells #[.slice (some ⟨g, 0, none⟩) N cap] 65 (0, 0)))) := by
    have hr : ∀ k, k < w.heap.size + 5 → (W5.alloc (.cells #[.slice (some ⟨g, 0, none⟩) N cap] 65 (0, 0))).heap[k]? = W5.heap[k]? := fun k hk => Below.heap_alloc _ _ _ (by omega)
    refine ⟨hb5.alloc (by omega) _, ?_, ?_, ?_, MI.nil ?_, ?_, by rw [← hs5]; exact heap_alloc_new _ _, by simp; omega⟩
    · rw [hr _ (by omega), hW5, Below.heap_alloc _ _ _ (by simp <;> omega), Below.heap_alloc _ _ _ (by simp <;> omega), Below.heap_alloc _ _ _ (by simp <;> omega), Below.heap_alloc _ _ _ (by simp)]; exact heap_alloc_new _ _
    · rw [hr _ (by omega), hW5, Below.heap_alloc _ _ _ (by simp <;> omega), Below.heap_alloc _ _ _ (by simp <;> omega), Below.heap_alloc _ _ _ (by simp)]
      rw [heap_at _ _ _ (by simp)]
      show some (Obj.cells (iC (List.replicate N 0)).toArray _ _) = some (Obj.cells (iC (List.replicate (cls o.log).length 0)).toArray _ _)
      rw [cls_len, ← HNE.out]
    · rw [hr _ (by omega), hW5, Below.heap_alloc _ _ _ (by simp <;> omega), Below.heap_alloc _ _ _ (by simp)]; exact heap_at _ _ _ (by simp)
    · rw [hr _ (by omega), hW5, Below.heap_alloc _ _ _ (by simp)]; exact heap_at _ _ _ (by simp)
    · rw [hr _ (by omega), hW5]; exact heap_at _ _ _ (by simp)
  have hc5 : W5.cell? ⟨og, 34, none⟩ = some (.slice (some ⟨g, 0, none⟩) N cap) := (hb5.cell (show (⟨og, 34, none⟩ : Addr).block < w.heap.size from hog)).trans HO.out.cells.2.2.1 |>.trans (by rw [HNE.out])
  have HBK : Hid _ := backward_any (some ⟨g, 0, none⟩) N cap W5
  rw [hW5] at hc5
  clear hb5
  refine calls_marks Tryz.func37 rfl ?_
  simp only [Tryz.ntmps37, List.size_toArray, List.length_cons, List.length_nil, Nat.reduceAdd, Nat.reduceSub, Array.replicate_succ, Array.replicate_zero, List.push_toArray, List.append_toArray, List.nil_append, List.cons_append]
  go_wp2_with (go_at_call 54; fail)
  rw [← hW5]
  refine Calls.mono HBK.out ?_
  rintro e w6 ⟨rfl, hw6⟩
  rw [← hw6] at HNX
  have HS6 : Hid (w6.heap.size = w.heap.size + 6) := by show _ = _; rw [hw6]; simp; omega
  rw [hs5]
  clear hw6 hW5 hc5 HBK hc0 hs5 hmk W5
  go_wp2
  refine (wpIn_wide (n := 9)).1 ?_
  have hrw : ∀ (i : Nat) (e : Qn × List UInt8), o.log[i]? = some e → w6.rangeAt g (i * 35) (kL e.1) := fun i e he => by
    obtain ⟨g', cap', hv, _, hr⟩ := HO.out.ordRow he
    simp only [Value.slice.injEq, Option.some.injEq, Addr.mk.injEq] at hv
    obtain ⟨⟨rfl, _⟩, _, rfl⟩ := hv
    exact rangeAt_below hr HNX.out.bel
  have hgl : g < w.heap.size := by
    obtain ⟨e, he⟩ : ∃ e, o.log[0]? = some e := ⟨_, List.getElem?_eq_getElem h0⟩
    obtain ⟨g', cap', hv, hS, hr⟩ := HO.out.ordRow he
    simp only [Value.slice.injEq, Option.some.injEq, Addr.mk.injEq] at hv
    obtain ⟨⟨rfl, _⟩, _, rfl⟩ := hv
    exact HO.out.top _ hS
  have hcm : w6.cell? ⟨w.heap.size + 5, 0, none⟩ = some (.slice (some ⟨g, 0, none⟩) o.log.length cap) := by rw [cell_of_row _ _ 0 _ _ _ HNX.out.c6, ← HNE.out]; rfl
  have hs6 := HS6.out
  refine wpIn_rangeFunc_ownH (F := Fence.wide) (n := 9) rfl (by omega) (gf := 71) (lb := #[.pointer (some ⟨w.heap.size + 5, 0, none⟩)]) rfl trivial (enters_of Tryz.func71 (by kernel_rfl) rfl)
    (back_stops Fence.wide 8 trivial rfl (by omega) (w.heap.size + 5) g cap o.log (fun x hx => (HO.out.ok.all x hx).1.key) hll w6 hcm hrw) (fun h k => ⟨k.1.trans h.1, k.2.trans h.2⟩) (fun W l o o' hl _ _ _ => ⟨World.putObj_heap_other (by omega), World.putObj_heap_other (by omega)⟩) (Below.refl _ _) (fun _ => rfl)
    (fun pre W => NXI w og N (.slice (some ⟨g, 0, none⟩) N cap) (stS (cls o.log) (pre.map (·.val))) W) (fun _ _ _ => False) (nxi_own (fun (pre : List (Fin o.log.length)) => stS (cls o.log) (pre.map (·.val))) (by omega)) (fun _ _ _ _ _ hs _ _ => hs) HNX.out
    (fun x a' W => ∃ b, w6.heap.size ≤ b ∧ W.heap[b]? = some (.cells (kL o.log[x].1).toArray 74 (0, 0)) ∧ a' = { tmps := nT w og g N cap (.int .i64 (x.val : Int)) (.pointer (some ⟨b, 0, none⟩)) (.int .i64 (x.val : Int)) (.agg (kL o.log[x].1).toArray), defers := [] })
    (fun x a' _ X Y row hs hg hr => by obtain ⟨b, h1, h2, h3⟩ := hs; exact ⟨b, h1, (hg.block b (row_lt h2) (fun e => by obtain ⟨_, o', ho', hc'⟩ := hr b e.symm; rw [h2] at ho'; cases ho'; cases hc')).trans h2, h3⟩)
    ?assign ?body ?done ?stop
  case assign =>
    rintro l pre x W K hI hK
    have hkx := HO.out.ok.all o.log[x] (List.getElem_mem _)
    have HKS : Hid ((kL o.log[x].1).toArray.size = 35) := by show _ = _; rw [List.size_toArray]; exact kL_len _ hkx.1.key
    have HK1 : Hid _ := kL_onea o.log[x].1
    have hzk := fun W => zero_kq W
    obtain ⟨ZK, hZK⟩ : ∃ A, A = zKq := ⟨_, rfl⟩
    rw [← hZK] at hzk
    have HZK : Hid (ZK.size = 35) := by show _ = _; rw [hZK]; kernel_rfl
    have HI : Hid _ := hI
    have HK : Hid _ := hK
    have HZ8 : Hid ((W.alloc (.cells ZK 74 (0, 0))).heap[W.heap.size]? = some (.cells ZK 74 (0, 0))) := heap_alloc_new _ _
    have henc : encB o.log x = #[.int .i64 (x.val : Int), .agg (kL o.log[x].1).toArray] := rfl
    rw [henc]
    clear hI hK hZK henc hkx
    generalize kL o.log[x].1 = KL at *
    refine wpIn_seq (region_plain (by kernel_rfl) (fun h => by obtain ⟨_, _, h⟩ := h; exact h) ?_)
    go_wp2
    refine region_plain (by kernel_rfl) (fun h => by obtain ⟨_, _, h⟩ := h; exact h) ?_
    go_wp2_with (refine wpList_store_row rfl 74 _ _ rfl W.heap.size KL.toArray rfl rfl 74 ZK HZ8.out (info35ka _ HKS.out) (HZK.out.trans HKS.out.symm) HK1.out ?_)
    have hb : Below W.heap.size W ((W.alloc (.cells ZK 74 (0, 0))).setRow W.heap.size KL.toArray) := below_setRow ((Below.refl _ _).alloc (Nat.le_refl _) _) (Nat.le_refl _) _
    have htop := HI.out.top
    exact HK.out _ _ ⟨hb.size, fun k o _ hk _ => (hb.block k (Array.getElem?_eq_some_iff.1 hk).1).trans hk⟩ ⟨hb.block _ (by omega), hb.block _ (by omega)⟩ (HI.out.step hb) ⟨W.heap.size, by omega, setRow_heap _ _ _ _ _ _ HZ8.out, rfl⟩
  case body =>
    rintro l pre x a' W hl ⟨r, hr⟩ hI ⟨b, hb1, hb2, rfl⟩ hlt
    have hkx := HO.out.ok.all o.log[x] (List.getElem_mem _)
    have hxl : o.log[x.val]? = some o.log[x] := List.getElem?_eq_getElem x.isLt
    have hfd := fnd_at HO.out.ok.once hxl
    have hxN : (x.val : Int) < (N : Int) := by have := x.isLt; have := HNE.out; omega
    have hxN' : x.val < N := by omega
    have hcl := cls_at hxl
    obtain ⟨s0, hs0⟩ : ∃ s, s = stS (cls o.log) (pre.map (·.val)) := ⟨_, rfl⟩
    have HSN : Hid (stS (cls o.log) ((pre ++ [x]).map (·.val)) = (s0.1.set x.val ((s0.2 (clX o.log[x])).getD 0), upd s0.2 (clX o.log[x]) (x.val : Int))) := by
      show _ = _
      rw [List.map_append, List.map_cons, List.map_nil, stS_snoc, ← hs0]
      unfold stp
      rw [hcl]
    have hslen : s0.1.length = N := by rw [hs0, stS_len, cls_len]; exact HNE.out.symm
    rw [← hs0] at hI
    have hck : cOk (clX o.log[x]) := ⟨hkx.1.kind, hkx.1.dom, hkx.2⟩
    have HLK : Hid (∀ X, Below w.heap.size w X → (Instr.lookup 64 (.map (some mb)) (.agg (kL o.log[x].1).toArray) false).run Tryz.prog X = .ok (.agg (o.log[x].2.map B8).toArray) X) := fun X hX => by
      have hmm := HO.out.map
      have h1 := mh_look (w := X) HO.out.ok (hmm.keep (hX.block _ hmm.lt)) hkx.1 false (zero_dig X)
      unfold lookV at h1
      rw [hfd] at h1
      exact h1
    have HC35 : Hid (∀ X, Below w.heap.size w X → X.cell? ⟨og, 35, none⟩ = some (.map (some mb))) := fun X hX => (HO.out.below hX).cells.2.2.2.1
    have HR : Hid (∀ X : World, X.heap[b]? = some (.cells (kL o.log[x].1).toArray 74 (0, 0)) → X.cell? ⟨b, 0, none⟩ = some (.int .i64 o.log[x].1.kind) ∧ X.rangeAt b 1 (o.log[x].1.key.map B8) ∧ X.cell? ⟨b, 33, none⟩ = some (.int .i64 o.log[x].1.dom) ∧ X.cell? ⟨b, 34, none⟩ = some (tx o.log[x].1.data)) := fun X hX => q_facts hkx.1.key hX
    have HBC : Hid (∀ X, (Instr.build 102 #[(0, .int .i64 o.log[x].1.kind), (1, .int .i64 o.log[x].1.dom), (2, .agg (o.log[x].2.map B8).toArray)]).run Tryz.prog X = .ok (.agg (cLl (clX o.log[x])).toArray) X) := fun X => build_cl X _ _ _ (by simpa using hkx.2)
    have HKI : Hid _ := info35k (kL o.log[x].1) (kL_len _ hkx.1.key)
    have HCS : Hid ((cLl (clX o.log[x])).toArray.size = 34) := by show _ = _; rw [List.size_toArray]; exact cLl_len _ hkx.2
    have HCI : Hid _ := info34 (cLl (clX o.log[x])) (cLl_len _ hkx.2)
    have HC1 : Hid _ := all_ofN (cLl_one (clX o.log[x]))
    have HLC : Hid (∀ X, MI X (w.heap.size + 3) s0.2 → (Instr.lookup 97 (.map (some (w.heap.size + 3))) (.agg (cLl (clX o.log[x])).toArray) false).run Tryz.prog X = .ok (.int .i64 ((s0.2 (clX o.log[x])).getD 0)) X) := fun X hX => mi_look hX hck (zero_in X)
    have HPU : Hid (∀ X, MI X (w.heap.size + 3) s0.2 → ∃ o', (Instr.mapUpdate 97 (.map (some (w.heap.size + 3))) (.agg (cLl (clX o.log[x])).toArray) (.int .i64 (x.val : Int))).run Tryz.prog X = .ok () (ChangeMaps.setBlock X (w.heap.size + 3) o') ∧ MI (ChangeMaps.setBlock X (w.heap.size + 3) o') (w.heap.size + 3) (upd s0.2 (clX o.log[x]) (x.val : Int)) ∧ X.grownBy (ChangeMaps.setBlock X (w.heap.size + 3) o') (some (w.heap.size + 3))) := fun X hX => mi_put hX hck _
    have hzc := fun X => zero_cl X
    obtain ⟨ZC, hZC⟩ : ∃ Z, Z = zCl := ⟨_, rfl⟩
    rw [← hZC] at hzc
    have HZC : Hid (ZC.size = 34) := by show _ = _; rw [hZC]; kernel_rfl
    have hbd : Below W.heap.size W W.drew := (Below.refl _ _).drew
    have HS0 : Hid (NS w og N (.slice (some ⟨g, 0, none⟩) N cap) s0 b (kL o.log[x].1) 74 W.drew) := ⟨hI.step hbd, by rw [heap_drew]; exact hb2⟩
    have HI : Hid _ := hI
    have HBR : Hid _ := hb2
    clear hI hb2 hs0 hkx hxl hfd hcl hck hZC hbd hlt hr
    generalize kL o.log[x].1 = KL at *
    generalize cLl (clX o.log[x]) = CL at *
    generalize o.log[x].2.map B8 = AL at *
    generalize (s0.2 (clX o.log[x])).getD 0 = nv at *
    generalize o.log[x].1.kind = kd at *
    generalize o.log[x].1.dom = dm at *
    generalize clX o.log[x] = c0 at *
    unfold nT
    obtain ⟨i, hi⟩ : ∃ i : Nat, i = x.val := ⟨_, rfl⟩
    rw [← hi] at hxN hxN' HPU HSN ⊢
    clear hi
    refine wpIn_block (wpIn_seq ?_)
    refine region_round (S := NS w og N (.slice (some ⟨g, 0, none⟩) N cap) s0 b KL 74) (by kernel_rfl) (by kernel_rfl) (fun h => by obtain ⟨_, _, h⟩ := h; exact h) HS0.out (fun hHeld => ?_)
    have HWD : Hid (W.drew.heap.size = W.heap.size) := rfl
    have HWB : Hid (∀ k : Nat, W.drew.heap[k]? = W.heap[k]?) := fun k => by rw [heap_drew]
    generalize W.drew = W2 at *
    refine wpAnyH_take (i := 0) (oi := { dst := some 22, op := Go.Op.fieldAddr 74 (Go.Operand.tmp 6) 0, type := 0, pos := _, after := #[], guard := none }) (v := .pointer (some ⟨b, 0, none⟩)) rfl (by kernel_rfl) (by kernel_rfl) (by kernel_rfl) (fun _ _ _ h => h) (Or.inl ⟨by rfl, fun w' hw' => ?_⟩) hHeld ?_
    · first | (go_simp; done) | (go_simp; rfl)
    try simp only [Act.put, List.setIfInBounds_toArray, List.set_cons_zero, List.set_cons_succ]
    refine wpAnyH_take (i := 1) (oi := { dst := some 23, op := Go.Op.load 35 (Go.Operand.tmp 22), type := 35, pos := _, after := #[{ on := 0, ground := Go.Ground.data }], guard := none }) (v := .int .i64 kd) rfl (by kernel_rfl) (by kernel_rfl) (by kernel_rfl) (fun _ _ _ h => h) (Or.inl ⟨by rfl, fun w' hw' => ?_⟩) hHeld ?_
    · have hcc := (HR.out w' hw'.k).1; first | (go_simp; done) | (go_simp; rfl)
    try simp only [Act.put, List.setIfInBounds_toArray, List.set_cons_zero, List.set_cons_succ]
    refine wpAnyH_take (i := 2) (oi := { dst := some 24, op := Go.Op.fieldAddr 74 (Go.Operand.tmp 6) 2, type := 0, pos := _, after := #[], guard := none }) (v := .pointer (some ⟨b, 33, none⟩)) rfl (by kernel_rfl) (by kernel_rfl) (by kernel_rfl) (fun _ _ _ h => h) (Or.inl ⟨by rfl, fun w' hw' => ?_⟩) hHeld ?_
    · first | (go_simp; done) | (go_simp; rfl)
    try simp only [Act.put, List.setIfInBounds_toArray, List.set_cons_zero, List.set_cons_succ]
    refine wpAnyH_take (i := 3) (oi := { dst := some 25, op := Go.Op.load 36 (Go.Operand.tmp 24), type := 36, pos := _, after := #[{ on := 2, ground := Go.Ground.data }], guard := none }) (v := .int .i64 dm) rfl (by kernel_rfl) (by kernel_rfl) (by kernel_rfl) (fun _ _ _ h => h) (Or.inl ⟨by rfl, fun w' hw' => ?_⟩) hHeld ?_
    · have hcc := (HR.out w' hw'.k).2.2.1; first | (go_simp; done) | (go_simp; rfl)
    try simp only [Act.put, List.setIfInBounds_toArray, List.set_cons_zero, List.set_cons_succ]
    refine wpAnyH_take (i := 4) (oi := { dst := some 26, op := Go.Op.load 26 (Go.Operand.tmp 1), type := 26, pos := _, after := #[], guard := none }) (v := .pointer (some ⟨og, 0, none⟩)) rfl (by kernel_rfl) (by kernel_rfl) (by kernel_rfl) (fun _ _ _ h => h) (Or.inl ⟨by rfl, fun w' hw' => ?_⟩) hHeld ?_
    · have hcc : w'.cell? ⟨w.heap.size, 0, none⟩ = some (.pointer (some ⟨og, 0, none⟩)) := (by rw [cell_of_row _ _ 0 _ _ _ hw'.x.c1]; rfl); first | (go_simp; done) | (go_simp; rfl)
    try simp only [Act.put, List.setIfInBounds_toArray, List.set_cons_zero, List.set_cons_succ]
    refine wpAnyH_take (i := 5) (oi := { dst := some 27, op := Go.Op.nilCheck (Go.Operand.tmp 26), type := 0, pos := _, after := #[{ on := 4, ground := Go.Ground.data }], guard := none }) (v := .pointer (some ⟨og, 0, none⟩)) rfl (by kernel_rfl) (by kernel_rfl) (by kernel_rfl) (fun _ _ _ h => h) (Or.inl ⟨by rfl, fun w' hw' => ?_⟩) hHeld ?_
    · first | (go_simp; done) | (go_simp; rfl)
    try simp only [Act.put, List.setIfInBounds_toArray, List.set_cons_zero, List.set_cons_succ]
    refine wpAnyH_take (i := 6) (oi := { dst := some 28, op := Go.Op.fieldAddr 67 (Go.Operand.tmp 27) 4, type := 0, pos := _, after := #[{ on := 5, ground := Go.Ground.data }], guard := none }) (v := .pointer (some ⟨og, 35, none⟩)) rfl (by kernel_rfl) (by kernel_rfl) (by kernel_rfl) (fun _ _ _ h => h) (Or.inl ⟨by rfl, fun w' hw' => ?_⟩) hHeld ?_
    · first | (go_simp; done) | (go_simp; rfl)
    try simp only [Act.put, List.setIfInBounds_toArray, List.set_cons_zero, List.set_cons_succ]
    refine wpAnyH_take (i := 7) (oi := { dst := some 29, op := Go.Op.load 64 (Go.Operand.tmp 28), type := 64, pos := _, after := #[{ on := 6, ground := Go.Ground.data }], guard := none }) (v := .map (some mb)) rfl (by kernel_rfl) (by kernel_rfl) (by kernel_rfl) (fun _ _ _ h => h) (Or.inl ⟨by rfl, fun w' hw' => ?_⟩) hHeld ?_
    · have hcc := HC35.out w' hw'.x.bel; first | (go_simp; done) | (go_simp; rfl)
    try simp only [Act.put, List.setIfInBounds_toArray, List.set_cons_zero, List.set_cons_succ]
    refine wpAnyH_take (i := 8) (oi := { dst := some 30, op := Go.Op.load 74 (Go.Operand.tmp 6), type := 74, pos := _, after := #[], guard := none }) rfl (by kernel_rfl) (by kernel_rfl) (by kernel_rfl) (fun _ _ _ h => h) (yieldsIf_load_mid (by rfl) 74 (.tmp 6) rfl (b) (0) rfl (KL) _ (fun _ h => rangeAt_row h.k) Tryz.underlying74 rfl HKI.out) hHeld ?_
    try simp only [Act.put, List.setIfInBounds_toArray, List.set_cons_zero, List.set_cons_succ]
    refine wpAnyH_take (i := 9) (oi := { dst := some 31, op := Go.Op.lookup 64 (Go.Operand.tmp 29) (Go.Operand.tmp 30) false, type := 29, pos := _, after := #[{ on := 7, ground := Go.Ground.data }, { on := 8, ground := Go.Ground.data }], guard := none }) (v := .agg AL.toArray) rfl (by kernel_rfl) (by kernel_rfl) (by kernel_rfl) (fun _ _ _ h => h) (Or.inl ⟨by rfl, fun w' hw' => ?_⟩) hHeld ?_
    · have hll2 := HLK.out w' hw'.x.bel; first | (go_simp; done) | (go_simp; rfl)
    try simp only [Act.put, List.setIfInBounds_toArray, List.set_cons_zero, List.set_cons_succ]
    refine wpAnyH_take (i := 10) (oi := { dst := some 32, op := Go.Op.build 102 #[(0, Go.Operand.tmp 23), (1, Go.Operand.tmp 25), (2, Go.Operand.tmp 31)], type := 102, pos := _, after := #[{ on := 1, ground := Go.Ground.data }, { on := 3, ground := Go.Ground.data }, { on := 9, ground := Go.Ground.data }], guard := none }) (v := .agg CL.toArray) rfl (by kernel_rfl) (by kernel_rfl) (by kernel_rfl) (fun _ _ _ h => h) (Or.inl ⟨by rfl, fun w' hw' => ?_⟩) hHeld ?_
    · exact exec_build _ _ 102 _ _ _ w' rfl (by simp; exact ⟨rfl, rfl, rfl⟩) (HBC.out w')
    try simp only [Act.put, List.setIfInBounds_toArray, List.set_cons_zero, List.set_cons_succ]
    refine wpAnyH_ready (rs := [11]) (by kernel_rfl) (by simp) ?_
    refine AllReadyH.cons (o := { dst := some 7, op := Go.Op.alloc 102, type := 0, pos := _, after := #[], guard := none }) rfl (fun K hK => ?_) AllReadyH.nil
    rw [if_pos (by rfl)]
    go_wp2_with fail
    have hbA : Below W2.heap.size W2 (W2.alloc (.cells ZC 102 (0, 0))) := (Below.refl _ _).alloc (Nat.le_refl _) _
    have hH2 : NS w og N (.slice (some ⟨g, 0, none⟩) N cap) s0 b KL 74 (W2.alloc (.cells ZC 102 (0, 0))) := ⟨hHeld.x.step hbA, (hbA.block _ (row_lt hHeld.k)).trans hHeld.k⟩
    refine hK.out _ _ hH2 (fun _ => ?_)
    clear hK K
    try simp only [Act.put, List.setIfInBounds_toArray, List.set_cons_zero, List.set_cons_succ]
    refine wpAnyH_ready (rs := [12]) (by kernel_rfl) (by simp) ?_
    refine AllReadyH.cons (o := { dst := none, op := Go.Op.store 102 (Go.Operand.tmp 7) (Go.Operand.tmp 32), type := 0, pos := _, after := #[{ on := 11, ground := Go.Ground.data }, { on := 10, ground := Go.Ground.data }, { on := 0, ground := Go.Ground.phase }, { on := 1, ground := Go.Ground.phase }, { on := 2, ground := Go.Ground.phase }, { on := 3, ground := Go.Ground.phase }, { on := 4, ground := Go.Ground.phase }, { on := 5, ground := Go.Ground.phase }, { on := 6, ground := Go.Ground.phase }, { on := 7, ground := Go.Ground.phase }, { on := 8, ground := Go.Ground.phase }, { on := 9, ground := Go.Ground.phase }, { on := 10, ground := Go.Ground.phase }, { on := 11, ground := Go.Ground.phase }], guard := none }) rfl (fun K hK => ?_) AllReadyH.nil
    rw [if_pos (by rfl)]
    refine wp_store_row 102 _ _ rfl W2.heap.size CL.toArray rfl rfl 102 ZC (heap_alloc_new _ _) (info34a _ HCS.out) (HZC.out.trans HCS.out.symm) HC1.out ?_
    have hbB : Below W2.heap.size W2 ((W2.alloc (.cells ZC 102 (0, 0))).setRow W2.heap.size CL.toArray) := below_setRow hbA (Nat.le_refl _) _
    have hH3 : NS w og N (.slice (some ⟨g, 0, none⟩) N cap) s0 b KL 74 ((W2.alloc (.cells ZC 102 (0, 0))).setRow W2.heap.size CL.toArray) := ⟨hHeld.x.step hbB, (hbB.block _ (row_lt hHeld.k)).trans hHeld.k⟩
    refine hK.out _ _ hH3 (fun _ => ?_)
    clear hK K
    try simp only [Act.put, List.setIfInBounds_toArray, List.set_cons_zero, List.set_cons_succ]
    refine wpAnyH_done (by kernel_rfl) ?_ _
    have HB3 : Hid _ := hbB
    have HR3 : Hid (((W2.alloc (.cells ZC 102 (0, 0))).setRow W2.heap.size CL.toArray).heap[W2.heap.size]? = some (.cells CL.toArray 102 (0, 0))) := setRow_heap _ _ _ _ _ _ (heap_alloc_new _ _)
    have HX3 : Hid _ := hH3.x
    clear hHeld hH2 hH3 hbA hbB HS0 HR HBC HLK HC35 HZC hzc HBR HKI
    generalize ((W2.alloc (.cells ZC 102 (0, 0))).setRow W2.heap.size CL.toArray) = W3 at *
    change Code.wpIn _ _ _ _ _ _ _
    refine wpIn_seq ?_
    have HS7 : Hid (NS7 w N s0.2 W2.heap.size CL W3.drew) := ⟨by rw [heap_drew]; exact HX3.out.c3, HX3.out.m4.keep (by rw [heap_drew]), by rw [heap_drew]; exact HX3.out.c5, by rw [heap_drew]; exact HR3.out⟩
    have HX4 : Hid _ := HX3.out.step (hb := (Below.refl _ _).drew)
    have HB4 : Hid (Below W2.heap.size W2 W3.drew) := HB3.out.drew
    refine region_round (S := NS7 w N s0.2 W2.heap.size CL) (by kernel_rfl) (by kernel_rfl) (fun h => by obtain ⟨_, _, h⟩ := h; exact h) HS7.out (fun hHeld => ?_)
    clear HX3 HB3 HR3 HS7
    generalize W3.drew = W4 at *
    have hlt2 : W2.heap.size ≠ w.heap.size + 1 := by have h1 := HX4.out.top; have h2 := HI.out.top; have h3 := HWD.out; omega
    refine wpAnyH_take (i := 0) (oi := { dst := some 33, op := Go.Op.load 81 (Go.Operand.tmp 3), type := 81, pos := _, after := #[], guard := none }) (v := .slice (some ⟨w.heap.size + 1, 0, none⟩) N N) rfl (by kernel_rfl) (by kernel_rfl) (by kernel_rfl) (fun _ _ _ h => h) (Or.inl ⟨by rfl, fun w' hw' => ?_⟩) hHeld ?_
    · have hcc : w'.cell? ⟨w.heap.size + 1 + 1, 0, none⟩ = some (.slice (some ⟨w.heap.size + 1, 0, none⟩) N N) := (cell_of_row _ (w.heap.size + 2) 0 _ _ _ hw'.c3).trans rfl; first | (go_simp; done) | (go_simp; rfl)
    try simp only [Act.put, List.setIfInBounds_toArray, List.set_cons_zero, List.set_cons_succ]
    refine wpAnyH_take (i := 1) (oi := { dst := some 34, op := Go.Op.move (Go.Operand.tmp 5), type := 3, pos := _, after := #[], guard := none }) (v := .int .i64 (i : Int)) rfl (by kernel_rfl) (by kernel_rfl) (by kernel_rfl) (fun _ _ _ h => h) (Or.inl ⟨by rfl, fun w' hw' => ?_⟩) hHeld ?_
    · first | (go_simp; done) | (go_simp; rfl)
    try simp only [Act.put, List.setIfInBounds_toArray, List.set_cons_zero, List.set_cons_succ]
    refine wpAnyH_take (i := 2) (oi := { dst := some 35, op := Go.Op.load 97 (Go.Operand.tmp 4), type := 97, pos := _, after := #[], guard := none }) (v := .map (some (w.heap.size + 3))) rfl (by kernel_rfl) (by kernel_rfl) (by kernel_rfl) (fun _ _ _ h => h) (Or.inl ⟨by rfl, fun w' hw' => ?_⟩) hHeld ?_
    · have hcc : w'.cell? ⟨w.heap.size + 1 + 1 + 1 + 1, 0, none⟩ = some (.map (some (w.heap.size + 3))) := (cell_of_row _ (w.heap.size + 4) 0 _ _ _ hw'.c5).trans rfl; first | (go_simp; done) | (go_simp; rfl)
    try simp only [Act.put, List.setIfInBounds_toArray, List.set_cons_zero, List.set_cons_succ]
    refine wpAnyH_take (i := 3) (oi := { dst := some 36, op := Go.Op.load 102 (Go.Operand.tmp 7), type := 102, pos := _, after := #[], guard := none }) rfl (by kernel_rfl) (by kernel_rfl) (by kernel_rfl) (fun _ _ _ h => h) (yieldsIf_load_mid (by rfl) 102 (.tmp 7) rfl (W2.heap.size) (0) rfl (CL) _ (fun _ h => rangeAt_row h.k) Tryz.underlying102 rfl HCI.out) hHeld ?_
    try simp only [Act.put, List.setIfInBounds_toArray, List.set_cons_zero, List.set_cons_succ]
    refine wpAnyH_take (i := 4) (oi := { dst := some 37, op := Go.Op.lookup 97 (Go.Operand.tmp 35) (Go.Operand.tmp 36) false, type := 3, pos := _, after := #[{ on := 2, ground := Go.Ground.data }, { on := 3, ground := Go.Ground.data }], guard := none }) (v := .int .i64 nv) rfl (by kernel_rfl) (by kernel_rfl) (by kernel_rfl) (fun _ _ _ h => h) (Or.inl ⟨by rfl, fun w' hw' => ?_⟩) hHeld ?_
    · have hll2 := HLC.out w' hw'.m4; first | (go_simp; done) | (go_simp; rfl)
    try simp only [Act.put, List.setIfInBounds_toArray, List.set_cons_zero, List.set_cons_succ]
    refine wpAnyH_take (i := 5) (oi := { dst := some 38, op := Go.Op.indexAddr 81 (Go.Operand.tmp 33) (Go.Operand.tmp 34), type := 0, pos := _, after := #[{ on := 0, ground := Go.Ground.data }, { on := 1, ground := Go.Ground.data }, { on := 0, ground := Go.Ground.phase }, { on := 1, ground := Go.Ground.phase }, { on := 2, ground := Go.Ground.phase }, { on := 3, ground := Go.Ground.phase }, { on := 4, ground := Go.Ground.phase }], guard := none }) (v := .pointer (some ⟨w.heap.size + 1, i, none⟩)) rfl (by kernel_rfl) (by kernel_rfl) (by kernel_rfl) (fun _ _ _ h => h) (Or.inl ⟨by rfl, fun w' hw' => ?_⟩) hHeld ?_
    · first | (go_simp; done) | (go_simp; rfl) | (go_simp; intro hbad; omega)
    try simp only [Act.put, List.setIfInBounds_toArray, List.set_cons_zero, List.set_cons_succ]
    refine wpAnyH_ready (rs := [6]) (by kernel_rfl) (by simp) ?_
    refine AllReadyH.cons (o := { dst := none, op := Go.Op.store 3 (Go.Operand.tmp 38) (Go.Operand.tmp 37), type := 0, pos := _, after := #[{ on := 5, ground := Go.Ground.data }, { on := 4, ground := Go.Ground.data }, { on := 0, ground := Go.Ground.phase }, { on := 1, ground := Go.Ground.phase }, { on := 2, ground := Go.Ground.phase }, { on := 3, ground := Go.Ground.phase }, { on := 4, ground := Go.Ground.phase }], guard := none }) rfl (fun K hK => ?_) AllReadyH.nil
    rw [if_pos (by rfl)]
    have hfz := frozen_of_row _ _ i _ _ HX4.out.r2
    obtain ⟨z0, hz0⟩ : ∃ z, s0.1[i]? = some z := ⟨_, List.getElem?_eq_getElem (by omega)⟩
    have hci : W4.cell? ⟨w.heap.size + 1, i, none⟩ = some (.int .i64 z0) := by rw [cell_of_row _ _ i _ _ _ HX4.out.r2]; simpa using iC_at hz0
    go_wp2_with fail
    have hk5 : ∀ k, k ≠ w.heap.size + 1 → (W4.setCell ⟨w.heap.size + 1, i, none⟩ (.int .i64 nv)).heap[k]? = W4.heap[k]? := fun k hk => heap_setCell_other _ _ _ _ hk
    have hs5 : (W4.setCell ⟨w.heap.size + 1, i, none⟩ (.int .i64 nv)).heap.size = W4.heap.size := by simp
    have hH5 : NS7 w N s0.2 W2.heap.size CL (W4.setCell ⟨w.heap.size + 1, i, none⟩ (.int .i64 nv)) := ⟨(hk5 _ (by omega)).trans hHeld.c3, hHeld.m4.keep (hk5 _ (by omega)), (hk5 _ (by omega)).trans hHeld.c5, (hk5 _ hlt2).trans hHeld.k⟩
    have HX5 : Hid (NXI w og N (.slice (some ⟨g, 0, none⟩) N cap) (s0.1.set i nv, s0.2) (W4.setCell ⟨w.heap.size + 1, i, none⟩ (.int .i64 nv))) := by
      have h := HX4.out
      exact ⟨h.bel.setCell (show w.heap.size ≤ w.heap.size + 1 by omega) _, (hk5 _ (by omega)).trans h.c1, by rw [heap_setCell_same _ _ i _ _ _ h.r2, iC_set], (hk5 _ (by omega)).trans h.c3, h.m4.keep (hk5 _ (by omega)), (hk5 _ (by omega)).trans h.c5, (hk5 _ (by omega)).trans h.c6, by rw [hs5]; exact h.top⟩
    have HK5 : Hid (∀ k, k < W2.heap.size → k ≠ w.heap.size + 1 → (W4.setCell ⟨w.heap.size + 1, i, none⟩ (.int .i64 nv)).heap[k]? = W2.heap[k]?) := fun k h1 h2 => (hk5 k h2).trans (HB4.out.block k h1)
    have HSZ5 : Hid (W2.heap.size ≤ (W4.setCell ⟨w.heap.size + 1, i, none⟩ (.int .i64 nv)).heap.size) := by show _ ≤ _; rw [hs5]; exact HB4.out.size
    have HH5 : Hid _ := hH5
    refine hK.out _ _ hH5 (fun _ => ?_)
    clear hK K
    try simp only [Act.put, List.setIfInBounds_toArray, List.set_cons_zero, List.set_cons_succ]
    refine wpAnyH_done (by kernel_rfl) ?_ _
    clear hHeld hH5 hk5 hs5 hfz hci hz0 z0 HX4 HB4 HLC
    generalize W4.setCell ⟨w.heap.size + 1, i, none⟩ (.int .i64 nv) = W5 at *
    change Code.wpIn _ _ _ _ _ _ _
    obtain ⟨o5, hrun, hmi, hgr⟩ := HPU.out W5 HH5.out.m4
    have HRUN : Hid _ := hrun
    have hc5 : W5.cell? ⟨w.heap.size + 1 + 1 + 1 + 1, 0, none⟩ = some (.map (some (w.heap.size + 3))) := (cell_of_row _ (w.heap.size + 4) 0 _ _ _ HH5.out.c5).trans rfl
    have HK7 : Hid _ := rangeAt_row HH5.out.k
    have HMI : Hid _ := hmi
    have HGR : Hid _ := hgr
    clear HPU hrun hmi hgr
    refine region_plain (by kernel_rfl) (fun h => by obtain ⟨_, _, h⟩ := h; exact h) ?_
    go_wp2_with (first
      | (refine wpList_load_mid rfl 102 _ rfl W2.heap.size 0 rfl CL _ HK7.out Tryz.underlying102 rfl HCI.out ?_)
      | (refine wpList_plain rfl fun K' hK' => wp_mapUpd _ _ _ _ rfl _ _ _ rfl rfl rfl HRUN.out (hK' _ _ ?_)))
    have hw6 := HS6.out
    have htop := HI.out.top
    have hwd := HWD.out
    have hsz := HSZ5.out
    have hgs := HGR.out.size
    have hkk : ∀ k, k < W2.heap.size → k ≠ w.heap.size + 1 → k ≠ w.heap.size + 3 → (ChangeMaps.setBlock W5 (w.heap.size + 3) o5).heap[k]? = W.heap[k]? := fun k h1 h2 h3 => (HGR.out.block k (by omega) (fun e => h3 (by simpa using e))).trans ((HK5.out k h1 h2).trans (HWB.out k))
    refine ⟨⟨by omega, fun k o' hk ho _ => (hkk k (by have := (Array.getElem?_eq_some_iff.1 ho).1; omega) (by omega) (by omega)).trans ho⟩, ⟨hkk _ (by omega) (by omega) (by omega), hkk _ (by omega) (by omega) (by omega)⟩, ?_⟩
    show NXI _ _ _ _ (stS (cls o.log) ((pre ++ [x]).map (·.val))) _
    rw [HSN.out]
    have h := HX5.out
    have hg' : ∀ k, k < W5.heap.size → k ≠ w.heap.size + 3 → (ChangeMaps.setBlock W5 (w.heap.size + 3) o5).heap[k]? = W5.heap[k]? := fun k h1 h3 => HGR.out.block k h1 (fun e => h3 (by simpa using e))
    have h6 := h.top
    exact ⟨h.bel.grown HGR.out h.bel.size (fun k e => by cases e; omega), (hg' _ (by omega) (by omega)).trans h.c1, (hg' _ (by omega) (by omega)).trans h.r2, (hg' _ (by omega) (by omega)).trans h.c3, HMI.out, (hg' _ (by omega) (by omega)).trans h.c5, (hg' _ (by omega) (by omega)).trans h.c6, by omega⟩
  case done =>
    rintro D xs W hD hS hI hd
    have hr2 := hI.r2
    rw [hS, show (List.range o.log.length) = List.range (cls o.log).length by rw [cls_len], stS_all] at hr2
    have HR2 : Hid (W.heap[w.heap.size + 1]? = some (.cells (iC (nxL o.log)).toArray 3 (0, 0))) := by
      unfold nxL
      rw [← cls_len o.log]
      exact hr2
    have hc3 : W.cell? ⟨w.heap.size + 1 + 1, 0, none⟩ = some (.slice (some ⟨w.heap.size + 1, 0, none⟩) N N) := (cell_of_row _ (w.heap.size + 2) 0 _ _ _ hI.c3).trans rfl
    have HBW : Hid _ := hI.bel
    have HD : Hid _ := hd
    have hDw : w.heap.size + 6 ≤ D := by omega
    clear hI hd hr2 hS
    go_wp2
    refine marks_ret (v := .slice (some ⟨w.heap.size + 1, 0, none⟩) N N) [D] W (fun D' hD' => by have e : D' = D := (by simpa using hD'); rw [e]; exact HD.out) (by simp) (fun w' h1 h2 h3 h4 h5 => ⟨results_tmp Tryz.results37 _ _ _, rfl, (h5 _ (by simp; omega)).trans HR2.out, ⟨h2.trans HBW.out.os, h3.trans HBW.out.tape, h4.trans HBW.out.output, by rw [h1]; exact HBW.out.size, fun k hk => (h5 k (by simp; omega)).trans (HBW.out.block k hk)⟩⟩)
  case stop =>
    rintro D c pre W _ _ h _
    exact h.elim
end Go.Proofs.YtefhjjjjbkkedaaGreat.R5.PS

/- Contract of the program's Breaks: the function that it hands back. -/
namespace Go.Proofs.YtefhjjjjbkkedaaGreat.R5.PS
open scoped Classical
open Go.RowKit

/-- What was asked, as a value whose data lie in memory. -/
def AskedAt (X : World) (e : Qn × List UInt8) (A : Value) : Prop := ∃ b cap, A = .agg (aL e (.slice (some ⟨b, 0, none⟩) e.1.data.length cap)).toArray ∧ HB X (.slice (some ⟨b, 0, none⟩) e.1.data.length cap) e.1.data
/-- The pairs whose first is i; those from i on. -/
def prI (cs : List Cl) (i : Nat) : List (Nat × Nat) := match cs[i]? with
  | some c => (plc cs (i + 1) c).map fun k => (i, k)
  | none => []
def restP (cs : List Cl) (i : Nat) : List (Nat × Nat) := (List.range' i (cs.length - i)).flatMap (prI cs)
theorem restP_0 (cs : List Cl) : restP cs 0 = pairs cs := by unfold restP pairs; rw [Nat.sub_zero, List.range_eq_range']; rfl
theorem restP_end (cs : List Cl) : restP cs cs.length = [] := by unfold restP; simp
theorem restP_step (cs : List Cl) (i : Nat) (h : i < cs.length) : restP cs i = prI cs i ++ restP cs (i + 1) := by
  unfold restP
  rw [show cs.length - i = (cs.length - (i + 1)) + 1 by omega, List.range'_succ, List.flatMap_cons]
theorem drop_cons {α : Type} {l : List α} {k : Nat} {x : α} {t : List α} (h : l.drop k = x :: t) : l[k]? = some x ∧ l.drop (k + 1) = t := by
  have hk : k < l.length := by
    rcases Nat.lt_or_ge k l.length with h1 | h1
    · exact h1
    · rw [List.drop_of_length_le h1] at h; cases h
  rw [List.drop_eq_getElem_cons hk] at h
  obtain ⟨h1, h2⟩ := List.cons.inj h
  exact ⟨by rw [List.getElem?_eq_getElem hk, h1], h2⟩
/-- What the body of a round keeps. -/
def KpR (B0 : Nat) (S : Nat → Prop) (dv : Value) (X Y : World) : Prop := X.heap.size ≤ Y.heap.size ∧ ∀ k, k < X.heap.size → (B0 ≤ k ∨ S k ∨ dv.ownBlock = some k) → Y.heap[k]? = X.heap[k]?
/-- While the iterator runs. -/
structure BI (W0 : World) (B nb mb : Nat) (S : Nat → Prop) (o : Pra) (dv ov : Value) (J : Nat → World → Prop) (k : Nat) (X : World) : Prop where
  j : J k X
  po : PO B nb mb S X o dv ov
  nx : X.heap[W0.heap.size + 1]? = some (.cells (iC (nxL o.log)).toArray 3 (0, 0))
theorem BI.step {W0 : World} {B nb mb : Nat} {S : Nat → Prop} {o : Pra} {dv ov : Value} {J : Nat → World → Prop} {k : Nat} {X Y : World} (hJB : ∀ k X Y, J k X → Below X.heap.size X Y → J k Y) (h : BI W0 B nb mb S o dv ov J k X) (hb : Below X.heap.size X Y) : BI W0 B nb mb S o dv ov J k Y :=
  ⟨hJB k X Y h.j hb, h.po.below hb, (hb.block _ (row_lt h.nx)).trans h.nx⟩
theorem BI.body {W0 : World} {B nb mb : Nat} {S : Nat → Prop} {o : Pra} {dv ov : Value} {J : Nat → World → Prop} {k : Nat} {X Y : World} (h : BI W0 B nb mb S o dv ov J k X) (hk : KpR W0.heap.size S dv X Y) (hj : J (k + 1) Y) : BI W0 B nb mb S o dv ov J (k + 1) Y :=
  ⟨hj, h.po.keep hk.1 (fun j hl hS => hk.2 j hl (.inr hS)), (hk.2 _ (row_lt h.nx) (.inl (by omega))).trans h.nx⟩
theorem nxL_at {l : List (Qn × List UInt8)} {i : Nat} (h : i < l.length) : (nxL l)[i]? = some (nextAt (cls l) i : Int) := by
  unfold nxL
  rw [List.getElem?_map, List.getElem?_eq_getElem (by simpa using h)]
  simp
/-- How far the inner loop has to go. -/
def msr (N z : Nat) : Nat := if z = 0 then 0 else N + 1 - z
theorem msr_lt {N z j : Nat} (h0 : j ≠ 0) (hj : j < N) (h : z = 0 ∨ (j < z ∧ z < N)) : msr N z < msr N j := by
  unfold msr
  rw [if_neg h0]
  rcases h with h | ⟨h1, h2⟩
  · rw [if_pos h]; omega
  · rw [if_neg (by omega)]; omega
/-- A call of the loop's own yield. -/
theorem op_yield {P : Program} {Q : Exit → Act → World → Prop} {o : Oper} {K : Act → World → Prop} {a : Act} {w : World} {y n : Nat} {v1 v2 : Value} {R : Ending → World → Prop} (f x1 x2 : Operand) (ts : Array TypeId) (ho : o.op = .call { callee := .value f, args := #[x1, x2], argTypes := ts }) (hf : a.eval f = .func (.yield y) #[] #[]) (h1 : a.eval x1 = v1) (h2 : a.eval x2 = v2)
    (hy : YieldAt Fence.wide n P y #[v1, v2] w R) (hR : ∀ e w', R e w' → ∃ v, e = .returned v ∧ K (a.put o.dst v) w') : o.wpIn Fence.wide (n + 1) P a w K Q := by
  obtain ⟨fn, tmps, assign, body, hr, hro⟩ := hy
  refine ⟨fun f _ => trivial, ?_⟩
  show o.uponIn Fence.wide (n + 1) P a K Q ((execOp a.eval o).run P w)
  have e : ∀ ρ : Operand → Value, ρ f = .func (.yield y) #[] #[] → ρ x1 = v1 → ρ x2 = v2 → (execOp ρ o).run P w = .ok (.round y fn tmps assign body) w := by
    intro ρ g0 g1 g2
    simp [execOp, ho, resolve, invoke, Deferred.ofValue, g0, g1, g2, hr, Result.andThen]
  rw [e a.eval hf h1 h2]
  refine ⟨fun hd => by simp [Fence.wide] at hd, RoundIn.mono hro ?_⟩
  intro e' w' he
  obtain ⟨v, rfl, hk⟩ := hR e' w' he
  exact hk
set_option maxHeartbeats 2000000 in
set_option maxRecDepth 100000 in
theorem breaks1_in (y : Nat) {B nb mb : Nat} {S : Nat → Prop} {o : Pra} {dv ov : Value} (W0 : World) (J : Nat → World → Prop) (ho : PO B nb mb S W0 o dv ov) (hll : o.log.length < 1000000) (h0 : 0 < o.log.length) (hJB : ∀ k X Y, J k X → Below X.heap.size X Y → J k Y)
    (hY : ∀ k p X A1 A2 e1 e2, (pairs (cls o.log))[k]? = some p → o.log[p.1]? = some e1 → o.log[p.2]? = some e2 → J k X → AskedAt X e1 A1 → AskedAt X e2 A2 → YieldAt Fence.wide 7 Tryz.prog y #[A1, A2] X fun e Y => e = .returned (.bool true) ∧ J (k + 1) Y ∧ KpR W0.heap.size S dv X Y)
    (hj0 : J 0 W0) :
    Calls Tryz.prog 36 #[.func (.yield y) #[] #[], .pointer (some ⟨nb, 0, none⟩)] W0 fun e W' => (∃ v, e = .returned v) ∧ J (pairs (cls o.log)).length W' := by
  obtain ⟨e0, he0⟩ : ∃ e, o.log[0]? = some e := ⟨_, List.getElem?_eq_getElem h0⟩
  obtain ⟨g, cap, hov, hSg, _⟩ := ho.ordRow he0
  subst hov
  obtain ⟨N, hN⟩ : ∃ N, N = o.log.length := ⟨_, rfl⟩
  have HNE : Hid _ := hN
  have HNX : Hid (Calls Tryz.prog 37 #[.pointer (some ⟨nb, 0, none⟩)] W0 fun e w' => e = .returned (.slice (some ⟨W0.heap.size + 1, 0, none⟩) N N) ∧ w'.heap[W0.heap.size + 1]? = some (.cells (iC (nxL o.log)).toArray 3 (0, 0)) ∧ Below W0.heap.size W0 w') := by
    have h := next_any ho hll h0
    rw [← hN] at h
    exact h
  have HO : Hid _ := ho
  have HJB : Hid _ := hJB
  have HY : Hid _ := hY
  have HJ0 : Hid _ := hj0
  have hN6 : N < 1000000 := by omega
  have hC34 : Hid (∀ X, PO B nb mb S X o dv (.slice (some ⟨g, 0, none⟩) o.log.length cap) → X.cell? ⟨nb, 34, none⟩ = some (.slice (some ⟨g, 0, none⟩) N cap)) := fun X hX => by rw [HNE.out]; exact hX.cells.2.2.1
  clear ho hJB hY hj0 he0 hN
  go_enter Tryz.func36, Tryz.ntmps36
  go_wp2_with fail
  refine Calls.mono HNX.out ?_
  rintro e W1 ⟨rfl, hnx, hb1⟩
  have HB0 : Hid (BI W0 B nb mb S o dv (.slice (some ⟨g, 0, none⟩) o.log.length cap) J 0 W1) := ⟨HJB.out 0 W0 W1 HJ0.out hb1, HO.out.below hb1, hnx⟩
  have hc34 := hC34.out W1 HB0.out.po
  clear HNX hnx hb1 HJ0
  have hzk := fun W => zero_kq W
  obtain ⟨ZK, hZK⟩ : ∃ A, A = zKq := ⟨_, rfl⟩
  rw [← hZK] at hzk
  have HZK : Hid (ZK.size = 35) := by show _ = _; rw [hZK]; kernel_rfl
  clear hZK
  go_wp2
  go_loopw [11] (fun i wr => ∃ (i' k : Nat), i' ≤ N ∧ i = .int .i64 i' ∧ BI W0 B nb mb S o dv (.slice (some ⟨g, 0, none⟩) o.log.length cap) J k wr ∧ (pairs (cls o.log)).drop k = restP (cls o.log) i' ∧ k ≤ (pairs (cls o.log)).length) (fun i _ => N - (intOf i).toNat)
  case atStart => exact ⟨0, 0, Nat.zero_le _, rfl, HB0.out, by rw [restP_0]; rfl, Nat.zero_le _⟩
  case round =>
    clear HB0 hc34
    generalize wr = X at *
    obtain ⟨i, k, hi, rfl, hB, hd, hkl⟩ := hrel
    have HB : Hid _ := hB
    have HD : Hid _ := hd
    have HKL : Hid _ := hkl
    clear hB hd hkl
    by_cases hlt : i < N
    · have hiI : (i : Int) < (N : Int) := by omega
      have hlt' : i < o.log.length := by rw [← HNE.out]; exact hlt
      obtain ⟨ei, hei⟩ : ∃ e, o.log[i]? = some e := ⟨_, List.getElem?_eq_getElem hlt'⟩
      obtain ⟨g', cap', hgv, _, hrow⟩ := HB.out.po.ordRow hei
      simp only [Value.slice.injEq, Option.some.injEq, Addr.mk.injEq] at hgv
      obtain ⟨⟨rfl, _⟩, _, rfl⟩ := hgv
      have hkx := HB.out.po.ok.all ei (List.mem_of_getElem? hei)
      have HKI : Hid _ := info35k (kL ei.1) (kL_len _ hkx.1.key)
      have HKS : Hid ((kL ei.1).toArray.size = 35) := by show _ = _; rw [List.size_toArray]; exact kL_len _ hkx.1.key
      have HK1 : Hid _ := kL_onea ei.1
      have HROW : Hid _ := hrow
      have HZ8 : Hid ((X.alloc (.cells ZK 74 (0, 0))).heap[X.heap.size]? = some (.cells ZK 74 (0, 0))) := heap_alloc_new _ _
      have hb5 : Below X.heap.size X ((X.alloc (.cells ZK 74 (0, 0))).setRow X.heap.size (kL ei.1).toArray) := below_setRow ((Below.refl _ _).alloc (Nat.le_refl _) _) (Nat.le_refl _) _
      have HB5 : Hid _ := BI.step HJB.out HB.out hb5
      have HR5 : Hid (((X.alloc (.cells ZK 74 (0, 0))).setRow X.heap.size (kL ei.1).toArray).heap[X.heap.size]? = some (.cells (kL ei.1).toArray 74 (0, 0))) := setRow_heap _ _ _ _ _ _ (heap_alloc_new _ _)
      have hnxi : ((X.alloc (.cells ZK 74 (0, 0))).setRow X.heap.size (kL ei.1).toArray).cell? ⟨W0.heap.size + 1, i, none⟩ = some (.int .i64 (nextAt (cls o.log) i : Int)) := by rw [cell_of_row _ _ i _ _ _ HB5.out.nx]; simpa using iC_at (nxL_at hlt')
      have HEI : Hid _ := hei
      have HKX : Hid _ := hkx
      have HW0 : Hid (W0.heap.size ≤ X.heap.size) := by have := row_lt HB.out.nx; show _ ≤ _; omega
      have HCI : Hid ((cls o.log)[i]? = some (clX ei)) := cls_at hei
      have HRS : Hid (restP (cls o.log) i = (plc (cls o.log) (i + 1) (clX ei)).map (fun q => (i, q)) ++ restP (cls o.log) (i + 1)) := by
        show _ = _
        rw [restP_step _ _ (by rw [cls_len]; exact hlt')]
        unfold prI
        rw [HCI.out]
      clear hrow hkx hb5 hei HB
      generalize hKLe : kL ei.1 = KL at *
      have HKLE : Hid _ := hKLe
      clear hKLe
      obtain ⟨z, hz⟩ : ∃ z : Nat, z = nextAt (cls o.log) i := ⟨_, rfl⟩
      rw [← hz] at hnxi
      have HZ : Hid _ := hz
      clear hz
      go_wp2_with (first
        | (refine wpList_load_mid rfl 74 _ rfl g (i * 35) rfl KL _ HROW.out Tryz.underlying74 rfl HKI.out ?_)
        | (refine wpListZ_store rfl 74 _ _ rfl X.heap.size KL.toArray rfl rfl 74 ZK HZ8.out (info35ka _ HKS.out) (HZK.out.trans HKS.out.symm) HK1.out ?_; intro X5 hX5; rw [← hX5] at hnxi HB5 HR5; clear hX5))
      have HASK : Hid (∀ (Y : World) (k' j : Nat) (e : Qn × List UInt8), BI W0 B nb mb S o dv (.slice (some ⟨g, 0, none⟩) o.log.length cap) J k' Y → o.log[j]? = some e → Calls Tryz.prog 28 #[.pointer (some ⟨nb, 0, none⟩), .agg (kL e.1).toArray] Y fun e' w' => AskedEnd Y e e' w') := fun Y k' j e hY he => asked_any nb mb o.log e.1 e.2 Y hY.po.cells.2.2.2.1 hY.po.ok hY.po.map (hY.po.ok.all e (List.mem_of_getElem? he)).1 (fnd_at hY.po.ok.once he)
      go_loopw [6] (fun j wr => ∃ (pos k2 : Nat), pos < N ∧ (cls o.log)[pos]? = some (clX ei) ∧ j = .int .i64 (nextAt (cls o.log) pos : Int) ∧ BI W0 B nb mb S o dv (.slice (some ⟨g, 0, none⟩) o.log.length cap) J k2 wr ∧ wr.heap[X.heap.size]? = some (.cells KL.toArray 74 (0, 0)) ∧ (pairs (cls o.log)).drop k2 = (plc (cls o.log) (pos + 1) (clX ei)).map (fun q => (i, q)) ++ restP (cls o.log) (i + 1) ∧ k2 ≤ (pairs (cls o.log)).length) (fun j _ => msr N (intOf j).toNat)
      case atStart => exact ⟨i, k, hlt, HCI.out, by rw [HZ.out], HB5.out, HR5.out, by rw [HD.out, HRS.out], HKL.out⟩
      case round =>
        clear hnxi HB5 HR5 HZ HD HKL HRS
        obtain ⟨pos, k2, hpos, hcp, rfl, hB2, hr2, hd2, hk2⟩ := hrel
        have HB2 : Hid _ := hB2
        have HR2 : Hid _ := hr2
        have HK2 : Hid _ := hk2
        rcases chain (cls o.log) pos (clX ei) hcp with ⟨hp0, hn0⟩ | ⟨j, t, hp, hn, hpj, hjl, hcj, hpt⟩
        · rw [hp0] at hd2
          rw [hn0]
          have HD2 : Hid ((pairs (cls o.log)).drop k2 = restP (cls o.log) (i + 1)) := by show _ = _; rw [hd2]; rfl
          clear hB2 hr2 hk2 hd2 hp0 hn0 hcp
          go_wp2
          go_roundw
          case rel => exact ⟨i + 1, k2, by omega, by go_num, HB2.out, HD2.out, HK2.out⟩
          case measure => simp [intOf]; omega
        · rw [hn]
          rw [hp, List.map_cons, List.cons_append] at hd2
          obtain ⟨hpk, hd3⟩ := drop_cons hd2
          have hjN : j < N := by rw [cls_len] at hjl; rw [HNE.out]; exact hjl
          have hjl' : j < o.log.length := by rw [← HNE.out]; exact hjN
          obtain ⟨ej, hej⟩ : ∃ e, o.log[j]? = some e := ⟨_, List.getElem?_eq_getElem hjl'⟩
          obtain ⟨g', cap', hgv, _, hrow⟩ := hB2.po.ordRow hej
          simp only [Value.slice.injEq, Option.some.injEq, Addr.mk.injEq] at hgv
          obtain ⟨⟨rfl, _⟩, _, rfl⟩ := hgv
          have hj0 : (0 : Int) < (j : Int) := by omega
          have hjI : (j : Int) < (N : Int) := by omega
          have HKJ : Hid _ := info35k (kL ej.1) (kL_len _ (hB2.po.ok.all ej (List.mem_of_getElem? hej)).1.key)
          have HAS1 : Hid (∀ Y, BI W0 B nb mb S o dv (.slice (some ⟨g, 0, none⟩) o.log.length cap) J k2 Y → Calls Tryz.prog 28 #[.pointer (some ⟨nb, 0, none⟩), .agg KL.toArray] Y fun e' w' => AskedEnd Y ei e' w') := fun Y hY => by rw [← HKLE.out]; exact HASK.out Y k2 i ei hY HEI.out
          have HAS2 : Hid (∀ Y, BI W0 B nb mb S o dv (.slice (some ⟨g, 0, none⟩) o.log.length cap) J k2 Y → Calls Tryz.prog 28 #[.pointer (some ⟨nb, 0, none⟩), .agg (kL ej.1).toArray] Y fun e' w' => AskedEnd Y ej e' w') := fun Y hY => HASK.out Y k2 j ej hY hej
          have HRWJ : Hid (wr.drew.rangeAt g (j * 35) (kL ej.1)) := rangeAt_below hrow ((Below.refl _ _).drew)
          have HEJ : Hid _ := hej
          have HPK : Hid _ := hpk
          have HD3 : Hid ((pairs (cls o.log)).drop (k2 + 1) = (plc (cls o.log) (j + 1) (clX ei)).map (fun q => (i, q)) ++ restP (cls o.log) (i + 1)) := by show _ = _; rw [hd3, hpt]
          have HCJ : Hid _ := hcj
          have hbd : Below wr.heap.size wr wr.drew := (Below.refl _ _).drew
          have hBd := BI.step HJB.out hB2 hbd
          have hrd : wr.drew.heap[X.heap.size]? = some (.cells KL.toArray 74 (0, 0)) := by rw [heap_drew]; exact hr2
          clear hB2 hr2 hk2 hd2 hd3 hp hn hcp hpt hcj hej hpk hrow hbd
          generalize kL ej.1 = KJ at *
          go_wp2
          refine (wpIn_wide (n := 8)).1 (wpIn_region_any (by kernel_rfl) ?_)
          show wpAnyIn _ _ _ _ _ _ _ _ _ wr.drew
          generalize wr.drew = V at *
          refine wpAnyIn_take (i := 0) (oi := { dst := some 26, op := Go.Op.move (Go.Operand.tmp 0), type := 80, pos := _, after := #[], guard := none }) (v := .func (.yield y) #[] #[]) rfl rfl (by kernel_rfl) (by kernel_rfl) (by kernel_rfl) (fun _ _ _ h => h) ⟨Or.inl ⟨by rfl, fun w' => ?_⟩, fun _ => rfl⟩ ?_
          · first | (go_simp; done) | (go_simp; rfl)
          try simp only [Act.put, List.setIfInBounds_toArray, List.set_cons_zero, List.set_cons_succ]
          refine wpAnyIn_take (i := 3) (oi := { dst := some 29, op := Go.Op.fieldAddr 67 (Go.Operand.tmp 1) 3, type := 0, pos := _, after := #[], guard := none }) (v := .pointer (some ⟨nb, 34, none⟩)) rfl rfl (by kernel_rfl) (by kernel_rfl) (by kernel_rfl) (fun _ _ _ h => h) ⟨Or.inl ⟨by rfl, fun w' => ?_⟩, fun _ => rfl⟩ ?_
          · first | (go_simp; done) | (go_simp; rfl)
          try simp only [Act.put, List.setIfInBounds_toArray, List.set_cons_zero, List.set_cons_succ]
          refine wpAnyIn_take (i := 5) (oi := { dst := some 31, op := Go.Op.move (Go.Operand.tmp 6), type := 3, pos := _, after := #[], guard := none }) (v := .int .i64 (j : Int)) rfl rfl (by kernel_rfl) (by kernel_rfl) (by kernel_rfl) (fun _ _ _ h => h) ⟨Or.inl ⟨by rfl, fun w' => ?_⟩, fun _ => rfl⟩ ?_
          · first | (go_simp; done) | (go_simp; rfl)
          try simp only [Act.put, List.setIfInBounds_toArray, List.set_cons_zero, List.set_cons_succ]
          have hB := hBd
          have hrw : V.rangeAt g (j * 35) KJ := HRWJ.out
          clear hBd
          refine wpAnyIn_ready (rs := [1, 4]) (by kernel_rfl) (by simp) ?_
          refine AllReadyIn.cons (o := { dst := some 27, op := Go.Op.load 74 (Go.Operand.tmp 5), type := 74, pos := _, after := #[], guard := none }) rfl (fun K hK => ?_) (AllReadyIn.cons (o := { dst := some 30, op := Go.Op.load 65 (Go.Operand.tmp 29), type := 65, pos := _, after := #[{ on := 3, ground := Go.Ground.data }], guard := none }) rfl (fun K hK => ?_) AllReadyIn.nil)
          all_goals rw [if_pos (by rfl)]
          · skip
            refine op_wide (op_load_mid 74 _ rfl X.heap.size 0 rfl KL _ (rangeAt_row hrd) Tryz.underlying74 rfl HKI.out ?_)
            try refine hK _ _ ?_
            try clear hK K
            try simp only [Act.put, List.setIfInBounds_toArray, List.set_cons_zero, List.set_cons_succ]
            refine wpAnyIn_ready (rs := [2, 4]) (by kernel_rfl) (by simp) ?_
            refine AllReadyIn.cons (o := { dst := some 28, op := Go.Op.call { callee := Go.Callee.value (Go.Operand.func 28), args := #[Go.Operand.tmp 1, Go.Operand.tmp 27], argTypes := #[67, 74] }, type := 47, pos := _, after := #[{ on := 1, ground := Go.Ground.data }], guard := none }) rfl (fun K hK => ?_) (AllReadyIn.cons (o := { dst := some 30, op := Go.Op.load 65 (Go.Operand.tmp 29), type := 65, pos := _, after := #[{ on := 3, ground := Go.Ground.data }], guard := none }) rfl (fun K hK => ?_) AllReadyIn.nil)
            all_goals rw [if_pos (by rfl)]
            · skip
              refine op_wide ?_
              go_wp2_with fail
              refine Calls.mono (HAS1.out V hB) ?_
              rintro e V2 ⟨b1, p1, rfl, _, _, hbf1, hbl⟩
              have hH1 := hbf1.1
              have hBn := BI.step HJB.out hB hbl
              have hrdn := (hbl.block _ (row_lt hrd)).trans hrd
              have hrwn := rangeAt_below hrw hbl
              clear hbl hbf1
              clear hB hrd hrw
              have hB := hBn
              have hrd := hrdn
              have hrw := hrwn
              clear hBn hrdn hrwn
              try refine hK _ _ ?_
              try clear hK K
              try simp only [Act.put, List.setIfInBounds_toArray, List.set_cons_zero, List.set_cons_succ]
              refine wpAnyIn_ready (rs := [4]) (by kernel_rfl) (by simp) ?_
              refine AllReadyIn.cons (o := { dst := some 30, op := Go.Op.load 65 (Go.Operand.tmp 29), type := 65, pos := _, after := #[{ on := 3, ground := Go.Ground.data }], guard := none }) rfl (fun K hK => ?_) AllReadyIn.nil
              rw [if_pos (by rfl)]
              refine op_wide ?_
              have hc34 := hC34.out V2 hB.po
              go_wp2_with fail
              clear hc34
              try refine hK _ _ ?_
              try clear hK K
              try simp only [Act.put, List.setIfInBounds_toArray, List.set_cons_zero, List.set_cons_succ]
              refine wpAnyIn_take (i := 6) (oi := { dst := some 32, op := Go.Op.indexAddr 65 (Go.Operand.tmp 30) (Go.Operand.tmp 31), type := 0, pos := _, after := #[{ on := 4, ground := Go.Ground.data }, { on := 5, ground := Go.Ground.data }], guard := none }) (v := .pointer (some ⟨g, j * 35, none⟩)) rfl rfl (by kernel_rfl) (by kernel_rfl) (by kernel_rfl) (fun _ _ _ h => h) ⟨Or.inl ⟨by rfl, fun w' => ?_⟩, fun _ => rfl⟩ ?_
              · first | (go_simp; done) | (go_simp; rfl) | (go_simp; intro hbad; omega)
              try simp only [Act.put, List.setIfInBounds_toArray, List.set_cons_zero, List.set_cons_succ]
              refine wpAnyIn_ready (rs := [7]) (by kernel_rfl) (by simp) ?_
              refine AllReadyIn.cons (o := { dst := some 33, op := Go.Op.load 74 (Go.Operand.tmp 32), type := 74, pos := _, after := #[{ on := 6, ground := Go.Ground.data }], guard := none }) rfl (fun K hK => ?_) AllReadyIn.nil
              rw [if_pos (by rfl)]
              refine op_wide (op_load_mid 74 _ rfl g (j * 35) rfl KJ _ hrw Tryz.underlying74 rfl HKJ.out ?_)
              try refine hK _ _ ?_
              try clear hK K
              try simp only [Act.put, List.setIfInBounds_toArray, List.set_cons_zero, List.set_cons_succ]
              refine wpAnyIn_ready (rs := [8]) (by kernel_rfl) (by simp) ?_
              refine AllReadyIn.cons (o := { dst := some 34, op := Go.Op.call { callee := Go.Callee.value (Go.Operand.func 28), args := #[Go.Operand.tmp 1, Go.Operand.tmp 33], argTypes := #[67, 74] }, type := 47, pos := _, after := #[{ on := 7, ground := Go.Ground.data }, { on := 2, ground := Go.Ground.chain }], guard := none }) rfl (fun K hK => ?_) AllReadyIn.nil
              rw [if_pos (by rfl)]
              refine op_wide ?_
              go_wp2_with fail
              refine Calls.mono (HAS2.out V2 hB) ?_
              rintro e V3 ⟨b2, p2, rfl, _, _, hbf2, hbl⟩
              have hA1 : AskedAt V3 ei (.agg (aL ei (.slice (some ⟨b1, 0, none⟩) ei.1.data.length p1)).toArray) := ⟨b1, p1, rfl, hH1.below hbl⟩
              have hA2 : AskedAt V3 ej (.agg (aL ej (.slice (some ⟨b2, 0, none⟩) ej.1.data.length p2)).toArray) := ⟨b2, p2, rfl, hbf2.1⟩
              have hBn := BI.step HJB.out hB hbl
              have hrdn := (hbl.block _ (row_lt hrd)).trans hrd
              have hrwn := rangeAt_below hrw hbl
              clear hbl hbf2 hH1
              clear hB hrd hrw
              have hB := hBn
              have hrd := hrdn
              have hrw := hrwn
              clear hBn hrdn hrwn
              try refine hK _ _ ?_
              try clear hK K
              try simp only [Act.put, List.setIfInBounds_toArray, List.set_cons_zero, List.set_cons_succ]
              refine wpAnyIn_ready (rs := [9]) (by kernel_rfl) (by simp) ?_
              refine AllReadyIn.cons (o := { dst := some 35, op := Go.Op.call { callee := Go.Callee.value (Go.Operand.tmp 26), args := #[Go.Operand.tmp 28, Go.Operand.tmp 34], argTypes := #[47, 47] }, type := 4, pos := _, after := #[{ on := 0, ground := Go.Ground.data }, { on := 2, ground := Go.Ground.data }, { on := 8, ground := Go.Ground.data }, { on := 8, ground := Go.Ground.chain }], guard := none }) rfl (fun K hK => ?_) AllReadyIn.nil
              rw [if_pos (by rfl)]
              have hyy := HY.out k2 (i, j) V3 _ _ ei ej HPK.out HEI.out HEJ.out hB.j hA1 hA2
              clear hA1 hA2
              generalize (aL ei (.slice (some ⟨b1, 0, none⟩) ei.1.data.length p1)).toArray = AA1 at *
              generalize (aL ej (.slice (some ⟨b2, 0, none⟩) ej.1.data.length p2)).toArray = AA2 at *
              refine op_yield (n := 7) _ _ _ _ rfl rfl rfl rfl hyy ?_
              rintro e V4 ⟨rfl, hJ4, hK4⟩
              refine ⟨_, rfl, ?_⟩
              have hB4 := BI.body hB hK4 hJ4
              have HB4 : Hid _ := hB4
              have HR4 : Hid (V4.heap[X.heap.size]? = some (.cells KL.toArray 74 (0, 0))) := (hK4.2 _ (row_lt hrd) (.inl HW0.out)).trans hrd
              have hnj : V4.cell? ⟨W0.heap.size + 1, j, none⟩ = some (.int .i64 (nextAt (cls o.log) j : Int)) := by rw [cell_of_row _ _ j _ _ _ hB4.nx]; simpa using iC_at (nxL_at hjl')
              clear hyy hJ4 hK4 hB4 hB hrd hrw
              try refine hK _ _ ?_
              try clear hK K
              try simp only [Act.put, List.setIfInBounds_toArray, List.set_cons_zero, List.set_cons_succ]
              refine wpAnyIn_take (i := 10) (oi := { dst := some 36, op := Go.Op.unOp Go.UnOp.not 4 (Go.Operand.tmp 35), type := 4, pos := _, after := #[{ on := 9, ground := Go.Ground.data }], guard := none }) (v := .bool false) rfl rfl (by kernel_rfl) (by kernel_rfl) (by kernel_rfl) (fun _ _ _ h => h) ⟨Or.inl ⟨by rfl, fun w' => ?_⟩, fun _ => rfl⟩ ?_
              · first | (go_simp; done) | (go_simp; rfl)
              try simp only [Act.put, List.setIfInBounds_toArray, List.set_cons_zero, List.set_cons_succ]
              refine wpAnyIn_done (by kernel_rfl) ?_ _
              obtain ⟨zj, hzj⟩ : ∃ z : Nat, z = nextAt (cls o.log) j := ⟨_, rfl⟩
              rw [← hzj] at hnj
              have HZJ : Hid _ := hzj
              clear hzj
              go_wp2
              go_roundw
              case rel => exact ⟨j, k2 + 1, hjN, HCJ.out, by rw [HZJ.out], HB4.out, HR4.out, HD3.out, by have h := (List.getElem?_eq_some_iff.1 HPK.out).1; omega⟩
              case measure =>
                have hch := chain (cls o.log) j (clX ei) HCJ.out
                have hcl := cls_len o.log
                have hne := HNE.out
                rw [← HZJ.out] at hch
                show msr N zj < msr N j
                refine msr_lt (by omega) hjN ?_
                rcases hch with ⟨_, h0⟩ | ⟨j', t', _, h1, h2, h3, _⟩
                · exact .inl h0
                · exact .inr ⟨by omega, by omega⟩
            · skip
              refine op_wide ?_
              have hc34 := hC34.out V hB.po
              go_wp2_with fail
              clear hc34
              try refine hK _ _ ?_
              try clear hK K
              try simp only [Act.put, List.setIfInBounds_toArray, List.set_cons_zero, List.set_cons_succ]
              refine wpAnyIn_take (i := 6) (oi := { dst := some 32, op := Go.Op.indexAddr 65 (Go.Operand.tmp 30) (Go.Operand.tmp 31), type := 0, pos := _, after := #[{ on := 4, ground := Go.Ground.data }, { on := 5, ground := Go.Ground.data }], guard := none }) (v := .pointer (some ⟨g, j * 35, none⟩)) rfl rfl (by kernel_rfl) (by kernel_rfl) (by kernel_rfl) (fun _ _ _ h => h) ⟨Or.inl ⟨by rfl, fun w' => ?_⟩, fun _ => rfl⟩ ?_
              · first | (go_simp; done) | (go_simp; rfl) | (go_simp; intro hbad; omega)
              try simp only [Act.put, List.setIfInBounds_toArray, List.set_cons_zero, List.set_cons_succ]
              refine wpAnyIn_ready (rs := [2, 7]) (by kernel_rfl) (by simp) ?_
              refine AllReadyIn.cons (o := { dst := some 28, op := Go.Op.call { callee := Go.Callee.value (Go.Operand.func 28), args := #[Go.Operand.tmp 1, Go.Operand.tmp 27], argTypes := #[67, 74] }, type := 47, pos := _, after := #[{ on := 1, ground := Go.Ground.data }], guard := none }) rfl (fun K hK => ?_) (AllReadyIn.cons (o := { dst := some 33, op := Go.Op.load 74 (Go.Operand.tmp 32), type := 74, pos := _, after := #[{ on := 6, ground := Go.Ground.data }], guard := none }) rfl (fun K hK => ?_) AllReadyIn.nil)
              all_goals rw [if_pos (by rfl)]
              · skip
                refine op_wide ?_
                go_wp2_with fail
                refine Calls.mono (HAS1.out V hB) ?_
                rintro e V2 ⟨b1, p1, rfl, _, _, hbf1, hbl⟩
                have hH1 := hbf1.1
                have hBn := BI.step HJB.out hB hbl
                have hrdn := (hbl.block _ (row_lt hrd)).trans hrd
                have hrwn := rangeAt_below hrw hbl
                clear hbl hbf1
                clear hB hrd hrw
                have hB := hBn
                have hrd := hrdn
                have hrw := hrwn
                clear hBn hrdn hrwn
                try refine hK _ _ ?_
                try clear hK K
                try simp only [Act.put, List.setIfInBounds_toArray, List.set_cons_zero, List.set_cons_succ]
                refine wpAnyIn_ready (rs := [7]) (by kernel_rfl) (by simp) ?_
                refine AllReadyIn.cons (o := { dst := some 33, op := Go.Op.load 74 (Go.Operand.tmp 32), type := 74, pos := _, after := #[{ on := 6, ground := Go.Ground.data }], guard := none }) rfl (fun K hK => ?_) AllReadyIn.nil
                rw [if_pos (by rfl)]
                refine op_wide (op_load_mid 74 _ rfl g (j * 35) rfl KJ _ hrw Tryz.underlying74 rfl HKJ.out ?_)
                try refine hK _ _ ?_
                try clear hK K
                try simp only [Act.put, List.setIfInBounds_toArray, List.set_cons_zero, List.set_cons_succ]
                refine wpAnyIn_ready (rs := [8]) (by kernel_rfl) (by simp) ?_
                refine AllReadyIn.cons (o := { dst := some 34, op := Go.Op.call { callee := Go.Callee.value (Go.Operand.func 28), args := #[Go.Operand.tmp 1, Go.Operand.tmp 33], argTypes := #[67, 74] }, type := 47, pos := _, after := #[{ on := 7, ground := Go.Ground.data }, { on := 2, ground := Go.Ground.chain }], guard := none }) rfl (fun K hK => ?_) AllReadyIn.nil
                rw [if_pos (by rfl)]
                refine op_wide ?_
                go_wp2_with fail
                refine Calls.mono (HAS2.out V2 hB) ?_
                rintro e V3 ⟨b2, p2, rfl, _, _, hbf2, hbl⟩
                have hA1 : AskedAt V3 ei (.agg (aL ei (.slice (some ⟨b1, 0, none⟩) ei.1.data.length p1)).toArray) := ⟨b1, p1, rfl, hH1.below hbl⟩
                have hA2 : AskedAt V3 ej (.agg (aL ej (.slice (some ⟨b2, 0, none⟩) ej.1.data.length p2)).toArray) := ⟨b2, p2, rfl, hbf2.1⟩
                have hBn := BI.step HJB.out hB hbl
                have hrdn := (hbl.block _ (row_lt hrd)).trans hrd
                have hrwn := rangeAt_below hrw hbl
                clear hbl hbf2 hH1
                clear hB hrd hrw
                have hB := hBn
                have hrd := hrdn
                have hrw := hrwn
                clear hBn hrdn hrwn
                try refine hK _ _ ?_
                try clear hK K
                try simp only [Act.put, List.setIfInBounds_toArray, List.set_cons_zero, List.set_cons_succ]
                refine wpAnyIn_ready (rs := [9]) (by kernel_rfl) (by simp) ?_
                refine AllReadyIn.cons (o := { dst := some 35, op := Go.Op.call { callee := Go.Callee.value (Go.Operand.tmp 26), args := #[Go.Operand.tmp 28, Go.Operand.tmp 34], argTypes := #[47, 47] }, type := 4, pos := _, after := #[{ on := 0, ground := Go.Ground.data }, { on := 2, ground := Go.Ground.data }, { on := 8, ground := Go.Ground.data }, { on := 8, ground := Go.Ground.chain }], guard := none }) rfl (fun K hK => ?_) AllReadyIn.nil
                rw [if_pos (by rfl)]
                have hyy := HY.out k2 (i, j) V3 _ _ ei ej HPK.out HEI.out HEJ.out hB.j hA1 hA2
                clear hA1 hA2
                generalize (aL ei (.slice (some ⟨b1, 0, none⟩) ei.1.data.length p1)).toArray = AA1 at *
                generalize (aL ej (.slice (some ⟨b2, 0, none⟩) ej.1.data.length p2)).toArray = AA2 at *
                refine op_yield (n := 7) _ _ _ _ rfl rfl rfl rfl hyy ?_
                rintro e V4 ⟨rfl, hJ4, hK4⟩
                refine ⟨_, rfl, ?_⟩
                have hB4 := BI.body hB hK4 hJ4
                have HB4 : Hid _ := hB4
                have HR4 : Hid (V4.heap[X.heap.size]? = some (.cells KL.toArray 74 (0, 0))) := (hK4.2 _ (row_lt hrd) (.inl HW0.out)).trans hrd
                have hnj : V4.cell? ⟨W0.heap.size + 1, j, none⟩ = some (.int .i64 (nextAt (cls o.log) j : Int)) := by rw [cell_of_row _ _ j _ _ _ hB4.nx]; simpa using iC_at (nxL_at hjl')
                clear hyy hJ4 hK4 hB4 hB hrd hrw
                try refine hK _ _ ?_
                try clear hK K
                try simp only [Act.put, List.setIfInBounds_toArray, List.set_cons_zero, List.set_cons_succ]
                refine wpAnyIn_take (i := 10) (oi := { dst := some 36, op := Go.Op.unOp Go.UnOp.not 4 (Go.Operand.tmp 35), type := 4, pos := _, after := #[{ on := 9, ground := Go.Ground.data }], guard := none }) (v := .bool false) rfl rfl (by kernel_rfl) (by kernel_rfl) (by kernel_rfl) (fun _ _ _ h => h) ⟨Or.inl ⟨by rfl, fun w' => ?_⟩, fun _ => rfl⟩ ?_
                · first | (go_simp; done) | (go_simp; rfl)
                try simp only [Act.put, List.setIfInBounds_toArray, List.set_cons_zero, List.set_cons_succ]
                refine wpAnyIn_done (by kernel_rfl) ?_ _
                obtain ⟨zj, hzj⟩ : ∃ z : Nat, z = nextAt (cls o.log) j := ⟨_, rfl⟩
                rw [← hzj] at hnj
                have HZJ : Hid _ := hzj
                clear hzj
                go_wp2
                go_roundw
                case rel => exact ⟨j, k2 + 1, hjN, HCJ.out, by rw [HZJ.out], HB4.out, HR4.out, HD3.out, by have h := (List.getElem?_eq_some_iff.1 HPK.out).1; omega⟩
                case measure =>
                  have hch := chain (cls o.log) j (clX ei) HCJ.out
                  have hcl := cls_len o.log
                  have hne := HNE.out
                  rw [← HZJ.out] at hch
                  show msr N zj < msr N j
                  refine msr_lt (by omega) hjN ?_
                  rcases hch with ⟨_, h0⟩ | ⟨j', t', _, h1, h2, h3, _⟩
                  · exact .inl h0
                  · exact .inr ⟨by omega, by omega⟩
              · skip
                refine op_wide (op_load_mid 74 _ rfl g (j * 35) rfl KJ _ hrw Tryz.underlying74 rfl HKJ.out ?_)
                try refine hK _ _ ?_
                try clear hK K
                try simp only [Act.put, List.setIfInBounds_toArray, List.set_cons_zero, List.set_cons_succ]
                refine wpAnyIn_ready (rs := [2]) (by kernel_rfl) (by simp) ?_
                refine AllReadyIn.cons (o := { dst := some 28, op := Go.Op.call { callee := Go.Callee.value (Go.Operand.func 28), args := #[Go.Operand.tmp 1, Go.Operand.tmp 27], argTypes := #[67, 74] }, type := 47, pos := _, after := #[{ on := 1, ground := Go.Ground.data }], guard := none }) rfl (fun K hK => ?_) AllReadyIn.nil
                rw [if_pos (by rfl)]
                refine op_wide ?_
                go_wp2_with fail
                refine Calls.mono (HAS1.out V hB) ?_
                rintro e V2 ⟨b1, p1, rfl, _, _, hbf1, hbl⟩
                have hH1 := hbf1.1
                have hBn := BI.step HJB.out hB hbl
                have hrdn := (hbl.block _ (row_lt hrd)).trans hrd
                have hrwn := rangeAt_below hrw hbl
                clear hbl hbf1
                clear hB hrd hrw
                have hB := hBn
                have hrd := hrdn
                have hrw := hrwn
                clear hBn hrdn hrwn
                try refine hK _ _ ?_
                try clear hK K
                try simp only [Act.put, List.setIfInBounds_toArray, List.set_cons_zero, List.set_cons_succ]
                refine wpAnyIn_ready (rs := [8]) (by kernel_rfl) (by simp) ?_
                refine AllReadyIn.cons (o := { dst := some 34, op := Go.Op.call { callee := Go.Callee.value (Go.Operand.func 28), args := #[Go.Operand.tmp 1, Go.Operand.tmp 33], argTypes := #[67, 74] }, type := 47, pos := _, after := #[{ on := 7, ground := Go.Ground.data }, { on := 2, ground := Go.Ground.chain }], guard := none }) rfl (fun K hK => ?_) AllReadyIn.nil
                rw [if_pos (by rfl)]
                refine op_wide ?_
                go_wp2_with fail
                refine Calls.mono (HAS2.out V2 hB) ?_
                rintro e V3 ⟨b2, p2, rfl, _, _, hbf2, hbl⟩
                have hA1 : AskedAt V3 ei (.agg (aL ei (.slice (some ⟨b1, 0, none⟩) ei.1.data.length p1)).toArray) := ⟨b1, p1, rfl, hH1.below hbl⟩
                have hA2 : AskedAt V3 ej (.agg (aL ej (.slice (some ⟨b2, 0, none⟩) ej.1.data.length p2)).toArray) := ⟨b2, p2, rfl, hbf2.1⟩
                have hBn := BI.step HJB.out hB hbl
                have hrdn := (hbl.block _ (row_lt hrd)).trans hrd
                have hrwn := rangeAt_below hrw hbl
                clear hbl hbf2 hH1
                clear hB hrd hrw
                have hB := hBn
                have hrd := hrdn
                have hrw := hrwn
                clear hBn hrdn hrwn
                try refine hK _ _ ?_
                try clear hK K
                try simp only [Act.put, List.setIfInBounds_toArray, List.set_cons_zero, List.set_cons_succ]
                refine wpAnyIn_ready (rs := [9]) (by kernel_rfl) (by simp) ?_
                refine AllReadyIn.cons (o := { dst := some 35, op := Go.Op.call { callee := Go.Callee.value (Go.Operand.tmp 26), args := #[Go.Operand.tmp 28, Go.Operand.tmp 34], argTypes := #[47, 47] }, type := 4, pos := _, after := #[{ on := 0, ground := Go.Ground.data }, { on := 2, ground := Go.Ground.data }, { on := 8, ground := Go.Ground.data }, { on := 8, ground := Go.Ground.chain }], guard := none }) rfl (fun K hK => ?_) AllReadyIn.nil
                rw [if_pos (by rfl)]
                have hyy := HY.out k2 (i, j) V3 _ _ ei ej HPK.out HEI.out HEJ.out hB.j hA1 hA2
                clear hA1 hA2
                generalize (aL ei (.slice (some ⟨b1, 0, none⟩) ei.1.data.length p1)).toArray = AA1 at *
                generalize (aL ej (.slice (some ⟨b2, 0, none⟩) ej.1.data.length p2)).toArray = AA2 at *
                refine op_yield (n := 7) _ _ _ _ rfl rfl rfl rfl hyy ?_
                rintro e V4 ⟨rfl, hJ4, hK4⟩
                refine ⟨_, rfl, ?_⟩
                have hB4 := BI.body hB hK4 hJ4
                have HB4 : Hid _ := hB4
                have HR4 : Hid (V4.heap[X.heap.size]? = some (.cells KL.toArray 74 (0, 0))) := (hK4.2 _ (row_lt hrd) (.inl HW0.out)).trans hrd
                have hnj : V4.cell? ⟨W0.heap.size + 1, j, none⟩ = some (.int .i64 (nextAt (cls o.log) j : Int)) := by rw [cell_of_row _ _ j _ _ _ hB4.nx]; simpa using iC_at (nxL_at hjl')
                clear hyy hJ4 hK4 hB4 hB hrd hrw
                try refine hK _ _ ?_
                try clear hK K
                try simp only [Act.put, List.setIfInBounds_toArray, List.set_cons_zero, List.set_cons_succ]
                refine wpAnyIn_take (i := 10) (oi := { dst := some 36, op := Go.Op.unOp Go.UnOp.not 4 (Go.Operand.tmp 35), type := 4, pos := _, after := #[{ on := 9, ground := Go.Ground.data }], guard := none }) (v := .bool false) rfl rfl (by kernel_rfl) (by kernel_rfl) (by kernel_rfl) (fun _ _ _ h => h) ⟨Or.inl ⟨by rfl, fun w' => ?_⟩, fun _ => rfl⟩ ?_
                · first | (go_simp; done) | (go_simp; rfl)
                try simp only [Act.put, List.setIfInBounds_toArray, List.set_cons_zero, List.set_cons_succ]
                refine wpAnyIn_done (by kernel_rfl) ?_ _
                obtain ⟨zj, hzj⟩ : ∃ z : Nat, z = nextAt (cls o.log) j := ⟨_, rfl⟩
                rw [← hzj] at hnj
                have HZJ : Hid _ := hzj
                clear hzj
                go_wp2
                go_roundw
                case rel => exact ⟨j, k2 + 1, hjN, HCJ.out, by rw [HZJ.out], HB4.out, HR4.out, HD3.out, by have h := (List.getElem?_eq_some_iff.1 HPK.out).1; omega⟩
                case measure =>
                  have hch := chain (cls o.log) j (clX ei) HCJ.out
                  have hcl := cls_len o.log
                  have hne := HNE.out
                  rw [← HZJ.out] at hch
                  show msr N zj < msr N j
                  refine msr_lt (by omega) hjN ?_
                  rcases hch with ⟨_, h0⟩ | ⟨j', t', _, h1, h2, h3, _⟩
                  · exact .inl h0
                  · exact .inr ⟨by omega, by omega⟩
          · skip
            refine op_wide ?_
            have hc34 := hC34.out V hB.po
            go_wp2_with fail
            clear hc34
            try refine hK _ _ ?_
            try clear hK K
            try simp only [Act.put, List.setIfInBounds_toArray, List.set_cons_zero, List.set_cons_succ]
            refine wpAnyIn_take (i := 6) (oi := { dst := some 32, op := Go.Op.indexAddr 65 (Go.Operand.tmp 30) (Go.Operand.tmp 31), type := 0, pos := _, after := #[{ on := 4, ground := Go.Ground.data }, { on := 5, ground := Go.Ground.data }], guard := none }) (v := .pointer (some ⟨g, j * 35, none⟩)) rfl rfl (by kernel_rfl) (by kernel_rfl) (by kernel_rfl) (fun _ _ _ h => h) ⟨Or.inl ⟨by rfl, fun w' => ?_⟩, fun _ => rfl⟩ ?_
            · first | (go_simp; done) | (go_simp; rfl) | (go_simp; intro hbad; omega)
            try simp only [Act.put, List.setIfInBounds_toArray, List.set_cons_zero, List.set_cons_succ]
            refine wpAnyIn_ready (rs := [1, 7]) (by kernel_rfl) (by simp) ?_
            refine AllReadyIn.cons (o := { dst := some 27, op := Go.Op.load 74 (Go.Operand.tmp 5), type := 74, pos := _, after := #[], guard := none }) rfl (fun K hK => ?_) (AllReadyIn.cons (o := { dst := some 33, op := Go.Op.load 74 (Go.Operand.tmp 32), type := 74, pos := _, after := #[{ on := 6, ground := Go.Ground.data }], guard := none }) rfl (fun K hK => ?_) AllReadyIn.nil)
            all_goals rw [if_pos (by rfl)]
            · skip
              refine op_wide (op_load_mid 74 _ rfl X.heap.size 0 rfl KL _ (rangeAt_row hrd) Tryz.underlying74 rfl HKI.out ?_)
              try refine hK _ _ ?_
              try clear hK K
              try simp only [Act.put, List.setIfInBounds_toArray, List.set_cons_zero, List.set_cons_succ]
              refine wpAnyIn_ready (rs := [2, 7]) (by kernel_rfl) (by simp) ?_
              refine AllReadyIn.cons (o := { dst := some 28, op := Go.Op.call { callee := Go.Callee.value (Go.Operand.func 28), args := #[Go.Operand.tmp 1, Go.Operand.tmp 27], argTypes := #[67, 74] }, type := 47, pos := _, after := #[{ on := 1, ground := Go.Ground.data }], guard := none }) rfl (fun K hK => ?_) (AllReadyIn.cons (o := { dst := some 33, op := Go.Op.load 74 (Go.Operand.tmp 32), type := 74, pos := _, after := #[{ on := 6, ground := Go.Ground.data }], guard := none }) rfl (fun K hK => ?_) AllReadyIn.nil)
              all_goals rw [if_pos (by rfl)]
              · skip
                refine op_wide ?_
                go_wp2_with fail
                refine Calls.mono (HAS1.out V hB) ?_
                rintro e V2 ⟨b1, p1, rfl, _, _, hbf1, hbl⟩
                have hH1 := hbf1.1
                have hBn := BI.step HJB.out hB hbl
                have hrdn := (hbl.block _ (row_lt hrd)).trans hrd
                have hrwn := rangeAt_below hrw hbl
                clear hbl hbf1
                clear hB hrd hrw
                have hB := hBn
                have hrd := hrdn
                have hrw := hrwn
                clear hBn hrdn hrwn
                try refine hK _ _ ?_
                try clear hK K
                try simp only [Act.put, List.setIfInBounds_toArray, List.set_cons_zero, List.set_cons_succ]
                refine wpAnyIn_ready (rs := [7]) (by kernel_rfl) (by simp) ?_
                refine AllReadyIn.cons (o := { dst := some 33, op := Go.Op.load 74 (Go.Operand.tmp 32), type := 74, pos := _, after := #[{ on := 6, ground := Go.Ground.data }], guard := none }) rfl (fun K hK => ?_) AllReadyIn.nil
                rw [if_pos (by rfl)]
                refine op_wide (op_load_mid 74 _ rfl g (j * 35) rfl KJ _ hrw Tryz.underlying74 rfl HKJ.out ?_)
                try refine hK _ _ ?_
                try clear hK K
                try simp only [Act.put, List.setIfInBounds_toArray, List.set_cons_zero, List.set_cons_succ]
                refine wpAnyIn_ready (rs := [8]) (by kernel_rfl) (by simp) ?_
                refine AllReadyIn.cons (o := { dst := some 34, op := Go.Op.call { callee := Go.Callee.value (Go.Operand.func 28), args := #[Go.Operand.tmp 1, Go.Operand.tmp 33], argTypes := #[67, 74] }, type := 47, pos := _, after := #[{ on := 7, ground := Go.Ground.data }, { on := 2, ground := Go.Ground.chain }], guard := none }) rfl (fun K hK => ?_) AllReadyIn.nil
                rw [if_pos (by rfl)]
                refine op_wide ?_
                go_wp2_with fail
                refine Calls.mono (HAS2.out V2 hB) ?_
                rintro e V3 ⟨b2, p2, rfl, _, _, hbf2, hbl⟩
                have hA1 : AskedAt V3 ei (.agg (aL ei (.slice (some ⟨b1, 0, none⟩) ei.1.data.length p1)).toArray) := ⟨b1, p1, rfl, hH1.below hbl⟩
                have hA2 : AskedAt V3 ej (.agg (aL ej (.slice (some ⟨b2, 0, none⟩) ej.1.data.length p2)).toArray) := ⟨b2, p2, rfl, hbf2.1⟩
                have hBn := BI.step HJB.out hB hbl
                have hrdn := (hbl.block _ (row_lt hrd)).trans hrd
                have hrwn := rangeAt_below hrw hbl
                clear hbl hbf2 hH1
                clear hB hrd hrw
                have hB := hBn
                have hrd := hrdn
                have hrw := hrwn
                clear hBn hrdn hrwn
                try refine hK _ _ ?_
                try clear hK K
                try simp only [Act.put, List.setIfInBounds_toArray, List.set_cons_zero, List.set_cons_succ]
                refine wpAnyIn_ready (rs := [9]) (by kernel_rfl) (by simp) ?_
                refine AllReadyIn.cons (o := { dst := some 35, op := Go.Op.call { callee := Go.Callee.value (Go.Operand.tmp 26), args := #[Go.Operand.tmp 28, Go.Operand.tmp 34], argTypes := #[47, 47] }, type := 4, pos := _, after := #[{ on := 0, ground := Go.Ground.data }, { on := 2, ground := Go.Ground.data }, { on := 8, ground := Go.Ground.data }, { on := 8, ground := Go.Ground.chain }], guard := none }) rfl (fun K hK => ?_) AllReadyIn.nil
                rw [if_pos (by rfl)]
                have hyy := HY.out k2 (i, j) V3 _ _ ei ej HPK.out HEI.out HEJ.out hB.j hA1 hA2
                clear hA1 hA2
                generalize (aL ei (.slice (some ⟨b1, 0, none⟩) ei.1.data.length p1)).toArray = AA1 at *
                generalize (aL ej (.slice (some ⟨b2, 0, none⟩) ej.1.data.length p2)).toArray = AA2 at *
                refine op_yield (n := 7) _ _ _ _ rfl rfl rfl rfl hyy ?_
                rintro e V4 ⟨rfl, hJ4, hK4⟩
                refine ⟨_, rfl, ?_⟩
                have hB4 := BI.body hB hK4 hJ4
                have HB4 : Hid _ := hB4
                have HR4 : Hid (V4.heap[X.heap.size]? = some (.cells KL.toArray 74 (0, 0))) := (hK4.2 _ (row_lt hrd) (.inl HW0.out)).trans hrd
                have hnj : V4.cell? ⟨W0.heap.size + 1, j, none⟩ = some (.int .i64 (nextAt (cls o.log) j : Int)) := by rw [cell_of_row _ _ j _ _ _ hB4.nx]; simpa using iC_at (nxL_at hjl')
                clear hyy hJ4 hK4 hB4 hB hrd hrw
                try refine hK _ _ ?_
                try clear hK K
                try simp only [Act.put, List.setIfInBounds_toArray, List.set_cons_zero, List.set_cons_succ]
                refine wpAnyIn_take (i := 10) (oi := { dst := some 36, op := Go.Op.unOp Go.UnOp.not 4 (Go.Operand.tmp 35), type := 4, pos := _, after := #[{ on := 9, ground := Go.Ground.data }], guard := none }) (v := .bool false) rfl rfl (by kernel_rfl) (by kernel_rfl) (by kernel_rfl) (fun _ _ _ h => h) ⟨Or.inl ⟨by rfl, fun w' => ?_⟩, fun _ => rfl⟩ ?_
                · first | (go_simp; done) | (go_simp; rfl)
                try simp only [Act.put, List.setIfInBounds_toArray, List.set_cons_zero, List.set_cons_succ]
                refine wpAnyIn_done (by kernel_rfl) ?_ _
                obtain ⟨zj, hzj⟩ : ∃ z : Nat, z = nextAt (cls o.log) j := ⟨_, rfl⟩
                rw [← hzj] at hnj
                have HZJ : Hid _ := hzj
                clear hzj
                go_wp2
                go_roundw
                case rel => exact ⟨j, k2 + 1, hjN, HCJ.out, by rw [HZJ.out], HB4.out, HR4.out, HD3.out, by have h := (List.getElem?_eq_some_iff.1 HPK.out).1; omega⟩
                case measure =>
                  have hch := chain (cls o.log) j (clX ei) HCJ.out
                  have hcl := cls_len o.log
                  have hne := HNE.out
                  rw [← HZJ.out] at hch
                  show msr N zj < msr N j
                  refine msr_lt (by omega) hjN ?_
                  rcases hch with ⟨_, h0⟩ | ⟨j', t', _, h1, h2, h3, _⟩
                  · exact .inl h0
                  · exact .inr ⟨by omega, by omega⟩
              · skip
                refine op_wide (op_load_mid 74 _ rfl g (j * 35) rfl KJ _ hrw Tryz.underlying74 rfl HKJ.out ?_)
                try refine hK _ _ ?_
                try clear hK K
                try simp only [Act.put, List.setIfInBounds_toArray, List.set_cons_zero, List.set_cons_succ]
                refine wpAnyIn_ready (rs := [2]) (by kernel_rfl) (by simp) ?_
                refine AllReadyIn.cons (o := { dst := some 28, op := Go.Op.call { callee := Go.Callee.value (Go.Operand.func 28), args := #[Go.Operand.tmp 1, Go.Operand.tmp 27], argTypes := #[67, 74] }, type := 47, pos := _, after := #[{ on := 1, ground := Go.Ground.data }], guard := none }) rfl (fun K hK => ?_) AllReadyIn.nil
                rw [if_pos (by rfl)]
                refine op_wide ?_
                go_wp2_with fail
                refine Calls.mono (HAS1.out V hB) ?_
                rintro e V2 ⟨b1, p1, rfl, _, _, hbf1, hbl⟩
                have hH1 := hbf1.1
                have hBn := BI.step HJB.out hB hbl
                have hrdn := (hbl.block _ (row_lt hrd)).trans hrd
                have hrwn := rangeAt_below hrw hbl
                clear hbl hbf1
                clear hB hrd hrw
                have hB := hBn
                have hrd := hrdn
                have hrw := hrwn
                clear hBn hrdn hrwn
                try refine hK _ _ ?_
                try clear hK K
                try simp only [Act.put, List.setIfInBounds_toArray, List.set_cons_zero, List.set_cons_succ]
                refine wpAnyIn_ready (rs := [8]) (by kernel_rfl) (by simp) ?_
                refine AllReadyIn.cons (o := { dst := some 34, op := Go.Op.call { callee := Go.Callee.value (Go.Operand.func 28), args := #[Go.Operand.tmp 1, Go.Operand.tmp 33], argTypes := #[67, 74] }, type := 47, pos := _, after := #[{ on := 7, ground := Go.Ground.data }, { on := 2, ground := Go.Ground.chain }], guard := none }) rfl (fun K hK => ?_) AllReadyIn.nil
                rw [if_pos (by rfl)]
                refine op_wide ?_
                go_wp2_with fail
                refine Calls.mono (HAS2.out V2 hB) ?_
                rintro e V3 ⟨b2, p2, rfl, _, _, hbf2, hbl⟩
                have hA1 : AskedAt V3 ei (.agg (aL ei (.slice (some ⟨b1, 0, none⟩) ei.1.data.length p1)).toArray) := ⟨b1, p1, rfl, hH1.below hbl⟩
                have hA2 : AskedAt V3 ej (.agg (aL ej (.slice (some ⟨b2, 0, none⟩) ej.1.data.length p2)).toArray) := ⟨b2, p2, rfl, hbf2.1⟩
                have hBn := BI.step HJB.out hB hbl
                have hrdn := (hbl.block _ (row_lt hrd)).trans hrd
                have hrwn := rangeAt_below hrw hbl
                clear hbl hbf2 hH1
                clear hB hrd hrw
                have hB := hBn
                have hrd := hrdn
                have hrw := hrwn
                clear hBn hrdn hrwn
                try refine hK _ _ ?_
                try clear hK K
                try simp only [Act.put, List.setIfInBounds_toArray, List.set_cons_zero, List.set_cons_succ]
                refine wpAnyIn_ready (rs := [9]) (by kernel_rfl) (by simp) ?_
                refine AllReadyIn.cons (o := { dst := some 35, op := Go.Op.call { callee := Go.Callee.value (Go.Operand.tmp 26), args := #[Go.Operand.tmp 28, Go.Operand.tmp 34], argTypes := #[47, 47] }, type := 4, pos := _, after := #[{ on := 0, ground := Go.Ground.data }, { on := 2, ground := Go.Ground.data }, { on := 8, ground := Go.Ground.data }, { on := 8, ground := Go.Ground.chain }], guard := none }) rfl (fun K hK => ?_) AllReadyIn.nil
                rw [if_pos (by rfl)]
                have hyy := HY.out k2 (i, j) V3 _ _ ei ej HPK.out HEI.out HEJ.out hB.j hA1 hA2
                clear hA1 hA2
                generalize (aL ei (.slice (some ⟨b1, 0, none⟩) ei.1.data.length p1)).toArray = AA1 at *
                generalize (aL ej (.slice (some ⟨b2, 0, none⟩) ej.1.data.length p2)).toArray = AA2 at *
                refine op_yield (n := 7) _ _ _ _ rfl rfl rfl rfl hyy ?_
                rintro e V4 ⟨rfl, hJ4, hK4⟩
                refine ⟨_, rfl, ?_⟩
                have hB4 := BI.body hB hK4 hJ4
                have HB4 : Hid _ := hB4
                have HR4 : Hid (V4.heap[X.heap.size]? = some (.cells KL.toArray 74 (0, 0))) := (hK4.2 _ (row_lt hrd) (.inl HW0.out)).trans hrd
                have hnj : V4.cell? ⟨W0.heap.size + 1, j, none⟩ = some (.int .i64 (nextAt (cls o.log) j : Int)) := by rw [cell_of_row _ _ j _ _ _ hB4.nx]; simpa using iC_at (nxL_at hjl')
                clear hyy hJ4 hK4 hB4 hB hrd hrw
                try refine hK _ _ ?_
                try clear hK K
                try simp only [Act.put, List.setIfInBounds_toArray, List.set_cons_zero, List.set_cons_succ]
                refine wpAnyIn_take (i := 10) (oi := { dst := some 36, op := Go.Op.unOp Go.UnOp.not 4 (Go.Operand.tmp 35), type := 4, pos := _, after := #[{ on := 9, ground := Go.Ground.data }], guard := none }) (v := .bool false) rfl rfl (by kernel_rfl) (by kernel_rfl) (by kernel_rfl) (fun _ _ _ h => h) ⟨Or.inl ⟨by rfl, fun w' => ?_⟩, fun _ => rfl⟩ ?_
                · first | (go_simp; done) | (go_simp; rfl)
                try simp only [Act.put, List.setIfInBounds_toArray, List.set_cons_zero, List.set_cons_succ]
                refine wpAnyIn_done (by kernel_rfl) ?_ _
                obtain ⟨zj, hzj⟩ : ∃ z : Nat, z = nextAt (cls o.log) j := ⟨_, rfl⟩
                rw [← hzj] at hnj
                have HZJ : Hid _ := hzj
                clear hzj
                go_wp2
                go_roundw
                case rel => exact ⟨j, k2 + 1, hjN, HCJ.out, by rw [HZJ.out], HB4.out, HR4.out, HD3.out, by have h := (List.getElem?_eq_some_iff.1 HPK.out).1; omega⟩
                case measure =>
                  have hch := chain (cls o.log) j (clX ei) HCJ.out
                  have hcl := cls_len o.log
                  have hne := HNE.out
                  rw [← HZJ.out] at hch
                  show msr N zj < msr N j
                  refine msr_lt (by omega) hjN ?_
                  rcases hch with ⟨_, h0⟩ | ⟨j', t', _, h1, h2, h3, _⟩
                  · exact .inl h0
                  · exact .inr ⟨by omega, by omega⟩
            · skip
              refine op_wide (op_load_mid 74 _ rfl g (j * 35) rfl KJ _ hrw Tryz.underlying74 rfl HKJ.out ?_)
              try refine hK _ _ ?_
              try clear hK K
              try simp only [Act.put, List.setIfInBounds_toArray, List.set_cons_zero, List.set_cons_succ]
              refine wpAnyIn_ready (rs := [1]) (by kernel_rfl) (by simp) ?_
              refine AllReadyIn.cons (o := { dst := some 27, op := Go.Op.load 74 (Go.Operand.tmp 5), type := 74, pos := _, after := #[], guard := none }) rfl (fun K hK => ?_) AllReadyIn.nil
              rw [if_pos (by rfl)]
              refine op_wide (op_load_mid 74 _ rfl X.heap.size 0 rfl KL _ (rangeAt_row hrd) Tryz.underlying74 rfl HKI.out ?_)
              try refine hK _ _ ?_
              try clear hK K
              try simp only [Act.put, List.setIfInBounds_toArray, List.set_cons_zero, List.set_cons_succ]
              refine wpAnyIn_ready (rs := [2]) (by kernel_rfl) (by simp) ?_
              refine AllReadyIn.cons (o := { dst := some 28, op := Go.Op.call { callee := Go.Callee.value (Go.Operand.func 28), args := #[Go.Operand.tmp 1, Go.Operand.tmp 27], argTypes := #[67, 74] }, type := 47, pos := _, after := #[{ on := 1, ground := Go.Ground.data }], guard := none }) rfl (fun K hK => ?_) AllReadyIn.nil
              rw [if_pos (by rfl)]
              refine op_wide ?_
              go_wp2_with fail
              refine Calls.mono (HAS1.out V hB) ?_
              rintro e V2 ⟨b1, p1, rfl, _, _, hbf1, hbl⟩
              have hH1 := hbf1.1
              have hBn := BI.step HJB.out hB hbl
              have hrdn := (hbl.block _ (row_lt hrd)).trans hrd
              have hrwn := rangeAt_below hrw hbl
              clear hbl hbf1
              clear hB hrd hrw
              have hB := hBn
              have hrd := hrdn
              have hrw := hrwn
              clear hBn hrdn hrwn
              try refine hK _ _ ?_
              try clear hK K
              try simp only [Act.put, List.setIfInBounds_toArray, List.set_cons_zero, List.set_cons_succ]
              refine wpAnyIn_ready (rs := [8]) (by kernel_rfl) (by simp) ?_
              refine AllReadyIn.cons (o := { dst := some 34, op := Go.Op.call { callee := Go.Callee.value (Go.Operand.func 28), args := #[Go.Operand.tmp 1, Go.Operand.tmp 33], argTypes := #[67, 74] }, type := 47, pos := _, after := #[{ on := 7, ground := Go.Ground.data }, { on := 2, ground := Go.Ground.chain }], guard := none }) rfl (fun K hK => ?_) AllReadyIn.nil
              rw [if_pos (by rfl)]
              refine op_wide ?_
              go_wp2_with fail
              refine Calls.mono (HAS2.out V2 hB) ?_
              rintro e V3 ⟨b2, p2, rfl, _, _, hbf2, hbl⟩
              have hA1 : AskedAt V3 ei (.agg (aL ei (.slice (some ⟨b1, 0, none⟩) ei.1.data.length p1)).toArray) := ⟨b1, p1, rfl, hH1.below hbl⟩
              have hA2 : AskedAt V3 ej (.agg (aL ej (.slice (some ⟨b2, 0, none⟩) ej.1.data.length p2)).toArray) := ⟨b2, p2, rfl, hbf2.1⟩
              have hBn := BI.step HJB.out hB hbl
              have hrdn := (hbl.block _ (row_lt hrd)).trans hrd
              have hrwn := rangeAt_below hrw hbl
              clear hbl hbf2 hH1
              clear hB hrd hrw
              have hB := hBn
              have hrd := hrdn
              have hrw := hrwn
              clear hBn hrdn hrwn
              try refine hK _ _ ?_
              try clear hK K
              try simp only [Act.put, List.setIfInBounds_toArray, List.set_cons_zero, List.set_cons_succ]
              refine wpAnyIn_ready (rs := [9]) (by kernel_rfl) (by simp) ?_
              refine AllReadyIn.cons (o := { dst := some 35, op := Go.Op.call { callee := Go.Callee.value (Go.Operand.tmp 26), args := #[Go.Operand.tmp 28, Go.Operand.tmp 34], argTypes := #[47, 47] }, type := 4, pos := _, after := #[{ on := 0, ground := Go.Ground.data }, { on := 2, ground := Go.Ground.data }, { on := 8, ground := Go.Ground.data }, { on := 8, ground := Go.Ground.chain }], guard := none }) rfl (fun K hK => ?_) AllReadyIn.nil
              rw [if_pos (by rfl)]
              have hyy := HY.out k2 (i, j) V3 _ _ ei ej HPK.out HEI.out HEJ.out hB.j hA1 hA2
              clear hA1 hA2
              generalize (aL ei (.slice (some ⟨b1, 0, none⟩) ei.1.data.length p1)).toArray = AA1 at *
              generalize (aL ej (.slice (some ⟨b2, 0, none⟩) ej.1.data.length p2)).toArray = AA2 at *
              refine op_yield (n := 7) _ _ _ _ rfl rfl rfl rfl hyy ?_
              rintro e V4 ⟨rfl, hJ4, hK4⟩
              refine ⟨_, rfl, ?_⟩
              have hB4 := BI.body hB hK4 hJ4
              have HB4 : Hid _ := hB4
              have HR4 : Hid (V4.heap[X.heap.size]? = some (.cells KL.toArray 74 (0, 0))) := (hK4.2 _ (row_lt hrd) (.inl HW0.out)).trans hrd
              have hnj : V4.cell? ⟨W0.heap.size + 1, j, none⟩ = some (.int .i64 (nextAt (cls o.log) j : Int)) := by rw [cell_of_row _ _ j _ _ _ hB4.nx]; simpa using iC_at (nxL_at hjl')
              clear hyy hJ4 hK4 hB4 hB hrd hrw
              try refine hK _ _ ?_
              try clear hK K
              try simp only [Act.put, List.setIfInBounds_toArray, List.set_cons_zero, List.set_cons_succ]
              refine wpAnyIn_take (i := 10) (oi := { dst := some 36, op := Go.Op.unOp Go.UnOp.not 4 (Go.Operand.tmp 35), type := 4, pos := _, after := #[{ on := 9, ground := Go.Ground.data }], guard := none }) (v := .bool false) rfl rfl (by kernel_rfl) (by kernel_rfl) (by kernel_rfl) (fun _ _ _ h => h) ⟨Or.inl ⟨by rfl, fun w' => ?_⟩, fun _ => rfl⟩ ?_
              · first | (go_simp; done) | (go_simp; rfl)
              try simp only [Act.put, List.setIfInBounds_toArray, List.set_cons_zero, List.set_cons_succ]
              refine wpAnyIn_done (by kernel_rfl) ?_ _
              obtain ⟨zj, hzj⟩ : ∃ z : Nat, z = nextAt (cls o.log) j := ⟨_, rfl⟩
              rw [← hzj] at hnj
              have HZJ : Hid _ := hzj
              clear hzj
              go_wp2
              go_roundw
              case rel => exact ⟨j, k2 + 1, hjN, HCJ.out, by rw [HZJ.out], HB4.out, HR4.out, HD3.out, by have h := (List.getElem?_eq_some_iff.1 HPK.out).1; omega⟩
              case measure =>
                have hch := chain (cls o.log) j (clX ei) HCJ.out
                have hcl := cls_len o.log
                have hne := HNE.out
                rw [← HZJ.out] at hch
                show msr N zj < msr N j
                refine msr_lt (by omega) hjN ?_
                rcases hch with ⟨_, h0⟩ | ⟨j', t', _, h1, h2, h3, _⟩
                · exact .inl h0
                · exact .inr ⟨by omega, by omega⟩
    · have hie : i = N := by omega
      subst hie
      have hiI : ¬ (i : Int) < (i : Int) := by omega
      have HFIN : Hid (J (pairs (cls o.log)).length X) := by
        have hd := HD.out
        rw [HNE.out, ← cls_len o.log, restP_end] at hd
        have hk : k = (pairs (cls o.log)).length := by
          have := congrArg List.length hd
          rw [List.length_drop, List.length_nil] at this
          have := HKL.out
          omega
        rw [← hk]; exact HB.out.j
      go_wp2
      go_end0
      exact ⟨⟨_, rfl⟩, HFIN.out⟩
end Go.Proofs.YtefhjjjjbkkedaaGreat.R5.PS

/- The program's Breaks, and a range over what it hands back. -/
namespace Go.Proofs.YtefhjjjjbkkedaaGreat.R5.PS
open scoped Classical
open Go.RowKit

theorem info36d (l : List Value) (h : l.length = 36) : (Tryz.prog.info? 67).map (·.size) = some l.length := by rw [h]; kernel_rfl
theorem info36da (RS : Array Value) (h : RS.size = 36) : (Tryz.prog.info? 67).map (·.size) = some RS.size := by rw [h]; kernel_rfl
/-- Breaks hands back a function over a copy of the oracle. -/
def BrEnd (B og mb : Nat) (S : Nat → Prop) (w : World) (o : Pra) (dv ov : Value) (e : Ending) (w' : World) : Prop :=
  e = .returned (.func (.func 36) #[] #[.pointer (some ⟨w.heap.size, 0, none⟩)]) ∧ Below w.heap.size w w' ∧ w.heap.size < w'.heap.size ∧ PO B w.heap.size mb (fun k => S k ∨ k = w.heap.size) w' o dv ov
set_option maxHeartbeats 1000000 in
set_option maxRecDepth 100000 in
theorem breaks_any {B og mb : Nat} {S : Nat → Prop} {w : World} {o : Pra} {dv ov : Value} (ho : PO B og mb S w o dv ov) (hB : B ≤ w.heap.size) (hov : ov.oneCell' = true) (hdv : dv.oneCell' = true) :
    Calls Tryz.prog 15 #[.pointer (some ⟨og, 0, none⟩)] w fun e w' => BrEnd B og mb S w o dv ov e w' := by
  have hz := fun W => zero_or W
  obtain ⟨Z, hZ⟩ : ∃ Z, Z = zOr := ⟨_, rfl⟩
  rw [← hZ] at hz
  have HZ : Hid (Z.size = 36) := by show _ = _; rw [hZ]; kernel_rfl
  obtain ⟨PL, hPL⟩ : ∃ L, L = pL o.ideal o.master dv ov mb := ⟨_, rfl⟩
  have hPl : PL.length = 36 := by rw [hPL]; exact pL_len _ _ _ _ _ ho.ml
  have HPI : Hid _ := info36d PL hPl
  have HPS : Hid (PL.toArray.size = 36) := by show _ = _; simpa using hPl
  have HP1 : Hid (PL.toArray.all (·.oneCell') = true) := by
    refine all_ofN (fun u hu => ?_)
    rw [hPL] at hu
    unfold pL at hu
    rcases List.mem_cons.1 hu with rfl | hu
    · rfl
    · rcases List.mem_append.1 hu with hu | hu
      · exact B8_one o.master u hu
      · simp only [List.mem_cons, List.not_mem_nil, or_false] at hu
        rcases hu with rfl | rfl | rfl
        · exact hdv
        · exact hov
        · rfl
  have hb1 : Below w.heap.size w (w.alloc (.cells Z 67 (0, 0))) := (Below.refl _ _).alloc (Nat.le_refl _) _
  have HNN : Hid _ := none_no og mb _ (ho.below hb1).cells.2.2.2.1
  have hrow : (w.alloc (.cells Z 67 (0, 0))).heap[og]? = some (.cells PL.toArray 67 (0, 0)) := by rw [hPL]; exact (ho.below hb1).row
  have HRG : Hid _ := rangeAt_row hrow
  have HZR : Hid ((w.alloc (.cells Z 67 (0, 0))).heap[w.heap.size]? = some (.cells Z 67 (0, 0))) := heap_alloc_new _ _
  have HEND : Hid (BrEnd B og mb S w o dv ov (.returned (.func (.func 36) #[] #[.pointer (some ⟨w.heap.size, 0, none⟩)])) ((w.alloc (.cells Z 67 (0, 0))).setRow w.heap.size PL.toArray)) := by
    have hb2 : Below w.heap.size w ((w.alloc (.cells Z 67 (0, 0))).setRow w.heap.size PL.toArray) := below_setRow hb1 (Nat.le_refl _) _
    have h2 := ho.below hb2
    have hs : ((w.alloc (.cells Z 67 (0, 0))).setRow w.heap.size PL.toArray).heap.size = w.heap.size + 1 := by simp
    refine ⟨rfl, hb2, by omega, ⟨h2.ml, by rw [← hPL]; exact setRow_heap _ _ _ _ _ _ HZR.out, h2.draws, fun k e => ⟨fun hS => hS.elim (h2.dro k e).1 (fun hk => by have := (ho.dro k e).2; omega), (h2.dro k e).2⟩, h2.ok, h2.order, h2.map, .inr rfl, .inl h2.smb, fun k e => ⟨.inl (h2.sov k e).1, fun hk => by have := ho.top k (ho.sov k e).1; omega⟩, fun k hk => hk.elim (ho.low k) (fun e => by rw [e]; exact hB), fun k hk => hk.elim (h2.top k) (fun e => by rw [e, hs]; omega)⟩⟩
  clear hPL hZ hrow hb1 hPl ho
  go_enter Tryz.func15, Tryz.ntmps15
  go_wp2_with (first
    | (go_at_call 25; refine Calls.mono HNN.out ?_; rintro e w1 ⟨rfl, rfl⟩)
    | (refine wpList_load_mid rfl 67 _ rfl og 0 rfl PL _ HRG.out Tryz.underlying67 rfl HPI.out ?_)
    | (refine wpList_store_row rfl 67 _ _ rfl w.heap.size PL.toArray rfl rfl 67 Z HZR.out (info36da _ HPS.out) (HZ.out.trans HPS.out.symm) HP1.out ?_))
  go_ret
  exact HEND.out
/-- A range over the pairs. -/
theorem range_pairs {gop : Operand} {ps : Array Tmp} {assign body : Code} {Q : Exit → Act → World → Prop} {a : Act} {w : World} {B nb mb : Nat} {S : Nat → Prop} {o : Pra} {dv ov : Value} (hg : a.eval gop = .func (.func 36) #[] #[.pointer (some ⟨nb, 0, none⟩)]) (hps : ps.size = 2)
    (ho : PO B nb mb S w o dv ov) (hll : o.log.length < 1000000) (h0 : 0 < o.log.length) (I : Nat → World → Prop) (hIB : ∀ k X Y, I k X → Below X.heap.size X Y → I k Y) (hIo : ∀ k X l ob, I k X → w.heap.size ≤ l → I k (X.putObj l ob)) (hI0 : I 0 w)
    (hround : ∀ l k p X A1 A2 e1 e2, (pairs (cls o.log))[k]? = some p → o.log[p.1]? = some e1 → o.log[p.2]? = some e2 → I k X → AskedAt X e1 A1 → AskedAt X e2 A2 → l = w.heap.size + 1 → w.heap.size + 2 ≤ X.heap.size → (∃ r, X.heap[l]? = some (.loop r)) →
      assign.wpIn (Fence.wide.inRound l) 7 Tryz.prog (Exit.then (fun a1 X1 => Below X.heap.size X X1 ∧ ∀ X2, Below X.heap.size X1 X2 ∨ X2 = X2 → (∃ ob, X2 = X1.putObj l ob) → body.wpIn (Fence.wide.inRound l) 7 Tryz.prog (fun e a3 X3 => e = .normal ∧ I (k + 1) X3 ∧ KpR w.heap.size S dv X2 X3) a1 X2) (fun _ _ _ => False)) { tmps := (ps.zip #[A1, A2]).foldl (fun t (p, v) => t.setIfInBounds p v) a.tmps, defers := [] } X)
    (hdone : ∀ X, I (pairs (cls o.log)).length X → X.heap[w.heap.size]? = some (.deferred (some [])) → Q .normal { a with defers := { target := .collected w.heap.size, args := #[] } :: a.defers } X) :
    (Code.rangeFunc gop ps assign body).wp Tryz.prog Q a w := by
  refine (wpIn_wide (n := 9)).1 (wpIn_rangeFunc (F := Fence.wide) (n := 9) ?_)
  intro fn hfn
  obtain ⟨rec, hrec⟩ : ∃ rec : LoopState → Loop, rec = fun st => { state := st, pending := none, fn, tmps := a.tmps, params := ps, assign, body, defers := w.heap.size } := ⟨_, rfl⟩
  obtain ⟨W1, hW1⟩ : ∃ W1, W1 = (w.alloc (.deferred (some []))).alloc (.loop (rec .ready)) := ⟨_, rfl⟩
  have hb1 : Below w.heap.size w W1 := by rw [hW1]; exact ((Below.refl _ _).alloc (Nat.le_refl _) _).alloc (by simp) _
  have hs1 : W1.heap.size = w.heap.size + 2 := by rw [hW1]; simp
  have hl1 : W1.heap[w.heap.size + 1]? = some (.loop (rec .ready)) := by rw [hW1]; exact heap_at _ _ _ (by simp)
  have hd1 : W1.heap[w.heap.size]? = some (.deferred (some [])) := by rw [hW1]; exact alloc2_first _ _ _
  have hnn : PO B nb mb S W1 o dv ov := ho.below hb1
  refine ⟨w.heap.size + 1, [{ target := .collected w.heap.size, args := #[] }], W1, { target := .fn (.func 36) #[.pointer (some ⟨nb, 0, none⟩)], args := #[.func (.yield (w.heap.size + 1)) #[] #[]] }, W1, 36,
    #[.func (.yield (w.heap.size + 1)) #[] #[]] ++ #[.pointer (some ⟨nb, 0, none⟩)], W1, ?_, ?_, fun f' hf' => trivial, ?_, fun _ => by omega, ?_⟩
  · rw [hW1, hrec]; exact run_enterLoop_outer _ _ _ _ _
  · simp only [resolve, hg]
    simp [go_sem]
  · simp [invoke, go_sem, enters_of Tryz.func36 (by kernel_rfl) rfl]
  · refine callsIn_wide.2 ((breaks1_in (w.heap.size + 1) W1 (fun k X => I k X ∧ X.heap[w.heap.size + 1]? = some (.loop (rec .ready)) ∧ X.heap[w.heap.size]? = some (.deferred (some []))) hnn hll h0 (fun k X Y hX hb => ⟨hIB k X Y hX.1 hb, (hb.block _ (Array.getElem?_eq_some_iff.1 hX.2.1).1).trans hX.2.1, (hb.block _ (Array.getElem?_eq_some_iff.1 hX.2.2).1).trans hX.2.2⟩) ?_ ⟨hIB 0 w W1 hI0 hb1, hl1, hd1⟩).mono ?_)
    · rintro k p X A1 A2 e1 e2 hp he1 he2 ⟨hI, hl, hd⟩ hA1 hA2
      have hlt := (Array.getElem?_eq_some_iff.1 hl).1
      have hy := run_yield (P := Tryz.prog) (args := #[A1, A2]) hl (by rw [hrec]; exact hps.symm)
      rw [hrec] at hy
      refine ⟨fn, _, assign, body, hy, roundIn_of_wpIn trivial (Code.wpIn_mono ?_ (hround (w.heap.size + 1) k p X A1 A2 e1 e2 hp he1 he2 hI hA1 hA2 rfl (by omega) ⟨_, hl⟩))⟩
      rintro e a1 X1 hq
      cases e with
      | normal =>
        obtain ⟨hbX, hbody⟩ := hq
        have hl' : X1.heap[w.heap.size + 1]? = some (.loop (rec .ready)) := (hbX.block _ hlt).trans hl
        have hlt1 := (Array.getElem?_eq_some_iff.1 hl').1
        refine ⟨_, run_beginRound hl' (by rw [hrec]), Code.wpIn_mono ?_ (hbody _ (.inr rfl) ⟨_, rfl⟩)⟩
        rintro e a3 X3 ⟨rfl, hI3, hK3⟩
        have hl2 : (X1.putObj (w.heap.size + 1) (.loop { rec .ready with state := .busy })).heap[w.heap.size + 1]? = some (.loop { rec .ready with state := .busy }) := World.putObj_heap_same hlt1
        have hs2 : (X1.putObj (w.heap.size + 1) (.loop { rec .ready with state := .busy })).heap.size = X1.heap.size := by simp
        have hl3 : X3.heap[w.heap.size + 1]? = some (.loop { rec .ready with state := .busy }) := (hK3.2 _ (by rw [hs2]; exact hlt1) (.inl (by omega))).trans hl2
        have hend := run_endRound (P := Tryz.prog) none hl3
        refine ⟨_, _, hend, rfl, ⟨hIo _ _ _ _ hI3 (by omega), ?_, ?_⟩, ?_⟩
        · rw [World.putObj_heap_same (Array.getElem?_eq_some_iff.1 hl3).1, hrec]; rfl
        · rw [World.putObj_heap_other (by omega), hK3.2 _ (by rw [hs2]; omega) (.inl (by omega)), World.putObj_heap_other (by omega)]
          exact (hbX.block _ (Array.getElem?_eq_some_iff.1 hd).1).trans hd
        · refine ⟨by have := hK3.1; have := hbX.size; simp at *; omega, fun j hj hS => ?_⟩
          have hbs := hbX.size
          have hne : j ≠ w.heap.size + 1 := by
            rcases hS with hS | hS | hS
            · omega
            · have := ho.top j hS; omega
            · have := (ho.dro j hS).2; omega
          rw [World.putObj_heap_other hne, hK3.2 j (by rw [hs2]; omega) ?_, World.putObj_heap_other hne]
          · exact hbX.block j hj
          · rcases hS with hS | hS
            · exact .inl (by omega)
            · exact .inr hS
      | _ => exact hq.elim
    · rintro e X ⟨⟨v, rfl⟩, hI, hl, hd⟩
      have hend := run_endLoop (P := Tryz.prog) hl (by rw [hrec]; simp)
      refine ⟨none, _, by rw [hend, hrec], hdone _ (hIo _ _ _ _ hI (by omega)) ?_⟩
      rw [World.putObj_heap_other (by omega)]; exact hd
end Go.Proofs.YtefhjjjjbkkedaaGreat.R5.PS

/- OracleBreaks: answers are draws; distinct. -/
namespace Go.Proofs.YtefhjjjjbkkedaaGreat.R5
open scoped Classical
open Go.RowKit

/-- The answers are the draws, one behind the other. -/
def ansOk (D : List (List UInt8)) (L : List (Qn × List UInt8)) : Prop := ∀ (i : Nat) (e : Qn × List UInt8), L[i]? = some e → e.2 = drawD D i
theorem nx_ans {D : List (List UInt8)} {L : List (Qn × List UInt8)} {q : Qn} (h : ansOk D L) : ansOk D (nx D L q).2 := by
  unfold nx
  cases fndA q L with
  | some A => exact h
  | none =>
    intro i e he
    rcases Nat.lt_or_ge i L.length with hi | hi
    · exact h i e (by simpa [List.getElem?_append_left hi] using he)
    · have he' : (L ++ [(q, drawD D L.length)])[i]? = some e := he
      rw [List.getElem?_append_right hi] at he'
      have h0 : i - L.length = 0 := by have := (List.getElem?_eq_some_iff.1 he').1; simp at this; omega
      rw [h0] at he'
      have : (q, drawD D L.length) = e := by simpa using he'
      rw [← this, show i = L.length by omega]
theorem sx_ans {D : List (List UInt8)} {q : Qn} {L : List (Qn × List UInt8)} (h : ansOk D L) : ∀ k, ansOk D (sx D q L k).2
  | 0 => h
  | k + 1 => nx_ans (sx_ans h k)
theorem oneQ_ans {D : List (List UInt8)} {L : List (Qn × List UInt8)} {q : Qn} (h : ansOk D L) : ansOk D (oneQ D L q) := by
  unfold oneQ
  split
  · exact nx_ans h
  · exact h
theorem oneL_ans {m : List UInt8} {D : List (List UInt8)} {L : List (Qn × List UInt8)} {a : Ak} (h : ansOk D L) : ansOk D (oneL m D L a) := by
  unfold oneL
  split
  · exact oneQ_ans h
  · split
    · split
      · exact sx_ans h _
      · exact h
    · split
      · exact oneQ_ans h
      · split
        · exact oneQ_ans h
        · split
          · exact oneQ_ans h
          · exact h
theorem runL_ans {m : List UInt8} {D : List (List UInt8)} : ∀ {ls : List Ak} {L : List (Qn × List UInt8)}, ansOk D L → ansOk D (runL m D L ls)
  | [], L, h => h
  | a :: ls, L, h => runL_ans (ls := ls) (oneL_ans h)
/-- With distinct draws there is no pair. -/
theorem no_pairs {D : List (List UInt8)} {L : List (Qn × List UInt8)} (h : ansOk D L) (hd : ∀ i, i < L.length → ∀ k, k < i → drawD D i ≠ drawD D k) : PS.pairs (PS.cls L) = [] := by
  unfold PS.pairs
  rw [List.flatMap_eq_nil_iff]
  intro i hi
  cases hc : (PS.cls L)[i]? with
  | none => rfl
  | some c =>
    simp only
    cases hp : PS.plc (PS.cls L) (i + 1) c with
    | nil => rfl
    | cons k t =>
      exfalso
      have hk : k ∈ PS.plc (PS.cls L) (i + 1) c := by rw [hp]; simp
      obtain ⟨h1, h2, h3⟩ := PS.mem_plc.1 hk
      have hil : i < L.length := by have := (List.getElem?_eq_some_iff.1 hc).1; rwa [PS.cls_len] at this
      have hkl : k < L.length := by rwa [PS.cls_len] at h2
      have e1 := PS.cls_at (List.getElem?_eq_getElem hil)
      have e2 := PS.cls_at (List.getElem?_eq_getElem hkl)
      rw [hc] at e1
      rw [h3] at e2
      have e3 : PS.clX L[i] = PS.clX L[k] := Option.some.inj (e1.symm.trans e2)
      have e4 : L[i].2 = L[k].2 := congrArg PS.Cl.ans e3
      rw [h i _ (List.getElem?_eq_getElem hil), h k _ (List.getElem?_eq_getElem hkl)] at e4
      exact hd k hkl i (by omega) e4.symm
/-- How distinct ends. -/
def DstEnd (D : List (List UInt8)) (n : Nat) (w : World) (e : Ending) (w' : World) : Prop := ∃ b : Bool, e = .returned (.bool b) ∧ (b = true → ∀ i, i < n → ∀ k, k < i → drawD D i ≠ drawD D k) ∧ Below w.heap.size w w'
set_option maxHeartbeats 2000000 in
set_option maxRecDepth 100000 in
theorem distinct_any (rg n : Nat) (dv : Value) (D : List (List UInt8)) (w : World) (hn : n < 1000000) (hc : w.cell? ⟨rg, 33, none⟩ = some dv) (hd : HDs w dv D) :
    Calls Tryz.prog 14 #[.pointer (some ⟨rg, 0, none⟩), .int .i64 (n : Int)] w fun e w' => DstEnd D n w e w' := by
  have HDR : Hid (∀ (X : World) (i : Nat), Below w.heap.size w X → i < 1000000 → Calls Tryz.prog 35 #[.pointer (some ⟨rg, 0, none⟩), .int .i64 (i : Int)] X fun e w' => e = .returned (.agg ((drawD D i).map B8).toArray) ∧ Below X.heap.size X w') := fun X i hX hi => draw_any rg i dv D X (by omega) ((hX.cell (block_lt hc)).trans hc) (hds_below hd hX)
  have HDL : Hid (∀ i, (drawD D i).length = 32) := fun i => drawD_len D i hd.1
  clear hc hd
  go_enter Tryz.func14, Tryz.ntmps14
  go_wp2
  go_loopw [5] (fun v wr => ∃ i : Nat, i ≤ n ∧ v = .int .i64 i ∧ Below w.heap.size w wr ∧ ∀ i', i' < i → ∀ k, k < i' → drawD D i' ≠ drawD D k) (fun v _ => n - (intOf v).toNat)
  case atStart => exact ⟨0, Nat.zero_le _, rfl, Below.refl _ _, fun i' h => by omega⟩
  case round =>
    generalize wr = X at *
    obtain ⟨i, hi, rfl, hb, hdd⟩ := hrel
    have HB : Hid _ := hb
    have HDD : Hid _ := hdd
    clear hb hdd
    by_cases hlt : i < n
    · have hiI : (i : Int) < (n : Int) := by omega
      go_wp2
      go_loopw [6] (fun v wr => ∃ k : Nat, k ≤ i ∧ v = .int .i64 k ∧ Below w.heap.size w wr ∧ ∀ k', k' < k → drawD D i ≠ drawD D k') (fun v _ => i - (intOf v).toNat)
      case atStart => exact ⟨0, Nat.zero_le _, rfl, HB.out, fun k' h => by omega⟩
      case round =>
        obtain ⟨k, hk, rfl, hb2, hd2⟩ := hrel
        have HB2 : Hid _ := hb2
        have HD2 : Hid _ := hd2
        clear hb2 hd2
        by_cases hkl : k < i
        · have hkI : (k : Int) < (i : Int) := by omega
          go_wp2_with fail
          refine Calls.mono (HDR.out _ i HB2.out (by omega)) ?_
          rintro e Y1 ⟨rfl, hb3⟩
          have HB3 : Hid (Below w.heap.size w Y1) := HB2.out.trans (hb3.mono HB2.out.size)
          clear hb3
          go_wp2_with fail
          refine Calls.mono (HDR.out _ k HB3.out (by omega)) ?_
          rintro e Y2 ⟨rfl, hb4⟩
          have HB4 : Hid (Below w.heap.size w Y2) := HB3.out.trans (hb4.mono HB3.out.size)
          have heq := fun W => eql_digest W (drawD D i) (drawD D k) (HDL.out i) (HDL.out k)
          clear hb4
          by_cases hed : drawD D i = drawD D k
          · have hbb : (drawD D i == drawD D k) = true := by simpa using hed
            rw [hbb] at heq
            generalize (drawD D i).map B8 = A1 at *
            generalize (drawD D k).map B8 = A2 at *
            clear hed hbb
            go_wp2
            go_ret
            exact ⟨false, rfl, (fun h => by cases h), HB4.out⟩
          · have hbb : (drawD D i == drawD D k) = false := by simpa using hed
            rw [hbb] at heq
            have HED : Hid _ := hed
            have HRL : Hid (∀ k', k' < k + 1 → drawD D i ≠ drawD D k') := fun k' h => by
              rcases Nat.lt_or_ge k' k with h1 | h1
              · exact HD2.out k' h1
              · rw [show k' = k by omega]; exact HED.out
            generalize (drawD D i).map B8 = A1 at *
            generalize (drawD D k).map B8 = A2 at *
            clear hed hbb
            go_wp2
            go_roundw
            case rel => exact ⟨k + 1, by omega, by go_num, HB4.out, HRL.out⟩
            case measure => simp [intOf]; omega
        · have hke : k = i := by omega
          subst hke
          have hkI : ¬ (k : Int) < (k : Int) := by omega
          have HRL : Hid (∀ i', i' < k + 1 → ∀ k', k' < i' → drawD D i' ≠ drawD D k') := fun i' h => by
            rcases Nat.lt_or_ge i' k with h1 | h1
            · exact HDD.out i' h1
            · rw [show i' = k by omega]; exact HD2.out
          go_wp2
          go_roundw
          case rel => exact ⟨k + 1, by omega, by go_num, HB2.out, HRL.out⟩
          case measure => simp [intOf]; omega
    · have hie : i = n := by omega
      subst hie
      have hiI : ¬ (i : Int) < (i : Int) := by omega
      go_wp2
      go_ret
      exact ⟨true, rfl, fun _ => HDD.out, HB.out⟩
end Go.Proofs.YtefhjjjjbkkedaaGreat.R5

/- OracleBreaks: what the walk holds. -/
namespace Go.Proofs.YtefhjjjjbkkedaaGreat.R5.oracleBreaks
open scoped Classical
open Go.RowKit

theorem build_ora (w : World) (p : Option Addr) (n c : Nat) : (Instr.build 33 #[(0, .bool true), (2, .slice p n c)]).run Tryz.prog w = .ok (.agg (oL true (List.replicate 32 0) (.slice p n c) 0 (.slice none 0 0)).toArray) w := by
  show _ = _
  kernel_rfl
theorem info37 (l : List Value) (h : l.length = 37) : (Tryz.prog.info? 41).map (·.size) = some l.length := by rw [h]; kernel_rfl
/-- The answer's cell. -/
structure C4 (w X : World) (b : Bool) : Prop where
  bel : Below w.heap.size w X
  c : X.heap[w.heap.size]? = some (.cells #[.bool b] 4 (0, 0))
theorem C4.step {w X Y : World} {b : Bool} (h : C4 w X b) (hb : Below X.heap.size X Y) : C4 w Y b := ⟨h.bel.trans (hb.mono h.bel.size), (hb.block _ (row_lt h.c)).trans h.c⟩
theorem C4.set {w X : World} {b : Bool} (h : C4 w X b) (b' : Bool) : C4 w (X.setCell ⟨w.heap.size, 0, none⟩ (.bool b')) b' := ⟨h.bel.setCell (Nat.le_refl _) _, by rw [heap_setCell_same _ _ 0 _ _ _ h.c]; rfl⟩
theorem C4.facts {w X : World} {b : Bool} (h : C4 w X b) : X.cell? ⟨w.heap.size, 0, none⟩ = some (.bool b) ∧ X.frozen? ⟨w.heap.size, 0, none⟩ = false := ⟨by rw [cell_of_row _ _ 0 _ _ _ h.c]; rfl, frozen_of_row _ _ 0 _ _ h.c⟩
/-- What a region reads while an ask is handed on. -/
structure S13 (c rg g o : Nat) (AL : List Value) (X : World) : Prop where
  c : X.cell? ⟨c, 0, none⟩ = some (.pointer (some ⟨rg, 0, none⟩))
  r : X.rangeAt g o AL
/-- The state behind the asks: both oracles, and the reference's cell. -/
structure MS (W4 : World) (n0 og mb rg c : Nat) (m : List UInt8) (D : List (List UInt8)) (L : List (Qn × List UInt8)) (X : World) : Prop where
  mm : ∃ K, MM W4 n0 X.heap.size og mb rg m D L L (fun k => k = c) K X
  c : X.heap[c]? = some (.cells #[.pointer (some ⟨rg, 0, none⟩)] 30 (0, 0))
theorem MS.bel {W4 X : World} {n0 og mb rg c : Nat} {m : List UInt8} {D : List (List UInt8)} {L : List (Qn × List UInt8)} (h : MS W4 n0 og mb rg c m D L X) : Below W4.heap.size W4 X := by obtain ⟨K, hm⟩ := h.mm; exact hm.bel
theorem MS.cell {W4 X : World} {n0 og mb rg c : Nat} {m : List UInt8} {D : List (List UInt8)} {L : List (Qn × List UInt8)} (h : MS W4 n0 og mb rg c m D L X) : X.cell? ⟨c, 0, none⟩ = some (.pointer (some ⟨rg, 0, none⟩)) := by rw [cell_of_row _ _ 0 _ _ _ h.c]; rfl
theorem MS.one {W4 X Y : World} {n0 og mb rg c : Nat} {m : List UInt8} {D : List (List UInt8)} {L : List (Qn × List UInt8)} (h : MS W4 n0 og mb rg c m D L X) (hb : Below X.heap.size X Y) (a : Ak) (pd : Option Addr) (cd : Nat) (hll : L.length < 800000) (hkq : kOk a.q) (hql : a.q.data.length ≤ 1000000) (hdq : HB W4 (.slice pd a.q.data.length cd) a.q.data) (hsz : Y.heap.size = X.heap.size) :
    Calls Tryz.prog 8 #[.pointer (some ⟨og, 0, none⟩), .pointer (some ⟨rg, 0, none⟩), .agg (akL a (.slice pd a.q.data.length cd)).toArray] Y fun e Z => e = .returned (.bool true) ∧ MS W4 n0 og mb rg c m D (oneL m D L a) Z := by
  obtain ⟨K, hm⟩ := h.mm
  have hm' := hm.step hb
  rw [← hsz] at hm'
  refine (one_any W4 Y K n0 og mb rg m D L _ a pd cd hm' hll hkq hql hdq).mono ?_
  rintro e Z ⟨rfl, hz⟩
  exact ⟨rfl, ⟨K, hz⟩, hz.at rfl ((hm.same _ rfl).symm.trans h.c)⟩
theorem MS.start {W4 X : World} {og mb : Nat} {m : List UInt8} {D : List (List UInt8)} {OL : List Value} (h : MM W4 (X.heap.size + 1) (X.heap.size + 1) og mb X.heap.size m D [] [] (fun _ => False) W4 (X.alloc (.cells OL.toArray 33 (0, 0)))) :
    MS W4 (X.heap.size + 1) og mb X.heap.size (X.heap.size + 1) m D [] ((X.alloc (.cells OL.toArray 33 (0, 0))).alloc (.cells #[.pointer (some ⟨X.heap.size, 0, none⟩)] 30 (0, 0))) := by
  have hu := h.upd (Fr.ofBelow ((Below.refl _ _).alloc (Nat.le_refl _) (.cells #[.pointer (some ⟨X.heap.size, 0, none⟩)] 30 (0, 0))))
  refine ⟨⟨_, (hu.retn).back (fun k hk => ⟨.inr ⟨by rw [hk]; simp, by rw [hk]; simp⟩, rfl⟩)⟩, heap_at _ _ _ (by simp)⟩
/-- A piece that ends as it should, whatever else might come of it. -/
theorem wp_only {c : Code} {Q : Exit → Act → World → Prop} {a : Act} {w : World} (h : c.wp Tryz.prog (Exit.then (fun a w => Q .normal a w) (fun _ _ _ => False)) a w) : c.wp Tryz.prog Q a w := Code.wp_mono (fun e a w h => by cases e <;> first | exact h | exact h.elim) h
/-- The reference's oracle, as it is read. -/
structure LF (X : World) (rg : Nat) (D : List (List UInt8)) (L : List (Qn × List UInt8)) (pl : Option Addr) (cl : Nat) (dr : Value) : Prop where
  c33 : X.cell? ⟨rg, 33, none⟩ = some dr
  c34 : X.cell? ⟨rg, 34, none⟩ = some (.int .i64 (L.length : Int))
  c35 : X.cell? ⟨rg, 35, none⟩ = some (.slice pl L.length cl)
  dh : HDs X dr D
  rows : ∀ (i : Nat) (e : Qn × List UInt8), L[i]? = some e → ∃ g pd cd, pl = some ⟨g, 0, none⟩ ∧ X.rangeAt g (i * 67) (aL e (.slice pd e.1.data.length cd)) ∧ e.1.key.length = 32 ∧ e.2.length = 32 ∧ HB X (.slice pd e.1.data.length cd) e.1.data
theorem LF.step {X Y : World} {rg : Nat} {D : List (List UInt8)} {L : List (Qn × List UInt8)} {pl : Option Addr} {cl : Nat} {dr : Value} (h : LF X rg D L pl cl dr) (hb : Below X.heap.size X Y) : LF Y rg D L pl cl dr :=
  ⟨(hb.cell (block_lt h.c33)).trans h.c33, (hb.cell (block_lt h.c34)).trans h.c34, (hb.cell (block_lt h.c35)).trans h.c35, hds_below h.dh hb, fun i e he => by
    obtain ⟨g, pd, cd, h1, h2, h3, h4, h5⟩ := h.rows i e he
    exact ⟨g, pd, cd, h1, rangeAt_below h2 hb, h3, h4, h5.below hb⟩⟩
theorem MS.lf {W4 X : World} {n0 og mb rg c : Nat} {m : List UInt8} {D : List (List UInt8)} {L : List (Qn × List UInt8)} (h : MS W4 n0 og mb rg c m D L X) : ∃ pl cl dr, LF X rg D L pl cl dr := by
  obtain ⟨K, hm⟩ := h.mm
  obtain ⟨S, dv, ov, T, dr, lv, lds, h1, h2, _⟩ := hm.ex
  obtain ⟨pl, cl, hlv, hr⟩ := hlg_form h2.log
  have hlog : HLg _ _ _ _ _ := h2.log
  obtain ⟨hok, hdl, _, hent⟩ := hlog
  refine ⟨pl, cl, dr, by rw [cell_of_row _ _ 33 _ _ _ h2.row]; exact oL_33 _ _ _ _ _ h2.ml, by rw [cell_of_row _ _ 34 _ _ _ h2.row]; exact oL_34 _ _ _ _ _ h2.ml, by rw [cell_of_row _ _ 35 _ _ _ h2.row, hlv]; exact oL_35 _ _ _ _ _ h2.ml, h2.draws, fun i e he => ?_⟩
  have hi : i < L.length := (List.getElem?_eq_some_iff.1 he).1
  obtain ⟨d, hd⟩ : ∃ d, lds[i]? = some d := ⟨_, List.getElem?_eq_getElem (by have : lds.length = L.length := hdl; omega)⟩
  obtain ⟨g, e1, _, e2, e3⟩ := hr i e d he hd
  have hb := hent i e d he hd
  obtain ⟨pd, cd, hdv, _⟩ := hb_cells hb
  subst hdv
  have hk := hok e (List.mem_of_getElem? he)
  refine ⟨g, pd, cd, e1, fun j v hv => ?_, hk.1, hk.2, hb⟩
  unfold aL at hv
  rcases Nat.lt_or_ge j 35 with hj | hj
  · rw [List.getElem?_append_left (by rw [qL_len _ _ hk.1]; exact hj)] at hv
    exact e2 j v hv
  · rw [List.getElem?_append_right (by rw [qL_len _ _ hk.1]; exact hj), qL_len _ _ hk.1] at hv
    have := e3 (j - 35) v hv
    rw [show i * 67 + 35 + (j - 35) = i * 67 + j by omega] at this
    exact this
theorem a_facts {X : World} {g o : Nat} {e : Qn × List UInt8} {d : Value} (hk : e.1.key.length = 32) (h : X.rangeAt g o (aL e d)) :
    X.cell? ⟨g, o, none⟩ = some (.int .i64 e.1.kind) ∧ X.cell? ⟨g, o + 33, none⟩ = some (.int .i64 e.1.dom) ∧ X.rangeAt g (o + 35) (e.2.map B8) ∧ X.rangeAt g o (qL e.1 d) := by
  have hl : (qL e.1 d).length = 35 := qL_len _ _ hk
  have hq : X.rangeAt g o (qL e.1 d) := fun j v hv => h j v (by unfold aL; rw [List.getElem?_append_left (List.getElem?_eq_some_iff.1 hv).1]; exact hv)
  refine ⟨?_, hq 33 _ (by have := qL_33 e.1 d hk; simpa using this), fun j v hv => ?_, hq⟩
  · have := hq 0 _ (by unfold qL; rfl); simpa using this
  · have := h (35 + j) v (by unfold aL; rw [List.getElem?_append_right (by omega), hl, show 35 + j - 35 = j by omega]; exact hv)
    rw [show o + 35 + j = o + (35 + j) by omega]; exact this
theorem info67 (l : List Value) (h : l.length = 67) : (Tryz.prog.info? 47).map (·.size) = some l.length := by rw [h]; kernel_rfl
theorem info67a (l : Array Value) (h : l.size = 67) : (Tryz.prog.info? 47).map (·.size) = some l.size := by rw [h]; kernel_rfl
/-- The cells of the pairs wanted. -/
def pC (l : List (Nat × Nat)) : List Value := l.flatMap fun x => [.int .i64 (x.1 : Int), .int .i64 (x.2 : Int)]
theorem pC_snoc (l : List (Nat × Nat)) (x : Nat × Nat) : pC (l ++ [x]) = pC l ++ [.int .i64 (x.1 : Int), .int .i64 (x.2 : Int)] := by unfold pC; rw [List.flatMap_append]; simp
theorem pC_at : ∀ {l : List (Nat × Nat)} {k : Nat} {x : Nat × Nat}, l[k]? = some x → (pC l)[k * 2]? = some (.int .i64 (x.1 : Int)) ∧ (pC l)[k * 2 + 1]? = some (.int .i64 (x.2 : Int))
  | y :: l, 0, x, h => by
    have : y = x := by simpa using h
    subst this
    exact ⟨rfl, rfl⟩
  | y :: l, k + 1, x, h => by
    have h' : l[k]? = some x := by simpa using h
    obtain ⟨h1, h2⟩ := pC_at h'
    have e : pC (y :: l) = .int .i64 (y.1 : Int) :: .int .i64 (y.2 : Int) :: pC l := by unfold pC; rw [List.flatMap_cons]; rfl
    rw [e, show (k + 1) * 2 = k * 2 + 1 + 1 by omega]
    exact ⟨by rw [List.getElem?_cons_succ, List.getElem?_cons_succ]; exact h1, by rw [List.getElem?_cons_succ, List.getElem?_cons_succ]; exact h2⟩
/-- While the wanted pairs are put down. -/
structure WT (XL : World) (X : World) (p : Option Addr) (cap : Nat) (dn : List (Nat × Nat)) : Prop where
  bel : Below XL.heap.size XL X
  c : X.heap[XL.heap.size]? = some (.cells #[.slice p dn.length cap] 52 (0, 0))
  own : X.ownsRow (XL.heap.size + 1) 53 2 (.slice p dn.length cap) dn.length (pC dn)
theorem WT.start (XL : World) : WT XL (XL.alloc (.cells #[.slice none 0 0] 52 (0, 0))) none 0 [] := ⟨(Below.refl _ _).alloc (Nat.le_refl _) _, heap_alloc_new _ _, World.ownsRow_nil _ _ _ _⟩
theorem WT.step {XL X Y : World} {p : Option Addr} {cap : Nat} {dn : List (Nat × Nat)} (h : WT XL X p cap dn) (hb : Below X.heap.size X Y) : WT XL Y p cap dn :=
  ⟨h.bel.trans (hb.mono h.bel.size), (hb.block _ (row_lt h.c)).trans h.c, own_keep h.own (fun k _ hl => hb.block k hl)⟩
theorem WT.cell {XL X : World} {p : Option Addr} {cap : Nat} {dn : List (Nat × Nat)} (h : WT XL X p cap dn) : X.cell? ⟨XL.heap.size, 0, none⟩ = some (.slice p dn.length cap) ∧ X.frozen? ⟨XL.heap.size, 0, none⟩ = false := ⟨by rw [cell_of_row _ _ 0 _ _ _ h.c]; rfl, frozen_of_row _ _ 0 _ _ h.c⟩
theorem WT.more {XL X Z : World} {p : Option Addr} {cap g cap2 : Nat} {dn : List (Nat × Nat)} {x : Nat × Nat} (h : WT XL X p cap dn) (hgr : X.grownBy Z (Value.slice p dn.length cap).ownBlock) (hown : Z.ownsRow (XL.heap.size + 1) 53 2 (.slice (some ⟨g, 0, none⟩) (dn.length + 1) cap2) (dn.length + 1) (pC dn ++ [.int .i64 (x.1 : Int), .int .i64 (x.2 : Int)])) :
    WT XL (Z.setCell ⟨XL.heap.size, 0, none⟩ (.slice (some ⟨g, 0, none⟩) (dn.length + 1) cap2)) (some ⟨g, 0, none⟩) cap2 (dn ++ [x]) := by
  have hlo := fun k hk => (h.own.lt k hk).1
  have hr : Z.heap[XL.heap.size]? = some (.cells #[.slice p dn.length cap] 52 (0, 0)) := (hgr.block _ (row_lt h.c) (fun e => by have := hlo _ e.symm; omega)).trans h.c
  have hbz : Below XL.heap.size XL Z := h.bel.grown hgr h.bel.size (fun j hj => by have := hlo j hj; omega)
  have hl : (dn ++ [x]).length = dn.length + 1 := by simp
  refine ⟨hbz.setCell (p := ⟨XL.heap.size, 0, none⟩) (Nat.le_refl _) _, by rw [heap_setCell_same _ _ 0 _ _ _ hr, hl]; rfl, ?_⟩
  rw [hl, pC_snoc]
  refine own_keep hown (fun k hk _ => heap_setCell_other _ _ _ _ ?_)
  have := (hown.lt k hk).1
  simp only
  omega
theorem bs_pair (w : World) (i k : Nat) : (Instr.buildSlice 52 1 #[(0, .agg #[.int .i64 (i : Int), .int .i64 (k : Int)])]).run Tryz.prog w = .ok (.slice (some ⟨w.heap.size, 0, none⟩) 1 1) (w.alloc (.cells #[.int .i64 (i : Int), .int .i64 (k : Int)] 53 (0, 0))) := by
  show _ = _
  kernel_rfl
theorem build_pair (w : World) (i k : Nat) : (Instr.build 53 #[(0, .int .i64 (i : Int)), (1, .int .i64 (k : Int))]).run Tryz.prog w = .ok (.agg #[.int .i64 (i : Int), .int .i64 (k : Int)]) w := by
  show _ = _
  kernel_rfl
theorem infoPr : (Tryz.prog.info? 53).map (fun i => (i.zero, i.size, i.bytes)) = some (some (.agg #[.int .i64 0, .int .i64 0]), 2, 16) := by kernel_rfl
theorem zero_ask (w : World) : (zeroValue 47).run Tryz.prog w = .ok (.agg zAk.toArray) w := by kernel_rfl
theorem prI_len (cs : List PS.Cl) (i : Nat) : (PS.prI cs i).length ≤ cs.length := by
  unfold PS.prI
  split
  · rw [List.length_map]
    unfold PS.plc
    refine Nat.le_trans (List.length_filter_le _ _) ?_
    rw [List.length_range']; omega
  · exact Nat.zero_le _
theorem flat_len {α β : Type} (f : α → List β) (n : Nat) (h : ∀ x, (f x).length ≤ n) : ∀ l : List α, (l.flatMap f).length ≤ l.length * n
  | [] => by simp
  | x :: l => by
    rw [List.flatMap_cons, List.length_append, List.length_cons, Nat.succ_mul]
    have := flat_len f n h l
    have := h x
    omega
theorem pairs_len (cs : List PS.Cl) : (PS.pairs cs).length ≤ cs.length * cs.length := by
  rw [← PS.restP_0]
  unfold PS.restP
  refine Nat.le_trans (flat_len _ cs.length (prI_len cs) _) ?_
  rw [List.length_range']; exact Nat.le_refl _
theorem plc_end (cs : List PS.Cl) (c : PS.Cl) : PS.plc cs cs.length c = [] := by unfold PS.plc; simp
/-- The program's oracle behind the asks, apart from the cell. -/
theorem MS.po {W4 X : World} {n0 og mb rg c : Nat} {m : List UInt8} {D : List (List UInt8)} {L : List (Qn × List UInt8)} (h : MS W4 n0 og mb rg c m D L X) : ∃ S dv ov, PO W4.heap.size og mb S X (pr m D L) dv ov ∧ ov.oneCell' = true ∧ dv.oneCell' = true := by
  obtain ⟨K, hm⟩ := h.mm
  obtain ⟨S, dv, ov, T, dr, lv, lds, h1, _⟩ := hm.ex
  refine ⟨S, dv, ov, h1, ?_, ?_⟩
  · rcases h1.order.2 with ⟨e, _⟩ | ⟨g, cap, cur, e, _⟩ <;> rw [e] <;> rfl
  · obtain ⟨_, p, cap, e, _⟩ := h1.draws
    rw [e]; rfl
theorem eq_nilb (w : World) (b : Nat) : (binOp .eql 56 (.func (.func 36) #[] #[.pointer (some ⟨b, 0, none⟩)]) .nilFunc).run Tryz.prog w = .ok (.bool false) w := by kernel_rfl
/-- Two new rows, and what is stored in them. -/
theorem two_rows {wr W1 : World} {ZK : Array Value} {AI AK : List Value} {s A B : Nat} (hb : Below wr.heap.size wr W1) (hs : s = W1.heap.size) (hab : (A = s ∧ B = s + 1) ∨ (A = s + 1 ∧ B = s)) (W3 : World) (h3 : W3 = (W1.alloc (.cells ZK 47 (0, 0))).alloc (.cells ZK 47 (0, 0))) :
    Below wr.heap.size wr W3 ∧ W3.heap[A]? = some (.cells ZK 47 (0, 0)) ∧ Below wr.heap.size wr (W3.setRow A AI.toArray) ∧ (W3.setRow A AI.toArray).heap[B]? = some (.cells ZK 47 (0, 0)) ∧ Below wr.heap.size wr ((W3.setRow A AI.toArray).setRow B AK.toArray) ∧ ((W3.setRow A AI.toArray).setRow B AK.toArray).rangeAt A 0 AI ∧ ((W3.setRow A AI.toArray).setRow B AK.toArray).rangeAt B 0 AK := by
  have hz := hb.size
  have r1 : W3.heap[s]? = some (.cells ZK 47 (0, 0)) := by rw [h3, hs]; exact alloc2_first _ _ _
  have r2 : W3.heap[s + 1]? = some (.cells ZK 47 (0, 0)) := by rw [h3, hs]; exact heap_at _ _ _ (by simp)
  have rA : W3.heap[A]? = some (.cells ZK 47 (0, 0)) := by rcases hab with ⟨e, _⟩ | ⟨e, _⟩ <;> rw [e] <;> assumption
  have rB : W3.heap[B]? = some (.cells ZK 47 (0, 0)) := by rcases hab with ⟨_, e⟩ | ⟨_, e⟩ <;> rw [e] <;> assumption
  have hne : B ≠ A := by omega
  have b3 : Below wr.heap.size wr W3 := by rw [h3]; exact (hb.alloc hz _).alloc (by simp; omega) _
  have b4 := below_setRow b3 (show wr.heap.size ≤ A by omega) AI.toArray
  have rB4 : (W3.setRow A AI.toArray).heap[B]? = some (.cells ZK 47 (0, 0)) := (setRow_other _ _ _ _ hne).trans rB
  refine ⟨b3, rA, b4, rB4, below_setRow b4 (by omega) _, rangeAt_row ((setRow_other _ _ _ _ (Ne.symm hne)).trans (setRow_heap _ _ _ _ _ _ rA)), rangeAt_row (setRow_heap _ _ _ _ _ _ rB4)⟩
/-- Bytes stay where a loop's own block changes. -/
theorem hb_put {X Y : World} {v : Value} {ls : List UInt8} {l : Nat} {r : Loop} (h : HB X v ls) (hlp : X.heap[l]? = some (.loop r)) (hk : ∀ k, k < X.heap.size → k ≠ l → Y.heap[k]? = X.heap[k]?) : HB Y v ls := by
  rcases h with ⟨h1, h2⟩ | ⟨b, o, cap, h1, h2, h3, h4⟩
  · exact .inl ⟨h1, h2⟩
  · refine .inr ⟨b, o, cap, h1, h2, h3, fun i hi => ?_⟩
    have hc := h4 i hi
    have hne : b ≠ l := fun e => by
      subst e
      simp [World.cell?, hlp] at hc
    exact (World.cell?_of_block (a := ⟨b, o + i, none⟩) (hk b (block_lt hc) hne)).trans hc
/-- While the pairs are gone over: how many were seen. -/
structure IR (XL : World) (nr : Nat) (pw : Option Addr) (cw : Nat) (dn : List (Nat × Nat)) (k : Nat) (X : World) : Prop where
  wt : WT XL X pw cw dn
  n : X.heap[nr]? = some (.cells #[.int .i64 (k : Int)] 3 (0, 0))
section
variable {XL X Y : World} {nr cw k : Nat} {pw : Option Addr} {dn : List (Nat × Nat)}
theorem IR.step (h : IR XL nr pw cw dn k X) (hb : Below X.heap.size X Y) : IR XL nr pw cw dn k Y := ⟨h.wt.step hb, (hb.block _ (row_lt h.n)).trans h.n⟩
theorem IR.put (h : IR XL nr pw cw dn k X) (hx : XL.heap.size < nr) (hpw : ∀ b, (Value.slice pw dn.length cw).ownBlock = some b → b < nr) {l : Nat} (hl : nr + 1 ≤ l) (ob : Obj) : IR XL nr pw cw dn k (X.putObj l ob) :=
  ⟨⟨h.wt.bel.grown (grownBy_putObj' _ _ _) h.wt.bel.size (fun j e => by cases e; omega), by rw [World.putObj_heap_other (by omega)]; exact h.wt.c, own_keep h.wt.own (fun b hb _ => World.putObj_heap_other (by have := hpw b hb; omega))⟩, by rw [World.putObj_heap_other (by omega)]; exact h.n⟩
theorem IR.set (h : IR XL nr pw cw dn k X) (hx : XL.heap.size < nr) (hpw : ∀ b, (Value.slice pw dn.length cw).ownBlock = some b → b < nr) : IR XL nr pw cw dn (k + 1) (X.setCell ⟨nr, 0, none⟩ (.int .i64 ((k : Int) + 1))) :=
  ⟨⟨h.wt.bel.setCell (p := ⟨nr, 0, none⟩) (by show XL.heap.size ≤ nr; omega) _, (heap_setCell_other _ _ _ _ (by show XL.heap.size ≠ nr; omega)).trans h.wt.c, own_keep h.wt.own (fun b hb _ => heap_setCell_other _ _ _ _ (by have := hpw b hb; show b ≠ nr; omega))⟩, by rw [heap_setCell_same _ _ 0 _ _ _ h.n]; rfl⟩
theorem IR.cell (h : IR XL nr pw cw dn k X) : X.cell? ⟨nr, 0, none⟩ = some (.int .i64 (k : Int)) ∧ X.frozen? ⟨nr, 0, none⟩ = false := ⟨by rw [cell_of_row _ _ 0 _ _ _ h.n]; rfl, frozen_of_row _ _ 0 _ _ h.n⟩
/-- A pair wanted, read. -/
theorem WT.pair {x : Nat × Nat} (h : WT XL X pw cw dn) (hk : dn[k]? = some x) : ∃ g, pw = some ⟨g, 0, none⟩ ∧ X.cell? ⟨g, k * 2, none⟩ = some (.int .i64 (x.1 : Int)) ∧ X.cell? ⟨g, k * 2 + 1, none⟩ = some (.int .i64 (x.2 : Int)) := by
  have hl : k < dn.length := (List.getElem?_eq_some_iff.1 hk).1
  obtain ⟨h1, h2⟩ := pC_at hk
  rcases h.own.2 with ⟨_, e⟩ | ⟨g, cap, cur, e, _⟩
  · omega
  · have hp : pw = some ⟨g, 0, none⟩ := by simp only [Value.slice.injEq] at e; exact e.1
    subst hp
    exact ⟨g, rfl, (h.own.cellAt (k * 2) (by omega)).trans h1, (h.own.cellAt (k * 2 + 1) (by omega)).trans h2⟩
end
end Go.Proofs.YtefhjjjjbkkedaaGreat.R5.oracleBreaks
