/- machine: a range over what Whole hands back, in a plain walk. -/
import Derived.Test.YtikchlmfklbojaaMW
set_option linter.unusedVariables false
set_option linter.unusedSimpArgs false
namespace Go.Proofs.Ytikchlmfklbojaa.MC
open Go.RowKit

/-- One operation that defers nothing. -/
theorem op_round {P : Program} {ops : Array Oper} {Q : Exit → Act → World → Prop} {l n i : Nat} {K : Act → World → Prop} {a : Act} {w : World} (hnd : ∀ o, ops[i]? = some o → ∀ c, o.op ≠ .defer c) (hL : ¬ LetsOut Q) (h : wpOp P ops Q i K a w) : wpOpIn (Fence.wide.inRound l) n P ops Q i K a w := by
  unfold wpOp at h
  unfold wpOpIn
  cases ho : ops[i]? with
  | none => rw [ho] at h; exact h
  | some o =>
    rw [ho] at h
    simp only at h ⊢
    by_cases hw : Region.wanted o (yielded ops a.tmps) = true
    · rw [if_pos hw] at h ⊢
      rcases h with h | h
      · refine ⟨fun f _ => trivial, ?_⟩
        rw [Fence.inRound_round, Oper.semAt_some l _ _ (hnd o ho)]
        unfold Oper.wp at h
        generalize (execOp a.eval o).run P w = r at h
        cases r with
        | ok x w' =>
          cases x with
          | value v => exact h
          | skip => exact h
          | defer d => exact h
          | enter f args => exact ⟨fun hd => by simp [Fence.inRound, Fence.wide] at hd, CallsIn.inRound l (callsIn_wide.2 h)⟩
          | row row args =>
            refine ⟨fun hd => by simp [Fence.inRound, Fence.wide] at hd, fun c cs _ => ?_⟩
            obtain ⟨v, w2, hr, hs⟩ := h c cs
            exact ⟨v, w2, hr, stepsIn_wide.2 hs⟩
          | _ => exact h.elim
        | halt x w' =>
          cases x with
          | panic v => exact h
          | _ => exact h.elim
      · exact absurd h.2 hL
    · rw [if_neg hw] at h ⊢
      exact ⟨fun f _ => trivial, h⟩
theorem ops_round {P : Program} {ops : Array Oper} {Q : Exit → Act → World → Prop} {l n : Nat} (hnd : ∀ (i : Nat) o, ops[i]? = some o → ∀ c, o.op ≠ .defer c) (hL : ¬ LetsOut Q) : ∀ (sch : List Nat) (a : Act) (w : World), wpOps P ops Q sch a w → wpOpsIn (Fence.wide.inRound l) n P ops Q sch a w
  | [], _, _, h => h
  | i :: rest, a, w, h => by
    rw [wpOps_cons] at h
    rw [wpOpsIn_cons]
    exact wpOpIn_mono (fun a w hh => ops_round hnd hL rest a w hh) (op_round (hnd i) hL h)
/-- An operation that runs plainly, in the fence that lets all by. -/
theorem op_wide {P : Program} {Q : Exit → Act → World → Prop} {o : Oper} {n : Nat} {K : Act → World → Prop} {a : Act} {w : World} (h : o.wp P a w K Q) : o.wpIn Fence.wide n P a w K Q := by
  refine ⟨fun f _ => trivial, ?_⟩
  show o.uponIn Fence.wide n P a K Q ((execOp a.eval o).run P w)
  unfold Oper.wp at h
  generalize (execOp a.eval o).run P w = r at h
  cases r with
  | ok x w' =>
    cases x with
    | value v => exact h
    | skip => exact h
    | defer d => exact h
    | enter f args => exact ⟨fun hd => by simp [Fence.wide] at hd, callsIn_wide.2 h⟩
    | row row args =>
      refine ⟨fun hd => by simp [Fence.wide] at hd, fun c cs _ => ?_⟩
      obtain ⟨v, w2, hr, hs⟩ := h c cs
      exact ⟨v, w2, hr, stepsIn_wide.2 hs⟩
    | _ => exact h.elim
  | halt x w' =>
    cases x with
    | panic v => exact h
    | _ => exact h.elim
/-- A load of a range. -/
theorem op_load_mid {P : Program} {op : Oper} {a : Act} {w : World} {K : Act → World → Prop} {Q : Exit → Act → World → Prop} (ty : TypeId) (x : Operand) (ho : op.op = .load ty x)
    (b o : Nat) (hx : a.eval x = .pointer (some ⟨b, o, none⟩)) (cs : List Value) (d : TypeDesc) (hc : w.rangeAt b o cs) (hu : P.underlying ty = some d) (hd : d.isRow = true) (hi : (P.info? ty).map (·.size) = some cs.length)
    (h : K (a.put op.dst (.agg cs.toArray)) w) : op.wp P a w K Q := by
  unfold Oper.wp execOp
  simp only [ho, hx, Instr.loadAt, Instr.sureAddr, Sem.run_bind, Sem.run_pure, Result.andThen_ok, run_loadVar_mid w b o ty cs d hc hu hd hi]
  exact h
/-- No operation of a list defers. -/
def noDefer (ops : Array Oper) : Bool := ops.all fun o => match o.op with
  | .defer _ => false
  | _ => true
theorem noDefer_spec {ops : Array Oper} (h : noDefer ops = true) : ∀ (i : Nat) o, ops[i]? = some o → ∀ c, o.op ≠ .defer c := fun i o ho c e => by
  unfold noDefer at h
  rw [Array.all_eq_true] at h
  obtain ⟨hi, rfl⟩ := Array.getElem?_eq_some_iff.1 ho
  have := h i hi
  rw [e] at this
  simp at this
/-- The region, by the plain walk with a condition S. -/
theorem region_round {P : Program} {ops : Array Oper} {Q : Exit → Act → World → Prop} {S : World → Prop} {l n id : Nat} {a : Act} {w : World} (hm : P.follows .mixedOrders = true) (hnd : noDefer ops = true) (hL : ¬ LetsOut Q) (hS : S w.drew)
    (h : S w.drew → wpAnyH P .any ops Q S ops.size (Array.replicate ops.size false) a w.drew) : (Code.region id ops true).wpIn (Fence.wide.inRound l) n P Q a w :=
  wpIn_region_draw fun t => by
    simp only [Region.schedule, hm, Bool.true_or, if_true]
    exact ops_round (noDefer_spec hnd) hL _ _ _ (wpAny_sound ops.size t _ a _ (wpAny_of_held _ _ _ _ (h hS)))
theorem region_plain {P : Program} {ops : Array Oper} {Q : Exit → Act → World → Prop} {l n id : Nat} {a : Act} {w : World} (hnd : noDefer ops = true) (hL : ¬ LetsOut Q) (h : wpList P ops Q ops.toList a w) : (Code.region id ops false).wpIn (Fence.wide.inRound l) n P Q a w :=
  wpIn_region (ops_round (noDefer_spec hnd) hL _ _ _ (by rw [List.range_eq_range', ← Array.length_toList, wpOps_eq_wpList ops.toList 0 (by simp)]; exact h))

/-- What the body of a round keeps: all blocks from B on, and the two of the list. -/
def KpR (B fb cb : Nat) (X Y : World) : Prop := X.heap.size ≤ Y.heap.size ∧ ∀ k, k < X.heap.size → (B ≤ k ∨ k = fb ∨ k = cb) → Y.heap[k]? = X.heap[k]?
theorem range_whole {gop : Operand} {ps : Array Tmp} {assign body : Code} {Q : Exit → Act → World → Prop} {a : Act} {w : World} {fb cb n cap : Nat} {l : List UInt8} (hg : a.eval gop = wFun fb) (hps : ps.size = 2)
    (hw : WH w fb cb n cap l) (hn : 0 < n) (I : Nat → World → Prop) (hIB : ∀ k X Y, I k X → Below X.heap.size X Y → I k Y) (hIo : ∀ k X lp ob, I k X → w.heap.size ≤ lp → I k (X.putObj lp ob)) (hskip : ∀ k X, k < n → getB l k = Z128 → I k X → I (k + 1) X) (hI0 : I 0 w)
    (hround : ∀ lp k X, k < n → getB l k ≠ Z128 → I k X → lp = w.heap.size + 1 → w.heap.size + 2 ≤ X.heap.size → (∃ r, X.heap[lp]? = some (.loop r)) →
      assign.wpIn (Fence.wide.inRound lp) 7 Try.prog (Exit.then (fun a1 X1 => Below X.heap.size X X1 ∧ ∀ X2, (∃ ob, X2 = X1.putObj lp ob) → body.wpIn (Fence.wide.inRound lp) 7 Try.prog (fun e a3 X3 => e = .normal ∧ I (k + 1) X3 ∧ KpR w.heap.size fb cb X2 X3) a1 X2) (fun _ _ _ => False)) { tmps := (ps.zip #[.int .i64 (k : Int), .agg ((getB l k).map B8).toArray]).foldl (fun t (p, v) => t.setIfInBounds p v) a.tmps, defers := [] } X)
    (hdone : ∀ X, I n X → X.heap[w.heap.size]? = some (.deferred (some [])) → Q .normal { a with defers := { target := .collected w.heap.size, args := #[] } :: a.defers } X) :
    (Code.rangeFunc gop ps assign body).wp Try.prog Q a w := by
  refine (wpIn_wide (n := 9)).1 (wpIn_rangeFunc (F := Fence.wide) (n := 9) ?_)
  intro fn hfn
  have hfb := hw.lt
  have hcb := hw.cb_lt hn
  obtain ⟨rec, hrec⟩ : ∃ rec : LoopState → Loop, rec = fun st => { state := st, pending := none, fn, tmps := a.tmps, params := ps, assign, body, defers := w.heap.size } := ⟨_, rfl⟩
  obtain ⟨W1, hW1⟩ : ∃ W1, W1 = (w.alloc (.deferred (some []))).alloc (.loop (rec .ready)) := ⟨_, rfl⟩
  have hb1 : Below w.heap.size w W1 := by rw [hW1]; exact ((Below.refl _ _).alloc (Nat.le_refl _) _).alloc (by simp) _
  have hs1 : W1.heap.size = w.heap.size + 2 := by rw [hW1]; simp
  have hl1 : W1.heap[w.heap.size + 1]? = some (.loop (rec .ready)) := by rw [hW1]; exact heap_at _ _ _ (by simp)
  have hd1 : W1.heap[w.heap.size]? = some (.deferred (some [])) := by rw [hW1]; exact alloc2_first _ _ _
  refine ⟨w.heap.size + 1, [{ target := .collected w.heap.size, args := #[] }], W1, { target := .fn (.func 37) #[.pointer (some ⟨fb, 0, none⟩)], args := #[.func (.yield (w.heap.size + 1)) #[] #[]] }, W1, 37,
    #[.func (.yield (w.heap.size + 1)) #[] #[]] ++ #[.pointer (some ⟨fb, 0, none⟩)], W1, ?_, ?_, fun f' hf' => trivial, ?_, fun _ => by omega, ?_⟩
  · rw [hW1, hrec]; exact run_enterLoop_outer _ _ _ _ _
  · simp only [resolve, hg]
    simp [go_sem]
  · simp [invoke, go_sem, enters_of Try.func37 (by kernel_rfl) rfl]
  · refine ((whole1_in Fence.wide 8 trivial rfl (by omega) (w.heap.size + 1) fb cb n cap l W1 (fun k X => I k X ∧ w.heap.size + 2 ≤ X.heap.size ∧ X.heap[w.heap.size + 1]? = some (.loop (rec .ready)) ∧ X.heap[w.heap.size]? = some (.deferred (some []))) (hw.below hb1) (fun k X Y hX hb => ⟨hIB k X Y hX.1 hb, Nat.le_trans hX.2.1 hb.size, (hb.block _ (Array.getElem?_eq_some_iff.1 hX.2.2.1).1).trans hX.2.2.1, (hb.block _ (Array.getElem?_eq_some_iff.1 hX.2.2.2).1).trans hX.2.2.2⟩) (fun k X hk hz hX => ⟨hskip k X hk hz hX.1, hX.2⟩) ?_ ⟨hIB 0 w W1 hI0 hb1, by omega, hl1, hd1⟩).mono ?_)
    · rintro k X hk hz ⟨hI, hsX, hl, hd⟩ hWX
      have hlt := (Array.getElem?_eq_some_iff.1 hl).1
      have hy := run_yield (P := Try.prog) (args := #[.int .i64 (k : Int), .agg ((getB l k).map B8).toArray]) hl (by rw [hrec]; exact hps.symm)
      rw [hrec] at hy
      refine ⟨fn, _, assign, body, hy, roundIn_of_wpIn trivial (Code.wpIn_mono ?_ (hround (w.heap.size + 1) k X hk hz hI rfl hsX ⟨_, hl⟩))⟩
      rintro e a1 X1 hq
      cases e with
      | normal =>
        obtain ⟨hbX, hbody⟩ := hq
        have hl' : X1.heap[w.heap.size + 1]? = some (.loop (rec .ready)) := (hbX.block _ hlt).trans hl
        have hlt1 := (Array.getElem?_eq_some_iff.1 hl').1
        refine ⟨_, run_beginRound hl' (by rw [hrec]), Code.wpIn_mono ?_ (hbody _ ⟨_, rfl⟩)⟩
        rintro e a3 X3 ⟨rfl, hI3, hK3⟩
        have hl2 : (X1.putObj (w.heap.size + 1) (.loop { rec .ready with state := .busy })).heap[w.heap.size + 1]? = some (.loop { rec .ready with state := .busy }) := World.putObj_heap_same hlt1
        have hs2 : (X1.putObj (w.heap.size + 1) (.loop { rec .ready with state := .busy })).heap.size = X1.heap.size := by simp
        have hbs := hbX.size
        have hl3 : X3.heap[w.heap.size + 1]? = some (.loop { rec .ready with state := .busy }) := (hK3.2 _ (by rw [hs2]; exact hlt1) (.inl (by omega))).trans hl2
        have hend := run_endRound (P := Try.prog) none hl3
        have hks := hK3.1
        rw [hs2] at hks
        refine ⟨_, _, hend, rfl, ⟨hIo _ _ _ _ hI3 (by omega), by simp; omega, ?_, ?_⟩, ?_⟩
        · rw [World.putObj_heap_same (Array.getElem?_eq_some_iff.1 hl3).1, hrec]; rfl
        · rw [World.putObj_heap_other (by omega), hK3.2 _ (by rw [hs2]; omega) (.inl (by omega)), World.putObj_heap_other (by omega)]
          exact (hbX.block _ (Array.getElem?_eq_some_iff.1 hd).1).trans hd
        · refine ⟨by simp; omega, ?_, ?_⟩
          · rw [World.putObj_heap_other (by omega), hK3.2 fb (by rw [hs2]; omega) (.inr (.inl rfl)), World.putObj_heap_other (by omega)]
            exact hbX.block _ (by omega)
          · rw [World.putObj_heap_other (by omega), hK3.2 cb (by rw [hs2]; omega) (.inr (.inr rfl)), World.putObj_heap_other (by omega)]
            exact hbX.block _ (by omega)
      | _ => exact hq.elim
    · rintro e X ⟨⟨v, rfl⟩, hI, hsX, hl, hd⟩
      have hend := run_endLoop (P := Try.prog) hl (by rw [hrec]; simp)
      refine ⟨none, _, by rw [hend, hrec], hdone _ (hIo _ _ _ _ hI (by omega)) ?_⟩
      rw [World.putObj_heap_other (by omega)]; exact hd
end Go.Proofs.Ytikchlmfklbojaa.MC
