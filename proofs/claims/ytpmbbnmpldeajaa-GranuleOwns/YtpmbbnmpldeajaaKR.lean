/- granule: a range over what Of hands back. -/
import Derived.Test.YtpmbbnmpldeajaaKQ
import Derived.RangeFuncFrom
import Derived.RangeFuncMany
import Derived.RangeFuncLeaves
import Derived.OwnWalkIn
import Derived.TacticsInMore
import Derived.RegionIn
import Derived.LoopNIn
import Derived.LoopIn
import Derived.RangeFuncWrites
import Derived.RangeFuncCalls
import Derived.Deep.RegionHeld3
set_option linter.unusedVariables false
set_option linter.unusedSimpArgs false
namespace Go.Proofs.Ytpmbbnmpldeajaa.GC
open Go.RowKit

/-- What the body must leave as it is. -/
def KpW (fb ob cb : Nat) (X Y : World) : Prop := X.heap.size ≤ Y.heap.size ∧ Y.heap[fb]? = X.heap[fb]? ∧ Y.heap[ob]? = X.heap[ob]? ∧ Y.heap[cb]? = X.heap[cb]?
theorem OH.kp {X Y : World} {fb ob cb n cap o : Nat} {l : List Rw} (h : OH X fb ob cb n cap o l) (hk : KpW fb ob cb X Y) : OH Y fb ob cb n cap o l :=
  ⟨cell_blk h.cell hk.2.1, cell_blk h.own hk.2.2.1, rangeAt_blk h.row hk.2.2.2, h.len, h.le⟩
set_option maxHeartbeats 4000000 in
set_option maxRecDepth 100000 in
theorem of1_in (F : Fence) (m : Nat) (hf : F.fn 32) (hro : F.round = none) (hm : 1 ≤ m) (y fb ob cb n cap o : Nat) (l : List Rw) (W0 : World) (J : Nat → World → Prop) (hw : OH W0 fb ob cb n cap o l)
    (hJB : ∀ k X Y, J k X → Below X.heap.size X Y → J k Y) (hskip : ∀ k X r, l[k]? = some r → r.ow ≠ o → J k X → J (k + 1) X)
    (hY : ∀ k X r, l[k]? = some r → r.ow = o → J k X → OH X fb ob cb n cap o l → YieldAt F (m - 1) Try.prog y #[.int .i64 (k : Int), .int .i64 r.st] X fun e Y => e = .returned (.bool true) ∧ J (k + 1) Y ∧ KpW fb ob cb X Y)
    (hj0 : J 0 W0) :
    CallsIn F m Try.prog 32 #[.func (.yield y) #[] #[], .pointer (some ⟨fb, 0, none⟩), .pointer (some ⟨ob, 0, none⟩)] W0 fun e W' => (∃ v, e = .returned v) ∧ J n W' := by
  refine callsIn_of_wp Try.func32 rfl hf ?_ hro
  simp only [Try.ntmps32, List.size_toArray, List.length_cons, List.length_nil, Nat.reduceAdd, Nat.reduceSub, Array.replicate_succ, Array.replicate_zero, List.push_toArray, List.append_toArray, List.nil_append, List.cons_append]
  have HY : Hid _ := hY
  have HJB : Hid _ := hJB
  have HSK : Hid _ := hskip
  have HW : Hid _ := hw
  have HJ0 : Hid _ := hj0
  have hc := hw.cell
  have hn4 := hw.le
  clear hY hJB hskip hj0 hw
  gi_wp2
  clear hc
  gi_loopw [4, 5, 8] (fun _ _ i wr => ∃ k : Nat, k ≤ n ∧ i = .int .i64 (k : Int) ∧ OH wr fb ob cb n cap o l ∧ J k wr) (fun _ _ i _ => n - (intOf i).toNat)
  case atStart => exact ⟨0, Nat.zero_le _, rfl, HW.out, HJ0.out⟩
  case round =>
    clear HW HJ0
    obtain ⟨k, hk, rfl, hW, hJ⟩ := hrel
    by_cases hlt : k < n
    · have hkI : (k : Int) < (n : Int) := by omega
      obtain ⟨r, hr⟩ : ∃ r, l[k]? = some r := ⟨_, List.getElem?_eq_getElem (by rw [hW.len]; exact hlt)⟩
      obtain ⟨hc0, hc1, hc2⟩ := range_cells (range_row hW.row hr)
      obtain ⟨V, hV⟩ : ∃ V, V = wr.alloc (.cells (rL r).toArray 43 (0, 0)) := ⟨_, rfl⟩
      have hb : Below wr.heap.size wr V := by rw [hV]; exact (Below.refl _ _).alloc (Nat.le_refl _) _
      have HW2 : Hid _ := hW.below hb
      have HJ2 : Hid _ := HJB.out k wr V hJ hb
      have HSK2 : Hid (r.ow ≠ o → J (k + 1) V) := fun hne => HSK.out k V r hr hne HJ2.out
      have HYK : Hid (r.ow = o → YieldAt F (m - 1) Try.prog y #[.int .i64 (k : Int), .int .i64 r.st] V fun e Y => e = .returned (.bool true) ∧ J (k + 1) Y ∧ KpW fb ob cb V Y) := fun he => HY.out k V r hr he HJ2.out HW2.out
      have hco := HW2.out.own
      obtain ⟨st, ow, held⟩ := r
      simp only at hc0 hc1 hc2 HSK2 HYK
      unfold rL at hV
      simp only at hV
      rw [hV] at hco
      clear hW hJ hr hb
      by_cases ho : ow = o
      · have HYV : Hid _ := HYK.out ho
        have hoI : ((ow : Int) == (o : Int)) = true := by rw [beq_iff_eq]; omega
        clear ho HYK HSK2
        obtain ⟨fn, tmps, assign, body, hy, hR⟩ := HYV.out
        have HRR : Hid _ := hR
        rw [hV] at hy
        clear hR HYV
        gi_wp2
        rw [← hV]
        refine RoundIn.mono HRR.out ?_
        rintro e W3 ⟨rfl, hJ3, hK3⟩
        have HJ3 : Hid _ := hJ3
        have HW3 : Hid _ := HW2.out.kp hK3
        clear hJ3 hK3 hy hV
        gi_wp2
        go_roundw
        case rel => exact ⟨k + 1, by omega, by go_num, HW3.out, HJ3.out⟩
        case measure => simp [intOf]; omega
      · have HS3 : Hid _ := HSK2.out ho
        have hoI : ((ow : Int) == (o : Int)) = false := by rw [beq_eq_false_iff_ne]; omega
        clear ho HYK HSK2
        gi_wp2_with (first
          | (refine wpListIn_skip (by rfl) (by rfl) ?_)
          | gi_in)
        rw [← hV]
        go_roundw
        case rel => exact ⟨k + 1, by omega, by go_num, HW2.out, HS3.out⟩
        case measure => simp [intOf]; omega
    · have hke : k = n := by omega
      subst hke
      have HJ : Hid _ := hJ
      clear hJ hW
      gi_wp2
      go_end0
      exact ⟨⟨_, rfl⟩, HJ.out⟩
/-- One operation that defers nothing. -/
theorem op_round {P : Program} {ops : Array Oper} {Q : Exit → Act → World → Prop} {l n i : Nat} {K : Act → World → Prop} {a : Act} {w : World} (hnd : ∀ o, ops[i]? = some o → ∀ c, o.op ≠ .defer c) (hL : ¬ LetsOut Q) (h : wpOp P ops Q i K a w) : wpOpIn (Fence.wide.inRound l) n P ops Q i K a w := by
  unfold wpOp at h
  unfold wpOpIn
  cases ho : ops[i]? with
  | none => rw [ho] at h; exact h
  | some o =>
    rw [ho] at h
    simp only at h ⊢
    by_cases hw : Region.wanted o (yielded ops a.tmps) = true
    · rw [if_pos hw] at h ⊢
      rcases h with h | h
      · refine ⟨fun f _ => trivial, ?_⟩
        rw [Fence.inRound_round, Oper.semAt_some l _ _ (hnd o ho)]
        unfold Oper.wp at h
        generalize (execOp a.eval o).run P w = r at h
        cases r with
        | ok x w' =>
          cases x with
          | value v => exact h
          | skip => exact h
          | defer d => exact h
          | enter f args => exact ⟨fun hd => by simp [Fence.inRound, Fence.wide] at hd, CallsIn.inRound l (callsIn_wide.2 h)⟩
          | row row args =>
            refine ⟨fun hd => by simp [Fence.inRound, Fence.wide] at hd, fun c cs _ => ?_⟩
            obtain ⟨v, w2, hr, hs⟩ := h c cs
            exact ⟨v, w2, hr, stepsIn_wide.2 hs⟩
          | _ => exact h.elim
        | halt x w' =>
          cases x with
          | panic v => exact h
          | _ => exact h.elim
      · exact absurd h.2 hL
    · rw [if_neg hw] at h ⊢
      exact ⟨fun f _ => trivial, h⟩
theorem ops_round {P : Program} {ops : Array Oper} {Q : Exit → Act → World → Prop} {l n : Nat} (hnd : ∀ (i : Nat) o, ops[i]? = some o → ∀ c, o.op ≠ .defer c) (hL : ¬ LetsOut Q) : ∀ (sch : List Nat) (a : Act) (w : World), wpOps P ops Q sch a w → wpOpsIn (Fence.wide.inRound l) n P ops Q sch a w
  | [], _, _, h => h
  | i :: rest, a, w, h => by
    rw [wpOps_cons] at h
    rw [wpOpsIn_cons]
    exact wpOpIn_mono (fun a w hh => ops_round hnd hL rest a w hh) (op_round (hnd i) hL h)
/-- An operation that runs plainly, in the fence that lets all by. -/
theorem op_wide {P : Program} {Q : Exit → Act → World → Prop} {o : Oper} {n : Nat} {K : Act → World → Prop} {a : Act} {w : World} (h : o.wp P a w K Q) : o.wpIn Fence.wide n P a w K Q := by
  refine ⟨fun f _ => trivial, ?_⟩
  show o.uponIn Fence.wide n P a K Q ((execOp a.eval o).run P w)
  unfold Oper.wp at h
  generalize (execOp a.eval o).run P w = r at h
  cases r with
  | ok x w' =>
    cases x with
    | value v => exact h
    | skip => exact h
    | defer d => exact h
    | enter f args => exact ⟨fun hd => by simp [Fence.wide] at hd, callsIn_wide.2 h⟩
    | row row args =>
      refine ⟨fun hd => by simp [Fence.wide] at hd, fun c cs _ => ?_⟩
      obtain ⟨v, w2, hr, hs⟩ := h c cs
      exact ⟨v, w2, hr, stepsIn_wide.2 hs⟩
    | _ => exact h.elim
  | halt x w' =>
    cases x with
    | panic v => exact h
    | _ => exact h.elim
/-- A load of a range. -/
theorem op_load_mid {P : Program} {op : Oper} {a : Act} {w : World} {K : Act → World → Prop} {Q : Exit → Act → World → Prop} (ty : TypeId) (x : Operand) (ho : op.op = .load ty x)
    (b o : Nat) (hx : a.eval x = .pointer (some ⟨b, o, none⟩)) (cs : List Value) (d : TypeDesc) (hc : w.rangeAt b o cs) (hu : P.underlying ty = some d) (hd : d.isRow = true) (hi : (P.info? ty).map (·.size) = some cs.length)
    (h : K (a.put op.dst (.agg cs.toArray)) w) : op.wp P a w K Q := by
  unfold Oper.wp execOp
  simp only [ho, hx, Instr.loadAt, Instr.sureAddr, Sem.run_bind, Sem.run_pure, Result.andThen_ok, run_loadVar_mid w b o ty cs d hc hu hd hi]
  exact h
/-- No operation of a list defers. -/
def noDefer (ops : Array Oper) : Bool := ops.all fun o => match o.op with
  | .defer _ => false
  | _ => true
theorem noDefer_spec {ops : Array Oper} (h : noDefer ops = true) : ∀ (i : Nat) o, ops[i]? = some o → ∀ c, o.op ≠ .defer c := fun i o ho c e => by
  unfold noDefer at h
  rw [Array.all_eq_true] at h
  obtain ⟨hi, rfl⟩ := Array.getElem?_eq_some_iff.1 ho
  have := h i hi
  rw [e] at this
  simp at this
/-- The region, by the plain walk with a condition S. -/
theorem region_round {P : Program} {ops : Array Oper} {Q : Exit → Act → World → Prop} {S : World → Prop} {l n id : Nat} {a : Act} {w : World} (hm : P.follows .mixedOrders = true) (hnd : noDefer ops = true) (hL : ¬ LetsOut Q) (hS : S w.drew)
    (h : S w.drew → wpAnyH P .any ops Q S ops.size (Array.replicate ops.size false) a w.drew) : (Code.region id ops true).wpIn (Fence.wide.inRound l) n P Q a w :=
  wpIn_region_draw fun t => by
    simp only [Region.schedule, hm, Bool.true_or, if_true]
    exact ops_round (noDefer_spec hnd) hL _ _ _ (wpAny_sound ops.size t _ a _ (wpAny_of_held _ _ _ _ (h hS)))
theorem region_plain {P : Program} {ops : Array Oper} {Q : Exit → Act → World → Prop} {l n id : Nat} {a : Act} {w : World} (hnd : noDefer ops = true) (hL : ¬ LetsOut Q) (h : wpList P ops Q ops.toList a w) : (Code.region id ops false).wpIn (Fence.wide.inRound l) n P Q a w :=
  wpIn_region (ops_round (noDefer_spec hnd) hL _ _ _ (by rw [List.range_eq_range', ← Array.length_toList, wpOps_eq_wpList ops.toList 0 (by simp)]; exact h))

/-- What the body of a round keeps: all blocks from B on, and those of the list and the owner. -/
def KpR (B fb ob cb : Nat) (X Y : World) : Prop := X.heap.size ≤ Y.heap.size ∧ ∀ k, k < X.heap.size → (B ≤ k ∨ k = fb ∨ k = ob ∨ k = cb) → Y.heap[k]? = X.heap[k]?
theorem range_of {gop : Operand} {ps : Array Tmp} {assign body : Code} {Q : Exit → Act → World → Prop} {a : Act} {w : World} {fb ob cb n cap o : Nat} {l : List Rw} (hg : a.eval gop = oFun fb ob) (hps : ps.size = 2)
    (hw : OH w fb ob cb n cap o l) (hn : 0 < n) (I : Nat → World → Prop) (hIB : ∀ k X Y, I k X → Below X.heap.size X Y → I k Y) (hIo : ∀ k X lp ob, I k X → w.heap.size ≤ lp → I k (X.putObj lp ob)) (hskip : ∀ k X r, l[k]? = some r → r.ow ≠ o → I k X → I (k + 1) X) (hI0 : I 0 w)
    (hround : ∀ lp k X r, l[k]? = some r → r.ow = o → I k X → lp = w.heap.size + 1 → w.heap.size + 2 ≤ X.heap.size → (∃ r, X.heap[lp]? = some (.loop r)) →
      assign.wpIn (Fence.wide.inRound lp) 7 Try.prog (Exit.then (fun a1 X1 => Below X.heap.size X X1 ∧ ∀ X2, (∃ ob, X2 = X1.putObj lp ob) → body.wpIn (Fence.wide.inRound lp) 7 Try.prog (fun e a3 X3 => e = .normal ∧ I (k + 1) X3 ∧ KpR w.heap.size fb ob cb X2 X3) a1 X2) (fun _ _ _ => False)) { tmps := (ps.zip #[.int .i64 (k : Int), .int .i64 r.st]).foldl (fun t (p, v) => t.setIfInBounds p v) a.tmps, defers := [] } X)
    (hdone : ∀ X, I n X → X.heap[w.heap.size]? = some (.deferred (some [])) → Q .normal { a with defers := { target := .collected w.heap.size, args := #[] } :: a.defers } X) :
    (Code.rangeFunc gop ps assign body).wp Try.prog Q a w := by
  refine (wpIn_wide (n := 9)).1 (wpIn_rangeFunc (F := Fence.wide) (n := 9) ?_)
  intro fn hfn
  have hfb := hw.lt
  have hob := hw.olt
  have hcb := hw.clt hn
  obtain ⟨rec, hrec⟩ : ∃ rec : LoopState → Loop, rec = fun st => { state := st, pending := none, fn, tmps := a.tmps, params := ps, assign, body, defers := w.heap.size } := ⟨_, rfl⟩
  obtain ⟨W1, hW1⟩ : ∃ W1, W1 = (w.alloc (.deferred (some []))).alloc (.loop (rec .ready)) := ⟨_, rfl⟩
  have hb1 : Below w.heap.size w W1 := by rw [hW1]; exact ((Below.refl _ _).alloc (Nat.le_refl _) _).alloc (by simp) _
  have hs1 : W1.heap.size = w.heap.size + 2 := by rw [hW1]; simp
  have hl1 : W1.heap[w.heap.size + 1]? = some (.loop (rec .ready)) := by rw [hW1]; exact heap_at _ _ _ (by simp)
  have hd1 : W1.heap[w.heap.size]? = some (.deferred (some [])) := by rw [hW1]; exact alloc2_first _ _ _
  refine ⟨w.heap.size + 1, [{ target := .collected w.heap.size, args := #[] }], W1, { target := .fn (.func 32) #[.pointer (some ⟨fb, 0, none⟩), .pointer (some ⟨ob, 0, none⟩)], args := #[.func (.yield (w.heap.size + 1)) #[] #[]] }, W1, 32,
    #[.func (.yield (w.heap.size + 1)) #[] #[]] ++ #[.pointer (some ⟨fb, 0, none⟩), .pointer (some ⟨ob, 0, none⟩)], W1, ?_, ?_, fun f' hf' => trivial, ?_, fun _ => by omega, ?_⟩
  · rw [hW1, hrec]; exact run_enterLoop_outer _ _ _ _ _
  · simp only [resolve, hg]
    simp [go_sem]
  · simp [invoke, go_sem, enters_of Try.func32 (by kernel_rfl) rfl]
  · refine ((of1_in Fence.wide 8 trivial rfl (by omega) (w.heap.size + 1) fb ob cb n cap o l W1 (fun k X => I k X ∧ w.heap.size + 2 ≤ X.heap.size ∧ X.heap[w.heap.size + 1]? = some (.loop (rec .ready)) ∧ X.heap[w.heap.size]? = some (.deferred (some []))) (hw.below hb1) (fun k X Y hX hb => ⟨hIB k X Y hX.1 hb, Nat.le_trans hX.2.1 hb.size, (hb.block _ (Array.getElem?_eq_some_iff.1 hX.2.2.1).1).trans hX.2.2.1, (hb.block _ (Array.getElem?_eq_some_iff.1 hX.2.2.2).1).trans hX.2.2.2⟩) (fun k X r hk hz hX => ⟨hskip k X r hk hz hX.1, hX.2⟩) ?_ ⟨hIB 0 w W1 hI0 hb1, by omega, hl1, hd1⟩).mono ?_)
    · rintro k X r hk hz ⟨hI, hsX, hl, hd⟩ hWX
      have hlt := (Array.getElem?_eq_some_iff.1 hl).1
      have hy := run_yield (P := Try.prog) (args := #[.int .i64 (k : Int), .int .i64 r.st]) hl (by rw [hrec]; exact hps.symm)
      rw [hrec] at hy
      refine ⟨fn, _, assign, body, hy, roundIn_of_wpIn trivial (Code.wpIn_mono ?_ (hround (w.heap.size + 1) k X r hk hz hI rfl hsX ⟨_, hl⟩))⟩
      rintro e a1 X1 hq
      cases e with
      | normal =>
        obtain ⟨hbX, hbody⟩ := hq
        have hl' : X1.heap[w.heap.size + 1]? = some (.loop (rec .ready)) := (hbX.block _ hlt).trans hl
        have hlt1 := (Array.getElem?_eq_some_iff.1 hl').1
        refine ⟨_, run_beginRound hl' (by rw [hrec]), Code.wpIn_mono ?_ (hbody _ ⟨_, rfl⟩)⟩
        rintro e a3 X3 ⟨rfl, hI3, hK3⟩
        have hl2 : (X1.putObj (w.heap.size + 1) (.loop { rec .ready with state := .busy })).heap[w.heap.size + 1]? = some (.loop { rec .ready with state := .busy }) := World.putObj_heap_same hlt1
        have hs2 : (X1.putObj (w.heap.size + 1) (.loop { rec .ready with state := .busy })).heap.size = X1.heap.size := by simp
        have hbs := hbX.size
        have hl3 : X3.heap[w.heap.size + 1]? = some (.loop { rec .ready with state := .busy }) := (hK3.2 _ (by rw [hs2]; exact hlt1) (.inl (by omega))).trans hl2
        have hend := run_endRound (P := Try.prog) none hl3
        have hks := hK3.1
        rw [hs2] at hks
        refine ⟨_, _, hend, rfl, ⟨hIo _ _ _ _ hI3 (by omega), by simp; omega, ?_, ?_⟩, ?_⟩
        · rw [World.putObj_heap_same (Array.getElem?_eq_some_iff.1 hl3).1, hrec]; rfl
        · rw [World.putObj_heap_other (by omega), hK3.2 _ (by rw [hs2]; omega) (.inl (by omega)), World.putObj_heap_other (by omega)]
          exact (hbX.block _ (Array.getElem?_eq_some_iff.1 hd).1).trans hd
        · refine ⟨by simp; omega, ?_, ?_, ?_⟩
          · rw [World.putObj_heap_other (by omega), hK3.2 fb (by rw [hs2]; omega) (.inr (.inl rfl)), World.putObj_heap_other (by omega)]
            exact hbX.block _ (by omega)
          · rw [World.putObj_heap_other (by omega), hK3.2 ob (by rw [hs2]; omega) (.inr (.inr (.inl rfl))), World.putObj_heap_other (by omega)]
            exact hbX.block _ (by omega)
          · rw [World.putObj_heap_other (by omega), hK3.2 cb (by rw [hs2]; omega) (.inr (.inr (.inr rfl))), World.putObj_heap_other (by omega)]
            exact hbX.block _ (by omega)
      | _ => exact hq.elim
    · rintro e X ⟨⟨v, rfl⟩, hI, hsX, hl, hd⟩
      have hend := run_endLoop (P := Try.prog) hl (by rw [hrec]; simp)
      refine ⟨none, _, by rw [hend, hrec], hdone _ (hIo _ _ _ _ hI (by omega)) ?_⟩
      rw [World.putObj_heap_other (by omega)]; exact hd
end Go.Proofs.Ytpmbbnmpldeajaa.GC
