/- report: Untext of the program: what it stands on. -/
import Derived.Test.YtpklboicgjpmeaaDoorTr
set_option linter.unusedVariables false
set_option linter.unusedSimpArgs false
namespace Go.Proofs.YtpklboicgjpmeaaDoor.RB
open Go.RowKit
open JC (splitR splitR_no splitR_at)

/-- One operation that defers nothing. -/
theorem op_round {P : Program} {ops : Array Oper} {Q : Exit → Act → World → Prop} {l n i : Nat} {K : Act → World → Prop} {a : Act} {w : World} (hnd : ∀ o, ops[i]? = some o → ∀ c, o.op ≠ .defer c) (hL : ¬ LetsOut Q) (h : wpOp P ops Q i K a w) : wpOpIn (Fence.wide.inRound l) n P ops Q i K a w := by
  unfold wpOp at h
  unfold wpOpIn
  cases ho : ops[i]? with
  | none => rw [ho] at h; exact h
  | some o =>
    rw [ho] at h
    simp only at h ⊢
    by_cases hw : Region.wanted o (yielded ops a.tmps) = true
    · rw [if_pos hw] at h ⊢
      rcases h with h | h
      · refine ⟨fun f _ => trivial, ?_⟩
        rw [Fence.inRound_round, Oper.semAt_some l _ _ (hnd o ho)]
        unfold Oper.wp at h
        generalize (execOp a.eval o).run P w = r at h
        cases r with
        | ok x w' =>
          cases x with
          | value v => exact h
          | skip => exact h
          | defer d => exact h
          | enter f args => exact ⟨fun hd => by simp [Fence.inRound, Fence.wide] at hd, CallsIn.inRound l (callsIn_wide.2 h)⟩
          | row row args =>
            refine ⟨fun hd => by simp [Fence.inRound, Fence.wide] at hd, fun c cs _ => ?_⟩
            obtain ⟨v, w2, hr, hs⟩ := h c cs
            exact ⟨v, w2, hr, stepsIn_wide.2 hs⟩
          | _ => exact h.elim
        | halt x w' =>
          cases x with
          | panic v => exact h
          | _ => exact h.elim
      · exact absurd h.2 hL
    · rw [if_neg hw] at h ⊢
      exact ⟨fun f _ => trivial, h⟩
theorem ops_round {P : Program} {ops : Array Oper} {Q : Exit → Act → World → Prop} {l n : Nat} (hnd : ∀ (i : Nat) o, ops[i]? = some o → ∀ c, o.op ≠ .defer c) (hL : ¬ LetsOut Q) : ∀ (sch : List Nat) (a : Act) (w : World), wpOps P ops Q sch a w → wpOpsIn (Fence.wide.inRound l) n P ops Q sch a w
  | [], _, _, h => h
  | i :: rest, a, w, h => by
    rw [wpOps_cons] at h
    rw [wpOpsIn_cons]
    exact wpOpIn_mono (fun a w hh => ops_round hnd hL rest a w hh) (op_round (hnd i) hL h)
/-- An operation that runs plainly, in the fence that lets all by. -/
theorem op_wide {P : Program} {Q : Exit → Act → World → Prop} {o : Oper} {n : Nat} {K : Act → World → Prop} {a : Act} {w : World} (h : o.wp P a w K Q) : o.wpIn Fence.wide n P a w K Q := by
  refine ⟨fun f _ => trivial, ?_⟩
  show o.uponIn Fence.wide n P a K Q ((execOp a.eval o).run P w)
  unfold Oper.wp at h
  generalize (execOp a.eval o).run P w = r at h
  cases r with
  | ok x w' =>
    cases x with
    | value v => exact h
    | skip => exact h
    | defer d => exact h
    | enter f args => exact ⟨fun hd => by simp [Fence.wide] at hd, callsIn_wide.2 h⟩
    | row row args =>
      refine ⟨fun hd => by simp [Fence.wide] at hd, fun c cs _ => ?_⟩
      obtain ⟨v, w2, hr, hs⟩ := h c cs
      exact ⟨v, w2, hr, stepsIn_wide.2 hs⟩
    | _ => exact h.elim
  | halt x w' =>
    cases x with
    | panic v => exact h
    | _ => exact h.elim
/-- A load of a range. -/
theorem op_load_mid {P : Program} {op : Oper} {a : Act} {w : World} {K : Act → World → Prop} {Q : Exit → Act → World → Prop} (ty : TypeId) (x : Operand) (ho : op.op = .load ty x)
    (b o : Nat) (hx : a.eval x = .pointer (some ⟨b, o, none⟩)) (cs : List Value) (d : TypeDesc) (hc : w.rangeAt b o cs) (hu : P.underlying ty = some d) (hd : d.isRow = true) (hi : (P.info? ty).map (·.size) = some cs.length)
    (h : K (a.put op.dst (.agg cs.toArray)) w) : op.wp P a w K Q := by
  unfold Oper.wp execOp
  simp only [ho, hx, Instr.loadAt, Instr.sureAddr, Sem.run_bind, Sem.run_pure, Result.andThen_ok, run_loadVar_mid w b o ty cs d hc hu hd hi]
  exact h
/-- No operation of a list defers. -/
def noDefer (ops : Array Oper) : Bool := ops.all fun o => match o.op with
  | .defer _ => false
  | _ => true
theorem noDefer_spec {ops : Array Oper} (h : noDefer ops = true) : ∀ (i : Nat) o, ops[i]? = some o → ∀ c, o.op ≠ .defer c := fun i o ho c e => by
  unfold noDefer at h
  rw [Array.all_eq_true] at h
  obtain ⟨hi, rfl⟩ := Array.getElem?_eq_some_iff.1 ho
  have := h i hi
  rw [e] at this
  simp at this
/-- The region, by the plain walk with a condition S. -/
theorem region_round {P : Program} {ops : Array Oper} {Q : Exit → Act → World → Prop} {S : World → Prop} {l n id : Nat} {a : Act} {w : World} (hm : P.follows .mixedOrders = true) (hnd : noDefer ops = true) (hL : ¬ LetsOut Q) (hS : S w.drew)
    (h : S w.drew → wpAnyH P .any ops Q S ops.size (Array.replicate ops.size false) a w.drew) : (Code.region id ops true).wpIn (Fence.wide.inRound l) n P Q a w :=
  wpIn_region_draw fun t => by
    simp only [Region.schedule, hm, Bool.true_or, if_true]
    exact ops_round (noDefer_spec hnd) hL _ _ _ (wpAny_sound ops.size t _ a _ (wpAny_of_held _ _ _ _ (h hS)))
theorem region_plain {P : Program} {ops : Array Oper} {Q : Exit → Act → World → Prop} {l n id : Nat} {a : Act} {w : World} (hnd : noDefer ops = true) (hL : ¬ LetsOut Q) (h : wpList P ops Q ops.toList a w) : (Code.region id ops false).wpIn (Fence.wide.inRound l) n P Q a w :=
  wpIn_region (ops_round (noDefer_spec hnd) hL _ _ _ (by rw [List.range_eq_range', ← Array.length_toList, wpOps_eq_wpList ops.toList 0 (by simp)]; exact h))

theorem calls_marks {f : FuncId} {fn : Func} {c : Code} {args : Array Value} {w : World} {R : Ending → World → Prop} (hf : Tryd.prog.funcs[f]? = some fn) (hb : fn.body = some c)
    (h : c.wp Tryd.prog (bodyPostM Fence.wide 9 Tryd.prog fn R) { tmps := args ++ Array.replicate (fn.ntmps - args.size) undef, defers := [] } w) : Calls Tryd.prog f args w R :=
  callsIn_wide.1 (callsIn_of_wp_marks (F := Fence.wide) (n := 9) hf hb trivial (wpIn_wide.2 h))
/-- The end of a function with marks: each is taken, then what comes of it. -/
theorem marks_ret {fn : Func} {R : Ending → World → Prop} {tmps : Array Value} {v : Value} : ∀ (Ds : List Nat) (w : World), (∀ D ∈ Ds, w.heap[D]? = some (.deferred (some []))) → Ds.Nodup →
    (∀ w', w'.heap.size = w.heap.size → w'.os = w.os → w'.tape = w.tape → w'.output = w.output → (∀ k, k ∉ Ds → w'.heap[k]? = w.heap[k]?) → (results fn tmps).run Tryd.prog w' = .ok v w' ∧ R (.returned v) w') →
    LeavesInM Fence.wide 9 Tryd.prog fn tmps R (Ds.map fun D => { target := .collected D, args := #[] }) .returning w
  | [], w, _, _, h => by
    obtain ⟨h1, h2⟩ := h w rfl rfl rfl rfl (fun _ _ => rfl)
    exact ⟨v, h1, h2⟩
  | D :: Ds, w, hD, hn, h => by
    have h0 := hD D (by simp)
    obtain ⟨hn1, hn2⟩ := List.nodup_cons.1 hn
    refine ⟨by simp, .inl ⟨D, _, rfl, run_takeDeferred h0, ?_⟩⟩
    refine marks_ret Ds _ (fun E hE => ?_) hn2 (fun w' h1 h2 h3 h4 h5 => h w' (by rw [h1]; simp) h2 h3 h4 (fun k hk => ?_))
    · have hne : E ≠ D := fun e => hn1 (e ▸ hE)
      rw [World.putObj_heap_other hne]; exact hD E (by simp [hE])
    · simp only [List.mem_cons, not_or] at hk
      rw [h5 k hk.2, World.putObj_heap_other hk.1]

theorem results_cell2 {fn : Func} {p u : Tmp} {ty ty2 : TypeId} (h : fn.results = #[.cell p ty, .cell u ty2]) (tmps : Array Value) (P : Program) (w : World) :
    (results fn tmps).run P w = ((asAddr (tmps.getD p undef)).run P w).andThen fun a w₁ => ((loadVar ty a).run P w₁).andThen fun v w₂ => ((asAddr (tmps.getD u undef)).run P w₂).andThen fun b w₃ => ((loadVar ty2 b).run P w₃).andThen fun v2 w₄ => .ok (.tuple #[v, v2]) w₄ := by
  simp only [results, h]
  simp [Sem.run_bind, Result.andThen]
theorem run_loadE (X : World) (b : Nat) (n : Int) (hc : X.cell? ⟨b, 0, none⟩ = some (.int .i64 n)) : (loadVar 33 ⟨b, 0, none⟩).run Tryd.prog X = .ok (.int .i64 n) X := by
  have ha : (isAgg 33).run Tryd.prog X = .ok false X := by kernel_rfl
  have hl : (load ⟨b, 0, none⟩).run Tryd.prog X = .ok (.int .i64 n) X := by go_simp
  simp [loadVar, ha, hl, hc]
theorem results_re {fn : Func} {p u : Tmp} (h : fn.results = #[.cell p 26, .cell u 33]) (tmps : Array Value) (X : World) (b1 b2 : Nat) (n : Int) {RL : List Value} (hi : (Tryd.prog.info? 26).map (·.size) = some RL.length) (h1 : X.heap[b1]? = some (.cells RL.toArray 26 (0, 0))) (h2 : X.heap[b2]? = some (.cells [Value.int .i64 n].toArray 33 (0, 0)))
    (hp : tmps.getD p undef = .pointer (some ⟨b1, 0, none⟩)) (hu : tmps.getD u undef = .pointer (some ⟨b2, 0, none⟩)) : (results fn tmps).run Tryd.prog X = .ok (.tuple #[.agg RL.toArray, .int .i64 n]) X := by
  have e1 : (asAddr (tmps.getD p undef)).run Tryd.prog X = .ok ⟨b1, 0, none⟩ X := by rw [hp]; rfl
  have e2 : (asAddr (tmps.getD u undef)).run Tryd.prog X = .ok ⟨b2, 0, none⟩ X := by rw [hu]; rfl
  have e3 := run_loadVar_mid X b1 0 26 RL _ (rangeAt_row h1) Tryd.underlying26 rfl hi
  have e4 := run_loadE X b2 n (by rw [cell_of_row _ _ 0 _ _ _ h2]; rfl)
  rw [results_cell2 h, e1, Result.andThen_ok, e3, Result.andThen_ok, e2, Result.andThen_ok, e4, Result.andThen_ok]
theorem run_stE (w : World) (b k : Nat) (OL : List Value) (t : TypeId) (hrow : w.heap[b]? = some (.cells OL.toArray t (0, 0))) (hk : k < OL.length) (x : Int) : (Instr.storeAt 33 (.pointer (some ⟨b, k, none⟩)) (.int .i64 x)).run Tryd.prog w = .ok () (w.setCell ⟨b, k, none⟩ (.int .i64 x)) := by
  have hc := cell_of_row w b k _ _ _ hrow
  rw [List.getElem?_toArray, List.getElem?_eq_getElem hk] at hc
  have hf := frozen_of_row _ _ k _ _ hrow
  generalize OL[k] = ov at *
  unfold Instr.storeAt Instr.sureAddr
  try unfold sV
  go_simp
theorem run_stS (w : World) (b k : Nat) (OL : List Value) (t : TypeId) (hrow : w.heap[b]? = some (.cells OL.toArray t (0, 0))) (hk : k < OL.length) (x : List UInt8) : (Instr.storeAt 9 (.pointer (some ⟨b, k, none⟩)) (sV x)).run Tryd.prog w = .ok () (w.setCell ⟨b, k, none⟩ (sV x)) := by
  have hc := cell_of_row w b k _ _ _ hrow
  rw [List.getElem?_toArray, List.getElem?_eq_getElem hk] at hc
  have hf := frozen_of_row _ _ k _ _ hrow
  generalize OL[k] = ov at *
  unfold Instr.storeAt Instr.sureAddr
  try unfold sV
  go_simp
theorem wpList_st {ops : Array Oper} {rest : List Oper} {o : Oper} {a : Act} {w : World} {Q : Exit → Act → World → Prop} (hgd : o.guard = none) (ty : TypeId) (x y : Operand) (ho : o.op = .store ty x y) (p v : Value) (hx : a.eval x = p) (hy : a.eval y = v) (w' : World) (hr : (Instr.storeAt ty p v).run Tryd.prog w = .ok () w')
    (h : ∀ W', W' = w' → wpList Tryd.prog ops Q rest (a.put o.dst undef) W') : wpList Tryd.prog ops Q (o :: rest) a w :=
  wpList_plain hgd fun _ hK => by
    unfold Oper.wp execOp
    simp only [ho, hx, hy, Sem.run_bind, hr, Result.andThen_ok]
    exact hK _ _ (h _ rfl)
/-- Rows of one's own, and a block of what is deferred. -/
structure UD (w : World) (rows : List (Nat × TypeId × List Value)) (D : Nat) (X : World) : Prop where
  rs : RS w rows X
  d : X.heap[D]? = some (.deferred (some []))
section
variable {w X Y : World} {rows : List (Nat × TypeId × List Value)} {b D : Nat} {t : TypeId} {L M : List Value}
theorem UD.ne (h : UD w rows D X) (i : Nat) (hi : rows[i]? = some (b, t, L)) : D ≠ b := fun e => by
  have h1 := h.rs.at i hi
  rw [← e, h.d] at h1
  cases h1
theorem UD.step (h : UD w rows D X) (hb : Below X.heap.size X Y) : UD w rows D Y := ⟨h.rs.step hb, (hb.block _ (row_lt h.d)).trans h.d⟩
theorem UD.alloc (h : UD w rows D X) (n : Nat) (hn : n = X.heap.size) (t : TypeId) (L : List Value) : UD w ((n, t, L) :: rows) D (X.alloc (.cells L.toArray t (0, 0))) :=
  ⟨h.rs.alloc n hn t L, (((Below.refl _ _).alloc (Nat.le_refl _) (.cells L.toArray t (0, 0))).block _ (row_lt h.d)).trans h.d⟩
theorem UD.put (h : UD w rows D X) (i : Nat) (hi : rows[i]? = some (b, t, L)) (M : List Value) : UD w (rows.set i (b, t, M)) D (X.setRow b M.toArray) :=
  ⟨h.rs.put i hi M, by have := h.ne i hi; rw [← h.d]; simp [World.setRow, Array.getElem?_modify, Ne.symm this]⟩
theorem UD.poke (h : UD w rows D X) (i : Nat) (hi : rows[i]? = some (b, t, L)) (k : Nat) (v : Value) (hM : L.set k v = M) : UD w (rows.set i (b, t, M)) D (X.setCell ⟨b, k, none⟩ v) :=
  ⟨h.rs.poke i hi k v hM, (heap_setCell_other _ _ _ _ (h.ne i hi)).trans h.d⟩
theorem UD.end (h : UD w rows D X) {w' : World} (h1 : w'.heap.size = X.heap.size) (h2 : w'.os = X.os) (h3 : w'.tape = X.tape) (h4 : w'.output = X.output) (h5 : ∀ k, k ∉ [D] → w'.heap[k]? = X.heap[k]?) (hD : w.heap.size ≤ D) : RS w rows w' :=
  ⟨⟨h2.trans h.rs.bel.os, h3.trans h.rs.bel.tape, h4.trans h.rs.bel.output, by rw [h1]; exact h.rs.bel.size, fun k hk => (h5 k (by simp; omega)).trans (h.rs.bel.block k hk)⟩, h.rs.low, h.rs.nd, fun r hr => (h5 r.1 (by
    obtain ⟨i, hi⟩ := List.getElem?_of_mem hr
    have := h.ne i (b := r.1) (t := r.2.1) (L := r.2.2) hi
    simp; exact Ne.symm this)).trans (h.rs.row r hr)⟩
end
theorem rs_own {β : Type} (f : β → List (Nat × TypeId × List Value)) {w : World} {B : Nat} (hB : w.heap.size ≤ B) : OwnFrom B (fun (s : β) W => RS w (f s) W) := fun s X Y row hs hg hr =>
  ⟨ownFrom_below (Nat.le_refl _) hB s X Y row hs.bel hg hr, hs.low, hs.nd, fun r hr' => (hg.block r.1 (row_lt (hs.row r hr')) (fun e => by obtain ⟨_, o', ho', hc'⟩ := hr r.1 e.symm; rw [hs.row r hr'] at ho'; cases ho'; cases hc')).trans (hs.row r hr')⟩
/-- The words so far, as the row holds them. -/
def wL (xs : List (List UInt8)) : List Value := xs.map sV ++ Z6.drop xs.length
theorem wL_len {xs : List (List UInt8)} (h : xs.length ≤ 6) : (wL xs).length = 6 := by
  have e : Z6.length = 6 := rfl
  unfold wL; simp [e]; omega
theorem wL_set {xs : List (List UInt8)} (h : xs.length < 6) (x : List UInt8) : (wL xs).set xs.length (sV x) = wL (xs ++ [x]) := by
  have e : Z6.length = 6 := rfl
  unfold wL
  rw [List.set_append_right _ _ (by simp), List.length_map, Nat.sub_self, List.drop_eq_getElem_cons (by rw [e]; exact h), List.set_cons_zero]
  simp
theorem wL_get {xs : List (List UInt8)} (h : xs.length ≤ 6) {j : Nat} (hj : j < 6) : (wL xs)[j]? = some (sV (xs.getD j [])) := by
  have e : Z6 = List.replicate 6 (sV []) := rfl
  unfold wL
  by_cases hx : j < xs.length
  · rw [List.getElem?_append_left (by simpa using hx), List.getElem?_map, List.getElem?_eq_getElem hx]
    simp [List.getD, List.getElem?_eq_getElem hx]
  · rw [List.getElem?_append_right (by simp; omega), e, List.getElem?_drop, List.getElem?_replicate, if_pos (by simp; omega)]
    simp [List.getD, List.getElem?_eq_none (show xs.length ≤ j by omega)]
theorem word_len (s : List UInt8) : ∀ x ∈ splitR s, x.length ≤ s.length := by
  generalize hn : s.length = n
  induction n using Nat.strongRecOn generalizing s with
  | ind n ih =>
    intro x hx
    rcases idx_w s with ⟨_, h⟩ | ⟨k, _, hk, h⟩
    · rw [h] at hx; rw [List.mem_singleton.1 hx]; omega
    · rw [h] at hx
      rcases List.mem_cons.1 hx with rfl | hx
      · rw [List.length_take]; omega
      · have hd : (s.drop (k + 1)).length < n := by rw [List.length_drop]; omega
        have := ih _ hd _ rfl x hx
        omega
theorem getD_len {s : List UInt8} (j : Nat) : ((splitR s).getD j []).length ≤ s.length := by
  rw [List.getD_eq_getElem?_getD]
  cases h : (splitR s)[j]? with
  | none => simp
  | some x => exact word_len s x (List.mem_of_getElem? h)
/-- The report that a text's words tell, where the number is n. -/
def rdT (s : List UInt8) (n : Nat) : Rp := ⟨n, dgT ((splitR s).getD 3 []), dgT ((splitR s).getD 5 [])⟩
theorem rdT_ok (s : List UInt8) {n : Nat} (h : n < 18446744073709551616) : (rdT s n).ok := ⟨h, dgT_len _, dgT_len _⟩
theorem tr_yes {s : List UInt8} {n : Nat} (h : n < 18446744073709551616) (he : tex (rdT s n) = s) : TR s (rdT s n) true := .inl ⟨rdT_ok s h, he, rfl⟩
theorem rdT_q {s : List UInt8} {q : Rp} (hq : q.ok) (e : tex q = s) : (splitR s).getD 1 [] = Lib.decDigits q.inst ∧ dgT ((splitR s).getD 3 []) = q.ms ∧ dgT ((splitR s).getD 5 []) = q.ch ∧ dgB ((splitR s).getD 3 []) = true ∧ dgB ((splitR s).getD 5 []) = true ∧ (splitR s).length = 6 := by
  subst e
  rw [split_tex]
  exact ⟨rfl, dgT_hex hq.m, dgT_hex hq.c, dgB_hex hq.m, dgB_hex hq.c, rfl⟩
theorem tr_no {s : List UInt8} {n : Nat} (h : ∀ u, u < 18446744073709551616 → (splitR s).getD 1 [] = Lib.decDigits u → n = u) (he : tex (rdT s n) ≠ s) : TR s r0 false := .inr ⟨rfl, rfl, fun q hq e => he (by
  obtain ⟨h1, h2, h3, _⟩ := rdT_q hq e
  have : rdT s n = q := Rp.eq (h _ hq.i h1) h2 h3
  rw [this]; exact e)⟩
theorem tr_len {s : List UInt8} (h : (splitR s).length ≠ 6) : TR s r0 false := .inr ⟨rfl, rfl, fun q hq e => h (rdT_q hq e).2.2.2.2.2⟩
theorem cons_of {α : Type} {l : List α} {n : Nat} (h : l.length = n + 1) : ∃ a t, l = a :: t ∧ t.length = n := by
  cases l with
  | nil => simp at h
  | cons a t => exact ⟨a, t, rfl, by simpa using h⟩
set_option maxHeartbeats 4000000 in
set_option maxRecDepth 100000 in
theorem build_rp3 (n : Int) (M C : List Value) (hM : M.length = 32) (hC : C.length = 32) (w : World) : (Instr.build 26 #[(0, .int .u64 n), (1, .agg M.toArray), (2, .agg C.toArray)]).run Tryd.prog w = .ok (.agg (.int .u64 n :: (M ++ C)).toArray) w := by
  iterate 32 (obtain ⟨_, _, e, g⟩ := cons_of hM; clear hM; subst e; have hM := g; clear g)
  obtain rfl := List.eq_nil_of_length_eq_zero hM
  iterate 32 (obtain ⟨_, _, e, g⟩ := cons_of hC; clear hC; subst e; have hC := g; clear g)
  obtain rfl := List.eq_nil_of_length_eq_zero hC
  show _ = _
  kernel_rfl
end Go.Proofs.YtpklboicgjpmeaaDoor.RB
