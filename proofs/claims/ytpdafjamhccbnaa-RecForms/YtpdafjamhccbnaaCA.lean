/- rec: rows in memory; vCPUs, their parameters, states, what comes in and is told, as cells; contracts of May and New. -/
import Derived.Test.YtpdafjamhccbnaaB1
import Derived.Laws.Tables
import Derived.Deep.MidRow
import Derived.Laws.CopyOwn
import Derived.Laws.CopyRow
import Derived.Laws.IdiomCopy
import Derived.Laws.StructEq
import Derived.BigQuiet
import Derived.Deep.QuietTactic
import Derived.WalkSmall
import Derived.Deep.RegionHeld3
import Derived.Stop.BytesEq
import Derived.Carry
set_option linter.unusedVariables false
set_option linter.unusedSimpArgs false
namespace Go.Proofs.Ytpdafjamhccbnaa.VC
open Go.RowKit

theorem row_lt {w : World} {d : Nat} {o : Obj} (h : w.heap[d]? = some o) : d < w.heap.size := (Array.getElem?_eq_some_iff.1 h).1
theorem B8_one (l : List UInt8) : ∀ u ∈ l.map B8, u.oneCell' = true := by
  intro u hu
  obtain ⟨x, _, rfl⟩ := List.mem_map.1 hu
  rfl
theorem onea {l : List Value} (h : ∀ u ∈ l, u.oneCell' = true) : l.toArray.all (·.oneCell') = true := by
  rw [Array.all_eq_true_iff_forall_mem]
  intro v hv
  exact h v (by simpa using hv)
theorem B8_onea (l : List UInt8) : (l.map B8).toArray.all (·.oneCell') = true := onea (B8_one l)
theorem heap_at (w : World) (o : Obj) (n : Nat) (h : n = w.heap.size) : (w.alloc o).heap[n]? = some o := by subst h; exact heap_alloc_new _ _
theorem rangeAt_below {w w' : World} {b o : Nat} {cs : List Value} (h : w.rangeAt b o cs) (hb : Below w.heap.size w w') : w'.rangeAt b o cs := fun j v hv => (hb.cell (block_lt (h j v hv))).trans (h j v hv)
theorem rangeAt_row {w : World} {b : Nat} {cs : List Value} {t : TypeId} {fr : Nat × Nat} (h : w.heap[b]? = some (.cells cs.toArray t fr)) : w.rangeAt b 0 cs := fun j v hv => by
  rw [Nat.zero_add, cell_of_row _ _ j _ _ _ h]; simpa using hv
theorem rangeAt_part {w : World} {b o : Nat} {cs : List Value} (h : w.rangeAt b o cs) (k n : Nat) : w.rangeAt b (o + k) ((cs.drop k).take n) := fun j v hv => by
  have hj : j < n := by have := (List.getElem?_eq_some_iff.1 hv).1; rw [List.length_take] at this; omega
  rw [List.getElem?_take_of_lt hj, List.getElem?_drop] at hv
  rw [show o + k + j = o + (k + j) by omega]
  exact h _ _ hv
theorem add_none (b o j : Nat) : (⟨b, o, none⟩ : Addr).add j = ⟨b, o + j, none⟩ := by unfold Addr.add; split <;> simp_all
theorem hb_range {w : World} {b o cap : Nat} {l : List UInt8} (k : Nat) (hk : k = l.length) (h1 : l.length ≤ cap) (h2 : cap ≤ maxLen) (h : w.rangeAt b o (l.map B8)) : HB w (.slice (some ⟨b, o, none⟩) k cap) l := by
  subst hk
  refine .inr ⟨b, o, cap, rfl, h1, h2, fun i hi => ?_⟩
  have := h i (B8 l[i]) (by rw [List.getElem?_map, List.getElem?_eq_getElem hi]; rfl)
  rw [this]
  simp [B8, List.getD, List.getElem?_eq_getElem hi]
theorem splice_map {α β : Type} (f : α → β) (L : List α) (o : Nat) (cs : List α) : splice (L.map f) o (cs.map f) = (splice L o cs).map f := by simp [splice, List.map_take, List.map_drop]
theorem splice_len {α : Type} (L : List α) (o : Nat) (cs : List α) (h : o + cs.length ≤ L.length) : (splice L o cs).length = L.length := by simp [splice]; omega
theorem load_mid_g {ops : Array Oper} {rest : List Oper} {o : Oper} {a : Act} {w : World} {Q : Exit → Act → World → Prop} (hw : Region.wanted o (yielded ops a.tmps) = true) (ty : TypeId) (x : Operand) (ho : o.op = .load ty x)
    (b off : Nat) (hx : a.eval x = .pointer (some ⟨b, off, none⟩)) (cs : List Value) (d : TypeDesc) (hc : w.rangeAt b off cs) (hu : Try.prog.underlying ty = some d) (hd : d.isRow = true) (hi : (Try.prog.info? ty).map (·.size) = some cs.length)
    (h : wpList Try.prog ops Q rest (a.put o.dst (.agg cs.toArray)) w) : wpList Try.prog ops Q (o :: rest) a w :=
  wpList_step fun K hK => by rw [if_pos hw]; exact wp_load_mid ty x ho b off hx cs d hc hu hd hi (hK _ _ h)
theorem exec_build (ev : Operand → Value) (o : Oper) (t : TypeId) (parts : Array (Nat × Operand)) (vals : Array (Nat × Value)) (v : Value) (w : World) (ho : o.op = .build t parts) (hp : (parts.map fun (i, x) => (i, ev x)) = vals)
    (hr : (Instr.build t vals).run Try.prog w = .ok v w) : (execOp ev o).run Try.prog w = .ok (.value v) w := by
  unfold execOp
  simp only [ho, Sem.run_bind, hp, hr, Result.andThen_ok]
  rfl
theorem wpList_build {ops : Array Oper} {rest : List Oper} {o : Oper} {a : Act} {Q : Exit → Act → World → Prop} {w : World} (hgd : o.guard = none) (t : TypeId) (parts : Array (Nat × Operand)) (ho : o.op = .build t parts) (vals : Array (Nat × Value)) (v : Value) (hp : (parts.map fun (i, x) => (i, a.eval x)) = vals)
    (hr : (Instr.build t vals).run Try.prog w = .ok v w) (h : wpList Try.prog ops Q rest (a.put o.dst v) w) : wpList Try.prog ops Q (o :: rest) a w := by
  refine wpList_plain hgd fun K' hK' => ?_
  unfold Oper.wp
  rw [exec_build a.eval o t parts vals v w ho hp hr]
  exact hK' _ _ h
theorem results2 {fn : Func} {p u : Tmp} {ty : TypeId} {d : TypeDesc} (h : fn.results = #[.cell p ty, .tmp u]) (tmps : Array Value) (w : World) (g : Nat) (t : TypeId) (cs : List Value) (fr : Nat × Nat) (x : Value)
    (hp : tmps.getD p undef = .pointer (some ⟨g, 0, none⟩)) (hx : tmps.getD u undef = x) (hg : w.heap[g]? = some (.cells cs.toArray t fr)) (hu : Try.prog.underlying ty = some d) (hd : d.isRow = true) (hi : (Try.prog.info? ty).map (·.size) = some cs.length) :
    (results fn tmps).run Try.prog w = .ok (.tuple #[.agg cs.toArray, x]) w := by
  rw [results_cell_tmp h, hp, hx]
  simp [asAddr, run_loadVar_mid w g 0 ty cs d (rangeAt_row hg) hu hd hi]
theorem ret_bool {a b : Bool} (h : a = b) : Ending.returned (.bool a) = .returned (.bool b) := by rw [h]
theorem build_g {ops : Array Oper} {rest : List Oper} {o : Oper} {a : Act} {Q : Exit → Act → World → Prop} {w : World} (hw : Region.wanted o (yielded ops a.tmps) = true) (t : TypeId) (parts : Array (Nat × Operand)) (ho : o.op = .build t parts) (vals : Array (Nat × Value)) (v : Value) (hp : (parts.map fun (i, x) => (i, a.eval x)) = vals)
    (hr : (Instr.build t vals).run Try.prog w = .ok v w) (h : wpList Try.prog ops Q rest (a.put o.dst v) w) : wpList Try.prog ops Q (o :: rest) a w :=
  wpList_step fun K hK => by
    rw [if_pos hw]
    unfold Oper.wp
    rw [exec_build a.eval o t parts vals v w ho hp hr]
    exact hK _ _ h
theorem wpList_store_rowL {ops : Array Oper} {rest : List Oper} {o : Oper} {a : Act} {w : World} {Q : Exit → Act → World → Prop} (hgd : o.guard = none) (ty : TypeId) (x y : Operand) (ho : o.op = .store ty x y)
    (g : Nat) (cells : Array Value) (hx : a.eval x = .pointer (some ⟨g, 0, none⟩)) (hy : a.eval y = .agg cells)
    (t : TypeId) (old : Array Value) (hg : w.heap[g]? = some (.cells old t (0, 0))) (hi : (Try.prog.info? ty).map (·.size) = some cells.size)
    (hold : old.size = cells.size) (h1 : cells.all (·.oneCell') = true)
    (h : ∀ W', W' = w.setRow g cells → wpList Try.prog ops Q rest (a.put o.dst undef) W') : wpList Try.prog ops Q (o :: rest) a w :=
  wpList_store_row hgd ty x y ho g cells hx hy t old hg hi hold h1 (h _ rfl)
theorem results1 {fn : Func} {p : Tmp} {ty : TypeId} {d : TypeDesc} (h : fn.results = #[.cell p ty]) (tmps : Array Value) (X : World) (b : Nat) {RL : List Value} {t : TypeId} (h1 : X.heap[b]? = some (.cells RL.toArray t (0, 0))) (hu : Try.prog.underlying ty = some d) (hd : d.isRow = true) (hi : (Try.prog.info? ty).map (·.size) = some RL.length)
    (hp : tmps.getD p undef = .pointer (some ⟨b, 0, none⟩)) : (results fn tmps).run Try.prog X = .ok (.agg RL.toArray) X := by
  have e1 : (asAddr (tmps.getD p undef)).run Try.prog X = .ok ⟨b, 0, none⟩ X := by rw [hp]; rfl
  have e3 := run_loadVar_mid X b 0 ty RL d (rangeAt_row h1) hu hd hi
  simp only [results, h]
  simp [Sem.run_bind, Result.andThen, e1, e3]
  rw [← Array.getD_eq_getD_getElem?, hp]
  simp [asAddr, e3, Result.andThen]
theorem eq_ints_self {P : Program} (w : World) (d : Nat) (t e : TypeId) (m : Nat) (q : IntKind) (ht : P.underlying t = some (.array m e)) (he : P.underlying e = some (.int q)) (hsz : ∀ w, (sizeOf e).run P w = .ok 1 w) (F : List Value) (hF : F.length = m)
    (hp : ∀ v ∈ F, ∃ z, v = .int q z) : (Op.equalIn (d + 3) t (.agg F.toArray) (.agg F.toArray)).run P w = .ok true w := by
  rw [Op.equalIn]
  simp only [Sem.run_bind, run_underlying ht, Result.andThen_ok, hsz, Std.Legacy.Range.forIn_eq_forIn_range', Std.Legacy.Range.size, Nat.sub_zero, Nat.add_sub_cancel, Nat.div_one]
  have hl : ∀ i ∈ List.range' 0 m 1, i < m := fun i hi => by simpa using (List.mem_range'_1.1 hi).2
  generalize List.range' 0 m 1 = l at hl ⊢
  induction l with
  | nil => simp
  | cons i l ih =>
    have hi : i < m := hl i (by simp)
    have hi' : i < F.length := by omega
    obtain ⟨z, hz⟩ := hp F[i] (List.getElem_mem hi')
    have px : (Go.part e F.toArray (i * 1)).run P w = .ok (.int q z) w := by
      simp [Go.part, isAgg, run_underlying he, List.getElem?_eq_getElem hi', hz]
    have pe : (Op.equalIn (d + 2) e (.int q z) (.int q z)).run P w = .ok true w := by
      rw [run_equalIn_int w (d + 1) e q q z z he]; simp
    simp only [List.forIn_cons, Sem.run_bind, px, pe, Result.andThen_ok]
    simp only [Bool.not_true, Bool.false_eq_true, if_false, Sem.run_pure, Result.andThen_ok, Bool.true_and]
    exact ih fun j hj => hl j (by simp [hj])
theorem fields5 (w : World) (cs : Array Value) (t : TypeId) (fr : Nat × Nat) (b : Nat) (h : w.heap[b]? = some (.cells cs t fr)) (k : Nat) : w.cell? ⟨b, k, none⟩ = cs[k]? := by rw [cell_of_row _ _ k _ _ _ h]

/-- Rows of one's own in memory, block, type, cells each. -/
structure RS (w : World) (rows : List (Nat × TypeId × List Value)) (X : World) : Prop where
  bel : Below w.heap.size w X
  low : ∀ r ∈ rows, w.heap.size ≤ r.1
  nd : (rows.map (·.1)).Nodup
  row : ∀ r ∈ rows, X.heap[r.1]? = some (.cells r.2.2.toArray r.2.1 (0, 0))
section
variable {w X Y : World} {rows : List (Nat × TypeId × List Value)} {b : Nat} {t : TypeId} {L M : List Value}
theorem RS.start (w : World) : RS w [] w := ⟨Below.refl _ _, fun r h => (List.not_mem_nil h).elim, List.nodup_nil, fun r h => (List.not_mem_nil h).elim⟩
theorem RS.at (h : RS w rows X) (i : Nat) (hi : rows[i]? = some (b, t, L)) : X.heap[b]? = some (.cells L.toArray t (0, 0)) := h.row _ (List.mem_of_getElem? hi)
theorem RS.step (h : RS w rows X) (hb : Below X.heap.size X Y) : RS w rows Y :=
  ⟨h.bel.trans (hb.mono h.bel.size), h.low, h.nd, fun r hr => (hb.block _ (row_lt (h.row r hr))).trans (h.row r hr)⟩
theorem RS.alloc (h : RS w rows X) (n : Nat) (hn : n = X.heap.size) (t : TypeId) (L : List Value) : RS w ((n, t, L) :: rows) (X.alloc (.cells L.toArray t (0, 0))) := by
  subst hn
  have hs := h.step ((Below.refl _ _).alloc (Nat.le_refl _) (.cells L.toArray t (0, 0)))
  refine ⟨hs.bel, fun r hr => ?_, ?_, fun r hr => ?_⟩
  · rcases List.mem_cons.1 hr with rfl | hr
    · exact h.bel.size
    · exact h.low r hr
  · rw [List.map_cons, List.nodup_cons]
    refine ⟨fun hm => ?_, h.nd⟩
    obtain ⟨r, hr, e⟩ := List.mem_map.1 hm
    have := row_lt (h.row r hr)
    rw [e] at this
    exact Nat.lt_irrefl _ this
  · rcases List.mem_cons.1 hr with rfl | hr
    · exact heap_alloc_new _ _
    · exact hs.row r hr
theorem RS.cell (h : RS w rows X) (i : Nat) (hi : rows[i]? = some (b, t, L)) (k : Nat) {v : Value} (hv : L[k]? = some v) : X.cell? ⟨b, k, none⟩ = some v := by
  rw [cell_of_row _ _ k _ _ _ (h.at i hi), List.getElem?_toArray]; exact hv
theorem RS.lowAt (h : RS w rows X) (i : Nat) (hi : rows[i]? = some (b, t, L)) : w.heap.size ≤ b := h.low _ (List.mem_of_getElem? hi)
/-- A row becomes another one; all else stays. -/
theorem RS.other (h : RS w rows X) (i : Nat) (hi : rows[i]? = some (b, t, L)) (hY : Y.heap[b]? = some (.cells M.toArray t (0, 0))) (hbY : Below w.heap.size w Y) (hk : ∀ j, j ≠ b → Y.heap[j]? = X.heap[j]?) : RS w (rows.set i (b, t, M)) Y := by
  have hil : i < rows.length := (List.getElem?_eq_some_iff.1 hi).1
  refine ⟨hbY, fun r hr => ?_, ?_, fun r hr => ?_⟩
  · rcases List.mem_or_eq_of_mem_set hr with hr | rfl
    · exact h.low r hr
    · exact h.lowAt i hi
  · have : (rows.set i (b, t, M)).map (·.1) = rows.map (·.1) := by
      rw [List.map_set]
      apply List.ext_getElem?
      intro j
      rw [List.getElem?_set]
      by_cases hj : i = j
      · subst hj
        rw [if_pos rfl, if_pos (by simpa using hil), List.getElem?_map, hi]; rfl
      · rw [if_neg hj]
    rw [this]; exact h.nd
  · obtain ⟨j, hj⟩ := List.getElem?_of_mem hr
    rw [List.getElem?_set] at hj
    by_cases e : i = j
    · rw [if_pos e, if_pos hil] at hj
      obtain rfl := Option.some.inj hj
      exact hY
    · rw [if_neg e] at hj
      rw [hk r.1 (fun hb => ?_)]
      · exact h.row r (List.mem_of_getElem? hj)
      · have h1 : (rows.map (·.1))[i]? = some b := by rw [List.getElem?_map, hi]; rfl
        have h2 : (rows.map (·.1))[j]? = some b := by rw [List.getElem?_map, hj, ← hb]; rfl
        have hl1 := (List.getElem?_eq_some_iff.1 h1).1
        exact e ((List.getElem?_inj hl1 h.nd).1 (h1.trans h2.symm))
theorem RS.put (h : RS w rows X) (i : Nat) (hi : rows[i]? = some (b, t, L)) (M : List Value) : RS w (rows.set i (b, t, M)) (X.setRow b M.toArray) :=
  h.other i hi (setRow_heap _ _ _ _ _ _ (h.at i hi)) (below_setRow h.bel (h.lowAt i hi) _) (fun j hj => by simp [World.setRow, Array.getElem?_modify, Ne.symm hj])
theorem RS.poke (h : RS w rows X) (i : Nat) (hi : rows[i]? = some (b, t, L)) (k : Nat) (v : Value) (hM : L.set k v = M) : RS w (rows.set i (b, t, M)) (X.setCell ⟨b, k, none⟩ v) := by
  refine h.other i hi ?_ (h.bel.setCell (p := ⟨b, k, none⟩) (h.lowAt i hi) _) (fun j hj => heap_setCell_other _ _ _ _ (by show j ≠ b; exact hj))
  have e := heap_setCell_same _ _ k _ _ v (h.at i hi)
  rw [List.setIfInBounds_toArray, hM] at e
  exact e
end

/-- A word. -/
def U (x : Int) : Value := .int .u64 x
def u64 (x : Int) : Prop := 0 ≤ x ∧ x < 18446744073709551616
/-- A vCPU. -/
structure Rc where
  rd : Int
  ins : Int
  rs : List Int
  pc : Int
  rn : Bool
  wt : Int
def rL (r : Rc) : List Value := .int .i64 r.rd :: .int .u64 r.ins :: (r.rs.map U ++ [.int .u64 r.pc, .bool r.rn, .int .i64 r.wt])
/-- A state, parameters. -/
def cL (rs : List Int) (pc : Int) : List Value := rs.map U ++ [.int .u64 pc]
def pL (pc : Int) (rs : List Int) (rn : Bool) : List Value := .int .u64 pc :: (rs.map U ++ [.bool rn])
/-- What is told. -/
structure Ot where
  re : Int
  ns : List Int
  ad : Int
  wr : Bool
  ran : Int
def oL (o : Ot) : List Value := .int .i64 o.re :: (o.ns.map U ++ [.int .u64 o.ad, .bool o.wr, .int .i64 o.ran])
def Z8 : List Int := [0, 0, 0, 0, 0, 0, 0, 0]
def Z4 : List Int := [0, 0, 0, 0]
def r0 : Rc := ⟨0, 0, Z8, 0, false, 0⟩
def o0 : Ot := ⟨0, Z4, 0, false, 0⟩
theorem eight {l : List Int} (h : l.length = 8) : ∃ a b c d e f g k, l = [a, b, c, d, e, f, g, k] := by
  match l, h with
  | [a, b, c, d, e, f, g, k], _ => exact ⟨a, b, c, d, e, f, g, k, rfl⟩
theorem four {l : List Int} (h : l.length = 4) : ∃ a b c d, l = [a, b, c, d] := by
  match l, h with
  | [a, b, c, d], _ => exact ⟨a, b, c, d, rfl⟩
theorem rL_len {r : Rc} (h : r.rs.length = 8) : (rL r).length = 13 := by simp [rL, h]
theorem cL_len {rs : List Int} {pc : Int} (h : rs.length = 8) : (cL rs pc).length = 9 := by simp [cL, h]
theorem pL_len {rs : List Int} {pc : Int} {rn : Bool} (h : rs.length = 8) : (pL pc rs rn).length = 10 := by simp [pL, h]
theorem oL_len {o : Ot} (h : o.ns.length = 4) : (oL o).length = 8 := by simp [oL, h]
theorem U_one (l : List Int) : ∀ u ∈ l.map U, u.oneCell' = true := by
  intro u hu; obtain ⟨x, _, rfl⟩ := List.mem_map.1 hu; rfl
theorem rL_one (r : Rc) : (rL r).toArray.all (·.oneCell') = true := by
  refine onea fun u hu => ?_
  unfold rL at hu
  simp only [List.mem_cons, List.mem_append, List.not_mem_nil, or_false] at hu
  rcases hu with rfl | rfl | hu | rfl | rfl | rfl
  · rfl
  · rfl
  · exact U_one _ _ hu
  · rfl
  · rfl
  · rfl
theorem oL_one (o : Ot) : (oL o).toArray.all (·.oneCell') = true := by
  refine onea fun u hu => ?_
  unfold oL at hu
  simp only [List.mem_cons, List.mem_append, List.not_mem_nil, or_false] at hu
  rcases hu with rfl | hu | rfl | rfl | rfl
  · rfl
  · exact U_one _ _ hu
  · rfl
  · rfl
  · rfl
theorem rL_rn {r : Rc} (h : r.rs.length = 8) : (rL r)[11]? = some (.bool r.rn) := by
  obtain ⟨a, b, c, d, e, f, g, k, hk⟩ := eight h
  unfold rL; rw [hk]; rfl
theorem rL_wt {r : Rc} (h : r.rs.length = 8) : (rL r)[12]? = some (.int .i64 r.wt) := by
  obtain ⟨a, b, c, d, e, f, g, k, hk⟩ := eight h
  unfold rL; rw [hk]; rfl
theorem rL_rs {r : Rc} (h : r.rs.length = 8) : ((rL r).drop 2).take 8 = r.rs.map U := by
  obtain ⟨a, b, c, d, e, f, g, k, hk⟩ := eight h
  unfold rL; rw [hk]; rfl
theorem rL_cp {r : Rc} (h : r.rs.length = 8) : ((rL r).drop 2).take 9 = cL r.rs r.pc := by
  obtain ⟨a, b, c, d, e, f, g, k, hk⟩ := eight h
  unfold rL cL; rw [hk]; rfl
theorem pL_rs {rs : List Int} {pc : Int} {rn : Bool} (h : rs.length = 8) : ((pL pc rs rn).drop 1).take 8 = rs.map U := by
  obtain ⟨a, b, c, d, e, f, g, k, hk⟩ := eight h
  unfold pL; rw [hk]; rfl
theorem pL_rn {rs : List Int} {pc : Int} {rn : Bool} (h : rs.length = 8) : (pL pc rs rn)[9]? = some (.bool rn) := by
  obtain ⟨a, b, c, d, e, f, g, k, hk⟩ := eight h
  unfold pL; rw [hk]; rfl
theorem info13 (L : List Value) (h : L.length = 13) : (Try.prog.info? 28).map (·.size) = some L.length := by rw [h]; kernel_rfl
theorem info13a (L : List Value) (h : L.length = 13) : (Try.prog.info? 28).map (·.size) = some L.toArray.size := by rw [List.size_toArray, h]; kernel_rfl
theorem info9 (L : List Value) (h : L.length = 9) : (Try.prog.info? 25).map (·.size) = some L.length := by rw [h]; kernel_rfl
theorem info8r (L : List Value) (h : L.length = 8) : (Try.prog.info? 23).map (·.size) = some L.length := by rw [h]; kernel_rfl
theorem info4r (L : List Value) (h : L.length = 4) : (Try.prog.info? 29).map (·.size) = some L.length := by rw [h]; kernel_rfl
theorem info4i (L : List Value) (h : L.length = 4) : (Try.prog.info? 31).map (·.size) = some L.length := by rw [h]; kernel_rfl
theorem info10 (L : List Value) (h : L.length = 10) : (Try.prog.info? 61).map (·.size) = some L.length := by rw [h]; kernel_rfl
theorem zero13 (W : World) : (zeroValue 28).run Try.prog W = .ok (.agg (rL r0).toArray) W := by kernel_rfl
theorem bld13 (W : World) : (Instr.build 28 #[]).run Try.prog W = .ok (.agg (rL r0).toArray) W := by kernel_rfl
theorem bldC (rs : List Int) (pc : Int) (h : rs.length = 8) (W : World) : (Instr.build 25 #[(0, .agg (rs.map U).toArray), (1, .int .u64 pc)]).run Try.prog W = .ok (.agg (cL rs pc).toArray) W := by
  obtain ⟨a, b, c, d, e, f, g, k, rfl⟩ := eight h
  kernel_rfl
theorem bldR (rd ins : Int) (rs : List Int) (pc : Int) (rn : Bool) (h : rs.length = 8) (W : World) : (Instr.build 28 #[(0, .int .i64 rd), (1, .int .u64 ins), (2, .agg (cL rs pc).toArray), (3, .bool rn)]).run Try.prog W = .ok (.agg (rL ⟨rd, ins, rs, pc, rn, 0⟩).toArray) W := by
  obtain ⟨a, b, c, d, e, f, g, k, rfl⟩ := eight h
  kernel_rfl
theorem size_u64 (w : World) : (sizeOf 22).run Try.prog w = .ok 1 w := by kernel_rfl
theorem size_u8 (w : World) : (sizeOf 5).run Try.prog w = .ok 1 w := by kernel_rfl
theorem eq_regs (w : World) (d : Nat) (rs : List Int) (h : rs.length = 8) : (Op.equalIn (d + 3) 23 (.agg (rs.map U).toArray) (.agg (rs.map U).toArray)).run Try.prog w = .ok true w :=
  eq_ints_self (P := Try.prog) w d 23 22 8 .u64 Try.underlying23 Try.underlying22 size_u64 (rs.map U) (by simpa using h) (fun v hv => by obtain ⟨x, _, rfl⟩ := List.mem_map.1 hv; exact ⟨_, rfl⟩)
theorem eq_rec (w : World) (r : Rc) (h : r.rs.length = 8) : (Op.equalIn 10000 28 (.agg (rL r).toArray) (.agg (rL r).toArray)).run Try.prog w = .ok true w := by
  have h0 : (rL r)[0]? = some (.int .i64 r.rd) := rfl
  have h1 : (rL r)[1]? = some (.int .u64 r.ins) := rfl
  have h11 := rL_rn h
  have h12 := rL_wt h
  have htk := rL_cp h
  have h8 : (cL r.rs r.pc)[8]? = some (.int .u64 r.pc) := by unfold cL; rw [List.getElem?_append_right (by simp [h])]; simp [h]
  have htk8 : List.take 8 (cL r.rs r.pc) = r.rs.map U := by unfold cL; rw [List.take_left' (by simp [h])]
  have he := eq_regs w 9995 r.rs h
  rw [run_equalIn_struct w 9999 _ _ _ (by kernel_rfl) (by kernel_rfl)]
  generalize rL r = PL at *
  generalize cL r.rs r.pc = CL at *
  generalize r.rs.map U = RL at *
  go_simp

/-- May it be entered? -/
def mayR (r : Rc) : Bool := r.rn && decide (r.wt ≠ 3)
theorem may_any (r : Rc) (h : r.rs.length = 8) (w : World) : Calls Try.prog 9 #[.agg (rL r).toArray] w fun e w' => e = .returned (.int .i64 (if mayR r = true then 0 else 7)) ∧ Below w.heap.size w w' := by
  have R0 := (RS.start w).alloc _ rfl 28 (rL r)
  have hc1 := R0.cell 0 rfl 11 (rL_rn h)
  have hc2 := R0.cell 0 rfl 12 (rL_wt h)
  have HB : Hid _ := R0.bel
  obtain ⟨V, hV⟩ : ∃ V : Int, V = if mayR r = true then 0 else 7 := ⟨_, rfl⟩
  rw [← hV]
  have HV : Hid _ := hV
  clear hV R0
  generalize rL r = RL at *
  cases hrn : r.rn
  · rw [hrn] at hc1
    have e : V = 7 := by rw [HV.out]; unfold mayR; rw [hrn]; rfl
    subst e
    go_enter Try.func9, Try.ntmps9
    go_wp2
    go_ret
    exact ⟨rfl, HB.out⟩
  · rw [hrn] at hc1
    by_cases h3 : r.wt = 3
    · have e : V = 7 := by rw [HV.out]; unfold mayR; rw [hrn, h3]; rfl
      subst e
      rw [h3] at hc2
      go_enter Try.func9, Try.ntmps9
      go_wp2
      go_ret
      exact ⟨rfl, HB.out⟩
    · have e : V = 0 := by rw [HV.out]; unfold mayR; rw [hrn]; simp [h3]
      subst e
      have h3b : (r.wt == 3) = false := by simpa using h3
      generalize r.wt = WT at *
      go_enter Try.func9, Try.ntmps9
      go_wp2
      go_ret
      exact ⟨rfl, HB.out⟩
set_option maxHeartbeats 1000000 in
theorem new_any (rd ins pc : Int) (rs : List Int) (rn : Bool) (h : rs.length = 8) (w : World) : Calls Try.prog 20 #[.int .i64 rd, .int .u64 ins, .agg (pL pc rs rn).toArray] w fun e w' => e = .returned (.agg (rL ⟨rd, ins, rs, pc, rn, 0⟩).toArray) ∧ Below w.heap.size w w' := by
  have hz := zero13
  obtain ⟨ZL, hZL⟩ : ∃ L, L = rL r0 := ⟨_, rfl⟩
  have HZN : Hid (ZL.length = 13) := by rw [hZL]; rfl
  rw [← hZL] at hz
  have R0 := (RS.start w).alloc _ rfl 61 (pL pc rs rn)
  have R1 := R0.alloc (w.heap.size + 1) (by simp) 28 ZL
  have hc0 := R1.cell 1 rfl 0 (show (pL pc rs rn)[0]? = some (.int .u64 pc) from rfl)
  have hc9 := R1.cell 1 rfl 9 (pL_rn h)
  have hr := rangeAt_part (rangeAt_row (R1.at 1 rfl)) 1 8
  rw [pL_rs h, Nat.zero_add] at hr
  have HR : Hid _ := hr
  have HR1 : Hid _ := R1
  have HBC : Hid _ := bldC rs pc h
  have HBR : Hid _ := bldR rd ins rs pc rn h
  have HLU : Hid ((rs.map U).length = 8) := by show _ = _; simpa using h
  have HLN : Hid _ := rL_len (r := ⟨rd, ins, rs, pc, rn, 0⟩) h
  have HL1 : Hid _ := rL_one ⟨rd, ins, rs, pc, rn, 0⟩
  generalize rL ⟨rd, ins, rs, pc, rn, 0⟩ = RL at *
  generalize cL rs pc = CL at *
  generalize pL pc rs rn = PL at *
  generalize rs.map U = UL at *
  clear hZL hr R0 R1 h
  go_enter Try.func20, Try.ntmps20
  go_wp2_with (first
    | (refine wpList_load_mid rfl 23 (.tmp 9) rfl w.heap.size 1 rfl UL _ HR.out Try.underlying23 rfl (info8r UL HLU.out) ?_)
    | (refine build_g (by rfl) 25 #[(0, .tmp 10), (1, .tmp 12)] rfl #[(0, .agg UL.toArray), (1, .int .u64 pc)] (.agg CL.toArray) (by simp [Act.eval]) (HBC.out _) ?_)
    | (refine build_g (by rfl) 28 #[(0, .tmp 7), (1, .tmp 8), (2, .tmp 13), (3, .tmp 15)] rfl #[(0, .int .i64 rd), (1, .int .u64 ins), (2, .agg CL.toArray), (3, .bool rn)] (.agg RL.toArray) (by simp [Act.eval]) (HBR.out _) ?_)
    | (refine wpList_store_row rfl 28 (.tmp 6) (.tmp 16) rfl (w.heap.size + 1) RL.toArray rfl rfl 28 ZL.toArray (HR1.out.at 0 rfl) (info13a RL HLN.out) (by simp [HZN.out, HLN.out]) HL1.out ?_))
  have R2 := HR1.out.put 0 rfl RL
  refine bodyPost_ret (v := .agg RL.toArray) (results1 Try.results20 _ _ (w.heap.size + 1) (R2.at 0 rfl) Try.underlying28 rfl (info13 RL HLN.out) rfl) rfl ⟨rfl, R2.bel⟩
end Go.Proofs.Ytpdafjamhccbnaa.VC
