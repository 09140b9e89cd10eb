/- report: rows in memory; reports as cells; what the text lays. -/
import Derived.Test.YtpklboicgjpmeaaDoorTa
import Derived.Test.YtpklboicgjpmeaaDoorJS
import Derived.LaidMore
import Derived.Lib.LaidTab
import Derived.Lib.ItoaLen
import Derived.Lib.ItoaMem
import Derived.Lib.CutLaws
import Derived.Laws.Alloc2
import Derived.Laws.ResultCell
import Derived.Deep.CutRange
import Derived.Laws.Tables
import Derived.Deep.MidRow
import Derived.Laws.CopyOwn
import Derived.Laws.CopyRow
import Derived.Laws.IdiomCopy
import Derived.Laws.StructEq
import Derived.BigQuiet
import Derived.Deep.QuietTactic
import Derived.WalkSmall
import Derived.Deep.RegionHeld3
import Derived.Stop.BytesEq
import Derived.Carry
set_option linter.unusedVariables false
set_option linter.unusedSimpArgs false
namespace Go.Proofs.YtpklboicgjpmeaaDoor.RB
open Go.RowKit

theorem row_lt {w : World} {d : Nat} {o : Obj} (h : w.heap[d]? = some o) : d < w.heap.size := (Array.getElem?_eq_some_iff.1 h).1
theorem B8_one (l : List UInt8) : ∀ u ∈ l.map B8, u.oneCell' = true := by
  intro u hu
  obtain ⟨x, _, rfl⟩ := List.mem_map.1 hu
  rfl
theorem onea {l : List Value} (h : ∀ u ∈ l, u.oneCell' = true) : l.toArray.all (·.oneCell') = true := by
  rw [Array.all_eq_true_iff_forall_mem]
  intro v hv
  exact h v (by simpa using hv)
theorem B8_onea (l : List UInt8) : (l.map B8).toArray.all (·.oneCell') = true := onea (B8_one l)
theorem heap_at (w : World) (o : Obj) (n : Nat) (h : n = w.heap.size) : (w.alloc o).heap[n]? = some o := by subst h; exact heap_alloc_new _ _
theorem rangeAt_below {w w' : World} {b o : Nat} {cs : List Value} (h : w.rangeAt b o cs) (hb : Below w.heap.size w w') : w'.rangeAt b o cs := fun j v hv => (hb.cell (block_lt (h j v hv))).trans (h j v hv)
theorem rangeAt_row {w : World} {b : Nat} {cs : List Value} {t : TypeId} {fr : Nat × Nat} (h : w.heap[b]? = some (.cells cs.toArray t fr)) : w.rangeAt b 0 cs := fun j v hv => by
  rw [Nat.zero_add, cell_of_row _ _ j _ _ _ h]; simpa using hv
theorem rangeAt_part {w : World} {b o : Nat} {cs : List Value} (h : w.rangeAt b o cs) (k n : Nat) : w.rangeAt b (o + k) ((cs.drop k).take n) := fun j v hv => by
  have hj : j < n := by have := (List.getElem?_eq_some_iff.1 hv).1; rw [List.length_take] at this; omega
  rw [List.getElem?_take_of_lt hj, List.getElem?_drop] at hv
  rw [show o + k + j = o + (k + j) by omega]
  exact h _ _ hv
theorem add_none (b o j : Nat) : (⟨b, o, none⟩ : Addr).add j = ⟨b, o + j, none⟩ := by unfold Addr.add; split <;> simp_all
theorem hb_range {w : World} {b o cap : Nat} {l : List UInt8} (k : Nat) (hk : k = l.length) (h1 : l.length ≤ cap) (h2 : cap ≤ maxLen) (h : w.rangeAt b o (l.map B8)) : HB w (.slice (some ⟨b, o, none⟩) k cap) l := by
  subst hk
  refine .inr ⟨b, o, cap, rfl, h1, h2, fun i hi => ?_⟩
  have := h i (B8 l[i]) (by rw [List.getElem?_map, List.getElem?_eq_getElem hi]; rfl)
  rw [this]
  simp [B8, List.getD, List.getElem?_eq_getElem hi]
theorem splice_map {α β : Type} (f : α → β) (L : List α) (o : Nat) (cs : List α) : splice (L.map f) o (cs.map f) = (splice L o cs).map f := by simp [splice, List.map_take, List.map_drop]
theorem splice_len {α : Type} (L : List α) (o : Nat) (cs : List α) (h : o + cs.length ≤ L.length) : (splice L o cs).length = L.length := by simp [splice]; omega
theorem load_mid_g {ops : Array Oper} {rest : List Oper} {o : Oper} {a : Act} {w : World} {Q : Exit → Act → World → Prop} (hw : Region.wanted o (yielded ops a.tmps) = true) (ty : TypeId) (x : Operand) (ho : o.op = .load ty x)
    (b off : Nat) (hx : a.eval x = .pointer (some ⟨b, off, none⟩)) (cs : List Value) (d : TypeDesc) (hc : w.rangeAt b off cs) (hu : Tryd.prog.underlying ty = some d) (hd : d.isRow = true) (hi : (Tryd.prog.info? ty).map (·.size) = some cs.length)
    (h : wpList Tryd.prog ops Q rest (a.put o.dst (.agg cs.toArray)) w) : wpList Tryd.prog ops Q (o :: rest) a w :=
  wpList_step fun K hK => by rw [if_pos hw]; exact wp_load_mid ty x ho b off hx cs d hc hu hd hi (hK _ _ h)
theorem exec_build (ev : Operand → Value) (o : Oper) (t : TypeId) (parts : Array (Nat × Operand)) (vals : Array (Nat × Value)) (v : Value) (w : World) (ho : o.op = .build t parts) (hp : (parts.map fun (i, x) => (i, ev x)) = vals)
    (hr : (Instr.build t vals).run Tryd.prog w = .ok v w) : (execOp ev o).run Tryd.prog w = .ok (.value v) w := by
  unfold execOp
  simp only [ho, Sem.run_bind, hp, hr, Result.andThen_ok]
  rfl
theorem wpList_build {ops : Array Oper} {rest : List Oper} {o : Oper} {a : Act} {Q : Exit → Act → World → Prop} {w : World} (hgd : o.guard = none) (t : TypeId) (parts : Array (Nat × Operand)) (ho : o.op = .build t parts) (vals : Array (Nat × Value)) (v : Value) (hp : (parts.map fun (i, x) => (i, a.eval x)) = vals)
    (hr : (Instr.build t vals).run Tryd.prog w = .ok v w) (h : wpList Tryd.prog ops Q rest (a.put o.dst v) w) : wpList Tryd.prog ops Q (o :: rest) a w := by
  refine wpList_plain hgd fun K' hK' => ?_
  unfold Oper.wp
  rw [exec_build a.eval o t parts vals v w ho hp hr]
  exact hK' _ _ h
theorem results2 {fn : Func} {p u : Tmp} {ty : TypeId} {d : TypeDesc} (h : fn.results = #[.cell p ty, .tmp u]) (tmps : Array Value) (w : World) (g : Nat) (t : TypeId) (cs : List Value) (fr : Nat × Nat) (x : Value)
    (hp : tmps.getD p undef = .pointer (some ⟨g, 0, none⟩)) (hx : tmps.getD u undef = x) (hg : w.heap[g]? = some (.cells cs.toArray t fr)) (hu : Tryd.prog.underlying ty = some d) (hd : d.isRow = true) (hi : (Tryd.prog.info? ty).map (·.size) = some cs.length) :
    (results fn tmps).run Tryd.prog w = .ok (.tuple #[.agg cs.toArray, x]) w := by
  rw [results_cell_tmp h, hp, hx]
  simp [asAddr, run_loadVar_mid w g 0 ty cs d (rangeAt_row hg) hu hd hi]
theorem ret_bool {a b : Bool} (h : a = b) : Ending.returned (.bool a) = .returned (.bool b) := by rw [h]
theorem build_g {ops : Array Oper} {rest : List Oper} {o : Oper} {a : Act} {Q : Exit → Act → World → Prop} {w : World} (hw : Region.wanted o (yielded ops a.tmps) = true) (t : TypeId) (parts : Array (Nat × Operand)) (ho : o.op = .build t parts) (vals : Array (Nat × Value)) (v : Value) (hp : (parts.map fun (i, x) => (i, a.eval x)) = vals)
    (hr : (Instr.build t vals).run Tryd.prog w = .ok v w) (h : wpList Tryd.prog ops Q rest (a.put o.dst v) w) : wpList Tryd.prog ops Q (o :: rest) a w :=
  wpList_step fun K hK => by
    rw [if_pos hw]
    unfold Oper.wp
    rw [exec_build a.eval o t parts vals v w ho hp hr]
    exact hK _ _ h
theorem wpList_store_rowL {ops : Array Oper} {rest : List Oper} {o : Oper} {a : Act} {w : World} {Q : Exit → Act → World → Prop} (hgd : o.guard = none) (ty : TypeId) (x y : Operand) (ho : o.op = .store ty x y)
    (g : Nat) (cells : Array Value) (hx : a.eval x = .pointer (some ⟨g, 0, none⟩)) (hy : a.eval y = .agg cells)
    (t : TypeId) (old : Array Value) (hg : w.heap[g]? = some (.cells old t (0, 0))) (hi : (Tryd.prog.info? ty).map (·.size) = some cells.size)
    (hold : old.size = cells.size) (h1 : cells.all (·.oneCell') = true)
    (h : ∀ W', W' = w.setRow g cells → wpList Tryd.prog ops Q rest (a.put o.dst undef) W') : wpList Tryd.prog ops Q (o :: rest) a w :=
  wpList_store_row hgd ty x y ho g cells hx hy t old hg hi hold h1 (h _ rfl)
theorem results1 {fn : Func} {p : Tmp} {ty : TypeId} {d : TypeDesc} (h : fn.results = #[.cell p ty]) (tmps : Array Value) (X : World) (b : Nat) {RL : List Value} {t : TypeId} (h1 : X.heap[b]? = some (.cells RL.toArray t (0, 0))) (hu : Tryd.prog.underlying ty = some d) (hd : d.isRow = true) (hi : (Tryd.prog.info? ty).map (·.size) = some RL.length)
    (hp : tmps.getD p undef = .pointer (some ⟨b, 0, none⟩)) : (results fn tmps).run Tryd.prog X = .ok (.agg RL.toArray) X := by
  have e1 : (asAddr (tmps.getD p undef)).run Tryd.prog X = .ok ⟨b, 0, none⟩ X := by rw [hp]; rfl
  have e3 := run_loadVar_mid X b 0 ty RL d (rangeAt_row h1) hu hd hi
  simp only [results, h]
  simp [Sem.run_bind, Result.andThen, e1, e3]
  rw [← Array.getD_eq_getD_getElem?, hp]
  simp [asAddr, e3, Result.andThen]
theorem eq_ints_self {P : Program} (w : World) (d : Nat) (t e : TypeId) (m : Nat) (q : IntKind) (ht : P.underlying t = some (.array m e)) (he : P.underlying e = some (.int q)) (hsz : ∀ w, (sizeOf e).run P w = .ok 1 w) (F : List Value) (hF : F.length = m)
    (hp : ∀ v ∈ F, ∃ z, v = .int q z) : (Op.equalIn (d + 3) t (.agg F.toArray) (.agg F.toArray)).run P w = .ok true w := by
  rw [Op.equalIn]
  simp only [Sem.run_bind, run_underlying ht, Result.andThen_ok, hsz, Std.Legacy.Range.forIn_eq_forIn_range', Std.Legacy.Range.size, Nat.sub_zero, Nat.add_sub_cancel, Nat.div_one]
  have hl : ∀ i ∈ List.range' 0 m 1, i < m := fun i hi => by simpa using (List.mem_range'_1.1 hi).2
  generalize List.range' 0 m 1 = l at hl ⊢
  induction l with
  | nil => simp
  | cons i l ih =>
    have hi : i < m := hl i (by simp)
    have hi' : i < F.length := by omega
    obtain ⟨z, hz⟩ := hp F[i] (List.getElem_mem hi')
    have px : (Go.part e F.toArray (i * 1)).run P w = .ok (.int q z) w := by
      simp [Go.part, isAgg, run_underlying he, List.getElem?_eq_getElem hi', hz]
    have pe : (Op.equalIn (d + 2) e (.int q z) (.int q z)).run P w = .ok true w := by
      rw [run_equalIn_int w (d + 1) e q q z z he]; simp
    simp only [List.forIn_cons, Sem.run_bind, px, pe, Result.andThen_ok]
    simp only [Bool.not_true, Bool.false_eq_true, if_false, Sem.run_pure, Result.andThen_ok, Bool.true_and]
    exact ih fun j hj => hl j (by simp [hj])
theorem fields5 (w : World) (cs : Array Value) (t : TypeId) (fr : Nat × Nat) (b : Nat) (h : w.heap[b]? = some (.cells cs t fr)) (k : Nat) : w.cell? ⟨b, k, none⟩ = cs[k]? := by rw [cell_of_row _ _ k _ _ _ h]

/-- Rows of one's own in memory, block, type, cells each. -/
structure RS (w : World) (rows : List (Nat × TypeId × List Value)) (X : World) : Prop where
  bel : Below w.heap.size w X
  low : ∀ r ∈ rows, w.heap.size ≤ r.1
  nd : (rows.map (·.1)).Nodup
  row : ∀ r ∈ rows, X.heap[r.1]? = some (.cells r.2.2.toArray r.2.1 (0, 0))
section
variable {w X Y : World} {rows : List (Nat × TypeId × List Value)} {b : Nat} {t : TypeId} {L M : List Value}
theorem RS.start (w : World) : RS w [] w := ⟨Below.refl _ _, fun r h => (List.not_mem_nil h).elim, List.nodup_nil, fun r h => (List.not_mem_nil h).elim⟩
theorem RS.at (h : RS w rows X) (i : Nat) (hi : rows[i]? = some (b, t, L)) : X.heap[b]? = some (.cells L.toArray t (0, 0)) := h.row _ (List.mem_of_getElem? hi)
theorem RS.step (h : RS w rows X) (hb : Below X.heap.size X Y) : RS w rows Y :=
  ⟨h.bel.trans (hb.mono h.bel.size), h.low, h.nd, fun r hr => (hb.block _ (row_lt (h.row r hr))).trans (h.row r hr)⟩
theorem RS.alloc (h : RS w rows X) (n : Nat) (hn : n = X.heap.size) (t : TypeId) (L : List Value) : RS w ((n, t, L) :: rows) (X.alloc (.cells L.toArray t (0, 0))) := by
  subst hn
  have hs := h.step ((Below.refl _ _).alloc (Nat.le_refl _) (.cells L.toArray t (0, 0)))
  refine ⟨hs.bel, fun r hr => ?_, ?_, fun r hr => ?_⟩
  · rcases List.mem_cons.1 hr with rfl | hr
    · exact h.bel.size
    · exact h.low r hr
  · rw [List.map_cons, List.nodup_cons]
    refine ⟨fun hm => ?_, h.nd⟩
    obtain ⟨r, hr, e⟩ := List.mem_map.1 hm
    have := row_lt (h.row r hr)
    rw [e] at this
    exact Nat.lt_irrefl _ this
  · rcases List.mem_cons.1 hr with rfl | hr
    · exact heap_alloc_new _ _
    · exact hs.row r hr
theorem RS.cell (h : RS w rows X) (i : Nat) (hi : rows[i]? = some (b, t, L)) (k : Nat) {v : Value} (hv : L[k]? = some v) : X.cell? ⟨b, k, none⟩ = some v := by
  rw [cell_of_row _ _ k _ _ _ (h.at i hi), List.getElem?_toArray]; exact hv
theorem RS.lowAt (h : RS w rows X) (i : Nat) (hi : rows[i]? = some (b, t, L)) : w.heap.size ≤ b := h.low _ (List.mem_of_getElem? hi)
/-- A row becomes another one; all else stays. -/
theorem RS.other (h : RS w rows X) (i : Nat) (hi : rows[i]? = some (b, t, L)) (hY : Y.heap[b]? = some (.cells M.toArray t (0, 0))) (hbY : Below w.heap.size w Y) (hk : ∀ j, j ≠ b → Y.heap[j]? = X.heap[j]?) : RS w (rows.set i (b, t, M)) Y := by
  have hil : i < rows.length := (List.getElem?_eq_some_iff.1 hi).1
  refine ⟨hbY, fun r hr => ?_, ?_, fun r hr => ?_⟩
  · rcases List.mem_or_eq_of_mem_set hr with hr | rfl
    · exact h.low r hr
    · exact h.lowAt i hi
  · have : (rows.set i (b, t, M)).map (·.1) = rows.map (·.1) := by
      rw [List.map_set]
      apply List.ext_getElem?
      intro j
      rw [List.getElem?_set]
      by_cases hj : i = j
      · subst hj
        rw [if_pos rfl, if_pos (by simpa using hil), List.getElem?_map, hi]; rfl
      · rw [if_neg hj]
    rw [this]; exact h.nd
  · obtain ⟨j, hj⟩ := List.getElem?_of_mem hr
    rw [List.getElem?_set] at hj
    by_cases e : i = j
    · rw [if_pos e, if_pos hil] at hj
      obtain rfl := Option.some.inj hj
      exact hY
    · rw [if_neg e] at hj
      rw [hk r.1 (fun hb => ?_)]
      · exact h.row r (List.mem_of_getElem? hj)
      · have h1 : (rows.map (·.1))[i]? = some b := by rw [List.getElem?_map, hi]; rfl
        have h2 : (rows.map (·.1))[j]? = some b := by rw [List.getElem?_map, hj, ← hb]; rfl
        have hl1 := (List.getElem?_eq_some_iff.1 h1).1
        exact e ((List.getElem?_inj hl1 h.nd).1 (h1.trans h2.symm))
theorem RS.put (h : RS w rows X) (i : Nat) (hi : rows[i]? = some (b, t, L)) (M : List Value) : RS w (rows.set i (b, t, M)) (X.setRow b M.toArray) :=
  h.other i hi (setRow_heap _ _ _ _ _ _ (h.at i hi)) (below_setRow h.bel (h.lowAt i hi) _) (fun j hj => by simp [World.setRow, Array.getElem?_modify, Ne.symm hj])
theorem RS.poke (h : RS w rows X) (i : Nat) (hi : rows[i]? = some (b, t, L)) (k : Nat) (v : Value) (hM : L.set k v = M) : RS w (rows.set i (b, t, M)) (X.setCell ⟨b, k, none⟩ v) := by
  refine h.other i hi ?_ (h.bel.setCell (p := ⟨b, k, none⟩) (h.lowAt i hi) _) (fun j hj => heap_setCell_other _ _ _ _ (by show j ≠ b; exact hj))
  have e := heap_setCell_same _ _ k _ _ v (h.at i hi)
  rw [List.setIfInBounds_toArray, hM] at e
  exact e
end
theorem var_below {P : Program} {w w' : World} {name : String} {cs : Array Value} (h : w.var? P name = some cs) (hb : Below w.heap.size w w') : w'.var? P name = some cs := by
  unfold World.var? at h ⊢
  cases hg : P.globalNamed name with
  | none => rw [hg] at h; cases h
  | some g =>
    rw [hg] at h
    simp only [Option.bind_some] at h ⊢
    cases hx : w.heap[g]? with
    | none => rw [hx] at h; cases h
    | some o => rw [hb.block g (row_lt hx), hx]; rw [hx] at h; exact h
/-- The library's tables as the text lays them. -/
structure GV (w : World) : Prop where
  tab : Lib.TabIs Tryd.prog w Rows.tabN .u64 Lib.pow10Tab
  es : ∃ tp p, w.var? Tryd.prog "strconv.ErrSyntax" = some #[.iface tp p]
  er : ∃ tp p, w.var? Tryd.prog "strconv.ErrRange" = some #[.iface tp p]
theorem GV.below {w w' : World} (h : GV w) (hb : Below w.heap.size w w') : GV w' := by
  obtain ⟨t1, p1, h1⟩ := h.es
  obtain ⟨t2, p2, h2⟩ := h.er
  exact ⟨var_below h.tab hb, ⟨t1, p1, var_below h1 hb⟩, ⟨t2, p2, var_below h2 hb⟩⟩
theorem below_grow (w : World) (k : Nat) (os : Array Obj) : Below w.heap.size w (Sort.grow (w.drewN k) os) :=
  ⟨rfl, rfl, rfl, by show w.heap.size ≤ (w.heap ++ os).size; simp, fun j hj => by show (w.heap ++ os)[j]? = w.heap[j]?; rw [Array.getElem?_append_left hj]⟩
theorem bytes_app (a b : List UInt8) : (⟨a.toArray⟩ ++ ⟨b.toArray⟩ : ByteArray) = ⟨(a ++ b).toArray⟩ := by
  apply ByteArray.ext
  apply Array.ext'
  simp
/-- A string of these bytes. -/
def sV (l : List UInt8) : Value := .string ⟨l.toArray⟩
def pB (n : Nat) : Value := .pointer (some ⟨n, 0, none⟩)
/-- A report's cells. -/
def rL (r : Rp) : List Value := .int .u64 (r.inst : Int) :: (r.ms.map B8 ++ r.ch.map B8)
def rV (r : Rp) : Value := .agg (rL r).toArray
theorem rL_len {r : Rp} (h : r.ok) : (rL r).length = 65 := by simp [rL, h.m, h.c]
theorem rL_one (r : Rp) : (rL r).toArray.all (·.oneCell') = true := by
  refine onea fun u hu => ?_
  unfold rL at hu
  simp only [List.mem_cons, List.mem_append] at hu
  rcases hu with rfl | hu | hu
  · rfl
  · exact B8_one _ _ hu
  · exact B8_one _ _ hu
theorem rL_ms {r : Rp} (h : r.ok) : ((rL r).drop 1).take 32 = r.ms.map B8 := by
  show (r.ms.map B8 ++ r.ch.map B8).take 32 = _
  rw [List.take_append_of_le_length (by simp [h.m]), List.take_of_length_le (by simp [h.m])]
theorem rL_ch {r : Rp} (h : r.ok) : ((rL r).drop 33).take 32 = r.ch.map B8 := by
  show ((r.ms.map B8 ++ r.ch.map B8).drop 32).take 32 = _
  rw [List.drop_append_of_le_length (by simp [h.m]), List.drop_of_length_le (by simp [h.m]), List.nil_append, List.take_of_length_le (by simp [h.c])]
theorem inf26 : (Tryd.prog.info? 26).map (·.size) = some 65 := by kernel_rfl
theorem inf24 : (Tryd.prog.info? 24).map (·.size) = some 32 := by kernel_rfl
theorem infR {r : Rp} (h : r.ok) : (Tryd.prog.info? 26).map (·.size) = some (rL r).length := by rw [rL_len h]; exact inf26
theorem infRA {r : Rp} (h : r.ok) : (Tryd.prog.info? 26).map (·.size) = some (rL r).toArray.size := by rw [List.size_toArray]; exact infR h
theorem infD {l : List UInt8} (h : l.length = 32) : (Tryd.prog.info? 24).map (·.size) = some (l.map B8).length := by rw [List.length_map, h]; exact inf24
theorem infDA {l : List UInt8} (h : l.length = 32) : (Tryd.prog.info? 24).map (·.size) = some (l.map B8).toArray.size := by rw [List.size_toArray]; exact infD h
theorem digs_m {w : World} {b : Nat} {r : Rp} (h : r.ok) (hr : w.rangeAt b 0 (rL r)) : w.rangeAt b 1 (r.ms.map B8) := by
  have := rangeAt_part hr 1 32; rw [rL_ms h] at this; exact this
theorem digs_c {w : World} {b : Nat} {r : Rp} (h : r.ok) (hr : w.rangeAt b 0 (rL r)) : w.rangeAt b 33 (r.ch.map B8) := by
  have := rangeAt_part hr 33 32; rw [rL_ch h] at this; exact this
theorem num_any (n : Int) (w : World) : Calls Tryd.prog 18 #[.int .i64 n] w fun e w' => e = .returned (.int .i64 n) ∧ w = w' := by
  go_enter Tryd.func18, Tryd.ntmps18
  go_wp2
  go_ret
  exact ⟨rfl, rfl⟩
theorem size_any (w : World) : Calls Tryd.prog 21 #[] w fun e w' => e = .returned (.int .i64 80) ∧ w = w' := by
  go_enter Tryd.func21, Tryd.ntmps21
  go_wp2
  go_ret
  exact ⟨rfl, rfl⟩
theorem txt_list (l : List UInt8) : (txt l).toList = l := by
  rw [Lib.toList_data]; simp [txt]
theorem txt_beq (a b : List UInt8) : ((txt a).toList == (txt b).toList) = decide (a = b) := by
  rw [txt_list, txt_list, Bool.eq_iff_iff]; simp
/-- The document's Same. -/
theorem rsame_any (u v : Value) (a b : List UInt8) (w : World) (hu : HB w u a) (hv : HB w v b) :
    Calls Tryd.prog 8 #[u, v] w fun e w' => e = .returned (.bool (decide (a = b))) ∧ w = w' := by
  have h1 := conv_hb w u a hu
  have h2 := conv_hb w v b hv
  go_enter Tryd.func8, Tryd.ntmps8
  go_wp2
  go_ret
  exact ⟨ret_bool (txt_beq a b), rfl⟩
/-- The program's Same. -/
theorem equal_any (u v : Value) (a b : List UInt8) (w : World) (hu : HB w u a) (hv : HB w v b) :
    Calls Tryd.prog 47 #[u, v] w fun e w' => e = .returned (.bool (decide (a = b))) ∧ w = w' := by
  have h1 := conv_hb w u a hu
  have h2 := conv_hb w v b hv
  go_enter Tryd.func47, Tryd.ntmps47
  go_wp2
  go_ret
  exact ⟨ret_bool (txt_beq a b), rfl⟩
theorem psame_any (u v : Value) (a b : List UInt8) (w : World) (hu : HB w u a) (hv : HB w v b) :
    Calls Tryd.prog 32 #[u, v] w fun e w' => e = .returned (.bool (decide (a = b))) ∧ w = w' := by
  go_enter Tryd.func32, Tryd.ntmps32
  go_wp2_with (go_at_call 47; refine Calls.mono (equal_any _ _ _ _ _ hu hv) ?_; rintro e w1 ⟨rfl, rfl⟩)
  go_ret
  exact ⟨rfl, rfl⟩
end Go.Proofs.YtpklboicgjpmeaaDoor.RB
