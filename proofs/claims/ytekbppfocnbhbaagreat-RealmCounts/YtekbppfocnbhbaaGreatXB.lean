/- realm: the program's map of realms in memory. -/
import Derived.Test.YtekbppfocnbhbaaGreatXA
import Derived.Maps.RangeWalk
set_option linter.unusedVariables false
set_option linter.unusedSimpArgs false
namespace Go.Proofs.YtekbppfocnbhbaaGreat.XC
open Go.RowKit
open Go.ChangeMaps (setBlock heap_setBlock_same heap_setBlock_other)

def iOk (x : Int) : Prop := (Lit.int .i64 x).wf = true
theorem lawI : Maps.Keyed Tryz.prog 3 := Maps.int_keyed Tryz.underlying3
theorem key_i {x : Int} (h : iOk x) : keyOf Tryz.prog 3 (.int .i64 x) = some (.int .i64 x) := Maps.keyOf_int_mk Tryz.underlying3 h
abbrev En := Int × Rm × Value
def itm (x : En) : Value × Value := (.int .i64 x.1, .agg (rmL x.2.1 x.2.2).toArray)
structure MR (w : World) (mb : Nat) (l : List En) : Prop where
  ex : ∃ es clock, w.heap[mb]? = some (.map es clock) ∧ (es.toList.map fun e => (e.key, e.val)) = l.map itm ∧ MapKept.Stamped es clock
  iok : ∀ x ∈ l, iOk x.1
  once : (l.map (·.1)).Nodup
theorem MR.lt {w : World} {mb : Nat} {l : List En} (h : MR w mb l) : mb < w.heap.size := by
  obtain ⟨es, c, h1, _⟩ := h.ex; exact PC.row_lt h1
theorem MR.keep {w w' : World} {mb : Nat} {l : List En} (h : MR w mb l) (e : w'.heap[mb]? = w.heap[mb]?) : MR w' mb l := by
  obtain ⟨es, c, h1, h2⟩ := h.ex; exact ⟨⟨es, c, e.trans h1, h2⟩, h.iok, h.once⟩
theorem MR.mem {es : Array MapEntry} {l : List En} (h : (es.toList.map fun e => (e.key, e.val)) = l.map itm) {e : MapEntry} (he : e ∈ es.toList) : ∃ x ∈ l, e.key = .int .i64 x.1 ∧ e.val = (itm x).2 := by
  have h1 : (e.key, e.val) ∈ l.map itm := by rw [← h]; exact List.mem_map.2 ⟨e, he, rfl⟩
  obtain ⟨x, hx, hxe⟩ := List.mem_map.1 h1
  exact ⟨x, hx, by have := congrArg Prod.fst hxe; exact this.symm, by have := congrArg Prod.snd hxe; exact this.symm⟩
theorem MR.at {es : Array MapEntry} {l : List En} (h : (es.toList.map fun e => (e.key, e.val)) = l.map itm) {j : Nat} {e : MapEntry} (he : es.toList[j]? = some e) : ∃ x, l[j]? = some x ∧ e.key = .int .i64 x.1 ∧ e.val = (itm x).2 := by
  have h1 : (l.map itm)[j]? = some (e.key, e.val) := by rw [← h, List.getElem?_map, he]; rfl
  rw [List.getElem?_map] at h1
  cases hx : l[j]? with
  | none => rw [hx] at h1; cases h1
  | some x =>
    rw [hx] at h1
    have h2 : itm x = (e.key, e.val) := by simpa using h1
    exact ⟨x, rfl, by have := congrArg Prod.fst h2; exact this.symm, by have := congrArg Prod.snd h2; exact this.symm⟩
theorem split_j {α : Type} {l : List α} {j : Nat} {x : α} (h : l[j]? = some x) : ∃ a b, l = a ++ x :: b ∧ a.length = j := by
  have hj := (List.getElem?_eq_some_iff.1 h).1
  refine ⟨l.take j, l.drop (j + 1), ?_, by rw [List.length_take]; omega⟩
  have he := (List.getElem?_eq_some_iff.1 h).2
  rw [← he, List.getElem_cons_drop, List.take_append_drop]
theorem once_at {β : Type} {l : List (Int × β)} (hn : (l.map (·.1)).Nodup) {i j : Nat} {x y : Int × β} (hx : l[i]? = some x) (hy : l[j]? = some y) (e : x.1 = y.1) : i = j := by
  have hi := (List.getElem?_eq_some_iff.1 hx).1
  have hj := (List.getElem?_eq_some_iff.1 hy).1
  have h1 : (l.map (·.1))[i]? = some x.1 := by rw [List.getElem?_map, hx]; rfl
  have h2 : (l.map (·.1))[j]? = some x.1 := by rw [List.getElem?_map, hy, e]; rfl
  exact (List.getElem?_inj (by simpa using hi) hn).1 (h1.trans h2.symm)
theorem find_i {w : World} {es : Array MapEntry} {l : List En} (hk : ∀ x ∈ l, iOk x.1) (h2 : (es.toList.map fun e => (e.key, e.val)) = l.map itm) {rd : Int} (hrd : iOk rd) :
    ((∀ x ∈ l, x.1 ≠ rd) ∧ (Instr.findKey 3 (.int .i64 rd) es.toList).run Tryz.prog w = .ok none w) ∨
    (∃ j x e, l[j]? = some x ∧ x.1 = rd ∧ es.toList[j]? = some e ∧ e.key = .int .i64 rd ∧ (Instr.findKey 3 (.int .i64 rd) es.toList).run Tryz.prog w = .ok (some (j, (itm x).2)) w) := by
  rcases lawI.find w (key_i hrd) es.toList (fun e he => by obtain ⟨x, hx, e1, _⟩ := MR.mem h2 he; rw [e1]; exact ⟨_, key_i (hk x hx)⟩) with ⟨hr, hn⟩ | ⟨j, e, hr, hj, he⟩
  · refine .inl ⟨fun x hx e => ?_, hr⟩
    have h1 : itm x ∈ es.toList.map fun e => (e.key, e.val) := by rw [h2]; exact List.mem_map.2 ⟨x, hx, rfl⟩
    obtain ⟨y, hy, hye⟩ := List.mem_map.1 h1
    exact hn y hy (by have := congrArg Prod.fst hye; rw [← e]; exact this)
  · obtain ⟨x, hx, e1, e2⟩ := MR.at h2 hj
    exact .inr ⟨j, x, e, hx, by rw [e1] at he; simpa using he, hj, he, by rw [← e2]; exact hr⟩
theorem mr_none {w : World} {mb : Nat} {l : List En} (h : MR w mb l) {rd : Int} (hrd : iOk rd) (hno : ∀ x ∈ l, x.1 ≠ rd) :
    (Instr.lookup 78 (.map (some mb)) (.int .i64 rd) true).run Tryz.prog w = .ok (.tuple #[.agg (rmL zR (.slice none 0 0)).toArray, .bool false]) w := by
  obtain ⟨es, clock, h1, h2, h3⟩ := h.ex
  rcases find_i (w := w) h.iok h2 hrd with ⟨hf, hr⟩ | ⟨j, x, e, hx, hxe, _⟩
  · simp [Instr.lookup, run_underlying Tryz.underlying78, MapKept.run_getObj_map h1, lawI.check w _ (key_i hrd), hr, zero_rm, Result.andThen]
    kernel_rfl
  · exact absurd hxe (hno x (List.mem_of_getElem? hx))
theorem mr_some {w : World} {mb : Nat} {l a b : List En} {r : Rm} {lv : Value} {rd : Int} (h : MR w mb l) (hrd : iOk rd) (hl : l = a ++ (rd, r, lv) :: b) (c : Bool) :
    (Instr.lookup 78 (.map (some mb)) (.int .i64 rd) c).run Tryz.prog w = .ok (if c then .tuple #[.agg (rmL r lv).toArray, .bool true] else .agg (rmL r lv).toArray) w := by
  obtain ⟨es, clock, h1, h2, h3⟩ := h.ex
  have ha : l[a.length]? = some (rd, r, lv) := by rw [hl]; exact at_app _ _ _ _ rfl
  rcases find_i (w := w) h.iok h2 hrd with ⟨hf, hr⟩ | ⟨j, x, e, hx, hxe, _, _, hr⟩
  · exact absurd rfl (hf _ (List.mem_of_getElem? ha))
  · have hj := once_at h.once hx ha hxe
    subst hj
    rw [ha] at hx
    obtain rfl : (rd, r, lv) = x := by simpa using hx
    cases c <;> simp [Instr.lookup, run_underlying Tryz.underlying78, MapKept.run_getObj_map h1, lawI.check w _ (key_i hrd), hr, Result.andThen, itm]
theorem mr_new {w : World} {mb : Nat} {l : List En} (h : MR w mb l) {rd : Int} (hrd : iOk rd) (hno : ∀ x ∈ l, x.1 ≠ rd) (r : Rm) (lv : Value) :
    ∃ o, (Instr.mapUpdate 78 (.map (some mb)) (.int .i64 rd) (.agg (rmL r lv).toArray)).run Tryz.prog w = .ok () (setBlock w mb o) ∧ MR (setBlock w mb o) mb (l ++ [(rd, r, lv)]) ∧ w.grownBy (setBlock w mb o) (some mb) := by
  obtain ⟨es, clock, h1, h2, h3⟩ := h.ex
  rcases find_i (w := w) h.iok h2 hrd with ⟨hf, hr⟩ | ⟨j, x, e, hx, hxe, _⟩
  · refine ⟨.map (es.push ⟨.int .i64 rd, .agg (rmL r lv).toArray, clock⟩) (clock + 1), ?_, ⟨⟨_, _, heap_setBlock_same h1 _, ?_, MapKept.stamped_push h3 (fun y hy e => ?_)⟩, ?_, ?_⟩, ⟨rfl, rfl, rfl, by simp [setBlock], fun i _ hi => heap_setBlock_other h1 _ (fun e => hi (by rw [e]))⟩⟩
    · simp [Instr.mapUpdate, run_underlying Tryz.underlying78, MapKept.run_getObj_map h1, lawI.check w false (key_i hrd), hr, MapKept.run_setObj_map _ h1, Result.andThen, setBlock]
    · rw [Array.toList_push, List.map_append, List.map_append, h2]; rfl
    · obtain ⟨x, hx, e1, _⟩ := MR.mem h2 hy
      exact hno x hx (by rw [e1] at e; simpa using e)
    · intro x hx
      rcases List.mem_append.1 hx with hx | hx
      · exact h.iok x hx
      · obtain rfl : x = _ := by simpa using hx
        exact hrd
    · rw [List.map_append, List.nodup_append]
      refine ⟨h.once, by simp, fun a ha b hb e => ?_⟩
      have hbq : b = rd := by simpa using hb
      obtain ⟨x, hx, hxa⟩ := List.mem_map.1 ha
      exact hno x hx (by rw [hxa, e, hbq])
  · exact absurd hxe (hno x (List.mem_of_getElem? hx))
theorem keys_upd {a b : List En} {rd : Int} {r r' : Rm} {lv lv' : Value} : (a ++ (rd, r', lv') :: b).map (·.1) = (a ++ (rd, r, lv) :: b).map (·.1) := by simp
theorem mr_put {w : World} {mb : Nat} {l a b : List En} {r : Rm} {lv : Value} {rd : Int} (h : MR w mb l) (hrd : iOk rd) (hl : l = a ++ (rd, r, lv) :: b) (r' : Rm) (lv' : Value) :
    ∃ o, (Instr.mapUpdate 78 (.map (some mb)) (.int .i64 rd) (.agg (rmL r' lv').toArray)).run Tryz.prog w = .ok () (setBlock w mb o) ∧ MR (setBlock w mb o) mb (a ++ (rd, r', lv') :: b) ∧ w.grownBy (setBlock w mb o) (some mb) := by
  obtain ⟨es, clock, h1, h2, h3⟩ := h.ex
  have ha : l[a.length]? = some (rd, r, lv) := by rw [hl]; exact at_app _ _ _ _ rfl
  rcases find_i (w := w) h.iok h2 hrd with ⟨hf, hr⟩ | ⟨j, x, e, hx, hxe, hj, hke, hr⟩
  · exact absurd rfl (hf _ (List.mem_of_getElem? ha))
  · have hjj := once_at h.once hx ha hxe
    subst hjj
    have hja : es[a.length]? = some e := by rw [← Array.getElem?_toList]; exact hj
    have hlist : (es.modify a.length (fun e' => { e' with key := .int .i64 rd, val := .agg (rmL r' lv').toArray })).toList = es.toList.set a.length { e with key := .int .i64 rd, val := .agg (rmL r' lv').toArray } := by
      rw [Array.toList_modify]
      apply List.ext_getElem?
      intro i
      rw [List.getElem?_modify, List.getElem?_set]
      by_cases hi : a.length = i
      · subst hi
        rw [hj, if_pos rfl, if_pos ((List.getElem?_eq_some_iff.1 hj).1)]; simp
      · simp [hi]
    refine ⟨.map (es.modify a.length (fun e' => { e' with key := .int .i64 rd, val := .agg (rmL r' lv').toArray })) clock, ?_, ⟨⟨_, _, heap_setBlock_same h1 _, ?_, MapKept.stamped_modify h3 _ _ (fun _ _ => rfl) (fun e' _ he' => ?_)⟩, ?_, ?_⟩, ⟨rfl, rfl, rfl, by simp [setBlock], fun i _ hi => heap_setBlock_other h1 _ (fun e => hi (by rw [e]))⟩⟩
    · simp [Instr.mapUpdate, run_underlying Tryz.underlying78, MapKept.run_getObj_map h1, lawI.check w false (key_i hrd), hr, hja, hke, lawI.stays w (key_i hrd), MapKept.run_setObj_map _ h1, Result.andThen, setBlock]
    · rw [hlist, List.map_set, h2, hl, List.map_append, List.map_cons, set_app _ _ _ _ _ (by simp), List.map_append, List.map_cons]; rfl
    · rw [hja] at he'
      obtain rfl : e = e' := by simpa using he'
      exact hke.symm
    · intro x hx
      rcases List.mem_append.1 hx with hx | hx
      · exact h.iok x (by rw [hl]; simp [hx])
      · rcases List.mem_cons.1 hx with rfl | hx
        · exact hrd
        · exact h.iok x (by rw [hl]; simp [hx])
    · have := h.once
      rw [hl] at this
      rw [keys_upd (r := r) (lv := lv)]; exact this
theorem mr_del {w : World} {mb : Nat} {l a b : List En} {r : Rm} {lv : Value} {rd : Int} (h : MR w mb l) (hrd : iOk rd) (hl : l = a ++ (rd, r, lv) :: b) (ty : TypeId) :
    ∃ o, (Builtin.delete_ #[78, 3] ty #[.map (some mb), .int .i64 rd]).run Tryz.prog w = .ok (.tuple #[]) (setBlock w mb o) ∧ MR (setBlock w mb o) mb (a ++ b) ∧ w.grownBy (setBlock w mb o) (some mb) := by
  obtain ⟨es, clock, h1, h2, h3⟩ := h.ex
  have ha : l[a.length]? = some (rd, r, lv) := by rw [hl]; exact at_app _ _ _ _ rfl
  rcases find_i (w := w) h.iok h2 hrd with ⟨hf, hr⟩ | ⟨j, x, e, hx, hxe, hj, hke, hr⟩
  · exact absurd rfl (hf _ (List.mem_of_getElem? ha))
  · have hjj := once_at h.once hx ha hxe
    subst hjj
    have hjs : a.length < es.size := by have := (List.getElem?_eq_some_iff.1 hj).1; simpa using this
    have hsub : (es.eraseIdxIfInBounds a.length).toList = es.toList.eraseIdx a.length := by
      unfold Array.eraseIdxIfInBounds
      rw [dif_pos hjs]
      simp
    have hcut : ∀ {α : Type} (p : List α) (x : α) (q : List α), (p ++ x :: q).eraseIdx p.length = p ++ q := fun p x q => by rw [List.eraseIdx_append_of_length_le (Nat.le_refl _), Nat.sub_self]; rfl
    refine ⟨.map (es.eraseIdxIfInBounds a.length) clock, ?_, ⟨⟨_, _, heap_setBlock_same h1 _, ?_, MapKept.stamped_erase h3 _⟩, ?_, ?_⟩, ⟨rfl, rfl, rfl, by simp [setBlock], fun i _ hi => heap_setBlock_other h1 _ (fun e => hi (by rw [e]))⟩⟩
    · simp [Builtin.delete_, run_underlying Tryz.underlying78, MapKept.run_getObj_map h1, lawI.check w _ (key_i hrd), hr, MapKept.run_setObj_map _ h1, Result.andThen, setBlock]
    · have hme : ∀ {α β : Type} (f : α → β) (p : List α) (i : Nat), (p.eraseIdx i).map f = (p.map f).eraseIdx i := fun f p i => by
        apply List.ext_getElem?
        intro k
        simp only [List.getElem?_map, List.getElem?_eraseIdx]
        split <;> rfl
      rw [hsub, hme, h2, ← hme, hl, hcut]
    · intro x hx
      exact h.iok x (by rw [hl]; rcases List.mem_append.1 hx with hx | hx <;> simp [hx])
    · have := h.once
      rw [hl, List.map_append, List.map_cons] at this
      rw [List.map_append]
      exact this.sublist (List.Sublist.append_left (List.sublist_cons_self _ _) _)
end Go.Proofs.YtekbppfocnbhbaaGreat.XC
