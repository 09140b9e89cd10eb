/- cpu: a map of closures; regions whose operations come in any order, by an invariant. -/
import Derived.Test.YtkpjfhphohanlaaGreatDoorJF
import Derived.Maps.Keyed
import Derived.Maps.Own
import Derived.ChangeMaps
import Derived.MapViews
import Derived.Carry
import Derived.Laws.EntriesVeiled
set_option linter.unusedVariables false
set_option linter.unusedSimpArgs false
namespace Go.Proofs.YtkpjfhphohanlaaGreatDoor.JC
open Go.RowKit
open Go.ChangeMaps (setBlock heap_setBlock_same heap_setBlock_other)
open Go.Proofs.YtkpjfhphohanlaaGreatDoor.EC (row_lt heap_at rangeAt_below rangeAt_row ret_bool ret_i64 beq_int)

def iOk (x : Int) : Prop := (Lit.int .i64 x).wf = true
theorem lawI : Maps.Keyed Tryz.prog 39 := Maps.int_keyed Tryz.underlying39
theorem key_i {x : Int} (h : iOk x) : keyOf Tryz.prog 39 (.int .i64 x) = some (.int .i64 x) := Maps.keyOf_int_mk Tryz.underlying39 h
def itm (x : Int × Value) : Value × Value := (.int .i64 x.1, x.2)
/-- The map that holds just these, in this order. -/
structure MF (w : World) (mp : Nat) (l : List (Int × Value)) : Prop where
  ex : ∃ es clock, w.heap[mp]? = some (.map es clock) ∧ (es.toList.map fun e => (e.key, e.val)) = l.map itm
  iok : ∀ x ∈ l, iOk x.1
theorem MF.keep {w w' : World} {mp : Nat} {l : List (Int × Value)} (h : MF w mp l) (e : w'.heap[mp]? = w.heap[mp]?) : MF w' mp l := by
  obtain ⟨es, c, h1, h2⟩ := h.ex; exact ⟨⟨es, c, e.trans h1, h2⟩, h.iok⟩
theorem MF.lt {w : World} {mp : Nat} {l : List (Int × Value)} (h : MF w mp l) : mp < w.heap.size := by
  obtain ⟨es, c, h1, _⟩ := h.ex; exact row_lt h1
theorem mf_new {w : World} {mp : Nat} {l : List (Int × Value)} (h : MF w mp l) {k : Int} (hk : iOk k) (hno : ∀ x ∈ l, x.1 ≠ k) (v : Value) :
    ∃ w', (Instr.mapUpdate 82 (.map (some mp)) (.int .i64 k) v).run Tryz.prog w = .ok () w' ∧ MF w' mp (l ++ [(k, v)]) ∧ w.grownBy w' (some mp) := by
  obtain ⟨es, clock, h1, h2⟩ := h.ex
  have hmem : ∀ e ∈ es.toList, ∃ x ∈ l, e.key = .int .i64 x.1 := fun e he => by
    have : (e.key, e.val) ∈ l.map itm := by rw [← h2]; exact List.mem_map.2 ⟨e, he, rfl⟩
    obtain ⟨x, hx, hxe⟩ := List.mem_map.1 this
    exact ⟨x, hx, by have := congrArg Prod.fst hxe; exact this.symm⟩
  rcases lawI.find w (key_i hk) es.toList (fun e he => by obtain ⟨x, hx, e1⟩ := hmem e he; rw [e1]; exact ⟨_, key_i (h.iok x hx)⟩) with ⟨hr, hn⟩ | ⟨j, e, hr, hj, he⟩
  · refine ⟨setBlock w mp (.map (es.push ⟨.int .i64 k, v, clock⟩) (clock + 1)), ?_, ⟨⟨_, _, heap_setBlock_same h1 _, ?_⟩, ?_⟩, ⟨rfl, rfl, rfl, by simp [setBlock], fun i _ hi => heap_setBlock_other h1 _ (fun e => hi (by rw [e]))⟩⟩
    · simp [Instr.mapUpdate, run_underlying Tryz.underlying82, MapKept.run_getObj_map h1, lawI.check w false (key_i hk), hr, MapKept.run_setObj_map _ h1, Result.andThen, setBlock]
    · rw [Array.toList_push, List.map_append, List.map_append, h2]; rfl
    · intro x hx
      rcases List.mem_append.1 hx with hx | hx
      · exact h.iok x hx
      · obtain rfl : x = _ := by simpa using hx
        exact hk
  · exfalso
    obtain ⟨x, hx, e1⟩ := hmem e (List.mem_of_getElem? hj)
    exact hno x hx (by rw [e1] at he; simpa using he)
theorem mf_get {w : World} {mp : Nat} {l : List (Int × Value)} (h : MF w mp l) (hone : ∀ x ∈ l, ∀ y ∈ l, x.1 = y.1 → x = y) {x : Int × Value} (hx : x ∈ l) :
    (Instr.lookup 82 (.map (some mp)) (.int .i64 x.1) false).run Tryz.prog w = .ok x.2 w := by
  obtain ⟨es, clock, h1, h2⟩ := h.ex
  have hmem : ∀ e ∈ es.toList, ∃ x ∈ l, e.key = .int .i64 x.1 ∧ e.val = x.2 := fun e he => by
    have : (e.key, e.val) ∈ l.map itm := by rw [← h2]; exact List.mem_map.2 ⟨e, he, rfl⟩
    obtain ⟨x, hx, hxe⟩ := List.mem_map.1 this
    exact ⟨x, hx, by have := congrArg Prod.fst hxe; exact this.symm, by have := congrArg Prod.snd hxe; exact this.symm⟩
  have hk := h.iok x hx
  rcases lawI.find w (key_i hk) es.toList (fun e he => by obtain ⟨x, hx, e1, _⟩ := hmem e he; rw [e1]; exact ⟨_, key_i (h.iok x hx)⟩) with ⟨hr, hn⟩ | ⟨j, e, hr, hj, he⟩
  · exfalso
    have h3 : itm x ∈ es.toList.map fun e => (e.key, e.val) := by rw [h2]; exact List.mem_map.2 ⟨x, hx, rfl⟩
    obtain ⟨y, hy, hye⟩ := List.mem_map.1 h3
    exact hn y hy (by have := congrArg Prod.fst hye; exact this)
  · obtain ⟨y, hy, e1, e2⟩ := hmem e (List.mem_of_getElem? hj)
    have hxy : y = x := hone y hy x hx (by rw [e1] at he; simpa using he)
    subst hxy
    rw [e2] at hr
    simp [Instr.lookup, run_underlying Tryz.underlying82, MapKept.run_getObj_map h1, lawI.check w _ (key_i hk), hr, Result.andThen]

/-! An invariant serves every order. -/
theorem count_set_lt (l : Array Bool) (i : Nat) (h : l.getD i true = false) : (l.setIfInBounds i true).toList.count false < l.toList.count false := by
  have hi : i < l.size := by
    rcases Nat.lt_or_ge i l.size with h' | h'
    · exact h'
    · simp [Array.getD, Nat.not_lt.2 h'] at h
  have hv : l.toList[i]'(by simpa using hi) = false := by
    simp [Array.getD, hi] at h; simpa using h
  rw [Array.toList_setIfInBounds, List.count_set (by simpa using hi)]
  have hm : false ∈ l.toList := List.mem_iff_getElem.2 ⟨i, by simpa using hi, hv⟩
  have := List.count_pos_iff.2 hm
  have hp : 0 < Array.count false l := by simpa using this
  simp [hv]
  omega
theorem wpAny_inv {P : Program} {ops : Array Oper} {Q : Exit → Act → World → Prop} {md : Region.Mode} (I : Array Bool → Act → World → Prop)
    (hstep : ∀ l a w i, I l a w → i ∈ Region.ready md ops l → wpOp P ops Q i (fun a' w' => I (l.setIfInBounds i true) a' w') a w)
    (hend : ∀ l a w, I l a w → Region.ready md ops l = [] → Q .normal a w) :
    ∀ (fuel : Nat) (l : Array Bool) (a : Act) (w : World), I l a w → l.toList.count false ≤ fuel → wpAny P md ops Q fuel l a w
  | 0, l, a, w, h, hc => by
    have hr : Region.ready md ops l = [] := by
      rw [List.eq_nil_iff_forall_not_mem]
      intro j hj
      have := count_set_lt l j (mem_ready.1 hj).1
      omega
    exact ⟨hr, hend l a w h hr⟩
  | fuel + 1, l, a, w, h, hc => by
    refine ⟨hend l a w h, fun i hi => wpOp_mono (fun a' w' h' => wpAny_inv I hstep hend fuel _ a' w' h' ?_) (hstep l a w i h hi)⟩
    have := count_set_lt l i (mem_ready.1 hi).1
    omega
theorem wp_region_inv {P : Program} {ops : Array Oper} {Q : Exit → Act → World → Prop} {id : Nat} {a : Act} {w : World} (I : Array Bool → Act → World → Prop) (hm : P.follows .mixedOrders = true)
    (h0 : I (Array.replicate ops.size false) a w.drew)
    (hstep : ∀ l a w i, I l a w → i ∈ Region.ready .any ops l → wpOp P ops Q i (fun a' w' => I (l.setIfInBounds i true) a' w') a w)
    (hend : ∀ l a w, I l a w → Region.ready .any ops l = [] → Q .normal a w) : (Code.region id ops true).wp P Q a w :=
  wp_region_any hm (wpAny_inv I hstep hend _ _ _ _ h0 (by rw [Array.toList_replicate, List.count_replicate]; simp))
/-- An operation that yields a value, that goes by, that calls. -/
theorem wpOp_value {P : Program} {ops : Array Oper} {Q : Exit → Act → World → Prop} {i : Nat} {o : Oper} {K : Act → World → Prop} {a : Act} {w w' : World} {v : Value} (ho : ops[i]? = some o) (hg : o.guard = none) (hr : (execOp a.eval o).run P w = .ok (.value v) w') (h : K (a.put o.dst v) w') : wpOp P ops Q i K a w := by
  refine wpOp_step ho fun K' hK => ?_
  rw [if_pos (by unfold Region.wanted; rw [hg])]
  unfold Oper.wp
  rw [hr, Oper.upon_value]
  exact hK _ _ h
theorem wpOp_skip {P : Program} {ops : Array Oper} {Q : Exit → Act → World → Prop} {i : Nat} {o : Oper} {K : Act → World → Prop} {a : Act} {w w' : World} (ho : ops[i]? = some o) (hg : o.guard = none) (hr : (execOp a.eval o).run P w = .ok .skip w') (h : K (a.put o.dst undef) w') : wpOp P ops Q i K a w := by
  refine wpOp_step ho fun K' hK => ?_
  rw [if_pos (by unfold Region.wanted; rw [hg])]
  unfold Oper.wp
  rw [hr, Oper.upon_skip]
  exact hK _ _ h
theorem wpOp_enter {P : Program} {ops : Array Oper} {Q : Exit → Act → World → Prop} {i : Nat} {o : Oper} {K : Act → World → Prop} {a : Act} {w : World} {f : FuncId} {args : Array Value} {R : Value → World → Prop} (ho : ops[i]? = some o) (hg : o.guard = none) (hr : (execOp a.eval o).run P w = .ok (.enter f args) w)
    (hc : Calls P f args w fun e w' => ∃ v, e = .returned v ∧ R v w') (h : ∀ v w', R v w' → K (a.put o.dst v) w') : wpOp P ops Q i K a w := by
  refine wpOp_step ho fun K' hK => ?_
  rw [if_pos (by unfold Region.wanted; rw [hg])]
  unfold Oper.wp
  rw [hr, Oper.upon_enter]
  refine hc.mono fun e w' hh => ?_
  obtain ⟨v, rfl, hR⟩ := hh
  exact hK _ _ (h v w' hR)
/-- What stands in a region of a body. -/
def findR (n : Nat) : Code → Option (Array Oper)
  | .seq a b => (findR n a).orElse fun _ => findR n b
  | .region k ops _ => if k = n then some ops else none
  | _ => none
end Go.Proofs.YtkpjfhphohanlaaGreatDoor.JC
