/- granule: the map of steps, its ten entries put in whatever order; contract of steps, and what is found there. -/
import Derived.Test.YtpmbbnmpldeajaaKA
import Derived.Maps.Keyed
import Derived.Maps.Own
import Derived.DeepKeys4
import Derived.MapViews
import Derived.ChangeMaps
import Derived.Carry
set_option linter.unusedVariables false
set_option linter.unusedSimpArgs false
namespace Go.Proofs.Ytpmbbnmpldeajaa.GC
open Go.RowKit
open Go.ChangeMaps (setBlock heap_setBlock_same heap_setBlock_other)

theorem nodup_perm : ∀ (D I : List Nat), D.Nodup → (∀ i ∈ D, i ∈ I) → I.length = D.length → D.Perm I
  | [], I, _, _, h => by rw [List.eq_nil_of_length_eq_zero h]
  | x :: D, I, hn, hs, h => by
    obtain ⟨h1, h2⟩ := List.nodup_cons.1 hn
    have hx := hs x (by simp)
    have hp := List.perm_cons_erase hx
    have hl := hp.length_eq
    rw [List.length_cons] at hl h
    refine (List.Perm.cons x (nodup_perm D (I.erase x) h2 (fun i hi => ?_) (by omega))).trans hp.symm
    rw [List.mem_erase_of_ne (fun e => h1 (by rw [← e]; exact hi))]
    exact hs i (by simp [hi])
theorem nodup_le : ∀ (D I : List Nat), D.Nodup → (∀ i ∈ D, i ∈ I) → D.length ≤ I.length
  | [], I, _, _ => Nat.zero_le _
  | x :: D, I, hn, hs => by
    obtain ⟨h1, h2⟩ := List.nodup_cons.1 hn
    have hx := hs x (by simp)
    have hl := (List.perm_cons_erase hx).length_eq
    have := nodup_le D (I.erase x) h2 (fun i hi => by
      rw [List.mem_erase_of_ne (fun e => h1 (by rw [← e]; exact hi))]
      exact hs i (by simp [hi]))
    rw [List.length_cons] at hl ⊢
    omega
/-- What is listed behind some more. -/
def mark (L : Array Bool) (D : List Nat) : Array Bool := D.foldl (fun l i => l.setIfInBounds i true) L
theorem mark_snoc (L : Array Bool) (D : List Nat) (i : Nat) : mark L (D ++ [i]) = (mark L D).setIfInBounds i true := by simp [mark]
theorem mark_get : ∀ (D : List Nat) (L : Array Bool) (j : Nat), (mark L D)[j]? = if j ∈ D ∧ j < L.size then some true else L[j]?
  | [], L, j => by simp [mark]
  | i :: D, L, j => by
    show (mark (L.setIfInBounds i true) D)[j]? = _
    rw [mark_get D, Array.size_setIfInBounds]
    by_cases hj : j < L.size
    · by_cases hD : j ∈ D
      · rw [if_pos ⟨hD, hj⟩, if_pos ⟨by simp [hD], hj⟩]
      · rw [if_neg (fun h => hD h.1)]
        by_cases hij : i = j
        · subst hij
          rw [if_pos ⟨by simp, hj⟩, Array.getElem?_setIfInBounds_self_of_lt hj]
        · rw [if_neg (fun h => by rcases List.mem_cons.1 h.1 with e | e; exact hij e.symm; exact hD e), Array.getElem?_setIfInBounds_ne hij]
    · rw [if_neg (fun h => hj h.2), if_neg (fun h => hj h.2), Array.getElem?_eq_none (by simp; omega), Array.getElem?_eq_none (by omega)]
theorem mark_perm (L : Array Bool) {D E : List Nat} (h : D.Perm E) : mark L D = mark L E := by
  apply Array.ext_getElem?
  intro j
  rw [mark_get, mark_get]
  simp only [h.mem_iff]
/-- All of I may come up, and all else waits for all of I. -/
def pileOk (md : Region.Mode) (ops : Array Oper) (L : Array Bool) (I : List Nat) : Bool :=
  ((List.range ops.size).all fun j => L.getD j true || I.contains j || (match ops[j]? with
    | none => true
    | some o => I.all fun i => o.after.any fun e => Region.binds md e && e.on == i)) &&
  (I.all fun i => !L.getD i true && (match ops[i]? with
    | none => false
    | some o => o.after.all fun e => !Region.binds md e || L.getD e.on false))
section
variable {P : Program} {ops : Array Oper} {Q : Exit → Act → World → Prop} {md : Region.Mode} {S : World → Prop} {L : Array Bool} {I : List Nat}
theorem mark_false {D : List Nat} {j : Nat} (h : (mark L D).getD j true = false) : j ∉ D ∧ L.getD j true = false := by
  rw [Array.getD_eq_getD_getElem?, mark_get] at h
  by_cases hc : j ∈ D ∧ j < L.size
  · rw [if_pos hc] at h; simp at h
  · rw [if_neg hc] at h
    refine ⟨fun hD => ?_, by rw [Array.getD_eq_getD_getElem?]; exact h⟩
    have : ¬ j < L.size := fun hl => hc ⟨hD, hl⟩
    rw [Array.getElem?_eq_none (by omega)] at h
    simp at h
theorem mark_true {D : List Nat} {j : Nat} (h : (mark L D).getD j false = true) (hL : L.getD j true = false) : j ∈ D := by
  rw [Array.getD_eq_getD_getElem?, mark_get] at h
  by_cases hc : j ∈ D ∧ j < L.size
  · exact hc.1
  · rw [if_neg hc] at h
    rw [Array.getD_eq_getD_getElem?] at hL
    cases hq : L[j]? with
    | none => rw [hq] at h; simp at h
    | some b => rw [hq] at h hL; simp at h hL; rw [h] at hL; cases hL
theorem mark_keep {D : List Nat} {j : Nat} (h : L.getD j false = true) : (mark L D).getD j false = true := by
  rw [Array.getD_eq_getD_getElem?, mark_get]
  by_cases hc : j ∈ D ∧ j < L.size
  · rw [if_pos hc]; rfl
  · rw [if_neg hc, ← Array.getD_eq_getD_getElem?]; exact h
theorem mark_not {D : List Nat} {j : Nat} (h : L.getD j true = false) (hD : j ∉ D) : (mark L D).getD j true = false := by
  rw [Array.getD_eq_getD_getElem?, mark_get, if_neg (fun hc => hD hc.1), ← Array.getD_eq_getD_getElem?]; exact h
theorem pile_in (hok : pileOk md ops L I = true) {D : List Nat} (hD : ∃ i ∈ I, i ∉ D) {j : Nat} (hj : j ∈ Region.ready md ops (mark L D)) : j ∈ I ∧ j ∉ D := by
  obtain ⟨h0, o, ho, hall⟩ := mem_ready.1 hj
  obtain ⟨hjD, hL⟩ := mark_false h0
  refine ⟨?_, hjD⟩
  unfold pileOk at hok
  rw [Bool.and_eq_true, List.all_eq_true] at hok
  have h1 := hok.1 j (by simp; exact (Array.getElem?_eq_some_iff.1 ho).1)
  rw [ho, hL] at h1
  simp only [Bool.false_or, Bool.or_eq_true, List.contains_iff_mem] at h1
  rcases h1 with h1 | h1
  · exact h1
  · exfalso
    obtain ⟨i, hi, hiD⟩ := hD
    rw [List.all_eq_true] at h1
    have h2 := h1 i hi
    rw [Array.any_eq_true'] at h2
    obtain ⟨e, he, hb⟩ := h2
    rw [Bool.and_eq_true, beq_iff_eq] at hb
    have h3 := hall e he hb.1
    rw [hb.2] at h3
    have h4 := hok.2
    rw [List.all_eq_true] at h4
    have h5 := h4 i hi
    rw [Bool.and_eq_true] at h5
    exact hiD (mark_true h3 (by simpa using h5.1))
theorem pile_may (hok : pileOk md ops L I = true) {D : List Nat} {i : Nat} (hi : i ∈ I) (hD : i ∉ D) : i ∈ Region.ready md ops (mark L D) := by
  unfold pileOk at hok
  rw [Bool.and_eq_true] at hok
  have h4 := hok.2
  rw [List.all_eq_true] at h4
  have h5 := h4 i hi
  rw [Bool.and_eq_true] at h5
  cases ho : ops[i]? with
  | none => rw [ho] at h5; simp at h5
  | some o =>
    rw [ho] at h5
    refine mem_ready.2 ⟨mark_not (by simpa using h5.1) hD, o, ho, fun e he hb => ?_⟩
    have h6 := h5.2
    simp only at h6
    rw [Array.all_eq_true_iff_forall_mem] at h6
    have h7 := h6 e he
    rw [hb] at h7
    exact mark_keep (by simpa using h7)
/-- The operations of I, one behind the other in whatever order: J says what those that came up have done. -/
theorem wpAnyH_pile {a : Act} (J : List Nat → World → Prop) (hok : pileOk md ops L I = true) (fuel : Nat)
    (hstep : ∀ D i w, J D w → i ∈ I → i ∉ D → (∀ j ∈ D, j ∈ I) → wpOp P ops Q i (fun a' w' => a' = a ∧ J (D ++ [i]) w' ∧ S w') a w)
    (hend : ∀ D w, J D w → D.Perm I → wpAnyH P md ops Q S fuel (mark L I) a w) (hI : I.Nodup) :
    ∀ (k : Nat) (D : List Nat) (w : World), D.length + k = I.length → D.Nodup → (∀ i ∈ D, i ∈ I) → J D w → wpAnyH P md ops Q S (fuel + k) (mark L D) a w
  | 0, D, w, hl, hn, hs, hJ => by
    have hp := nodup_perm D I hn hs (by omega)
    rw [mark_perm L hp]
    exact hend D w hJ hp
  | k + 1, D, w, hl, hn, hs, hJ => by
    have hex : ∃ i ∈ I, i ∉ D := by
      refine Classical.byContradiction fun hno => ?_
      have : ∀ i ∈ I, i ∈ D := fun i hi => Classical.byContradiction fun hd => hno ⟨i, hi, hd⟩
      have := nodup_le I D hI this
      omega
    refine ⟨fun h0 => ?_, fun i hi => ?_⟩
    · obtain ⟨i, hi, hd⟩ := hex
      have := pile_may hok hi hd
      rw [h0] at this
      cases this
    · obtain ⟨h1, h2⟩ := pile_in hok hex hi
      refine wpOp_mono ?_ (hstep D i w hJ h1 h2 hs)
      rintro a' w' ⟨rfl, hJ', hS'⟩
      refine ⟨hS', ?_⟩
      rw [← mark_snoc]
      refine wpAnyH_pile J hok fuel hstep hend hI k (D ++ [i]) w' (by simp; omega) ?_ ?_ hJ'
      · rw [List.nodup_append]
        refine ⟨hn, by simp, fun x hx y hy e => ?_⟩
        have : y = i := by simpa using hy
        exact h2 (by rw [← this, ← e]; exact hx)
      · intro x hx
        rcases List.mem_append.1 hx with hx | hx
        · exact hs x hx
        · have : x = i := by simpa using hx
          rw [this]; exact h1
end

/-- Two states as a key. -/
def kV (f t : Int) : Value := .agg #[.int .i64 f, .int .i64 t]
/-- What a step asks for. -/
def sV (o l : Bool) : Value := .agg #[.bool o, .bool l]
theorem kV_inj {a b c d : Int} (h : kV a b = kV c d) : a = c ∧ b = d := by
  unfold kV at h
  simpa using h
theorem laidOut7 : laidOutB Try.prog = true := by kernel_rfl
theorem lawK : Maps.Keyed Try.prog 62 := Maps.Keyed.of_law (deep_law_laid laidOut7 (m := 3) (by omega) (of_decide_eq_true (by kernel_rfl)) (by kernel_rfl) (by kernel_rfl))
theorem size7 : ∃ m, Try.prog.types.size = m + 2 := ⟨Try.prog.types.size - 2, by have : 2 ≤ Try.prog.types.size := of_decide_eq_true (by kernel_rfl); omega⟩
theorem cells_k : Try.prog.cellsOf 62 = 2 := by kernel_rfl
theorem cells_g : Try.prog.cellsOf 31 = 1 := by kernel_rfl
theorem keyLits_int (d : Nat) (n : Int) (h : (Lit.int .i64 n).wf = true) : Try.prog.keyLits (d + 1) 31 [.int .i64 n] = some [.int .i64 n] := by
  unfold Program.keyLits
  rw [Try.underlying31]
  simp [h]
theorem key_ok (f t : Int) (hf : (Lit.int .i64 f).wf = true) (ht : (Lit.int .i64 t).wf = true) : ∃ kl, keyOf Try.prog 62 (kV f t) = some kl := by
  obtain ⟨m, hm⟩ := size7
  have hlits : ∃ ls, Try.prog.keyLits (m + 2 + 1) 62 [.int .i64 f, .int .i64 t] = some ls := by
    unfold Program.keyLits
    rw [Try.underlying62]
    simp only
    rw [if_pos (by rw [cells_k]; rfl)]
    rw [show List.range 2 = [0, 1] from rfl]
    simp only [List.mapM_cons, List.mapM_nil, cells_g, Nat.zero_mul, Nat.one_mul, List.drop_zero, List.drop_succ_cons, List.take_succ_cons, List.take_zero, keyLits_int _ _ hf, keyLits_int _ _ ht]
    exact ⟨_, rfl⟩
  obtain ⟨ls, hls⟩ := hlits
  unfold keyOf
  rw [Try.underlying62]
  simp only
  rw [if_pos, hm]
  · rw [show (kV f t).cells.toList = [.int .i64 f, .int .i64 t] from rfl, hls]
    exact ⟨_, rfl⟩
  · rw [Bool.and_eq_true]
    refine ⟨by kernel_rfl, ?_⟩
    unfold kV Value.formed
    rw [Try.underlying62, cells_k]
    rfl
/-- The steps: from, to, owned, loose, by their operations' places. -/
def ST (i : Nat) : Int × Int × Bool × Bool := match i with
  | 3 => (0, 1, false, true)
  | 6 => (1, 0, false, false)
  | 9 => (1, 2, true, false)
  | 12 => (1, 3, true, false)
  | 15 => (1, 4, true, false)
  | 18 => (1, 5, true, false)
  | 21 => (2, 1, false, true)
  | 24 => (3, 1, false, true)
  | 27 => (4, 1, false, true)
  | _ => (5, 1, false, true)
def IL : List Nat := [3, 6, 9, 12, 15, 18, 21, 24, 27, 30]
theorem ST_inj : ∀ i ∈ IL, ∀ j ∈ IL, (ST i).1 = (ST j).1 → (ST i).2.1 = (ST j).2.1 → i = j := by decide
theorem ST_wf : ∀ i ∈ IL, (Lit.int .i64 (ST i).1).wf = true ∧ (Lit.int .i64 (ST i).2.1).wf = true := by decide
def ek (i : Nat) : Value × Value := (kV (ST i).1 (ST i).2.1, sV (ST i).2.2.1 (ST i).2.2.2)
/-- The map with those entries. -/
def MJ (mb : Nat) (D : List Nat) (w : World) : Prop := ∃ es clock, w.heap[mb]? = some (.map es clock) ∧ (es.toList.map fun e => (e.key, e.val)) = D.map ek
theorem MJ.put {mb : Nat} {D : List Nat} {w : World} (h : MJ mb D w) {i : Nat} (hi : i ∈ IL) (hD : i ∉ D) (hs : ∀ j ∈ D, j ∈ IL) :
    ∃ o, (Instr.mapUpdate 60 (.map (some mb)) (ek i).1 (ek i).2).run Try.prog w = .ok () (setBlock w mb o) ∧ MJ mb (D ++ [i]) (setBlock w mb o) ∧ w.grownBy (setBlock w mb o) (some mb) := by
  obtain ⟨es, clock, h1, h2⟩ := h
  obtain ⟨hw1, hw2⟩ := ST_wf i hi
  obtain ⟨kl, hk⟩ := key_ok _ _ hw1 hw2
  have hmem : ∀ e ∈ es.toList, ∃ j ∈ D, e.key = (ek j).1 := fun e he => by
    have : (e.key, e.val) ∈ D.map ek := by rw [← h2]; exact List.mem_map.2 ⟨e, he, rfl⟩
    obtain ⟨j, hj, hje⟩ := List.mem_map.1 this
    exact ⟨j, hj, by rw [hje]⟩
  rcases lawK.find w hk es.toList (fun e he => by obtain ⟨j, hj, e1⟩ := hmem e he; rw [e1]; exact key_ok _ _ (ST_wf j (hs j hj)).1 (ST_wf j (hs j hj)).2) with ⟨hr, hn⟩ | ⟨j, e, hr, hj, he⟩
  · refine ⟨.map (es.push ⟨(ek i).1, (ek i).2, clock⟩) (clock + 1), ?_, ⟨_, _, heap_setBlock_same h1 _, ?_⟩, ⟨rfl, rfl, rfl, by simp [setBlock], fun i _ hi => heap_setBlock_other h1 _ (fun e => hi (by rw [e]))⟩⟩
    · unfold ek
      simp [Instr.mapUpdate, run_underlying Try.underlying60, MapKept.run_getObj_map h1, lawK.check w false hk, hr, MapKept.run_setObj_map _ h1, Result.andThen, setBlock]
    · rw [Array.toList_push, List.map_append, List.map_append, h2]
      rfl
  · exfalso
    obtain ⟨j', hj', e1⟩ := hmem e (List.mem_of_getElem? hj)
    obtain ⟨e2, e3⟩ := kV_inj (e1.symm.trans he)
    exact hD (by rw [← ST_inj j' (hs j' hj') i hi e2 e3]; exact hj')
theorem wp_insert {op : Oper} {a : Act} {w w' : World} {K : Act → World → Prop} {Q : Exit → Act → World → Prop} (m x v : Operand) (t : TypeId) (ho : op.op = Op.insert t m x v) (mv kv vv : Value) (hm : a.eval m = mv) (hx : a.eval x = kv) (hv : a.eval v = vv)
    (hr : (Instr.mapUpdate t mv kv vv).run Try.prog w = .ok () w') (h : K (a.put op.dst undef) w') : op.wp Try.prog a w K Q := by
  unfold Oper.wp execOp
  simp only [ho, hm, hx, hv, Sem.run_bind, hr, Result.andThen_ok]
  exact h
/-- The map of steps. -/
def SM (w : World) (mb : Nat) : Prop := ∃ es clock, w.heap[mb]? = some (.map es clock) ∧ (es.toList.map fun e => (e.key, e.val)).Perm (IL.map ek)
def StEnd (w : World) (e : Ending) (w' : World) : Prop := ∃ mb, e = .returned (.map (some mb)) ∧ SM w' mb ∧ w.heap.size ≤ mb ∧ Below w.heap.size w w'
set_option maxHeartbeats 4000000 in
set_option maxRecDepth 100000 in
theorem steps_any (w : World) : Calls Try.prog 28 #[] w fun e w' => StEnd w e w' := by
  go_enter Try.func28, Try.ntmps28
  go_wp2_with fail
  refine wp_region_held_drew (S := fun _ => True) (by kernel_rfl) trivial (fun hHeld => ?_)
  refine wpAnyH_take (i := 1) (oi := { dst := some 2, op := Go.Op.build 62 #[(0, Go.Operand.const (Go.Value.int Go.IntKind.i64 0)), (1, Go.Operand.const (Go.Value.int Go.IntKind.i64 1))], type := 62, pos := _, after := #[], guard := none }) (v := .agg #[.int .i64 0, .int .i64 1]) rfl (by kernel_rfl) (by kernel_rfl) (by kernel_rfl) (fun _ _ _ h => h) (Or.inl ⟨by rfl, fun w' hw' => ?_⟩) hHeld ?_
  · first | (go_simp; done) | (go_simp; rfl)
  try simp only [Act.put, List.setIfInBounds_toArray, List.set_cons_zero, List.set_cons_succ]
  refine wpAnyH_take (i := 2) (oi := { dst := some 3, op := Go.Op.build 58 #[(1, Go.Operand.const (Go.Value.bool true))], type := 58, pos := _, after := #[], guard := none }) (v := .agg #[.bool false, .bool true]) rfl (by kernel_rfl) (by kernel_rfl) (by kernel_rfl) (fun _ _ _ h => h) (Or.inl ⟨by rfl, fun w' hw' => ?_⟩) hHeld ?_
  · first | (go_simp; done) | (go_simp; rfl)
  try simp only [Act.put, List.setIfInBounds_toArray, List.set_cons_zero, List.set_cons_succ]
  refine wpAnyH_take (i := 4) (oi := { dst := some 4, op := Go.Op.build 62 #[(0, Go.Operand.const (Go.Value.int Go.IntKind.i64 1)), (1, Go.Operand.const (Go.Value.int Go.IntKind.i64 0))], type := 62, pos := _, after := #[], guard := none }) (v := .agg #[.int .i64 1, .int .i64 0]) rfl (by kernel_rfl) (by kernel_rfl) (by kernel_rfl) (fun _ _ _ h => h) (Or.inl ⟨by rfl, fun w' hw' => ?_⟩) hHeld ?_
  · first | (go_simp; done) | (go_simp; rfl)
  try simp only [Act.put, List.setIfInBounds_toArray, List.set_cons_zero, List.set_cons_succ]
  refine wpAnyH_take (i := 5) (oi := { dst := some 5, op := Go.Op.build 58 #[], type := 58, pos := _, after := #[], guard := none }) (v := .agg #[.bool false, .bool false]) rfl (by kernel_rfl) (by kernel_rfl) (by kernel_rfl) (fun _ _ _ h => h) (Or.inl ⟨by rfl, fun w' hw' => ?_⟩) hHeld ?_
  · first | (go_simp; done) | (go_simp; rfl)
  try simp only [Act.put, List.setIfInBounds_toArray, List.set_cons_zero, List.set_cons_succ]
  refine wpAnyH_take (i := 7) (oi := { dst := some 6, op := Go.Op.build 62 #[(0, Go.Operand.const (Go.Value.int Go.IntKind.i64 1)), (1, Go.Operand.const (Go.Value.int Go.IntKind.i64 2))], type := 62, pos := _, after := #[], guard := none }) (v := .agg #[.int .i64 1, .int .i64 2]) rfl (by kernel_rfl) (by kernel_rfl) (by kernel_rfl) (fun _ _ _ h => h) (Or.inl ⟨by rfl, fun w' hw' => ?_⟩) hHeld ?_
  · first | (go_simp; done) | (go_simp; rfl)
  try simp only [Act.put, List.setIfInBounds_toArray, List.set_cons_zero, List.set_cons_succ]
  refine wpAnyH_take (i := 8) (oi := { dst := some 7, op := Go.Op.build 58 #[(0, Go.Operand.const (Go.Value.bool true))], type := 58, pos := _, after := #[], guard := none }) (v := .agg #[.bool true, .bool false]) rfl (by kernel_rfl) (by kernel_rfl) (by kernel_rfl) (fun _ _ _ h => h) (Or.inl ⟨by rfl, fun w' hw' => ?_⟩) hHeld ?_
  · first | (go_simp; done) | (go_simp; rfl)
  try simp only [Act.put, List.setIfInBounds_toArray, List.set_cons_zero, List.set_cons_succ]
  refine wpAnyH_take (i := 10) (oi := { dst := some 8, op := Go.Op.build 62 #[(0, Go.Operand.const (Go.Value.int Go.IntKind.i64 1)), (1, Go.Operand.const (Go.Value.int Go.IntKind.i64 3))], type := 62, pos := _, after := #[], guard := none }) (v := .agg #[.int .i64 1, .int .i64 3]) rfl (by kernel_rfl) (by kernel_rfl) (by kernel_rfl) (fun _ _ _ h => h) (Or.inl ⟨by rfl, fun w' hw' => ?_⟩) hHeld ?_
  · first | (go_simp; done) | (go_simp; rfl)
  try simp only [Act.put, List.setIfInBounds_toArray, List.set_cons_zero, List.set_cons_succ]
  refine wpAnyH_take (i := 11) (oi := { dst := some 9, op := Go.Op.build 58 #[(0, Go.Operand.const (Go.Value.bool true))], type := 58, pos := _, after := #[], guard := none }) (v := .agg #[.bool true, .bool false]) rfl (by kernel_rfl) (by kernel_rfl) (by kernel_rfl) (fun _ _ _ h => h) (Or.inl ⟨by rfl, fun w' hw' => ?_⟩) hHeld ?_
  · first | (go_simp; done) | (go_simp; rfl)
  try simp only [Act.put, List.setIfInBounds_toArray, List.set_cons_zero, List.set_cons_succ]
  refine wpAnyH_take (i := 13) (oi := { dst := some 10, op := Go.Op.build 62 #[(0, Go.Operand.const (Go.Value.int Go.IntKind.i64 1)), (1, Go.Operand.const (Go.Value.int Go.IntKind.i64 4))], type := 62, pos := _, after := #[], guard := none }) (v := .agg #[.int .i64 1, .int .i64 4]) rfl (by kernel_rfl) (by kernel_rfl) (by kernel_rfl) (fun _ _ _ h => h) (Or.inl ⟨by rfl, fun w' hw' => ?_⟩) hHeld ?_
  · first | (go_simp; done) | (go_simp; rfl)
  try simp only [Act.put, List.setIfInBounds_toArray, List.set_cons_zero, List.set_cons_succ]
  refine wpAnyH_take (i := 14) (oi := { dst := some 11, op := Go.Op.build 58 #[(0, Go.Operand.const (Go.Value.bool true))], type := 58, pos := _, after := #[], guard := none }) (v := .agg #[.bool true, .bool false]) rfl (by kernel_rfl) (by kernel_rfl) (by kernel_rfl) (fun _ _ _ h => h) (Or.inl ⟨by rfl, fun w' hw' => ?_⟩) hHeld ?_
  · first | (go_simp; done) | (go_simp; rfl)
  try simp only [Act.put, List.setIfInBounds_toArray, List.set_cons_zero, List.set_cons_succ]
  refine wpAnyH_take (i := 16) (oi := { dst := some 12, op := Go.Op.build 62 #[(0, Go.Operand.const (Go.Value.int Go.IntKind.i64 1)), (1, Go.Operand.const (Go.Value.int Go.IntKind.i64 5))], type := 62, pos := _, after := #[], guard := none }) (v := .agg #[.int .i64 1, .int .i64 5]) rfl (by kernel_rfl) (by kernel_rfl) (by kernel_rfl) (fun _ _ _ h => h) (Or.inl ⟨by rfl, fun w' hw' => ?_⟩) hHeld ?_
  · first | (go_simp; done) | (go_simp; rfl)
  try simp only [Act.put, List.setIfInBounds_toArray, List.set_cons_zero, List.set_cons_succ]
  refine wpAnyH_take (i := 17) (oi := { dst := some 13, op := Go.Op.build 58 #[(0, Go.Operand.const (Go.Value.bool true))], type := 58, pos := _, after := #[], guard := none }) (v := .agg #[.bool true, .bool false]) rfl (by kernel_rfl) (by kernel_rfl) (by kernel_rfl) (fun _ _ _ h => h) (Or.inl ⟨by rfl, fun w' hw' => ?_⟩) hHeld ?_
  · first | (go_simp; done) | (go_simp; rfl)
  try simp only [Act.put, List.setIfInBounds_toArray, List.set_cons_zero, List.set_cons_succ]
  refine wpAnyH_take (i := 19) (oi := { dst := some 14, op := Go.Op.build 62 #[(0, Go.Operand.const (Go.Value.int Go.IntKind.i64 2)), (1, Go.Operand.const (Go.Value.int Go.IntKind.i64 1))], type := 62, pos := _, after := #[], guard := none }) (v := .agg #[.int .i64 2, .int .i64 1]) rfl (by kernel_rfl) (by kernel_rfl) (by kernel_rfl) (fun _ _ _ h => h) (Or.inl ⟨by rfl, fun w' hw' => ?_⟩) hHeld ?_
  · first | (go_simp; done) | (go_simp; rfl)
  try simp only [Act.put, List.setIfInBounds_toArray, List.set_cons_zero, List.set_cons_succ]
  refine wpAnyH_take (i := 20) (oi := { dst := some 15, op := Go.Op.build 58 #[(1, Go.Operand.const (Go.Value.bool true))], type := 58, pos := _, after := #[], guard := none }) (v := .agg #[.bool false, .bool true]) rfl (by kernel_rfl) (by kernel_rfl) (by kernel_rfl) (fun _ _ _ h => h) (Or.inl ⟨by rfl, fun w' hw' => ?_⟩) hHeld ?_
  · first | (go_simp; done) | (go_simp; rfl)
  try simp only [Act.put, List.setIfInBounds_toArray, List.set_cons_zero, List.set_cons_succ]
  refine wpAnyH_take (i := 22) (oi := { dst := some 16, op := Go.Op.build 62 #[(0, Go.Operand.const (Go.Value.int Go.IntKind.i64 3)), (1, Go.Operand.const (Go.Value.int Go.IntKind.i64 1))], type := 62, pos := _, after := #[], guard := none }) (v := .agg #[.int .i64 3, .int .i64 1]) rfl (by kernel_rfl) (by kernel_rfl) (by kernel_rfl) (fun _ _ _ h => h) (Or.inl ⟨by rfl, fun w' hw' => ?_⟩) hHeld ?_
  · first | (go_simp; done) | (go_simp; rfl)
  try simp only [Act.put, List.setIfInBounds_toArray, List.set_cons_zero, List.set_cons_succ]
  refine wpAnyH_take (i := 23) (oi := { dst := some 17, op := Go.Op.build 58 #[(1, Go.Operand.const (Go.Value.bool true))], type := 58, pos := _, after := #[], guard := none }) (v := .agg #[.bool false, .bool true]) rfl (by kernel_rfl) (by kernel_rfl) (by kernel_rfl) (fun _ _ _ h => h) (Or.inl ⟨by rfl, fun w' hw' => ?_⟩) hHeld ?_
  · first | (go_simp; done) | (go_simp; rfl)
  try simp only [Act.put, List.setIfInBounds_toArray, List.set_cons_zero, List.set_cons_succ]
  refine wpAnyH_take (i := 25) (oi := { dst := some 18, op := Go.Op.build 62 #[(0, Go.Operand.const (Go.Value.int Go.IntKind.i64 4)), (1, Go.Operand.const (Go.Value.int Go.IntKind.i64 1))], type := 62, pos := _, after := #[], guard := none }) (v := .agg #[.int .i64 4, .int .i64 1]) rfl (by kernel_rfl) (by kernel_rfl) (by kernel_rfl) (fun _ _ _ h => h) (Or.inl ⟨by rfl, fun w' hw' => ?_⟩) hHeld ?_
  · first | (go_simp; done) | (go_simp; rfl)
  try simp only [Act.put, List.setIfInBounds_toArray, List.set_cons_zero, List.set_cons_succ]
  refine wpAnyH_take (i := 26) (oi := { dst := some 19, op := Go.Op.build 58 #[(1, Go.Operand.const (Go.Value.bool true))], type := 58, pos := _, after := #[], guard := none }) (v := .agg #[.bool false, .bool true]) rfl (by kernel_rfl) (by kernel_rfl) (by kernel_rfl) (fun _ _ _ h => h) (Or.inl ⟨by rfl, fun w' hw' => ?_⟩) hHeld ?_
  · first | (go_simp; done) | (go_simp; rfl)
  try simp only [Act.put, List.setIfInBounds_toArray, List.set_cons_zero, List.set_cons_succ]
  refine wpAnyH_take (i := 28) (oi := { dst := some 20, op := Go.Op.build 62 #[(0, Go.Operand.const (Go.Value.int Go.IntKind.i64 5)), (1, Go.Operand.const (Go.Value.int Go.IntKind.i64 1))], type := 62, pos := _, after := #[], guard := none }) (v := .agg #[.int .i64 5, .int .i64 1]) rfl (by kernel_rfl) (by kernel_rfl) (by kernel_rfl) (fun _ _ _ h => h) (Or.inl ⟨by rfl, fun w' hw' => ?_⟩) hHeld ?_
  · first | (go_simp; done) | (go_simp; rfl)
  try simp only [Act.put, List.setIfInBounds_toArray, List.set_cons_zero, List.set_cons_succ]
  refine wpAnyH_take (i := 29) (oi := { dst := some 21, op := Go.Op.build 58 #[(1, Go.Operand.const (Go.Value.bool true))], type := 58, pos := _, after := #[], guard := none }) (v := .agg #[.bool false, .bool true]) rfl (by kernel_rfl) (by kernel_rfl) (by kernel_rfl) (fun _ _ _ h => h) (Or.inl ⟨by rfl, fun w' hw' => ?_⟩) hHeld ?_
  · first | (go_simp; done) | (go_simp; rfl)
  try simp only [Act.put, List.setIfInBounds_toArray, List.set_cons_zero, List.set_cons_succ]
  refine wpAnyH_ready (rs := [0]) (by kernel_rfl) (by simp) ?_
  refine AllReadyH.cons (o := { dst := some 1, op := Go.Op.makeMap 60 none, type := 60, pos := _, after := #[], guard := none }) rfl (fun K hK => ?_) AllReadyH.nil
  rw [if_pos (by rfl)]
  go_wp2_with fail
  rw [run_makeMap]
  simp only [Result.andThen_ok, Oper.upon]
  refine hK.out _ _ trivial (fun _ => ?_)
  clear hK K
  try simp only [Act.put, List.setIfInBounds_toArray, List.set_cons_zero, List.set_cons_succ]
  refine wpAnyH_pile (I := IL) (fun D W => MJ w.heap.size D W ∧ Below w.heap.size w W) (by kernel_rfl) 2 ?step ?fin (by decide) 10 [] _ rfl (by simp) (by simp) ⟨⟨#[], 0, heap_at _ _ _ (by simp [heap_drew]), rfl⟩, ((below_drew w).alloc (by simp [heap_drew]) _)⟩
  case step =>
    rintro D i W ⟨hJ, hB⟩ hi hD hs
    obtain ⟨ob, hr, hM, hg⟩ := hJ.put hi hD hs
    have hB2 : Below w.heap.size w (setBlock W w.heap.size ob) := hB.grown hg hB.size (fun k e => by cases e; exact Nat.le_refl _)
    simp only [IL, List.mem_cons, List.not_mem_nil, or_false] at hi
    rcases hi with rfl | rfl | rfl | rfl | rfl | rfl | rfl | rfl | rfl | rfl
    · refine wpOp_step (o := { dst := none, op := Go.Op.insert 60 (Go.Operand.tmp 1) (Go.Operand.tmp 2) (Go.Operand.tmp 3), type := 0, pos := _, after := #[{ on := 0, ground := Go.Ground.data }, { on := 1, ground := Go.Ground.data }, { on := 2, ground := Go.Ground.data }], guard := none }) rfl (fun K' hK => ?_)
      rw [if_pos (by rfl)]
      exact wp_insert (.tmp 1) (.tmp 2) (.tmp 3) _ rfl _ _ _ rfl rfl rfl hr (hK _ _ ⟨rfl, ⟨hM, hB2⟩, trivial⟩)
    · refine wpOp_step (o := { dst := none, op := Go.Op.insert 60 (Go.Operand.tmp 1) (Go.Operand.tmp 4) (Go.Operand.tmp 5), type := 0, pos := _, after := #[{ on := 0, ground := Go.Ground.data }, { on := 4, ground := Go.Ground.data }, { on := 5, ground := Go.Ground.data }], guard := none }) rfl (fun K' hK => ?_)
      rw [if_pos (by rfl)]
      exact wp_insert (.tmp 1) (.tmp 4) (.tmp 5) _ rfl _ _ _ rfl rfl rfl hr (hK _ _ ⟨rfl, ⟨hM, hB2⟩, trivial⟩)
    · refine wpOp_step (o := { dst := none, op := Go.Op.insert 60 (Go.Operand.tmp 1) (Go.Operand.tmp 6) (Go.Operand.tmp 7), type := 0, pos := _, after := #[{ on := 0, ground := Go.Ground.data }, { on := 7, ground := Go.Ground.data }, { on := 8, ground := Go.Ground.data }], guard := none }) rfl (fun K' hK => ?_)
      rw [if_pos (by rfl)]
      exact wp_insert (.tmp 1) (.tmp 6) (.tmp 7) _ rfl _ _ _ rfl rfl rfl hr (hK _ _ ⟨rfl, ⟨hM, hB2⟩, trivial⟩)
    · refine wpOp_step (o := { dst := none, op := Go.Op.insert 60 (Go.Operand.tmp 1) (Go.Operand.tmp 8) (Go.Operand.tmp 9), type := 0, pos := _, after := #[{ on := 0, ground := Go.Ground.data }, { on := 10, ground := Go.Ground.data }, { on := 11, ground := Go.Ground.data }], guard := none }) rfl (fun K' hK => ?_)
      rw [if_pos (by rfl)]
      exact wp_insert (.tmp 1) (.tmp 8) (.tmp 9) _ rfl _ _ _ rfl rfl rfl hr (hK _ _ ⟨rfl, ⟨hM, hB2⟩, trivial⟩)
    · refine wpOp_step (o := { dst := none, op := Go.Op.insert 60 (Go.Operand.tmp 1) (Go.Operand.tmp 10) (Go.Operand.tmp 11), type := 0, pos := _, after := #[{ on := 0, ground := Go.Ground.data }, { on := 13, ground := Go.Ground.data }, { on := 14, ground := Go.Ground.data }], guard := none }) rfl (fun K' hK => ?_)
      rw [if_pos (by rfl)]
      exact wp_insert (.tmp 1) (.tmp 10) (.tmp 11) _ rfl _ _ _ rfl rfl rfl hr (hK _ _ ⟨rfl, ⟨hM, hB2⟩, trivial⟩)
    · refine wpOp_step (o := { dst := none, op := Go.Op.insert 60 (Go.Operand.tmp 1) (Go.Operand.tmp 12) (Go.Operand.tmp 13), type := 0, pos := _, after := #[{ on := 0, ground := Go.Ground.data }, { on := 16, ground := Go.Ground.data }, { on := 17, ground := Go.Ground.data }], guard := none }) rfl (fun K' hK => ?_)
      rw [if_pos (by rfl)]
      exact wp_insert (.tmp 1) (.tmp 12) (.tmp 13) _ rfl _ _ _ rfl rfl rfl hr (hK _ _ ⟨rfl, ⟨hM, hB2⟩, trivial⟩)
    · refine wpOp_step (o := { dst := none, op := Go.Op.insert 60 (Go.Operand.tmp 1) (Go.Operand.tmp 14) (Go.Operand.tmp 15), type := 0, pos := _, after := #[{ on := 0, ground := Go.Ground.data }, { on := 19, ground := Go.Ground.data }, { on := 20, ground := Go.Ground.data }], guard := none }) rfl (fun K' hK => ?_)
      rw [if_pos (by rfl)]
      exact wp_insert (.tmp 1) (.tmp 14) (.tmp 15) _ rfl _ _ _ rfl rfl rfl hr (hK _ _ ⟨rfl, ⟨hM, hB2⟩, trivial⟩)
    · refine wpOp_step (o := { dst := none, op := Go.Op.insert 60 (Go.Operand.tmp 1) (Go.Operand.tmp 16) (Go.Operand.tmp 17), type := 0, pos := _, after := #[{ on := 0, ground := Go.Ground.data }, { on := 22, ground := Go.Ground.data }, { on := 23, ground := Go.Ground.data }], guard := none }) rfl (fun K' hK => ?_)
      rw [if_pos (by rfl)]
      exact wp_insert (.tmp 1) (.tmp 16) (.tmp 17) _ rfl _ _ _ rfl rfl rfl hr (hK _ _ ⟨rfl, ⟨hM, hB2⟩, trivial⟩)
    · refine wpOp_step (o := { dst := none, op := Go.Op.insert 60 (Go.Operand.tmp 1) (Go.Operand.tmp 18) (Go.Operand.tmp 19), type := 0, pos := _, after := #[{ on := 0, ground := Go.Ground.data }, { on := 25, ground := Go.Ground.data }, { on := 26, ground := Go.Ground.data }], guard := none }) rfl (fun K' hK => ?_)
      rw [if_pos (by rfl)]
      exact wp_insert (.tmp 1) (.tmp 18) (.tmp 19) _ rfl _ _ _ rfl rfl rfl hr (hK _ _ ⟨rfl, ⟨hM, hB2⟩, trivial⟩)
    · refine wpOp_step (o := { dst := none, op := Go.Op.insert 60 (Go.Operand.tmp 1) (Go.Operand.tmp 20) (Go.Operand.tmp 21), type := 0, pos := _, after := #[{ on := 0, ground := Go.Ground.data }, { on := 28, ground := Go.Ground.data }, { on := 29, ground := Go.Ground.data }], guard := none }) rfl (fun K' hK => ?_)
      rw [if_pos (by rfl)]
      exact wp_insert (.tmp 1) (.tmp 20) (.tmp 21) _ rfl _ _ _ rfl rfl rfl hr (hK _ _ ⟨rfl, ⟨hM, hB2⟩, trivial⟩)
  case fin =>
    rintro D W ⟨⟨es, clock, hJ1, hJ2⟩, hB⟩ hp
    have HE : Hid (StEnd w (.returned (.map (some w.heap.size))) W) := ⟨w.heap.size, rfl, ⟨es, clock, hJ1, by rw [hJ2]; exact hp.map _⟩, Nat.le_refl _, hB⟩
    clear hJ1 hJ2 hB hp
    have hHeld : True := trivial
    refine wpAnyH_take (i := 31) (oi := { dst := some 22, op := Go.Op.move (Go.Operand.tmp 1), type := 60, pos := _, after := #[{ on := 0, ground := Go.Ground.data }, { on := 1, ground := Go.Ground.data }, { on := 2, ground := Go.Ground.data }, { on := 3, ground := Go.Ground.data }, { on := 4, ground := Go.Ground.data }, { on := 5, ground := Go.Ground.data }, { on := 6, ground := Go.Ground.data }, { on := 7, ground := Go.Ground.data }, { on := 8, ground := Go.Ground.data }, { on := 9, ground := Go.Ground.data }, { on := 10, ground := Go.Ground.data }, { on := 11, ground := Go.Ground.data }, { on := 12, ground := Go.Ground.data }, { on := 13, ground := Go.Ground.data }, { on := 14, ground := Go.Ground.data }, { on := 15, ground := Go.Ground.data }, { on := 16, ground := Go.Ground.data }, { on := 17, ground := Go.Ground.data }, { on := 18, ground := Go.Ground.data }, { on := 19, ground := Go.Ground.data }, { on := 20, ground := Go.Ground.data }, { on := 21, ground := Go.Ground.data }, { on := 22, ground := Go.Ground.data }, { on := 23, ground := Go.Ground.data }, { on := 24, ground := Go.Ground.data }, { on := 25, ground := Go.Ground.data }, { on := 26, ground := Go.Ground.data }, { on := 27, ground := Go.Ground.data }, { on := 28, ground := Go.Ground.data }, { on := 29, ground := Go.Ground.data }, { on := 30, ground := Go.Ground.data }], guard := none }) (v := .map (some w.heap.size)) rfl (by kernel_rfl) (by kernel_rfl) (by kernel_rfl) (fun _ _ _ h => h) (Or.inl ⟨by rfl, fun w' hw' => ?_⟩) hHeld ?_
    · first | (go_simp; done) | (go_simp; rfl)
    try simp only [Act.put, List.setIfInBounds_toArray, List.set_cons_zero, List.set_cons_succ]
    refine wpAnyH_take (i := 32) (oi := { dst := some 0, op := Go.Op.assign (Go.Operand.tmp 22), type := 60, pos := _, after := #[{ on := 31, ground := Go.Ground.data }, { on := 0, ground := Go.Ground.phase }, { on := 1, ground := Go.Ground.phase }, { on := 2, ground := Go.Ground.phase }, { on := 3, ground := Go.Ground.phase }, { on := 4, ground := Go.Ground.phase }, { on := 5, ground := Go.Ground.phase }, { on := 6, ground := Go.Ground.phase }, { on := 7, ground := Go.Ground.phase }, { on := 8, ground := Go.Ground.phase }, { on := 9, ground := Go.Ground.phase }, { on := 10, ground := Go.Ground.phase }, { on := 11, ground := Go.Ground.phase }, { on := 12, ground := Go.Ground.phase }, { on := 13, ground := Go.Ground.phase }, { on := 14, ground := Go.Ground.phase }, { on := 15, ground := Go.Ground.phase }, { on := 16, ground := Go.Ground.phase }, { on := 17, ground := Go.Ground.phase }, { on := 18, ground := Go.Ground.phase }, { on := 19, ground := Go.Ground.phase }, { on := 20, ground := Go.Ground.phase }, { on := 21, ground := Go.Ground.phase }, { on := 22, ground := Go.Ground.phase }, { on := 23, ground := Go.Ground.phase }, { on := 24, ground := Go.Ground.phase }, { on := 25, ground := Go.Ground.phase }, { on := 26, ground := Go.Ground.phase }, { on := 27, ground := Go.Ground.phase }, { on := 28, ground := Go.Ground.phase }, { on := 29, ground := Go.Ground.phase }, { on := 30, ground := Go.Ground.phase }, { on := 31, ground := Go.Ground.phase }], guard := none }) (v := .map (some w.heap.size)) rfl (by kernel_rfl) (by kernel_rfl) (by kernel_rfl) (fun _ _ _ h => h) (Or.inl ⟨by rfl, fun w' hw' => ?_⟩) hHeld ?_
    · first | (go_simp; done) | (go_simp; rfl)
    try simp only [Act.put, List.setIfInBounds_toArray, List.set_cons_zero, List.set_cons_succ]
    refine wpAnyH_done (by kernel_rfl) ?_ _
    go_wp2
    go_ret
    exact HE.out
end Go.Proofs.Ytpmbbnmpldeajaa.GC
