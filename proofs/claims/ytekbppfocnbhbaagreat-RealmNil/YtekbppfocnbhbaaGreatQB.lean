/- The program's map of answers in memory. -/
import Derived.Test.YtekbppfocnbhbaaGreatE9
import Derived.Test.YtekbppfocnbhbaaGreatQA
import Derived.Maps.Own
set_option linter.unusedVariables false
set_option linter.unusedSimpArgs false
namespace Go.Proofs.YtekbppfocnbhbaaGreat.R5
open scoped Classical
open Go.RowKit
open Go.ChangeMaps (setBlock heap_setBlock_same heap_setBlock_other)

def dV (a : List UInt8) : Value := .agg (a.map B8).toArray
/-- All questions can be keys, all answers are of 32 bytes, no question is there twice. -/
structure lOk (l : List (Qn × List UInt8)) : Prop where
  all : ∀ x ∈ l, kOk x.1 ∧ x.2.length = 32
  once : (l.map (·.1)).Nodup
/-- A map that holds just these answers. -/
def MH (w : World) (mb : Nat) (l : List (Qn × List UInt8)) : Prop :=
  ∃ es clock, w.heap[mb]? = some (.map es clock) ∧ (es.toList.map fun e => (e.key, e.val)).Perm (l.map fun x => (kV x.1, dV x.2))
theorem MH.lt {w : World} {mb : Nat} {l : List (Qn × List UInt8)} (h : MH w mb l) : mb < w.heap.size := by
  obtain ⟨es, c, h1, _⟩ := h; exact row_lt h1
theorem MH.keep {w w' : World} {mb : Nat} {l : List (Qn × List UInt8)} (h : MH w mb l) (e : w'.heap[mb]? = w.heap[mb]?) : MH w' mb l := by
  obtain ⟨es, c, h1, h2⟩ := h; exact ⟨es, c, e.trans h1, h2⟩
theorem MH.mem {es : Array MapEntry} {l : List (Qn × List UInt8)} (h : (es.toList.map fun e => (e.key, e.val)).Perm (l.map fun x => (kV x.1, dV x.2))) {e : MapEntry} (he : e ∈ es.toList) : ∃ x ∈ l, e.key = kV x.1 ∧ e.val = dV x.2 := by
  have := h.subset (List.mem_map.2 ⟨e, he, rfl⟩)
  obtain ⟨x, hx, hxe⟩ := List.mem_map.1 this
  simp only [Prod.mk.injEq] at hxe
  exact ⟨x, hx, hxe.1.symm, hxe.2.symm⟩
theorem MH.mem' {es : Array MapEntry} {l : List (Qn × List UInt8)} (h : (es.toList.map fun e => (e.key, e.val)).Perm (l.map fun x => (kV x.1, dV x.2))) {x : Qn × List UInt8} (hx : x ∈ l) : ∃ e ∈ es.toList, e.key = kV x.1 ∧ e.val = dV x.2 := by
  have := h.symm.subset (List.mem_map.2 ⟨x, hx, rfl⟩)
  obtain ⟨e, he, hxe⟩ := List.mem_map.1 this
  simp only [Prod.mk.injEq] at hxe
  exact ⟨e, he, hxe.1, hxe.2⟩
theorem nodup_snd : ∀ {l : List (Qn × List UInt8)}, (l.map (·.1)).Nodup → ∀ {q : Qn} {A B : List UInt8}, (q, A) ∈ l → (q, B) ∈ l → A = B
  | [], _, _, _, _, h, _ => by simp at h
  | x :: l, hn, q, A, B, h1, h2 => by
    simp only [List.map_cons, List.nodup_cons] at hn
    rcases List.mem_cons.1 h1 with e1 | e1 <;> rcases List.mem_cons.1 h2 with e2 | e2
    · rw [← e1] at e2; simpa using e2.symm
    · exact absurd (List.mem_map.2 ⟨_, e2, rfl⟩) (by rw [← e1] at hn; exact hn.1)
    · exact absurd (List.mem_map.2 ⟨_, e1, rfl⟩) (by rw [← e2] at hn; exact hn.1)
    · exact nodup_snd hn.2 e1 e2
theorem find_q {w : World} {mb : Nat} {l : List (Qn × List UInt8)} (hl : lOk l) {es : Array MapEntry} (h2 : (es.toList.map fun e => (e.key, e.val)).Perm (l.map fun x => (kV x.1, dV x.2))) {q : Qn} (hq : kOk q) :
    (fndA q l = none ∧ (Instr.findKey 120 (kV q) es.toList).run Tryz.prog w = .ok none w) ∨
    (∃ A j, fndA q l = some A ∧ (Instr.findKey 120 (kV q) es.toList).run Tryz.prog w = .ok (some (j, dV A)) w) := by
  obtain ⟨kl, hk⟩ := key_ok q hq
  rcases lawQ.find w hk es.toList (fun e he => by obtain ⟨x, hx, e1, _⟩ := MH.mem h2 he; rw [e1]; exact key_ok x.1 (hl.all x hx).1) with ⟨hr, hn⟩ | ⟨j, e, hr, hj, he⟩
  · refine .inl ⟨?_, hr⟩
    cases hf : fndA q l with
    | none => rfl
    | some A =>
      obtain ⟨e, he, e1, _⟩ := MH.mem' h2 (fndA_some hf)
      exact absurd e1 (hn e he)
  · obtain ⟨x, hx, e1, e2⟩ := MH.mem h2 (List.mem_of_getElem? hj)
    have hxq : x.1 = q := kV_inj (hl.all x hx).1.key hq.key (e1.symm.trans he)
    refine .inr ⟨x.2, j, ?_, by rw [← e2]; exact hr⟩
    cases hf : fndA q l with
    | none => exact absurd hxq (fndA_none hf x hx)
    | some A =>
      have := fndA_some hf
      rw [nodup_snd hl.once this (B := x.2) (by rw [← hxq]; exact hx)]
/-- The answer of the map to q, with or without ok. -/
def lookV (l : List (Qn × List UInt8)) (q : Qn) : Value := match fndA q l with | some A => dV A | none => dV (List.replicate 32 0)
theorem mh_look {w : World} {mb : Nat} {l : List (Qn × List UInt8)} (hl : lOk l) (h : MH w mb l) {q : Qn} (hq : kOk q) (c : Bool) (hz : (zeroValue 33).run Tryz.prog w = .ok (dV (List.replicate 32 0)) w) :
    (Instr.lookup 114 (.map (some mb)) (kV q) c).run Tryz.prog w = .ok (if c then .tuple #[lookV l q, .bool (fndA q l).isSome] else lookV l q) w := by
  obtain ⟨es, clock, h1, h2⟩ := h
  obtain ⟨kl, hk⟩ := key_ok q hq
  rcases find_q (w := w) (mb := mb) hl h2 hq with ⟨hf, hr⟩ | ⟨A, j, hf, hr⟩
  · simp [Instr.lookup, run_underlying Tryz.underlying114, MapKept.run_getObj_map h1, lawQ.check w _ hk, hr, hz, hf, lookV, Result.andThen]
  · simp [Instr.lookup, run_underlying Tryz.underlying114, MapKept.run_getObj_map h1, lawQ.check w _ hk, hr, hf, lookV, Result.andThen]
theorem mh_put {w : World} {mb : Nat} {l : List (Qn × List UInt8)} (hl : lOk l) (h : MH w mb l) {q : Qn} (hq : kOk q) (A : List UInt8) (hf : fndA q l = none) :
    ∃ o, (Instr.mapUpdate 114 (.map (some mb)) (kV q) (dV A)).run Tryz.prog w = .ok () (setBlock w mb o) ∧ MH (setBlock w mb o) mb (l ++ [(q, A)]) ∧ w.grownBy (setBlock w mb o) (some mb) := by
  obtain ⟨es, clock, h1, h2⟩ := h
  obtain ⟨kl, hk⟩ := key_ok q hq
  rcases find_q (w := w) (mb := mb) hl h2 hq with ⟨_, hr⟩ | ⟨A', j, hf', hr⟩
  · refine ⟨.map (es.push ⟨kV q, dV A, clock⟩) (clock + 1), ?_, ⟨_, _, heap_setBlock_same h1 _, ?_⟩, ⟨rfl, rfl, rfl, by simp [setBlock], fun i _ hi => heap_setBlock_other h1 _ (fun e => hi (by rw [e]))⟩⟩
    · simp [Instr.mapUpdate, run_underlying Tryz.underlying114, MapKept.run_getObj_map h1, lawQ.check w false hk, hr, MapKept.run_setObj_map _ h1, Result.andThen, setBlock]
    · rw [Array.toList_push, List.map_append, List.map_append]
      exact h2.append_right _
  · rw [hf] at hf'; cases hf'
theorem lOk.snoc {l : List (Qn × List UInt8)} (h : lOk l) {q : Qn} (hq : kOk q) {A : List UInt8} (hA : A.length = 32) (hf : fndA q l = none) : lOk (l ++ [(q, A)]) := by
  refine ⟨fun x hx => ?_, ?_⟩
  · rcases List.mem_append.1 hx with hx | hx
    · exact h.all x hx
    · have : x = (q, A) := by simpa using hx
      subst this
      exact ⟨hq, hA⟩
  · rw [List.map_append, List.nodup_append]
    refine ⟨h.once, by simp, fun a ha b hb e => ?_⟩
    have hbq : b = q := by simpa using hb
    obtain ⟨x, hx, hxa⟩ := List.mem_map.1 ha
    exact fndA_none hf x hx (by rw [hxa, e, hbq])
end Go.Proofs.YtekbppfocnbhbaaGreat.R5
