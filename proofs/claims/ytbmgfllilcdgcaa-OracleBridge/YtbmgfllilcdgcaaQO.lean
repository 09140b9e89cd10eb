/- What the statements know: the chapter's rows. -/
import Derived.Test.YtbmgfllilcdgcaaQN
set_option linter.unusedVariables false
set_option linter.unusedSimpArgs false
namespace Go.Proofs.Ytbmgfllilcdgcaa.R5
open Go.RowKit

theorem PO.lower {B B' og mb : Nat} {S : Nat → Prop} {w : World} {o : Pra} {dv ov : Value} (h : PO B og mb S w o dv ov) (hB : B' ≤ B) : PO B' og mb S w o dv ov :=
  ⟨h.ml, h.row, h.draws, h.dro, h.ok, own_lower h.order hB, h.map, h.sog, h.smb, h.sov, fun k hk => Nat.le_trans hB (h.low k hk), h.top⟩
/-- An oracle in memory, and rows of the caller's own beside it. -/
structure KN (w : World) (og mb : Nat) (o : Pra) (rows : List (Nat × List UInt8)) (X : World) : Prop where
  ex : ∃ S dv ov, PO w.heap.size og mb S X o dv ov ∧ Below w.heap.size w X ∧ ∀ r ∈ rows, X.heap[r.1]? = some (.cells (r.2.map B8).toArray 23 (0, 0)) ∧ ¬ S r.1
section
variable {w X : World} {og mb : Nat} {o : Pra} {rows : List (Nat × List UInt8)}
theorem KN.bel (h : KN w og mb o rows X) : Below w.heap.size w X := by obtain ⟨_, _, _, _, h, _⟩ := h.ex; exact h
theorem KN.row (h : KN w og mb o rows X) {r : Nat × List UInt8} (hr : r ∈ rows) : X.rangeAt r.1 0 (r.2.map B8) := by obtain ⟨_, _, _, _, _, h⟩ := h.ex; exact rangeAt_row (h r hr).1
theorem KN.mapCell (h : KN w og mb o rows X) : X.cell? ⟨og, 35, none⟩ = some (.map (some mb)) := by obtain ⟨_, _, _, h, _, _⟩ := h.ex; exact h.cells.2.2.2.1
theorem KN.step {Y : World} (h : KN w og mb o rows X) (hb : Below X.heap.size X Y) : KN w og mb o rows Y := by
  obtain ⟨S, dv, ov, h1, h2, h3⟩ := h.ex
  exact .mk ⟨S, dv, ov, h1.below hb, h2.trans (hb.mono h2.size), fun r hr => ⟨(hb.block _ (row_lt (h3 r hr).1)).trans (h3 r hr).1, (h3 r hr).2⟩⟩
theorem KN.alloc (h : KN w og mb o rows X) (ob : Obj) : KN w og mb o rows (X.alloc ob) := h.step ((Below.refl _ _).alloc (Nat.le_refl _) _)
theorem KN.newrow {ZL : List Value} (h : KN w og mb o rows X) (A : List UInt8) : KN w og mb o ((X.heap.size, A) :: rows) ((X.alloc (.cells ZL.toArray 23 (0, 0))).setRow X.heap.size (A.map B8).toArray) := by
  have hb : Below X.heap.size X ((X.alloc (.cells ZL.toArray 23 (0, 0))).setRow X.heap.size (A.map B8).toArray) := below_setRow ((Below.refl _ _).alloc (Nat.le_refl _) _) (Nat.le_refl _) _
  obtain ⟨S, dv, ov, h1, h2, h3⟩ := h.ex
  refine .mk ⟨S, dv, ov, h1.below hb, h2.trans (hb.mono h2.size), fun r hr => ?_⟩
  rcases List.mem_cons.1 hr with rfl | hr
  · exact ⟨setRow_heap _ _ _ _ _ _ (heap_alloc_new _ _), fun h => by have := h1.top _ h; simp at this⟩
  · exact ⟨(hb.block _ (row_lt (h3 r hr).1)).trans (h3 r hr).1, (h3 r hr).2⟩
theorem KN.ofNew {Y : World} {i : Bool} {m : List UInt8} {ds : List (List UInt8)} {dv : Value} (hb : Below w.heap.size w X) (hp : PO X.heap.size og mb (fun k => k = og ∨ k = mb) Y ⟨i, m, ds, []⟩ dv (.slice none 0 0)) (hY : Below X.heap.size X Y)
    (hr : ∀ r ∈ rows, X.heap[r.1]? = some (.cells (r.2.map B8).toArray 23 (0, 0))) : KN w og mb ⟨i, m, ds, []⟩ rows Y := by
  refine .mk ⟨_, dv, _, hp.lower hb.size, hb.trans (hY.mono hb.size), fun r hr' => ?_⟩
  have hl := row_lt (hr r hr')
  exact ⟨(hY.block _ hl).trans (hr r hr'), fun h => by have := hp.low _ h; omega⟩
/-- Behind a call that has asked. -/
theorem KN.asked {Y : World} {S : Nat → Prop} {dv : Value} {o' : Pra} (hp : ∀ k, S k → w.heap.size ≤ k) (h2 : Below w.heap.size w X) (h3 : ∀ r ∈ rows, X.heap[r.1]? = some (.cells (r.2.map B8).toArray 23 (0, 0)) ∧ ¬ S r.1) (hf : Fr S X Y)
    (hq : ∃ ov', PO w.heap.size og mb (fun k => S k ∨ (X.heap.size ≤ k ∧ k < Y.heap.size)) Y o' dv ov') : KN w og mb o' rows Y := by
  obtain ⟨ov', hq⟩ := hq
  have hs2 := h2.size
  refine .mk ⟨_, dv, ov', hq, ⟨hf.os.trans h2.os, hf.tape.trans h2.tape, hf.output.trans h2.output, Nat.le_trans h2.size hf.size, fun k hk => (hf.block k (by omega) (fun h => by have := hp k h; omega)).trans (h2.block k hk)⟩, fun r hr => ?_⟩
  have hl := row_lt (h3 r hr).1
  exact ⟨(hf.block _ hl (h3 r hr).2).trans (h3 r hr).1, fun h => h.elim (h3 r hr).2 (fun h => by omega)⟩
theorem KN.dig (h : KN w og mb o rows X) (hid : o.ideal = true) (hll : o.log.length < 1000000) (d : Int) (hd : 1 ≤ d ∧ d ≤ 16) (pv : Value) (l : List UInt8) (hll2 : l.length ≤ 1000000) (hp : HP X pv [l]) :
    Calls Try.prog 18 #[.pointer (some ⟨og, 0, none⟩), .int .i64 d, pv] X fun e Y => e = .returned (okV (pAsk o ⟨1, List.replicate 32 0, d, l⟩ (drawD o.draws o.log.length)).1) ∧ KN w og mb (pAsk o ⟨1, List.replicate 32 0, d, l⟩ (drawD o.draws o.log.length)).2 rows Y := by
  obtain ⟨S, dv, ov, h1, h2, h3⟩ := h.ex
  have hfl : [l].flatten = l := by simp
  have hq : kOk ⟨1, List.replicate 32 0, d, l⟩ := ⟨by simp, rfl, by have := hd.1; have := hd.2; simp [Lit.wf, IntKind.min, IntKind.max, IntKind.signed, IntKind.bits]; omega, by show l.length ≤ _; omega⟩
  have hok : askB ⟨1, List.replicate 32 0, d, l⟩ = true := by unfold askB; simp; omega
  refine (pdig_ok w.heap.size og mb S pv dv ov o d [l] (pAsk o ⟨1, List.replicate 32 0, d, l⟩ (drawD o.draws o.log.length)) X h2.size h1 hp (by simp) (by rw [hfl]; omega) (pAsk_len h1.ok (drawD_len _ _ h1.draws.1)) (fun W v hb hv => ?_)).mono ?_
  · rw [hfl] at hv ⊢
    exact pask_ideal w.heap.size og mb S v dv ov o _ W hid (Nat.le_trans h2.size hb.size) hll (h1.below hb) hq hv hok
  · rintro e Y ⟨rfl, hf, hq⟩
    exact ⟨rfl, KN.asked h1.low h2 h3 hf hq⟩
theorem KN.ask_bad (h : KN w og mb o rows X) (dq : Value) (q : Qn) (hqk : q.key.length = 32) (hbad : askB q = false) :
    Calls Try.prog 9 #[.pointer (some ⟨og, 0, none⟩), .agg (qL q dq).toArray] X fun e Y => e = .returned (errV 2) ∧ KN w og mb o rows Y :=
  (pask_bad og mb dq q X h.mapCell hqk hbad).mono fun e Y ⟨he, hb⟩ => ⟨he, h.step hb⟩
theorem KN.stream_bad (h : KN w og mb o rows X) (dq : Value) (q : Qn) (n : Int) (hqk : q.key.length = 32) (hbad : strB q n = false) :
    Calls Try.prog 17 #[.pointer (some ⟨og, 0, none⟩), .agg (qL q dq).toArray, .int .i64 n] X fun e Y => e = .returned (errS 2) ∧ KN w og mb o rows Y :=
  (pstream_bad og mb dq q n X h.mapCell hqk hbad).mono fun e Y ⟨he, hb⟩ => ⟨he, h.step hb⟩
theorem KN.used (h : KN w og mb o rows X) (hid : o.ideal = true) :
    Calls Try.prog 20 #[.pointer (some ⟨og, 0, none⟩)] X fun e Y => e = .returned (.int .i64 o.log.length) ∧ Y = X := by
  obtain ⟨S, dv, ov, h1, h2, h3⟩ := h.ex
  exact used_any h1 hid
end
end Go.Proofs.Ytbmgfllilcdgcaa.R5
