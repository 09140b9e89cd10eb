/- The document's oracle, asked in either mode; its Digest. -/
import Derived.Test.YtbmmibmfjhehhaaGreatZW
import Derived.Test.YtbmmibmfjhehhaaGreatBA
set_option linter.unusedVariables false
set_option linter.unusedSimpArgs false
namespace Go.Proofs.YtbmmibmfjhehhaaGreat.R5
open scoped Classical
open Go.RowKit

def askC (o : Ora) (q : Qn) (C : List UInt8) : List UInt8 × Ora :=
  match fndA q o.log with
  | some A => (A, o)
  | none => (C, { o with log := o.log ++ [(q, C)] })
theorem askC_some {o : Ora} {q : Qn} {A C : List UInt8} (h : fndA q o.log = some A) : askC o q C = (A, o) := by unfold askC; rw [h]
theorem askC_none {o : Ora} {q : Qn} {C : List UInt8} (h : fndA q o.log = none) : askC o q C = (C, { o with log := o.log ++ [(q, C)] }) := by unfold askC; rw [h]
def QEnd (B og : Nat) (S : Nat → Prop) (w : World) (r : List UInt8 × Ora) (dv : Value) (t : TypeId) (e : Ending) (w' : World) : Prop :=
  e = .returned (.agg (r.1.map B8).toArray) ∧ Fr S w w' ∧ ∃ lv' lds', OR B og (fun k => S k ∨ (w.heap.size ≤ k ∧ k < w'.heap.size)) w' r.2 dv lv' lds' t
theorem answer_anyC (B og : Nat) (S : Nat → Prop) (dq dv lv : Value) (o : Ora) (lds : List Value) (t : TypeId) (q : Qn) (C : List UInt8) (w : World) (hC : C.length = 32) (hid : o.ideal = false) (hll : o.log.length < 1000000) (hu : o.used < 1000000) (hql : q.data.length ≤ 1099511627776) (hB : B ≤ w.heap.size)
    (ho : OR B og S w o dv lv lds t) (hqk : q.key.length = 32) (hdq : HB w dq q.data) (hqo : q.data ≠ [] → dq.ownBlock ≠ some og) :
    Calls Tryz.prog 40 #[.pointer (some ⟨og, 0, none⟩), .agg (qL q dq).toArray, .agg (C.map B8).toArray] w fun e w' => QEnd B og S w (askC o q C) dv t e w' := by
  cases h : fndA q o.log with
  | some A =>
    have hc35 : w.cell? ⟨og, 35, none⟩ = some lv := by rw [cell_of_row _ _ 35 _ _ _ ho.row]; exact oL_35 _ _ _ _ _ ho.ml
    refine (answer_found og B lv _ o.log lds q C A w hC (by omega) hc35 ho.log ⟨hqk, dq, rfl, hdq⟩ h).mono ?_
    rintro e w' ⟨rfl, hb⟩
    rw [askC_some h]
    exact ⟨rfl, Fr.ofBelow hb, lv, lds, (ho.keep hb.size (fun k hk _ => hb.block k hk)).more (fun k hk => .inl hk) (fun k hk => hk.elim (fun hk => ⟨ho.low k hk, Nat.lt_of_lt_of_le (ho.top k hk) hb.size⟩) (fun hk => ⟨by omega, hk.2⟩))⟩
  | none =>
    refine (answer_newC B og S dq dv lv o lds t q C w hC hid hll hu hql hB ho hqk hdq hqo h).mono ?_
    rintro e w' hE
    rw [askC_none h]
    exact hE
theorem rfin {B og : Nat} {S : Nat → Prop} {w w2 w3 w4 : World} {o o' : Ora} {dv lv : Value} {lds : List Value} {t : TypeId} (ho : OR B og S w o dv lv lds t) (hB : B ≤ w.heap.size) (hb2 : Below w.heap.size w w2) (hfr : Fr S w2 w3) (h : ∃ lv' lds', OR B og (fun k => S k ∨ (w2.heap.size ≤ k ∧ k < w3.heap.size)) w3 o' dv lv' lds' t) (h4 : Fr (fun k => w.heap.size ≤ k ∧ k < w2.heap.size) w3 w4) :
    Fr S w w4 ∧ ∃ lv' lds', OR B og (fun k => S k ∨ (w.heap.size ≤ k ∧ k < w4.heap.size)) w4 o' dv lv' lds' t := by
  obtain ⟨lv', lds', hp⟩ := h
  have hs2 := hb2.size
  have hs3 := hfr.size
  have hs4 := h4.size
  refine ⟨((Fr.ofBelow hb2).trans hfr (fun k h => .inl h)).trans h4 (fun k h => .inr h.1), lv', lds', ?_⟩
  refine (hp.keep hs4 (fun k hk h => h4.block k hk (fun hx => ?_))).more (fun k h => h.imp id (fun h => ⟨by omega, by omega⟩)) (fun k h => ?_)
  · rcases h with (h | h) | h
    · have := ho.top k h; omega
    · omega
    · omega
  · rcases h with h | h
    · exact ⟨ho.low k h, by have := ho.top k h; omega⟩
    · exact ⟨by omega, h.2⟩
def rNx (o : Ora) (q : Qn) : List UInt8 × Ora := if o.ideal then askO o q else askC o q (compD q)
end Go.Proofs.YtbmmibmfjhehhaaGreat.R5
