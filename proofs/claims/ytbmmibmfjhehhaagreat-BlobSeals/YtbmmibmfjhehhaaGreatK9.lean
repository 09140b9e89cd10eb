/- Contract of ref 5's answer and Ask, in ideal mode. -/
import Derived.Test.YtbmmibmfjhehhaaGreatI9
set_option linter.unusedVariables false
set_option linter.unusedSimpArgs false
namespace Go.Proofs.YtbmmibmfjhehhaaGreat.R5
open scoped Classical
open Go.RowKit

def askO (o : Ora) (q : Qn) : List UInt8 × Ora :=
  match fndA q o.log with
  | some A => (A, o)
  | none => (drawD o.draws o.used, { o with used := o.used + 1, log := o.log ++ [(q, drawD o.draws o.used)] })
theorem askO_some {o : Ora} {q : Qn} {A : List UInt8} (h : fndA q o.log = some A) : askO o q = (A, o) := by unfold askO; rw [h]
theorem askO_none {o : Ora} {q : Qn} (h : fndA q o.log = none) : askO o q = (drawD o.draws o.used, { o with used := o.used + 1, log := o.log ++ [(q, drawD o.draws o.used)] }) := by unfold askO; rw [h]
theorem askO_len {o : Ora} {q : Qn} (hl : logOk o.log) (hd : ∀ d ∈ o.draws, d.length = 32) : (askO o q).1.length = 32 := by
  cases h : fndA q o.log with
  | some A => rw [askO_some h]; exact (hl _ (fndA_some h)).2
  | none => rw [askO_none h]; exact drawD_len _ _ hd
def AskEnd (B og : Nat) (S : Nat → Prop) (w : World) (o : Ora) (dv : Value) (t : TypeId) (q : Qn) (e : Ending) (w' : World) : Prop :=
  e = .returned (.agg ((askO o q).1.map B8).toArray) ∧ Fr S w w' ∧ ∃ lv' lds', OR B og (fun k => S k ∨ (w.heap.size ≤ k ∧ k < w'.heap.size)) w' (askO o q).2 dv lv' lds' t

theorem answer_any (B og : Nat) (S : Nat → Prop) (dq dv lv : Value) (o : Ora) (lds : List Value) (t : TypeId) (q : Qn) (C : List UInt8) (w : World) (hC : C.length = 32) (hid : o.ideal = true) (hll : o.log.length < 1000000) (hu : o.used < 1000000) (hql : q.data.length ≤ 1099511627776) (hB : B ≤ w.heap.size)
    (ho : OR B og S w o dv lv lds t) (hqk : q.key.length = 32) (hdq : HB w dq q.data) (hqo : q.data ≠ [] → dq.ownBlock ≠ some og) :
    Calls Tryz.prog 40 #[.pointer (some ⟨og, 0, none⟩), .agg (qL q dq).toArray, .agg (C.map B8).toArray] w fun e w' => AskEnd B og S w o dv t q e w' := by
  cases h : fndA q o.log with
  | some A =>
    have hc35 : w.cell? ⟨og, 35, none⟩ = some lv := by rw [cell_of_row _ _ 35 _ _ _ ho.row]; exact oL_35 _ _ _ _ _ ho.ml
    refine (answer_found og B lv _ o.log lds q C A w hC (by omega) hc35 ho.log ⟨hqk, dq, rfl, hdq⟩ h).mono ?_
    rintro e w' ⟨rfl, hb⟩
    unfold AskEnd
    rw [askO_some h]
    exact ⟨rfl, Fr.ofBelow hb, lv, lds, (ho.keep hb.size (fun k hk _ => hb.block k hk)).more (fun k hk => .inl hk) (fun k hk => hk.elim (fun hk => ⟨ho.low k hk, Nat.lt_of_lt_of_le (ho.top k hk) hb.size⟩) (fun hk => ⟨by omega, hk.2⟩))⟩
  | none =>
    refine (answer_new B og S dq dv lv o lds t q C w hC hid hll hu hql hB ho hqk hdq hqo h).mono ?_
    rintro e w' hE
    unfold AskEnd
    rw [askO_none h]
    exact hE

end Go.Proofs.YtbmmibmfjhehhaaGreat.R5
