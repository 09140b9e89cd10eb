/- Streams of an ideal oracle of ref 5: mathematics; what a round keeps. -/
import Derived.Test.YtbmmibmfjhehhaaGreatK9
set_option linter.unusedVariables false
set_option linter.unusedSimpArgs false
namespace Go.Proofs.YtbmmibmfjhehhaaGreat.R5
open scoped Classical
open Go.RowKit

theorem askO_ideal (o : Ora) (q : Qn) : (askO o q).2.ideal = o.ideal := by
  cases h : fndA q o.log with
  | some A => rw [askO_some h]
  | none => rw [askO_none h]
theorem askO_draws (o : Ora) (q : Qn) : (askO o q).2.draws = o.draws := by
  cases h : fndA q o.log with
  | some A => rw [askO_some h]
  | none => rw [askO_none h]
theorem askO_master (o : Ora) (q : Qn) : (askO o q).2.master = o.master := by
  cases h : fndA q o.log with
  | some A => rw [askO_some h]
  | none => rw [askO_none h]
theorem askO_log (o : Ora) (q : Qn) : (askO o q).2.log.length ≤ o.log.length + 1 := by
  cases h : fndA q o.log with
  | some A => rw [askO_some h]; exact Nat.le_succ _
  | none => rw [askO_none h]; simp
theorem askO_used (o : Ora) (q : Qn) : (askO o q).2.used ≤ o.used + 1 := by
  cases h : fndA q o.log with
  | some A => rw [askO_some h]; exact Nat.le_succ _
  | none => rw [askO_none h]; exact Nat.le_refl _
/-- In ideal mode as many draws are had as questions are logged. -/
theorem askO_even (o : Ora) (q : Qn) (h : o.used = o.log.length) : (askO o q).2.used = (askO o q).2.log.length := by
  cases h2 : fndA q o.log with
  | some A => rw [askO_some h2]; exact h
  | none => rw [askO_none h2]; simp [h]
/-- What was asked is answered alike. -/
theorem fndA_append (q : Qn) (A : List UInt8) (m : List (Qn × List UInt8)) : ∀ l, fndA q l = some A → fndA q (l ++ m) = some A
  | [], h => by simp [fndA] at h
  | x :: l, h => by
    unfold fndA at h
    show @ite _ (x.1 = q) (decQ x.1 q) (some x.2) (fndA q (l ++ m)) = some A
    by_cases hx : x.1 = q
    · rw [if_pos hx] at h ⊢; exact h
    · rw [if_neg hx] at h ⊢; exact fndA_append q A m l h
theorem fndA_snoc (q : Qn) (A : List UInt8) : ∀ l, fndA q l = none → fndA q (l ++ [(q, A)]) = some A
  | [], _ => by simp [fndA]
  | x :: l, h => by
    unfold fndA at h
    show @ite _ (x.1 = q) (decQ x.1 q) (some x.2) (fndA q (l ++ [(q, A)])) = some A
    by_cases hx : x.1 = q
    · rw [if_pos hx] at h; simp at h
    · rw [if_neg hx] at h ⊢; exact fndA_snoc q A l h
theorem askO_again (o : Ora) (q : Qn) : fndA q (askO o q).2.log = some (askO o q).1 := by
  cases h : fndA q o.log with
  | some A => rw [askO_some h]; exact h
  | none => rw [askO_none h]; exact fndA_snoc q _ _ h
theorem askO_grows (o : Ora) (q : Qn) : ∃ m, (askO o q).2.log = o.log ++ m := by
  cases h : fndA q o.log with
  | some A => rw [askO_some h]; exact ⟨[], by simp⟩
  | none => rw [askO_none h]; exact ⟨_, rfl⟩

/-- The question of a stream's block. -/
def sQ (q : Qn) (k : Nat) : Qn := { q with data := q.data ++ W1.le 8 k }
/-- A stream's first blocks, and what the oracle knows then. -/
def strO (q : Qn) (o : Ora) : Nat → List UInt8 × Ora
  | 0 => ([], o)
  | k + 1 => ((strO q o k).1 ++ (askO (strO q o k).2 (sQ q k)).1, (askO (strO q o k).2 (sQ q k)).2)
theorem strO_ideal (q : Qn) (o : Ora) : ∀ k, (strO q o k).2.ideal = o.ideal
  | 0 => rfl
  | k + 1 => (askO_ideal _ _).trans (strO_ideal q o k)
theorem strO_draws (q : Qn) (o : Ora) : ∀ k, (strO q o k).2.draws = o.draws
  | 0 => rfl
  | k + 1 => (askO_draws _ _).trans (strO_draws q o k)
theorem strO_log (q : Qn) (o : Ora) : ∀ k, (strO q o k).2.log.length ≤ o.log.length + k
  | 0 => Nat.le_refl _
  | k + 1 => by have := strO_log q o k; have h2 := askO_log (strO q o k).2 (sQ q k); show (askO (strO q o k).2 (sQ q k)).2.log.length ≤ _; omega
theorem strO_used (q : Qn) (o : Ora) : ∀ k, (strO q o k).2.used ≤ o.used + k
  | 0 => Nat.le_refl _
  | k + 1 => by have := strO_used q o k; have h2 := askO_used (strO q o k).2 (sQ q k); show (askO (strO q o k).2 (sQ q k)).2.used ≤ _; omega
theorem strO_even (q : Qn) (o : Ora) (h : o.used = o.log.length) : ∀ k, (strO q o k).2.used = (strO q o k).2.log.length
  | 0 => h
  | k + 1 => askO_even _ _ (strO_even q o h k)

/-- What stands at the head of a round of Stream. -/
structure StI (B og : Nat) (S : Nat → Prop) (w : World) (o : Ora) (q : Qn) (dv : Value) (t : TypeId) (QL : List Value) (k : Nat) (v : Value) (wr : World) (Sk : Nat → Prop) (lv : Value) (lds : List Value) : Prop where
  ora : OR B og Sk wr (strO q o k).2 dv lv lds t
  sub : ∀ j, Sk j → S j ∨ w.heap.size ≤ j
  out : FB w.heap.size wr v (strO q o k).1
  len : (strO q o k).1.length = 32 * k
  ob : ∀ j, v.ownBlock = some j → ¬ Sk j ∧ j ≠ w.heap.size
  qb : ¬ Sk w.heap.size
  row : wr.heap[w.heap.size]? = some (.cells QL.toArray 66 (0, 0))
  fr : Fr S w wr

end Go.Proofs.YtbmmibmfjhehhaaGreat.R5
