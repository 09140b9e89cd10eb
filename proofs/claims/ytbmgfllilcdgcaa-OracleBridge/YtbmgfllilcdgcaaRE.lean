/- OracleBridge: the mathematics. -/
import Derived.Test.YtbmgfllilcdgcaaRD
import Derived.Test.YtbmgfllilcdgcaaRC
set_option linter.unusedVariables false
set_option linter.unusedSimpArgs false
namespace Go.Proofs.Ytbmgfllilcdgcaa.R5
open Go.RowKit

/-- The question of an ask of the bridge's, for an oracle of that master key. -/
def brQ (m : List UInt8) (a : Ak) : Option Qn := if a.kind = 1 then some a.q else if a.kind = 5 then some ⟨3, m, a.q.dom, a.q.data⟩ else none
/-- What an oracle knows behind an ask. -/
def brN (m : List UInt8) (o : Pra) (a : Ak) : Pra := match brQ m a with | some q => nxtO o q | none => o
def brS (m : List UInt8) (o : Pra) (ls : List Ak) : Pra := ls.foldl (brN m) o
theorem brS_snoc (m : List UInt8) (o : Pra) (ls : List Ak) (k : Nat) (a : Ak) (h : ls[k]? = some a) : brS m o (ls.take (k + 1)) = brN m (brS m o (ls.take k)) a := by
  have hk : k < ls.length := (List.getElem?_eq_some_iff.1 h).1
  have e : ls[k] = a := by rw [List.getElem?_eq_getElem hk] at h; simpa using h
  unfold brS
  rw [List.take_succ_eq_append_getElem hk, List.foldl_append, e]
  rfl
/-- A log grows by at most one. -/
theorem nxt_log (o : Pra) (q : Qn) : ∃ r, (nxtO o q).log = o.log ++ r ∧ r.length ≤ 1 ∧ nxtO o q = { o with log := o.log ++ r } := by
  unfold nxtO
  split
  · unfold pAsk
    split
    · exact ⟨[], by simp, by simp, by simp⟩
    · exact ⟨_, rfl, by simp, rfl⟩
  · exact ⟨[], by simp, by simp, by simp⟩
theorem brN_log (m : List UInt8) (o : Pra) (a : Ak) : ∃ r, r.length ≤ 1 ∧ brN m o a = { o with log := o.log ++ r } := by
  unfold brN
  split
  · obtain ⟨r, _, h2, h3⟩ := nxt_log o ‹Qn›
    exact ⟨r, h2, h3⟩
  · exact ⟨[], by simp, by simp⟩
theorem brS_log (m : List UInt8) : ∀ (ls : List Ak) (o : Pra), ∃ r, r.length ≤ ls.length ∧ brS m o ls = { o with log := o.log ++ r }
  | [], o => ⟨[], by simp, by simp [brS]⟩
  | a :: ls, o => by
    obtain ⟨r, h1, h2⟩ := brN_log m o a
    obtain ⟨r', h3, h4⟩ := brS_log m ls (brN m o a)
    refine ⟨r ++ r', by simp; omega, ?_⟩
    show brS m (brN m o a) ls = _
    rw [h4, h2]
    simp
theorem fnd_app {q : Qn} {A : List UInt8} : ∀ {l : List (Qn × List UInt8)} (r : List (Qn × List UInt8)), fndA q l = some A → fndA q (l ++ r) = some A
  | [], r, h => by simp [fndA] at h
  | x :: l, r, h => by
    unfold fndA at h ⊢
    rw [List.cons_append]
    by_cases hx : x.1 = q
    · rw [if_pos hx] at h
      simp [hx, h]
    · rw [if_neg hx] at h
      simp only [hx, if_false]
      exact fnd_app r h
theorem fnd_new {q : Qn} {A : List UInt8} : ∀ {l : List (Qn × List UInt8)}, fndA q l = none → fndA q (l ++ [(q, A)]) = some A
  | [], _ => by simp [fndA]
  | x :: l, h => by
    unfold fndA at h ⊢
    rw [List.cons_append]
    by_cases hx : x.1 = q
    · rw [if_pos hx] at h; cases h
    · rw [if_neg hx] at h
      simp only [hx, if_false]
      exact fnd_new h
theorem brS_split (m : List UInt8) (o : Pra) (ls : List Ak) (k : Nat) : ∃ r, brS m o ls = { o with log := (brS m o (ls.take k)).log ++ r } := by
  have h : brS m o ls = brS m (brS m o (ls.take k)) (ls.drop k) := by
    unfold brS
    rw [← List.foldl_append, List.take_append_drop]
  obtain ⟨r, _, h2⟩ := brS_log m (ls.drop k) (brS m o (ls.take k))
  obtain ⟨r0, _, h0⟩ := brS_log m (ls.take k) o
  refine ⟨r, ?_⟩
  rw [h, h2, h0]
theorem draw_at (l r : List (Qn × List UInt8)) (x : Qn × List UInt8) : drawD ((l ++ [x] ++ r).map (·.2)) l.length = x.2 := by
  unfold drawD
  rw [if_pos (by simp)]
  simp [List.getD]
/-- One ask of both oracles, what they know being alike. -/
theorem bridge_step (m : List UInt8) (l L r : List (Qn × List UInt8)) (q : Qn) (hr : L = (nxtO ⟨false, m, [], l⟩ q).log ++ r) :
    (nxtO ⟨true, m, L.map (·.2), l⟩ q).log = (nxtO ⟨false, m, [], l⟩ q).log ∧ nxtO ⟨false, m, [], L⟩ q = ⟨false, m, [], L⟩ ∧ ansV ⟨false, m, [], L⟩ q = ansV ⟨true, m, L.map (·.2), l⟩ q := by
  cases hok : askB q with
  | false => simp [nxtO, ansV, hok]
  | true =>
    simp only [nxtO, hok, if_true, fresh, Bool.false_eq_true, if_false] at hr
    cases hf : fndA q l with
    | some A =>
      rw [pAsk_some (o := ⟨false, m, [], l⟩) hf] at hr
      have hL : fndA q L = some A := by rw [hr]; exact fnd_app r hf
      simp only [nxtO, ansV, hok, if_true]
      rw [pAsk_some (o := ⟨true, m, L.map (·.2), l⟩) hf, pAsk_some (o := ⟨false, m, [], l⟩) hf, pAsk_some (o := ⟨false, m, [], L⟩) hL]
      exact ⟨rfl, rfl, rfl⟩
    | none =>
      rw [pAsk_none (o := ⟨false, m, [], l⟩) hf] at hr
      simp only at hr
      have hL : fndA q L = some (compD q) := by rw [hr]; exact fnd_app r (fnd_new hf)
      have hd : drawD (L.map (·.2)) l.length = compD q := by rw [hr]; exact draw_at l r (q, compD q)
      simp only [nxtO, ansV, hok, if_true, fresh, Bool.false_eq_true, if_false]
      rw [hd, pAsk_none (o := ⟨true, m, L.map (·.2), l⟩) hf, pAsk_none (o := ⟨false, m, [], l⟩) hf, pAsk_some (o := ⟨false, m, [], L⟩) hL]
      exact ⟨rfl, rfl, rfl⟩
theorem brS_a (m : List UInt8) (ls : List Ak) : brS m ⟨false, m, [], []⟩ ls = ⟨false, m, [], (brS m ⟨false, m, [], []⟩ ls).log⟩ := by
  obtain ⟨r, _, h⟩ := brS_log m ls ⟨false, m, [], []⟩
  rw [h]
theorem brS_b (m : List UInt8) (D : List (List UInt8)) (ls : List Ak) : brS m ⟨true, m, D, []⟩ ls = ⟨true, m, D, (brS m ⟨true, m, D, []⟩ ls).log⟩ := by
  obtain ⟨r, _, h⟩ := brS_log m ls ⟨true, m, D, []⟩
  rw [h]
theorem brS_len (m : List UInt8) (o : Pra) (ls : List Ak) (h : o.log = []) : (brS m o ls).log.length ≤ ls.length := by
  obtain ⟨r, h1, h2⟩ := brS_log m ls o
  rw [h2]; simp [h]; exact h1
/-- The two oracles of the bridge, behind as many asks, and what both answer to the next one. -/
theorem bridge (m : List UInt8) (ls : List Ak) (L : List (Qn × List UInt8)) (hL : L = (brS m ⟨false, m, [], []⟩ ls).log) :
    (∀ k, k ≤ ls.length → (brS m ⟨true, m, L.map (·.2), []⟩ (ls.take k)).log = (brS m ⟨false, m, [], []⟩ (ls.take k)).log) ∧
    ∀ k a q, ls[k]? = some a → brQ m a = some q → nxtO ⟨false, m, [], L⟩ q = ⟨false, m, [], L⟩ ∧ ansV ⟨false, m, [], L⟩ q = ansV (brS m ⟨true, m, L.map (·.2), []⟩ (ls.take k)) q := by
  have hA : ∀ k, k ≤ ls.length → (brS m ⟨true, m, L.map (·.2), []⟩ (ls.take k)).log = (brS m ⟨false, m, [], []⟩ (ls.take k)).log := by
    intro k
    induction k with
    | zero => intro _; rfl
    | succ k ih =>
      intro hk
      have ih' := ih (by omega)
      obtain ⟨a, ha⟩ : ∃ a, ls[k]? = some a := ⟨_, List.getElem?_eq_getElem (by omega)⟩
      rw [brS_snoc _ _ _ _ _ ha, brS_snoc _ _ _ _ _ ha]
      obtain ⟨r, hr⟩ := brS_split m ⟨false, m, [], []⟩ ls (k + 1)
      rw [brS_snoc _ _ _ _ _ ha] at hr
      rw [hr] at hL
      rw [brS_b, ih']
      rw [brS_a] at hL ⊢
      unfold brN at hL ⊢
      cases hq : brQ m a with
      | none => rfl
      | some q =>
        rw [hq] at hL
        exact (bridge_step m _ L r q hL).1
  refine ⟨hA, fun k a q ha hq => ?_⟩
  have hk : k < ls.length := (List.getElem?_eq_some_iff.1 ha).1
  obtain ⟨r, hr⟩ := brS_split m ⟨false, m, [], []⟩ ls (k + 1)
  rw [brS_snoc _ _ _ _ _ ha] at hr
  rw [hr] at hL
  rw [brS_a] at hL
  unfold brN at hL
  rw [hq] at hL
  have h := bridge_step m _ L r q hL
  rw [brS_b, hA k (by omega)]
  exact h.2
end Go.Proofs.Ytbmgfllilcdgcaa.R5
