/- Several texts in one. -/
import Derived.Test.YtnijjoankahddaaWo
set_option linter.unusedVariables false
set_option linter.unusedSimpArgs false
/- tree: the mathematics of ways that go up, of leaves that are laid, and of trees of nothing. -/
namespace Go.Proofs.Ytnijjoankahddaa.DC
open Go.RowKit

section
variable {i : Bool} {D : List (List UInt8)} {L : Lg}
theorem fnd_app {q : R5.Qn} {A : List UInt8} : ∀ {l : Lg} (r : Lg), R5.fndA q l = some A → R5.fndA q (l ++ r) = some A
  | [], _, h => by simp [R5.fndA] at h
  | e :: l, r, h => by
    rw [List.cons_append]
    unfold R5.fndA at h ⊢
    split
    · rename_i he; rw [if_pos he] at h; exact h
    · rename_i he; rw [if_neg he] at h; exact fnd_app r h
theorem fnd_new {q : R5.Qn} {A : List UInt8} : ∀ {l : Lg}, R5.fndA q l = none → R5.fndA q (l ++ [(q, A)]) = some A
  | [], _ => by simp [R5.fndA]
  | e :: l, h => by
    rw [List.cons_append]
    unfold R5.fndA at h ⊢
    split
    · rename_i he; rw [if_pos he] at h; cases h
    · rename_i he; rw [if_neg he] at h; exact fnd_new h
theorem nx2_old {q : R5.Qn} {A : List UInt8} (h : R5.fndA q L = some A) : nx2 i D L q = (A, L) := by unfold nx2; rw [h]
theorem nx2_fnd (i : Bool) (D : List (List UInt8)) (L : Lg) (q : R5.Qn) : R5.fndA q (nx2 i D L q).2 = some (nx2 i D L q).1 := by
  cases h : R5.fndA q L with
  | some A => rw [nx2_old h]; exact h
  | none => unfold nx2; rw [h]; exact fnd_new h
theorem nx2_ext (i : Bool) (D : List (List UInt8)) (L : Lg) (q : R5.Qn) : ∃ M, (nx2 i D L q).2 = L ++ M := by
  cases h : R5.fndA q L with
  | some A => rw [nx2_old h]; exact ⟨[], (List.append_nil _).symm⟩
  | none => unfold nx2; rw [h]; exact ⟨_, rfl⟩
/-- Draws and answers that are digests. -/
def gL (D : List (List UInt8)) (L : Lg) : Prop := (∀ d ∈ D, d.length = 32) ∧ ∀ e ∈ L, e.2.length = 32
theorem gL.ok {q : R5.Qn} (h : gL D L) : (nx2 i D L q).1.length = 32 ∧ gL D (nx2 i D L q).2 := by
  cases hf : R5.fndA q L with
  | some A =>
    rw [nx2_old hf]
    exact ⟨h.2 _ (R5.fndA_some hf), h⟩
  | none =>
    have hl : (if i then R5.drawD D L.length else R5.compD q).length = 32 := by
      cases i
      · exact R5.compD_len q
      · exact R5.drawD_len _ _ h.1
    unfold nx2; rw [hf]
    refine ⟨hl, h.1, fun e he => ?_⟩
    rcases List.mem_append.1 he with he | he
    · exact h.2 e he
    · rw [List.mem_singleton.1 he]; exact hl
theorem gL.len (h : gL D L) (q : R5.Qn) : (nx2 i D L q).1.length = 32 := h.ok.1
theorem gL.nil (h : ∀ d ∈ D, d.length = 32) : gL D [] := ⟨h, fun e he => (List.not_mem_nil he).elim⟩
/-- What is asked of a node above: what is reckoned stands on its own side. -/
def askUp (j : Nat) (d b : List UInt8) : R5.Qn := if j % 2 = 1 then qNode (j / 2) b d else qNode (j / 2) d b
/-- A page's way, k steps up from its leaf, the node j, by what lies beside it: the digests, and the log then. -/
def upS (i : Bool) (D : List (List UInt8)) (nb : Nat → List UInt8) (j : Nat) (leaf : List UInt8) (L : Lg) : Nat → List (List UInt8) × Lg
  | 0 => ([leaf], L)
  | k + 1 =>
    let s := upS i D nb j leaf L k
    let r := nx2 i D s.2 (askUp (j / 2 ^ k) (s.1.getD k []) (nb (bes (j / 2 ^ k))))
    (s.1 ++ [r.1], r.2)
variable {nb : Nat → List UInt8} {j : Nat} {leaf : List UInt8}
/-- The question of a step. -/
def upQ (i : Bool) (D : List (List UInt8)) (nb : Nat → List UInt8) (j : Nat) (leaf : List UInt8) (L : Lg) (k : Nat) : R5.Qn := askUp (j / 2 ^ k) ((upS i D nb j leaf L k).1.getD k []) (nb (bes (j / 2 ^ k)))
theorem upS_succ (k : Nat) : upS i D nb j leaf L (k + 1) = ((upS i D nb j leaf L k).1 ++ [(nx2 i D (upS i D nb j leaf L k).2 (upQ i D nb j leaf L k)).1], (nx2 i D (upS i D nb j leaf L k).2 (upQ i D nb j leaf L k)).2) := rfl
theorem upS_len (k : Nat) : (upS i D nb j leaf L k).1.length = k + 1 := by
  induction k with
  | zero => rfl
  | succ k ih => rw [upS_succ]; simp [ih]
theorem upS_log (k : Nat) : (upS i D nb j leaf L k).2.length ≤ L.length + k := by
  induction k with
  | zero => exact Nat.le_refl _
  | succ k ih => rw [upS_succ]; exact Nat.le_trans (nx2_len i D _ _) (by omega)
theorem upS_good (h : gL D L) (k : Nat) : gL D (upS i D nb j leaf L k).2 := by
  induction k with
  | zero => exact h
  | succ k ih => rw [upS_succ]; exact ih.ok.2
theorem upS_ext (k e : Nat) : ∃ M, (upS i D nb j leaf L (k + e)).2 = (upS i D nb j leaf L k).2 ++ M := by
  induction e with
  | zero => exact ⟨[], (List.append_nil _).symm⟩
  | succ e ih =>
    obtain ⟨M, hM⟩ := ih
    obtain ⟨M2, h2⟩ := nx2_ext i D (upS i D nb j leaf L (k + e)).2 (upQ i D nb j leaf L (k + e))
    exact ⟨M ++ M2, by rw [← Nat.add_assoc, upS_succ, h2, hM, List.append_assoc]⟩
theorem upS_getD (k e t : Nat) (ht : t ≤ k) : (upS i D nb j leaf L (k + e)).1.getD t [] = (upS i D nb j leaf L k).1.getD t [] := by
  induction e with
  | zero => rfl
  | succ e ih =>
    rw [← Nat.add_assoc, upS_succ, List.getD_eq_getElem?_getD, List.getElem?_append_left (by rw [upS_len]; omega), ← List.getD_eq_getElem?_getD]
    exact ih
theorem upS_last (k : Nat) : (upS i D nb j leaf L (k + 1)).1.getD (k + 1) [] = (nx2 i D (upS i D nb j leaf L k).2 (upQ i D nb j leaf L k)).1 := by
  rw [upS_succ, List.getD_eq_getElem?_getD, List.getElem?_append_right (by rw [upS_len]; omega), upS_len]
  simp
theorem upS_fnd (k e : Nat) : R5.fndA (upQ i D nb j leaf L k) (upS i D nb j leaf L (k + 1 + e)).2 = some ((upS i D nb j leaf L (k + 1)).1.getD (k + 1) []) := by
  obtain ⟨M, hM⟩ := upS_ext (i := i) (D := D) (nb := nb) (j := j) (leaf := leaf) (L := L) (k + 1) e
  rw [hM]
  refine fnd_app M ?_
  rw [upS_last, upS_succ]
  exact nx2_fnd i D _ _
/-- Gone up once more: all is found. -/
theorem upS_again (n : Nat) : ∀ k, k ≤ n → upS i D nb j leaf (upS i D nb j leaf L n).2 k = ((upS i D nb j leaf L k).1, (upS i D nb j leaf L n).2)
  | 0, _ => rfl
  | k + 1, hk => by
    have ih := upS_again n k (by omega)
    obtain ⟨e, he⟩ : ∃ e, n = k + 1 + e := ⟨n - (k + 1), by omega⟩
    have hq : upQ i D nb j leaf (upS i D nb j leaf L n).2 k = upQ i D nb j leaf L k := by unfold upQ; rw [ih]
    rw [upS_succ, hq, ih]
    have hf := upS_fnd (i := i) (D := D) (nb := nb) (j := j) (leaf := leaf) (L := L) k e
    rw [← he] at hf
    show ((upS i D nb j leaf L k).1 ++ [(nx2 i D (upS i D nb j leaf L n).2 (upQ i D nb j leaf L k)).1], (nx2 i D (upS i D nb j leaf L n).2 (upQ i D nb j leaf L k)).2) = _
    rw [nx2_old hf, upS_last, upS_succ]
end
/-- Leaves, and the nodes above them, laid one behind the other. -/
def layS (l : List UInt8) (a j : Nat) (ws : List (List UInt8)) : Nat → List UInt8
  | 0 => l
  | k + 1 => splice (layS l a j ws k) (a + 32 * (j / 2 ^ k)) (ws.getD k [])
/-- A tree of nothing: its leaves. -/
def leafM (i : Bool) (D : List (List UInt8)) (l : List UInt8) (a : Nat) (L : Lg) : Nat → List UInt8 × Lg
  | 0 => (l, L)
  | k + 1 =>
    let s := leafM i D l a L k
    let r := nx2 i D s.2 (qNone k)
    (splice s.1 (a + 32 * (128 + k)) r.1, r.2)
/-- And its nodes. -/
def nodeM (i : Bool) (D : List (List UInt8)) (l : List UInt8) (a : Nat) (L : Lg) : Nat → List UInt8 × Lg
  | 0 => leafM i D l a L 128
  | k + 1 =>
    let s := nodeM i D l a L k
    let r := nx2 i D s.2 (qNode (127 - k) (nodeB s.1 a (2 * (127 - k))) (nodeB s.1 a (2 * (127 - k) + 1)))
    (splice s.1 (a + 32 * (127 - k)) r.1, r.2)
/-- Nodes of a list, laid from 2 on. -/
def layN (l : List UInt8) (a : Nat) (t : List UInt8) : Nat → List UInt8
  | 0 => l
  | k + 1 => splice (layN l a t k) (a + 32 * (2 + k)) (nodeB t 0 (2 + k))
theorem layS_len (l : List UInt8) (a j : Nat) (ws : List (List UInt8)) (n : Nat) (hl : a + 8192 ≤ l.length) (hj : j < 256) (hw : ∀ t, t < n → (ws.getD t []).length = 32) : ∀ k, k ≤ n → (layS l a j ws k).length = l.length
  | 0, _ => rfl
  | k + 1, hk => by
    have ih := layS_len l a j ws n hl hj hw k (by omega)
    have hd : j / 2 ^ k ≤ j := Nat.div_le_self _ _
    unfold layS
    rw [MC.splice_len _ _ _ (by rw [ih, hw k (by omega)]; omega), ih]
theorem nodeB_splice (l : List UInt8) (a p q : Nat) (d : List UInt8) (hl : a + 8192 ≤ l.length) (hp : p < 256) (hq : q < 256) (hd : d.length = 32) : nodeB (splice l (a + 32 * p) d) a q = if q = p then d else nodeB l a q := by
  have hf : a + 32 * p + d.length ≤ l.length := by omega
  apply List.ext_getElem?
  intro t
  unfold nodeB MC.rdB
  rw [List.getElem?_take, List.getElem?_drop]
  by_cases ht : t < 32
  · rw [if_pos ht, MC.splice_get _ _ _ hf]
    by_cases e : q = p
    · subst e
      rw [if_pos rfl, if_neg (by omega), if_pos (by omega)]
      congr 1; omega
    · rw [if_neg e, List.getElem?_take, if_pos ht, List.getElem?_drop]
      by_cases h1 : a + 32 * q + t < a + 32 * p
      · rw [if_pos h1]
      · rw [if_neg h1, if_neg (by omega)]
  · rw [if_neg ht]
    by_cases e : q = p
    · rw [if_pos e, List.getElem?_eq_none (by omega)]
    · rw [if_neg e, List.getElem?_take, if_neg ht]
theorem nodes_ext {l1 l2 : List UInt8} {a : Nat} (hl : a + 8192 ≤ l1.length) (ho : ∀ p, p < a + 64 ∨ a + 8192 ≤ p → l1[p]? = l2[p]?) (hn : ∀ j, 2 ≤ j → j < 256 → nodeB l1 a j = nodeB l2 a j) : l1 = l2 := by
  apply List.ext_getElem?
  intro p
  by_cases h : p < a + 64 ∨ a + 8192 ≤ p
  · exact ho p h
  · have e := hn ((p - a) / 32) (by omega) (by omega)
    have e2 := congrArg (fun l => l[(p - a) % 32]?) e
    simp only [nodeB, MC.rdB, List.getElem?_take, List.getElem?_drop, if_pos (Nat.mod_lt (p - a) (show 0 < 32 by decide))] at e2
    rw [show a + 32 * ((p - a) / 32) + (p - a) % 32 = p by omega] at e2
    exact e2
theorem splice_out {l : List UInt8} {a j : Nat} {d : List UInt8} (hl : a + 8192 ≤ l.length) (hj : 2 ≤ j) (hj2 : j < 256) (hd : d.length = 32) (p : Nat) (hp : p < a + 64 ∨ a + 8192 ≤ p) : (splice l (a + 32 * j) d)[p]? = l[p]? := by
  rw [MC.splice_get _ _ _ (by omega)]
  by_cases h : p < a + 32 * j
  · rw [if_pos h]
  · rw [if_neg h, if_neg (by omega)]
section
variable {i : Bool} {D : List (List UInt8)} {L : Lg} {l z : List UInt8} {a b : Nat}
theorem nodeM_succ (k : Nat) : nodeM i D l a L (k + 1) = (splice (nodeM i D l a L k).1 (a + 32 * (127 - k)) (nx2 i D (nodeM i D l a L k).2 (qNode (127 - k) (nodeB (nodeM i D l a L k).1 a (2 * (127 - k))) (nodeB (nodeM i D l a L k).1 a (2 * (127 - k) + 1)))).1, (nx2 i D (nodeM i D l a L k).2 (qNode (127 - k) (nodeB (nodeM i D l a L k).1 a (2 * (127 - k))) (nodeB (nodeM i D l a L k).1 a (2 * (127 - k) + 1)))).2) := rfl
theorem leafM_succ (k : Nat) : leafM i D l a L (k + 1) = (splice (leafM i D l a L k).1 (a + 32 * (128 + k)) (nx2 i D (leafM i D l a L k).2 (qNone k)).1, (nx2 i D (leafM i D l a L k).2 (qNone k)).2) := rfl
theorem leafM_good (h : gL D L) (k : Nat) : gL D (leafM i D l a L k).2 := by
  induction k with
  | zero => exact h
  | succ k ih => rw [leafM_succ]; exact ih.ok.2
theorem nodeM_good (h : gL D L) (k : Nat) : gL D (nodeM i D l a L k).2 := by
  induction k with
  | zero => exact leafM_good h 128
  | succ k ih => rw [nodeM_succ]; exact ih.ok.2
theorem leafM_log (k : Nat) : (leafM i D l a L k).2.length ≤ L.length + k := by
  induction k with
  | zero => exact Nat.le_refl _
  | succ k ih => exact Nat.le_trans (nx2_len i D _ _) (by omega)
theorem nodeM_log (k : Nat) : (nodeM i D l a L k).2.length ≤ L.length + 128 + k := by
  induction k with
  | zero => exact leafM_log 128
  | succ k ih => exact Nat.le_trans (nx2_len i D _ _) (by omega)
theorem leafM_len (hA : gL D L) (hl : a + 8192 ≤ l.length) : ∀ k, k ≤ 128 → (leafM i D l a L k).1.length = l.length
  | 0, _ => rfl
  | k + 1, hk => by
    have ih := leafM_len hA hl k (by omega)
    show (splice _ _ _).length = _
    rw [MC.splice_len _ _ _ (by rw [ih, (leafM_good hA k).len]; omega), ih]
theorem nodeM_len (hA : gL D L) (hl : a + 8192 ≤ l.length) : ∀ k, k ≤ 127 → (nodeM i D l a L k).1.length = l.length
  | 0, _ => leafM_len hA hl 128 (by omega)
  | k + 1, hk => by
    have ih := nodeM_len hA hl k (by omega)
    show (splice _ _ _).length = _
    rw [MC.splice_len _ _ _ (by rw [ih, (nodeM_good hA k).len]; omega), ih]
/-- Two memories, in which a tree of nothing is laid at two places. -/
theorem leafM_two (hA : gL D L) (hl : a + 8192 ≤ l.length) (hz : b + 8192 ≤ z.length) : ∀ k, k ≤ 128 → (leafM i D l a L k).2 = (leafM i D z b L k).2 ∧ ∀ j, 128 ≤ j → j < 128 + k → nodeB (leafM i D l a L k).1 a j = nodeB (leafM i D z b L k).1 b j
  | 0, _ => ⟨rfl, fun j h1 h2 => by omega⟩
  | k + 1, hk => by
    obtain ⟨e, h⟩ := leafM_two hA hl hz k (by omega)
    have h1 := leafM_len (i := i) (L := L) hA hl k (by omega)
    have h2 := leafM_len (i := i) (L := L) hA hz k (by omega)
    refine ⟨by show (nx2 i D _ _).2 = (nx2 i D _ _).2; rw [e], fun j hj1 hj2 => ?_⟩
    show nodeB (splice _ _ _) _ _ = nodeB (splice _ _ _) _ _
    rw [nodeB_splice _ _ _ _ _ (by omega) (by omega) (by omega) ((leafM_good hA k).len _), nodeB_splice _ _ _ _ _ (by omega) (by omega) (by omega) ((leafM_good hA k).len _), e]
    by_cases ej : j = 128 + k
    · rw [if_pos ej, if_pos ej]
    · rw [if_neg ej, if_neg ej]; exact h j hj1 (by omega)
theorem nodeM_two (hA : gL D L) (hl : a + 8192 ≤ l.length) (hz : b + 8192 ≤ z.length) : ∀ k, k ≤ 127 → (nodeM i D l a L k).2 = (nodeM i D z b L k).2 ∧ ∀ j, 128 - k ≤ j → j < 256 → nodeB (nodeM i D l a L k).1 a j = nodeB (nodeM i D z b L k).1 b j
  | 0, _ => by
    obtain ⟨e, h⟩ := leafM_two (i := i) (L := L) hA hl hz 128 (by omega)
    exact ⟨e, fun j h1 h2 => h j (by omega) (by omega)⟩
  | k + 1, hk => by
    obtain ⟨e, h⟩ := nodeM_two hA hl hz k (by omega)
    have h1 := nodeM_len (i := i) (L := L) hA hl k (by omega)
    have h2 := nodeM_len (i := i) (L := L) hA hz k (by omega)
    have n1 := h (2 * (127 - k)) (by omega) (by omega)
    have n2 := h (2 * (127 - k) + 1) (by omega) (by omega)
    refine ⟨by show (nx2 i D _ _).2 = (nx2 i D _ _).2; rw [e, n1, n2], fun j hj1 hj2 => ?_⟩
    show nodeB (splice _ _ _) _ _ = nodeB (splice _ _ _) _ _
    rw [nodeB_splice _ _ _ _ _ (by omega) (by omega) (by omega) ((nodeM_good hA k).len _), nodeB_splice _ _ _ _ _ (by omega) (by omega) (by omega) ((nodeM_good hA k).len _), e, n1, n2]
    by_cases ej : j = 127 - k
    · rw [if_pos ej, if_pos ej]
    · rw [if_neg ej, if_neg ej]; exact h j (by omega) hj2
theorem leafM_out (hA : gL D L) (hl : a + 8192 ≤ l.length) (p : Nat) (hp : p < a + 64 ∨ a + 8192 ≤ p) : ∀ k, k ≤ 128 → (leafM i D l a L k).1[p]? = l[p]?
  | 0, _ => rfl
  | k + 1, hk => by
    have h1 := leafM_len (i := i) (L := L) hA hl k (by omega)
    show (splice _ _ _)[p]? = _
    rw [splice_out (by omega) (by omega) (by omega) ((leafM_good hA k).len _) p hp]
    exact leafM_out hA hl p hp k (by omega)
theorem nodeM_out (hA : gL D L) (hl : a + 8192 ≤ l.length) (p : Nat) (hp : p < a + 64 ∨ a + 8192 ≤ p) : ∀ k, k ≤ 126 → (nodeM i D l a L k).1[p]? = l[p]?
  | 0, _ => leafM_out hA hl p hp 128 (by omega)
  | k + 1, hk => by
    have h1 := nodeM_len (i := i) (L := L) hA hl k (by omega)
    show (splice _ _ _)[p]? = _
    rw [splice_out (by omega) (by omega) (by omega) ((nodeM_good hA k).len _) p hp]
    exact nodeM_out hA hl p hp k (by omega)
theorem layN_facts {t : List UInt8} (ht : t.length = 8192) (hl : a + 8192 ≤ l.length) : ∀ k, k ≤ 254 → (layN l a t k).length = l.length ∧ (∀ p, p < a + 64 ∨ a + 8192 ≤ p → (layN l a t k)[p]? = l[p]?) ∧ ∀ j, 2 ≤ j → j < 2 + k → nodeB (layN l a t k) a j = nodeB t 0 j
  | 0, _ => ⟨rfl, fun _ _ => rfl, fun j h1 h2 => by omega⟩
  | k + 1, hk => by
    obtain ⟨h1, h2, h3⟩ := layN_facts ht hl k (by omega)
    have hn : (nodeB t 0 (2 + k)).length = 32 := by unfold nodeB MC.rdB; rw [List.length_take, List.length_drop]; omega
    refine ⟨?_, fun p hp => ?_, fun j hj1 hj2 => ?_⟩
    · show (splice _ _ _).length = _
      rw [MC.splice_len _ _ _ (by rw [hn]; omega), h1]
    · show (splice _ _ _)[p]? = _
      rw [splice_out (by omega) (by omega) (by omega) hn p hp]; exact h2 p hp
    · show nodeB (splice _ _ _) _ _ = _
      rw [nodeB_splice _ _ _ _ _ (by omega) (by omega) (by omega) hn]
      by_cases ej : j = 2 + k
      · rw [if_pos ej, ej]
      · rw [if_neg ej]; exact h3 j hj1 (by omega)
/-- What both lay is the same. -/
theorem lays_same (hA : gL D L) (hl : a + 8192 ≤ l.length) (hz : z.length = 8192) : layN l a (nodeM i D z 0 L 127).1 254 = (nodeM i D l a L 126).1 := by
  have hz2 : 0 + 8192 ≤ z.length := by omega
  have htl := nodeM_len (i := i) (L := L) hA hz2 127 (by omega)
  obtain ⟨h1, h2, h3⟩ := layN_facts (l := l) (a := a) (t := (nodeM i D z 0 L 127).1) (by omega) hl 254 (by omega)
  have hz126 := nodeM_len (i := i) (L := L) hA hz2 126 (by omega)
  refine nodes_ext (a := a) (by omega) (fun p hp => ?_) (fun j hj1 hj2 => ?_)
  · rw [h2 p hp, nodeM_out hA hl p hp 126 (by omega)]
  · rw [h3 j hj1 (by omega), (nodeM_two (i := i) (L := L) hA hl hz2 126 (by omega)).2 j (by omega) hj2]
    rw [show (127 : Nat) = 126 + 1 from rfl, nodeM_succ]
    show nodeB (splice _ _ _) 0 j = _
    rw [nodeB_splice (nodeM i D z 0 L 126).1 0 (127 - 126) j _ (by omega) (by omega) hj2 ((nodeM_good hA 126).len _), if_neg (by omega)]
/-- The root of a tree of nothing. -/
def rootA (i : Bool) (D : List (List UInt8)) (l : List UInt8) (a : Nat) (L : Lg) : List UInt8 := (nx2 i D (nodeM i D l a L 126).2 (qNode 1 (nodeB (nodeM i D l a L 126).1 a 2) (nodeB (nodeM i D l a L 126).1 a 3))).1
theorem root_same (hA : gL D L) (hl : a + 8192 ≤ l.length) (hz : z.length = 8192) : nodeB (nodeM i D z 0 L 127).1 0 1 = rootA i D l a L ∧ (nodeM i D z 0 L 127).2 = (nodeM i D l a L 127).2 := by
  have hz2 : 0 + 8192 ≤ z.length := by omega
  have h126 := nodeM_len (i := i) (L := L) hA hz2 126 (by omega)
  obtain ⟨e, h⟩ := nodeM_two (i := i) (L := L) hA hl hz2 126 (by omega)
  refine ⟨?_, (nodeM_two (i := i) (L := L) hA hl hz2 127 (by omega)).1.symm⟩
  rw [show (127 : Nat) = 126 + 1 from rfl, nodeM_succ]
  show nodeB (splice _ _ _) 0 1 = _
  rw [nodeB_splice (nodeM i D z 0 L 126).1 0 (127 - 126) 1 _ (by omega) (by omega) (by omega) ((nodeM_good hA 126).len _), if_pos rfl]
  unfold rootA
  rw [e, h 2 (by omega) (by omega), h 3 (by omega) (by omega)]
end
end Go.Proofs.Ytnijjoankahddaa.DC

/- tree: rows of one's own beside both oracles and both memories: more of them; lists of digests as rows. -/
namespace Go.Proofs.Ytnijjoankahddaa.DC
open Go.RowKit

theorem RS.perm {w X : World} {rows rows' : Rws} (h : RS w rows X) (hp : rows.Perm rows') : RS w rows' X :=
  ⟨h.bel, fun r hr => h.low r (hp.mem_iff.2 hr), (hp.map _).nodup_iff.1 h.nd, fun r hr => h.row r (hp.mem_iff.2 hr)⟩
section
variable {w X Y : World} {og mb rg : Nat} {i : Bool} {m : List UInt8} {D : List (List UInt8)} {L L' R R' : Lg} {rows rows' : Rws} {A : List UInt8} {b : Nat} {t : TypeId} {M N : List Value}
theorem TB.perm (h : TB w og mb rg i m D L R rows X) (hp : rows.Perm rows') : TB w og mb rg i m D L R rows' X := by
  obtain ⟨S, dv, ov, T, dr, lv, lds, h1, h2, h3, h4, h5⟩ := h.ex
  exact ⟨⟨S, dv, ov, T, dr, lv, lds, h1, h2, h3, h4, fun r hr => h5 r (hp.mem_iff.2 hr)⟩, h.rs.perm hp⟩
theorem TB.poke (h : TB w og mb rg i m D L R rows X) (q : Nat) (hq : rows[q]? = some (b, t, M)) (k : Nat) (v : Value) (hM : M.set k v = N) : TB w og mb rg i m D L R (rows.set q (b, t, N)) (X.setCell ⟨b, k, none⟩ v) := by
  have hbl := h.bel.setCell (p := ⟨b, k, none⟩) (h.rs.lowAt q hq) v
  have e := heap_setCell_same X b k _ _ v (h.rs.at q hq)
  rw [List.setIfInBounds_toArray, hM] at e
  exact h.other q hq e hbl (by simp) (fun j _ hj => heap_setCell_other _ _ _ _ (by show j ≠ b; exact hj))
/-- The first row is let go, and may be another one now. -/
theorem TB.loose (h : TB w og mb rg i m D L R ((b, t, M) :: rows) X) (hbY : Below w.heap.size w Y) (hs : X.heap.size ≤ Y.heap.size) (hk : ∀ j, j < X.heap.size → j ≠ b → Y.heap[j]? = X.heap[j]?) : TB w og mb rg i m D L R rows Y := by
  obtain ⟨S, dv, ov, T, dr, lv, lds, h1, h2, h3, h4, h5⟩ := h.ex
  obtain ⟨n1, n2, n3⟩ := h5 _ (List.mem_cons_self ..)
  have hlow := h.rs.low _ (List.mem_cons_self ..)
  have hnd := List.nodup_cons.1 (show ((b :: rows.map (·.1)).Nodup) from h.rs.nd)
  refine ⟨⟨S, dv, ov, T, dr, lv, lds, h1.keep hs (fun k hkl hS => hk k hkl (fun e => ?_)), h2.keep hs (fun k hkl hT => hk k hkl (fun e => ?_)), h3, h4, fun r hr => h5 r (List.mem_cons_of_mem _ hr)⟩, hbY, fun r hr => h.rs.low r (List.mem_cons_of_mem _ hr), hnd.2, fun r hr => ?_⟩
  · subst e; exact hS.elim n1 n3
  · subst e; exact hT.elim n2 (fun hl => by have : w.heap.size ≤ k := hlow; omega)
  · have hrow := h.rs.row r (List.mem_cons_of_mem _ hr)
    rw [hk r.1 (MC.row_lt hrow) (fun e => hnd.1 (by rw [← e]; exact List.mem_map_of_mem hr))]
    exact hrow
/-- A row that is new. -/
theorem TB.add (h : TB w og mb rg i m D L R rows X) (hb : Below X.heap.size X Y) (hl : X.heap.size ≤ b) (hr : Y.heap[b]? = some (.cells M.toArray t (0, 0))) : TB w og mb rg i m D L R ((b, t, M) :: rows) Y := by
  obtain ⟨S, dv, ov, T, dr, lv, lds, a1, a2, a3, a4, a5⟩ := h.ex
  have hs := hb.size
  have hw := h.bel.size
  refine ⟨⟨S, dv, ov, T, dr, lv, lds, a1.below hb, a2.keep hb.size (fun k hk _ => hb.block k hk), a3, a4, fun r hr => ?_⟩, (h.rs.step hb).add (by omega) hr (fun r hr e => ?_)⟩
  · rcases List.mem_cons.1 hr with rfl | hr
    · exact ⟨fun hS => by have := a1.top _ hS; omega, fun hT => by have := a2.top _ hT; omega, fun e => by have := (a1.dro _ e).2; omega⟩
    · exact a5 r hr
  · have := MC.row_lt (h.rs.row r hr); omega
end
/-- A list of digests, as a row. -/
structure RL (v : Value) (g : Nat) (M : List Value) (ls : List (List UInt8)) : Prop where
  ex : ∃ cap, v = .slice (some ⟨g, 0, none⟩) ls.length cap ∧ ls.length ≤ cap ∧ cap ≤ maxLen ∧ M.length = cap * 32
  cells : M.take (ls.length * 32) = ls.flatten.map B8
  each : ∀ l ∈ ls, l.length = 32
theorem flat_len32 : ∀ (ls : List (List UInt8)), (∀ l ∈ ls, l.length = 32) → ls.flatten.length = ls.length * 32
  | [], _ => rfl
  | l :: ls, h => by
    rw [List.flatten_cons, List.length_append, h l (List.mem_cons_self ..), flat_len32 ls (fun x hx => h x (List.mem_cons_of_mem _ hx)), List.length_cons]; omega
theorem flat_part : ∀ (ls : List (List UInt8)) (k : Nat), (∀ l ∈ ls, l.length = 32) → k < ls.length → (ls.flatten.drop (k * 32)).take 32 = ls.getD k []
  | [], k, _, hk => absurd hk (Nat.not_lt_zero _)
  | l :: ls, 0, h, _ => by
    have := h l (List.mem_cons_self ..)
    rw [List.flatten_cons, Nat.zero_mul, List.drop_zero, List.take_append_of_le_length (by omega), List.take_of_length_le (by omega)]; rfl
  | l :: ls, k + 1, h, hk => by
    have := h l (List.mem_cons_self ..)
    rw [List.flatten_cons, show (k + 1) * 32 = l.length + k * 32 by omega, ← List.drop_drop, List.drop_left, flat_part ls k (fun x hx => h x (List.mem_cons_of_mem _ hx)) (by simpa using hk)]; rfl
theorem RL.own {v : Value} {g : Nat} {M : List Value} {ls : List (List UInt8)} (h : RL v g M ls) {W : World} {base : Nat} (hb : base ≤ g) (hr : W.heap[g]? = some (.cells M.toArray 23 (0, 0))) : W.ownsRow base 23 32 v ls.length (ls.flatten.map B8) := by
  obtain ⟨⟨cap, hv, h1, h2, h3⟩, h4, h5⟩ := h
  exact ⟨by rw [List.length_map, flat_len32 ls h5], .inr ⟨g, cap, _, hv, hb, hr, h1, h2, by simpa using h3, h4⟩⟩
theorem RL.range {v : Value} {g : Nat} {M : List Value} {ls : List (List UInt8)} (h : RL v g M ls) (k : Nat) (hk : k < ls.length) {W : World} {t : TypeId} (hr : W.heap[g]? = some (.cells M.toArray t (0, 0))) : W.rangeAt g (k * 32) ((ls.getD k []).map B8) := by
  have q := MC.rangeAt_part (MC.rangeAt_row hr) (k * 32) 32
  rw [Nat.zero_add] at q
  have e : (M.drop (k * 32)).take 32 = (ls.getD k []).map B8 := by
    rw [← flat_part ls k h.each hk, List.map_take, List.map_drop, ← h.cells, List.drop_take, List.take_take, Nat.min_eq_left (by omega)]
  rw [e] at q
  exact q
theorem RL.one (g : Nat) (l : List UInt8) (hl : l.length = 32) : RL (.slice (some ⟨g, 0, none⟩) 1 1) g (l.map B8) [l] :=
  ⟨⟨1, rfl, Nat.le_refl _, by decide, by simp [hl]⟩, by rw [List.length_singleton, Nat.one_mul, List.take_of_length_le (by simp [hl])]; simp, fun x hx => by rw [List.mem_singleton.1 hx]; exact hl⟩
section
variable {w X Y : World} {og mb rg mm gb rm bb n : Nat} {i : Bool} {m : List UInt8} {D : List (List UInt8)} {L L' R R' : Lg} {rows rows' : Rws} {l1 l2 l' A : List UInt8} {b : Nat} {t : TypeId} {M N : List Value}
theorem TM.with (h : TM w og mb rg i m D L R mm gb rm bb n l1 l2 rows X) (hb : TB w og mb rg i m D L' R' (mrows mm gb rm bb n l1 l2 rows') Y) : TM w og mb rg i m D L' R' mm gb rm bb n l1 l2 rows' Y := ⟨hb, h.len1, h.len2, h.pos, h.le⟩
theorem TM.alloc (h : TM w og mb rg i m D L R mm gb rm bb n l1 l2 rows X) (k : Nat) (hn : k = X.heap.size) (t : TypeId) (M : List Value) : TM w og mb rg i m D L R mm gb rm bb n l1 l2 ((k, t, M) :: rows) (X.alloc (.cells M.toArray t (0, 0))) :=
  h.with ((h.tb.alloc k hn t M).perm (List.perm_middle (l₁ := [_, _, _, _])).symm)
theorem TM.drop (h : TM w og mb rg i m D L R mm gb rm bb n l1 l2 ((b, t, M) :: rows) X) : TM w og mb rg i m D L R mm gb rm bb n l1 l2 rows X :=
  h.with (TB.drop (h.tb.perm (List.perm_middle (l₁ := [_, _, _, _]))))
theorem TM.swap {x y : Nat × TypeId × List Value} (h : TM w og mb rg i m D L R mm gb rm bb n l1 l2 (x :: y :: rows) X) : TM w og mb rg i m D L R mm gb rm bb n l1 l2 (y :: x :: rows) X :=
  h.with (h.tb.perm ((List.Perm.swap y x rows).append_left [_, _, _, _]))
theorem TM.at (h : TM w og mb rg i m D L R mm gb rm bb n l1 l2 rows X) (q : Nat) (hq : rows[q]? = some (b, t, M)) : X.heap[b]? = some (.cells M.toArray t (0, 0)) := h.tb.rs.at (q + 4) hq
theorem TM.cell (h : TM w og mb rg i m D L R mm gb rm bb n l1 l2 rows X) (q : Nat) (hq : rows[q]? = some (b, t, M)) (k : Nat) {v : Value} (hv : M[k]? = some v) : X.cell? ⟨b, k, none⟩ = some v := h.tb.rs.cell (q + 4) hq k hv
theorem TM.lowAt (h : TM w og mb rg i m D L R mm gb rm bb n l1 l2 rows X) (q : Nat) (hq : rows[q]? = some (b, t, M)) : w.heap.size ≤ b := h.tb.rs.lowAt (q + 4) hq
theorem TM.put' (h : TM w og mb rg i m D L R mm gb rm bb n l1 l2 rows X) (q : Nat) (hq : rows[q]? = some (b, t, M)) (N : List Value) : TM w og mb rg i m D L R mm gb rm bb n l1 l2 (rows.set q (b, t, N)) (X.setRow b N.toArray) :=
  h.with (h.tb.put (q + 4) hq N)
theorem TM.poke (h : TM w og mb rg i m D L R mm gb rm bb n l1 l2 rows X) (q : Nat) (hq : rows[q]? = some (b, t, M)) (k : Nat) (v : Value) (hM : M.set k v = N) : TM w og mb rg i m D L R mm gb rm bb n l1 l2 (rows.set q (b, t, N)) (X.setCell ⟨b, k, none⟩ v) :=
  h.with (h.tb.poke (q + 4) hq k v hM)
theorem TM.add (h : TM w og mb rg i m D L R mm gb rm bb n l1 l2 rows X) (hb : Below X.heap.size X Y) (hl : X.heap.size ≤ b) (hr : Y.heap[b]? = some (.cells M.toArray t (0, 0))) : TM w og mb rg i m D L R mm gb rm bb n l1 l2 ((b, t, M) :: rows) Y :=
  h.with ((h.tb.add hb hl hr).perm (List.perm_middle (l₁ := [_, _, _, _])).symm)
theorem TM.pask {f : Nat} {args : Array Value} {v : Value} (h : TM w og mb rg i m D L R mm gb rm bb n l1 l2 rows X)
    (hc : ∀ S dv ov, R5.PO w.heap.size og mb S X (prG i m D L) dv ov → Calls Try.prog f args X fun e Y => PR w.heap.size og mb S X (prG i m D L') dv v e Y) :
    Calls Try.prog f args X fun e Y => e = .returned v ∧ TM w og mb rg i m D L' R mm gb rm bb n l1 l2 rows Y :=
  (h.tb.pask hc).mono fun e Y ⟨h1, h2⟩ => ⟨h1, h.with h2⟩
theorem TM.pnoneOf (h : TM w og mb rg i m D L R mm gb rm bb n l1 l2 rows X) (hll : L.length < 1000000) (p : Nat) (hp : p < 128) : Calls Try.prog 30 #[.pointer (some ⟨og, 0, none⟩), .int .i64 (p : Int)] X fun e Y => e = .returned (R5.dV (nx2 i D L (qNone p)).1) ∧ TM w og mb rg i m D (nx2 i D L (qNone p)).2 R mm gb rm bb n l1 l2 rows Y :=
  h.pask fun S dv ov h1 => noneOf_any _ og mb S dv ov _ p X _ hp h.tb.bel.size hll h1 (nxP_nx2 i m D L _)
theorem TM.pnodeOf (h : TM w og mb rg i m D L R mm gb rm bb n l1 l2 rows X) (hll : L.length < 1000000) (k : Nat) (x y : List UInt8) (hk : k < 256) (hx : x.length = 32) (hy : y.length = 32) : Calls Try.prog 32 #[.pointer (some ⟨og, 0, none⟩), .int .i64 (k : Int), .agg (x.map B8).toArray, .agg (y.map B8).toArray] X fun e Y => e = .returned (R5.dV (nx2 i D L (qNode k x y)).1) ∧ TM w og mb rg i m D (nx2 i D L (qNode k x y)).2 R mm gb rm bb n l1 l2 rows Y :=
  h.pask fun S dv ov ho => nodeOf_any _ og mb S dv ov _ k x y X _ hk hx hy h.tb.bel.size hll ho (nxP_nx2 i m D L _)
/-- A list that is appended to. -/
theorem TM.app {g g' cap : Nat} {v : Value} {ls : List (List UInt8)} {d : List UInt8} (h : TM w og mb rg i m D L R mm gb rm bb n l1 l2 ((g, 23, M) :: rows) X) (hv : RL v g M ls) (hd : d.length = 32)
    (hown : Y.ownsRow w.heap.size 23 32 (.slice (some ⟨g', 0, none⟩) (ls.length + 1) cap) (ls.length + 1) (ls.flatten.map B8 ++ d.map B8)) (hgr : X.grownBy Y v.ownBlock) (hg : v.ownBlock = some g' ∨ g' = X.heap.size) :
    ∃ M', RL (.slice (some ⟨g', 0, none⟩) (ls.length + 1) cap) g' M' (ls ++ [d]) ∧ TM w og mb rg i m D L R mm gb rm bb n l1 l2 ((g', 23, M') :: rows) Y := by
  obtain ⟨⟨cp, hve, _⟩, hc, he⟩ := hv
  have hob : v.ownBlock = some g := by rw [hve]; rfl
  rw [hob] at hgr hg
  obtain ⟨hlen, hX⟩ := hown
  rcases hX with ⟨e, _⟩ | ⟨g2, cap2, cur, e, hb, hr, c1, c2, c3, c4⟩
  · simp at e
  simp only [Value.slice.injEq, Option.some.injEq, Addr.mk.injEq, and_true, true_and] at e
  obtain ⟨rfl, rfl⟩ := e
  have hRL : RL (.slice (some ⟨g', 0, none⟩) (ls.length + 1) cap) g' cur.toList (ls ++ [d]) := ⟨⟨cap, by simp, by simpa using c1, c2, by simpa using c3⟩, by
    rw [List.length_append, List.length_singleton, c4]; simp, fun x hx => by
    rcases List.mem_append.1 hx with hx | hx
    · exact he x hx
    · rw [List.mem_singleton.1 hx]; exact hd⟩
  have hbY : Below w.heap.size w Y := by
    have hbX := h.tb.bel
    have hlow : w.heap.size ≤ g := h.lowAt 0 rfl
    exact ⟨hgr.os.trans hbX.os, hgr.tape.trans hbX.tape, hgr.output.trans hbX.output, Nat.le_trans hbX.size hgr.size, fun j hj => (hgr.block j (Nat.lt_of_lt_of_le hj hbX.size) (fun e => by have := Option.some.inj e; omega)).trans (hbX.block j hj)⟩
  have hk : ∀ j, j < X.heap.size → j ≠ g → Y.heap[j]? = X.heap[j]? := fun j hj hne => hgr.block j hj (fun e => hne (Option.some.inj e))
  have hrow : Y.heap[g']? = some (.cells cur.toList.toArray 23 (0, 0)) := by rw [Array.toArray_toList]; exact hr
  refine ⟨cur.toList, hRL, ?_⟩
  rcases hg with hg | hg
  · obtain rfl := Option.some.inj hg
    exact h.with (h.tb.other 4 rfl hrow hbY hgr.size hk)
  · have h0 := h.tb.perm (List.perm_middle (l₁ := [_, _, _, _]))
    have h1 := h0.loose hbY hgr.size hk
    obtain ⟨S, dv, ov, T, dr, lv, lds, a1, a2, a3, a4, a5⟩ := h0.ex
    obtain ⟨S', dv', ov', T', dr', lv', lds', b1, b2, b3, b4, b5⟩ := h1.ex
    refine h.with (TB.perm ?_ (List.perm_middle (l₁ := [_, _, _, _])).symm)
    have hlt := MC.row_lt (h.at 0 rfl)
    refine ⟨⟨S, dv, ov, T, dr, lv, lds, ?_, ?_, a3, a4, fun r hr => ?_⟩, h1.rs.add (by have := h.tb.bel.size; omega) hrow (fun r hr e => ?_)⟩
    · obtain ⟨n1, n2, n3⟩ := a5 _ (List.mem_cons_self ..)
      exact a1.keep hgr.size (fun k hkl hS => hk k hkl (fun e => by subst e; exact hS.elim n1 n3))
    · obtain ⟨n1, n2, n3⟩ := a5 _ (List.mem_cons_self ..)
      have hlow : w.heap.size ≤ g := h.lowAt 0 rfl
      exact a2.keep hgr.size (fun k hkl hT => hk k hkl (fun e => by subst e; exact hT.elim n2 (fun hl => by omega)))
    · rcases List.mem_cons.1 hr with rfl | hr
      · exact ⟨fun hS => by have := a1.top _ hS; omega, fun hT => by have := a2.top _ hT; omega, fun e => by have := (a1.dro _ e).2; omega⟩
      · exact a5 r (List.mem_cons_of_mem _ hr)
    · have hr0 := h0.rs.row r (List.mem_cons_of_mem _ hr)
      have := MC.row_lt hr0
      omega
/-- A list of numbers that was made is a row. -/
theorem TM.list (h : TM w og mb rg i m D L R mm gb rm bb n l1 l2 rows X) (hb : Below X.heap.size X Y) {v : Value} {ls : List Int} (hl : 0 < ls.length) (hf : FI X.heap.size Y v ls) : ∃ g M, TM w og mb rg i m D L R mm gb rm bb n l1 l2 ((g, 3, M) :: rows) Y ∧ ∀ W, W.heap[g]? = some (.cells M.toArray 3 (0, 0)) → HI W v ls := by
  obtain ⟨g, M, h1, h2⟩ := h.tb.list hb hl hf
  exact ⟨g, M, h.with (h1.perm (List.perm_middle (l₁ := [_, _, _, _])).symm), h2⟩
end
end Go.Proofs.Ytnijjoankahddaa.DC
