/- Logs of ref 5: their cells. -/
import Derived.Test.YtekbppfocnbhbaaGreatD9
import Derived.Test.YtekbppfocnbhbaaGreatB9
set_option linter.unusedVariables false
set_option linter.unusedSimpArgs false
namespace Go.Proofs.YtekbppfocnbhbaaGreat.R5
open scoped Classical
open Go.RowKit

/-- The cells of a question with its answer. -/
def aL (e : Qn × List UInt8) (dv : Value) : List Value := qL e.1 dv ++ e.2.map B8
theorem aL_len (e : Qn × List UInt8) (dv : Value) (h1 : e.1.key.length = 32) (h2 : e.2.length = 32) : (aL e dv).length = 67 := by unfold aL; simp [qL_len _ _ h1, h2]
/-- A log's cells. -/
def lC : List (Qn × List UInt8) → List Value → List Value
  | e :: l, d :: ds => aL e d ++ lC l ds
  | _, _ => []
/-- All keys and answers are of 32 bytes. -/
def logOk (l : List (Qn × List UInt8)) : Prop := ∀ e ∈ l, e.1.key.length = 32 ∧ e.2.length = 32
theorem lC_len : ∀ (l : List (Qn × List UInt8)) (ds : List Value), logOk l → ds.length = l.length → (lC l ds).length = l.length * 67
  | [], [], _, _ => rfl
  | [], _ :: _, _, h => by simp at h
  | _ :: _, [], _, h => by simp at h
  | e :: l, d :: ds, h, hl => by
    have h0 := h e (by simp)
    have ih := lC_len l ds (fun x hx => h x (by simp [hx])) (by simpa using hl)
    show (aL e d ++ lC l ds).length = _
    rw [List.length_append, aL_len e d h0.1 h0.2, ih, List.length_cons]
    omega
theorem lC_at : ∀ (l : List (Qn × List UInt8)) (ds : List Value), logOk l → ds.length = l.length → ∀ i e d, l[i]? = some e → ds[i]? = some d → ∀ j, j < 67 → (lC l ds)[i * 67 + j]? = (aL e d)[j]?
  | [], _, _, _, i, e, d, h, _, _, _ => by simp at h
  | _ :: _, [], _, h, _, _, _, _, _, _, _ => by simp at h
  | e :: l, d :: ds, h, hl, i, e', d', he, hd, j, hj => by
    have h0 := h e (by simp)
    have hal := aL_len e d h0.1 h0.2
    show (aL e d ++ lC l ds)[i * 67 + j]? = _
    cases i with
    | zero =>
      simp only [List.getElem?_cons_zero, Option.some.injEq] at he hd
      subst he hd
      rw [Nat.zero_mul, Nat.zero_add, List.getElem?_append_left (by omega)]
    | succ i =>
      simp only [List.getElem?_cons_succ] at he hd
      rw [List.getElem?_append_right (by rw [hal]; omega), hal, show (i + 1) * 67 + j - 67 = i * 67 + j by omega]
      exact lC_at l ds (fun x hx => h x (by simp [hx])) (by simpa using hl) i e' d' he hd j hj
theorem lC_snoc : ∀ (l : List (Qn × List UInt8)) (ds : List Value) (e : Qn × List UInt8) (d : Value), ds.length = l.length → lC (l ++ [e]) (ds ++ [d]) = lC l ds ++ aL e d
  | [], [], e, d, _ => by show aL e d ++ [] = [] ++ aL e d; simp
  | [], _ :: _, _, _, h => by simp at h
  | _ :: _, [], _, _, h => by simp at h
  | x :: l, y :: ds, e, d, h => by
    show aL x y ++ lC (l ++ [e]) (ds ++ [d]) = aL x y ++ lC l ds ++ aL e d
    rw [lC_snoc l ds e d (by simpa using h), List.append_assoc]
/-- A log in memory. -/
def HLg (B : Nat) (w : World) (lv : Value) (l : List (Qn × List UInt8)) (ds : List Value) : Prop :=
  logOk l ∧ ds.length = l.length ∧ w.ownsRow B 140 67 lv l.length (lC l ds) ∧ ∀ (i : Nat) (e : Qn × List UInt8) (d : Value), l[i]? = some e → ds[i]? = some d → HB w d e.1.data
/-- What a log's slice is. -/
theorem hlg_form {B : Nat} {w : World} {lv : Value} {l : List (Qn × List UInt8)} {ds : List Value} (h : HLg B w lv l ds) : ∃ p cap, lv = .slice p l.length cap ∧ ∀ i e d, l[i]? = some e → ds[i]? = some d → ∃ g, p = some ⟨g, 0, none⟩ ∧ B ≤ g ∧ w.rangeAt g (i * 67) (qL e.1 d) ∧ w.rangeAt g (i * 67 + 35) (e.2.map B8) := by
  obtain ⟨h1, h2, h3, h4⟩ := h
  rcases h3.2 with ⟨e1, e2⟩ | ⟨g, cap, cur, e1, e2, e3, e4, e5, e6, e7⟩
  · refine ⟨none, 0, by rw [e1, e2], fun i e d he _ => ?_⟩
    have : i < l.length := (List.getElem?_eq_some_iff.1 he).1
    omega
  · refine ⟨some ⟨g, 0, none⟩, cap, e1, fun i e d he hd => ⟨g, rfl, e2, ?_, ?_⟩⟩
    · intro j v hv
      have hi : i < l.length := (List.getElem?_eq_some_iff.1 he).1
      have hem : e ∈ l := List.mem_of_getElem? he
      have hk := (h1 e hem)
      have hj : j < 35 := by
        have := (List.getElem?_eq_some_iff.1 hv).1
        rw [qL_len _ _ hk.1] at this; exact this
      have hx := lC_at l ds h1 h2 i e d he hd j (by omega)
      have : (aL e d)[j]? = some v := by
        unfold aL; rw [List.getElem?_append_left (by rw [qL_len _ _ hk.1]; exact hj)]; exact hv
      rw [this] at hx
      rw [cell_of_row _ _ _ _ _ _ e3]
      rw [← e7, List.getElem?_take] at hx
      rw [if_pos (by omega)] at hx
      simpa using hx
    · intro j v hv
      have hi : i < l.length := (List.getElem?_eq_some_iff.1 he).1
      have hem : e ∈ l := List.mem_of_getElem? he
      have hk := (h1 e hem)
      have hj : j < 32 := by
        have := (List.getElem?_eq_some_iff.1 hv).1
        rw [List.length_map, hk.2] at this; exact this
      have hx := lC_at l ds h1 h2 i e d he hd (35 + j) (by omega)
      have : (aL e d)[35 + j]? = some v := by
        unfold aL
        rw [List.getElem?_append_right (by rw [qL_len _ _ hk.1]; omega), qL_len _ _ hk.1, show 35 + j - 35 = j by omega]; exact hv
      rw [this, ← Nat.add_assoc] at hx
      rw [cell_of_row _ _ _ _ _ _ e3]
      rw [← e7, List.getElem?_take] at hx
      rw [if_pos (by omega)] at hx
      simpa using hx
theorem hlg_below {B : Nat} {w w' : World} {lv : Value} {l : List (Qn × List UInt8)} {ds : List Value} (h : HLg B w lv l ds) (hb : Below w.heap.size w w') : HLg B w' lv l ds := by
  obtain ⟨h1, h2, h3, h4⟩ := h
  exact ⟨h1, h2, h3.kept (row := none) ⟨hb.os, hb.tape, hb.output, hb.size, fun j hj _ => hb.block j hj⟩ (by cases hv : lv.ownBlock <;> simp), fun i e d he hd => (h4 i e d he hd).below hb⟩
/-- The answer to q in a log. -/
def fndA (q : Qn) : List (Qn × List UInt8) → Option (List UInt8)
  | [] => none
  | e :: l => @ite _ (e.1 = q) (decQ e.1 q) (some e.2) (fndA q l)
theorem fndA_drop (q : Qn) (l : List (Qn × List UInt8)) (k : Nat) (e : Qn × List UInt8) (he : l[k]? = some e) : fndA q (l.drop k) = @ite _ (e.1 = q) (decQ e.1 q) (some e.2) (fndA q (l.drop (k + 1))) := by
  have hk : k < l.length := (List.getElem?_eq_some_iff.1 he).1
  have h1 : l[k] = e := (List.getElem?_eq_some_iff.1 he).2
  rw [List.drop_eq_getElem_cons hk, h1]
  rfl

theorem fndA_none {q : Qn} : ∀ {l : List (Qn × List UInt8)}, fndA q l = none → ∀ e ∈ l, e.1 ≠ q
  | [], _, e, he => by simp at he
  | x :: l, h, e, he => by
    unfold fndA at h
    by_cases hx : x.1 = q
    · rw [if_pos hx] at h; simp at h
    · rw [if_neg hx] at h
      rcases List.mem_cons.1 he with rfl | he
      · exact hx
      · exact fndA_none h e he

theorem fndA_some {q : Qn} {A : List UInt8} : ∀ {l : List (Qn × List UInt8)}, fndA q l = some A → (q, A) ∈ l
  | [], h => by simp [fndA] at h
  | x :: l, h => by
    unfold fndA at h
    by_cases hx : x.1 = q
    · rw [if_pos hx] at h
      have h2 := Option.some.inj h
      obtain ⟨x1, x2⟩ := x
      simp only at hx h2
      subst hx h2
      simp
    · rw [if_neg hx] at h
      exact List.mem_cons_of_mem _ (fndA_some h)

end Go.Proofs.YtekbppfocnbhbaaGreat.R5
