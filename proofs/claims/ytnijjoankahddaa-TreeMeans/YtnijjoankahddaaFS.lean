/- tree: the mathematics of TreeMeans: the latest leaf, and it alone, reckons the root. -/
import Derived.Test.YtnijjoankahddaaWx
set_option linter.unusedVariables false
set_option linter.unusedSimpArgs false
namespace Go.Proofs.Ytnijjoankahddaa.DC
open Go.RowKit

/-- No two draws are one, nor one that comes behind the list's end. -/
def dst (D : List (List UInt8)) : Prop := (∀ i, i < D.length → ∀ k, k < i → D.getD i [] ≠ D.getD k []) ∧ ∀ i, i < D.length → (D.getD i []).getD 31 0 ≠ 1
theorem le_inj {a b : Nat} (ha : a < 18446744073709551616) (hb : b < 18446744073709551616) (h : W1.le 8 a = W1.le 8 b) : a = b := by
  have h1 := congrArg W1.num h
  rw [W1.num_le, W1.num_le, Nat.mod_eq_of_lt (by simpa using ha), Nat.mod_eq_of_lt (by simpa using hb)] at h1
  exact h1
theorem app_inj {α : Type} {a b c d : List α} (h : a ++ b = c ++ d) (hl : a.length = c.length) : a = c ∧ b = d := List.append_inj h hl
theorem drawD_lt {D : List (List UInt8)} {i : Nat} (h : i < D.length) : R5.drawD D i = D.getD i [] := by unfold R5.drawD; rw [if_pos h]
theorem drawD_ge {D : List (List UInt8)} {i : Nat} (h : ¬ i < D.length) : R5.drawD D i = W1.le 8 i ++ List.replicate 23 0 ++ [1] := by unfold R5.drawD; rw [if_neg h]
theorem last_ge (i : Nat) : (W1.le 8 i ++ List.replicate 23 (0 : UInt8) ++ [1]).getD 31 0 = 1 := by
  have hl : (W1.le 8 i ++ List.replicate 23 (0 : UInt8)).length = 31 := by simp [W1.le_length]
  rw [List.getD_eq_getElem?_getD, List.getElem?_append_right (by omega), hl]; rfl
theorem draw_inj {D : List (List UInt8)} (h : dst D) {i j : Nat} (hi : i < 1000000) (hj : j < 1000000) (e : R5.drawD D i = R5.drawD D j) : i = j := by
  by_cases h1 : i < D.length
  · by_cases h2 : j < D.length
    · rw [drawD_lt h1, drawD_lt h2] at e
      rcases Nat.lt_trichotomy i j with hl | hl | hl
      · exact absurd e.symm (h.1 j h2 i hl)
      · exact hl
      · exact absurd e (h.1 i h1 j hl)
    · rw [drawD_lt h1, drawD_ge h2] at e
      have := h.2 i h1
      rw [e, last_ge] at this
      exact absurd rfl this
  · by_cases h2 : j < D.length
    · rw [drawD_ge h1, drawD_lt h2] at e
      have := h.2 j h2
      rw [← e, last_ge] at this
      exact absurd rfl this
    · rw [drawD_ge h1, drawD_ge h2, List.append_assoc, List.append_assoc] at e
      exact le_inj (by omega) (by omega) (app_inj e (by rw [W1.le_length, W1.le_length])).1
/-- The answers are the draws, one behind the other. -/
def ansOk (D : List (List UInt8)) (L : Lg) : Prop := ∀ (i : Nat) (e : R5.Qn × List UInt8), L[i]? = some e → e.2 = R5.drawD D i
theorem ansOk.nx {D : List (List UInt8)} {L : Lg} (h : ansOk D L) (q : R5.Qn) : ansOk D (nx2 true D L q).2 := by
  cases hf : R5.fndA q L with
  | some A => rw [nx2_old hf]; exact h
  | none =>
    unfold nx2; rw [hf]
    intro i e he
    rcases Nat.lt_or_ge i L.length with hi | hi
    · rw [List.getElem?_append_left hi] at he; exact h i e he
    · rw [List.getElem?_append_right hi] at he
      have h0 : i - L.length = 0 := by have := (List.getElem?_eq_some_iff.1 he).1; simp at this; omega
      rw [h0] at he
      have h3 : (q, R5.drawD D L.length) = e := by simpa using he
      rw [← h3, show i = L.length by omega]
theorem fnd_inj {D : List (List UInt8)} {L : Lg} (hd : dst D) (ha : ansOk D L) (hl : L.length < 1000000) {q q' : R5.Qn} {A : List UInt8} (h : R5.fndA q L = some A) (h' : R5.fndA q' L = some A) : q = q' := by
  obtain ⟨i, hi⟩ := List.getElem?_of_mem (R5.fndA_some h)
  obtain ⟨j, hj⟩ := List.getElem?_of_mem (R5.fndA_some h')
  have e1 := ha i _ hi
  have e2 := ha j _ hj
  have hil := (List.getElem?_eq_some_iff.1 hi).1
  have hjl := (List.getElem?_eq_some_iff.1 hj).1
  have e := draw_inj hd (by omega) (by omega) (e1.symm.trans e2)
  subst e
  rw [hi] at hj
  exact congrArg Prod.fst (Option.some.inj hj)
theorem node_inj {i j : Nat} {a b c d : List UInt8} (hi : i < 1000000) (hj : j < 1000000) (ha : a.length = 32) (hc : c.length = 32) (h : qNode i a b = qNode j c d) : i = j ∧ a = c ∧ b = d := by
  have hd : W1.le 8 i ++ (a ++ b) = W1.le 8 j ++ (c ++ d) := congrArg R5.Qn.data h
  obtain ⟨h1, h2⟩ := app_inj hd (by rw [W1.le_length, W1.le_length])
  obtain ⟨h3, h4⟩ := app_inj h2 (by rw [ha, hc])
  exact ⟨le_inj (by omega) (by omega) h1, h3, h4⟩
section
variable {i : Bool} {D : List (List UInt8)} {L : Lg} {nb : Nat → List UInt8} {j : Nat} {leaf : List UInt8}
theorem upS_ans (h : ansOk D L) (k : Nat) : ansOk D (upS true D nb j leaf L k).2 := by
  induction k with
  | zero => exact h
  | succ k ih => rw [upS_succ]; exact ih.nx _
theorem leafM_ans {l : List UInt8} {a : Nat} (h : ansOk D L) (k : Nat) : ansOk D (leafM true D l a L k).2 := by
  induction k with
  | zero => exact h
  | succ k ih => rw [leafM_succ]; exact ih.nx _
theorem nodeM_ans {l : List UInt8} {a : Nat} (h : ansOk D L) (k : Nat) : ansOk D (nodeM true D l a L k).2 := by
  induction k with
  | zero => exact leafM_ans h 128
  | succ k ih => rw [nodeM_succ]; exact ih.nx _
end
/-- A tree lies in memory: each node is what is told of the two below it; so is the root. -/
structure Tree (L : Lg) (M : List UInt8) (a : Nat) (root : List UInt8) : Prop where
  len : a + 8192 ≤ M.length
  node : ∀ q, 2 ≤ q → q < 128 → R5.fndA (qNode q (nodeB M a (2 * q)) (nodeB M a (2 * q + 1))) L = some (nodeB M a q)
  root : R5.fndA (qNode 1 (nodeB M a 2) (nodeB M a 3)) L = some root
theorem nodeB_32 {M : List UInt8} {a q : Nat} (h : a + 8192 ≤ M.length) (hq : q < 256) : (nodeB M a q).length = 32 := by
  unfold nodeB MC.rdB; rw [List.length_take, List.length_drop]; omega
theorem bes_even {x : Nat} (h : x % 2 = 0) : bes x = x + 1 := by unfold bes; rw [if_pos h]
theorem bes_lt' {x : Nat} (h : x < 256) : bes x < 256 := by unfold bes; split <;> omega
theorem bes_odd {x : Nat} (h : x % 2 = 1) : bes x = x - 1 := by unfold bes; rw [if_neg (by omega)]
/-- What is asked of a node and the one beside it is what is asked of the two below the one above. -/
theorem askUp_two (f : Nat → List UInt8) (x : Nat) (hx : 2 ≤ x) : askUp x (f x) (f (bes x)) = qNode (x / 2) (f (2 * (x / 2))) (f (2 * (x / 2) + 1)) := by
  unfold askUp
  by_cases h : x % 2 = 1
  · rw [if_pos h, bes_odd h, show 2 * (x / 2) = x - 1 by omega, show x - 1 + 1 = x by omega]
  · rw [if_neg h, bes_even (by omega), show 2 * (x / 2) = x by omega]
theorem step2 (j k : Nat) : j / 2 ^ (k + 1) = j / 2 ^ k / 2 := by rw [Nat.pow_succ, Nat.div_div_eq_div_mul]
theorem lv (j : Nat) (h1 : 128 ≤ j) (h2 : j < 256) (k : Nat) (hk : k < 7) : 2 ≤ j / 2 ^ k ∧ j / 2 ^ k < 256 := by
  have : 2 ^ k ≤ 2 ^ 6 := Nat.pow_le_pow_right (by decide) (by omega)
  exact ⟨(Nat.le_div_iff_mul_le (Nat.pow_pos (by decide))).2 (by omega), Nat.lt_of_le_of_lt (Nat.div_le_self _ _) h2⟩
theorem lv7 (j : Nat) (h1 : 128 ≤ j) (h2 : j < 256) : j / 2 ^ 7 = 1 := by omega
/-- The levels are told apart by their numbers. -/
theorem lv_lt (j : Nat) (h1 : 128 ≤ j) (h2 : j < 256) (k : Nat) (hk : k < 7) : 2 ^ (7 - k) ≤ j / 2 ^ k ∧ j / 2 ^ k < 2 ^ (8 - k) := by
  have : k = 0 ∨ k = 1 ∨ k = 2 ∨ k = 3 ∨ k = 4 ∨ k = 5 ∨ k = 6 := by omega
  rcases this with rfl | rfl | rfl | rfl | rfl | rfl | rfl <;> simp <;> omega
theorem lv_ne (j j' : Nat) (h1 : 128 ≤ j) (h2 : j < 256) (h1' : 128 ≤ j') (h2' : j' < 256) (s k : Nat) (hsk : s < k) (hk : k < 7) : j / 2 ^ s ≠ j' / 2 ^ k := by
  have a := (lv_lt j h1 h2 s (by omega)).1
  have b := (lv_lt j' h1' h2' k hk).2
  have c : 2 ^ (8 - k) ≤ 2 ^ (7 - s) := Nat.pow_le_pow_right (by decide) (by omega)
  omega
/-- One question of two nodes: the node on its own side is the same. -/
theorem up_side {M d : List UInt8} {a x y : Nat} (hz : True ∨ x = x) (hx : 2 ≤ x) (hx2 : x < 256) (hd : d.length = 32) (hM : a + 8192 ≤ M.length) (hy : x / 2 = y) (h : askUp x d (nodeB M a (bes x)) = qNode y (nodeB M a (2 * y)) (nodeB M a (2 * y + 1))) : d = nodeB M a x := by
  subst hy
  unfold askUp at h
  by_cases hp : x % 2 = 1
  · rw [if_pos hp] at h
    have hb : (nodeB M a (bes x)).length = 32 := nodeB_32 hM (by rw [bes_odd hp]; omega)
    have q := (node_inj (by omega) (by omega) hb (nodeB_32 hM (by omega)) h).2.2
    rw [q, show 2 * (x / 2) + 1 = x by omega]
  · rw [if_neg hp] at h
    have q := (node_inj (by omega) (by omega) hd (nodeB_32 hM (by omega)) h).2.1
    rw [q, show 2 * (x / 2) = x by omega]
section
variable {i : Bool} {D : List (List UInt8)} {L : Lg} {M : List UInt8} {a j : Nat} {root leaf : List UInt8}
/-- Gone up by the leaf that lies there: all is found, and the root is the root. -/
theorem up_lies (ht : Tree L M a root) (h1 : 128 ≤ j) (h2 : j < 256) : ∀ k, k ≤ 7 → (upS i D (nodeB M a) j (nodeB M a j) L k).2 = L ∧ (k < 7 → (upS i D (nodeB M a) j (nodeB M a j) L k).1.getD k [] = nodeB M a (j / 2 ^ k)) ∧ (k = 7 → (upS i D (nodeB M a) j (nodeB M a j) L k).1.getD 7 [] = root)
  | 0, _ => ⟨rfl, fun _ => by show nodeB M a j = _; rw [Nat.pow_zero, Nat.div_one], fun h => by omega⟩
  | k + 1, hk => by
    obtain ⟨e1, e2, _⟩ := up_lies ht h1 h2 k (by omega)
    have hl := lv j h1 h2 k (by omega)
    have hq : upQ i D (nodeB M a) j (nodeB M a j) L k = qNode (j / 2 ^ (k + 1)) (nodeB M a (2 * (j / 2 ^ (k + 1)))) (nodeB M a (2 * (j / 2 ^ (k + 1)) + 1)) := by
      unfold upQ
      rw [e2 (by omega), askUp_two (nodeB M a) _ hl.1, ← step2]
    by_cases h7 : k + 1 = 7
    · have hf : R5.fndA (upQ i D (nodeB M a) j (nodeB M a j) L k) L = some root := by
        rw [hq, h7, lv7 j h1 h2]; exact ht.root
      refine ⟨?_, fun h => by omega, fun _ => ?_⟩
      · rw [upS_succ, e1, nx2_old hf]
      · rw [← h7, upS_last, e1, nx2_old hf]
    · have hl2 := lv j h1 h2 (k + 1) (by omega)
      have hb : j / 2 ^ (k + 1) < 128 := by rw [step2]; omega
      have hf : R5.fndA (upQ i D (nodeB M a) j (nodeB M a j) L k) L = some (nodeB M a (j / 2 ^ (k + 1))) := by
        rw [hq]; exact ht.node _ hl2.1 hb
      refine ⟨?_, fun _ => ?_, fun h => absurd h h7⟩
      · rw [upS_succ, e1, nx2_old hf]
      · rw [upS_last, e1, nx2_old hf]
/-- A leaf by which the same root is reckoned is the one that lies there. -/
theorem up_only (hd : dst D) (ht : Tree L M a root) (ha : ansOk D L) (hL : gL D L) (hll : L.length < 900000) (h1 : 128 ≤ j) (h2 : j < 256) (hl : leaf.length = 32) (hr : (upS true D (nodeB M a) j leaf L 7).1.getD 7 [] = root) : leaf = nodeB M a j := by
  have hfl := upS_ans (D := D) (nb := nodeB M a) (j := j) (leaf := leaf) ha 7
  have hlen : (upS true D (nodeB M a) j leaf L 7).2.length < 1000000 := by have := upS_log (i := true) (D := D) (nb := nodeB M a) (j := j) (leaf := leaf) (L := L) 7; omega
  obtain ⟨E, hE⟩ := upS_ext (i := true) (D := D) (nb := nodeB M a) (j := j) (leaf := leaf) (L := L) 0 7
  rw [Nat.zero_add] at hE
  have hE : (upS true D (nodeB M a) j leaf L 7).2 = L ++ E := hE
  have hea := upS_each (i := true) (nb := nodeB M a) (j := j) hL hl 7
  have hg : ∀ k, k ≤ 7 → ((upS true D (nodeB M a) j leaf L 7).1.getD k []).length = 32 := fun k hk => getD_len hea k (by rw [upS_len]; omega)
  -- going down
  have key : ∀ s, s ≤ 6 → (upS true D (nodeB M a) j leaf L 7).1.getD (6 - s) [] = nodeB M a (j / 2 ^ (6 - s)) := by
    intro s
    induction s with
    | zero =>
      intro _
      have f1 := upS_fnd (i := true) (D := D) (nb := nodeB M a) (j := j) (leaf := leaf) (L := L) 6 0
      have f1 : R5.fndA (upQ true D (nodeB M a) j leaf L 6) (upS true D (nodeB M a) j leaf L 7).2 = some root := by rw [← hr]; exact f1
      have f2 := fnd_app E ht.root
      rw [← hE] at f2
      have hq := fnd_inj hd hfl hlen f1 f2
      have hl6 := lv j h1 h2 6 (by omega)
      have g6 : (upS true D (nodeB M a) j leaf L 6).1.getD 6 [] = (upS true D (nodeB M a) j leaf L 7).1.getD 6 [] := (upS_getD 6 1 6 (by omega)).symm
      unfold upQ at hq
      rw [g6] at hq
      exact up_side (.inl trivial) hl6.1 hl6.2 (hg 6 (by omega)) ht.len (show j / 2 ^ 6 / 2 = 1 by omega) hq
    | succ s ih =>
      intro hs
      have ih := ih (by omega)
      obtain ⟨k, hk⟩ : ∃ k, 6 - (s + 1) = k := ⟨_, rfl⟩
      have hk1 : 6 - s = k + 1 := by omega
      rw [hk1] at ih
      rw [hk]
      have f1 := upS_fnd (i := true) (D := D) (nb := nodeB M a) (j := j) (leaf := leaf) (L := L) k (6 - k)
      rw [show k + 1 + (6 - k) = 7 by omega] at f1
      have e1 : (upS true D (nodeB M a) j leaf L (k + 1)).1.getD (k + 1) [] = (upS true D (nodeB M a) j leaf L 7).1.getD (k + 1) [] := by
        have := upS_getD (i := true) (D := D) (nb := nodeB M a) (j := j) (leaf := leaf) (L := L) (k + 1) (6 - k) (k + 1) (by omega)
        rw [show k + 1 + (6 - k) = 7 by omega] at this; exact this.symm
      rw [e1, ih] at f1
      have hl1 := lv j h1 h2 (k + 1) (by omega)
      have hb : j / 2 ^ (k + 1) < 128 := by have := (lv j h1 h2 k (by omega)).2; rw [step2]; omega
      have f2 := fnd_app E (ht.node _ hl1.1 hb)
      rw [← hE] at f2
      have hq := fnd_inj hd hfl hlen f1 f2
      have hlk := lv j h1 h2 k (by omega)
      have gk : (upS true D (nodeB M a) j leaf L k).1.getD k [] = (upS true D (nodeB M a) j leaf L 7).1.getD k [] := by
        have := upS_getD (i := true) (D := D) (nb := nodeB M a) (j := j) (leaf := leaf) (L := L) k (7 - k) k (by omega)
        rw [show k + (7 - k) = 7 by omega] at this; exact this.symm
      unfold upQ at hq
      rw [gk] at hq
      exact up_side (.inl trivial) hlk.1 hlk.2 (hg k (by omega)) ht.len (step2 j k).symm hq
  have h0 := key 6 (by omega)
  rw [show 6 - 6 = 0 by omega, Nat.pow_zero, Nat.div_one] at h0
  have g0 := upS_getD (i := true) (D := D) (nb := nodeB M a) (j := j) (leaf := leaf) (L := L) 0 7 0 (by omega)
  rw [Nat.zero_add] at g0
  rw [g0] at h0
  exact h0
end
theorem layS_on (l : List UInt8) (a j : Nat) (ws : List (List UInt8)) (hl : a + 8192 ≤ l.length) (h1 : 128 ≤ j) (h2 : j < 256) (hw : ∀ t, t < 7 → (ws.getD t []).length = 32) : ∀ k, k ≤ 7 → (∀ t, t < k → nodeB (layS l a j ws k) a (j / 2 ^ t) = ws.getD t []) ∧ ∀ q, q < 256 → (∀ t, t < k → q ≠ j / 2 ^ t) → nodeB (layS l a j ws k) a q = nodeB l a q
  | 0, _ => ⟨fun t ht => by omega, fun q _ _ => rfl⟩
  | k + 1, hk => by
    obtain ⟨ih1, ih2⟩ := layS_on l a j ws hl h1 h2 hw k (by omega)
    have hlen := layS_len l a j ws 7 hl h2 hw k (by omega)
    have hlk := lv j h1 h2 k (by omega)
    refine ⟨fun t ht => ?_, fun q hq hne => ?_⟩
    · have hlt := lv j h1 h2 t (by omega)
      show nodeB (splice _ _ _) _ _ = _
      rw [nodeB_splice _ _ _ _ _ (by omega) hlk.2 hlt.2 (hw k (by omega))]
      by_cases e : t = k
      · subst e; rw [if_pos rfl]
      · rw [if_neg (lv_ne j j h1 h2 h1 h2 t k (by omega) (by omega))]; exact ih1 t (by omega)
    · show nodeB (splice _ _ _) _ _ = _
      rw [nodeB_splice _ _ _ _ _ (by omega) hlk.2 hq (hw k (by omega)), if_neg (hne k (by omega))]
      exact ih2 q hq (fun t ht => hne t (by omega))
theorem bes_lv (j : Nat) (h1 : 128 ≤ j) (h2 : j < 256) (k t : Nat) (hk : k < 7) (ht : t < 7) : bes (j / 2 ^ k) ≠ j / 2 ^ t := by
  have a := lv_lt j h1 h2 k hk
  have e : 2 ^ (7 - k) = 2 * 2 ^ (6 - k) := by rw [show 7 - k = (6 - k) + 1 by omega, Nat.pow_succ]; omega
  have e2 : 2 ^ (8 - k) = 2 * 2 ^ (7 - k) := by rw [show 8 - k = (7 - k) + 1 by omega, Nat.pow_succ]; omega
  have hb : 2 ^ (7 - k) ≤ bes (j / 2 ^ k) ∧ bes (j / 2 ^ k) < 2 ^ (8 - k) := by unfold bes; split <;> omega
  by_cases h : t = k
  · subst h; unfold bes; split <;> omega
  · rcases Nat.lt_or_gt_of_ne h with h | h
    · have c := (lv_lt j h1 h2 t ht).1
      have d : 2 ^ (8 - k) ≤ 2 ^ (7 - t) := Nat.pow_le_pow_right (by decide) (by omega)
      omega
    · have c := (lv_lt j h1 h2 t ht).2
      have d : 2 ^ (8 - t) ≤ 2 ^ (7 - k) := Nat.pow_le_pow_right (by decide) (by omega)
      omega
section
variable {i : Bool} {D : List (List UInt8)} {L : Lg} {M l : List UInt8} {a j : Nat} {root leaf : List UInt8}
/-- A leaf that is set. -/
theorem tree_set (ht : Tree L M a root) (hL : gL D L) (h1 : 128 ≤ j) (h2 : j < 256) (hl : leaf.length = 32) :
    Tree (upS i D (nodeB M a) j leaf L 7).2 (layS M a j (upS i D (nodeB M a) j leaf L 7).1 7) a ((upS i D (nodeB M a) j leaf L 7).1.getD 7 []) ∧ nodeB (layS M a j (upS i D (nodeB M a) j leaf L 7).1 7) a j = leaf ∧ ∀ q, 128 ≤ q → q < 256 → q ≠ j → nodeB (layS M a j (upS i D (nodeB M a) j leaf L 7).1 7) a q = nodeB M a q := by
  have hea := upS_each (i := i) (nb := nodeB M a) (j := j) hL hl 7
  have hw : ∀ t, t < 7 → ((upS i D (nodeB M a) j leaf L 7).1.getD t []).length = 32 := fun t ht => getD_len hea t (by rw [upS_len]; omega)
  obtain ⟨on, off⟩ := layS_on M a j _ ht.len h1 h2 hw 7 (Nat.le_refl _)
  have hlen := layS_len M a j _ 7 ht.len h2 hw 7 (Nat.le_refl _)
  obtain ⟨E, hE⟩ := upS_ext (i := i) (D := D) (nb := nodeB M a) (j := j) (leaf := leaf) (L := L) 0 7
  rw [Nat.zero_add] at hE
  have hE : (upS i D (nodeB M a) j leaf L 7).2 = L ++ E := hE
  -- a step of the way
  have way : ∀ k, k < 7 → R5.fndA (qNode (j / 2 ^ (k + 1)) (nodeB (layS M a j (upS i D (nodeB M a) j leaf L 7).1 7) a (2 * (j / 2 ^ (k + 1)))) (nodeB (layS M a j (upS i D (nodeB M a) j leaf L 7).1 7) a (2 * (j / 2 ^ (k + 1)) + 1))) (upS i D (nodeB M a) j leaf L 7).2 = some ((upS i D (nodeB M a) j leaf L 7).1.getD (k + 1) []) := by
    intro k hk
    have hlk := lv j h1 h2 k hk
    have f1 := upS_fnd (i := i) (D := D) (nb := nodeB M a) (j := j) (leaf := leaf) (L := L) k (6 - k)
    rw [show k + 1 + (6 - k) = 7 by omega] at f1
    have e1 : (upS i D (nodeB M a) j leaf L (k + 1)).1.getD (k + 1) [] = (upS i D (nodeB M a) j leaf L 7).1.getD (k + 1) [] := by
      have := upS_getD (i := i) (D := D) (nb := nodeB M a) (j := j) (leaf := leaf) (L := L) (k + 1) (6 - k) (k + 1) (by omega)
      rw [show k + 1 + (6 - k) = 7 by omega] at this; exact this.symm
    have gk : (upS i D (nodeB M a) j leaf L k).1.getD k [] = (upS i D (nodeB M a) j leaf L 7).1.getD k [] := by
      have := upS_getD (i := i) (D := D) (nb := nodeB M a) (j := j) (leaf := leaf) (L := L) k (7 - k) k (by omega)
      rw [show k + (7 - k) = 7 by omega] at this; exact this.symm
    have hb := off (bes (j / 2 ^ k)) (bes_lt' hlk.2) (fun t ht => bes_lv j h1 h2 k t hk ht)
    have hu : upQ i D (nodeB M a) j leaf L k = askUp (j / 2 ^ k) (nodeB (layS M a j (upS i D (nodeB M a) j leaf L 7).1 7) a (j / 2 ^ k)) (nodeB (layS M a j (upS i D (nodeB M a) j leaf L 7).1 7) a (bes (j / 2 ^ k))) := by
      unfold upQ; rw [gk, on k hk, hb]
    rw [hu, askUp_two (nodeB (layS M a j (upS i D (nodeB M a) j leaf L 7).1 7) a) _ hlk.1, ← step2, e1] at f1
    exact f1
  refine ⟨⟨by rw [hlen]; exact ht.len, fun q hq1 hq2 => ?_, ?_⟩, ?_, fun q hq1 hq2 hne => ?_⟩
  · by_cases hp : ∃ t, t < 7 ∧ q = j / 2 ^ t
    · obtain ⟨t, ht7, rfl⟩ := hp
      cases t with
      | zero => rw [Nat.pow_zero, Nat.div_one] at hq2; omega
      | succ k =>
        rw [on (k + 1) ht7]
        exact way k (by omega)
    · have hno : ∀ t, t < 7 → q ≠ j / 2 ^ t := fun t ht e => hp ⟨t, ht, e⟩
      have hc : ∀ r, r / 2 = q → r < 256 → ∀ t, t < 7 → r ≠ j / 2 ^ t := fun r hr hr2 t ht e => by
        rw [e, ← step2] at hr
        by_cases h6 : t = 6
        · subst h6; rw [lv7 j h1 h2] at hr; omega
        · exact hno (t + 1) (by omega) hr.symm
      rw [off q (by omega) hno, off (2 * q) (by omega) (hc _ (by omega) (by omega)), off (2 * q + 1) (by omega) (hc _ (by omega) (by omega)), hE]
      exact fnd_app E (ht.node q hq1 hq2)
  · have q := way 6 (by omega)
    rw [lv7 j h1 h2] at q
    exact q
  · have q := on 0 (by omega)
    rw [Nat.pow_zero, Nat.div_one] at q
    rw [q]
    have g0 := upS_getD (i := i) (D := D) (nb := nodeB M a) (j := j) (leaf := leaf) (L := L) 0 7 0 (by omega)
    rw [Nat.zero_add] at g0
    rw [g0]; rfl
  · refine off q hq2 (fun t ht e => ?_)
    cases t with
    | zero => rw [Nat.pow_zero, Nat.div_one] at e; exact hne e
    | succ k =>
      have := (lv j h1 h2 k (by omega)).2
      rw [step2] at e; omega
theorem leaf_fnd (hA : gL D L) (hl : a + 8192 ≤ l.length) : ∀ k, k ≤ 128 → ∀ p, p < k → R5.fndA (qNone p) (leafM i D l a L k).2 = some (nodeB (leafM i D l a L k).1 a (128 + p))
  | 0, _, p, hp => by omega
  | k + 1, hk, p, hp => by
    have h1 := leafM_len (i := i) (L := L) hA hl k (by omega)
    rw [leafM_succ]
    show R5.fndA _ (nx2 i D _ _).2 = some (nodeB (splice _ _ _) _ _)
    rw [nodeB_splice _ _ _ _ _ (by omega) (by omega) (by omega) ((leafM_good hA k).len _)]
    by_cases e : p = k
    · subst e; rw [if_pos rfl]; exact nx2_fnd i D _ _
    · rw [if_neg (by omega)]
      obtain ⟨E, hE⟩ := nx2_ext i D (leafM i D l a L k).2 (qNone k)
      rw [hE]
      exact fnd_app E (leaf_fnd hA hl k (by omega) p (by omega))
theorem node_fnd (hA : gL D L) (hl : a + 8192 ≤ l.length) : ∀ k, k ≤ 126 → (∀ p, p < 128 → R5.fndA (qNone p) (nodeM i D l a L k).2 = some (nodeB (nodeM i D l a L k).1 a (128 + p))) ∧ ∀ q, 127 - k < q → q < 128 → R5.fndA (qNode q (nodeB (nodeM i D l a L k).1 a (2 * q)) (nodeB (nodeM i D l a L k).1 a (2 * q + 1))) (nodeM i D l a L k).2 = some (nodeB (nodeM i D l a L k).1 a q)
  | 0, _ => ⟨fun p hp => leaf_fnd hA hl 128 (by omega) p hp, fun q h1 h2 => by omega⟩
  | k + 1, hk => by
    obtain ⟨ih1, ih2⟩ := node_fnd hA hl k (by omega)
    have h1 := nodeM_len (i := i) (L := L) hA hl k (by omega)
    have hs : ∀ q, q < 256 → nodeB (nodeM i D l a L (k + 1)).1 a q = if q = 127 - k then (nx2 i D (nodeM i D l a L k).2 (qNode (127 - k) (nodeB (nodeM i D l a L k).1 a (2 * (127 - k))) (nodeB (nodeM i D l a L k).1 a (2 * (127 - k) + 1)))).1 else nodeB (nodeM i D l a L k).1 a q := fun q hq => by
      rw [nodeM_succ]
      exact nodeB_splice _ _ _ _ _ (by omega) (by omega) hq ((nodeM_good hA k).len _)
    obtain ⟨E, hE⟩ := nx2_ext i D (nodeM i D l a L k).2 (qNode (127 - k) (nodeB (nodeM i D l a L k).1 a (2 * (127 - k))) (nodeB (nodeM i D l a L k).1 a (2 * (127 - k) + 1)))
    have hlog : (nodeM i D l a L (k + 1)).2 = (nodeM i D l a L k).2 ++ E := by rw [nodeM_succ]; exact hE
    refine ⟨fun p hp => ?_, fun q hq1 hq2 => ?_⟩
    · rw [hs _ (by omega), if_neg (by omega), hlog]
      exact fnd_app E (ih1 p hp)
    · rw [hs _ (by omega), hs _ (by omega), hs _ (by omega), if_neg (by omega), if_neg (by omega)]
      by_cases e : q = 127 - k
      · rw [if_pos e, e, nodeM_succ]; exact nx2_fnd i D _ _
      · rw [if_neg e, hlog]
        exact fnd_app E (ih2 q (by omega) hq2)
theorem nodeM_root (k : Nat) (hk : 127 - k = 1) : (nodeM i D l a L (k + 1)).2 = (nx2 i D (nodeM i D l a L k).2 (qNode 1 (nodeB (nodeM i D l a L k).1 a 2) (nodeB (nodeM i D l a L k).1 a 3))).2 := by
  rw [nodeM_succ, hk]
/-- A tree of nothing lies. -/
theorem tree_lay (hA : gL D L) (hl : a + 8192 ≤ l.length) : Tree (nodeM i D l a L 127).2 (nodeM i D l a L 126).1 a (rootA i D l a L) ∧ ∀ p, p < 128 → R5.fndA (qNone p) (nodeM i D l a L 127).2 = some (nodeB (nodeM i D l a L 126).1 a (128 + p)) := by
  obtain ⟨h1, h2⟩ := node_fnd (i := i) hA hl 126 (Nat.le_refl _)
  rw [show (127 : Nat) = 126 + 1 from rfl]
  have e := nodeM_root (i := i) (D := D) (l := l) (a := a) (L := L) 126 rfl
  obtain ⟨E, hE⟩ := nx2_ext i D (nodeM i D l a L 126).2 (qNode 1 (nodeB (nodeM i D l a L 126).1 a 2) (nodeB (nodeM i D l a L 126).1 a 3))
  have hlog := e.trans hE
  have hlen := nodeM_len (i := i) (L := L) hA hl 126 (by omega)
  refine ⟨⟨by omega, fun q hq1 hq2 => ?_, ?_⟩, fun p hp => ?_⟩
  · rw [hlog]; exact fnd_app E (h2 q (by omega) hq2)
  · rw [e]; unfold rootA; exact nx2_fnd i D _ _
  · rw [hlog]; exact fnd_app E (h1 p hp)
end
end Go.Proofs.Ytnijjoankahddaa.DC
