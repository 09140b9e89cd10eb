/- measure: the statements' distinct, the document's Same. -/
import Derived.Test.YtpmknkagnkagpaaGreatZO
import Derived.Test.YtpmknkagnkagpaaGreatZP
set_option linter.unusedVariables false
set_option linter.unusedSimpArgs false
namespace Go.Proofs.YtpmknkagnkagpaaGreat.ZC
open Go.RowKit

def dst (D : List (List UInt8)) : Prop := (∀ i, i < D.length → ∀ k, k < i → D.getD i [] ≠ D.getD k []) ∧ ∀ i, i < D.length → (D.getD i []).getD 31 0 ≠ 1
theorem le_inj {a b : Nat} (ha : a < 18446744073709551616) (hb : b < 18446744073709551616) (h : W1.le 8 a = W1.le 8 b) : a = b := by
  have h1 := congrArg W1.num h
  rw [W1.num_le, W1.num_le, Nat.mod_eq_of_lt (by simpa using ha), Nat.mod_eq_of_lt (by simpa using hb)] at h1
  exact h1
theorem app_inj {α : Type} {a b c d : List α} (h : a ++ b = c ++ d) (hl : a.length = c.length) : a = c ∧ b = d := List.append_inj h hl
theorem drawD_lt {D : List (List UInt8)} {i : Nat} (h : i < D.length) : R5.drawD D i = D.getD i [] := by unfold R5.drawD; rw [if_pos h]
theorem drawD_ge {D : List (List UInt8)} {i : Nat} (h : ¬ i < D.length) : R5.drawD D i = W1.le 8 i ++ List.replicate 23 0 ++ [1] := by unfold R5.drawD; rw [if_neg h]
theorem last_ge (i : Nat) : (W1.le 8 i ++ List.replicate 23 (0 : UInt8) ++ [1]).getD 31 0 = 1 := by
  have hl : (W1.le 8 i ++ List.replicate 23 (0 : UInt8)).length = 31 := by simp [W1.le_length]
  rw [List.getD_eq_getElem?_getD, List.getElem?_append_right (by omega), hl]; rfl
theorem draw_inj {D : List (List UInt8)} (h : dst D) {i j : Nat} (hi : i < 1000000) (hj : j < 1000000) (e : R5.drawD D i = R5.drawD D j) : i = j := by
  by_cases h1 : i < D.length
  · by_cases h2 : j < D.length
    · rw [drawD_lt h1, drawD_lt h2] at e
      rcases Nat.lt_trichotomy i j with hl | hl | hl
      · exact absurd e.symm (h.1 j h2 i hl)
      · exact hl
      · exact absurd e (h.1 i h1 j hl)
    · rw [drawD_lt h1, drawD_ge h2] at e
      have := h.2 i h1
      rw [e, last_ge] at this
      exact absurd rfl this
  · by_cases h2 : j < D.length
    · rw [drawD_ge h1, drawD_lt h2] at e
      have := h.2 j h2
      rw [← e, last_ge] at this
      exact absurd rfl this
    · rw [drawD_ge h1, drawD_ge h2, List.append_assoc, List.append_assoc] at e
      exact le_inj (by omega) (by omega) (app_inj e (by rw [W1.le_length, W1.le_length])).1
def ansOk (D : List (List UInt8)) (L : Lg) : Prop := ∀ (i : Nat) (e : R5.Qn × List UInt8), L[i]? = some e → e.2 = R5.drawD D i
theorem fnd_app {q : R5.Qn} {A : List UInt8} : ∀ {L : Lg} (M : Lg), R5.fndA q L = some A → R5.fndA q (L ++ M) = some A
  | [], M, h => by cases h
  | e :: L, M, h => by
    show R5.fndA q (e :: (L ++ M)) = some A
    unfold R5.fndA at h ⊢
    by_cases he : e.1 = q
    · rw [if_pos he] at h ⊢; exact h
    · rw [if_neg he] at h ⊢; exact fnd_app M h
theorem fnd_none {q : R5.Qn} : ∀ {L : Lg} (M : Lg), R5.fndA q L = none → R5.fndA q (L ++ M) = R5.fndA q M
  | [], M, h => rfl
  | e :: L, M, h => by
    have e1 : R5.fndA q (e :: L) = @ite _ (e.1 = q) (R5.decQ e.1 q) (some e.2) (R5.fndA q L) := rfl
    have e2 : R5.fndA q (e :: (L ++ M)) = @ite _ (e.1 = q) (R5.decQ e.1 q) (some e.2) (R5.fndA q (L ++ M)) := rfl
    show R5.fndA q (e :: (L ++ M)) = _
    rw [e2]
    rw [e1] at h
    by_cases he : e.1 = q
    · rw [if_pos he] at h; cases h
    · rw [if_neg he] at h ⊢; exact fnd_none M h
theorem fnd_one (q : R5.Qn) (A : List UInt8) : R5.fndA q [(q, A)] = some A := by unfold R5.fndA; rw [if_pos rfl]
structure NX (o o' : R5.Pra) (q : R5.Qn) (A : List UInt8) : Prop where
  ext : ∃ M, o'.log = o.log ++ M
  fnd : R5.fndA q o'.log = some A
  id : o'.ideal = o.ideal
  dr : o'.draws = o.draws
  ans : o.ideal = true → ansOk o.draws o.log → ansOk o'.draws o'.log
theorem nxP_nx (o : R5.Pra) (q : R5.Qn) : NX o (nxP o q).2 q (nxP o q).1 := by
  unfold nxP
  cases h : R5.fndA q o.log with
  | some A => rw [R5.pAsk_some h]; exact ⟨⟨[], by simp⟩, h, rfl, rfl, fun _ h => h⟩
  | none =>
    rw [R5.pAsk_none h]
    refine ⟨⟨_, rfl⟩, (fnd_none _ h).trans (fnd_one _ _), rfl, rfl, fun hid ha i e he => ?_⟩
    have he' : (o.log ++ [(q, frs o q)])[i]? = some e := he
    rcases Nat.lt_or_ge i o.log.length with hi | hi
    · rw [List.getElem?_append_left hi] at he'; exact ha i e he'
    · rw [List.getElem?_append_right hi] at he'
      have h0 : i - o.log.length = 0 := by have := (List.getElem?_eq_some_iff.1 he').1; simp at this; omega
      rw [h0] at he'
      have h3 : (q, frs o q) = e := by simpa using he'
      rw [← h3]
      show frs o q = R5.drawD o.draws i
      rw [frs_id hid, show i = o.log.length by omega]
def mst (L : Lg) (s : Option (List UInt8)) (r : Rd) : Option (List UInt8) := s.bind fun m => R5.fndA (qOf m r) L
def mea (L : Lg) (l : List Rd) : Option (List UInt8) := l.foldl (mst L) (some Z0)
theorem mea_snoc (L : Lg) (l : List Rd) (r : Rd) : mea L (l ++ [r]) = mst L (mea L l) r := by unfold mea; rw [List.foldl_append]; rfl
theorem fold_non (L : Lg) : ∀ l : List Rd, l.foldl (mst L) none = none
  | [] => rfl
  | r :: l => fold_non L l
theorem fold_mono {L : Lg} (M : Lg) {m : List UInt8} : ∀ (l : List Rd) (m0 : List UInt8), l.foldl (mst L) (some m0) = some m → l.foldl (mst (L ++ M)) (some m0) = some m
  | [], m0, h => h
  | r :: l, m0, h => by
    have h' : l.foldl (mst L) (R5.fndA (qOf m0 r) L) = some m := h
    show l.foldl (mst (L ++ M)) (R5.fndA (qOf m0 r) (L ++ M)) = some m
    cases hf : R5.fndA (qOf m0 r) L with
    | none => rw [hf, fold_non] at h'; cases h'
    | some A => rw [hf] at h'; rw [fnd_app M hf]; exact fold_mono M l A h'
theorem fold_again {o : R5.Pra} {m : List UInt8} : ∀ (l : List Rd) (m0 : List UInt8), l.foldl (mst o.log) (some m0) = some m → l.foldl (fun s r => nxP s.2 (qOf s.1 r)) (m0, o) = (m, o)
  | [], m0, h => by have : m0 = m := Option.some.inj h; rw [this]; rfl
  | r :: l, m0, h => by
    have h' : l.foldl (mst o.log) (R5.fndA (qOf m0 r) o.log) = some m := h
    show l.foldl _ (nxP o (qOf m0 r)) = (m, o)
    cases hf : R5.fndA (qOf m0 r) o.log with
    | none => rw [hf, fold_non] at h'; cases h'
    | some A =>
      rw [hf] at h'
      have e : nxP o (qOf m0 r) = (A, o) := by unfold nxP; exact R5.pAsk_some hf
      rw [e]; exact fold_again l A h'
theorem rpl_again {o : R5.Pra} {m : List UInt8} {l : List Rd} (h : mea o.log l = some m) : rpl o l = (m, o) := fold_again l Z0 h
structure MX (o o' : R5.Pra) (l : List Rd) (m : List UInt8) : Prop where
  ext : ∃ M, o'.log = o.log ++ M
  mea : mea o'.log l = some m
  id : o'.ideal = o.ideal
  dr : o'.draws = o.draws
  ans : o.ideal = true → ansOk o.draws o.log → ansOk o'.draws o'.log
theorem stk_mx (o : R5.Pra) (l : List Rd) : ∀ k, k ≤ l.length → MX o (stk o l k).2 (l.take k) (stk o l k).1
  | 0, _ => ⟨⟨[], by simp [stk, rpl]⟩, rfl, rfl, rfl, fun _ h => h⟩
  | k + 1, hk => by
    have ih := stk_mx o l k (by omega)
    obtain ⟨r, hr⟩ : ∃ r, l[k]? = some r := ⟨_, List.getElem?_eq_getElem (by omega)⟩
    have hn := nxP_nx (stk o l k).2 (qOf (stk o l k).1 r)
    rw [stk_succ hr, take_snoc hr]
    obtain ⟨M1, e1⟩ := ih.ext
    obtain ⟨M2, e2⟩ := hn.ext
    refine ⟨⟨M1 ++ M2, by rw [e2, e1, List.append_assoc]⟩, ?_, hn.id.trans ih.id, hn.dr.trans ih.dr, fun hid ha => ?_⟩
    · rw [mea_snoc]
      have h1 : mea (nxP (stk o l k).2 (qOf (stk o l k).1 r)).2.log (l.take k) = some (stk o l k).1 := by rw [e2]; exact fold_mono M2 _ _ ih.mea
      rw [h1]
      exact hn.fnd
    · exact hn.ans (ih.id.trans hid) (ih.ans hid ha)
theorem rpl_mx (o : R5.Pra) (l : List Rd) : MX o (rpl o l).2 l (rpl o l).1 := by
  have h := stk_mx o l l.length (Nat.le_refl _)
  rw [stk_all, List.take_length] at h
  exact h
theorem fnd_inj {D : List (List UInt8)} {L : Lg} (hd : dst D) (ha : ansOk D L) (hl : L.length < 1000000) {q q' : R5.Qn} {A : List UInt8} (h : R5.fndA q L = some A) (h' : R5.fndA q' L = some A) : q = q' := by
  obtain ⟨i, hi⟩ := List.getElem?_of_mem (R5.fndA_some h)
  obtain ⟨j, hj⟩ := List.getElem?_of_mem (R5.fndA_some h')
  have e1 := ha i _ hi
  have e2 := ha j _ hj
  have hil := (List.getElem?_eq_some_iff.1 hi).1
  have hjl := (List.getElem?_eq_some_iff.1 hj).1
  have e := draw_inj hd (by omega) (by omega) (e1.symm.trans e2)
  subst e
  rw [hi] at hj
  exact congrArg Prod.fst (Option.some.inj hj)
theorem snoc_of {α : Type} {l : List α} (h : l ≠ []) : ∃ l' x, l = l' ++ [x] := ⟨l.dropLast, l.getLast h, (List.dropLast_concat_getLast h).symm⟩
theorem mayL_snoc {l : List Rd} {r : Rd} (h : mayL (l ++ [r]) = true) : mayD r = true ∧ (r.kind = 1 ↔ l = []) ∧ (l ≠ [] → mayL l = true) := by
  obtain ⟨_, hg⟩ := (mayL_iff _).1 h
  have hr := hg l.length (by simp)
  have hat : (l ++ [r])[l.length]? = some r := at_app l r [] l.length rfl
  rw [good_at hat, Bool.and_eq_true] at hr
  refine ⟨hr.1, ?_, fun hne => (mayL_iff l).2 ⟨List.length_pos_iff.2 hne, fun i hi => ?_⟩⟩
  · have h2 := hr.2
    rw [beq_iff_eq] at h2
    constructor
    · intro hk
      rw [hk] at h2
      have : decide (l.length = 0) = true := by rw [← h2]; decide
      exact List.eq_nil_of_length_eq_zero (of_decide_eq_true this)
    · intro hl
      rw [hl] at h2
      have : (r.kind == 1) = true := by rw [h2]; rfl
      simpa using this
  · have := hg i (by simp; omega)
    obtain ⟨x, hx⟩ : ∃ x, l[i]? = some x := ⟨_, List.getElem?_eq_getElem hi⟩
    rw [good_at (show (l ++ [r])[i]? = some x by rw [List.getElem?_append_left hi]; exact hx)] at this
    rw [good_at hx]; exact this
theorem cb_split (pc : Nat) (rs : List Nat) (r : Bool) (i : Nat) (hr : rs.length = 8) (h : i < 8) : ∃ Z, PC.cbL pc rs r = PC.cb0 pc rs i ++ (W1.le 8 (rs.getD i 0) ++ Z) := by
  have h8 : i < rs.length := by omega
  have hg : rs.getD i 0 = rs[i] := by simp [List.getD, List.getElem?_eq_getElem h8]
  have e : (rs.take 8) = rs.take i ++ (rs[i] :: rs.drop (i + 1)) := by
    rw [List.take_of_length_le (by omega), ← List.drop_eq_getElem_cons h8, List.take_append_drop]
  unfold PC.cbL PC.pd PC.cbP PC.cb0
  rw [e, List.flatMap_append, List.flatMap_cons, hg]
  simp only [List.append_assoc]
  exact ⟨_, rfl⟩
theorem cb_inj {a b : Rd} (ha : a.ok) (hb : b.ok) (h : PC.cbL a.pc a.rs a.run = PC.cbL b.pc b.rs b.run) : a.pc = b.pc ∧ a.rs = b.rs ∧ a.run = b.run := by
  have hrs : a.rs = b.rs := by
    apply List.ext_getElem (by rw [ha.s, hb.s])
    intro i h1 h2
    have hi : i < 8 := by rw [ha.s] at h1; exact h1
    obtain ⟨Z, e1⟩ := cb_split a.pc a.rs a.run i ha.s hi
    obtain ⟨Z', e2⟩ := cb_split b.pc b.rs b.run i hb.s hi
    have e := e1.symm.trans (h.trans e2)
    have l1 := PC.cb0_len a.pc a.rs i (by rw [ha.s]; omega)
    have l2 := PC.cb0_len b.pc b.rs i (by rw [hb.s]; omega)
    have e3 := (app_inj e (l1.trans l2.symm)).2
    have e4 := (app_inj e3 (by rw [W1.le_length, W1.le_length])).1
    have g1 : a.rs.getD i 0 = a.rs[i] := by simp [List.getD, List.getElem?_eq_getElem h1]
    have g2 : b.rs.getD i 0 = b.rs[i] := by simp [List.getD, List.getElem?_eq_getElem h2]
    rw [g1, g2] at e4
    exact le_inj (ha.x _ (List.getElem_mem _)) (hb.x _ (List.getElem_mem _)) e4
  have hpc : a.pc = b.pc := by
    unfold PC.cbL PC.pd PC.cbP PC.cb0 at h
    simp only [List.append_assoc] at h
    have h2 := (app_inj h rfl).2
    exact le_inj ha.p hb.p (app_inj h2 (by rw [W1.le_length, W1.le_length])).1
  refine ⟨hpc, hrs, ?_⟩
  rw [hpc, hrs] at h
  unfold PC.cbL PC.pd PC.cbP at h
  rw [List.append_assoc, List.append_assoc] at h
  have h2 := (app_inj h rfl).2
  cases h1 : a.run <;> cases h3 : b.run <;> rw [h1, h3] at h2 <;> simp at h2 <;> rfl
theorem mayD_1 {r : Rd} (h : mayD r = true) (hk : r.kind = 1) : r = rec1 r.value := by unfold mayD at h; rw [if_pos hk] at h; exact (rdEq_iff _ _).1 h
theorem mayD_2 {r : Rd} (h : mayD r = true) (hk : r.kind = 2) : r = rec2 r.page r.data := by unfold mayD at h; rw [if_neg (by rw [hk]; decide), if_pos hk] at h; exact (rdEq_iff _ _).1 (Bool.and_eq_true _ _ ▸ h).1
theorem mayD_3 {r : Rd} (h : mayD r = true) (hk : r.kind = 3) : r = rec3 r.pc r.rs r.run := by unfold mayD at h; rw [if_neg (by rw [hk]; decide), if_neg (by rw [hk]; decide), if_pos hk] at h; exact (rdEq_iff _ _).1 (Bool.and_eq_true _ _ ▸ h).1
theorem q_1 {r : Rd} (m : List UInt8) (h : r.kind = 1) : qOf m r = ⟨1, Z0, 1, r.value⟩ := by unfold qOf; rw [if_pos h]
theorem q_2 {r : Rd} (m : List UInt8) (h : r.kind = 2) : qOf m r = ⟨1, Z0, 2, m ++ (W1.le 8 r.page.toNat ++ r.data)⟩ := by unfold qOf; rw [if_neg (by rw [h]; decide), if_pos h]
theorem q_3 {r : Rd} (m : List UInt8) (h : r.kind = 3) : qOf m r = ⟨1, Z0, 3, m ++ PC.cbL r.pc r.rs r.run⟩ := by unfold qOf; rw [if_neg (by rw [h]; decide), if_neg (by rw [h]; decide)]
theorem q_inj {a b : Rd} {m n : List UInt8} (ha : a.ok) (hb : b.ok) (ma : mayD a = true) (mb : mayD b = true) (hm : m.length = 32) (hn : n.length = 32) (h : qOf m a = qOf n b) : a = b ∧ (a.kind = 1 ∨ m = n) := by
  have hdom : ∀ {x y : R5.Qn}, x = y → x.dom = y.dom ∧ x.data = y.data := fun e => by rw [e]; exact ⟨rfl, rfl⟩
  have hd := hdom h
  rcases mayD_kind ma with k1 | k1 | k1 <;> rcases mayD_kind mb with k2 | k2 | k2
  · rw [q_1 m k1, q_1 n k2] at hd
    have e : a.value = b.value := hd.2
    exact ⟨by rw [mayD_1 ma k1, mayD_1 mb k2, e], .inl k1⟩
  · rw [q_1 m k1, q_2 n k2] at hd; exact absurd (show (1 : Int) = 2 from hd.1) (by decide)
  · rw [q_1 m k1, q_3 n k2] at hd; exact absurd (show (1 : Int) = 3 from hd.1) (by decide)
  · rw [q_2 m k1, q_1 n k2] at hd; exact absurd (show (2 : Int) = 1 from hd.1) (by decide)
  · rw [q_2 m k1, q_2 n k2] at hd
    have e1 := app_inj (show m ++ (W1.le 8 a.page.toNat ++ a.data) = n ++ (W1.le 8 b.page.toNat ++ b.data) from hd.2) (by rw [hm, hn])
    have e2 := app_inj e1.2 (by rw [W1.le_length, W1.le_length])
    have p1 := mayD_page ma k1
    have p2 := mayD_page mb k2
    have e3 : a.page = b.page := by have := le_inj (by omega) (by omega) e2.1; omega
    exact ⟨by rw [mayD_2 ma k1, mayD_2 mb k2, e3, e2.2], .inr e1.1⟩
  · rw [q_2 m k1, q_3 n k2] at hd; exact absurd (show (2 : Int) = 3 from hd.1) (by decide)
  · rw [q_3 m k1, q_1 n k2] at hd; exact absurd (show (3 : Int) = 1 from hd.1) (by decide)
  · rw [q_3 m k1, q_2 n k2] at hd; exact absurd (show (3 : Int) = 2 from hd.1) (by decide)
  · rw [q_3 m k1, q_3 n k2] at hd
    have e1 := app_inj (show m ++ PC.cbL a.pc a.rs a.run = n ++ PC.cbL b.pc b.rs b.run from hd.2) (by rw [hm, hn])
    obtain ⟨x1, x2, x3⟩ := cb_inj ha hb e1.2
    exact ⟨by rw [mayD_3 ma k1, mayD_3 mb k2, x1, x2, x3], .inr e1.1⟩
theorem mea_len {L : Lg} (hL : ∀ x ∈ L, x.2.length = 32) : ∀ (l : List Rd) (m0 m : List UInt8), m0.length = 32 → l.foldl (mst L) (some m0) = some m → m.length = 32
  | [], m0, m, h0, h => by rw [← Option.some.inj h]; exact h0
  | r :: l, m0, m, h0, h => by
    have h' : l.foldl (mst L) (R5.fndA (qOf m0 r) L) = some m := h
    cases hf : R5.fndA (qOf m0 r) L with
    | none => rw [hf, fold_non] at h'; cases h'
    | some A => rw [hf] at h'; exact mea_len hL l A m (hL _ (R5.fndA_some hf)) h'
theorem mea_inj {D : List (List UInt8)} {L : Lg} (hd : dst D) (ha : ansOk D L) (hl : L.length < 1000000) (hL : ∀ x ∈ L, x.2.length = 32) : ∀ (n : Nat) (l k : List Rd) (a : List UInt8), l.length ≤ n → mayL l = true → mayL k = true → (∀ r ∈ l, r.ok) → (∀ r ∈ k, r.ok) → mea L l = some a → mea L k = some a → l = k
  | 0, l, k, a, hn, h1, _, _, _, _, _ => by have := ((mayL_iff l).1 h1).1; omega
  | n + 1, l, k, a, hn, h1, h2, o1, o2, m1, m2 => by
    obtain ⟨l', r, el⟩ := snoc_of (List.length_pos_iff.1 ((mayL_iff l).1 h1).1)
    obtain ⟨k', s, ek⟩ := snoc_of (List.length_pos_iff.1 ((mayL_iff k).1 h2).1)
    subst el ek
    rw [mea_snoc] at m1 m2
    obtain ⟨y1, y2, y3⟩ := mayL_snoc h1
    obtain ⟨z1, z2, z3⟩ := mayL_snoc h2
    cases e1 : mea L l' with
    | none => rw [e1] at m1; cases m1
    | some p =>
      cases e2 : mea L k' with
      | none => rw [e2] at m2; cases m2
      | some p' =>
        rw [e1] at m1
        rw [e2] at m2
        have hq := fnd_inj hd ha hl (show R5.fndA (qOf p r) L = some a from m1) (show R5.fndA (qOf p' s) L = some a from m2)
        have hp := mea_len hL l' Z0 p z0_len e1
        have hp' := mea_len hL k' Z0 p' z0_len e2
        obtain ⟨hrs, hor⟩ := q_inj (o1 r (by simp)) (o2 s (by simp)) y1 z1 hp hp' hq
        subst hrs
        rcases hor with hk | hpp
        · rw [y2.1 hk, z2.1 hk]
        · subst hpp
          by_cases hl0 : l' = []
          · have hk1 := y2.2 hl0
            rw [hl0, z2.1 hk1]
          · have hk0 : k' ≠ [] := fun e => hl0 (y2.1 (z2.2 e))
            rw [mea_inj hd ha hl hL n l' k' p (by simp at hn; omega) (y3 hl0) (z3 hk0) (fun r hr => o1 r (by simp [hr])) (fun r hr => o2 r (by simp [hr])) e1 e2]
theorem apart {o : R5.Pra} (hid : o.ideal = true) (hlog : o.log = []) (hd : dst o.draws) {l k : List Rd} (h1 : mayL l = true) (h2 : mayL k = true) (o1 : ∀ r ∈ l, r.ok) (o2 : ∀ r ∈ k, r.ok) (hlen : (rpl (rpl o l).2 k).2.log.length < 1000000) (hL : ∀ x ∈ (rpl (rpl o l).2 k).2.log, x.2.length = 32) :
    (rpl o l).1 = (rpl (rpl o l).2 k).1 ↔ l = k := by
  have x1 := rpl_mx o l
  have x2 := rpl_mx (rpl o l).2 k
  obtain ⟨M, eM⟩ := x2.ext
  have hml : mea (rpl (rpl o l).2 k).2.log l = some (rpl o l).1 := by rw [eM]; exact fold_mono M _ _ x1.mea
  have ha : ansOk (rpl (rpl o l).2 k).2.draws (rpl (rpl o l).2 k).2.log := x2.ans (x1.id.trans hid) (x1.ans hid (by rw [hlog]; intro i e he; simp at he))
  rw [x2.dr, x1.dr] at ha
  constructor
  · intro e
    exact mea_inj hd ha hlen hL l.length l k (rpl o l).1 (Nat.le_refl _) h1 h2 o1 o2 hml (by rw [e]; exact x2.mea)
  · intro e
    subst e
    rw [rpl_again x1.mea]
end Go.Proofs.YtpmknkagnkagpaaGreat.ZC

namespace Go.Proofs.YtpmknkagnkagpaaGreat.ZC
open Go.RowKit

theorem neq_rd (w : World) (a b : Rd) (ha : a.ok) (hb : b.ok) : (binOp .neq 33 (.agg (rdL a).toArray) (.agg (rdL b).toArray)).run Tryz.prog w = .ok (.bool (!rdEq a b)) w := by
  rw [run_neq_struct, eq_rd w a b ha hb]
  rfl
def smeL (l k : List Rd) : Bool := decide (l.length = k.length) && (List.range l.length).all fun i => match l[i]?, k[i]? with
  | some a, some b => rdEq a b
  | _, _ => true
theorem smeL_iff (l k : List Rd) : smeL l k = true ↔ l = k := by
  unfold smeL
  rw [Bool.and_eq_true, decide_eq_true_eq, List.all_eq_true]
  constructor
  · rintro ⟨h1, h2⟩
    apply List.ext_getElem h1
    intro i hi hk
    have := h2 i (by simpa using hi)
    rw [List.getElem?_eq_getElem hi, List.getElem?_eq_getElem hk] at this
    exact (rdEq_iff _ _).1 this
  · rintro rfl
    refine ⟨rfl, fun i hi => ?_⟩
    have hi' : i < l.length := by simpa using hi
    rw [List.getElem?_eq_getElem hi']
    exact rdEq_self _
theorem smeL_no {l k : List Rd} {i : Nat} {a b : Rd} (ha : l[i]? = some a) (hb : k[i]? = some b) (h : rdEq a b = false) : smeL l k = false := by
  cases hs : smeL l k with
  | false => rfl
  | true =>
    rw [(smeL_iff l k).1 hs, hb] at ha
    obtain rfl : b = a := by simpa using ha
    rw [rdEq_self] at h; cases h
theorem smeL_yes {l k : List Rd} (hl : l.length = k.length) (h : ∀ (i : Nat) (a b : Rd), l[i]? = some a → k[i]? = some b → rdEq a b = true) : smeL l k = true := by
  rw [smeL_iff]
  apply List.ext_getElem hl
  intro i hi hk
  exact (rdEq_iff _ _).1 (h i _ _ (List.getElem?_eq_getElem hi) (List.getElem?_eq_getElem hk))
set_option maxHeartbeats 2000000 in
set_option maxRecDepth 100000 in
theorem rsame_any (v u : Value) (l k : List Rd) (w : World) (hl : l.length < 1000000) (hv : HR w v l) (hu : HR w u k) : Calls Tryz.prog 18 #[v, u] w fun e w' => e = .returned (.bool (smeL l k)) ∧ Below w.heap.size w w' := by
  obtain ⟨p, cap, rfl, hrow⟩ := hv
  obtain ⟨p', cap', rfl, hrow'⟩ := hu
  obtain ⟨M, hM⟩ : ∃ M, M = smeL l k := ⟨_, rfl⟩
  rw [← hM]
  by_cases hlk : l.length = k.length
  · have HNO : Hid (∀ (i : Nat) (a b : Rd), l[i]? = some a → k[i]? = some b → rdEq a b = false → M = false) := fun i a b h1 h2 h3 => by rw [hM]; exact smeL_no h1 h2 h3
    have HYES : Hid ((∀ (i : Nat) (a b : Rd), l[i]? = some a → k[i]? = some b → rdEq a b = true) → M = true) := fun h => by rw [hM]; exact smeL_yes hlk h
    have HR1 : Hid (∀ (i : Nat) (r : Rd), l[i]? = some r → r.ok ∧ ∃ b o, p = some ⟨b, o, none⟩ ∧ w.rangeAt b (o + i * 172) (rdL r)) := hrow
    have HR2 : Hid (∀ (i : Nat) (r : Rd), k[i]? = some r → r.ok ∧ ∃ b o, p' = some ⟨b, o, none⟩ ∧ w.rangeAt b (o + i * 172) (rdL r)) := hrow'
    rw [← hlk]
    obtain ⟨n, hn⟩ : ∃ n, n = l.length := ⟨_, rfl⟩
    have HN2 : Hid (n = k.length) := hn.trans hlk
    rw [← hn] at hl ⊢
    have HN : Hid (n = l.length) := hn
    have hnn : ((n : Int) != (n : Int)) = false := by simp
    clear hrow hrow' hM hn hlk
    go_enter Tryz.func18, Tryz.ntmps18
    go_wp2
    go_loopw [5] (fun v wr => ∃ i : Nat, i ≤ n ∧ v = .int .i64 i ∧ Below w.heap.size w wr ∧ ∀ (j : Nat) (a b : Rd), j < i → l[j]? = some a → k[j]? = some b → rdEq a b = true) (fun v _ => n - (intOf v).toNat)
    case atStart => exact ⟨0, Nat.zero_le _, rfl, Below.refl _ _, fun j a b h => by omega⟩
    case round =>
      obtain ⟨i, hi, rfl, hb, hd⟩ := hrel
      have HB : Hid (Below w.heap.size w wr) := hb
      have HBD : Hid (Below w.heap.size w wr.drew) := hb.drew
      have HD : Hid (∀ (j : Nat) (a b : Rd), j < i → l[j]? = some a → k[j]? = some b → rdEq a b = true) := hd
      clear hb hd
      by_cases hlt : i < n
      · have hiI : (i : Int) < (n : Int) := by omega
        obtain ⟨a, ha⟩ : ∃ a, l[i]? = some a := ⟨_, List.getElem?_eq_getElem (by have := HN.out; omega)⟩
        obtain ⟨c, hc⟩ : ∃ c, k[i]? = some c := ⟨_, List.getElem?_eq_getElem (by have := HN2.out; omega)⟩
        obtain ⟨oka, b1, o1, hp1, hr1⟩ := HR1.out i a ha
        obtain ⟨okc, b2, o2, hp2, hr2⟩ := HR2.out i c hc
        subst hp1 hp2
        have HA : Hid (w.rangeAt b1 (o1 + i * 172) (rdL a)) := hr1
        have HC : Hid (w.rangeAt b2 (o2 + i * 172) (rdL c)) := hr2
        have HAI : Hid _ := info172 (rdL a) (rdL_len oka)
        have HCI : Hid _ := info172 (rdL c) (rdL_len okc)
        obtain ⟨q, hq⟩ : ∃ q, q = rdEq a c := ⟨_, rfl⟩
        have HNQ : Hid (∀ W, (binOp .neq 33 (.agg (rdL a).toArray) (.agg (rdL c).toArray)).run Tryz.prog W = .ok (.bool (!q)) W) := fun W => by rw [hq]; exact neq_rd W a c oka okc
        have HF : Hid (q = false → M = false) := fun h => HNO.out i a c ha hc (by rw [← hq]; exact h)
        have HT : Hid (q = true → ∀ (j : Nat) (a b : Rd), j < i + 1 → l[j]? = some a → k[j]? = some b → rdEq a b = true) := fun h j x y hj hx hy => by
          rcases Nat.lt_or_ge j i with h1 | h1
          · exact HD.out j x y h1 hx hy
          · obtain rfl : j = i := by omega
            rw [ha] at hx; rw [hc] at hy
            obtain rfl : a = x := by simpa using hx
            obtain rfl : c = y := by simpa using hy
            rw [← hq]; exact h
        clear ha hc oka okc hr1 hr2 hq
        generalize rdL a = AL at *
        generalize rdL c = CL at *
        go_wp2
        refine wp_region_held_drew (S := fun X => Below w.heap.size w X) (by kernel_rfl) HBD.out (fun hHeld => ?_)
        generalize wr.drew = Y at *
        refine wpAnyH_take (i := 0) (oi := ⟨some 17, .move (.tmp 0), 51, _, #[], none⟩) (v := .slice (some ⟨b1, o1, none⟩) n cap) rfl (by kernel_rfl) (by kernel_rfl) (by kernel_rfl) (fun _ _ _ h => h) (Or.inl ⟨by rfl, fun w' hw' => ?_⟩) hHeld ?_
        · first | (go_simp; done) | (go_simp; rfl)
        try simp only [Act.put, qT, q0, qS]
        refine wpAnyH_take (i := 1) (oi := ⟨some 18, .move (.tmp 5), 3, _, #[], none⟩) (v := .int .i64 (i : Int)) rfl (by kernel_rfl) (by kernel_rfl) (by kernel_rfl) (fun _ _ _ h => h) (Or.inl ⟨by rfl, fun w' hw' => ?_⟩) hHeld ?_
        · first | (go_simp; done) | (go_simp; rfl)
        try simp only [Act.put, qT, q0, qS]
        refine wpAnyH_take (i := 2) (oi := ⟨some 19, .indexAddr 51 (.tmp 17) (.tmp 18), 0, _, #[⟨0, .data⟩, ⟨1, .data⟩], none⟩) (v := .pointer (some ⟨b1, o1 + i * 172, none⟩)) rfl (by kernel_rfl) (by kernel_rfl) (by kernel_rfl) (fun _ _ _ h => h) (Or.inl ⟨by rfl, fun w' hw' => ?_⟩) hHeld ?_
        · first | (go_simp; done) | (go_simp; rfl)
        try simp only [Act.put, qT, q0, qS]
        refine wpAnyH_take (i := 3) (oi := ⟨some 20, .load 33 (.tmp 19), 33, _, #[⟨2, .data⟩], none⟩) rfl (by kernel_rfl) (by kernel_rfl) (by kernel_rfl) (fun _ _ _ h => h) (yieldsIf_load_mid (by rfl) 33 (.tmp 19) rfl (b1) (o1 + i * 172) rfl (AL) _ (fun _ h => PC.rangeAt_below HA.out h) Tryz.underlying33 rfl HAI.out) hHeld ?_
        try simp only [Act.put, qT, q0, qS]
        refine wpAnyH_take (i := 4) (oi := ⟨some 21, .move (.tmp 1), 51, _, #[], none⟩) (v := .slice (some ⟨b2, o2, none⟩) n cap') rfl (by kernel_rfl) (by kernel_rfl) (by kernel_rfl) (fun _ _ _ h => h) (Or.inl ⟨by rfl, fun w' hw' => ?_⟩) hHeld ?_
        · first | (go_simp; done) | (go_simp; rfl)
        try simp only [Act.put, qT, q0, qS]
        refine wpAnyH_take (i := 5) (oi := ⟨some 22, .move (.tmp 5), 3, _, #[], none⟩) (v := .int .i64 (i : Int)) rfl (by kernel_rfl) (by kernel_rfl) (by kernel_rfl) (fun _ _ _ h => h) (Or.inl ⟨by rfl, fun w' hw' => ?_⟩) hHeld ?_
        · first | (go_simp; done) | (go_simp; rfl)
        try simp only [Act.put, qT, q0, qS]
        refine wpAnyH_take (i := 6) (oi := ⟨some 23, .indexAddr 51 (.tmp 21) (.tmp 22), 0, _, #[⟨4, .data⟩, ⟨5, .data⟩], none⟩) (v := .pointer (some ⟨b2, o2 + i * 172, none⟩)) rfl (by kernel_rfl) (by kernel_rfl) (by kernel_rfl) (fun _ _ _ h => h) (Or.inl ⟨by rfl, fun w' hw' => ?_⟩) hHeld ?_
        · first | (go_simp; done) | (go_simp; rfl)
        try simp only [Act.put, qT, q0, qS]
        refine wpAnyH_take (i := 7) (oi := ⟨some 24, .load 33 (.tmp 23), 33, _, #[⟨6, .data⟩], none⟩) rfl (by kernel_rfl) (by kernel_rfl) (by kernel_rfl) (fun _ _ _ h => h) (yieldsIf_load_mid (by rfl) 33 (.tmp 23) rfl (b2) (o2 + i * 172) rfl (CL) _ (fun _ h => PC.rangeAt_below HC.out h) Tryz.underlying33 rfl HCI.out) hHeld ?_
        try simp only [Act.put, qT, q0, qS]
        have hnq := HNQ.out
        refine wpAnyH_take (i := 8) (oi := ⟨some 25, .binOp .neq 33 (.tmp 20) (.tmp 24) 33, 4, _, #[⟨3, .data⟩, ⟨7, .data⟩], none⟩) (v := .bool (!q)) rfl (by kernel_rfl) (by kernel_rfl) (by kernel_rfl) (fun _ _ _ h => h) (Or.inl ⟨by rfl, fun w' hw' => ?_⟩) hHeld ?_
        · first | (go_simp; done) | (go_simp; rfl)
        try simp only [Act.put, qT, q0, qS]
        refine wpAnyH_done (by kernel_rfl) ?_ _
        have HB3 : Hid (Below w.heap.size w Y) := hHeld
        clear hHeld hnq
        cases hqq : q with
        | false =>
          subst hqq
          have HMF : Hid (M = false) := HF.out rfl
          go_wp2
          go_ret
          exact ⟨by rw [HMF.out]; rfl, HB3.out⟩
        | true =>
          subst hqq
          go_wp2
          go_roundw
          case rel => exact ⟨i + 1, by omega, by go_num, HB3.out, HT.out rfl⟩
          case measure => simp [intOf]; omega
      · have hie : i = n := by omega
        subst hie
        have hiI : ¬ (i : Int) < (i : Int) := by omega
        have HMT : Hid (M = true) := HYES.out (fun j a b h1 h2 => HD.out j a b (by have := (List.getElem?_eq_some_iff.1 h1).1; have := HN.out; omega) h1 h2)
        go_wp2
        go_ret
        exact ⟨by rw [HMT.out]; rfl, HB.out⟩
  · have hne : ((l.length : Int) != (k.length : Int)) = true := by rw [bne_iff_ne]; omega
    have HMF : Hid (M = false) := by show _ = _; rw [hM]; unfold smeL; rw [decide_eq_false hlk, Bool.false_and]
    clear hrow hrow' hM hlk
    go_enter Tryz.func18, Tryz.ntmps18
    go_wp2
    go_ret
    exact ⟨by rw [HMF.out]; rfl, Below.refl _ _⟩
end Go.Proofs.YtpmknkagnkagpaaGreat.ZC
