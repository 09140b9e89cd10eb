/- blob: both oracles begun; the mathematics of streams and of distinct draws; the statements' distinct. -/
import Derived.Test.YtbmmibmfjhehhaaGreatBQ
import Derived.Test.YtbmmibmfjhehhaaGreatBM
import Derived.Test.YtbmmibmfjhehhaaGreatBJ
import Derived.Test.YtbmmibmfjhehhaaGreatBG
set_option linter.unusedVariables false
set_option linter.unusedSimpArgs false
namespace Go.Proofs.YtbmmibmfjhehhaaGreat.BC
open Go.RowKit

theorem po_lower {B B' og mb : Nat} {S : Nat → Prop} {w : World} {o : R5.Pra} {dv ov : Value} (h : R5.PO B og mb S w o dv ov) (hB : B' ≤ B) : R5.PO B' og mb S w o dv ov :=
  ⟨h.ml, h.row, h.draws, h.dro, h.ok, R5.own_lower h.order hB, h.map, h.sog, h.smb, h.sov, fun k hk => Nat.le_trans hB (h.low k hk), h.top⟩
theorem RS.add {w X : World} {rows : Rws} {b : Nat} {t : TypeId} {M : List Value} (h : RS w rows X) (hb : w.heap.size ≤ b) (hr : X.heap[b]? = some (.cells M.toArray t (0, 0))) (hn : ∀ r ∈ rows, r.1 ≠ b) : RS w ((b, t, M) :: rows) X := by
  refine ⟨h.bel, fun r hr => ?_, ?_, fun r hr' => ?_⟩
  · rcases List.mem_cons.1 hr with rfl | hr
    · exact hb
    · exact h.low r hr
  · rw [List.map_cons, List.nodup_cons]
    refine ⟨fun hm => ?_, h.nd⟩
    obtain ⟨r, hr, e⟩ := List.mem_map.1 hm
    exact hn r hr e
  · rcases List.mem_cons.1 hr' with rfl | hr'
    · exact hr
    · exact h.row r hr'
theorem TB.start {w V Y : World} {og mb rg : Nat} {i : Bool} {m : List UInt8} {D : List (List UInt8)} {rows : Rws} {dv v0 : Value} {x0 : Nat} (hpo : R5.PO x0 og mb (fun k => k = og ∨ k = mb) V ⟨i, m, D, []⟩ dv (.slice none 0 0)) (hdv : ∀ k, dv.ownBlock = some k → x0 ≤ k) (hx0 : w.heap.size ≤ x0) (hVY : Below V.heap.size V Y) (hD : R5.HDs w v0 D) (hrl : w.heap.size ≤ rg) (hrg : rg < x0 ∨ V.heap.size ≤ rg)
    (hr : Y.heap[rg]? = some (.cells (R5.oL i m v0 0 (.slice none 0 0)).toArray 45 (0, 0))) (hrows : RS w rows Y) (hout : ∀ r ∈ rows, r.1 ≠ rg ∧ (r.1 < x0 ∨ V.heap.size ≤ r.1)) (hV : x0 ≤ V.heap.size) : TB w og mb rg i m D [] [] rows Y := by
  have hrY := R5.row_lt hr
  have hus : (rrG i m D []).used = 0 := by unfold rrG; cases i <;> rfl
  have hS : ∀ k, (k = og ∨ k = mb) ∨ dv.ownBlock = some k → x0 ≤ k ∧ k < V.heap.size := fun k hk => hk.elim (fun hk => ⟨hpo.low k hk, hpo.top k hk⟩) (fun e => ⟨hdv k e, (hpo.dro k e).2⟩)
  refine ⟨⟨fun k => k = og ∨ k = mb, dv, .slice none 0 0, fun k => k = rg, v0, .slice none 0 0, [], (po_lower hpo hx0).below hVY, ⟨hpo.ml, by rw [hus]; exact hr, R5.hds_below hD hrows.bel, fun hne k e => ?_, ⟨fun e he => by simp [rrG] at he, rfl, World.ownsRow_nil _ _ _ _, fun i e d he => by simp [rrG] at he⟩, rfl, fun k e => by simp [Value.ownBlock] at e, fun d hd => by simp at hd, fun k hk => by rw [hk]; omega, fun k hk => by rw [hk]; exact hrY⟩, fun k hk hT => ?_, fun k e hT => ?_, fun r hr => ?_⟩, hrows⟩
  · have hne : D ≠ [] := hne
    obtain ⟨h0, p, cap, h1, h2⟩ := hD
    obtain ⟨b, o, hp, hr⟩ := h2 0 (List.length_pos_iff.2 hne)
    have hbk : b = k := by rw [h1, hp] at e; simpa [Value.ownBlock] using e
    have hl : (D.getD 0 []).length = 32 := by
      rw [List.getD_eq_getElem?_getD, List.getElem?_eq_getElem (List.length_pos_iff.2 hne)]
      exact h0 _ (List.getElem_mem _)
    have := block_lt (hr 0 (B8 ((D.getD 0 [])[0]'(by omega))) (by rw [List.getElem?_map, List.getElem?_eq_getElem (by omega)]; rfl))
    rw [← hbk]; exact this
  · have hT : k = rg := hT
    have := hS k (.inl hk); omega
  · have hT : k = rg := hT
    have := hS k (.inr e); omega
  · obtain ⟨h1, h2⟩ := hout r hr
    exact ⟨fun hk => by have := hS _ (.inl hk); omega, h1, fun e => by have := hS _ (.inr e); omega⟩
set_option maxHeartbeats 4000000 in
set_option maxRecDepth 100000 in
theorem build_orG (w : World) (i : Bool) (DL : List Value) (h2 : DL.length = 32) (p : Option Addr) (n c : Nat) : (Instr.build 45 #[(0, .bool i), (1, .agg DL.toArray), (2, .slice p n c)]).run Tryz.prog w = .ok (.agg (.bool i :: (DL ++ [.slice p n c, .int .i64 0, .slice none 0 0])).toArray) w := by
  iterate 32 (obtain ⟨_, _, e, g⟩ := R5.cons_of h2; clear h2; subst e; have h2 := g; clear g)
  obtain rfl := List.eq_nil_of_length_eq_zero h2
  show _ = _
  kernel_rfl
section
variable {i : Bool} {D : List (List UInt8)} {L : Lg}
theorem fnd_app {q : R5.Qn} {A : List UInt8} : ∀ {l : Lg} (r : Lg), R5.fndA q l = some A → R5.fndA q (l ++ r) = some A
  | [], _, h => by simp [R5.fndA] at h
  | e :: l, r, h => by
    rw [List.cons_append]
    unfold R5.fndA at h ⊢
    split
    · rename_i he; rw [if_pos he] at h; exact h
    · rename_i he; rw [if_neg he] at h; exact fnd_app r h
theorem fnd_new {q : R5.Qn} {A : List UInt8} : ∀ {l : Lg}, R5.fndA q l = none → R5.fndA q (l ++ [(q, A)]) = some A
  | [], _ => by simp [R5.fndA]
  | e :: l, h => by
    rw [List.cons_append]
    unfold R5.fndA at h ⊢
    split
    · rename_i he; rw [if_pos he] at h; cases h
    · rename_i he; rw [if_neg he] at h; exact fnd_new h
theorem nx2_old {q : R5.Qn} {A : List UInt8} (h : R5.fndA q L = some A) : nx2 i D L q = (A, L) := by unfold nx2; rw [h]
theorem nx2_fnd (i : Bool) (D : List (List UInt8)) (L : Lg) (q : R5.Qn) : R5.fndA q (nx2 i D L q).2 = some (nx2 i D L q).1 := by
  cases h : R5.fndA q L with
  | some A => rw [nx2_old h]; exact h
  | none => unfold nx2; rw [h]; exact fnd_new h
theorem nx2_ext (i : Bool) (D : List (List UInt8)) (L : Lg) (q : R5.Qn) : ∃ M, (nx2 i D L q).2 = L ++ M := by
  cases h : R5.fndA q L with
  | some A => rw [nx2_old h]; exact ⟨[], (List.append_nil _).symm⟩
  | none => unfold nx2; rw [h]; exact ⟨_, rfl⟩
/-- Draws and answers that are digests. -/
def gL (D : List (List UInt8)) (L : Lg) : Prop := (∀ d ∈ D, d.length = 32) ∧ ∀ e ∈ L, e.2.length = 32
theorem gL.ok {q : R5.Qn} (h : gL D L) : (nx2 i D L q).1.length = 32 ∧ gL D (nx2 i D L q).2 := by
  cases hf : R5.fndA q L with
  | some A =>
    rw [nx2_old hf]
    exact ⟨h.2 _ (R5.fndA_some hf), h⟩
  | none =>
    have hl : (if i then R5.drawD D L.length else R5.compD q).length = 32 := by
      cases i
      · exact R5.compD_len q
      · exact R5.drawD_len _ _ h.1
    unfold nx2; rw [hf]
    refine ⟨hl, h.1, fun e he => ?_⟩
    rcases List.mem_append.1 he with he | he
    · exact h.2 e he
    · rw [List.mem_singleton.1 he]; exact hl
theorem gL.len (h : gL D L) (q : R5.Qn) : (nx2 i D L q).1.length = 32 := h.ok.1
theorem gL.nil (h : ∀ d ∈ D, d.length = 32) : gL D [] := ⟨h, fun e he => (List.not_mem_nil he).elim⟩
end
/-- No two draws are one, nor one that comes behind the list's end. -/
def dst (D : List (List UInt8)) : Prop := (∀ i, i < D.length → ∀ k, k < i → D.getD i [] ≠ D.getD k []) ∧ ∀ i, i < D.length → (D.getD i []).getD 31 0 ≠ 1
theorem le_inj {a b : Nat} (ha : a < 18446744073709551616) (hb : b < 18446744073709551616) (h : W1.le 8 a = W1.le 8 b) : a = b := by
  have h1 := congrArg W1.num h
  rw [W1.num_le, W1.num_le, Nat.mod_eq_of_lt (by simpa using ha), Nat.mod_eq_of_lt (by simpa using hb)] at h1
  exact h1
theorem app_inj {α : Type} {a b c d : List α} (h : a ++ b = c ++ d) (hl : a.length = c.length) : a = c ∧ b = d := List.append_inj h hl
theorem drawD_lt {D : List (List UInt8)} {i : Nat} (h : i < D.length) : R5.drawD D i = D.getD i [] := by unfold R5.drawD; rw [if_pos h]
theorem drawD_ge {D : List (List UInt8)} {i : Nat} (h : ¬ i < D.length) : R5.drawD D i = W1.le 8 i ++ List.replicate 23 0 ++ [1] := by unfold R5.drawD; rw [if_neg h]
theorem last_ge (i : Nat) : (W1.le 8 i ++ List.replicate 23 (0 : UInt8) ++ [1]).getD 31 0 = 1 := by
  have hl : (W1.le 8 i ++ List.replicate 23 (0 : UInt8)).length = 31 := by simp [W1.le_length]
  rw [List.getD_eq_getElem?_getD, List.getElem?_append_right (by omega), hl]; rfl
theorem draw_inj {D : List (List UInt8)} (h : dst D) {i j : Nat} (hi : i < 1000000) (hj : j < 1000000) (e : R5.drawD D i = R5.drawD D j) : i = j := by
  by_cases h1 : i < D.length
  · by_cases h2 : j < D.length
    · rw [drawD_lt h1, drawD_lt h2] at e
      rcases Nat.lt_trichotomy i j with hl | hl | hl
      · exact absurd e.symm (h.1 j h2 i hl)
      · exact hl
      · exact absurd e (h.1 i h1 j hl)
    · rw [drawD_lt h1, drawD_ge h2] at e
      have := h.2 i h1
      rw [e, last_ge] at this
      exact absurd rfl this
  · by_cases h2 : j < D.length
    · rw [drawD_ge h1, drawD_lt h2] at e
      have := h.2 j h2
      rw [← e, last_ge] at this
      exact absurd rfl this
    · rw [drawD_ge h1, drawD_ge h2, List.append_assoc, List.append_assoc] at e
      exact le_inj (by omega) (by omega) (app_inj e (by rw [W1.le_length, W1.le_length])).1
/-- The answers are the draws, one behind the other. -/
def ansOk (D : List (List UInt8)) (L : Lg) : Prop := ∀ (i : Nat) (e : R5.Qn × List UInt8), L[i]? = some e → e.2 = R5.drawD D i
theorem ansOk.nx {D : List (List UInt8)} {L : Lg} (h : ansOk D L) (q : R5.Qn) : ansOk D (nx2 true D L q).2 := by
  cases hf : R5.fndA q L with
  | some A => rw [nx2_old hf]; exact h
  | none =>
    unfold nx2; rw [hf]
    intro i e he
    rcases Nat.lt_or_ge i L.length with hi | hi
    · rw [List.getElem?_append_left hi] at he; exact h i e he
    · rw [List.getElem?_append_right hi] at he
      have h0 : i - L.length = 0 := by have := (List.getElem?_eq_some_iff.1 he).1; simp at this; omega
      rw [h0] at he
      have h3 : (q, R5.drawD D L.length) = e := by simpa using he
      rw [← h3, show i = L.length by omega]
theorem fnd_inj {D : List (List UInt8)} {L : Lg} (hd : dst D) (ha : ansOk D L) (hl : L.length < 1000000) {q q' : R5.Qn} {A : List UInt8} (h : R5.fndA q L = some A) (h' : R5.fndA q' L = some A) : q = q' := by
  obtain ⟨i, hi⟩ := List.getElem?_of_mem (R5.fndA_some h)
  obtain ⟨j, hj⟩ := List.getElem?_of_mem (R5.fndA_some h')
  have e1 := ha i _ hi
  have e2 := ha j _ hj
  have hil := (List.getElem?_eq_some_iff.1 hi).1
  have hjl := (List.getElem?_eq_some_iff.1 hj).1
  have e := draw_inj hd (by omega) (by omega) (e1.symm.trans e2)
  subst e
  rw [hi] at hj
  exact congrArg Prod.fst (Option.some.inj hj)
theorem eql_d (w : World) (a b : List UInt8) (ha : a.length = 32) (hb : b.length = 32) : (binOp .eql 23 (.agg (a.map B8).toArray) (.agg (b.map B8).toArray)).run Tryz.prog w = .ok (.bool (a == b)) w :=
  run_eql_bytes (P := Tryz.prog) w 23 5 32 Tryz.underlying23 Tryz.underlying5 size_u8 a b ha hb
theorem at31 (l : List UInt8) (h : l.length = 32) : (l.map B8)[31]? = some (B8 (l.getD 31 0)) := by
  have h31 : 31 < l.length := by omega
  rw [List.getElem?_map, List.getD, List.getElem?_eq_getElem h31]; rfl
/-- How distinct ends. -/
def DsEnd (D : List (List UInt8)) (w : World) (e : Ending) (w' : World) : Prop := ∃ b : Bool, e = .returned (.bool b) ∧ (b = true → dst D) ∧ Below w.heap.size w w'
/-- A leaf's cells; leaves that can be read. -/
def lfL (x : Int × List UInt8) : List Value := .int .i64 x.1 :: x.2.map B8
end Go.Proofs.YtbmmibmfjhehhaaGreat.BC
