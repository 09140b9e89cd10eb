/- blob: both oracles begun; the mathematics of streams and of distinct draws; the statements' distinct. -/
import Derived.Test.YtbmmibmfjhehhaaGreatBQ
import Derived.Test.YtbmmibmfjhehhaaGreatBM
import Derived.Test.YtbmmibmfjhehhaaGreatBJ
import Derived.Test.YtbmmibmfjhehhaaGreatBG
set_option linter.unusedVariables false
set_option linter.unusedSimpArgs false
namespace Go.Proofs.YtbmmibmfjhehhaaGreat.BC
open Go.RowKit

theorem po_lower {B B' og mb : Nat} {S : Nat → Prop} {w : World} {o : R5.Pra} {dv ov : Value} (h : R5.PO B og mb S w o dv ov) (hB : B' ≤ B) : R5.PO B' og mb S w o dv ov :=
  ⟨h.ml, h.row, h.draws, h.dro, h.ok, R5.own_lower h.order hB, h.map, h.sog, h.smb, h.sov, fun k hk => Nat.le_trans hB (h.low k hk), h.top⟩
theorem RS.add {w X : World} {rows : Rws} {b : Nat} {t : TypeId} {M : List Value} (h : RS w rows X) (hb : w.heap.size ≤ b) (hr : X.heap[b]? = some (.cells M.toArray t (0, 0))) (hn : ∀ r ∈ rows, r.1 ≠ b) : RS w ((b, t, M) :: rows) X := by
  refine ⟨h.bel, fun r hr => ?_, ?_, fun r hr' => ?_⟩
  · rcases List.mem_cons.1 hr with rfl | hr
    · exact hb
    · exact h.low r hr
  · rw [List.map_cons, List.nodup_cons]
    refine ⟨fun hm => ?_, h.nd⟩
    obtain ⟨r, hr, e⟩ := List.mem_map.1 hm
    exact hn r hr e
  · rcases List.mem_cons.1 hr' with rfl | hr'
    · exact hr
    · exact h.row r hr'
theorem TB.start {w V Y : World} {og mb rg : Nat} {i : Bool} {m : List UInt8} {D : List (List UInt8)} {rows : Rws} {dv v0 : Value} {x0 : Nat} (hpo : R5.PO x0 og mb (fun k => k = og ∨ k = mb) V ⟨i, m, D, []⟩ dv (.slice none 0 0)) (hdv : ∀ k, dv.ownBlock = some k → x0 ≤ k) (hx0 : w.heap.size ≤ x0) (hVY : Below V.heap.size V Y) (hD : R5.HDs w v0 D) (hrl : w.heap.size ≤ rg) (hrg : rg < x0 ∨ V.heap.size ≤ rg)
    (hr : Y.heap[rg]? = some (.cells (R5.oL i m v0 0 (.slice none 0 0)).toArray 45 (0, 0))) (hrows : RS w rows Y) (hout : ∀ r ∈ rows, r.1 ≠ rg ∧ (r.1 < x0 ∨ V.heap.size ≤ r.1)) (hV : x0 ≤ V.heap.size) : TB w og mb rg i m D [] [] rows Y := by
  have hrY := R5.row_lt hr
  have hus : (rrG i m D []).used = 0 := by unfold rrG; cases i <;> rfl
  have hS : ∀ k, (k = og ∨ k = mb) ∨ dv.ownBlock = some k → x0 ≤ k ∧ k < V.heap.size := fun k hk => hk.elim (fun hk => ⟨hpo.low k hk, hpo.top k hk⟩) (fun e => ⟨hdv k e, (hpo.dro k e).2⟩)
  refine ⟨⟨fun k => k = og ∨ k = mb, dv, .slice none 0 0, fun k => k = rg, v0, .slice none 0 0, [], (po_lower hpo hx0).below hVY, ⟨hpo.ml, by rw [hus]; exact hr, R5.hds_below hD hrows.bel, fun hne k e => ?_, ⟨fun e he => by simp [rrG] at he, rfl, World.ownsRow_nil _ _ _ _, fun i e d he => by simp [rrG] at he⟩, rfl, fun k e => by simp [Value.ownBlock] at e, fun d hd => by simp at hd, fun k hk => by rw [hk]; omega, fun k hk => by rw [hk]; exact hrY⟩, fun k hk hT => ?_, fun k e hT => ?_, fun r hr => ?_⟩, hrows⟩
  · have hne : D ≠ [] := hne
    obtain ⟨h0, p, cap, h1, h2⟩ := hD
    obtain ⟨b, o, hp, hr⟩ := h2 0 (List.length_pos_iff.2 hne)
    have hbk : b = k := by rw [h1, hp] at e; simpa [Value.ownBlock] using e
    have hl : (D.getD 0 []).length = 32 := by
      rw [List.getD_eq_getElem?_getD, List.getElem?_eq_getElem (List.length_pos_iff.2 hne)]
      exact h0 _ (List.getElem_mem _)
    have := block_lt (hr 0 (B8 ((D.getD 0 [])[0]'(by omega))) (by rw [List.getElem?_map, List.getElem?_eq_getElem (by omega)]; rfl))
    rw [← hbk]; exact this
  · have hT : k = rg := hT
    have := hS k (.inl hk); omega
  · have hT : k = rg := hT
    have := hS k (.inr e); omega
  · obtain ⟨h1, h2⟩ := hout r hr
    exact ⟨fun hk => by have := hS _ (.inl hk); omega, h1, fun e => by have := hS _ (.inr e); omega⟩
set_option maxHeartbeats 4000000 in
set_option maxRecDepth 100000 in
theorem build_orG (w : World) (i : Bool) (DL : List Value) (h2 : DL.length = 32) (p : Option Addr) (n c : Nat) : (Instr.build 45 #[(0, .bool i), (1, .agg DL.toArray), (2, .slice p n c)]).run Tryz.prog w = .ok (.agg (.bool i :: (DL ++ [.slice p n c, .int .i64 0, .slice none 0 0])).toArray) w := by
  iterate 32 (obtain ⟨_, _, e, g⟩ := R5.cons_of h2; clear h2; subst e; have h2 := g; clear g)
  obtain rfl := List.eq_nil_of_length_eq_zero h2
  show _ = _
  kernel_rfl
section
variable {i : Bool} {D : List (List UInt8)} {L : Lg}
theorem fnd_app {q : R5.Qn} {A : List UInt8} : ∀ {l : Lg} (r : Lg), R5.fndA q l = some A → R5.fndA q (l ++ r) = some A
  | [], _, h => by simp [R5.fndA] at h
  | e :: l, r, h => by
    rw [List.cons_append]
    unfold R5.fndA at h ⊢
    split
    · rename_i he; rw [if_pos he] at h; exact h
    · rename_i he; rw [if_neg he] at h; exact fnd_app r h
theorem fnd_new {q : R5.Qn} {A : List UInt8} : ∀ {l : Lg}, R5.fndA q l = none → R5.fndA q (l ++ [(q, A)]) = some A
  | [], _ => by simp [R5.fndA]
  | e :: l, h => by
    rw [List.cons_append]
    unfold R5.fndA at h ⊢
    split
    · rename_i he; rw [if_pos he] at h; cases h
    · rename_i he; rw [if_neg he] at h; exact fnd_new h
theorem nx2_old {q : R5.Qn} {A : List UInt8} (h : R5.fndA q L = some A) : nx2 i D L q = (A, L) := by unfold nx2; rw [h]
theorem nx2_fnd (i : Bool) (D : List (List UInt8)) (L : Lg) (q : R5.Qn) : R5.fndA q (nx2 i D L q).2 = some (nx2 i D L q).1 := by
  cases h : R5.fndA q L with
  | some A => rw [nx2_old h]; exact h
  | none => unfold nx2; rw [h]; exact fnd_new h
theorem nx2_ext (i : Bool) (D : List (List UInt8)) (L : Lg) (q : R5.Qn) : ∃ M, (nx2 i D L q).2 = L ++ M := by
  cases h : R5.fndA q L with
  | some A => rw [nx2_old h]; exact ⟨[], (List.append_nil _).symm⟩
  | none => unfold nx2; rw [h]; exact ⟨_, rfl⟩
def gL (D : List (List UInt8)) (L : Lg) : Prop := (∀ d ∈ D, d.length = 32) ∧ ∀ e ∈ L, e.2.length = 32
theorem gL.ok {q : R5.Qn} (h : gL D L) : (nx2 i D L q).1.length = 32 ∧ gL D (nx2 i D L q).2 := by
  cases hf : R5.fndA q L with
  | some A =>
    rw [nx2_old hf]
    exact ⟨h.2 _ (R5.fndA_some hf), h⟩
  | none =>
    have hl : (if i then R5.drawD D L.length else R5.compD q).length = 32 := by
      cases i
      · exact R5.compD_len q
      · exact R5.drawD_len _ _ h.1
    unfold nx2; rw [hf]
    refine ⟨hl, h.1, fun e he => ?_⟩
    rcases List.mem_append.1 he with he | he
    · exact h.2 e he
    · rw [List.mem_singleton.1 he]; exact hl
theorem gL.len (h : gL D L) (q : R5.Qn) : (nx2 i D L q).1.length = 32 := h.ok.1
theorem gL.nil (h : ∀ d ∈ D, d.length = 32) : gL D [] := ⟨h, fun e he => (List.not_mem_nil he).elim⟩
end
def dst (D : List (List UInt8)) : Prop := (∀ i, i < D.length → ∀ k, k < i → D.getD i [] ≠ D.getD k []) ∧ ∀ i, i < D.length → (D.getD i []).getD 31 0 ≠ 1
end Go.Proofs.YtbmmibmfjhehhaaGreat.BC
