/- blob: the program's oracle and the document's side by side, in either mode, and rows of one's own beside them. -/
import Derived.Test.YtbmmibmfjhehhaaGreatBX
import Derived.Test.YtbmmibmfjhehhaaGreatWy
import Derived.Test.YtbmmibmfjhehhaaGreatBA
set_option linter.unusedVariables false
set_option linter.unusedSimpArgs false
namespace Go.Proofs.YtbmmibmfjhehhaaGreat.BC
open Go.RowKit

structure RS (w : World) (rows : List (Nat × TypeId × List Value)) (X : World) : Prop where
  bel : Below w.heap.size w X
  low : ∀ r ∈ rows, w.heap.size ≤ r.1
  nd : (rows.map (·.1)).Nodup
  row : ∀ r ∈ rows, X.heap[r.1]? = some (.cells r.2.2.toArray r.2.1 (0, 0))
section
variable {w X Y : World} {rows : List (Nat × TypeId × List Value)} {b : Nat} {t : TypeId} {L M : List Value}
theorem RS.start (w : World) : RS w [] w := ⟨Below.refl _ _, fun r h => (List.not_mem_nil h).elim, List.nodup_nil, fun r h => (List.not_mem_nil h).elim⟩
theorem RS.at (h : RS w rows X) (i : Nat) (hi : rows[i]? = some (b, t, L)) : X.heap[b]? = some (.cells L.toArray t (0, 0)) := h.row _ (List.mem_of_getElem? hi)
theorem RS.step (h : RS w rows X) (hb : Below X.heap.size X Y) : RS w rows Y :=
  ⟨h.bel.trans (hb.mono h.bel.size), h.low, h.nd, fun r hr => (hb.block _ (R5.row_lt (h.row r hr))).trans (h.row r hr)⟩
theorem RS.alloc (h : RS w rows X) (n : Nat) (hn : n = X.heap.size) (t : TypeId) (L : List Value) : RS w ((n, t, L) :: rows) (X.alloc (.cells L.toArray t (0, 0))) := by
  subst hn
  have hs := h.step ((Below.refl _ _).alloc (Nat.le_refl _) (.cells L.toArray t (0, 0)))
  refine ⟨hs.bel, fun r hr => ?_, ?_, fun r hr => ?_⟩
  · rcases List.mem_cons.1 hr with rfl | hr
    · exact h.bel.size
    · exact h.low r hr
  · rw [List.map_cons, List.nodup_cons]
    refine ⟨fun hm => ?_, h.nd⟩
    obtain ⟨r, hr, e⟩ := List.mem_map.1 hm
    have := R5.row_lt (h.row r hr)
    rw [e] at this
    exact Nat.lt_irrefl _ this
  · rcases List.mem_cons.1 hr with rfl | hr
    · exact heap_alloc_new _ _
    · exact hs.row r hr
theorem RS.cell (h : RS w rows X) (i : Nat) (hi : rows[i]? = some (b, t, L)) (k : Nat) {v : Value} (hv : L[k]? = some v) : X.cell? ⟨b, k, none⟩ = some v := by
  rw [cell_of_row _ _ k _ _ _ (h.at i hi), List.getElem?_toArray]; exact hv
theorem RS.lowAt (h : RS w rows X) (i : Nat) (hi : rows[i]? = some (b, t, L)) : w.heap.size ≤ b := h.low _ (List.mem_of_getElem? hi)
theorem RS.other (h : RS w rows X) (i : Nat) (hi : rows[i]? = some (b, t, L)) (hY : Y.heap[b]? = some (.cells M.toArray t (0, 0))) (hbY : Below w.heap.size w Y) (hk : ∀ j, j ≠ b → Y.heap[j]? = X.heap[j]?) : RS w (rows.set i (b, t, M)) Y := by
  have hil : i < rows.length := (List.getElem?_eq_some_iff.1 hi).1
  refine ⟨hbY, fun r hr => ?_, ?_, fun r hr => ?_⟩
  · rcases List.mem_or_eq_of_mem_set hr with hr | rfl
    · exact h.low r hr
    · exact h.lowAt i hi
  · have : (rows.set i (b, t, M)).map (·.1) = rows.map (·.1) := by
      rw [List.map_set]
      apply List.ext_getElem?
      intro j
      rw [List.getElem?_set]
      by_cases hj : i = j
      · subst hj
        rw [if_pos rfl, if_pos (by simpa using hil), List.getElem?_map, hi]; rfl
      · rw [if_neg hj]
    rw [this]; exact h.nd
  · obtain ⟨j, hj⟩ := List.getElem?_of_mem hr
    rw [List.getElem?_set] at hj
    by_cases e : i = j
    · rw [if_pos e, if_pos hil] at hj
      obtain rfl := Option.some.inj hj
      exact hY
    · rw [if_neg e] at hj
      rw [hk r.1 (fun hb => ?_)]
      · exact h.row r (List.mem_of_getElem? hj)
      · have h1 : (rows.map (·.1))[i]? = some b := by rw [List.getElem?_map, hi]; rfl
        have h2 : (rows.map (·.1))[j]? = some b := by rw [List.getElem?_map, hj, ← hb]; rfl
        have hl1 := (List.getElem?_eq_some_iff.1 h1).1
        exact e ((List.getElem?_inj hl1 h.nd).1 (h1.trans h2.symm))
theorem RS.put (h : RS w rows X) (i : Nat) (hi : rows[i]? = some (b, t, L)) (M : List Value) : RS w (rows.set i (b, t, M)) (X.setRow b M.toArray) :=
  h.other i hi (setRow_heap _ _ _ _ _ _ (h.at i hi)) (below_setRow h.bel (h.lowAt i hi) _) (fun j hj => by simp [World.setRow, Array.getElem?_modify, Ne.symm hj])
theorem RS.poke (h : RS w rows X) (i : Nat) (hi : rows[i]? = some (b, t, L)) (k : Nat) (v : Value) (hM : L.set k v = M) : RS w (rows.set i (b, t, M)) (X.setCell ⟨b, k, none⟩ v) := by
  refine h.other i hi ?_ (h.bel.setCell (p := ⟨b, k, none⟩) (h.lowAt i hi) _) (fun j hj => heap_setCell_other _ _ _ _ (by show j ≠ b; exact hj))
  have e := heap_setCell_same _ _ k _ _ v (h.at i hi)
  rw [List.setIfInBounds_toArray, hM] at e
  exact e
end

def nx2 (i : Bool) (D : List (List UInt8)) (L : Lg) (q : R5.Qn) : List UInt8 × Lg :=
  match R5.fndA q L with
  | some A => (A, L)
  | none => ((if i then R5.drawD D L.length else R5.compD q), L ++ [(q, (if i then R5.drawD D L.length else R5.compD q))])
def prG (i : Bool) (m : List UInt8) (D : List (List UInt8)) (L : Lg) : R5.Pra := ⟨i, m, D, L⟩
def rrG (i : Bool) (m : List UInt8) (D : List (List UInt8)) (L : Lg) : R5.Ora := ⟨i, m, D, if i then L.length else 0, L⟩
theorem nxP_nx2 (i : Bool) (m : List UInt8) (D : List (List UInt8)) (L : Lg) (q : R5.Qn) : nxP (prG i m D L) q = ((nx2 i D L q).1, prG i m D (nx2 i D L q).2) := by
  unfold nxP R5.pAsk nx2 prG frs
  show (match R5.fndA q L with | some A => _ | none => _) = _
  cases R5.fndA q L <;> rfl
theorem rNx_nx2 (i : Bool) (m : List UInt8) (D : List (List UInt8)) (L : Lg) (q : R5.Qn) : R5.rNx (rrG i m D L) q = ((nx2 i D L q).1, rrG i m D (nx2 i D L q).2) := by
  unfold nx2 rrG R5.rNx
  cases i with
  | true =>
    rw [if_pos rfl]
    unfold R5.askO
    show (match R5.fndA q L with | some A => _ | none => _) = _
    cases R5.fndA q L <;> simp
  | false =>
    rw [if_neg (show ¬ (false = true) by decide)]
    unfold R5.askC
    show (match R5.fndA q L with | some A => _ | none => _) = _
    cases R5.fndA q L <;> simp
theorem nx2_len (i : Bool) (D : List (List UInt8)) (L : Lg) (q : R5.Qn) : (nx2 i D L q).2.length ≤ L.length + 1 := by
  unfold nx2
  cases R5.fndA q L with
  | some A => exact Nat.le_succ _
  | none => simp
theorem rrG_used (i : Bool) (m : List UInt8) (D : List (List UInt8)) (L : Lg) : (rrG i m D L).used ≤ L.length := by
  unfold rrG; cases i <;> simp
abbrev Rws := List (Nat × TypeId × List Value)
structure TB (w : World) (og mb rg : Nat) (i : Bool) (m : List UInt8) (D : List (List UInt8)) (L R : Lg) (rows : Rws) (X : World) : Prop where
  ex : ∃ S dv ov T dr lv lds, R5.PO w.heap.size og mb S X (prG i m D L) dv ov ∧ R5.OR w.heap.size rg T X (rrG i m D R) dr lv lds 45 ∧ (∀ k, S k → ¬ T k) ∧ (∀ k, dv.ownBlock = some k → ¬ T k) ∧ ∀ r ∈ rows, ¬ S r.1 ∧ ¬ T r.1 ∧ dv.ownBlock ≠ some r.1
  rs : RS w rows X
section
variable {w X Y : World} {og mb rg : Nat} {i : Bool} {m : List UInt8} {D : List (List UInt8)} {L L' R R' : Lg} {rows : Rws} {A : List UInt8} {b : Nat} {t : TypeId} {M N : List Value}
theorem TB.bel (h : TB w og mb rg i m D L R rows X) : Below w.heap.size w X := h.rs.bel
theorem TB.mc (h : TB w og mb rg i m D L R rows X) : X.cell? ⟨og, 35, none⟩ = some (.map (some mb)) := by obtain ⟨_, _, _, _, _, _, _, h, _⟩ := h.ex; exact h.cells.2.2.2.1
theorem TB.step (h : TB w og mb rg i m D L R rows X) (hb : Below X.heap.size X Y) : TB w og mb rg i m D L R rows Y := by
  obtain ⟨S, dv, ov, T, dr, lv, lds, h1, h2, h3, h4, h5⟩ := h.ex
  exact ⟨⟨S, dv, ov, T, dr, lv, lds, h1.below hb, h2.keep hb.size (fun k hk _ => hb.block k hk), h3, h4, h5⟩, h.rs.step hb⟩
theorem TB.alloc (h : TB w og mb rg i m D L R rows X) (n : Nat) (hn : n = X.heap.size) (t : TypeId) (M : List Value) : TB w og mb rg i m D L R ((n, t, M) :: rows) (X.alloc (.cells M.toArray t (0, 0))) := by
  obtain ⟨S, dv, ov, T, dr, lv, lds, h1, h2, h3, h4, h5⟩ := h.ex
  have hb : Below X.heap.size X (X.alloc (.cells M.toArray t (0, 0))) := (Below.refl _ _).alloc (Nat.le_refl _) _
  refine ⟨⟨S, dv, ov, T, dr, lv, lds, h1.below hb, h2.keep hb.size (fun k hk _ => hb.block k hk), h3, h4, fun r hr => ?_⟩, h.rs.alloc n hn t M⟩
  rcases List.mem_cons.1 hr with rfl | hr
  · subst hn
    exact ⟨fun h => by have := h1.top _ h; simp at this, fun h => by have := h2.top _ h; simp at this, fun e => by have := (h1.dro _ e).2; simp at this⟩
  · exact h5 r hr
theorem TB.drop (h : TB w og mb rg i m D L R ((b, t, M) :: rows) X) : TB w og mb rg i m D L R rows X := by
  obtain ⟨S, dv, ov, T, dr, lv, lds, h1, h2, h3, h4, h5⟩ := h.ex
  exact ⟨⟨S, dv, ov, T, dr, lv, lds, h1, h2, h3, h4, fun r hr => h5 r (List.mem_cons_of_mem _ hr)⟩, ⟨h.rs.bel, fun q hq => h.rs.low q (List.mem_cons_of_mem _ hq), (List.nodup_cons.1 (by simpa using h.rs.nd)).2, fun q hq => h.rs.row q (List.mem_cons_of_mem _ hq)⟩⟩
theorem TB.other (h : TB w og mb rg i m D L R rows X) (q : Nat) (hq : rows[q]? = some (b, t, M)) (hY : Y.heap[b]? = some (.cells N.toArray t (0, 0))) (hbY : Below w.heap.size w Y) (hs : X.heap.size ≤ Y.heap.size) (hk : ∀ j, j < X.heap.size → j ≠ b → Y.heap[j]? = X.heap[j]?) : TB w og mb rg i m D L R (rows.set q (b, t, N)) Y := by
  obtain ⟨S, dv, ov, T, dr, lv, lds, h1, h2, h3, h4, h5⟩ := h.ex
  obtain ⟨n1, n2, n3⟩ := h5 _ (List.mem_of_getElem? hq)
  have hlow := h.rs.lowAt q hq
  refine ⟨⟨S, dv, ov, T, dr, lv, lds, h1.keep hs (fun k hkl hS => hk k hkl (fun e => ?_)), h2.keep hs (fun k hkl hT => hk k hkl (fun e => ?_)), h3, h4, fun r hr => ?_⟩, ?_⟩
  · subst e; exact hS.elim n1 n3
  · subst e; exact hT.elim n2 (fun hl => by omega)
  · rcases List.mem_or_eq_of_mem_set hr with hr | rfl
    · exact h5 r hr
    · exact ⟨n1, n2, n3⟩
  · have hil : q < rows.length := (List.getElem?_eq_some_iff.1 hq).1
    refine ⟨hbY, fun r hr => ?_, ?_, fun r hr => ?_⟩
    · rcases List.mem_or_eq_of_mem_set hr with hr | rfl
      · exact h.rs.low r hr
      · exact hlow
    · have : (rows.set q (b, t, N)).map (·.1) = rows.map (·.1) := by
        rw [List.map_set]
        apply List.ext_getElem?
        intro j
        rw [List.getElem?_set]
        by_cases hj : q = j
        · subst hj
          rw [if_pos rfl, if_pos (by simpa using hil), List.getElem?_map, hq]; rfl
        · rw [if_neg hj]
      rw [this]; exact h.rs.nd
    · obtain ⟨j, hj⟩ := List.getElem?_of_mem hr
      rw [List.getElem?_set] at hj
      by_cases e : q = j
      · rw [if_pos e, if_pos hil] at hj
        obtain rfl := Option.some.inj hj
        exact hY
      · rw [if_neg e] at hj
        have hrow := h.rs.row r (List.mem_of_getElem? hj)
        rw [hk r.1 (R5.row_lt hrow) (fun hb => ?_)]
        · exact hrow
        · have e1 : (rows.map (·.1))[q]? = some b := by rw [List.getElem?_map, hq]; rfl
          have e2 : (rows.map (·.1))[j]? = some b := by rw [List.getElem?_map, hj, ← hb]; rfl
          have hl1 := (List.getElem?_eq_some_iff.1 e1).1
          exact e ((List.getElem?_inj hl1 h.rs.nd).1 (e1.trans e2.symm))
theorem TB.put (h : TB w og mb rg i m D L R rows X) (q : Nat) (hq : rows[q]? = some (b, t, M)) (N : List Value) : TB w og mb rg i m D L R (rows.set q (b, t, N)) (X.setRow b N.toArray) :=
  h.other q hq (setRow_heap _ _ _ _ _ _ (h.rs.at q hq)) (below_setRow h.bel (h.rs.lowAt q hq) _) (by simp) (fun j _ hj => by simp [World.setRow, Array.getElem?_modify, Ne.symm hj])
theorem TB.pask {f : Nat} {args : Array Value} {v : Value} (h : TB w og mb rg i m D L R rows X)
    (hc : ∀ S dv ov, R5.PO w.heap.size og mb S X (prG i m D L) dv ov → Calls Tryz.prog f args X fun e Y => PR w.heap.size og mb S X (prG i m D L') dv v e Y) :
    Calls Tryz.prog f args X fun e Y => e = .returned v ∧ TB w og mb rg i m D L' R rows Y := by
  obtain ⟨S, dv, ov, T, dr, lv, lds, h1, h2, h3, h4, h5⟩ := h.ex
  refine (hc S dv ov h1).mono ?_
  rintro e Y ⟨rfl, hf, ov', hp⟩
  have hs := hf.size
  have hs0 := h.bel.size
  have hbY : Below w.heap.size w Y := ⟨hf.os.trans h.bel.os, hf.tape.trans h.bel.tape, hf.output.trans h.bel.output, Nat.le_trans hs0 hs, fun k hk => (hf.block k (by omega) (fun hS => by have := h1.low k hS; omega)).trans (h.bel.block k hk)⟩
  refine ⟨rfl, ⟨_, dv, ov', T, dr, lv, lds, hp, h2.keep hs (fun k hk hT => hf.block k hk (fun hS => hT.elim (h3 k hS) (fun hl => by have := h1.low k hS; omega))), fun k hS hT => hS.elim (fun hS => h3 k hS hT) (fun hg => by have := h2.top k hT; omega), h4, fun r hr => ?_⟩, ⟨hbY, h.rs.low, h.rs.nd, fun r hr => (hf.block _ (R5.row_lt (h.rs.row r hr)) (h5 r hr).1).trans (h.rs.row r hr)⟩⟩
  have hl := R5.row_lt (h.rs.row r hr)
  exact ⟨fun hS => hS.elim (h5 r hr).1 (fun hg => by omega), (h5 r hr).2⟩
theorem TB.rask {f : Nat} {args : Array Value} (h : TB w og mb rg i m D L R rows X)
    (hc : ∀ T dr lv lds, R5.OR w.heap.size rg T X (rrG i m D R) dr lv lds 45 → Calls Tryz.prog f args X fun e Y => R5.QEnd w.heap.size rg T X (A, rrG i m D R') dr 45 e Y) :
    Calls Tryz.prog f args X fun e Y => e = .returned (.agg (A.map B8).toArray) ∧ TB w og mb rg i m D L R' rows Y := by
  obtain ⟨S, dv, ov, T, dr, lv, lds, h1, h2, h3, h4, h5⟩ := h.ex
  refine (hc T dr lv lds h2).mono ?_
  rintro e Y ⟨rfl, hf, lv', lds', hp⟩
  have hs := hf.size
  have hs0 := h.bel.size
  have hbY : Below w.heap.size w Y := ⟨hf.os.trans h.bel.os, hf.tape.trans h.bel.tape, hf.output.trans h.bel.output, Nat.le_trans hs0 hs, fun k hk => (hf.block k (by omega) (fun hS => by have := h2.low k hS; omega)).trans (h.bel.block k hk)⟩
  refine ⟨rfl, ⟨S, dv, ov, _, dr, lv', lds', h1.keep hs (fun k hk hS => hf.block k hk (fun hT => hS.elim (fun hS => h3 k hS hT) (fun e => h4 k e hT))), hp, fun k hS hT => hT.elim (h3 k hS) (fun hg => by have := h1.top k hS; omega), fun k e hT => hT.elim (h4 k e) (fun hg => by have := (h1.dro k e).2; omega), fun r hr => ?_⟩, ⟨hbY, h.rs.low, h.rs.nd, fun r hr => (hf.block _ (R5.row_lt (h.rs.row r hr)) (h5 r hr).2.1).trans (h.rs.row r hr)⟩⟩
  have hl := R5.row_lt (h.rs.row r hr)
  exact ⟨(h5 r hr).1, fun hT => hT.elim (h5 r hr).2.1 (fun hg => by omega), (h5 r hr).2.2⟩
end
end Go.Proofs.YtbmmibmfjhehhaaGreat.BC
