/- OracleAgain: what its walk uses. -/
import Derived.Test.YtefhjjjjbkkedaaGreatTJ
import Derived.Test.YtefhjjjjbkkedaaGreatQP
import Derived.Test.YtefhjjjjbkkedaaGreatSE
import Derived.Test.YtefhjjjjbkkedaaGreatQZ
set_option linter.unusedVariables false
set_option linter.unusedSimpArgs false
namespace Go.Proofs.YtefhjjjjbkkedaaGreat.R5
open scoped Classical
open Go.RowKit

theorem much_le2 {ls : List Ak} (h : muchB ls = false) : ls.length ≤ 40 ∧ ∀ (k : Nat) (a : Ak), ls[k]? = some a → a.q.data.length ≤ 300 := by
  unfold muchB at h
  rw [Bool.or_eq_false_iff] at h
  refine ⟨by have := of_decide_eq_false h.2; omega, fun k a ha => ?_⟩
  have h1 := h.1
  rw [List.any_eq_false] at h1
  have := h1 a (List.mem_of_getElem? ha)
  simp at this
  omega
/-- An ask that came in. -/
structure AkIn (w : World) (p : Option Addr) (k : Nat) (a : Ak) (g o : Nat) (pd : Option Addr) (cd : Nat) : Prop where
  ptr : p = some ⟨g, o, none⟩
  row : w.rangeAt g (o + k * 37) (akL a (.slice pd a.q.data.length cd))
  ok : kOk a.q
  dl : a.q.data.length ≤ 300
  hb : HB w (.slice pd a.q.data.length cd) a.q.data
theorem akIn {w : World} {p : Option Addr} {N cap : Nat} {ls : List Ak} (h : HAs w (.slice p N cap) ls) (hm : muchB ls = false) : ∀ (k : Nat) (a : Ak), ls[k]? = some a → ∃ g o pd cd, AkIn w p k a g o pd cd := by
  intro k a ha
  obtain ⟨p', cap', e, hr⟩ := h
  simp only [Value.slice.injEq] at e
  obtain ⟨g, o, dv, e1, h1, h2, h3, h4, h5, h6, h7⟩ := hr k a ha
  obtain ⟨pd, cd, hdv, _⟩ := hb_cells h7
  subst hdv
  have hl := (much_le2 hm).2 k a ha
  exact ⟨g, o, pd, cd, e.1.trans e1, h1, ⟨h2, h3, h4, by omega⟩, hl, h7⟩
theorem has_len {w : World} {p : Option Addr} {N cap : Nat} {ls : List Ak} (h : HAs w (.slice p N cap) ls) : N = ls.length := by
  obtain ⟨p', cap', e, _⟩ := h
  simp only [Value.slice.injEq] at e
  exact e.2.1
/-- The log behind all asks. -/
def runL (m : List UInt8) (D : List (List UInt8)) (L : List (Qn × List UInt8)) (ls : List Ak) : List (Qn × List UInt8) := ls.foldl (oneL m D) L
theorem runL_len (m : List UInt8) (D : List (List UInt8)) : ∀ (ls : List Ak) (L : List (Qn × List UInt8)), (runL m D L ls).length ≤ L.length + 32 * ls.length
  | [], L => by unfold runL; simp
  | a :: ls, L => by
    have h1 := oneL_len m D L a
    have h2 := runL_len m D ls (oneL m D L a)
    show (runL m D (oneL m D L a) ls).length ≤ _
    rw [List.length_cons]
    omega
theorem runL_snoc (m : List UInt8) (D : List (List UInt8)) (L : List (Qn × List UInt8)) (ls : List Ak) (k : Nat) (a : Ak) (ha : ls[k]? = some a) : runL m D L (ls.take (k + 1)) = oneL m D (runL m D L (ls.take k)) a := by
  have hk : k < ls.length := (List.getElem?_eq_some_iff.1 ha).1
  have he : ls[k] = a := (List.getElem?_eq_some_iff.1 ha).2
  unfold runL
  rw [List.take_succ_eq_append_getElem hk, List.foldl_append, he]
  rfl
theorem runL_take (m : List UInt8) (D : List (List UInt8)) (L : List (Qn × List UInt8)) (ls : List Ak) (k : Nat) (h : ls.length ≤ 40) (hL : L.length ≤ 2000) : (runL m D L (ls.take k)).length < 800000 := by
  have := runL_len m D (ls.take k) L
  rw [List.length_take] at this
  omega
/-- All that was asked may be asked. -/
def allMay (L : List (Qn × List UInt8)) : Prop := ∀ e ∈ L, mayQ e.1 = true
theorem nx_may {D : List (List UInt8)} {L : List (Qn × List UInt8)} {q : Qn} (h : allMay L) (hq : mayQ q = true) : allMay (nx D L q).2 := by
  unfold nx
  cases fndA q L with
  | some A => exact h
  | none =>
    intro e he
    rcases List.mem_append.1 he with he | he
    · exact h e he
    · rw [List.mem_singleton] at he; rw [he]; exact hq
theorem sx_may {D : List (List UInt8)} {q : Qn} {L : List (Qn × List UInt8)} (h : allMay L) (hq : ∀ k, mayQ (sQ q k) = true) : ∀ k, allMay (sx D q L k).2
  | 0 => h
  | k + 1 => nx_may (sx_may h hq k) (hq k)
theorem oneQ_may {D : List (List UInt8)} {L : List (Qn × List UInt8)} {q : Qn} (h : allMay L) : allMay (oneQ D L q) := by
  unfold oneQ
  split
  · rename_i hok
    exact nx_may h (by unfold askB at hok; rw [Bool.and_eq_true] at hok; exact hok.1)
  · exact h
theorem oneL_may {m : List UInt8} {D : List (List UInt8)} {L : List (Qn × List UInt8)} {a : Ak} (h : allMay L) : allMay (oneL m D L a) := by
  unfold oneL
  split
  · exact oneQ_may h
  · split
    · split
      · rename_i hs
        have h' : a.q.kind = 4 ∧ 1 ≤ a.q.dom ∧ a.q.dom ≤ 16 ∧ 0 ≤ a.n ∧ a.n ≤ 1024 := by unfold strB at hs; exact of_decide_eq_true hs
        refine sx_may h (fun k => ?_) _
        unfold mayQ
        refine decide_eq_true ⟨?_, ?_, h'.2.1, h'.2.2.1, fun h1 => ?_⟩
        · show 1 ≤ a.q.kind; omega
        · show a.q.kind ≤ 4; omega
        · have h2 : a.q.kind = 1 := h1
          omega
      · exact h
    · split
      · exact oneQ_may h
      · split
        · exact oneQ_may h
        · split
          · exact oneQ_may h
          · exact h
theorem runL_may {m : List UInt8} {D : List (List UInt8)} : ∀ {ls : List Ak} {L : List (Qn × List UInt8)}, allMay L → allMay (runL m D L ls)
  | [], L, h => h
  | a :: ls, L, h => runL_may (ls := ls) (oneL_may h)

/-- Both oracles at the beginning. -/
theorem MM.start {w X : World} {og mb : Nat} {m : List UInt8} {D : List (List UInt8)} {dv v0 : Value} (hpo : PO w.heap.size og mb (fun k => k = og ∨ k = mb) X ⟨true, m, D, []⟩ dv (.slice none 0 0)) (hb : Below w.heap.size w X) (hD : HDs w v0 D) :
    MM w (X.heap.size + 1) (X.heap.size + 1) og mb X.heap.size m D [] [] (fun _ => False) w (X.alloc (.cells (oL true m v0 0 (.slice none 0 0)).toArray 33 (0, 0))) := by
  have hbX : Below X.heap.size X (X.alloc (.cells (oL true m v0 0 (.slice none 0 0)).toArray 33 (0, 0))) := (Below.refl _ _).alloc (Nat.le_refl _) _
  have hs := hb.size
  have hs2 : (X.alloc (.cells (oL true m v0 0 (.slice none 0 0)).toArray 33 (0, 0))).heap.size = X.heap.size + 1 := by simp
  refine ⟨⟨_, dv, _, fun k => k = X.heap.size, v0, .slice none 0 0, [], hpo.below hbX, ⟨hpo.ml, heap_alloc_new _ _, hds_below hD (hb.trans (hbX.mono hs)), fun hne k e => ?_, ⟨fun e he => by simp [rr] at he, rfl, World.ownsRow_nil _ _ _ _, fun i e d he => by simp [rr] at he⟩, rfl, fun k e => by simp [Value.ownBlock] at e, fun d hd => by simp at hd, fun k hk => by rw [hk]; exact hs, fun k hk => by rw [hk, hs2]; omega⟩, fun k hS hT => ?_, fun k e => ?_, fun k hk => hk.elim, fun k hk => by rw [hk]; omega⟩, hb.trans (hbX.mono hs), ⟨by omega, by rw [hs2]; omega⟩, fun k hk => hk.elim⟩
  · have hne : D ≠ [] := hne
    obtain ⟨h0, p, cap, h1, h2⟩ := hD
    obtain ⟨b, o, hp, hr⟩ := h2 0 (List.length_pos_iff.2 hne)
    have hbk : b = k := by rw [h1, hp] at e; simpa [Value.ownBlock] using e
    have hl : (D.getD 0 []).length = 32 := by
      rw [List.getD_eq_getElem?_getD, List.getElem?_eq_getElem (List.length_pos_iff.2 hne)]
      exact h0 _ (List.getElem_mem _)
    have := block_lt (hr 0 (B8 ((D.getD 0 [])[0]'(by omega))) (by rw [List.getElem?_map, List.getElem?_eq_getElem (by omega)]; rfl))
    rw [← hbk]; exact this
  · have := hpo.top k hS; omega
  · have h1 := (hpo.dro k e).2
    exact ⟨fun hT => by rw [hT] at h1; omega, by omega⟩

/-- The copy, while its blocks are as they are. -/
def Cpy (og : Nat) (m : List UInt8) (D : List (List UInt8)) (L : List (Qn × List UInt8)) (I : Nat → Prop) (K : World) : Prop := ∀ Z : World, K.heap.size ≤ Z.heap.size → (∀ k, I k → Z.heap[k]? = K.heap[k]?) → ∃ B mb S dv ov, PO B og mb S Z (pr m D L) dv ov
/-- A log that was told, while its blocks are as they are. -/
def Was (v : Value) (L : List (Qn × List UInt8)) (I : Nat → Prop) (K : World) : Prop := ∀ Z : World, K.heap.size ≤ Z.heap.size → (∀ k, I k → Z.heap[k]? = K.heap[k]?) → HLr Z v L
section
variable {w K X : World} {n tn og mb rg : Nat} {m : List UInt8} {D : List (List UInt8)} {L R : List (Qn × List UInt8)} {I : Nat → Prop}
theorem MM.rebase (h : MM w n tn og mb rg m D L R I K X) : MM w n X.heap.size og mb rg m D L R I X X := by
  obtain ⟨S, dv, ov, T, dr, lv, lds, h1, h2, h3, h4, h5, h6⟩ := h.ex
  exact ⟨⟨S, dv, ov, T, dr, lv, lds, h1, h2, h3, h4, h5, h2.top⟩, h.bel, h.low, fun k _ => rfl⟩
theorem MM.less {I' : Nat → Prop} (h : MM w n tn og mb rg m D L R I K X) (hI : ∀ k, I' k → I k) : MM w n tn og mb rg m D L R I' K X := h.back (fun k hk => ⟨hI k hk, rfl⟩)
theorem MM.copy (h : MM w n tn og mb rg m D L R I K X) (hll : L.length < 1000000) : Calls Tryz.prog 9 #[.pointer (some ⟨og, 0, none⟩)] X fun e Y => ∃ og' I', e = .returned (.pointer (some ⟨og', 0, none⟩)) ∧ MM w n Y.heap.size og mb rg m D L R I' Y Y ∧ Cpy og' m D L I' Y ∧ I' (Y.heap.size - 1) ∧ 0 < Y.heap.size := by
  obtain ⟨S, dv, ov, T, dr, lv, lds, h1, h2, h3, h4, h5, h6⟩ := h.ex
  refine (PS.pcopy_any h1 hll).mono ?_
  rintro e Y ⟨og', mb', ov', rfl, hp, hb⟩
  have hs := hb.size
  refine ⟨og', fun k => (X.heap.size ≤ k ∧ k < Y.heap.size) ∨ dv.ownBlock = some k, rfl, ⟨⟨S, dv, ov, T, dr, lv, lds, h1.below hb, h2.keep hs (fun k hk _ => hb.block k hk), h3, h4, fun k hk => ?_, fun k hk => Nat.lt_of_lt_of_le (h2.top k hk) hs⟩, h.bel.trans (hb.mono h.bel.size), ⟨h.low.1, Nat.le_trans h.low.2 hs⟩, fun k _ => rfl⟩, fun Z hZ hk => ⟨_, mb', _, dv, ov', hp.keep hZ (fun k _ hS => hk k (hS.imp id id))⟩, .inl (by have h7 := hp.sog; omega), by have h7 := hp.sog; omega⟩
  rcases hk with hk | hk
  · exact ⟨fun hS => by have := h1.top k hS; omega, fun hT => by have := h2.top k hT; omega, hk.2⟩
  · exact ⟨(h1.dro k hk).1, (h4 k hk).1, Nat.lt_of_lt_of_le (h1.dro k hk).2 hs⟩
theorem MM.log (h : MM w n tn og mb rg m D L R I K X) (hll : L.length < 1000000) : Calls Tryz.prog 10 #[.pointer (some ⟨og, 0, none⟩)] X fun e Y => LogEnd X L e Y := by
  obtain ⟨S, dv, ov, T, dr, lv, lds, h1, h2, h3, h4, h5, h6⟩ := h.ex
  exact plog_any h1 hll
theorem MM.used (h : MM w n tn og mb rg m D L R I K X) : Calls Tryz.prog 11 #[.pointer (some ⟨og, 0, none⟩)] X fun e Y => e = .returned (.int .i64 L.length) ∧ Y = X := by
  obtain ⟨S, dv, ov, T, dr, lv, lds, h1, h2, h3, h4, h5, h6⟩ := h.ex
  exact used_any h1 rfl
/-- The document's log. -/
theorem MM.rlog (h : MM w n tn og mb rg m D L R I K X) : ∃ lv, X.cell? ⟨rg, 35, none⟩ = some lv ∧ HLr X lv R ∧ rg < X.heap.size := by
  obtain ⟨S, dv, ov, T, dr, lv, lds, h1, h2, h3, h4, h5, h6⟩ := h.ex
  exact ⟨lv, by rw [cell_of_row _ _ 35 _ _ _ h2.row]; exact oL_35 _ _ _ _ _ h2.ml, hlr_of h2.log, row_lt h2.row⟩
theorem MM.lok (h : MM w n tn og mb rg m D L R I K X) : lOk L := by
  obtain ⟨S, dv, ov, T, dr, lv, lds, h1, h2, h3, h4, h5, h6⟩ := h.ex
  exact h1.ok
end
theorem Cpy.more {og : Nat} {m : List UInt8} {D : List (List UInt8)} {L : List (Qn × List UInt8)} {I I' : Nat → Prop} {K K' : World} (h : Cpy og m D L I K) (hs : K.heap.size ≤ K'.heap.size) (hI : ∀ k, I k → I' k ∧ K'.heap[k]? = K.heap[k]?) : Cpy og m D L I' K' := fun Z hZ hk => h Z (Nat.le_trans hs hZ) (fun k hi => (hk k (hI k hi).1).trans (hI k hi).2)
theorem cpy_used {og : Nat} {m : List UInt8} {D : List (List UInt8)} {L : List (Qn × List UInt8)} {I : Nat → Prop} {K X : World} (h : Cpy og m D L I K) (hs : K.heap.size ≤ X.heap.size) (hI : ∀ k, I k → X.heap[k]? = K.heap[k]?) : Calls Tryz.prog 11 #[.pointer (some ⟨og, 0, none⟩)] X fun e Y => e = .returned (.int .i64 L.length) ∧ Y = X := by
  obtain ⟨B, mb, S, dv, ov, hp⟩ := h X hs hI
  exact used_any hp rfl
theorem cpy_log {og : Nat} {m : List UInt8} {D : List (List UInt8)} {L : List (Qn × List UInt8)} {I : Nat → Prop} {K X : World} (h : Cpy og m D L I K) (hs : K.heap.size ≤ X.heap.size) (hI : ∀ k, I k → X.heap[k]? = K.heap[k]?) (hll : L.length < 1000000) : Calls Tryz.prog 10 #[.pointer (some ⟨og, 0, none⟩)] X fun e Y => LogEnd X L e Y := by
  obtain ⟨B, mb, S, dv, ov, hp⟩ := h X hs hI
  exact plog_any hp hll
theorem was_of {X Y : World} {v : Value} {L : List (Qn × List UInt8)} {ds : List Value} (h : LO X.heap.size Y v L ds) : Was v L (fun k => X.heap.size ≤ k ∧ k < Y.heap.size) Y := fun Z hZ hk => hlr_of (LO.hlg (h.keep hZ (fun k h1 h2 => hk k ⟨h1, h2⟩)))

/-- While the bytes of block b are changed, from the j-th on they are as they were. -/
structure INN (W : World) (b : Nat) (l : List UInt8) (j : Nat) (X : World) : Prop where
  fr : Fr (fun k => k = b) W X
  row : ∃ cs, X.heap[b]? = some (.cells cs 5 (cs.size, cs.size + 1)) ∧ l.length ≤ cs.size ∧ ∀ i, j ≤ i → i < l.length → cs[i]? = some (.int .u8 ((l.getD i 0).toNat : Int))
theorem INN.start {W : World} {b cap : Nat} {l : List UInt8} (h : HBf W b (.slice (some ⟨b, 0, none⟩) l.length cap) l) : INN W b l 0 W := by
  obtain ⟨h1, h2, cs, h3⟩ := h
  refine ⟨Fr.refl _ _, cs, h3, ?_, fun i _ hi => ?_⟩
  · rcases h1 with ⟨e, _⟩ | ⟨b', o, c, e, h4, h5, h6⟩
    · simp [e]
    · simp only [Value.slice.injEq, Option.some.injEq, Addr.mk.injEq] at e
      obtain ⟨⟨rfl, rfl, _⟩, _, _⟩ := e
      rcases Nat.eq_zero_or_pos l.length with h0 | h0
      · omega
      · have := h6 (l.length - 1) (by omega)
        rw [cell_of_row _ _ _ _ _ _ h3] at this
        have := (Array.getElem?_eq_some_iff.1 this).1
        omega
  · rcases h1 with ⟨e, _⟩ | ⟨b', o, c, e, h4, h5, h6⟩
    · simp [e] at hi
    · simp only [Value.slice.injEq, Option.some.injEq, Addr.mk.injEq] at e
      obtain ⟨⟨rfl, rfl, _⟩, _, _⟩ := e
      have := h6 i hi
      rw [cell_of_row _ _ _ _ _ _ h3, Nat.zero_add] at this
      exact this
theorem INN.cell {W X : World} {b j : Nat} {l : List UInt8} (h : INN W b l j X) (hj : j < l.length) : X.cell? ⟨b, j, none⟩ = some (.int .u8 ((l.getD j 0).toNat : Int)) ∧ X.frozen? ⟨b, j, none⟩ = false := by
  obtain ⟨cs, h1, h2, h3⟩ := h.row
  refine ⟨by rw [cell_of_row _ _ _ _ _ _ h1]; exact h3 j (Nat.le_refl _) hj, ?_⟩
  unfold World.frozen?
  rw [h1]
  simp
  omega
theorem INN.set {W X : World} {b j : Nat} {l : List UInt8} (h : INN W b l j X) (u : Value) : INN W b l (j + 1) (X.setCell ⟨b, j, none⟩ u) := by
  obtain ⟨cs, h1, h2, h3⟩ := h.row
  refine ⟨h.fr.setCell b j u (.inl rfl), cs.setIfInBounds j u, ?_, by simpa using h2, fun i hi hl => ?_⟩
  · simp [World.setCell, Array.getElem?_modify, h1]
  · rw [Array.getElem?_setIfInBounds_ne (by omega)]
    exact h3 i (by omega) hl
theorem neq_same (w : World) (xs : List UInt8) (hx : xs.length = 32) : (binOp .neq 29 (.agg (xs.map B8).toArray) (.agg (xs.map B8).toArray)).run Tryz.prog w = .ok (.bool false) w := by
  have := run_equalIn_bytes (P := Tryz.prog) w 9998 29 5 32 Tryz.underlying29 Tryz.underlying5 size_u8 xs xs hx hx
  rw [show (xs == xs) = true by simp] at this
  have h2 : (Op.equalIn 10000 29 (.agg (xs.map B8).toArray) (.agg (xs.map B8).toArray)).run Tryz.prog w = .ok true w := this
  rw [run_neq_struct, h2]
  rfl
/-- What the region with an answer reads. -/
structure AnsR (c g o : Nat) (AL : List Value) (X : World) : Prop where
  x : X.rangeAt c 0 AL
  a : X.rangeAt g o AL
theorem nx_found {D : List (List UInt8)} {L : List (Qn × List UInt8)} {e : Qn × List UInt8} {k : Nat} (hL : lOk L) (he : L[k]? = some e) : nx D L e.1 = (e.2, L) := by
  unfold nx
  rw [fnd_at hL.once he]
/-- What was told, of which the first i have been changed. -/
structure AG (w : World) (n og mb rg : Nat) (m : List UInt8) (D : List (List UInt8)) (L : List (Qn × List UInt8)) (Y0 Z0 : World) (v : Value) (ds : List Value) (i : Nat) (X : World) : Prop where
  mm : MM w n X.heap.size og mb rg m D L L (fun k => Y0.heap.size ≤ k ∧ k < Z0.heap.size) X X
  kp : ∀ k, (v.ownBlock = some k ∨ ∃ j d, i ≤ j ∧ ds[j]? = some d ∧ d.ownBlock = some k) → X.heap[k]? = Z0.heap[k]?
section
variable {w X Y Y0 Z0 : World} {n og mb rg : Nat} {m : List UInt8} {D : List (List UInt8)} {L : List (Qn × List UInt8)} {v : Value} {ds : List Value} {i : Nat}
theorem ag_in (hlo : LO Y0.heap.size Z0 v L ds) {k : Nat} (hk : v.ownBlock = some k ∨ ∃ j d, i ≤ j ∧ ds[j]? = some d ∧ d.ownBlock = some k) : Y0.heap.size ≤ k ∧ k < Z0.heap.size := by
  rcases hk with hk | ⟨j, d, _, hd, hk⟩
  · exact hlo.own.lt k hk
  · have hj : j < L.length := by rw [← hlo.len]; exact (List.getElem?_eq_some_iff.1 hd).1
    obtain ⟨b, cap, e1, e2, e3, _⟩ := hlo.dat j L[j] d (List.getElem?_eq_getElem hj) hd
    have : b = k := by rw [e1] at hk; simpa [Value.ownBlock] using hk
    omega
theorem AG.of_mm {tn : Nat} (hlo : LO Y0.heap.size Z0 v L ds) (h : AG w n og mb rg m D L Y0 Z0 v ds i X) (hM : MM w n tn og mb rg m D L L (fun k => Y0.heap.size ≤ k ∧ k < Z0.heap.size) X Y) : AG w n og mb rg m D L Y0 Z0 v ds i Y :=
  ⟨hM.rebase, fun k hk => (hM.same k (ag_in hlo hk)).trans (h.kp k hk)⟩
theorem AG.next {b : Nat} {d : Value} (hlo : LO Y0.heap.size Z0 v L ds) (hn : n ≤ Y0.heap.size) (h : AG w n og mb rg m D L Y0 Z0 v ds i X) (hd : ds[i]? = some d) (hb : d.ownBlock = some b) (hf : Fr (fun k => k = b) X Y) : AG w n og mb rg m D L Y0 Z0 v ds (i + 1) Y := by
  have hbI := ag_in (i := i) hlo (.inr ⟨i, d, Nat.le_refl _, hd, hb⟩)
  have hi : i < L.length := by rw [← hlo.len]; exact (List.getElem?_eq_some_iff.1 hd).1
  refine ⟨((h.mm.upd ⟨hf.os, hf.tape, hf.output, hf.size, fun k hk hn' => hf.block k hk (fun e => hn' ⟨by omega, by rw [e]; exact hbI⟩)⟩).less (fun k hk => .inl hk)).rebase, fun k hk => ?_⟩
  have hkI := ag_in hlo hk
  have hkb : k ≠ b := by
    intro e
    subst e
    rcases hk with hk | ⟨j, d', hj, hd', hk⟩
    · obtain ⟨b', cap, e1, _, _, e4, _⟩ := hlo.dat i L[i] d (List.getElem?_eq_getElem hi) hd
      rw [e1] at hb
      have : b' = k := by simpa [Value.ownBlock] using hb
      rw [this] at e4
      exact e4 hk
    · exact hlo.apart i j d d' k (by omega) hd hd' hb hk
  refine (hf.block k (h.mm.ilt hkI) hkb).trans (h.kp k ?_)
  rcases hk with hk | ⟨j, d', hj, hd', hk⟩
  · exact .inl hk
  · exact .inr ⟨j, d', by omega, hd', hk⟩
theorem AG.row (hlo : LO Y0.heap.size Z0 v L ds) (h : AG w n og mb rg m D L Y0 Z0 v ds i X) {j : Nat} {e : Qn × List UInt8} {d : Value} (he : L[j]? = some e) (hd : ds[j]? = some d) : ∃ g cap, v = .slice (some ⟨g, 0, none⟩) L.length cap ∧ X.rangeAt g (j * 67) (qL e.1 d) ∧ X.rangeAt g (j * 67 + 35) (e.2.map B8) := by
  obtain ⟨p, cap, e1, hr⟩ := hlg_form hlo.hlg
  obtain ⟨g, hp, _, h1, h2⟩ := hr j e d he hd
  have hg : X.heap[g]? = Z0.heap[g]? := h.kp g (.inl (by rw [e1, hp]; rfl))
  exact ⟨g, cap, by rw [e1, hp], fun q u hu => (World.cell?_of_block (a := ⟨g, j * 67 + q, none⟩) hg).trans (h1 q u hu), fun q u hu => (World.cell?_of_block (a := ⟨g, j * 67 + 35 + q, none⟩) hg).trans (h2 q u hu)⟩
theorem AG.dat (hlo : LO Y0.heap.size Z0 v L ds) (h : AG w n og mb rg m D L Y0 Z0 v ds i X) {e : Qn × List UInt8} {d : Value} (he : L[i]? = some e) (hd : ds[i]? = some d) : ∃ b cap, d = .slice (some ⟨b, 0, none⟩) e.1.data.length cap ∧ v.ownBlock ≠ some b ∧ HBf X b d e.1.data ∧ Y0.heap.size ≤ b := by
  obtain ⟨b, cap, e1, e2, e3, e4, e5⟩ := hlo.dat i e d he hd
  exact ⟨b, cap, e1, e4, hbf_keep e5 (h.kp b (.inr ⟨i, d, Nat.le_refl _, hd, by rw [e1]; rfl⟩)), e2⟩
end
end Go.Proofs.YtefhjjjjbkkedaaGreat.R5
