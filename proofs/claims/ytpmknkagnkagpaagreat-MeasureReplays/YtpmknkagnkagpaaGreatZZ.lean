/- measure: the program's oracle and the document's side by side, in either mode. -/
import Derived.Test.YtpmknkagnkagpaaGreatZP
import Derived.Test.YtpmknkagnkagpaaGreatZY
import Derived.Test.YtpmknkagnkagpaaGreatWy
set_option linter.unusedVariables false
set_option linter.unusedSimpArgs false
namespace Go.Proofs.YtpmknkagnkagpaaGreat.ZC
open Go.RowKit

def nx2 (i : Bool) (D : List (List UInt8)) (L : Lg) (q : R5.Qn) : List UInt8 × Lg :=
  match R5.fndA q L with
  | some A => (A, L)
  | none => ((if i then R5.drawD D L.length else R5.compD q), L ++ [(q, (if i then R5.drawD D L.length else R5.compD q))])
def prG (i : Bool) (m : List UInt8) (D : List (List UInt8)) (L : Lg) : R5.Pra := ⟨i, m, D, L⟩
def rrG (i : Bool) (m : List UInt8) (D : List (List UInt8)) (L : Lg) : R5.Ora := ⟨i, m, D, if i then L.length else 0, L⟩
theorem nxP_nx2 (i : Bool) (m : List UInt8) (D : List (List UInt8)) (L : Lg) (q : R5.Qn) : nxP (prG i m D L) q = ((nx2 i D L q).1, prG i m D (nx2 i D L q).2) := by
  unfold nxP R5.pAsk nx2 prG frs
  show (match R5.fndA q L with | some A => _ | none => _) = _
  cases R5.fndA q L <;> rfl
theorem rNx_nx2 (i : Bool) (m : List UInt8) (D : List (List UInt8)) (L : Lg) (q : R5.Qn) : R5.rNx (rrG i m D L) q = ((nx2 i D L q).1, rrG i m D (nx2 i D L q).2) := by
  unfold nx2 rrG R5.rNx
  cases i with
  | true =>
    rw [if_pos rfl]
    unfold R5.askO
    show (match R5.fndA q L with | some A => _ | none => _) = _
    cases R5.fndA q L <;> simp
  | false =>
    rw [if_neg (show ¬ (false = true) by decide)]
    unfold R5.askC
    show (match R5.fndA q L with | some A => _ | none => _) = _
    cases R5.fndA q L <;> simp
theorem nx2_len (i : Bool) (D : List (List UInt8)) (L : Lg) (q : R5.Qn) : (nx2 i D L q).2.length ≤ L.length + 1 := by
  unfold nx2
  cases R5.fndA q L with
  | some A => exact Nat.le_succ _
  | none => simp
theorem rrG_used (i : Bool) (m : List UInt8) (D : List (List UInt8)) (L : Lg) : (rrG i m D L).used ≤ L.length := by
  unfold rrG; cases i <;> simp
structure TW (w : World) (og mb rg : Nat) (i : Bool) (m : List UInt8) (D : List (List UInt8)) (L R : Lg) (rows : List (Nat × Array Value × TypeId)) (X : World) : Prop where
  ex : ∃ S dv ov T dr lv lds, R5.PO w.heap.size og mb S X (prG i m D L) dv ov ∧ R5.OR w.heap.size rg T X (rrG i m D R) dr lv lds 49 ∧ (∀ k, S k → ¬ T k) ∧ (∀ k, dv.ownBlock = some k → ¬ T k) ∧ Below w.heap.size w X ∧ ∀ r ∈ rows, X.heap[r.1]? = some (.cells r.2.1 r.2.2 (0, 0)) ∧ ¬ S r.1 ∧ ¬ T r.1
section
variable {w X Y : World} {og mb rg : Nat} {i : Bool} {m : List UInt8} {D : List (List UInt8)} {L L' R R' : Lg} {rows : List (Nat × Array Value × TypeId)} {A : List UInt8} {r : Rd}
theorem TW.bel (h : TW w og mb rg i m D L R rows X) : Below w.heap.size w X := by obtain ⟨_, _, _, _, _, _, _, _, _, _, _, h, _⟩ := h.ex; exact h
theorem TW.row (h : TW w og mb rg i m D L R rows X) {r : Nat × Array Value × TypeId} (hr : r ∈ rows) : X.heap[r.1]? = some (.cells r.2.1 r.2.2 (0, 0)) := by obtain ⟨_, _, _, _, _, _, _, _, _, _, _, _, h⟩ := h.ex; exact (h r hr).1
theorem TW.mc (h : TW w og mb rg i m D L R rows X) : X.cell? ⟨og, 35, none⟩ = some (.map (some mb)) := by obtain ⟨_, _, _, _, _, _, _, h, _, _, _, _, _⟩ := h.ex; exact h.cells.2.2.2.1
theorem TW.step (h : TW w og mb rg i m D L R rows X) (hb : Below X.heap.size X Y) : TW w og mb rg i m D L R rows Y := by
  obtain ⟨S, dv, ov, T, dr, lv, lds, h1, h2, h3, h4, h5, h6⟩ := h.ex
  exact .mk ⟨S, dv, ov, T, dr, lv, lds, h1.below hb, h2.keep hb.size (fun k hk _ => hb.block k hk), h3, h4, h5.trans (hb.mono h5.size), fun r hr => ⟨(hb.block _ (PC.row_lt (h6 r hr).1)).trans (h6 r hr).1, (h6 r hr).2⟩⟩
theorem TW.newrow (h : TW w og mb rg i m D L R rows X) (ZA NA : Array Value) (t : TypeId) : TW w og mb rg i m D L R ((X.heap.size, NA, t) :: rows) ((X.alloc (.cells ZA t (0, 0))).setRow X.heap.size NA) := by
  have hb : Below X.heap.size X ((X.alloc (.cells ZA t (0, 0))).setRow X.heap.size NA) := below_setRow ((Below.refl _ _).alloc (Nat.le_refl _) _) (Nat.le_refl _) _
  obtain ⟨S, dv, ov, T, dr, lv, lds, h1, h2, h3, h4, h5, h6⟩ := (h.step hb).ex
  obtain ⟨S, dv, ov, T, dr, lv, lds, h1, h2, h3, h4, h5, h6⟩ := h.ex
  refine .mk ⟨S, dv, ov, T, dr, lv, lds, h1.below hb, h2.keep hb.size (fun k hk _ => hb.block k hk), h3, h4, h5.trans (hb.mono h5.size), fun r hr => ?_⟩
  rcases List.mem_cons.1 hr with rfl | hr
  · exact ⟨setRow_heap _ _ _ _ _ _ (heap_alloc_new _ _), fun h => by have := h1.top _ h; simp at this, fun h => by have := h2.top _ h; simp at this⟩
  · exact ⟨(hb.block _ (PC.row_lt (h6 r hr).1)).trans (h6 r hr).1, (h6 r hr).2⟩
theorem TW.pcall {S T : Nat → Prop} {dv ov dr lv v : Value} {lds : List Value} {e : Ending} (h1 : R5.PO w.heap.size og mb S X (prG i m D L) dv ov) (h2 : R5.OR w.heap.size rg T X (rrG i m D R) dr lv lds 49) (h3 : ∀ k, S k → ¬ T k) (h4 : ∀ k, dv.ownBlock = some k → ¬ T k) (h5 : Below w.heap.size w X) (h6 : ∀ r ∈ rows, X.heap[r.1]? = some (.cells r.2.1 r.2.2 (0, 0)) ∧ ¬ S r.1 ∧ ¬ T r.1)
    (h : PR w.heap.size og mb S X (prG i m D L') dv v e Y) : e = .returned v ∧ TW w og mb rg i m D L' R rows Y := by
  obtain ⟨rfl, hf, ov', hp⟩ := h
  have hs := hf.size
  have hs0 := h5.size
  refine ⟨rfl, .mk ⟨_, dv, ov', T, dr, lv, lds, hp, h2.keep hs (fun k hk hT => hf.block k hk (fun hS => hT.elim (h3 k hS) (fun hl => by have := h1.low k hS; omega))), fun k hS hT => hS.elim (fun hS => h3 k hS hT) (fun hg => by have := h2.top k hT; omega), h4, ⟨hf.os.trans h5.os, hf.tape.trans h5.tape, hf.output.trans h5.output, Nat.le_trans hs0 hs, fun k hk => (hf.block k (by omega) (fun hS => by have := h1.low k hS; omega)).trans (h5.block k hk)⟩, fun r hr => ?_⟩⟩
  have hl := PC.row_lt (h6 r hr).1
  exact ⟨(hf.block _ hl (h6 r hr).2.1).trans (h6 r hr).1, fun hS => hS.elim (h6 r hr).2.1 (fun hg => by omega), (h6 r hr).2.2⟩
theorem TW.rcall {S T : Nat → Prop} {dv ov dr lv : Value} {lds : List Value} {e : Ending} (h1 : R5.PO w.heap.size og mb S X (prG i m D L) dv ov) (h2 : R5.OR w.heap.size rg T X (rrG i m D R) dr lv lds 49) (h3 : ∀ k, S k → ¬ T k) (h4 : ∀ k, dv.ownBlock = some k → ¬ T k) (h5 : Below w.heap.size w X) (h6 : ∀ r ∈ rows, X.heap[r.1]? = some (.cells r.2.1 r.2.2 (0, 0)) ∧ ¬ S r.1 ∧ ¬ T r.1)
    (h : R5.QEnd w.heap.size rg T X (A, rrG i m D R') dr 49 e Y) : e = .returned (.agg (A.map B8).toArray) ∧ TW w og mb rg i m D L R' rows Y := by
  obtain ⟨rfl, hf, lv', lds', hp⟩ := h
  have hs := hf.size
  have hs0 := h5.size
  refine ⟨rfl, .mk ⟨S, dv, ov, _, dr, lv', lds', h1.keep hs (fun k hk hS => hf.block k hk (fun hT => hS.elim (fun hS => h3 k hS hT) (fun e => h4 k e hT))), hp, fun k hS hT => hT.elim (h3 k hS) (fun hg => by have := h1.top k hS; omega), fun k e hT => hT.elim (h4 k e) (fun hg => by have := (h1.dro k e).2; omega), ⟨hf.os.trans h5.os, hf.tape.trans h5.tape, hf.output.trans h5.output, Nat.le_trans hs0 hs, fun k hk => (hf.block k (by omega) (fun hS => by have := h2.low k hS; omega)).trans (h5.block k hk)⟩, fun r hr => ?_⟩⟩
  have hl := PC.row_lt (h6 r hr).1
  exact ⟨(hf.block _ hl (h6 r hr).2.2).trans (h6 r hr).1, (h6 r hr).2.1, fun hS => hS.elim (h6 r hr).2.2 (fun hg => by omega)⟩
theorem TW.alen (h : TW w og mb rg i m D L R rows X) (q : R5.Qn) : (nx2 i D L q).1.length = 32 := by
  obtain ⟨S, dv, ov, T, dr, lv, lds, h1, h2, h3, h4, h5, h6⟩ := h.ex
  have := nxP_len h1 q
  rw [nxP_nx2] at this
  exact this
theorem TW.begin (h : TW w og mb rg i m D L R rows X) (hll : L.length < 1000000) (V : List UInt8) (n : Nat) (hV : V.length = 32) :
    Calls Tryz.prog 22 #[.pointer (some ⟨og, 0, none⟩), .agg (PC.rpL V n).toArray] X fun e Y => e = .returned (R5.okV (nx2 i D L (qOf Z0 (rec1 V))).1) ∧ TW w og mb rg i m D (nx2 i D L (qOf Z0 (rec1 V))).2 R rows Y := by
  have hA := h.alen (qOf Z0 (rec1 V))
  obtain ⟨S, dv, ov, T, dr, lv, lds, h1, h2, h3, h4, h5, h6⟩ := h.ex
  refine (begin_gen _ V n X _ hV (mc_ok h5.size hll h1 z0_len (rec1_ok hV) rec1_may hA (nxP_nx2 i m D L _))).mono ?_
  intro e Y hE
  exact TW.pcall h1 h2 h3 h4 h5 h6 (gend_ok h5.size h1 hE)
theorem TW.data (h : TW w og mb rg i m D L R rows X) (hll : L.length < 1000000) (M : List UInt8) (hm : M.length = 32) (pg : Int) (g : List UInt8) (hg : g.length = 128) (hp : 0 ≤ pg ∧ pg < 128) :
    Calls Tryz.prog 23 #[.pointer (some ⟨og, 0, none⟩), .agg (M.map B8).toArray, .int .i64 pg, .agg (g.map B8).toArray] X fun e Y => e = .returned (R5.okV (nx2 i D L (qOf M (rec2 pg g))).1) ∧ TW w og mb rg i m D (nx2 i D L (qOf M (rec2 pg g))).2 R rows Y := by
  have hA := h.alen (qOf M (rec2 pg g))
  obtain ⟨S, dv, ov, T, dr, lv, lds, h1, h2, h3, h4, h5, h6⟩ := h.ex
  refine (data_gen _ M pg g X _ hm hg (mc_ok h5.size hll h1 hm (rec2_ok pg hg) (by rw [rec2_may]; exact decide_eq_true hp) hA (nxP_nx2 i m D L _))).mono ?_
  intro e Y hE
  exact TW.pcall h1 h2 h3 h4 h5 h6 (gend_ok h5.size h1 hE)
theorem TW.dataBad (h : TW w og mb rg i m D L R rows X) (M : List UInt8) (hm : M.length = 32) (pg : Int) (g : List UInt8) (hg : g.length = 128) (hp : ¬ (0 ≤ pg ∧ pg < 128)) :
    Calls Tryz.prog 23 #[.pointer (some ⟨og, 0, none⟩), .agg (M.map B8).toArray, .int .i64 pg, .agg (g.map B8).toArray] X fun e Y => e = .returned (R5.errV 2) ∧ TW w og mb rg i m D L R rows Y := by
  refine (data_gen _ M pg g X _ hm hg (mc_bad hm (rec2_ok pg hg) (by rw [rec2_may]; exact decide_eq_false hp) h.mc)).mono ?_
  intro e Y hE
  exact ⟨(gend_err hE).1, h.step (gend_err hE).2⟩
theorem TW.log (h : TW w og mb rg i m D L R rows X) (hll : L.length < 1000000) :
    Calls Tryz.prog 11 #[.pointer (some ⟨og, 0, none⟩)] X fun e Y => ∃ v, e = .returned v ∧ R5.HLr Y v L ∧ Below X.heap.size X Y := by
  obtain ⟨S, dv, ov, T, dr, lv, lds, h1, h2, h3, h4, h5, h6⟩ := h.ex
  refine (R5.plog_any h1 hll).mono ?_
  rintro e Y ⟨v, ds, rfl, hL, hb⟩
  exact ⟨v, rfl, R5.hlr_of hL.hlg, hb⟩
theorem TW.rlog (h : TW w og mb rg i m D L R rows X) : ∃ lv, X.cell? ⟨rg, 35, none⟩ = some lv ∧ R5.HLr X lv R := by
  obtain ⟨S, dv, ov, T, dr, lv, lds, h1, h2, h3, h4, h5, h6⟩ := h.ex
  refine ⟨lv, ?_, R5.hlr_of h2.log⟩
  rw [cell_of_row _ _ 35 _ _ _ h2.row]; exact R5.oL_35 _ _ _ _ _ h2.ml
theorem TW.start {V : World} {dv v0 : Value} (hpo : R5.PO w.heap.size og mb (fun k => k = og ∨ k = mb) V ⟨i, m, D, []⟩ dv (.slice none 0 0)) (hbV : Below w.heap.size w V) (hb : Below w.heap.size w X) (hY : Below X.heap.size X Y) (hD : R5.HDs w v0 D) (hk : ∀ k, (k = og ∨ k = mb) ∨ dv.ownBlock = some k → k ≠ rg ∧ Y.heap[k]? = V.heap[k]?) (hsz : V.heap.size ≤ Y.heap.size) (hrg : X.heap.size ≤ rg) (hlo : ∀ k, (k = og ∨ k = mb) → X.heap.size ≤ k)
    (hr : Y.heap[rg]? = some (.cells (R5.oL i m v0 0 (.slice none 0 0)).toArray 49 (0, 0))) (hrows : ∀ r ∈ rows, X.heap[r.1]? = some (.cells r.2.1 r.2.2 (0, 0))) : TW w og mb rg i m D [] [] rows Y := by
  have hs := hb.size
  have hrY := PC.row_lt hr
  have hbY : Below w.heap.size w Y := hb.trans (hY.mono hs)
  have hus : (rrG i m D []).used = 0 := by unfold rrG; cases i <;> rfl
  refine .mk ⟨_, dv, _, fun k => k = rg, v0, .slice none 0 0, [], hpo.keep hsz (fun k hkl hS => (hk k hS).2), ⟨hpo.ml, by rw [hus]; exact hr, R5.hds_below hD hbY, fun hne k e => ?_, ⟨fun e he => by simp [rrG] at he, rfl, World.ownsRow_nil _ _ _ _, fun i e d he => by simp [rrG] at he⟩, rfl, fun k e => by simp [Value.ownBlock] at e, fun d hd => by simp at hd, fun k hk => by rw [hk]; omega, fun k hk => by rw [hk]; exact hrY⟩, fun k hS hT => ?_, fun k e hT => ?_, hbY, fun r hr => ?_⟩
  · have hne : D ≠ [] := hne
    obtain ⟨h0, p, cap, h1, h2⟩ := hD
    obtain ⟨b, o, hp, hr⟩ := h2 0 (List.length_pos_iff.2 hne)
    have hbk : b = k := by rw [h1, hp] at e; simpa [Value.ownBlock] using e
    have hl : (D.getD 0 []).length = 32 := by
      rw [List.getD_eq_getElem?_getD, List.getElem?_eq_getElem (List.length_pos_iff.2 hne)]
      exact h0 _ (List.getElem_mem _)
    have := block_lt (hr 0 (B8 ((D.getD 0 [])[0]'(by omega))) (by rw [List.getElem?_map, List.getElem?_eq_getElem (by omega)]; rfl))
    rw [← hbk]; exact this
  · exact (hk k (.inl hS)).1 hT
  · exact (hk k (.inr e)).1 hT
  · have hl := PC.row_lt (hrows r hr)
    exact ⟨(hY.block _ hl).trans (hrows r hr), fun hS => by have := hlo _ hS; omega, fun hT => by have hT : r.1 = rg := hT; omega⟩
end
end Go.Proofs.YtpmknkagnkagpaaGreat.ZC
