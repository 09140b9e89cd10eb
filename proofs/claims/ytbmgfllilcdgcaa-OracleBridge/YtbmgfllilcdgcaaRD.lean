/- Oracles side by side. -/
import Derived.Test.YtbmgfllilcdgcaaRB
import Derived.Test.YtbmgfllilcdgcaaQK
set_option linter.unusedVariables false
set_option linter.unusedSimpArgs false
namespace Go.Proofs.Ytbmgfllilcdgcaa.R5
open Go.RowKit

/-- A new answer. -/
def fresh (o : Pra) (q : Qn) : List UInt8 := if o.ideal then drawD o.draws o.log.length else compD q
/-- What Ask answers, and what the oracle knows then. -/
def ansV (o : Pra) (q : Qn) : Value := if askB q then okV (pAsk o q (fresh o q)).1 else errV 2
def nxtO (o : Pra) (q : Qn) : Pra := if askB q then (pAsk o q (fresh o q)).2 else o
theorem pAsk_master (o : Pra) (q : Qn) (f : List UInt8) : (pAsk o q f).2.master = o.master := by
  unfold pAsk; split <;> rfl
theorem nxtO_master (o : Pra) (q : Qn) : (nxtO o q).master = o.master := by
  unfold nxtO; split
  · exact pAsk_master _ _ _
  · rfl
theorem po_ask {B og mb : Nat} {S : Nat → Prop} {X : World} {o : Pra} {dv ov : Value} (ho : PO B og mb S X o dv ov) (hB : B ≤ X.heap.size) (hll : o.log.length < 1000000) (dq : Value) (q : Qn) (hq : kOk q) (hql : q.data.length ≤ 4294000000) (hdq : HB X dq q.data) :
    Calls Try.prog 9 #[.pointer (some ⟨og, 0, none⟩), .agg (qL q dq).toArray] X fun e Y => e = .returned (ansV o q) ∧ Fr S X Y ∧ ∃ ov', PO B og mb (fun k => S k ∨ (X.heap.size ≤ k ∧ k < Y.heap.size)) Y (nxtO o q) dv ov' := by
  unfold ansV nxtO fresh
  cases hok : askB q with
  | true =>
    simp only [if_true]
    cases hid : o.ideal with
    | true =>
      simp only [if_true]
      exact pask_ideal B og mb S dq dv ov o q X hid hB hll ho hq hdq hok
    | false =>
      simp only [Bool.false_eq_true, if_false]
      exact pask_conc B og mb S dq dv ov o q X hid hB hll ho hq hql hdq hok
  | false =>
    simp only [Bool.false_eq_true, if_false]
    refine (pask_bad og mb dq q X ho.cells.2.2.2.1 hq.key hok).mono ?_
    rintro e Y ⟨rfl, hb⟩
    exact ⟨rfl, Fr.ofBelow hb, ov, ho.grow hb hB⟩
theorem po_key {B og mb : Nat} {S : Nat → Prop} {X : World} {o : Pra} {dv ov : Value} (ho : PO B og mb S X o dv ov) (hB : B ≤ X.heap.size) (hll : o.log.length < 1000000) (pv : Value) (d : Int) (l : List UInt8) (hq : kOk ⟨3, o.master, d, l⟩) (hql : l.length ≤ 4294000000) (hp : HP X pv [l]) :
    Calls Try.prog 10 #[.pointer (some ⟨og, 0, none⟩), .int .i64 d, pv] X fun e Y => e = .returned (ansV o ⟨3, o.master, d, l⟩) ∧ Fr S X Y ∧ ∃ ov', PO B og mb (fun k => S k ∨ (X.heap.size ≤ k ∧ k < Y.heap.size)) Y (nxtO o ⟨3, o.master, d, l⟩) dv ov' := by
  have hfl : [l].flatten = l := by simp
  cases hok : askB ⟨3, o.master, d, l⟩ with
  | true =>
    have hfl32 : (fresh o ⟨3, o.master, d, l⟩).length = 32 := by
      unfold fresh; split
      · exact drawD_len _ _ ho.draws.1
      · exact compD_len _
    refine (pkey_ok B og mb S pv dv ov o d [l] (pAsk o ⟨3, o.master, d, l⟩ (fresh o ⟨3, o.master, d, l⟩)) X hB ho hp (by simp) (by rw [hfl]; omega) (pAsk_len ho.ok hfl32) (pAsk_master _ _ _) (fun W v hb hv => ?_)).mono ?_
    · rw [hfl] at hv ⊢
      refine (po_ask (ho.below hb) (Nat.le_trans hB hb.size) hll v _ hq hql hv).mono ?_
      rintro e Y ⟨rfl, h1, h2⟩
      refine ⟨?_, h1, ?_⟩
      · unfold ansV; rw [hok]; rfl
      · unfold nxtO at h2; rw [hok] at h2; exact h2
    · rintro e Y ⟨rfl, h1, h2⟩
      refine ⟨?_, h1, ?_⟩
      · unfold ansV; rw [hok]; rfl
      · unfold nxtO; rw [hok]; exact h2
  | false =>
    refine (pkey_err og mb pv o.master d [l] 2 X ho.cells.2.2.2.1 ho.master ho.ml hp (by simp) (by rw [hfl]; omega) (fun W v hb hv => ?_)).mono ?_
    · rw [hfl]
      exact pask_bad og mb v _ W (ho.below hb).cells.2.2.2.1 hq.key hok
    · rintro e Y ⟨rfl, hb⟩
      refine ⟨?_, Fr.ofBelow hb, ov, ?_⟩
      · unfold ansV; rw [hok]; rfl
      · unfold nxtO; rw [hok]; exact ho.grow hb hB

/-- What holds wherever these blocks are as they are. -/
def Stab (I : Nat → Prop) (P : World → Prop) (X : World) : Prop := ∀ Y : World, X.heap.size ≤ Y.heap.size → (∀ k, I k → Y.heap[k]? = X.heap[k]?) → P Y
/-- Two oracles side by side, rows of the caller's, and what it may read beside them. -/
structure TW (w : World) (oga mba : Nat) (oa : Pra) (ogb mbb : Nat) (ob : Pra) (rows : List (Nat × List UInt8)) (I : Nat → Prop) (P : World → Prop) (X : World) : Prop where
  ex : ∃ Sa dva ova Sb dvb ovb, PO w.heap.size oga mba Sa X oa dva ova ∧ PO w.heap.size ogb mbb Sb X ob dvb ovb ∧ (∀ k, Sa k → ¬ Sb k) ∧ (∀ k, dva.ownBlock = some k → ¬ Sb k) ∧ (∀ k, dvb.ownBlock = some k → ¬ Sa k)
    ∧ (∀ r ∈ rows, X.heap[r.1]? = some (.cells (r.2.map B8).toArray 23 (0, 0)) ∧ ¬ Sa r.1 ∧ ¬ Sb r.1 ∧ ¬ I r.1 ∧ dva.ownBlock ≠ some r.1 ∧ dvb.ownBlock ≠ some r.1) ∧ (∀ k, I k → ¬ Sa k ∧ ¬ Sb k ∧ k < X.heap.size)
  bel : Below w.heap.size w X
  st : Stab I P X
section
variable {w X : World} {oga mba ogb mbb : Nat} {oa ob : Pra} {rows : List (Nat × List UInt8)} {I : Nat → Prop} {P : World → Prop}
theorem TW.swap (h : TW w oga mba oa ogb mbb ob rows I P X) : TW w ogb mbb ob oga mba oa rows I P X := by
  obtain ⟨Sa, dva, ova, Sb, dvb, ovb, h1, h2, h3, h4, h5, h6, h7⟩ := h.ex
  exact ⟨⟨Sb, dvb, ovb, Sa, dva, ova, h2, h1, fun k hb ha => h3 k ha hb, h5, h4, fun r hr => ⟨(h6 r hr).1, (h6 r hr).2.2.1, (h6 r hr).2.1, (h6 r hr).2.2.2.1, (h6 r hr).2.2.2.2.2, (h6 r hr).2.2.2.2.1⟩, fun k hk => ⟨(h7 k hk).2.1, (h7 k hk).1, (h7 k hk).2.2⟩⟩, h.bel, h.st⟩
theorem TW.step {Y : World} (h : TW w oga mba oa ogb mbb ob rows I P X) (hb : Below X.heap.size X Y) : TW w oga mba oa ogb mbb ob rows I P Y := by
  obtain ⟨Sa, dva, ova, Sb, dvb, ovb, h1, h2, h3, h4, h5, h6, h7⟩ := h.ex
  exact ⟨⟨Sa, dva, ova, Sb, dvb, ovb, h1.below hb, h2.below hb, h3, h4, h5, fun r hr => ⟨(hb.block _ (row_lt (h6 r hr).1)).trans (h6 r hr).1, (h6 r hr).2⟩, fun k hk => ⟨(h7 k hk).1, (h7 k hk).2.1, Nat.lt_of_lt_of_le (h7 k hk).2.2 hb.size⟩⟩, h.bel.trans (hb.mono h.bel.size),
    fun Z hs hk => h.st Z (Nat.le_trans hb.size hs) (fun k hi => (hk k hi).trans (hb.block k (h7 k hi).2.2))⟩
theorem TW.alloc (h : TW w oga mba oa ogb mbb ob rows I P X) (o : Obj) : TW w oga mba oa ogb mbb ob rows I P (X.alloc o) := h.step ((Below.refl _ _).alloc (Nat.le_refl _) _)
theorem TW.newrow {ZL : List Value} (h : TW w oga mba oa ogb mbb ob rows I P X) (A : List UInt8) : TW w oga mba oa ogb mbb ob ((X.heap.size, A) :: rows) I P ((X.alloc (.cells ZL.toArray 23 (0, 0))).setRow X.heap.size (A.map B8).toArray) := by
  have hb : Below X.heap.size X ((X.alloc (.cells ZL.toArray 23 (0, 0))).setRow X.heap.size (A.map B8).toArray) := below_setRow ((Below.refl _ _).alloc (Nat.le_refl _) _) (Nat.le_refl _) _
  obtain ⟨Sa, dva, ova, Sb, dvb, ovb, h1, h2, h3, h4, h5, h6, h7⟩ := h.ex
  refine ⟨⟨Sa, dva, ova, Sb, dvb, ovb, h1.below hb, h2.below hb, h3, h4, h5, fun r hr => ?_, fun k hk => ⟨(h7 k hk).1, (h7 k hk).2.1, Nat.lt_of_lt_of_le (h7 k hk).2.2 hb.size⟩⟩, (h.step hb).bel, (h.step hb).st⟩
  rcases List.mem_cons.1 hr with rfl | hr
  · exact ⟨setRow_heap _ _ _ _ _ _ (heap_alloc_new _ _), fun h => by have := h1.top _ h; simp at this, fun h => by have := h2.top _ h; simp at this, fun h => by have := (h7 _ h).2.2; simp at this, fun e => by have := (h1.dro _ e).2; simp at this, fun e => by have := (h2.dro _ e).2; simp at this⟩
  · exact ⟨(hb.block _ (row_lt (h6 r hr).1)).trans (h6 r hr).1, (h6 r hr).2⟩
theorem TW.forget (h : TW w oga mba oa ogb mbb ob rows I P X) : TW w oga mba oa ogb mbb ob [] I P X := by
  obtain ⟨Sa, dva, ova, Sb, dvb, ovb, h1, h2, h3, h4, h5, h6, h7⟩ := h.ex
  exact ⟨⟨Sa, dva, ova, Sb, dvb, ovb, h1, h2, h3, h4, h5, fun r hr => by simp at hr, h7⟩, h.bel, h.st⟩
/-- A row of the caller's is written. -/
theorem TW.setrow {b : Nat} {z A : List UInt8} (h : TW w oga mba oa ogb mbb ob ((b, z) :: rows) I P X) (hw : w.heap.size ≤ b) (hne : ∀ r ∈ rows, r.1 ≠ b) : TW w oga mba oa ogb mbb ob ((b, A) :: rows) I P (X.setRow b (A.map B8).toArray) := by
  obtain ⟨Sa, dva, ova, Sb, dvb, ovb, h1, h2, h3, h4, h5, h6, h7⟩ := h.ex
  obtain ⟨g1, g2, g3, g4, g5, g6⟩ := h6 (b, z) (by simp)
  simp only at g1 g2 g3 g4 g5 g6
  have hs : (X.setRow b (A.map B8).toArray).heap.size = X.heap.size := by simp
  refine ⟨⟨Sa, dva, ova, Sb, dvb, ovb, h1.keep (Nat.le_of_eq hs.symm) (fun k _ hk => setRow_other _ _ _ _ (fun e => hk.elim (fun h => g2 (e ▸ h)) (fun h => g5 (e ▸ h)))), h2.keep (Nat.le_of_eq hs.symm) (fun k _ hk => setRow_other _ _ _ _ (fun e => hk.elim (fun h => g3 (e ▸ h)) (fun h => g6 (e ▸ h)))), h3, h4, h5, fun r hr => ?_, fun k hk => ⟨(h7 k hk).1, (h7 k hk).2.1, by rw [hs]; exact (h7 k hk).2.2⟩⟩, below_setRow h.bel hw _,
    fun Z hsz hk => h.st Z (by rw [← hs]; exact hsz) (fun k hi => (hk k hi).trans (setRow_other _ _ _ _ (fun e => g4 (e ▸ hi))))⟩
  rcases List.mem_cons.1 hr with rfl | hr
  · exact ⟨setRow_heap _ _ _ _ _ _ g1, g2, g3, g4, g5, g6⟩
  · exact ⟨(setRow_other _ _ _ _ (hne r hr)).trans (h6 r (by simp [hr])).1, (h6 r (by simp [hr])).2⟩
theorem TW.rowAt (h : TW w oga mba oa ogb mbb ob rows I P X) {r : Nat × List UInt8} (hr : r ∈ rows) : X.heap[r.1]? = some (.cells (r.2.map B8).toArray 23 (0, 0)) := by
  obtain ⟨Sa, dva, ova, Sb, dvb, ovb, h1, h2, h3, h4, h5, h6, h7⟩ := h.ex
  exact (h6 r hr).1
/-- A row of noughts is laid. -/
theorem TW.zrow (h : TW w oga mba oa ogb mbb ob rows I P X) : TW w oga mba oa ogb mbb ob ((X.heap.size, List.replicate 32 0) :: rows) I P (X.alloc (.cells ((List.replicate 32 (0 : UInt8)).map B8).toArray 23 (0, 0))) := by
  have hb : Below X.heap.size X (X.alloc (.cells ((List.replicate 32 (0 : UInt8)).map B8).toArray 23 (0, 0))) := (Below.refl _ _).alloc (Nat.le_refl _) _
  obtain ⟨Sa, dva, ova, Sb, dvb, ovb, h1, h2, h3, h4, h5, h6, h7⟩ := h.ex
  refine ⟨⟨Sa, dva, ova, Sb, dvb, ovb, h1.below hb, h2.below hb, h3, h4, h5, fun r hr => ?_, fun k hk => ⟨(h7 k hk).1, (h7 k hk).2.1, Nat.lt_of_lt_of_le (h7 k hk).2.2 hb.size⟩⟩, (h.step hb).bel, (h.step hb).st⟩
  rcases List.mem_cons.1 hr with rfl | hr
  · exact ⟨heap_alloc_new _ _, fun h => by have := h1.top _ h; simp at this, fun h => by have := h2.top _ h; simp at this, fun h => by have := (h7 _ h).2.2; simp at this, fun e => by have := (h1.dro _ e).2; simp at this, fun e => by have := (h2.dro _ e).2; simp at this⟩
  · exact ⟨(hb.block _ (row_lt (h6 r hr).1)).trans (h6 r hr).1, (h6 r hr).2⟩
theorem TW.row (h : TW w oga mba oa ogb mbb ob rows I P X) {r : Nat × List UInt8} (hr : r ∈ rows) : X.rangeAt r.1 0 (r.2.map B8) := by
  obtain ⟨Sa, dva, ova, Sb, dvb, ovb, h1, h2, h3, h4, h5, h6, h7⟩ := h.ex
  exact rangeAt_row (h6 r hr).1
theorem TW.asked {Y : World} {Sa Sb : Nat → Prop} {dva ova dvb ovb : Value} {oa' : Pra} (h1 : PO w.heap.size oga mba Sa X oa dva ova) (h2 : PO w.heap.size ogb mbb Sb X ob dvb ovb) (h3 : ∀ k, Sa k → ¬ Sb k) (h4 : ∀ k, dva.ownBlock = some k → ¬ Sb k) (h5 : ∀ k, dvb.ownBlock = some k → ¬ Sa k)
    (h6 : ∀ r ∈ rows, X.heap[r.1]? = some (.cells (r.2.map B8).toArray 23 (0, 0)) ∧ ¬ Sa r.1 ∧ ¬ Sb r.1 ∧ ¬ I r.1 ∧ dva.ownBlock ≠ some r.1 ∧ dvb.ownBlock ≠ some r.1) (h7 : ∀ k, I k → ¬ Sa k ∧ ¬ Sb k ∧ k < X.heap.size) (hb : Below w.heap.size w X) (hst : Stab I P X) (hf : Fr Sa X Y)
    (hq : ∃ ov', PO w.heap.size oga mba (fun k => Sa k ∨ (X.heap.size ≤ k ∧ k < Y.heap.size)) Y oa' dva ov') : TW w oga mba oa' ogb mbb ob rows I P Y := by
  obtain ⟨ov', hq⟩ := hq
  have hs := hf.size
  have hs2 := hb.size
  refine ⟨⟨_, dva, ov', Sb, dvb, ovb, hq, h2.keep hs (fun k hk hS => hf.block k hk (fun ha => hS.elim (h3 k ha) (fun e => h5 k e ha))), fun k ha hb' => ha.elim (fun ha => h3 k ha hb') (fun hg => by have := h2.top k hb'; omega), h4, fun k e ha => ha.elim (h5 k e) (fun hg => by have := (h2.dro k e).2; omega), fun r hr => ?_, fun k hk => ?_⟩,
    ⟨hf.os.trans hb.os, hf.tape.trans hb.tape, hf.output.trans hb.output, Nat.le_trans hb.size hf.size, fun k hk => (hf.block k (by omega) (fun h => by have := h1.low k h; omega)).trans (hb.block k hk)⟩, fun Z hsz hk => hst Z (Nat.le_trans hs hsz) (fun k hi => (hk k hi).trans (hf.block k (h7 k hi).2.2 (h7 k hi).1))⟩
  · have hl := row_lt (h6 r hr).1
    exact ⟨(hf.block _ hl (h6 r hr).2.1).trans (h6 r hr).1, fun h => h.elim (h6 r hr).2.1 (fun h => by omega), (h6 r hr).2.2⟩
  · exact ⟨fun h => h.elim (h7 k hk).1 (fun h => by have := (h7 k hk).2.2; omega), (h7 k hk).2.1, Nat.lt_of_lt_of_le (h7 k hk).2.2 hs⟩
theorem TW.ask (h : TW w oga mba oa ogb mbb ob rows I P X) (hll : oa.log.length < 1000000) (dq : Value) (q : Qn) (hq : kOk q) (hql : q.data.length ≤ 4294000000) (hdq : HB X dq q.data) :
    Calls Try.prog 9 #[.pointer (some ⟨oga, 0, none⟩), .agg (qL q dq).toArray] X fun e Y => e = .returned (ansV oa q) ∧ TW w oga mba (nxtO oa q) ogb mbb ob rows I P Y := by
  obtain ⟨Sa, dva, ova, Sb, dvb, ovb, h1, h2, h3, h4, h5, h6, h7⟩ := h.ex
  refine (po_ask h1 h.bel.size hll dq q hq hql hdq).mono ?_
  rintro e Y ⟨rfl, hf, hq⟩
  exact ⟨rfl, TW.asked h1 h2 h3 h4 h5 h6 h7 h.bel h.st hf hq⟩
theorem TW.key (h : TW w oga mba oa ogb mbb ob rows I P X) (hll : oa.log.length < 1000000) (pv : Value) (d : Int) (l : List UInt8) (hq : kOk ⟨3, oa.master, d, l⟩) (hql : l.length ≤ 4294000000) (hp : HP X pv [l]) :
    Calls Try.prog 10 #[.pointer (some ⟨oga, 0, none⟩), .int .i64 d, pv] X fun e Y => e = .returned (ansV oa ⟨3, oa.master, d, l⟩) ∧ TW w oga mba (nxtO oa ⟨3, oa.master, d, l⟩) ogb mbb ob rows I P Y := by
  obtain ⟨Sa, dva, ova, Sb, dvb, ovb, h1, h2, h3, h4, h5, h6, h7⟩ := h.ex
  refine (po_key h1 h.bel.size hll pv d l hq hql hp).mono ?_
  rintro e Y ⟨rfl, hf, hq⟩
  exact ⟨rfl, TW.asked h1 h2 h3 h4 h5 h6 h7 h.bel h.st hf hq⟩
end
end Go.Proofs.Ytbmgfllilcdgcaa.R5
