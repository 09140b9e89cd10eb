/- measure: the document's Replay. -/
import Derived.Test.YtpmknkagnkagpaaGreatOA
set_option linter.unusedVariables false
set_option linter.unusedSimpArgs false
namespace Go.Proofs.YtpmknkagnkagpaaGreat.ZC
open Go.RowKit

/-- The measurement of some records, by a log of either oracle. -/
def rp2 (i : Bool) (D : List (List UInt8)) (L : Lg) (l : List Rd) : List UInt8 × Lg := l.foldl (fun s r => nx2 i D s.2 (qOf s.1 r)) (Z0, L)
def sk2 (i : Bool) (D : List (List UInt8)) (L : Lg) (l : List Rd) (k : Nat) : List UInt8 × Lg := rp2 i D L (l.take k)
theorem sk2_succ {i : Bool} {D : List (List UInt8)} {L : Lg} {l : List Rd} {k : Nat} {r : Rd} (h : l[k]? = some r) : sk2 i D L l (k + 1) = nx2 i D (sk2 i D L l k).2 (qOf (sk2 i D L l k).1 r) := by unfold sk2 rp2; rw [take_snoc h, List.foldl_append]; rfl
theorem sk2_all (i : Bool) (D : List (List UInt8)) (L : Lg) (l : List Rd) : sk2 i D L l l.length = rp2 i D L l := by unfold sk2; rw [List.take_length]
theorem fold_rp2 (i : Bool) (m : List UInt8) (D : List (List UInt8)) : ∀ (l : List Rd) (s : List UInt8) (L : Lg), l.foldl (fun s r => nxP s.2 (qOf s.1 r)) (s, prG i m D L) = ((l.foldl (fun s r => nx2 i D s.2 (qOf s.1 r)) (s, L)).1, prG i m D (l.foldl (fun s r => nx2 i D s.2 (qOf s.1 r)) (s, L)).2)
  | [], s, L => rfl
  | r :: l, s, L => by
    show l.foldl _ (nxP (prG i m D L) (qOf s r)) = _
    rw [nxP_nx2]
    exact fold_rp2 i m D l _ _
theorem rpl_rp2 (i : Bool) (m : List UInt8) (D : List (List UInt8)) (L : Lg) (l : List Rd) : rpl (prG i m D L) l = ((rp2 i D L l).1, prG i m D (rp2 i D L l).2) := fold_rp2 i m D l Z0 L
theorem sk2_ok {i : Bool} {D : List (List UInt8)} {L : Lg} {l : List Rd} (hD : ∀ d ∈ D, d.length = 32) (hL : lL L) : ∀ k, k ≤ l.length → (sk2 i D L l k).1.length = 32 ∧ lL (sk2 i D L l k).2 ∧ (sk2 i D L l k).2.length ≤ L.length + k
  | 0, _ => ⟨z0_len, hL, Nat.le_refl _⟩
  | k + 1, hk => by
    obtain ⟨r, hr⟩ : ∃ r, l[k]? = some r := ⟨_, List.getElem?_eq_getElem (by omega)⟩
    obtain ⟨h1, h2, h3⟩ := sk2_ok hD hL (l := l) (i := i) k (by omega)
    rw [sk2_succ hr]
    obtain ⟨h4, h5⟩ := nx2_ok (i := i) hD h2 (qOf (sk2 i D L l k).1 r)
    have h6 := nx2_len i D (sk2 i D L l k).2 (qOf (sk2 i D L l k).1 r)
    exact ⟨h4, h5, by omega⟩
/-- Measured again, all that was asked is found. -/
theorem rp2_again (i : Bool) (m : List UInt8) (D : List (List UInt8)) (L : Lg) (l : List Rd) (n : Nat) (r : Rd) (hr : l[n]? = some r) (hn : l.length = n + 1) :
    ∃ A, rp2 i D (rp2 i D L l).2 (l.take n) = (A, (rp2 i D L l).2) ∧ nx2 i D (rp2 i D L l).2 (qOf A r) = ((rp2 i D L l).1, (rp2 i D L l).2) := by
  have hx := (rpl_mx (prG i m D L) l).mea
  rw [rpl_rp2] at hx
  have hx : mea (rp2 i D L l).2 l = some (rp2 i D L l).1 := hx
  have hl : l = l.take n ++ [r] := by rw [← take_snoc hr, ← hn, List.take_length]
  generalize rp2 i D L l = s at *
  rw [hl, mea_snoc] at hx
  cases hm : mea s.2 (l.take n) with
  | none => rw [hm] at hx; cases hx
  | some A =>
    rw [hm] at hx
    have hf : R5.fndA (qOf A r) s.2 = some s.1 := hx
    have h1 := rpl_again (o := prG i m D s.2) (l := l.take n) (m := A) hm
    rw [rpl_rp2] at h1
    have h2 : (rp2 i D s.2 (l.take n)).1 = A := congrArg Prod.fst h1
    have h3 : (rp2 i D s.2 (l.take n)).2 = s.2 := congrArg (fun x => x.2.log) h1
    refine ⟨A, by rw [← h2]; exact Prod.ext rfl h3, ?_⟩
    unfold nx2
    rw [hf]
/-- While the document's Replay runs: the oracle, what is handed back, and what is measured so far. -/
structure RJ (B og : Nat) (S : Nat → Prop) (w : World) (dv : Value) (t : TypeId) (cb : Nat) (ZL : List Value) (o : R5.Ora) (m : List UInt8) (X : World) : Prop where
  po : ∃ S' lv lds, R5.OR B og S' X o dv lv lds t ∧ (∀ k, S' k → S k ∨ (w.heap.size ≤ k ∧ k ≠ w.heap.size ∧ k ≠ cb)) ∧ (∀ k, S k → S' k)
  fr : R5.Fr S w X
  z : X.heap[w.heap.size]? = some (.cells ZL.toArray 24 (0, 0))
  m : X.heap[cb]? = some (.cells (m.map B8).toArray 24 (0, 0))
  low : w.heap.size < cb
  top : ∀ k, S k → k < w.heap.size
section
variable {B og : Nat} {S : Nat → Prop} {w X Y : World} {dv : Value} {t : TypeId} {cb : Nat} {ZL : List Value} {o o' : R5.Ora} {m A : List UInt8} {r : Rd}
theorem RJ.below (h : RJ B og S w dv t cb ZL o m X) (hb : Below X.heap.size X Y) : RJ B og S w dv t cb ZL o m Y := by
  obtain ⟨S', lv, lds, h1, h2, h3⟩ := h.po
  exact ⟨⟨S', lv, lds, h1.keep hb.size (fun k hk _ => hb.block k hk), h2, h3⟩, h.fr.then hb, (hb.block _ (PC.row_lt h.z)).trans h.z, (hb.block _ (PC.row_lt h.m)).trans h.m, h.low, h.top⟩
/-- Behind a question: its answer is laid in the row. -/
theorem RJ.ask (h : RJ B og S w dv t cb ZL o m X) (hB : B ≤ w.heap.size) {e : Ending} {w5 : World} {S' : Nat → Prop} {lv : Value} {lds : List Value} (h1 : R5.OR B og S' X o dv lv lds t) (h2 : ∀ k, S' k → S k ∨ (w.heap.size ≤ k ∧ k ≠ w.heap.size ∧ k ≠ cb)) (h3 : ∀ k, S k → S' k) (hE : R5.QEnd B og S' X (A, o') dv t e w5) :
    e = .returned (.agg (A.map B8).toArray) ∧ RJ B og S w dv t cb ZL o' A (w5.setRow cb (A.map B8).toArray) ∧ w5.heap[cb]? = some (.cells (m.map B8).toArray 24 (0, 0)) := by
  obtain ⟨rfl, hfr, lv5, lds5, hpo⟩ := hE
  have hsX := h.fr.size
  have l4 := h.low
  have hno : ∀ k, k = w.heap.size ∨ k = cb → ¬ S' k := fun k hk hS => by
    rcases h2 k hS with hS | hS
    · have := h.top k hS; omega
    · omega
  have hs5 := hfr.size
  have hcb := PC.row_lt h.m
  have hzl := PC.row_lt h.z
  have hc5 : w5.heap[cb]? = some (.cells (m.map B8).toArray 24 (0, 0)) := (hfr.block cb hcb (hno cb (by simp))).trans h.m
  have hsz : (w5.setRow cb (A.map B8).toArray).heap.size = w5.heap.size := by simp
  refine ⟨rfl, ⟨⟨fun k => S' k ∨ (X.heap.size ≤ k ∧ k < w5.heap.size), lv5, lds5, hpo.keep (Nat.le_of_eq hsz.symm) (fun k hk hS => setRow_other _ _ _ _ (fun e => ?_)), fun k hS => ?_, fun k hS => .inl (h3 k hS)⟩, ?_, (setRow_other _ _ _ _ (by omega)).trans ((hfr.block _ hzl (hno _ (by simp))).trans h.z), setRow_heap _ _ _ _ _ _ hc5, h.low, h.top⟩, hc5⟩
  · subst e
    rcases hS with (hS | hS) | hS
    · exact hno k (by simp) hS
    · omega
    · omega
  · rcases hS with hS | hS
    · exact h2 k hS
    · exact .inr (by omega)
  · exact (h.fr.trans hfr (fun k hS => (h2 k hS).imp id (fun h => h.1))).setRow _ _ (.inr (by omega))
theorem RJ.fin (h : RJ B og S w dv t cb ZL o m X) {lv : Value} {lds : List Value} {o0 : R5.Ora} (hB : B ≤ w.heap.size) (h0 : R5.OR B og S w o0 dv lv lds t) : R5.QEnd B og S w (m, o) dv t (.returned (.agg (m.map B8).toArray)) (X.setRow w.heap.size (m.map B8).toArray) := by
  obtain ⟨S', lv', lds', h1, h2, h3⟩ := h.po
  have hsz : (X.setRow w.heap.size (m.map B8).toArray).heap.size = X.heap.size := by simp
  have hs := h.fr.size
  refine ⟨rfl, h.fr.setRow _ _ (.inr (Nat.le_refl _)), lv', lds', ?_⟩
  refine R5.OR.more (h1.keep (Nat.le_of_eq hsz.symm) (fun k hk hS => setRow_other _ _ _ _ (fun e => ?_))) (fun k hS => ?_) (fun k hS => ?_)
  · subst e
    rcases hS with hS | hS
    · rcases h2 _ hS with hS | hS
      · have := h.top _ hS; omega
      · omega
    · omega
  · rcases h2 k hS with hS2 | hS2
    · exact .inl hS2
    · exact .inr ⟨hS2.1, by rw [hsz]; exact h1.top k hS⟩
  · rcases hS with hS | hS
    · exact ⟨h0.low k hS, by have := h.top k hS; rw [hsz]; omega⟩
    · exact ⟨by omega, hS.2⟩
end
theorem next_qend {B og : Nat} {S : Nat → Prop} {dv lv : Value} {o : R5.Ora} {lds : List Value} {t : TypeId} (m : List UInt8) (r : Rd) (w : World) (R : List UInt8 × R5.Ora) (hm : m.length = 32) (hr : r.ok) (hmay : mayD r = true) (hk : r.kind ≠ 1) (hll : o.log.length < 1000000) (hu : o.used < 1000000) (hB : B ≤ w.heap.size) (ho : R5.OR B og S w o dv lv lds t) (hR : R5.rNx o (qOf m r) = R) :
    Calls Tryz.prog 12 #[.pointer (some ⟨og, 0, none⟩), .agg (m.map B8).toArray, .agg (rdL r).toArray] w fun e w' => R5.QEnd B og S w R dv t e w' := by
  rcases mayD_kind hmay with h' | h' | h'
  · exact absurd h' hk
  · exact rnext_2 m r w R hm hr hmay h' hll hu hB ho hR
  · exact rnext_3 m r w R hm hr hmay h' hll hu hB ho hR
theorem RJ.next {B og : Nat} {S : Nat → Prop} {w X : World} {dv : Value} {t : TypeId} {cb : Nat} {ZL : List Value} {o o' : R5.Ora} {m A : List UInt8} {r : Rd} (h : RJ B og S w dv t cb ZL o m X) (hB : B ≤ w.heap.size) (hm : m.length = 32) (hr : r.ok) (hmay : mayD r = true) (hk : r.kind ≠ 1) (hll : o.log.length < 1000000) (hu : o.used < 1000000) (hR : R5.rNx o (qOf m r) = (A, o')) :
    Calls Tryz.prog 12 #[.pointer (some ⟨og, 0, none⟩), .agg (m.map B8).toArray, .agg (rdL r).toArray] X fun e w5 => e = .returned (.agg (A.map B8).toArray) ∧ RJ B og S w dv t cb ZL o' A (w5.setRow cb (A.map B8).toArray) ∧ w5.heap[cb]? = some (.cells (m.map B8).toArray 24 (0, 0)) := by
  obtain ⟨S', lv, lds, h1, h2, h3⟩ := h.po
  exact (next_qend m r X _ hm hr hmay hk hll hu (Nat.le_trans hB h.fr.size) h1 hR).mono fun e w5 hE => h.ask hB h1 h2 h3 hE
theorem rj_start {B og : Nat} {S : Nat → Prop} {w W1 w2 : World} {dv lv : Value} {lds : List Value} {t : TypeId} {ZL : List Value} {o o' : R5.Ora} {A : List UInt8} {e : Ending} (hB : B ≤ w.heap.size) (ho : R5.OR B og S w o dv lv lds t) (hW1 : W1 = w.alloc (.cells ZL.toArray 24 (0, 0))) (hE : R5.QEnd B og S W1 (A, o') dv t e w2) :
    RJ B og S w dv t w2.heap.size ZL o' A ((w2.alloc (.cells ZL.toArray 24 (0, 0))).setRow w2.heap.size (A.map B8).toArray) := by
  obtain ⟨_, hfr, lv5, lds5, hpo⟩ := hE
  have hs1 : W1.heap.size = w.heap.size + 1 := by rw [hW1]; simp
  have hb1 : Below w.heap.size w W1 := by rw [hW1]; exact (Below.refl _ _).alloc (Nat.le_refl _) _
  have hz1 : W1.heap[w.heap.size]? = some (.cells ZL.toArray 24 (0, 0)) := by rw [hW1]; exact heap_alloc_new _ _
  have hb3 : Below w2.heap.size w2 ((w2.alloc (.cells ZL.toArray 24 (0, 0))).setRow w2.heap.size (A.map B8).toArray) := below_setRow ((Below.refl _ _).alloc (Nat.le_refl _) _) (Nat.le_refl _) _
  have hs2 := hfr.size
  have hz2 : w2.heap[w.heap.size]? = some (.cells ZL.toArray 24 (0, 0)) := (hfr.block _ (by omega) (fun h => by have := ho.top _ h; omega)).trans hz1
  refine ⟨⟨_, lv5, lds5, hpo.keep hb3.size (fun k hk _ => hb3.block k hk), fun k hS => ?_, fun k hS => .inl hS⟩, ((R5.Fr.ofBelow hb1).trans hfr (fun k h => .inl h)).then hb3, (hb3.block _ (by omega)).trans hz2, setRow_heap _ _ _ _ _ _ (heap_alloc_new _ _), by omega, ho.top⟩
  rcases hS with hS | hS
  · exact .inl hS
  · exact .inr (by omega)
end Go.Proofs.YtpmknkagnkagpaaGreat.ZC
