/- measure: the document's Replay, walked; both Replays. -/
import Derived.Test.YtpmknkagnkagpaaGreatOA
set_option linter.unusedVariables false
set_option linter.unusedSimpArgs false
namespace Go.Proofs.YtpmknkagnkagpaaGreat.ZC
open Go.RowKit

def rp2 (i : Bool) (D : List (List UInt8)) (L : Lg) (l : List Rd) : List UInt8 × Lg := l.foldl (fun s r => nx2 i D s.2 (qOf s.1 r)) (Z0, L)
def sk2 (i : Bool) (D : List (List UInt8)) (L : Lg) (l : List Rd) (k : Nat) : List UInt8 × Lg := rp2 i D L (l.take k)
theorem sk2_succ {i : Bool} {D : List (List UInt8)} {L : Lg} {l : List Rd} {k : Nat} {r : Rd} (h : l[k]? = some r) : sk2 i D L l (k + 1) = nx2 i D (sk2 i D L l k).2 (qOf (sk2 i D L l k).1 r) := by unfold sk2 rp2; rw [take_snoc h, List.foldl_append]; rfl
theorem sk2_all (i : Bool) (D : List (List UInt8)) (L : Lg) (l : List Rd) : sk2 i D L l l.length = rp2 i D L l := by unfold sk2; rw [List.take_length]
theorem fold_rp2 (i : Bool) (m : List UInt8) (D : List (List UInt8)) : ∀ (l : List Rd) (s : List UInt8) (L : Lg), l.foldl (fun s r => nxP s.2 (qOf s.1 r)) (s, prG i m D L) = ((l.foldl (fun s r => nx2 i D s.2 (qOf s.1 r)) (s, L)).1, prG i m D (l.foldl (fun s r => nx2 i D s.2 (qOf s.1 r)) (s, L)).2)
  | [], s, L => rfl
  | r :: l, s, L => by
    show l.foldl _ (nxP (prG i m D L) (qOf s r)) = _
    rw [nxP_nx2]
    exact fold_rp2 i m D l _ _
theorem rpl_rp2 (i : Bool) (m : List UInt8) (D : List (List UInt8)) (L : Lg) (l : List Rd) : rpl (prG i m D L) l = ((rp2 i D L l).1, prG i m D (rp2 i D L l).2) := fold_rp2 i m D l Z0 L
theorem sk2_ok {i : Bool} {D : List (List UInt8)} {L : Lg} {l : List Rd} (hD : ∀ d ∈ D, d.length = 32) (hL : lL L) : ∀ k, k ≤ l.length → (sk2 i D L l k).1.length = 32 ∧ lL (sk2 i D L l k).2 ∧ (sk2 i D L l k).2.length ≤ L.length + k
  | 0, _ => ⟨z0_len, hL, Nat.le_refl _⟩
  | k + 1, hk => by
    obtain ⟨r, hr⟩ : ∃ r, l[k]? = some r := ⟨_, List.getElem?_eq_getElem (by omega)⟩
    obtain ⟨h1, h2, h3⟩ := sk2_ok hD hL (l := l) (i := i) k (by omega)
    rw [sk2_succ hr]
    obtain ⟨h4, h5⟩ := nx2_ok (i := i) hD h2 (qOf (sk2 i D L l k).1 r)
    have h6 := nx2_len i D (sk2 i D L l k).2 (qOf (sk2 i D L l k).1 r)
    exact ⟨h4, h5, by omega⟩
theorem rp2_again (i : Bool) (m : List UInt8) (D : List (List UInt8)) (L : Lg) (l : List Rd) (n : Nat) (r : Rd) (hr : l[n]? = some r) (hn : l.length = n + 1) :
    ∃ A, rp2 i D (rp2 i D L l).2 (l.take n) = (A, (rp2 i D L l).2) ∧ nx2 i D (rp2 i D L l).2 (qOf A r) = ((rp2 i D L l).1, (rp2 i D L l).2) := by
  have hx := (rpl_mx (prG i m D L) l).mea
  rw [rpl_rp2] at hx
  have hx : mea (rp2 i D L l).2 l = some (rp2 i D L l).1 := hx
  have hl : l = l.take n ++ [r] := by rw [← take_snoc hr, ← hn, List.take_length]
  generalize rp2 i D L l = s at *
  rw [hl, mea_snoc] at hx
  cases hm : mea s.2 (l.take n) with
  | none => rw [hm] at hx; cases hx
  | some A =>
    rw [hm] at hx
    have hf : R5.fndA (qOf A r) s.2 = some s.1 := hx
    have h1 := rpl_again (o := prG i m D s.2) (l := l.take n) (m := A) hm
    rw [rpl_rp2] at h1
    have h2 : (rp2 i D s.2 (l.take n)).1 = A := congrArg Prod.fst h1
    have h3 : (rp2 i D s.2 (l.take n)).2 = s.2 := congrArg (fun x => x.2.log) h1
    refine ⟨A, by rw [← h2]; exact Prod.ext rfl h3, ?_⟩
    unfold nx2
    rw [hf]
structure RJ (B og : Nat) (S : Nat → Prop) (w : World) (dv : Value) (t : TypeId) (cb : Nat) (ZL : List Value) (o : R5.Ora) (m : List UInt8) (X : World) : Prop where
  po : ∃ S' lv lds, R5.OR B og S' X o dv lv lds t ∧ (∀ k, S' k → S k ∨ (w.heap.size ≤ k ∧ k ≠ w.heap.size ∧ k ≠ cb)) ∧ (∀ k, S k → S' k)
  fr : R5.Fr S w X
  z : X.heap[w.heap.size]? = some (.cells ZL.toArray 24 (0, 0))
  m : X.heap[cb]? = some (.cells (m.map B8).toArray 24 (0, 0))
  low : w.heap.size < cb
  top : ∀ k, S k → k < w.heap.size
section
variable {B og : Nat} {S : Nat → Prop} {w X Y : World} {dv : Value} {t : TypeId} {cb : Nat} {ZL : List Value} {o o' : R5.Ora} {m A : List UInt8} {r : Rd}
theorem RJ.below (h : RJ B og S w dv t cb ZL o m X) (hb : Below X.heap.size X Y) : RJ B og S w dv t cb ZL o m Y := by
  obtain ⟨S', lv, lds, h1, h2, h3⟩ := h.po
  exact ⟨⟨S', lv, lds, h1.keep hb.size (fun k hk _ => hb.block k hk), h2, h3⟩, h.fr.then hb, (hb.block _ (PC.row_lt h.z)).trans h.z, (hb.block _ (PC.row_lt h.m)).trans h.m, h.low, h.top⟩
theorem RJ.ask (h : RJ B og S w dv t cb ZL o m X) (hB : B ≤ w.heap.size) {e : Ending} {w5 : World} {S' : Nat → Prop} {lv : Value} {lds : List Value} (h1 : R5.OR B og S' X o dv lv lds t) (h2 : ∀ k, S' k → S k ∨ (w.heap.size ≤ k ∧ k ≠ w.heap.size ∧ k ≠ cb)) (h3 : ∀ k, S k → S' k) (hE : R5.QEnd B og S' X (A, o') dv t e w5) :
    e = .returned (.agg (A.map B8).toArray) ∧ RJ B og S w dv t cb ZL o' A (w5.setRow cb (A.map B8).toArray) ∧ w5.heap[cb]? = some (.cells (m.map B8).toArray 24 (0, 0)) := by
  obtain ⟨rfl, hfr, lv5, lds5, hpo⟩ := hE
  have hsX := h.fr.size
  have l4 := h.low
  have hno : ∀ k, k = w.heap.size ∨ k = cb → ¬ S' k := fun k hk hS => by
    rcases h2 k hS with hS | hS
    · have := h.top k hS; omega
    · omega
  have hs5 := hfr.size
  have hcb := PC.row_lt h.m
  have hzl := PC.row_lt h.z
  have hc5 : w5.heap[cb]? = some (.cells (m.map B8).toArray 24 (0, 0)) := (hfr.block cb hcb (hno cb (by simp))).trans h.m
  have hsz : (w5.setRow cb (A.map B8).toArray).heap.size = w5.heap.size := by simp
  refine ⟨rfl, ⟨⟨fun k => S' k ∨ (X.heap.size ≤ k ∧ k < w5.heap.size), lv5, lds5, hpo.keep (Nat.le_of_eq hsz.symm) (fun k hk hS => setRow_other _ _ _ _ (fun e => ?_)), fun k hS => ?_, fun k hS => .inl (h3 k hS)⟩, ?_, (setRow_other _ _ _ _ (by omega)).trans ((hfr.block _ hzl (hno _ (by simp))).trans h.z), setRow_heap _ _ _ _ _ _ hc5, h.low, h.top⟩, hc5⟩
  · subst e
    rcases hS with (hS | hS) | hS
    · exact hno k (by simp) hS
    · omega
    · omega
  · rcases hS with hS | hS
    · exact h2 k hS
    · exact .inr (by omega)
  · exact (h.fr.trans hfr (fun k hS => (h2 k hS).imp id (fun h => h.1))).setRow _ _ (.inr (by omega))
theorem RJ.fin (h : RJ B og S w dv t cb ZL o m X) {lv : Value} {lds : List Value} {o0 : R5.Ora} (hB : B ≤ w.heap.size) (h0 : R5.OR B og S w o0 dv lv lds t) : R5.QEnd B og S w (m, o) dv t (.returned (.agg (m.map B8).toArray)) (X.setRow w.heap.size (m.map B8).toArray) := by
  obtain ⟨S', lv', lds', h1, h2, h3⟩ := h.po
  have hsz : (X.setRow w.heap.size (m.map B8).toArray).heap.size = X.heap.size := by simp
  have hs := h.fr.size
  refine ⟨rfl, h.fr.setRow _ _ (.inr (Nat.le_refl _)), lv', lds', ?_⟩
  refine R5.OR.more (h1.keep (Nat.le_of_eq hsz.symm) (fun k hk hS => setRow_other _ _ _ _ (fun e => ?_))) (fun k hS => ?_) (fun k hS => ?_)
  · subst e
    rcases hS with hS | hS
    · rcases h2 _ hS with hS | hS
      · have := h.top _ hS; omega
      · omega
    · omega
  · rcases h2 k hS with hS2 | hS2
    · exact .inl hS2
    · exact .inr ⟨hS2.1, by rw [hsz]; exact h1.top k hS⟩
  · rcases hS with hS | hS
    · exact ⟨h0.low k hS, by have := h.top k hS; rw [hsz]; omega⟩
    · exact ⟨by omega, hS.2⟩
end
theorem next_qend {B og : Nat} {S : Nat → Prop} {dv lv : Value} {o : R5.Ora} {lds : List Value} {t : TypeId} (m : List UInt8) (r : Rd) (w : World) (R : List UInt8 × R5.Ora) (hm : m.length = 32) (hr : r.ok) (hmay : mayD r = true) (hk : r.kind ≠ 1) (hll : o.log.length < 1000000) (hu : o.used < 1000000) (hB : B ≤ w.heap.size) (ho : R5.OR B og S w o dv lv lds t) (hR : R5.rNx o (qOf m r) = R) :
    Calls Tryz.prog 12 #[.pointer (some ⟨og, 0, none⟩), .agg (m.map B8).toArray, .agg (rdL r).toArray] w fun e w' => R5.QEnd B og S w R dv t e w' := by
  rcases mayD_kind hmay with h' | h' | h'
  · exact absurd h' hk
  · exact rnext_2 m r w R hm hr hmay h' hll hu hB ho hR
  · exact rnext_3 m r w R hm hr hmay h' hll hu hB ho hR
theorem RJ.next {B og : Nat} {S : Nat → Prop} {w X : World} {dv : Value} {t : TypeId} {cb : Nat} {ZL : List Value} {o o' : R5.Ora} {m A : List UInt8} {r : Rd} (h : RJ B og S w dv t cb ZL o m X) (hB : B ≤ w.heap.size) (hm : m.length = 32) (hr : r.ok) (hmay : mayD r = true) (hk : r.kind ≠ 1) (hll : o.log.length < 1000000) (hu : o.used < 1000000) (hR : R5.rNx o (qOf m r) = (A, o')) :
    Calls Tryz.prog 12 #[.pointer (some ⟨og, 0, none⟩), .agg (m.map B8).toArray, .agg (rdL r).toArray] X fun e w5 => e = .returned (.agg (A.map B8).toArray) ∧ RJ B og S w dv t cb ZL o' A (w5.setRow cb (A.map B8).toArray) ∧ w5.heap[cb]? = some (.cells (m.map B8).toArray 24 (0, 0)) := by
  obtain ⟨S', lv, lds, h1, h2, h3⟩ := h.po
  exact (next_qend m r X _ hm hr hmay hk hll hu (Nat.le_trans hB h.fr.size) h1 hR).mono fun e w5 hE => h.ask hB h1 h2 h3 hE
theorem rj_start {B og : Nat} {S : Nat → Prop} {w W1 w2 : World} {dv lv : Value} {lds : List Value} {t : TypeId} {ZL : List Value} {o o' : R5.Ora} {A : List UInt8} {e : Ending} (hB : B ≤ w.heap.size) (ho : R5.OR B og S w o dv lv lds t) (hW1 : W1 = w.alloc (.cells ZL.toArray 24 (0, 0))) (hE : R5.QEnd B og S W1 (A, o') dv t e w2) :
    RJ B og S w dv t w2.heap.size ZL o' A ((w2.alloc (.cells ZL.toArray 24 (0, 0))).setRow w2.heap.size (A.map B8).toArray) := by
  obtain ⟨_, hfr, lv5, lds5, hpo⟩ := hE
  have hs1 : W1.heap.size = w.heap.size + 1 := by rw [hW1]; simp
  have hb1 : Below w.heap.size w W1 := by rw [hW1]; exact (Below.refl _ _).alloc (Nat.le_refl _) _
  have hz1 : W1.heap[w.heap.size]? = some (.cells ZL.toArray 24 (0, 0)) := by rw [hW1]; exact heap_alloc_new _ _
  have hb3 : Below w2.heap.size w2 ((w2.alloc (.cells ZL.toArray 24 (0, 0))).setRow w2.heap.size (A.map B8).toArray) := below_setRow ((Below.refl _ _).alloc (Nat.le_refl _) _) (Nat.le_refl _) _
  have hs2 := hfr.size
  have hz2 : w2.heap[w.heap.size]? = some (.cells ZL.toArray 24 (0, 0)) := (hfr.block _ (by omega) (fun h => by have := ho.top _ h; omega)).trans hz1
  refine ⟨⟨_, lv5, lds5, hpo.keep hb3.size (fun k hk _ => hb3.block k hk), fun k hS => ?_, fun k hS => .inl hS⟩, ((R5.Fr.ofBelow hb1).trans hfr (fun k h => .inl h)).then hb3, (hb3.block _ (by omega)).trans hz2, setRow_heap _ _ _ _ _ _ (heap_alloc_new _ _), by omega, ho.top⟩
  rcases hS with hS | hS
  · exact .inl hS
  · exact .inr (by omega)
end Go.Proofs.YtpmknkagnkagpaaGreat.ZC

namespace Go.Proofs.YtpmknkagnkagpaaGreat.ZC
open Go.RowKit

theorem mayL_at {l : List Rd} (h : mayL l = true) {k : Nat} {r : Rd} (hr : l[k]? = some r) : mayD r = true ∧ (r.kind = 1 ↔ k = 0) := by
  have hg := ((mayL_iff l).1 h).2 k (List.getElem?_eq_some_iff.1 hr).1
  rw [good_at hr, Bool.and_eq_true, beq_iff_eq] at hg
  refine ⟨hg.1, ?_⟩
  have h2 := hg.2
  rw [Bool.eq_iff_iff] at h2
  simpa using h2
set_option maxHeartbeats 4000000 in
set_option maxRecDepth 100000 in
theorem rreplay_any {B og : Nat} {S : Nat → Prop} {dv lv : Value} {lds : List Value} {t : TypeId} (i : Bool) (m : List UInt8) (D : List (List UInt8)) (L : Lg) (v : Value) (l : List Rd) (w : World) (hD : ∀ d ∈ D, d.length = 32) (hL : lL L) (hB : B ≤ w.heap.size) (hll : L.length + l.length < 1000000) (ho : R5.OR B og S w (rrG i m D L) dv lv lds t) (hv : HR w v l) (hvS : l ≠ [] → ∀ k, v.ownBlock = some k → ¬ S k) (hmay : mayL l = true) :
    Calls Tryz.prog 19 #[.pointer (some ⟨og, 0, none⟩), v] w fun e w' => R5.QEnd B og S w ((rp2 i D L l).1, rrG i m D (rp2 i D L l).2) dv t e w' := by
  have hz := fun W => R5.zero_dig W
  obtain ⟨ZL, hZL⟩ : ∃ L, L = (List.replicate 32 (0 : UInt8)).map B8 := ⟨_, rfl⟩
  rw [← hZL] at hz
  have HZS : Hid (ZL.toArray.size = 32) := by show _ = _; rw [hZL]; simp
  obtain ⟨W1, hW1⟩ : ∃ X, X = w.alloc (.cells ZL.toArray 24 (0, 0)) := ⟨_, rfl⟩
  have hb1 : Below w.heap.size w W1 := by rw [hW1]; exact (Below.refl _ _).alloc (Nat.le_refl _) _
  obtain ⟨r0, hr0⟩ : ∃ r, l[0]? = some r := ⟨_, List.getElem?_eq_getElem ((mayL_iff l).1 hmay).1⟩
  have hne : l ≠ [] := fun e => by rw [e] at hr0; simp at hr0
  have HHR : Hid (∀ X, R5.Fr S w X → HR X v l) := fun X hX => hv.keep (fun hne k e hl => hX.block k hl (hvS hne k e))
  have hvW := hv.below hb1
  have hbl : ∀ b, v.ownBlock = some b → b < w.heap.size := fun b e => by
    obtain ⟨p1, c1, h1, h2⟩ := hv
    obtain ⟨_, b', f', h3, h4⟩ := h2 0 r0 hr0
    have := block_lt (h4 0 _ (rdL_0 r0))
    rw [h1, h3] at e
    have e' : b' = b := by simpa [Value.ownBlock] using e
    rw [← e']; exact this
  obtain ⟨p, cap, hpe, hrow⟩ := hvW
  obtain ⟨hok0, b0, f0, hp0, hrg0⟩ := hrow 0 r0 hr0
  rw [Nat.zero_mul, Nat.add_zero] at hrg0
  have HLV : Hid (W1.rangeAt b0 (f0 + 1) (r0.value.map B8)) := by have h3 := PC.rangeAt_part hrg0 1 32; rw [List.drop_one, rdL_val hok0] at h3; exact h3
  have HVI : Hid _ := R5.info32 (r0.value.map B8) (by simpa using hok0.v)
  have hq0 : qOf Z0 r0 = ⟨1, Z0, 1, r0.value⟩ := by unfold qOf; rw [if_pos ((mayL_at hmay hr0).2.2 rfl)]
  have hs1 : sk2 i D L l 1 = nx2 i D L (qOf Z0 r0) := sk2_succ (k := 0) hr0
  have hu := rrG_used i m D L
  have HBG : Hid (Calls Tryz.prog 39 #[.pointer (some ⟨og, 0, none⟩), .agg (r0.value.map B8).toArray] W1 fun e w' => R5.QEnd B og S W1 ((sk2 i D L l 1).1, rrG i m D (sk2 i D L l 1).2) dv t e w') := by
    rw [hs1, hq0]
    exact rbegin_any r0.value W1 _ hok0.v (by show L.length < _; omega) (by omega) (Nat.le_trans hB hb1.size) (ho.keep hb1.size (fun k hk _ => hb1.block k hk)) (rNx_nx2 i m D L ⟨1, Z0, 1, r0.value⟩)
  have HSK : Hid (∀ k, k ≤ l.length → (sk2 i D L l k).1.length = 32 ∧ lL (sk2 i D L l k).2 ∧ (sk2 i D L l k).2.length ≤ L.length + k) := fun k hk => sk2_ok hD hL k hk
  have HSU : Hid (∀ k r, l[k]? = some r → sk2 i D L l (k + 1) = nx2 i D (sk2 i D L l k).2 (qOf (sk2 i D L l k).1 r)) := fun k r h => sk2_succ h
  have HGOOD : Hid (∀ k r, l[k]? = some r → mayD r = true ∧ (r.kind = 1 ↔ k = 0)) := fun k r h => mayL_at hmay h
  have HALL : Hid (sk2 i D L l l.length = rp2 i D L l) := sk2_all i D L l
  rw [← HALL.out]
  subst hp0
  subst hpe
  have HBL : Hid (b0 < w.heap.size) := hbl b0 rfl
  have HO : Hid (R5.OR B og S w (rrG i m D L) dv lv lds t) := ho
  have HW1 : Hid (W1 = w.alloc (.cells ZL.toArray 24 (0, 0))) := hW1
  obtain ⟨n, hn⟩ : ∃ n, n = l.length := ⟨_, rfl⟩
  have hn1 : 1 ≤ n := by have := ((mayL_iff l).1 hmay).1; omega
  have h0I : (0 : Int) < (n : Int) := by omega
  rw [← hn] at hll HSK ⊢
  have HN : Hid (n = l.length) := hn
  rw [← HN.out] at HHR
  rw [hW1] at HBG HLV
  have HL1 : Hid ((sk2 i D L l 1).1.length = 32) := (HSK.out 1 hn1).1
  clear hbl hZL hb1 hne hrow hrg0 hok0 hr0 hq0 hs1 hu hW1 hn hmay hv hvS ho
  generalize r0.value.map B8 = VL at *
  go_enter Tryz.func19, Tryz.ntmps19
  go_wp2_with (refine wpList_load_mid rfl 24 _ rfl b0 (f0 + 1) rfl VL _ HLV.out Tryz.underlying24 rfl HVI.out ?_)
  refine Calls.mono HBG.out ?_
  intro e w2 hE
  have he := hE.1
  subst he
  rw [← HW1.out] at hE
  obtain ⟨cb, hcb⟩ : ∃ c, c = w2.heap.size := ⟨_, rfl⟩
  have HRJ0 : Hid (RJ B og S w dv t cb ZL (rrG i m D (sk2 i D L l 1).2) (sk2 i D L l 1).1 ((w2.alloc (.cells ZL.toArray 24 (0, 0))).setRow cb ((sk2 i D L l 1).1.map B8).toArray)) := by rw [hcb]; exact rj_start hB HO.out HW1.out hE
  have HCB : Hid (cb = w2.heap.size) := hcb
  have HZA : Hid ((w2.alloc (.cells ZL.toArray 24 (0, 0))).heap[w2.heap.size]? = some (.cells ZL.toArray 24 (0, 0))) := heap_alloc_new _ _
  have HAS : Hid (((sk2 i D L l 1).1.map B8).toArray.size = 32) := by show _ = _; simpa using HL1.out
  have HA1 : Hid _ := R5.B8_onea (sk2 i D L l 1).1
  clear hE hcb HBG HLV
  obtain ⟨AL, hAL⟩ : ∃ A, A = (sk2 i D L l 1).1.map B8 := ⟨_, rfl⟩
  have HALE : Hid (AL = (sk2 i D L l 1).1.map B8) := hAL
  rw [← hAL] at HAS HA1 HRJ0
  simp only
  rw [← hAL]
  clear hAL
  go_wp2_with (refine wpList_store_row rfl 24 _ _ rfl w2.heap.size AL.toArray rfl rfl 24 ZL.toArray HZA.out (R5.info32a _ HAS.out) (HZS.out.trans HAS.out.symm) HA1.out ?_)
  rw [← HCB.out]
  go_loopw [6] (fun j wr => ∃ k : Nat, 1 ≤ k ∧ k ≤ n ∧ j = .int .i64 k ∧ RJ B og S w dv t cb ZL (rrG i m D (sk2 i D L l k).2) (sk2 i D L l k).1 wr) (fun j _ => n - (intOf j).toNat)
  case atStart => exact ⟨1, Nat.le_refl _, hn1, rfl, HRJ0.out⟩
  case round =>
    obtain ⟨k, hk1, hk, rfl, hri⟩ := hrel
    have HRJ : Hid (RJ B og S w dv t cb ZL (rrG i m D (sk2 i D L l k).2) (sk2 i D L l k).1 wr) := hri
    clear hri HRJ0 HCB HZA HAS HA1 HALE
    by_cases hlt : k < n
    · have hkI : (k : Int) < (n : Int) := by omega
      obtain ⟨r, hr⟩ : ∃ r, l[k]? = some r := ⟨_, List.getElem?_eq_getElem (by have := HN.out; omega)⟩
      obtain ⟨hmayr, hkr⟩ := HGOOD.out k r hr
      obtain ⟨p', cap', hpe, hrow⟩ := HHR.out wr HRJ.out.fr
      obtain ⟨hok, b, ofs, hp, hrg⟩ := hrow k r hr
      have hpp : (some ⟨b0, f0, none⟩ : Option Addr) = some ⟨b, ofs, none⟩ := by rw [← hp]; simpa using (Value.slice.inj hpe).1
      obtain ⟨rfl, rfl⟩ : b0 = b ∧ f0 = ofs := by simpa using hpp
      clear hp hrow hpe hpp
      obtain ⟨hmk, hlk, hnk⟩ := HSK.out k hk
      have hsu := HSU.out k r hr
      have hAl : (sk2 i D L l (k + 1)).1.length = 32 := (HSK.out (k + 1) (by omega)).1
      have hu := rrG_used i m D (sk2 i D L l k).2
      have hrd := HRJ.out.below (Below.refl _ wr).drew
      have HNX : Hid (Calls Tryz.prog 12 #[.pointer (some ⟨og, 0, none⟩), .agg ((sk2 i D L l k).1.map B8).toArray, .agg (rdL r).toArray] wr.drew fun e w5 => e = .returned (.agg ((sk2 i D L l (k + 1)).1.map B8).toArray) ∧ RJ B og S w dv t cb ZL (rrG i m D (sk2 i D L l (k + 1)).2) (sk2 i D L l (k + 1)).1 (w5.setRow cb ((sk2 i D L l (k + 1)).1.map B8).toArray) ∧ w5.heap[cb]? = some (.cells ((sk2 i D L l k).1.map B8).toArray 24 (0, 0))) :=
        hrd.next hB hmk hok hmayr (fun e => by have := hkr.1 e; omega) (by show (sk2 i D L l k).2.length < _; omega) (by omega) (by rw [rNx_nx2, ← hsu])
      have HRI : Hid _ := info172 (rdL r) (rdL_len hok)
      have HRR : Hid (wr.drew.rangeAt b0 (f0 + k * 172) (rdL r)) := hrg
      have HRK : Hid (∀ X, R5.Fr S w X → X.rangeAt b0 (f0 + k * 172) (rdL r)) := fun X hX => by
        obtain ⟨p', cap', hpe, hrow⟩ := HHR.out X hX
        obtain ⟨_, b, ofs, hp, hrg⟩ := hrow k r hr
        have hpp : (some ⟨b0, f0, none⟩ : Option Addr) = some ⟨b, ofs, none⟩ := by rw [← hp]; simpa using (Value.slice.inj hpe).1
        obtain ⟨rfl, rfl⟩ : b0 = b ∧ f0 = ofs := by simpa using hpp
        exact hrg
      have HMR : Hid (wr.drew.rangeAt cb 0 ((sk2 i D L l k).1.map B8)) := PC.rangeAt_row hrd.m
      have HMI : Hid _ := R5.info32 ((sk2 i D L l k).1.map B8) (by simpa using hmk)
      have HAS : Hid (((sk2 i D L l (k + 1)).1.map B8).toArray.size = 32) := by show _ = _; simpa using hAl
      have HA1 : Hid _ := R5.B8_onea (sk2 i D L l (k + 1)).1
      have HMS : Hid (((sk2 i D L l k).1.map B8).toArray.size = 32) := by show _ = _; simpa using hmk
      have HFR : Hid (R5.Fr S w wr.drew) := hrd.fr
      clear hrd hmk hlk hnk hsu hAl hu hmayr hkr hok hr hrg HRJ
      generalize rdL r = RL at *
      generalize (sk2 i D L l k).1.map B8 = ML at *
      go_wp2
      refine wp_region_held_drew (S := fun X => X.rangeAt b0 (f0 + k * 172) RL) (by kernel_rfl) HRR.out (fun hHeld => ?_)
      generalize wr.drew = X at *
      refine wpAnyH_take (i := 0) (oi := ⟨some 19, .move (.tmp 0), 36, _, #[], none⟩) (v := .pointer (some ⟨og, 0, none⟩)) rfl (by kernel_rfl) (by kernel_rfl) (by kernel_rfl) (fun _ _ _ h => h) (Or.inl ⟨by rfl, fun w' hw' => ?_⟩) hHeld ?_
      · first | (go_simp; done) | (go_simp; rfl)
      try simp only [Act.put, qT, q0, qS]
      refine wpAnyH_take (i := 2) (oi := ⟨some 21, .move (.tmp 1), 51, _, #[], none⟩) (v := .slice (some ⟨b0, f0, none⟩) n cap) rfl (by kernel_rfl) (by kernel_rfl) (by kernel_rfl) (fun _ _ _ h => h) (Or.inl ⟨by rfl, fun w' hw' => ?_⟩) hHeld ?_
      · first | (go_simp; done) | (go_simp; rfl)
      try simp only [Act.put, qT, q0, qS]
      refine wpAnyH_take (i := 3) (oi := ⟨some 22, .move (.tmp 6), 3, _, #[], none⟩) (v := .int .i64 (k : Int)) rfl (by kernel_rfl) (by kernel_rfl) (by kernel_rfl) (fun _ _ _ h => h) (Or.inl ⟨by rfl, fun w' hw' => ?_⟩) hHeld ?_
      · first | (go_simp; done) | (go_simp; rfl)
      try simp only [Act.put, qT, q0, qS]
      refine wpAnyH_take (i := 4) (oi := ⟨some 23, .indexAddr 51 (.tmp 21) (.tmp 22), 0, _, #[⟨2, .data⟩, ⟨3, .data⟩], none⟩) (v := .pointer (some ⟨b0, f0 + k * 172, none⟩)) rfl (by kernel_rfl) (by kernel_rfl) (by kernel_rfl) (fun _ _ _ h => h) (Or.inl ⟨by rfl, fun w' hw' => ?_⟩) hHeld ?_
      · first | (go_simp; done) | (go_simp; rfl)
      try simp only [Act.put, qT, q0, qS]
      refine wpAnyH_take (i := 5) (oi := ⟨some 24, .load 33 (.tmp 23), 33, _, #[⟨4, .data⟩], none⟩) rfl (by kernel_rfl) (by kernel_rfl) (by kernel_rfl) (fun _ _ _ h => h) (yieldsIf_load_mid (by rfl) 33 (.tmp 23) rfl (b0) (f0 + k * 172) rfl (RL) _ (fun _ h => h) Tryz.underlying33 rfl HRI.out) hHeld ?_
      try simp only [Act.put, qT, q0, qS]
      refine wpAnyH_ready (rs := [1]) (by kernel_rfl) (by simp) ?_
      refine AllReadyH.cons (o := ⟨some 20, .load 24 (.tmp 5), 24, _, #[], none⟩) rfl (fun K hK => ?_) AllReadyH.nil
      rw [if_pos (by rfl)]
      refine wp_load_mid 24 _ rfl cb 0 rfl ML _ HMR.out Tryz.underlying24 rfl HMI.out ?_
      refine hK.out _ _ hHeld (fun _ => ?_)
      clear hK K
      try simp only [Act.put, qT, q0, qS]
      refine wpAnyH_ready (rs := [6]) (by kernel_rfl) (by simp) ?_
      refine AllReadyH.cons (o := { dst := some 25, op := .call { callee := Go.Callee.value (.func 12), args := #[.tmp 19, .tmp 20, .tmp 24], argTypes := #[36, 24, 33] }, type := 24, pos := _, after := #[⟨0, .data⟩, ⟨1, .data⟩, ⟨5, .data⟩], guard := none }) rfl (fun K hK => ?_) AllReadyH.nil
      rw [if_pos (by rfl)]
      go_wp2_with fail
      refine Calls.mono HNX.out ?_
      rintro e w5 ⟨rfl, hrj, hrc⟩
      have hHs := HRK.out _ hrj.fr
      have hbn : b0 ≠ cb := by have := HBL.out; have := hrj.low; omega
      have hH5 : w5.rangeAt b0 (f0 + k * 172) RL := fun j u hu => (World.cell?_of_block (a := ⟨b0, f0 + k * 172 + j, none⟩) (setRow_other _ _ _ _ hbn)).symm.trans (hHs j u hu)
      have HRJ5 : Hid _ := hrj
      clear hHeld hrj hbn HMR HRR
      refine hK.out _ _ hH5 (fun _ => ?_)
      clear hK K
      try simp only [Act.put, qT, q0, qS]
      have hHeld := hH5
      obtain ⟨AL, hAL⟩ : ∃ A, A = (sk2 i D L l (k + 1)).1.map B8 := ⟨_, rfl⟩
      rw [← hAL] at HRJ5 HAS HA1 hHs
      rw [← hAL]
      clear hAL
      refine wpAnyH_ready (rs := [7]) (by kernel_rfl) (by simp) ?_
      refine AllReadyH.cons (o := ⟨none, .store 24 (.tmp 5) (.tmp 25), 0, _, #[⟨6, .data⟩, ⟨6, .chain⟩, ⟨0, .phase⟩, ⟨1, .phase⟩, ⟨2, .phase⟩, ⟨3, .phase⟩, ⟨4, .phase⟩, ⟨5, .phase⟩, ⟨6, .phase⟩], none⟩) rfl (fun K hK => ?_) AllReadyH.nil
      rw [if_pos (by rfl)]
      refine wp_store_row 24 _ _ rfl cb AL.toArray rfl rfl 24 ML.toArray hrc (R5.info32a _ HAS.out) (HMS.out.trans HAS.out.symm) HA1.out ?_
      refine hK.out _ _ hHs (fun _ => ?_)
      clear hK K
      try simp only [Act.put, qT, q0, qS]
      refine wpAnyH_done (by kernel_rfl) ?_ _
      clear hHeld hH5 hHs hrc
      go_wp2
      go_roundw
      case rel => exact ⟨k + 1, by omega, by omega, by go_num, HRJ5.out⟩
      case measure => simp [intOf]; omega
    · have hkI : ¬ (k : Int) < (n : Int) := by omega
      obtain rfl : k = n := by omega
      have HML0 : Hid ((sk2 i D L l k).1.length = 32) := (HSK.out k (Nat.le_refl _)).1
      obtain ⟨ML, hML⟩ : ∃ L', L' = (sk2 i D L l k).1.map B8 := ⟨_, rfl⟩
      have HMI : Hid _ := R5.info32 ML (by rw [hML]; simpa using HML0.out)
      have HMR : Hid (wr.rangeAt cb 0 ML) := by rw [hML]; exact PC.rangeAt_row HRJ.out.m
      have HZW : Hid (wr.heap[w.heap.size]? = some (.cells ZL.toArray 24 (0, 0))) := HRJ.out.z
      have HEND : Hid (R5.QEnd B og S w ((sk2 i D L l k).1, rrG i m D (sk2 i D L l k).2) dv t (.returned (.agg ML.toArray)) (wr.setRow w.heap.size ML.toArray)) := by rw [hML]; exact HRJ.out.fin hB HO.out
      have HAS : Hid (ML.toArray.size = 32) := by show _ = _; rw [hML]; simpa using HML0.out
      have HA1 : Hid (ML.toArray.all (·.oneCell') = true) := by show _ = _; rw [hML]; exact R5.B8_onea (sk2 i D L l k).1
      clear HRJ HML0 hML
      go_wp2_with (first
        | (refine wpList_load_mid rfl 24 _ rfl cb 0 rfl ML _ HMR.out Tryz.underlying24 rfl HMI.out ?_)
        | (refine wpList_store_row rfl 24 _ _ rfl w.heap.size ML.toArray rfl rfl 24 ZL.toArray HZW.out (R5.info32a _ HAS.out) (HZS.out.trans HAS.out.symm) HA1.out ?_))
      refine bodyPost_ret (v := .agg ML.toArray) ?_ rfl HEND.out
      exact results_cell_row Tryz.results19 _ _ w.heap.size 24 _ (0, 0) _ rfl (setRow_heap _ _ _ _ _ _ HZW.out) Tryz.underlying24 rfl (R5.info32a _ HAS.out)
section
variable {w X : World} {og mb rg : Nat} {i : Bool} {m : List UInt8} {D : List (List UInt8)} {L R : Lg} {rows : Rws}
theorem hr_low {w : World} {v : Value} {l : List Rd} (h : HR w v l) (hne : l ≠ []) : ∀ k, v.ownBlock = some k → k < w.heap.size := fun k e => by
  obtain ⟨p, cap, rfl, h2⟩ := h
  cases l with
  | nil => exact absurd rfl hne
  | cons r l =>
    obtain ⟨_, b, o, hp, hr⟩ := h2 0 r rfl
    subst hp
    have hb : b = k := by simpa [Value.ownBlock] using e
    have := block_lt (hr 0 _ (rdL_0 r))
    rw [← hb]; exact this
theorem TW.replay (h : TW w og mb rg i m D L R rows X) (v : Value) (l : List Rd) (hv : HR w v l) (hll : L.length + l.length < 1000000) (hmay : mayL l = true) :
    Calls Tryz.prog 14 #[.pointer (some ⟨og, 0, none⟩), v] X fun e Y => e = .returned (.tuple #[.agg ((rp2 i D L l).1.map B8).toArray, .int .i64 0]) ∧ TW w og mb rg i m D (rp2 i D L l).2 R rows Y := by
  obtain ⟨S, dv, ov, T, dr, lv, lds, h1, h2, h3, h4, h5, h6⟩ := h.ex
  refine (replay_ok v l X h5.size hll h1 (hv.below h5) (fun hne k e hS => by have := hr_low hv hne k e; have := h1.low k hS; omega) hmay).mono ?_
  intro e Y hE
  rw [rpl_rp2] at hE
  exact TW.pcall h1 h2 h3 h4 h5 h6 hE
theorem TW.replayBad (h : TW w og mb rg i m D L R rows X) (v : Value) (l : List Rd) (hv : HR w v l) (hl : l.length ≤ 1000000) (hmay : mayL l = false) :
    Calls Tryz.prog 14 #[.pointer (some ⟨og, 0, none⟩), v] X fun e Y => e = .returned (R5.errV 2) ∧ TW w og mb rg i m D L R rows Y :=
  (replay_bad og mb v l X h.mc (hv.below h.bel) hl hmay).mono fun e Y ⟨h1, h2⟩ => ⟨h1, h.step h2⟩
theorem TW.rreplay (h : TW w og mb rg i m D L R rows X) (v : Value) (l : List Rd) (hD : ∀ d ∈ D, d.length = 32) (hR : lL R) (hv : HR w v l) (hll : R.length + l.length < 1000000) (hmay : mayL l = true) :
    Calls Tryz.prog 19 #[.pointer (some ⟨rg, 0, none⟩), v] X fun e Y => e = .returned (.agg ((rp2 i D R l).1.map B8).toArray) ∧ TW w og mb rg i m D L (rp2 i D R l).2 rows Y := by
  obtain ⟨S, dv, ov, T, dr, lv, lds, h1, h2, h3, h4, h5, h6⟩ := h.ex
  refine (rreplay_any i m D R v l X hD hR h5.size hll h2 (hv.below h5) (fun hne k e hS => by have := hr_low hv hne k e; have := h2.low k hS; omega) hmay).mono ?_
  intro e Y hE
  exact TW.rcall h1 h2 h3 h4 h5 h6 hE
theorem hr_take {w : World} {p : Option Addr} {cap : Nat} {l : List Rd} (h : HR w (.slice p l.length cap) l) (k : Nat) (hk : k ≤ l.length) : HR w (.slice p k cap) (l.take k) := by
  obtain ⟨p', cap', h1, h2⟩ := h
  obtain ⟨rfl, _, rfl⟩ := Value.slice.inj h1
  refine ⟨p, cap, by rw [List.length_take, Nat.min_eq_left hk], fun j r hj => ?_⟩
  have hjk : j < k := by have := (List.getElem?_eq_some_iff.1 hj).1; rw [List.length_take] at this; omega
  rw [List.getElem?_take, if_pos hjk] at hj
  exact h2 j r hj
end
end Go.Proofs.YtpmknkagnkagpaaGreat.ZC
