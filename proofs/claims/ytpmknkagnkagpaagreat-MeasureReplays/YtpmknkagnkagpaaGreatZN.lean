/- measure: Replay. -/
import Derived.Test.YtpmknkagnkagpaaGreatZM
set_option linter.unusedVariables false
set_option linter.unusedSimpArgs false
namespace Go.Proofs.YtpmknkagnkagpaaGreat.ZC
open Go.RowKit

def rpl (o : R5.Pra) (l : List Rd) : List UInt8 × R5.Pra := l.foldl (fun s r => nxP s.2 (qOf s.1 r)) (Z0, o)
theorem rpl_snoc (o : R5.Pra) (l : List Rd) (r : Rd) : rpl o (l ++ [r]) = nxP (rpl o l).2 (qOf (rpl o l).1 r) := by unfold rpl; rw [List.foldl_append]; rfl
theorem take_snoc {α : Type} {l : List α} {k : Nat} {x : α} (h : l[k]? = some x) : l.take (k + 1) = l.take k ++ [x] := by
  have hk := (List.getElem?_eq_some_iff.1 h).1
  have he := (List.getElem?_eq_some_iff.1 h).2
  rw [List.take_succ_eq_append_getElem hk, he]
theorem nxP_log (o : R5.Pra) (q : R5.Qn) : (nxP o q).2.log.length ≤ o.log.length + 1 := by
  unfold nxP
  cases h : R5.fndA q o.log with
  | some A => rw [R5.pAsk_some h]; exact Nat.le_succ _
  | none => rw [R5.pAsk_none h]; simp
theorem fold_log : ∀ (l : List Rd) (s : List UInt8 × R5.Pra), (l.foldl (fun s r => nxP s.2 (qOf s.1 r)) s).2.log.length ≤ s.2.log.length + l.length
  | [], s => Nat.le_refl _
  | r :: l, s => by
    have h1 := fold_log l (nxP s.2 (qOf s.1 r))
    have h2 := nxP_log s.2 (qOf s.1 r)
    show (l.foldl _ (nxP s.2 (qOf s.1 r))).2.log.length ≤ _
    rw [List.length_cons]
    omega
theorem rpl_log (o : R5.Pra) (l : List Rd) : (rpl o l).2.log.length ≤ o.log.length + l.length := fold_log l (Z0, o)
structure RI (B og mb : Nat) (S : Nat → Prop) (w : World) (dv : Value) (b1 b2 mp cb : Nat) (ZL : List Value) (o : R5.Pra) (m : List UInt8) (X : World) : Prop where
  po : ∃ S' ov', R5.PO B og mb S' X o dv ov' ∧ (∀ k, S' k → S k ∨ (w.heap.size ≤ k ∧ k ≠ w.heap.size ∧ k ≠ cb ∧ k ≠ b1 ∧ k ≠ b2 ∧ k ≠ mp)) ∧ (∀ k, S k → S' k)
  fr : R5.Fr S w X
  mz : MZ og b1 b2 mp X
  z : X.heap[w.heap.size]? = some (.cells ZL.toArray 24 (0, 0))
  m : X.heap[cb]? = some (.cells (m.map B8).toArray 24 (0, 0))
  low : w.heap.size < b1 ∧ w.heap.size < b2 ∧ w.heap.size < mp ∧ w.heap.size < cb ∧ cb ≠ b1 ∧ cb ≠ b2 ∧ cb ≠ mp
  top : ∀ k, S k → k < w.heap.size
  dvt : ∀ k, dv.ownBlock = some k → k < w.heap.size
section
variable {B og mb : Nat} {S : Nat → Prop} {w X Y : World} {dv : Value} {b1 b2 mp cb : Nat} {ZL : List Value} {o o' : R5.Pra} {m A : List UInt8} {r : Rd}
theorem RI.below (h : RI B og mb S w dv b1 b2 mp cb ZL o m X) (hb : Below X.heap.size X Y) : RI B og mb S w dv b1 b2 mp cb ZL o m Y := by
  obtain ⟨S', ov', h1, h2, h3⟩ := h.po
  exact ⟨⟨S', ov', h1.below hb, h2, h3⟩, h.fr.then hb, h.mz.keep (fun k _ hl => hb.block k hl), (hb.block _ (PC.row_lt h.z)).trans h.z, (hb.block _ (PC.row_lt h.m)).trans h.m, h.low, h.top, h.dvt⟩
theorem RI.len (h : RI B og mb S w dv b1 b2 mp cb ZL o m X) (q : R5.Qn) : (nxP o q).1.length = 32 := by obtain ⟨S', ov', h1, h2, h3⟩ := h.po; exact nxP_len h1 q
theorem RI.clo (h : RI B og mb S w dv b1 b2 mp cb ZL o m X) (hB : B ≤ w.heap.size) (hll : o.log.length < 1000000) (hm : m.length = 32) (hr : r.ok) (hmay : mayD r = true) (hA : A.length = 32) (hR : nxP o (qOf m r) = (A, o')) :
    Calls Tryz.prog (fOf r) #[.agg (m.map B8).toArray, .agg (rdL r).toArray, .pointer (some ⟨b2, 0, none⟩)] X fun e w5 => e = .returned (.agg (A.map B8).toArray) ∧ RI B og mb S w dv b1 b2 mp cb ZL o' A (w5.setRow cb (A.map B8).toArray) ∧ w5.heap[cb]? = some (.cells (m.map B8).toArray 24 (0, 0)) := by
  obtain ⟨S', ov', h1, h2, h3⟩ := h.po
  have hsX := h.fr.size
  obtain ⟨l1, l2, l3, l4, l5, l6, l7⟩ := h.low
  have hno : ∀ k, k = w.heap.size ∨ k = cb ∨ k = b1 ∨ k = b2 ∨ k = mp → ¬ S' k := fun k hk hS => by
    rcases h2 k hS with hS | hS
    · have := h.top k hS; omega
    · omega
  refine (cl_any (Nat.le_trans hB hsX) hll h1 h.mz (hno b2 (by simp)) hm hr hmay hA hR).mono ?_
  rintro e w5 ⟨rfl, hfr, ov5, hpo⟩
  have hs5 := hfr.size
  have hcb := PC.row_lt h.m
  have hc5 : w5.heap[cb]? = some (.cells (m.map B8).toArray 24 (0, 0)) := (hfr.block cb hcb (hno cb (by simp))).trans h.m
  have hk5 : ∀ k, k = w.heap.size ∨ k = b1 ∨ k = b2 ∨ k = mp → k < X.heap.size → (w5.setRow cb (A.map B8).toArray).heap[k]? = X.heap[k]? := fun k hk hl => (setRow_other _ _ _ _ (by omega)).trans (hfr.block k hl (hno k (by rcases hk with h | h | h | h <;> simp [h])))
  have hsz : (w5.setRow cb (A.map B8).toArray).heap.size = w5.heap.size := by simp
  have hzl := PC.row_lt h.z
  have hb1l := PC.row_lt h.mz.c1
  have hb2l := PC.row_lt h.mz.c2
  have hmpl := h.mz.m.lt
  refine ⟨rfl, ⟨⟨fun k => S' k ∨ (X.heap.size ≤ k ∧ k < w5.heap.size), ov5, hpo.keep (Nat.le_of_eq hsz.symm) (fun k hk hS => setRow_other _ _ _ _ (fun e => ?_)), fun k hS => ?_, fun k hS => .inl (h3 k hS)⟩, ?_, h.mz.keep (fun k hk hl => hk5 k (by omega) hl), (hk5 _ (.inl rfl) hzl).trans h.z, setRow_heap _ _ _ _ _ _ hc5, h.low, h.top, h.dvt⟩, hc5⟩
  · subst e
    rcases hS with (hS | hS) | hS
    · exact hno k (by simp) hS
    · omega
    · have := h.dvt k hS; omega
  · rcases hS with hS | hS
    · exact h2 k hS
    · exact .inr (by omega)
  · exact (h.fr.trans hfr (fun k hS => (h2 k hS).imp id (fun h => h.1))).setRow _ _ (.inr (by omega))
theorem RI.fin (h : RI B og mb S w dv b1 b2 mp cb ZL o m X) {ov : Value} {o0 : R5.Pra} (hB : B ≤ w.heap.size) (h0 : R5.PO B og mb S w o0 dv ov) : PR B og mb S w o dv (.tuple #[.agg (m.map B8).toArray, .int .i64 0]) (.returned (.tuple #[.agg (m.map B8).toArray, .int .i64 0])) (X.setRow w.heap.size (m.map B8).toArray) := by
  obtain ⟨S', ov', h1, h2, h3⟩ := h.po
  have hsz : (X.setRow w.heap.size (m.map B8).toArray).heap.size = X.heap.size := by simp
  have hs := h.fr.size
  refine ⟨rfl, h.fr.setRow _ _ (.inr (Nat.le_refl _)), ov', ?_⟩
  refine R5.PO.more (h1.keep (Nat.le_of_eq hsz.symm) (fun k hk hS => setRow_other _ _ _ _ (fun e => ?_))) (fun k hS => ?_) (fun k hS => ?_) (fun k hS => ?_)
  · subst e
    rcases hS with hS | hS
    · rcases h2 _ hS with hS | hS
      · have := h.top _ hS; omega
      · omega
    · have := h.dvt _ hS; omega
  · rcases h2 k hS with hS2 | hS2
    · exact .inl hS2
    · exact .inr ⟨hS2.1, by rw [hsz]; exact h1.top k hS⟩
  · rcases hS with hS | hS
    · exact .inl (h3 k hS)
    · exact .inr (fun e => by have := h.dvt k e; omega)
  · rcases hS with hS | hS
    · exact ⟨h0.low k hS, by have := h.top k hS; rw [hsz]; omega⟩
    · exact ⟨by omega, hS.2⟩
theorem ri_start {ov : Value} {W1 W2 W3 : World} (hB : B ≤ w.heap.size) (ho : R5.PO B og mb S w o dv ov) (hW1 : W1 = w.alloc (.cells ZL.toArray 24 (0, 0))) (hb2 : Below W1.heap.size W1 W2) (hmz : MZ og b1 b2 mp W2) (h1 : W1.heap.size ≤ b1) (h2 : W1.heap.size ≤ b2) (h3 : W1.heap.size ≤ mp) (hW3 : W3 = W2.alloc (.cells ZL.toArray 24 (0, 0))) (hZ : ZL = Z0.map B8) :
    RI B og mb S w dv b1 b2 mp W2.heap.size ZL o Z0 W3 := by
  have hs1 : W1.heap.size = w.heap.size + 1 := by rw [hW1]; simp
  have hb1 : Below w.heap.size w W1 := by rw [hW1]; exact (Below.refl _ _).alloc (Nat.le_refl _) _
  have hb3 : Below W2.heap.size W2 W3 := by rw [hW3]; exact (Below.refl _ _).alloc (Nat.le_refl _) _
  have hs2 := hb2.size
  have hb : Below w.heap.size w W3 := (hb1.trans (hb2.mono (by omega))).trans (hb3.mono (by omega))
  have hl1 := PC.row_lt hmz.c1
  have hl2 := PC.row_lt hmz.c2
  have hl3 := hmz.m.lt
  refine ⟨⟨S, ov, ho.below hb, fun k hS => .inl hS, fun k hS => hS⟩, R5.Fr.ofBelow hb, hmz.keep (fun k _ hl => hb3.block k hl), ?_, ?_, by omega, ho.top, fun k e => (ho.dro k e).2⟩
  · rw [hb3.block _ (by omega), hb2.block _ (by omega), hW1]; exact heap_alloc_new _ _
  · rw [hW3, heap_alloc_new, hZ]
end
end Go.Proofs.YtpmknkagnkagpaaGreat.ZC
