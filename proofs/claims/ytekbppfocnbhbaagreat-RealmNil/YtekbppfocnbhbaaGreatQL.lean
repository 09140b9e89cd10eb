/- Contracts of slices.Clone at digests, and the program's New. -/
import Derived.Test.YtekbppfocnbhbaaGreatQK
import Derived.Lib.LazyBuf
set_option linter.unusedVariables false
set_option linter.unusedSimpArgs false
namespace Go.Proofs.YtekbppfocnbhbaaGreat.R5
open scoped Classical
open Go.RowKit

def dC (ds : List (List UInt8)) : List Value := ds.flatMap fun d => d.map B8
theorem dC_len : ∀ (ds : List (List UInt8)), (∀ d ∈ ds, d.length = 32) → (dC ds).length = ds.length * 32
  | [], _ => rfl
  | d :: ds, h => by
    unfold dC
    rw [List.flatMap_cons, List.length_append, List.length_map, h d (by simp)]
    have := dC_len ds (fun x hx => h x (by simp [hx]))
    unfold dC at this
    rw [this, List.length_cons]; omega
theorem dC_at : ∀ (ds : List (List UInt8)), (∀ d ∈ ds, d.length = 32) → ∀ i, i < ds.length → ∀ j, j < 32 → (dC ds)[i * 32 + j]? = ((ds.getD i []).map B8)[j]?
  | [], _, i, hi, _, _ => by simp at hi
  | d :: ds, h, i, hi, j, hj => by
    have hd : (d.map B8).length = 32 := by simpa using h d (by simp)
    unfold dC
    rw [List.flatMap_cons]
    cases i with
    | zero => rw [Nat.zero_mul, Nat.zero_add, List.getElem?_append_left (by omega)]; rfl
    | succ i =>
      rw [List.getElem?_append_right (by rw [hd]; omega), hd, show (i + 1) * 32 + j - 32 = i * 32 + j by omega]
      have := dC_at ds (fun x hx => h x (by simp [hx])) i (by simpa using hi) j hj
      unfold dC at this
      rw [this]; rfl
theorem dC_one (ds : List (List UInt8)) : ∀ u ∈ dC ds, u.oneCell' = true := by
  intro u hu
  obtain ⟨d, _, hd⟩ := List.mem_flatMap.1 hu
  exact B8_one d u hd
/-- Digests in own memory are digests. -/
theorem hds_own {B : Nat} {w : World} {v : Value} {ds : List (List UInt8)} (hl : ∀ d ∈ ds, d.length = 32) (h : w.ownsRow B 33 32 v ds.length (dC ds)) : HDs w v ds := by
  refine ⟨hl, ?_⟩
  rcases h.2 with ⟨e1, e2⟩ | ⟨g, cap, cur, e1, e2, e3, e4, e5, e6, e7⟩
  · exact ⟨none, 0, by rw [e1, e2], fun i hi => by omega⟩
  · refine ⟨_, cap, e1, fun i hi => ⟨g, 0, rfl, fun j u hu => ?_⟩⟩
    have hdl : (ds.getD i []).length = 32 := by
      rw [List.getD, List.getElem?_eq_getElem hi]
      exact hl _ (List.getElem_mem hi)
    have hj : j < 32 := by have := (List.getElem?_eq_some_iff.1 hu).1; rw [List.length_map, hdl] at this; exact this
    rw [cell_of_row _ _ _ _ _ _ e3]
    have h1 := dC_at ds hl i hi j hj
    rw [← e7] at h1
    rw [List.getElem?_take, if_pos (by omega)] at h1
    rw [← Array.getElem?_toList, Nat.zero_add, h1]
    exact hu
theorem infoDg : (Tryz.prog.info? 33).map (fun i => (i.zero, i.size, i.bytes)) = some (some (dV (List.replicate 32 0)), 32, 32) := by kernel_rfl
/-- The cells of a slice of digests. -/
theorem hds_news {w : World} {a : Addr} {n cap : Nat} {ds : List (List UInt8)} (h : HDs w (.slice (some a) n cap) ds) : n = ds.length ∧ ∀ j u, (dC ds)[j]? = some u → w.cell? (a.add j) = some u := by
  obtain ⟨hl, p, c, e, hr⟩ := h
  simp only [Value.slice.injEq] at e
  refine ⟨e.2.1, fun j u hu => ?_⟩
  have hj : j < ds.length * 32 := by have := (List.getElem?_eq_some_iff.1 hu).1; rwa [dC_len ds hl] at this
  obtain ⟨b, o, e1, hr⟩ := hr (j / 32) (by omega)
  have h1 := dC_at ds hl (j / 32) (by omega) (j % 32) (by omega)
  rw [show j / 32 * 32 + j % 32 = j by omega, hu] at h1
  have h2 := hr (j % 32) u h1.symm
  have ha : a = ⟨b, o, none⟩ := by rw [e1] at e; simpa using e.1
  rw [ha, add_none, show o + j = o + j / 32 * 32 + j % 32 by omega]
  exact h2

set_option maxHeartbeats 4000000 in
set_option maxRecDepth 100000 in
theorem cloneD_any (p : Option Addr) (n cap : Nat) (ds : List (List UInt8)) (w : World) (hpc : p = none → cap = 0) (hl : ds.length ≤ 1099511627776) (h : HDs w (.slice p n cap) ds) :
    Calls Tryz.prog 72 #[.slice p n cap] w fun e w' => ∃ v, e = .returned v ∧ w'.ownsRow w.heap.size 33 32 v ds.length (dC ds) ∧ Below w.heap.size w w' := by
  have qT : ∀ (w : World) (r : Option Addr) (n c : Nat), (binOp .eql 22 (.slice r n c) (.slice none 0 0)).run Tryz.prog w = .ok (.bool r.isNone) w := fun w r n c => Lib.run_eql_slice_nil w _ _ r n c 0 0 Tryz.underlying22
  cases p with
  | none =>
    obtain ⟨hl, p, c, e, hr⟩ := h
    have hds : ds = [] := by
      cases ds with
      | nil => rfl
      | cons d ds => obtain ⟨b, o, e1, _⟩ := hr 0 (by simp); simp [e1] at e
    subst hds
    clear hr hl
    go_enter Tryz.func72, Tryz.ntmps72
    go_wp2
    go_ret
    exact ⟨_, rfl, World.ownsRow_nil _ _ _ _, Below.refl _ _⟩
  | some a =>
    obtain ⟨hn, hnews⟩ := hds_news h
    subst hn
    have HN : Hid _ := hnews
    have HL : Hid _ := dC_len ds h.1
    have HO1 : Hid _ := dC_one ds
    clear hnews h
    obtain ⟨i0, hi, hz0, hz1, hz2⟩ := info_parts infoDg
    go_enter Tryz.func72, Tryz.ntmps72
    have HOE : Hid ((w.alloc (.cells #[] 33 (0, 0))).ownsRow w.heap.size 33 32 (.slice (some ⟨w.heap.size, 0, none⟩) 0 0) 0 []) := ⟨rfl, .inr ⟨w.heap.size, 0, #[], rfl, Nat.le_refl _, heap_alloc_new _ _, Nat.le_refl _, by unfold maxLen; omega, rfl, rfl⟩⟩
    have HN' : Hid (∀ j u, (dC ds)[j]? = some u → (w.alloc (.cells #[] 33 (0, 0))).cell? (a.add j) = some u) := fun j u hu => (Below.cell ((Below.refl _ w).alloc (Nat.le_refl _) _) (block_lt (HN.out j u hu))).trans (HN.out j u hu)
    go_wp2_with (at_builtin; refine wpList_append_own _ rfl (.tmp 5) (.tmp 6) 22 rfl w.heap.size 33 i0 (dV (List.replicate 32 0)) 32 32 Tryz.underlying22 hi hz0 hz1 hz2 rfl (by decide) (.slice (some ⟨w.heap.size, 0, none⟩) 0 0) 0 [] rfl HOE.out a ds.length cap (dC ds) rfl HL.out HN'.out HO1.out (by unfold maxLen; omega) (by omega) (by simp) ?_; intro v1 w1 hown1 hgr1 hn1)
    go_ret
    rw [List.nil_append, Nat.zero_add] at hown1
    exact ⟨_, rfl, hown1, ((Below.refl _ w).alloc (Nat.le_refl _) _).grown hgr1 (by simp) (fun k e => by have e' : w.heap.size = k := (by simpa [Value.ownBlock] using e); omega)⟩
end Go.Proofs.YtekbppfocnbhbaaGreat.R5
