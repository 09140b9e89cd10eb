/- Contract of ref 4's Stream. -/
import Derived.Test.YtjohckgdbbhpdaaD8
import Derived.Test.YtjohckgdbbhpdaaH7
set_option linter.unusedVariables false
set_option linter.unusedSimpArgs false
namespace Go.Proofs.Ytjohckgdbbhpdaa
open Go.RowKit

theorem HB.take {w : World} {p : Option Addr} {N cap : Nat} {l : List UInt8} (h : HB w (.slice p N cap) l) (n : Nat) (hn : n ≤ l.length) : HB w (.slice p n cap) (l.take n) := by
  rcases h with ⟨rfl, p', cap', e, hpc⟩ | ⟨b, o, cap', e, h1, h2, h3⟩
  · simp only [Value.slice.injEq] at e
    obtain ⟨rfl, rfl, rfl⟩ := e
    have : n = 0 := by simpa using hn
    subst this
    exact .inl ⟨rfl, _, _, rfl, hpc⟩
  · simp only [Value.slice.injEq] at e
    obtain ⟨rfl, rfl, rfl⟩ := e
    refine .inr ⟨b, o, cap, ?_, ?_, ?_, ?_⟩
    · rw [List.length_take, Nat.min_eq_left hn]
    · rw [List.length_take, Nat.min_eq_left hn]; omega
    · first | exact h2 | (rw [List.length_take]; omega)
    · intro i hi
      rw [List.length_take, Nat.min_eq_left hn] at hi
      rw [h3 i (by omega)]
      simp [List.getD, List.getElem?_take, hi]
/-- The block with number i, as far as k. -/
def ctP (nonce be : List UInt8) (k : Nat) : List UInt8 := (List.range 16).map fun j => if j < 8 then (if j < k then nonce.getD j 0 else 0) else (if j - 8 < k then be.getD (j - 8) 0 else 0)
theorem ctP_len (nonce be : List UInt8) (k : Nat) : (ctP nonce be k).length = 16 := by unfold ctP; simp
theorem ctP_at (nonce be : List UInt8) (k j : Nat) (h : j < (ctP nonce be k).length) : (ctP nonce be k)[j] = if j < 8 then (if j < k then nonce.getD j 0 else 0) else (if j - 8 < k then be.getD (j - 8) 0 else 0) := by simp [ctP]
theorem ctP_zero (nonce be : List UInt8) : ctP nonce be 0 = List.replicate 16 0 := by
  apply List.ext_getElem
  · simp [ctP_len]
  · intro j h1 h2
    rw [ctP_at, List.getElem_replicate]
    simp
theorem ctP_step (nonce be : List UInt8) (k : Nat) (hk : k < 8) : ((ctP nonce be k).set k (nonce.getD k 0)).set (8 + k) (be.getD k 0) = ctP nonce be (k + 1) := by
  apply List.ext_getElem
  · simp [ctP_len]
  · intro j h1 h2
    have hj : j < 16 := by rw [ctP_len] at h2; exact h2
    rw [ctP_at, List.getElem_set]
    by_cases e1 : 8 + k = j
    · rw [if_pos e1, if_neg (by omega), if_pos (by omega), show j - 8 = k by omega]
    · rw [if_neg e1, List.getElem_set]
      by_cases e2 : k = j
      · rw [if_pos e2, if_pos (by omega), if_pos (by omega), e2]
      · rw [if_neg e2, ctP_at]
        by_cases h8 : j < 8
        · rw [if_pos h8, if_pos h8]
          by_cases hjk : j < k
          · rw [if_pos hjk, if_pos (by omega)]
          · rw [if_neg hjk, if_neg (by omega)]
        · rw [if_neg h8, if_neg h8]
          by_cases hjk : j - 8 < k
          · rw [if_pos hjk, if_pos (by omega)]
          · rw [if_neg hjk, if_neg (by omega)]
theorem ctP_all (nonce be : List UInt8) (hn : nonce.length = 8) (hb : be.length = 8) : ctP nonce be 8 = nonce ++ be := by
  apply List.ext_getElem
  · simp [ctP_len, hn, hb]
  · intro j h1 h2
    have hj : j < 16 := by rw [ctP_len] at h1; exact h1
    rw [ctP_at]
    by_cases h8 : j < 8
    · rw [if_pos h8, if_pos h8, List.getElem_append_left (by omega)]
      simp [List.getD, List.getElem?_eq_getElem (show j < nonce.length by omega)]
    · rw [if_neg h8, if_pos (by omega), List.getElem_append_right (by omega)]
      simp [List.getD, List.getElem?_eq_getElem (show j - 8 < be.length by omega), hn]
theorem rev_le (i k : Nat) (hk : k < 8) : (((W1.le 8 i).reverse.getD k 0).toNat : Nat) = i / 2 ^ (56 - 8 * k) % 256 := by
  have hl := W1.le_length 8 i
  rw [List.getD, List.getElem?_reverse (by omega), hl, W1.le_get 8 i _ (by omega)]
  rw [show 2 ^ (56 - 8 * k) = 256 ^ (8 - 1 - k) by rw [show (256 : Nat) = 2 ^ 8 from rfl, ← Nat.pow_mul]; congr 1; omega]
  show (i / 256 ^ (8 - 1 - k) % 256) % 256 = _
  omega
/-- What stays while the reference's stream is made. -/
def RW (w : World) (B g7 g8 : Nat) (NL TL FL : List Value) (v : Value) (l : List UInt8) (wr : World) : Prop :=
  wr.heap[w.heap.size + 1]? = some (.cells NL.toArray 35 (0, 0)) ∧ wr.heap[g7]? = some (.cells TL.toArray 27 (0, 0)) ∧ wr.heap[g8]? = some (.cells FL.toArray 29 (0, 0)) ∧ FB B wr v l ∧ Below w.heap.size w wr ∧ B ≤ wr.heap.size
theorem RW.below {w : World} {B C g7 g8 : Nat} {NL TL FL : List Value} {v : Value} {l : List UInt8} {a b : World} (h : RW w B g7 g8 NL TL FL v l a) (h1 : w.heap.size + 1 < B) (h7 : g7 < B) (h8 : g8 < B) (hb : Below C a b) (hC : a.heap.size = C) : RW w B g7 g8 NL TL FL v l b := by
  subst hC
  obtain ⟨k1, k2, k3, k4, k5, k6⟩ := h
  have := hb.size
  exact ⟨(hb.block _ (by omega)).trans k1, (hb.block _ (by omega)).trans k2, (hb.block _ (by omega)).trans k3, k4.below hb, k5.trans (hb.mono (by omega)), by omega⟩
theorem RW.row {w : World} {B g g7 g8 : Nat} {NL TL FL : List Value} {v : Value} {l : List UInt8} {a : World} (h : RW w B g7 g8 NL TL FL v l a) (h1 : w.heap.size + 1 < B) (h7 : g7 < B) (h8 : g8 < B) (hg : B ≤ g) (hne : ∀ k, v.ownBlock = some k → k < g) (u : Nat) (x : Value) : RW w B g7 g8 NL TL FL v l (a.setCell ⟨g, u, none⟩ x) := by
  obtain ⟨k1, k2, k3, k4, k5, k6⟩ := h
  refine ⟨?_, ?_, ?_, ?_, k5.setCell (p := ⟨g, u, none⟩) (by show w.heap.size ≤ g; omega) _, by simpa using k6⟩
  · rw [heap_setCell_other _ _ _ _ (by show w.heap.size + 1 ≠ g; omega)]; exact k1
  · rw [heap_setCell_other _ _ _ _ (by show g7 ≠ g; omega)]; exact k2
  · rw [heap_setCell_other _ _ _ _ (by show g8 ≠ g; omega)]; exact k3
  · refine ⟨k4.1, ?_⟩
    rcases k4.2 with e | ⟨g', cap, cur, e1, e2, e3, e4⟩
    · exact .inl e
    · refine .inr ⟨g', cap, cur, e1, e2, ?_, e4⟩
      have := hne g' (by rw [e1]; rfl)
      rw [heap_setCell_other _ _ _ _ (by show g' ≠ g; omega)]; exact e3
theorem RW.setRow {w : World} {B g g7 g8 : Nat} {NL TL FL : List Value} {v : Value} {l : List UInt8} {a : World} (h : RW w B g7 g8 NL TL FL v l a) (h1 : w.heap.size + 1 < B) (h7 : g7 < B) (h8 : g8 < B) (hg : B ≤ g) (hne : ∀ k, v.ownBlock = some k → k < g) (N : Array Value) : RW w B g7 g8 NL TL FL v l (a.setRow g N) := by
  obtain ⟨k1, k2, k3, k4, k5, k6⟩ := h
  refine ⟨?_, ?_, ?_, ?_, below_setRow k5 (by omega) _, by simpa using k6⟩
  · rw [setRow_other _ _ _ _ (by omega)]; exact k1
  · rw [setRow_other _ _ _ _ (by omega)]; exact k2
  · rw [setRow_other _ _ _ _ (by omega)]; exact k3
  · refine ⟨k4.1, ?_⟩
    rcases k4.2 with e | ⟨g', cap, cur, e1, e2, e3, e4⟩
    · exact .inl e
    · refine .inr ⟨g', cap, cur, e1, e2, ?_, e4⟩
      have := hne g' (by rw [e1]; rfl)
      rw [setRow_other _ _ _ _ (by omega)]; exact e3
theorem sliceTo8 (W : World) (p : Option Addr) (N cap k : Nat) (h : k ≤ cap) : (Instr.slice 36 (.slice p N cap) none (some (.int .i64 (k : Int))) none).run Try.prog W = .ok (.slice p k cap) W := by
  have hu : Try.prog.underlying 36 = some (.slice (Try.prog.elem 36)) := by kernel_rfl
  have he : Try.prog.elem 36 = 5 := by kernel_rfl
  rw [run_slice_h W 36 _ _ _ hu .i64 _ (by omega) (by omega), he, size_u8]
  cases p <;> simp [Result.andThen, sliced, Addr.add]
theorem slice16r (w : World) (b : Nat) : (Instr.sliceAt 26 (.pointer (some ⟨b, 0, none⟩)) none none none).run Try.prog w = .ok (.slice (some ⟨b, 0, none⟩) 16 16) w := by
  have ha : Try.prog.arrayLen 26 = 16 := by kernel_rfl
  have hu : Try.prog.underlying 26 = some (.array (Try.prog.arrayLen 26) (Try.prog.elem 26)) := by kernel_rfl
  have he : Try.prog.elem 26 = 5 := by kernel_rfl
  rw [run_sliceAt_array_all w 26 _ hu, he, size_u8, ha]
  have hadd : (⟨b, 0, none⟩ : Addr).add (0 * 1) = ⟨b, 0, none⟩ := by unfold Addr.add; split <;> simp_all
  simp [Result.andThen, slicedAt, hadd]

end Go.Proofs.Ytjohckgdbbhpdaa
