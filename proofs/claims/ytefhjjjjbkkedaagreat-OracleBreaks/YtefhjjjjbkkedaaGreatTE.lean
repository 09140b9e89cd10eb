/- The statements' one: halves of the data. -/
import Derived.Test.YtefhjjjjbkkedaaGreatTB
set_option linter.unusedVariables false
set_option linter.unusedSimpArgs false
namespace Go.Proofs.YtefhjjjjbkkedaaGreat.R5
open scoped Classical
open Go.RowKit

theorem halfTo (W : World) (p : Option Addr) (N cap k : Nat) (h : k ≤ cap) : (Instr.sliceAt 37 (.slice p N cap) none (some (.int .i64 (k : Int))) none).run Tryz.prog W = .ok (.slice p k cap) W := by
  have hu : Tryz.prog.underlying 37 = some (.slice (Tryz.prog.elem 37)) := by kernel_rfl
  have he : Tryz.prog.elem 37 = 5 := by kernel_rfl
  rw [run_sliceAt_slice W 37 _ _ _ _ hu, run_slice_h W 37 _ _ _ hu .i64 _ (by omega) (by omega), he, size_u8]
  cases p with
  | none => simp [Result.andThen, sliced]
  | some a => obtain ⟨b, o, sp⟩ := a; cases sp <;> simp [Result.andThen, sliced, Addr.add]
theorem halfOff (W : World) (p : Option Addr) (N cap k : Nat) (h : k ≤ N) (hN : N ≤ cap) : (Instr.sliceAt 37 (.slice p N cap) (some (.int .i64 (k : Int))) none none).run Tryz.prog W = .ok (.slice (if cap = k then p else p.map (·.add k)) (N - k) (cap - k)) W := by
  have hu : Tryz.prog.underlying 37 = some (.slice (Tryz.prog.elem 37)) := by kernel_rfl
  have he : Tryz.prog.elem 37 = 5 := by kernel_rfl
  rw [run_sliceAt_slice W 37 _ _ _ _ hu, run_slice_l W 37 _ _ _ hu .i64 _ (by omega) (by omega), he, size_u8]
  simp [Result.andThen, sliced]
theorem hb_half2 {w : World} {p : Option Addr} {cap : Nat} {l : List UInt8} (h : HB w (.slice p l.length cap) l) (k : Nat) (hk : k ≤ l.length) : HB w (.slice (if cap = k then p else p.map (·.add k)) (l.length - k) (cap - k)) (l.drop k) := by
  rcases h with ⟨h1, p', c', h2, h3⟩ | ⟨b, o, c, h1, h2, h3, h4⟩
  · subst h1
    simp only [Value.slice.injEq] at h2
    obtain ⟨rfl, _, rfl⟩ := h2
    have hk0 : k = 0 := by simpa using hk
    subst hk0
    refine .inl ⟨rfl, _, _, rfl, fun h => ?_⟩
    split at h
    · have := h3 h; omega
    · cases p with
      | none => have := h3 rfl; omega
      | some a => simp at h
  · simp only [Value.slice.injEq] at h1
    obtain ⟨rfl, _, rfl⟩ := h1
    split
    · have hd : l.drop k = [] := List.drop_of_length_le (by omega)
      rw [hd, show l.length - k = 0 by omega]
      exact .inl ⟨rfl, _, _, rfl, fun h => by cases h⟩
    · refine .inr ⟨b, o + k, cap - k, ?_, by rw [List.length_drop]; omega, by omega, fun i hi => ?_⟩
      · rw [List.length_drop]
        simp only [Option.map_some, add_none]
      · rw [List.length_drop] at hi
        have := h4 (k + i) (by omega)
        rw [show o + k + i = o + (k + i) by omega, this]
        simp [List.getD]
theorem hb_len {w : World} {p : Option Addr} {N cap : Nat} {l : List UInt8} (h : HB w (.slice p N cap) l) : l.length ≤ cap := by
  rcases h with ⟨h1, _⟩ | ⟨b, o, c, h1, h2, h3, h4⟩
  · simp [h1]
  · simp only [Value.slice.injEq] at h1
    omega
theorem bs_trip (w : World) (p1 p2 : Option Addr) (n1 n2 c1 c2 : Nat) : (Instr.buildSlice 83 3 #[(0, .slice p1 n1 c1), (1, .slice none 0 0), (2, .slice p2 n2 c2)]).run Tryz.prog w = .ok (.slice (some ⟨w.heap.size, 0, none⟩) 3 3) (w.alloc (.cells #[.slice p1 n1 c1, .slice none 0 0, .slice p2 n2 c2] 37 (0, 0))) := by kernel_rfl
theorem hp_trip {X : World} {u v : Value} {a b : List UInt8} (hu : HB X u a) (hv : HB X v b) : HP (X.alloc (.cells #[u, .slice none 0 0, v] 37 (0, 0))) (.slice (some ⟨X.heap.size, 0, none⟩) 3 3) [a, [], b] := by
  have hb : Below X.heap.size X (X.alloc (.cells #[u, .slice none 0 0, v] 37 (0, 0))) := (Below.refl _ _).alloc (Nat.le_refl _) _
  refine ⟨_, 3, rfl, fun i hi => ?_⟩
  have hi2 : i = 0 ∨ i = 1 ∨ i = 2 := by simp at hi; omega
  rcases hi2 with rfl | rfl | rfl
  · exact ⟨X.heap.size, u, rfl, by rw [cell_of_row _ _ 0 _ _ _ (heap_alloc_new _ _)]; rfl, hu.below hb⟩
  · exact ⟨X.heap.size, .slice none 0 0, rfl, by rw [cell_of_row _ _ 1 _ _ _ (heap_alloc_new _ _)]; rfl, .inl ⟨rfl, none, 0, rfl, fun _ => rfl⟩⟩
  · exact ⟨X.heap.size, v, rfl, by rw [cell_of_row _ _ 2 _ _ _ (heap_alloc_new _ _)]; rfl, hv.below hb⟩
end Go.Proofs.YtefhjjjjbkkedaaGreat.R5
