/- Contracts of sha's constants and starts: the tables that they reckon. -/
import Derived.Test.YtefhjjjjbkkedaaG3
import Derived.Great.BuildSlice
set_option linter.unusedVariables false
set_option linter.unusedSimpArgs false
namespace Go.Proofs.Ytefhjjjjbkkedaa
open Go.RowKit

theorem tabP64 : Pr 310 = P64 := by decide +kernel
theorem tabP8 : Pr 18 = P64.take 8 := by decide +kernel
theorem Pr_mono (k : Nat) : (Pr k).length ≤ (Pr (k + 1)).length := by
  show _ ≤ (if _ then _ else _ : List Nat).length
  split
  · exact Nat.le_refl _
  · simp
theorem Pr_le (j k : Nat) (h : j ≤ k) : (Pr j).length ≤ (Pr k).length := by
  induction h with
  | refl => exact Nat.le_refl _
  | step _ ih => exact Nat.le_trans ih (Pr_mono _)
theorem tabL64 : (Pr 309).length = 63 := by decide +kernel
theorem tabL8 : (Pr 17).length = 7 := by decide +kernel
theorem tabM64 : (Pr 310).length = 64 := by rw [tabP64]; rfl
theorem tabM8 : (Pr 18).length = 8 := by rw [tabP8]; rfl
theorem first64 (k : Nat) (h : k ≤ 310) : (Pr k).length < 64 ↔ k < 310 := by
  constructor
  · intro h1
    rcases Nat.lt_or_ge k 310 with h2 | h2
    · exact h2
    · have : k = 310 := by omega
      subst this
      have := tabM64
      omega
  · intro h1
    have := Pr_le k 309 (by omega)
    have := tabL64
    omega
theorem first8 (k : Nat) (h : k ≤ 18) : (Pr k).length < 8 ↔ k < 18 := by
  constructor
  · intro h1
    rcases Nat.lt_or_ge k 18 with h2 | h2
    · exact h2
    · have : k = 18 := by omega
      subst this
      have := tabM8
      omega
  · intro h1
    have := Pr_le k 17 (by omega)
    have := tabL8
    omega
theorem tabKK : ((List.range 64).all fun i => UInt32.ofNat (grt (cbB (P64.getD i 0)) 35) == K64.getD i 0) = true := by decide +kernel
theorem tabHH : ((List.range 8).all fun i => UInt32.ofNat (grt (sqB (P64.getD i 0)) 35) == H8.getD i 0) = true := by decide +kernel
theorem tabPP : ((List.range 64).all fun i => decide (P64.getD i 0 < 400)) = true := by decide +kernel
theorem P64_lt (i : Nat) (h : i < 64) : P64.getD i 0 < 400 := by
  have t := tabPP
  rw [List.all_eq_true] at t
  simpa using t i (List.mem_range.2 h)
theorem grtK (i : Nat) (h : i < 64) : IntKind.u32.wrap ((grt (cbB (P64.getD i 0)) 35 : Nat) : Int) = U (K64.getD i 0) := by
  have t := tabKK
  rw [List.all_eq_true] at t
  have t1 := t i (List.mem_range.2 h)
  rw [beq_iff_eq] at t1
  rw [← t1, IntKind.wrap_u32]; unfold U; rw [nat_ofNat]; omega
theorem grtH (i : Nat) (h : i < 8) : IntKind.u32.wrap ((grt (sqB (P64.getD i 0)) 35 : Nat) : Int) = U (H8.getD i 0) := by
  have t := tabHH
  rw [List.all_eq_true] at t
  have t1 := t i (List.mem_range.2 h)
  rw [beq_iff_eq] at t1
  rw [← t1, IntKind.wrap_u32]; unfold U; rw [nat_ofNat]; omega
theorem tkp_get (i : Nat) (h : i < 8) : (P64.take 8).getD i 0 = P64.getD i 0 := by
  have t : ((List.range 8).all fun i => (P64.take 8).getD i 0 == P64.getD i 0) = true := by decide +kernel
  rw [List.all_eq_true] at t
  simpa using t i (List.mem_range.2 h)

/-- A table of n words of which the first k are laid, the rest noughts. -/
def part (n : Nat) (T : List UInt32) (k : Nat) : List UInt32 := T.take k ++ List.replicate (n - k) 0
theorem part_len (n : Nat) (T : List UInt32) (k : Nat) (hT : T.length = n) (h : k ≤ n) : (part n T k).length = n := by
  unfold part; simp; omega
theorem part_all (n : Nat) (T : List UInt32) (hT : T.length = n) : part n T n = T := by
  unfold part; simp [← hT]
theorem part_set (n : Nat) (T : List UInt32) (k : Nat) (hT : T.length = n) (h : k < n) : ((part n T k).map W32).toArray.setIfInBounds k (W32 (T.getD k 0)) = ((part n T (k + 1)).map W32).toArray := by
  have hk : k < T.length := by omega
  have e : (part n T k).set k (T.getD k 0) = part n T (k + 1) := by
    unfold part
    rw [List.set_append_right _ _ (by simp; omega), List.take_succ_eq_append_getElem hk]
    simp only [List.length_take, Nat.min_eq_left (show k ≤ T.length by omega), Nat.sub_self]
    rw [show n - k = (n - (k + 1)) + 1 by omega, List.replicate_succ, List.set_cons_zero]
    rw [show T.getD k 0 = T[k] from by simp [List.getD, List.getElem?_eq_getElem hk]]
    simp only [List.append_assoc, List.singleton_append]
  rw [List.setIfInBounds_toArray, ← List.map_set, e]
theorem part_cell (n : Nat) (T : List UInt32) (k : Nat) (hT : T.length = n) (h : k < n) : ∃ u, ((part n T k).map W32).toArray[k]? = some u := by
  have hl : k < ((part n T k).map W32).toArray.size := by simp [part_len n T k hT (by omega)]; exact h
  exact ⟨_, Array.getElem?_eq_getElem hl⟩

end Go.Proofs.Ytefhjjjjbkkedaa
