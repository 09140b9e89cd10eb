/- Contracts of wire's Put, Get and Turned. -/
import Derived.Test.YtpklboicgjpmeaaDoorB1
set_option linter.unusedVariables false
set_option linter.unusedSimpArgs false
namespace Go.Proofs.YtpklboicgjpmeaaDoor
open Go.RowKit

theorem shr_zero (n size : Nat) (hf : n < 256 ^ size) : ((n : Int) / 2 ^ (8 * size) != 0) = false := by
  have : ((2 : Int) ^ (8 * size)) = ((256 ^ size : Nat) : Int) := by rw [← W1.pow256]; simp
  rw [this, bne_eq_false_iff_eq, ← Int.natCast_ediv, Nat.div_eq_of_lt hf]; rfl

theorem shr_nonzero (n size : Nat) (hf : 256 ^ size ≤ n) : ((n : Int) / 2 ^ (8 * size) != 0) = true := by
  have : ((2 : Int) ^ (8 * size)) = ((256 ^ size : Nat) : Int) := by rw [← W1.pow256]; simp
  rw [this, bne_iff_ne, ← Int.natCast_ediv]
  have := Nat.div_pos hf (Nat.pow_pos (by decide))
  omega

set_option maxHeartbeats 400000 in
theorem put_ok (n : Nat) (size : Nat) (w : World) (h1 : 1 ≤ size) (h8 : size ≤ 8) (hn : n < 18446744073709551616) (hf : n < 256 ^ size) :
    Calls Tryd.prog 40 #[.int .u64 (n : Int), .int .i64 (size : Int)] w fun e w' => e = .returned (.tuple #[.slice (some ⟨w.heap.size, 0, none⟩) size size, .int .i64 0]) ∧ FB w.heap.size w' (.slice (some ⟨w.heap.size, 0, none⟩) size size) (W1.le size n) ∧ Below w.heap.size w w' := by
  have hsh := shr_zero n size hf
  clear hf
  go_enter Tryd.func40, Tryd.ntmps40
  go_wp2_with (go_at_call 53; refine (lowestFirst_any _ _ _ hn h8).mono ?_; rintro e w1 ⟨rfl, hfb, hbel⟩)
  go_ret2
  exact ⟨rfl, hfb, hbel⟩

set_option maxHeartbeats 400000 in
theorem put_no (n : Nat) (size : Int) (w : World) (hno : size < 1 ∨ 8 < size ∨ ∃ s : Nat, size = s ∧ 1 ≤ s ∧ s ≤ 8 ∧ 256 ^ s ≤ n) :
    Calls Tryd.prog 40 #[.int .u64 (n : Int), .int .i64 size] w fun e w' => e = .returned (.tuple #[.slice none 0 0, .int .i64 2]) ∧ w = w' := by
  rcases hno with h | h | ⟨s, rfl, h1, h8, hf⟩
  · go_enter Tryd.func40, Tryd.ntmps40
    go_wp2
    go_ret2
    exact ⟨rfl, rfl⟩
  · have h1 : ¬ size < 1 := by omega
    go_enter Tryd.func40, Tryd.ntmps40
    go_wp2
    go_ret2
    exact ⟨rfl, rfl⟩
  · have hsh := shr_nonzero n s hf
    clear hf
    go_enter Tryd.func40, Tryd.ntmps40
    go_wp2
    go_ret2
    exact ⟨rfl, rfl⟩



end Go.Proofs.YtpklboicgjpmeaaDoor
