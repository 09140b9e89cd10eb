/- tree: the document's Within. -/
import Derived.Test.YtnijjoankahddaaWo
set_option linter.unusedVariables false
set_option linter.unusedSimpArgs false
namespace Go.Proofs.Ytnijjoankahddaa.DC
open Go.RowKit

set_option maxHeartbeats 1000000 in
set_option maxRecDepth 100000 in
theorem rwit_any (n a : Nat) (w : World) (hn : n ≤ 4096) (ha : a < 18446744073709551616) :
    Calls Try.prog 9 #[.int .i64 (n : Int), .int .u64 (a : Int)] w fun e w' => e = .returned (.bool (witB n a)) ∧ w' = w := by
  have hq : ((a : Int).tdiv 128) = ((a / 128 : Nat) : Int) := rfl
  have hr : ((a : Int).tmod 128) = ((a % 128 : Nat) : Int) := rfl
  have hwy : IntKind.u64.wrap ((a / 128 : Nat) : Int) = ((a / 128 : Nat) : Int) := by rw [W1.wrap_u64]; omega
  have hwz : IntKind.u64.wrap ((a % 128 : Nat) : Int) = ((a % 128 : Nat) : Int) := by rw [W1.wrap_u64]; omega
  by_cases h2 : a % 128 = 0
  · have h2b : (((a % 128 : Nat) : Int) == 0) = true := by rw [h2]; rfl
    have h2c : ((a : Int) % 128 == 0) = true := by rw [beq_iff_eq]; omega
    by_cases h1 : 64 ≤ n
    · have h1I : (64 : Int) ≤ (n : Int) := by omega
      obtain ⟨f, hf⟩ : ∃ f : Nat, n = f + 64 := ⟨n - 64, by omega⟩
      have hw1 : IntKind.i64.wrap ((n : Int) - 64) = (f : Int) := by rw [IntKind.wrap_i64]; omega
      have hu1 : IntKind.u64.wrap (f : Int) = (f : Int) := by rw [W1.wrap_u64]; omega
      by_cases h3 : a / 128 ≤ f
      · have hd : witB n a = true := decide_eq_true ⟨h1, h2, by omega⟩
        rw [hd]
        have h3I : ((a / 128 : Nat) : Int) ≤ (f : Int) := by omega
        generalize ((a / 128 : Nat) : Int) = y at *
        generalize ((a % 128 : Nat) : Int) = z at *
        clear hd hf h1 h2 h3 ha hn
        generalize (f : Int) = F at *
        generalize (n : Int) = NN at *
        go_enter Try.func9, Try.ntmps9
        go_wp2
        go_ret
        exact ⟨by first | rfl | (show Ending.returned (.bool (decide _)) = _; first | rw [decide_eq_false (by omega)] | rw [decide_eq_true (by omega)]), rfl⟩
      · have hd : witB n a = false := decide_eq_false (fun h => h3 (by have := h.2.2; omega))
        rw [hd]
        have h3I : ¬ ((a / 128 : Nat) : Int) ≤ (f : Int) := by omega
        generalize ((a / 128 : Nat) : Int) = y at *
        generalize ((a % 128 : Nat) : Int) = z at *
        clear hd hf h1 h2 h3 ha hn
        generalize (f : Int) = F at *
        generalize (n : Int) = NN at *
        go_enter Try.func9, Try.ntmps9
        go_wp2
        go_ret
        exact ⟨by first | rfl | (show Ending.returned (.bool (decide _)) = _; first | rw [decide_eq_false (by omega)] | rw [decide_eq_true (by omega)]), rfl⟩
    · have h1I : ¬ (64 : Int) ≤ (n : Int) := by omega
      have hd : witB n a = false := decide_eq_false (fun h => h1 h.1)
      rw [hd]
      generalize ((a / 128 : Nat) : Int) = y at *
      generalize ((a % 128 : Nat) : Int) = z at *
      clear hd h1 h2 ha hn
      generalize (n : Int) = NN at *
      go_enter Try.func9, Try.ntmps9
      go_wp2
      go_ret
      exact ⟨by first | rfl | (show Ending.returned (.bool (decide _)) = _; first | rw [decide_eq_false (by omega)] | rw [decide_eq_true (by omega)]), rfl⟩
  · have h2b : (((a % 128 : Nat) : Int) == 0) = false := by rw [beq_eq_false_iff_ne]; omega
    have h2c : ((a : Int) % 128 == 0) = false := by rw [beq_eq_false_iff_ne]; omega
    have hd : witB n a = false := decide_eq_false (fun h => h2 h.2.1)
    rw [hd]
    generalize ((a / 128 : Nat) : Int) = y at *
    generalize ((a % 128 : Nat) : Int) = z at *
    clear hd h2 ha hn
    generalize (n : Int) = NN at *
    go_enter Try.func9, Try.ntmps9
    go_wp2
    go_ret
    exact ⟨by first | rfl | (show Ending.returned (.bool (decide _)) = _; first | rw [decide_eq_false (by omega)] | rw [decide_eq_true (by omega)]), rfl⟩
end Go.Proofs.Ytnijjoankahddaa.DC
