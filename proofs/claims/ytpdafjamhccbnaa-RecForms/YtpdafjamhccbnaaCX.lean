/- RecForms: for whatever comes in and is told, and any granule, the statement's function answers true. No condition. -/
import Derived.Test.YtpdafjamhccbnaaCW
import Derived.Test.YtpdafjamhccbnaaCN
import Derived.Test.YtpdafjamhccbnaaCP
import Derived.Carry
import Derived.Deep.Cut
set_option linter.unusedVariables false
set_option linter.unusedSimpArgs false
namespace Go.Proofs.Ytpdafjamhccbnaa.VC
open Go.RowKit

theorem gI : Try.prog.eqGuardType Try.prog.depth 31 = false := by kernel_rfl
theorem eq_in (w : World) (F : List Int) (hF : F.length = 4) : (Op.equalIn 10000 31 (.agg (F.map U).toArray) (.agg (F.map U).toArray)).run Try.prog w = .ok true w := by
  have he := eq_ints w 9997 29 4 Try.underlying29 F F hF hF true (by simp)
  have ht : (F.map U).take 4 = F.map U := List.take_of_length_le (by simp [hF])
  rw [run_equalIn_struct w 9999 _ _ _ (by kernel_rfl) (by kernel_rfl)]
  generalize F.map U = FL at *
  go_simp
/-- In's words, k of them laid. -/
def sti (ns : List Int) (k : Nat) : List Int := ns.take k ++ List.replicate (16 - k) 0
theorem sti_0 (ns : List Int) : sti ns 0 = Z16 := rfl
theorem sti_4 {ns : List Int} (h : ns.length = 4) : sti ns 4 = ns ++ Z12 := by unfold sti Z12; rw [List.take_of_length_le (by omega)]
theorem sti_len {ns : List Int} (h : ns.length = 4) (k : Nat) (hk : k ≤ 4) : (sti ns k).length = 16 := by simp [sti, h]; omega
theorem sti_set {ns : List Int} (h : ns.length = 4) (k : Nat) (hk : k < 4) : (sti ns k).set k (ns.getD k 0) = sti ns (k + 1) := by
  obtain ⟨a, b, c, d, rfl⟩ := four h
  have : k = 0 ∨ k = 1 ∨ k = 2 ∨ k = 3 := by omega
  rcases this with rfl | rfl | rfl | rfl <;> rfl
end Go.Proofs.Ytpdafjamhccbnaa.VC
