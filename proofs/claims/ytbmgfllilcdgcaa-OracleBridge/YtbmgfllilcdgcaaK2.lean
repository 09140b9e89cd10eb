/- Contracts of the reference's Constant, Start and Constants. -/
import Derived.Test.YtbmgfllilcdgcaaZ2
import Derived.Test.YtbmgfllilcdgcaaV2
import Derived.Deep.AppendLies
set_option linter.unusedVariables false
set_option linter.unusedSimpArgs false
namespace Go.Proofs.Ytbmgfllilcdgcaa
open Go.RowKit

/-- The i-th constant; none: 0. -/
def konst (i : Int) : UInt32 := if 0 ≤ i ∧ i ≤ 63 then K64.getD i.toNat 0 else 0
/-- The i-th word of the start; none: 0. -/
def start (i : Int) : UInt32 := if 0 ≤ i ∧ i ≤ 7 then H8.getD i.toNat 0 else 0
theorem tabK : ((List.range 64).all fun i => UInt32.ofNat (rto 3 (prim i) 38) == K64.getD i 0) = true := by decide +kernel
theorem tabH : ((List.range 8).all fun i => UInt32.ofNat (rto 2 (prim i) 38) == H8.getD i 0) = true := by decide +kernel
theorem tabP : ((List.range 64).all fun i => decide (prim i < 4294967296)) = true := by decide +kernel
theorem konst_in (i : Nat) (h : i ≤ 63) : UInt32.ofNat (rto 3 (prim i) 38) = konst (i : Int) := by
  have t := tabK
  rw [List.all_eq_true] at t
  have t1 := t i (List.mem_range.2 (by omega))
  unfold konst
  rw [if_pos (by omega), Int.toNat_natCast]
  simpa using t1
theorem start_in (i : Nat) (h : i ≤ 7) : UInt32.ofNat (rto 2 (prim i) 38) = start (i : Int) := by
  have t := tabH
  rw [List.all_eq_true] at t
  have t1 := t i (List.mem_range.2 (by omega))
  unfold start
  rw [if_pos (by omega), Int.toNat_natCast]
  simpa using t1
theorem prim_lt (i : Nat) (h : i ≤ 63) : prim i < 4294967296 := by
  have t := tabP
  rw [List.all_eq_true] at t
  simpa using t i (List.mem_range.2 (by omega))
theorem konst_out (i : Int) (h : i < 0 ∨ 63 < i) : konst i = 0 := by unfold konst; rw [if_neg (by omega)]
theorem start_out (i : Int) (h : i < 0 ∨ 7 < i) : start i = 0 := by unfold start; rw [if_neg (by omega)]

theorem K64_take (k : Nat) (h : k < 64) : K64.take (k + 1) = K64.take k ++ [konst (k : Int)] := by
  have hl : k < K64.length := h
  rw [List.take_succ_eq_append_getElem hl]
  unfold konst
  rw [if_pos (by omega), Int.toNat_natCast]
  simp [List.getD, List.getElem?_eq_getElem hl]

end Go.Proofs.Ytbmgfllilcdgcaa
