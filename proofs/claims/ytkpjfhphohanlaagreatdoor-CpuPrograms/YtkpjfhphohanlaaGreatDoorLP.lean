/- cpu: how many lines a text has (the program). -/
import Derived.Test.YtkpjfhphohanlaaGreatDoorJZ
set_option linter.unusedVariables false
set_option linter.unusedSimpArgs false
namespace Go.Proofs.YtkpjfhphohanlaaGreatDoor.JC
open Go.RowKit
open Go.Proofs.YtkpjfhphohanlaaGreatDoor.EC (row_lt heap_at rangeAt_below rangeAt_row ret_bool ret_i64 beq_int)

set_option maxHeartbeats 1000000 in
set_option maxRecDepth 100000 in
theorem linesOf_any (s : List UInt8) (hs : s.length ≤ 1000000) (w : World) : Calls Tryz.prog 16 #[sV s] w fun e w' => e = .returned (.int .i64 ((lns s).length : Int)) ∧ w = w' := by
  have hC := fun W => Tryz.strings_Count_one ⟨s.toArray⟩ 10 W
  have hF := fun W => Tryz.strings_HasSuffix ⟨s.toArray⟩ ⟨#[10]⟩ W (by show s.toArray.size ≤ _; simp; omega)
  have hct : Lib.countByte s 10 = s.count 10 := by first | rfl | (simp [Lib.countByte]) | (unfold Lib.countByte; simp [List.count, List.countP_eq_length_filter])
  have hle : s.count 10 ≤ s.length := List.count_le_length
  have HL : Hid _ := lns_count s
  have hsf := suffix10 s
  simp only [show ((⟨s.toArray⟩ : ByteArray).data.toList) = s from rfl, show ((⟨#[10]⟩ : ByteArray).data.toList) = [10] from rfl] at hC hF
  rw [hct] at hC
  rw [hsf] at hF
  clear hct hsf
  generalize s.count 10 = N at *
  have hN : (N : Int) + 1 < 9223372036854775808 := by omega
  generalize (lns s).length = M at *
  unfold sV
  by_cases hz : s = []
  · have hM : M = N := by rw [HL.out, if_pos (Or.inl hz)]; rfl
    subst hz
    clear HL hF
    go_enter Tryz.func16, Tryz.ntmps16
    go_wp2_with fail
    refine Calls.mono (hC _) ?_
    rintro e wq ⟨rfl, rfl⟩
    go_wp2
    go_ret
    exact ⟨ret_i64 (by rw [hM]), rfl⟩
  · have hb : (s == []) = false := by rw [beq_eq_false_iff_ne]; exact hz
    by_cases hg : s.getLast? = some 10
    · have hM : M = N := by rw [HL.out, if_pos (Or.inr hg)]; rfl
      rw [decide_eq_true hg] at hF
      clear HL hg
      go_enter Tryz.func16, Tryz.ntmps16
      go_wp2_with fail
      refine Calls.mono (hC _) ?_
      rintro e wq ⟨rfl, rfl⟩
      go_wp2_with fail
      refine Calls.mono (hF _) ?_
      rintro e wq ⟨rfl, rfl⟩
      go_wp2
      go_ret
      exact ⟨ret_i64 (by rw [hM]), rfl⟩
    · have hM : M = N + 1 := by rw [HL.out, if_neg (by rintro (h | h); exact hz h; exact hg h)]
      rw [decide_eq_false hg] at hF
      clear HL hg
      go_enter Tryz.func16, Tryz.ntmps16
      go_wp2_with fail
      refine Calls.mono (hC _) ?_
      rintro e wq ⟨rfl, rfl⟩
      go_wp2_with fail
      refine Calls.mono (hF _) ?_
      rintro e wq ⟨rfl, rfl⟩
      go_wp2
      go_ret
      refine ⟨ret_i64 ?_, rfl⟩
      rw [hM]
      first | (push_cast; rfl) | (rw [IntKind.wrap_i64]; omega) | (simp; omega)
end Go.Proofs.YtkpjfhphohanlaaGreatDoor.JC
