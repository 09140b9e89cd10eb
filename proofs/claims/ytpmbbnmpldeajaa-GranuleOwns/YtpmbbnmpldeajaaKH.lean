/- Contract of the statements' known. -/
import Derived.Test.YtpmbbnmpldeajaaKG
set_option linter.unusedVariables false
set_option linter.unusedSimpArgs false
namespace Go.Proofs.Ytpmbbnmpldeajaa.GC
open Go.RowKit

set_option maxHeartbeats 4000000 in
set_option maxRecDepth 100000 in
theorem known_any (w : World) : Calls Try.prog 9 #[] w fun e w' => e = .returned (.bool true) ∧ Below w.heap.size w w' := by
  have HN2 : Hid (Calls Try.prog 10 #[.int .i64 2] w fun e w' => NewEnd w 2 e w') := new_ok 2 w (by omega) (by omega)
  go_enter Try.func9, Try.ntmps9
  go_wp2_with fail
  refine Calls.mono HN2.out ?_
  rintro e w1 ⟨tb, gb, rfl, hP, htb, hgb, hb1⟩
  have HP1 : Hid (PM w1 tb gb 2 [ZR, ZR]) := hP
  have HB : Hid (Below w.heap.size w w1) := hb1
  clear HN2 hP hb1
  have HS : Hid (Calls Try.prog 20 #[.pointer (some ⟨tb, 0, none⟩), .int .i64 0, .int .i64 0, .int .i64 1, .int .u64 0] w1 fun e w' => e = .returned (.int .i64 0) ∧ PM w' tb gb 2 [⟨1, 0, 0⟩, ZR] ∧ KB gb w1 w') := step_any tb gb 2 0 [ZR, ZR] ZR 0 1 0 w1 HP1.out rfl (by decide) (by decide)
  -- HS.out the call's contract, w2 the world behind it, $3 the answer's shape
  go_wp2_with fail
  refine Calls.mono (HS.out) ?_
  rintro e w2 ⟨rfl, hP, hK⟩
  have HB2 : Hid (Below w.heap.size w w2) := HB.out.trans (hK.bel hgb)
  clear HB
  have HB : Hid _ := HB2.out
  have HP : Hid _ := hP
  clear hP hK HB2
  have HP2 : Hid (PM w2 tb gb 2 [⟨1, 0, 0⟩, ZR]) := HP.out
  clear HP HS HP1
  have HS : Hid (Calls Try.prog 20 #[.pointer (some ⟨tb, 0, none⟩), .int .i64 0, .int .i64 1, .int .i64 5, .int .u64 7] w2 fun e w' => e = .returned (.int .i64 0) ∧ PM w' tb gb 2 [⟨5, 7, 0⟩, ZR] ∧ KB gb w2 w') := step_any tb gb 2 0 [⟨1, 0, 0⟩, ZR] ⟨1, 0, 0⟩ 1 5 7 w2 HP2.out rfl (by decide) (by decide)
  -- HS.out the call's contract, w3 the world behind it, $3 the answer's shape
  go_wp2_with fail
  refine Calls.mono (HS.out) ?_
  rintro e w3 ⟨rfl, hP, hK⟩
  have HB2 : Hid (Below w.heap.size w w3) := HB.out.trans (hK.bel hgb)
  clear HB
  have HB : Hid _ := HB2.out
  have HP : Hid _ := hP
  clear hP hK HB2
  have HP3 : Hid (PM w3 tb gb 2 [⟨5, 7, 0⟩, ZR]) := HP.out
  clear HP HS HP2
  have HR : Hid (Calls Try.prog 19 #[.pointer (some ⟨tb, 0, none⟩), .int .i64 0] w3 fun e w' => e = .returned (.tuple #[.agg #[.int .i64 5, .int .u64 7, .int .i64 0], .int .i64 0]) ∧ Below w3.heap.size w3 w') := row_ok tb gb 2 2 0 [⟨5, 7, 0⟩, ZR] ⟨5, 7, 0⟩ w3 HP3.out.pr rfl
  go_wp2_with fail
  refine Calls.mono HR.out ?_
  rintro e w4 ⟨rfl, hb4⟩
  obtain ⟨W4, hW4⟩ : ∃ W4, W4 = w4.alloc (.cells #[.int .i64 5, .int .u64 7, .int .i64 0] 43 (0, 0)) := ⟨_, rfl⟩
  have hb5 : Below w3.heap.size w3 W4 := by rw [hW4]; exact hb4.alloc hb4.size _
  have HP4 : Hid (PM W4 tb gb 2 [⟨5, 7, 0⟩, ZR]) := HP3.out.below hb5
  have HB4 : Hid (Below w.heap.size w W4) := HB.out.trans (hb5.mono HB.out.size)
  have hRW : W4.heap[w4.heap.size]? = some (.cells #[.int .i64 5, .int .u64 7, .int .i64 0] 43 (0, 0)) := by rw [hW4]; exact heap_alloc_new _ _
  have hne : gb ≠ w4.heap.size := by have := HP3.out.row.lt; have := hb4.size; omega
  clear HB
  have HB : Hid _ := HB4.out
  have HRW : Hid _ := hRW
  clear hb4 hb5 HP3 HR HB4 hRW
  have HS : Hid (Calls Try.prog 21 #[.pointer (some ⟨tb, 0, none⟩), .int .i64 0] W4 fun e w' => e = .returned (.int .i64 0) ∧ PM w' tb gb 2 [⟨5, 7, 1⟩, ZR] ∧ KB gb W4 w') := hold_ok tb gb 2 0 [⟨5, 7, 0⟩, ZR] ⟨5, 7, 0⟩ W4 HP4.out rfl (by decide)
  go_wp2_with fail
  rw [← hW4]
  clear hW4
  refine Calls.mono HS.out ?_
  rintro e w5 ⟨rfl, hP, hK⟩
  have HK5 : Hid (KB gb W4 w5) := hK
  have HP5 : Hid (PM w5 tb gb 2 [⟨5, 7, 1⟩, ZR]) := hP
  clear HS hP hK
  have HS : Hid (Calls Try.prog 20 #[.pointer (some ⟨tb, 0, none⟩), .int .i64 0, .int .i64 5, .int .i64 1, .int .u64 0] w5 fun e w' => e = .returned (.int .i64 9) ∧ PM w' tb gb 2 [⟨5, 7, 1⟩, ZR] ∧ KB gb w5 w') := step_any tb gb 2 0 [⟨5, 7, 1⟩, ZR] ⟨5, 7, 1⟩ 5 1 0 w5 HP5.out rfl (by decide) (by decide)
  go_wp2_with fail
  refine Calls.mono HS.out ?_
  rintro e w6 ⟨rfl, hP, hK⟩
  have HK6 : Hid (KB gb W4 w6) := HK5.out.trans hK
  have HP6 : Hid (PM w6 tb gb 2 [⟨5, 7, 1⟩, ZR]) := hP
  clear HS hP hK HP5 HK5
  have HS : Hid (Calls Try.prog 22 #[.pointer (some ⟨tb, 0, none⟩), .int .i64 0] w6 fun e w' => e = .returned (.int .i64 0) ∧ PM w' tb gb 2 [⟨5, 7, 0⟩, ZR] ∧ KB gb w6 w') := let_ok tb gb 2 0 [⟨5, 7, 1⟩, ZR] ⟨5, 7, 1⟩ w6 HP6.out rfl (by decide) (by decide)
  go_wp2_with fail
  refine Calls.mono HS.out ?_
  rintro e w7 ⟨rfl, hP, hK⟩
  have HK7 : Hid (KB gb W4 w7) := HK6.out.trans hK
  have HP7 : Hid (PM w7 tb gb 2 [⟨5, 7, 0⟩, ZR]) := hP
  clear HS hP hK HP6 HK6
  have HS : Hid (Calls Try.prog 22 #[.pointer (some ⟨tb, 0, none⟩), .int .i64 0] w7 fun e w' => e = .returned (.int .i64 6) ∧ w7 = w') := let_none tb gb 2 0 [⟨5, 7, 0⟩, ZR] ⟨5, 7, 0⟩ w7 HP7.out rfl rfl
  go_wp2_with fail
  refine Calls.mono HS.out ?_
  rintro e wx ⟨rfl, rfl⟩
  clear HS
  have HS : Hid (Calls Try.prog 20 #[.pointer (some ⟨tb, 0, none⟩), .int .i64 1, .int .i64 0, .int .i64 5, .int .u64 7] w7 fun e w' => e = .returned (.int .i64 2) ∧ PM w' tb gb 2 [⟨5, 7, 0⟩, ZR] ∧ KB gb w7 w') := step_any tb gb 2 1 [⟨5, 7, 0⟩, ZR] ZR 0 5 7 w7 HP7.out rfl (by decide) (by decide)
  go_wp2_with fail
  refine Calls.mono HS.out ?_
  rintro e w8 ⟨rfl, hP, hK⟩
  have HK8 : Hid (KB gb W4 w8) := HK7.out.trans hK
  have HP8 : Hid (PM w8 tb gb 2 [⟨5, 7, 0⟩, ZR]) := hP
  clear HS hP hK HP7 HK7
  have HS : Hid (Calls Try.prog 20 #[.pointer (some ⟨tb, 0, none⟩), .int .i64 1, .int .i64 1, .int .i64 5, .int .u64 7] w8 fun e w' => e = .returned (.int .i64 7) ∧ PM w' tb gb 2 [⟨5, 7, 0⟩, ZR] ∧ KB gb w8 w') := step_any tb gb 2 1 [⟨5, 7, 0⟩, ZR] ZR 1 5 7 w8 HP8.out rfl (by decide) (by decide)
  go_wp2_with fail
  refine Calls.mono HS.out ?_
  rintro e w9 ⟨rfl, hP, hK⟩
  have HK9 : Hid (KB gb W4 w9) := HK8.out.trans hK
  have hr9 : w9.heap[w4.heap.size]? = some (.cells #[.int .i64 5, .int .u64 7, .int .i64 0] 43 (0, 0)) := (HK9.out.2 _ (row_lt HRW.out) (Ne.symm hne)).trans HRW.out
  obtain ⟨hr0, hr1, hr2⟩ : w9.cell? ⟨w4.heap.size, 0, none⟩ = some (.int .i64 5) ∧ w9.cell? ⟨w4.heap.size, 1, none⟩ = some (.int .u64 7) ∧ w9.cell? ⟨w4.heap.size, 2, none⟩ = some (.int .i64 0) := ⟨(cell_of_row _ _ 0 _ _ _ hr9).trans rfl, (cell_of_row _ _ 1 _ _ _ hr9).trans rfl, (cell_of_row _ _ 2 _ _ _ hr9).trans rfl⟩
  have HB9 : Hid (Below w.heap.size w w9) := HB.out.trans (HK9.out.bel hgb)
  clear HS hP hK HP8 HK8 hr9 HRW HK9
  go_wp2
  go_ret
  exact ⟨rfl, HB9.out⟩
end Go.Proofs.Ytpmbbnmpldeajaa.GC
