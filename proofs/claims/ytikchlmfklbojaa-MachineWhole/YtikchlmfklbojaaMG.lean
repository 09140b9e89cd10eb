/- Contract of the statements' known. -/
import Derived.Test.YtikchlmfklbojaaMF
set_option linter.unusedVariables false
set_option linter.unusedSimpArgs false
namespace Go.Proofs.Ytikchlmfklbojaa.MC
open Go.RowKit

def kL : List UInt8 := splice (List.replicate (128 * 2) 0) 8 (W1.le 8 258)
theorem kL_rd : rdB kL 8 3 = [2, 1, 0] := by decide +kernel
set_option maxHeartbeats 4000000 in
set_option maxRecDepth 100000 in
theorem known_any (w : World) : Calls Try.prog 8 #[] w fun e w' => e = .returned (.bool true) ∧ Below w.heap.size w w' := by
  have HN0 : Hid (Calls Try.prog 9 #[.int .i64 0] w fun e w' => e = .returned (.tuple #[.pointer none, .int .i64 2]) ∧ w = w') := new_bad 0 w (by omega)
  have HN1 : Hid (Calls Try.prog 9 #[.int .i64 4097] w fun e w' => e = .returned (.tuple #[.pointer none, .int .i64 2]) ∧ w = w') := new_bad 4097 w (by omega)
  have HN2 : Hid (Calls Try.prog 9 #[.int .i64 2] w fun e w' => NewEnd w 2 e w') := new_ok 2 w (by omega) (by omega)
  go_enter Try.func8, Try.ntmps8
  go_wp2_with fail
  refine Calls.mono HN0.out ?_
  rintro e w1 ⟨rfl, rfl⟩
  go_wp2_with fail
  refine Calls.mono HN1.out ?_
  rintro e w1 ⟨rfl, rfl⟩
  go_wp2_with fail
  refine Calls.mono HN2.out ?_
  rintro e w3 ⟨mb, gb, rfl, hP, hmb, hgb, hb3⟩
  clear HN0 HN1 HN2
  have HS : Hid (Calls Try.prog 24 #[.pointer (some ⟨mb, 0, none⟩), .int .u64 8, .int .u64 258] w3 fun e w' => e = .returned (.int .i64 0) ∧ PM w' mb gb 2 kL ∧ KB gb w3 w') := setword_ok mb gb 2 8 258 _ w3 hP (by omega) (by omega) (by decide) (by decide)
  have HB3 : Hid _ := hb3
  clear hP hb3
  go_wp2_with fail
  refine Calls.mono HS.out ?_
  rintro e w4 ⟨rfl, hP, hK⟩
  have hb4 : Below w.heap.size w w4 := HB3.out.trans (hK.bel hgb)
  have hR := hP.pr
  have HRD : Hid (Calls Try.prog 16 #[.pointer (some ⟨mb, 0, none⟩), .int .u64 8, .int .i64 3] w4 fun e w' => e = .returned (.tuple #[.slice (some ⟨w4.heap.size, 0, none⟩) 3 3, .int .i64 0]) ∧ w'.heap[w4.heap.size]? = some (.cells ((rdB kL 8 3).map B8).toArray 5 (0, 0)) ∧ Below w4.heap.size w4 w') := read_ok mb gb 2 2 8 3 kL w4 hR (by omega) (by omega) (by decide)
  have HR : Hid _ := hR
  have HB4 : Hid _ := hb4
  clear HS hP hK hR hb4 HB3
  go_wp2_with fail
  refine Calls.mono HRD.out ?_
  rintro e w5 ⟨rfl, hrow, hb5⟩
  rw [kL_rd] at hrow
  have hR := HR.out.below hb5
  have hcv := conv_hb w5 (.slice (some ⟨w4.heap.size, 0, none⟩) 3 3) [2, 1, 0] (hb_range rfl (by simp) (by unfold maxLen; omega) (rangeAt_row hrow))
  rw [show txt [2, 1, 0] = { data := #[2, 1, 0] } from rfl] at hcv
  have HW1 : Hid (Calls Try.prog 13 #[.pointer (some ⟨mb, 0, none⟩), .int .u64 4] w5 fun e w' => e = .returned (.tuple #[.int .u64 0, .int .i64 2]) ∧ w5 = w') := word_bad _ 4 2 w5 (by omega) (wfault_any mb 2 2 _ 4 w5 hR.cell (by omega) (by omega) (by omega))
  have HW2 : Hid (Calls Try.prog 13 #[.pointer (some ⟨mb, 0, none⟩), .int .u64 256] w5 fun e w' => e = .returned (.tuple #[.int .u64 0, .int .i64 6]) ∧ w5 = w') := word_bad _ 256 6 w5 (by omega) (wfault_any mb 2 2 _ 256 w5 hR.cell (by omega) (by omega) (by omega))
  have HR2 : Hid (Calls Try.prog 16 #[.pointer (some ⟨mb, 0, none⟩), .int .u64 250, .int .i64 7] w5 fun e w' => e = .returned (.tuple #[.slice none 0 0, .int .i64 6]) ∧ w5 = w') := read_bad mb gb 2 2 250 7 kL w5 hR (by omega) (by omega) (by decide)
  have HG : Hid (Calls Try.prog 11 #[.pointer (some ⟨mb, 0, none⟩)] w5 fun e w' => e = .returned (.int .i64 2) ∧ w5 = w') := granules_of _ _ 2 _ w5 (list_at mb _ w5 hR.cell)
  have HB5 : Hid (Below w.heap.size w w5) := HB4.out.trans (hb5.mono HB4.out.size)
  clear HRD hrow hb5 hR HR HB4
  go_wp2_with fail
  refine Calls.mono HW1.out ?_
  rintro e w1 ⟨rfl, rfl⟩
  go_wp2_with fail
  refine Calls.mono HW2.out ?_
  rintro e w1 ⟨rfl, rfl⟩
  go_wp2_with fail
  refine Calls.mono HR2.out ?_
  rintro e w1 ⟨rfl, rfl⟩
  go_wp2_with fail
  refine Calls.mono HG.out ?_
  rintro e w1 ⟨rfl, rfl⟩
  go_wp2
  go_ret
  exact ⟨rfl, HB5.out⟩
end Go.Proofs.Ytikchlmfklbojaa.MC
