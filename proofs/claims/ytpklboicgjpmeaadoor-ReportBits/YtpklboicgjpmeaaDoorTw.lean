/- report: the chapter's rows. -/
import Derived.Test.YtpklboicgjpmeaaDoorTu
import Derived.Test.YtpklboicgjpmeaaDoorTn
set_option linter.unusedVariables false
set_option linter.unusedSimpArgs false
namespace Go.Proofs.YtpklboicgjpmeaaDoor.RB
open Go.RowKit
open JC (splitR splitR_no splitR_at)

theorem make79 (w : World) : (Instr.makeSlice 28 (.int .i64 79) (.int .i64 79)).run Tryd.prog w = .ok (.slice (some ⟨w.heap.size, 0, none⟩) 79 79) (w.alloc (.cells ((List.replicate 79 (0 : UInt8)).map B8).toArray 5 (0, 0))) := by kernel_rfl
theorem make80' (w : World) : (Instr.makeSlice 28 (.int .i64 80) (.int .i64 80)).run Tryd.prog w = .ok (.slice (some ⟨w.heap.size, 0, none⟩) 80 80) (w.alloc (.cells ((List.replicate 80 (0 : UInt8)).map B8).toArray 5 (0, 0))) := by kernel_rfl
def rK : Rp := ⟨258, Z32, Z32⟩
theorem rK_ok : rK.ok := ⟨by decide, rfl, rfl⟩
theorem build_rK (w : World) : (Instr.build 26 #[(0, .int .u64 258)]).run Tryd.prog w = .ok (rV rK) w := by kernel_rfl
theorem of79 (w X : World) (hb : X.heap[w.heap.size]? = some (.cells ((List.replicate 79 (0 : UInt8)).map B8).toArray 5 (0, 0))) : Calls Tryd.prog 16 #[.slice (some ⟨w.heap.size, 0, none⟩) 79 79] X fun e w' => e = .returned (.tuple #[rV r0, .int .i64 4]) ∧ Below X.heap.size X w' := by
  refine Calls.mono (pof_any _ (List.replicate 79 0) X (hb_range 79 rfl (by decide) (by decide) (rangeAt_row hb))) ?_
  rintro e w' ⟨r, b, rfl, h, hbl⟩
  obtain ⟨rfl, rfl⟩ := BR.uniq h (br_len (by decide))
  exact ⟨rfl, hbl⟩
theorem br80 : BR (List.replicate 80 (0 : UInt8)) r0 false := .inr ⟨rfl, rfl, fun q hq e => by
  have h1 : (byt q)[0]? = some 114 := rfl
  rw [e] at h1
  exact absurd h1 (by decide)⟩
theorem of80 (w X : World) (hb : X.heap[w.heap.size]? = some (.cells ((List.replicate 80 (0 : UInt8)).map B8).toArray 5 (0, 0))) : Calls Tryd.prog 16 #[.slice (some ⟨w.heap.size, 0, none⟩) 80 80] X fun e w' => e = .returned (.tuple #[rV r0, .int .i64 4]) ∧ Below X.heap.size X w' := by
  refine Calls.mono (pof_any _ (List.replicate 80 0) X (hb_range 80 rfl (by decide) (by decide) (rangeAt_row hb))) ?_
  rintro e w' ⟨r, b, rfl, h, hbl⟩
  obtain ⟨rfl, rfl⟩ := BR.uniq h br80
  exact ⟨rfl, hbl⟩
theorem unt0 (X : World) (hG : GV X) : Calls Tryd.prog 19 #[.string ⟨#[]⟩] X fun e w' => e = .returned (.tuple #[rV r0, .int .i64 4]) ∧ Below X.heap.size X w' := by
  refine Calls.mono (puntext_any [] (by decide) X hG) ?_
  rintro e w' ⟨r, b, rfl, h, hbl⟩
  obtain ⟨rfl, rfl⟩ := TR.uniq h (tr_len (by decide))
  exact ⟨rfl, hbl⟩
set_option maxHeartbeats 2000000 in
set_option maxRecDepth 100000 in
theorem known_any (w : World) (hG : GV w) : Calls Tryd.prog 15 #[] w fun e w' => e = .returned (.bool true) ∧ Below w.heap.size w w' := by
  have hz := zero_rp
  have HB0 : Hid _ := build_rK
  have hm79 := make79
  have hm80 := make80'
  have HPB : Hid (∀ X, Calls Tryd.prog 9 #[rV rK] X _) := fun X => pbytes_any rK rK_ok X
  have HG : Hid _ := hG
  have HI0A : Hid _ := infRA r0_ok
  have H01 : Hid _ := rL_one r0
  have HUN : Hid (∀ X, Below w.heap.size w X → _) := fun X hb => unt0 X (hG.below hb)
  have hnm := num_any 4
  have hsz := size_any
  clear hG
  go_enter Tryd.func15, Tryd.ntmps15
  go_wp2_with (refine wpList_build rfl 26 _ rfl #[(0, .int .u64 258)] (rV rK) (by simp [Act.eval]) (HB0.out _) ?_)
  refine Calls.mono (HPB.out _) ?_
  rintro e V1 ⟨g, rfl, hg, hb, hr⟩
  have HB1 : Hid (Below w.heap.size w V1) := hb
  have HC0 : Hid (∀ Z, Below V1.heap.size V1 Z → Z.cell? ⟨g, 0, none⟩ = some (.int .u8 114)) := fun Z hZ => by
    rw [cell_of_row _ _ 0 _ _ _ ((hZ.block _ (row_lt hr)).trans hr)]; rfl
  have HC8 : Hid (∀ Z, Below V1.heap.size V1 Z → Z.cell? ⟨g, 8, none⟩ = some (.int .u8 2)) := fun Z hZ => by
    rw [cell_of_row _ _ 8 _ _ _ ((hZ.block _ (row_lt hr)).trans hr)]; kernel_rfl
  have HC9 : Hid (∀ Z, Below V1.heap.size V1 Z → Z.cell? ⟨g, 9, none⟩ = some (.int .u8 1)) := fun Z hZ => by
    rw [cell_of_row _ _ 9 _ _ _ ((hZ.block _ (row_lt hr)).trans hr)]; kernel_rfl
  have HR2 : Hid _ := (RS.start V1).alloc _ rfl 5 ((List.replicate 79 (0 : UInt8)).map B8)
  clear hg hb hr HPB
  go_wp2_with fail
  refine Calls.mono (of79 V1 _ (HR2.out.at 0 rfl)) ?_
  rintro e V2 ⟨rfl, hb⟩
  have HR3 : Hid _ := (HR2.out.step hb).alloc V2.heap.size rfl 26 (rL r0)
  clear hb HR2
  go_wp2_with (refine wpList_store_rowL rfl 26 (.tmp 2) (.tmp 13) rfl V2.heap.size (rL r0).toArray rfl rfl 26 (rL r0).toArray (HR3.out.at 0 rfl) HI0A.out rfl H01.out ?_; intro W3 hW; have HRW3 : Hid _ := (HR3.out.put 0 rfl (rL r0)); rw [← hW] at HRW3; clear hW HR3)
  refine Calls.mono (of80 W3 _ (heap_alloc_new _ _)) ?_
  rintro e V3 ⟨rfl, hb⟩
  have HR5 : Hid _ := ((HRW3.out.step ((Below.refl _ _).alloc (Nat.le_refl _) _)).step hb).alloc V3.heap.size rfl 26 (rL r0)
  clear hb HRW3
  go_wp2_with (refine wpList_store_rowL rfl 26 (.tmp 4) (.tmp 18) rfl V3.heap.size (rL r0).toArray rfl rfl 26 (rL r0).toArray (HR5.out.at 0 rfl) HI0A.out rfl H01.out ?_; intro W4 hW; have HRW4 : Hid _ := (HR5.out.put 0 rfl (rL r0)); rw [← hW] at HRW4; clear hW HR5)
  refine Calls.mono (HUN.out _ (HB1.out.trans (HRW4.out.bel.mono HB1.out.size))) ?_
  rintro e V4 ⟨rfl, hb⟩
  have HR6 : Hid _ := (HRW4.out.step hb).alloc V4.heap.size rfl 26 (rL r0)
  clear hb HRW4 HUN
  go_wp2_with (first
    | (refine wpList_store_rowL rfl 26 (.tmp 6) (.tmp 22) rfl V4.heap.size (rL r0).toArray rfl rfl 26 (rL r0).toArray (HR6.out.at 0 rfl) HI0A.out rfl H01.out ?_; intro W5 hW5; have HRW5 : Hid _ := (HR6.out.put 0 rfl (rL r0)); rw [← hW5] at HRW5; have hc0 := HC0.out _ HRW5.out.bel; have hc8 := HC8.out _ HRW5.out.bel; have hc9 := HC9.out _ HRW5.out.bel; have HBZ : Hid _ := (HB1.out.trans (HRW5.out.bel.mono HB1.out.size)); clear hW5 HR6)
    | (go_at_call 18; refine Calls.mono (hnm _) ?_; rintro e w1 ⟨rfl, rfl⟩)
    | (go_at_call 21; refine Calls.mono (hsz _) ?_; rintro e w1 ⟨rfl, rfl⟩))
  go_ret
  exact ⟨rfl, HBZ.out⟩
end Go.Proofs.YtpklboicgjpmeaaDoor.RB
