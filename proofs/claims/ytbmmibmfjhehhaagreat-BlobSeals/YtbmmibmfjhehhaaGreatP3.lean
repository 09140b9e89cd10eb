/- Contract of sha's press. -/
import Derived.Test.YtbmmibmfjhehhaaGreatWv
set_option linter.unusedVariables false
set_option linter.unusedSimpArgs false
namespace Go.Proofs.YtbmmibmfjhehhaaGreat
open Go.RowKit

def Rot3 (w : World) (B g n1 n2 n3 : Nat) : Prop := w.cell? ⟨B, 0, none⟩ = some (.slice (some ⟨g, 0, none⟩) 3 3) ∧ w.cell? ⟨g, 0, none⟩ = some (.int .i64 (n1 : Int)) ∧ w.cell? ⟨g, 1, none⟩ = some (.int .i64 (n2 : Int)) ∧ w.cell? ⟨g, 2, none⟩ = some (.int .i64 (n3 : Int))
theorem rot3_any (x : UInt32) (n1 n2 n3 B g : Nat) (w : World) (h1 : 1 ≤ n1 ∧ n1 ≤ 31) (h2 : 1 ≤ n2 ∧ n2 ≤ 31) (h3 : 1 ≤ n3 ∧ n3 ≤ 31) (h : Rot3 w B g n1 n2 n3) :
    Calls Tryz.prog 121 #[.int .u32 (U x), .pointer (some ⟨B, 0, none⟩)] w fun e w' => e = .returned (.int .u32 (U (xro x [n1, n2, n3]))) ∧ w = w' := by
  refine rot_any x [n1, n2, n3] B g 3 w (by simp) ?_ h.1 ?_
  · intro i hi
    have hi2 : i = 0 ∨ i = 1 ∨ i = 2 := by simp at hi; omega
    rcases hi2 with rfl | rfl | rfl
    · exact h1
    · exact h2
    · exact h3
  · intro i hi
    have hi2 : i = 0 ∨ i = 1 ∨ i = 2 := by simp at hi; omega
    rcases hi2 with rfl | rfl | rfl
    · exact h.2.1
    · exact h.2.2.1
    · exact h.2.2.2
theorem Rot3.heap {w w' : World} {B g n1 n2 n3 : Nat} (h : Rot3 w B g n1 n2 n3) (hw : w'.heap = w.heap) : Rot3 w' B g n1 n2 n3 := by
  obtain ⟨h1, h2, h3, h4⟩ := h
  have e : ∀ a, w'.cell? a = w.cell? a := fun a => by unfold World.cell?; rw [hw]
  exact ⟨(e _).trans h1, (e _).trans h2, (e _).trans h3, (e _).trans h4⟩
theorem rot3_at (x : UInt32) (n1 n2 n3 B g : Nat) (w w0 : World) (h1 : 1 ≤ n1 ∧ n1 ≤ 31) (h2 : 1 ≤ n2 ∧ n2 ≤ 31) (h3 : 1 ≤ n3 ∧ n3 ≤ 31) (h : Rot3 w0 B g n1 n2 n3) (hw : w.heap = w0.heap) :
    Calls Tryz.prog 121 #[.int .u32 (U x), .pointer (some ⟨B, 0, none⟩)] w fun e w' => e = .returned (.int .u32 (U (xro x [n1, n2, n3]))) ∧ w = w' := rot3_any x n1 n2 n3 B g w h1 h2 h3 (h.heap hw)
theorem Rot3.below {w w' : World} {B g n1 n2 n3 : Nat} (h : Rot3 w B g n1 n2 n3) (hb : Below w.heap.size w w') : Rot3 w' B g n1 n2 n3 := by
  obtain ⟨h1, h2, h3, h4⟩ := h
  exact ⟨(hb.cell (block_lt h1)).trans h1, (hb.cell (block_lt h2)).trans h2, (hb.cell (block_lt h3)).trans h3, (hb.cell (block_lt h4)).trans h4⟩
theorem xro3 (x : UInt32) (a b c : Nat) : xro x [a, b, c] = rotr x a ^^^ rotr x b ^^^ rotr x c := by unfold xro; simp
attribute [local go_sem] U_not U_xor U_xor3 U_xor10 U_and U_or U_shr3 U_shr10 U_add U_addw

set_option maxHeartbeats 20000000 in
set_option maxRecDepth 100000 in
theorem shaPress_any (h0 h1 h2 h3 h4 h5 h6 h7 : UInt32) (bs : List UInt8) (ks : List UInt32) (w : World) (hb : bs.length = 64) (hkl : ks.length = 64) :
    Calls Tryz.prog 96 #[.agg #[.int .u32 (U h0), .int .u32 (U h1), .int .u32 (U h2), .int .u32 (U h3), .int .u32 (U h4), .int .u32 (U h5), .int .u32 (U h6), .int .u32 (U h7)], .agg (bs.map B8).toArray, .agg (ks.map W32).toArray] w fun e w' => e = .returned (.agg ((press [h0, h1, h2, h3, h4, h5, h6, h7] bs ks).map W32).toArray) ∧ Below w.heap.size w w' := by
  obtain ⟨K, hK⟩ : ∃ K, K = 48 := ⟨_, rfl⟩
  have hsp := fun w0 => spread_any bs w0 hb
  rw [← hK] at hsp
  have hSl := sched_len bs K
  have hpr : press [h0, h1, h2, h3, h4, h5, h6, h7] bs ks = List.zipWith (· + ·) (rnds ks (sched bs K) [h0, h1, h2, h3, h4, h5, h6, h7] 64) [h0, h1, h2, h3, h4, h5, h6, h7] := by unfold press; rw [hK]
  rw [hpr]
  generalize sched bs K = SC at *
  have hSl' : SC.length = 64 := by omega
  obtain ⟨BA, hBA⟩ : ∃ BA, BA = (bs.map B8).toArray := ⟨_, rfl⟩
  have hBs : BA.size = 64 := by rw [hBA]; simp [hb]
  rw [← hBA]
  rw [← hBA] at hsp
  obtain ⟨KA, hKA⟩ : ∃ KA, KA = (ks.map W32).toArray := ⟨_, rfl⟩
  have hKc : ∀ i, i < 64 → KA[i]? = some (.int .u32 (U (ks.getD i 0))) := fun i hi => by
    rw [hKA]
    have hl : i < ks.length := by omega
    simp [W32, List.getD, List.getElem?_eq_getElem hl]
  rw [← hKA]
  obtain ⟨SA, hSA⟩ : ∃ SA, SA = (SC.map W32).toArray := ⟨_, rfl⟩
  have hSs : SA.size = 64 := by rw [hSA]; simp [hSl']
  have hS1 : SA.all (·.oneCell') = true := by rw [hSA]; exact W32_one SC
  have hSc : ∀ i, i < 64 → SA[i]? = some (.int .u32 (U (SC.getD i 0))) := fun i hi => by
    rw [hSA]
    have hl : i < SC.length := by omega
    simp [W32, List.getD, List.getElem?_eq_getElem hl]
  rw [← hSA] at hsp
  have hi32 : (Tryz.prog.info? 107).map (·.size) = some BA.size := by rw [hBs]; kernel_rfl
  have hi64 : (Tryz.prog.info? 138).map (·.size) = some SA.size := by rw [hSs]; kernel_rfl
  have HSC : Hid _ := hSc
  have HKC : Hid _ := hKc
  have HI32 : Hid _ := hi32
  have HI64 : Hid _ := hi64
  have HSS : Hid _ := hSs
  have HS1 : Hid _ := hS1
  clear hSl hSl' hpr hBA hKA hSA hSc hKc hi32 hi64 hSs hS1 hBs hK hb hkl
  go_enter Tryz.func96, Tryz.ntmps96
  go_wp2_with (refine wpList_load_row rfl 107 _ rfl (w.heap.size + 1) rfl 107 BA (0, 0) _ (by repeat (first | exact heap_at _ _ _ (by simp) | rw [Below.heap_alloc _ _ _ (by first | (simp; omega) | simp)])) Tryz.underlying107 rfl HI32.out ?_)
  refine (hsp _).mono ?_
  rintro e w4 ⟨rfl, hb4⟩
  have g0 := below_blk hb4 (i := w.heap.size) (by first | (simp; omega) | simp) (show _ = some (.cells #[.int .u32 (U h0), .int .u32 (U h1), .int .u32 (U h2), .int .u32 (U h3), .int .u32 (U h4), .int .u32 (U h5), .int .u32 (U h6), .int .u32 (U h7)] 102 (0, 0)) by repeat (first | exact heap_at _ _ _ (by simp) | rw [Below.heap_alloc _ _ _ (by first | (simp; omega) | simp)]))
  have g2 := below_blk hb4 (i := w.heap.size + 1 + 1) (by first | (simp; omega) | simp) (show _ = some (.cells KA 138 (0, 0)) by repeat (first | exact heap_at _ _ _ (by simp) | rw [Below.heap_alloc _ _ _ (by first | (simp; omega) | simp)]))
  have g3 := below_blk hb4 (i := w.heap.size + 1 + 1 + 1) (by first | (simp; omega) | simp) (heap_at _ _ _ (by simp))
  have hbw4 : Below w.heap.size w w4 := (((((Below.refl _ _).alloc (Nat.le_refl _) _).alloc (by simp) _).alloc (by simp; omega) _).alloc (by simp; omega) _).trans (hb4.mono (by simp; omega))
  have hs4 : w.heap.size + 4 ≤ w4.heap.size := by have := hb4.size; simp at this; omega
  have G0 : Hid _ := g0
  have G2 : Hid _ := g2
  have G3 : Hid _ := g3
  clear g0 g2 g3 hb4 hsp
  go_wp2_with (first
    | (refine wpList_store_row rfl 138 _ _ rfl w4.heap.size SA rfl rfl 138 _ (heap_at _ _ _ rfl) HI64.out (by rw [HSS.out]; rfl) HS1.out ?_))
  refine (rotations_at _ _ _ (w4.heap.size + 1 + 1) _ (by simp)).mono ?_
  rintro e w6 ⟨rfl, hw6⟩
  have hs6 : w6.heap.size = w4.heap.size + 3 := by rw [hw6]; simp
  have k4 : w6.heap[w4.heap.size]? = some (.cells SA 138 (0, 0)) := by
    rw [hw6, Below.heap_alloc _ _ _ (by simp; omega), Below.heap_alloc _ _ _ (by simp)]; exact setRow_heap _ _ _ _ _ _ (heap_at _ _ _ rfl)
  have k5 : w6.heap[w4.heap.size + 1]? = some (.cells #[.int .i64 2, .int .i64 13, .int .i64 22] 3 (0, 0)) := by
    rw [hw6, Below.heap_alloc _ _ _ (by simp)]; exact heap_at _ _ _ (by simp)
  have k6 : w6.heap[w4.heap.size + 1 + 1]? = some (.cells #[.slice (some ⟨w4.heap.size + 1, 0, none⟩) 3 3] 160 (0, 0)) := by
    rw [hw6]; exact heap_at _ _ _ (by simp)
  have hb46 : Below w4.heap.size w4 w6 := by
    rw [hw6]; exact ((below_setRow ((Below.refl _ _).alloc (Nat.le_refl _) _) (Nat.le_refl _) _).alloc (by simp) _).alloc (by simp; omega) _
  have ra6 : Rot3 w6 (w4.heap.size + 1 + 1) (w4.heap.size + 1) 2 13 22 := ⟨cell_of_row _ _ 0 _ _ _ k6, cell_of_row _ _ 0 _ _ _ k5, cell_of_row _ _ 1 _ _ _ k5, cell_of_row _ _ 2 _ _ _ k5⟩
  have K4 : Hid _ := k4
  have RA6 : Hid _ := ra6
  have HS6 : Hid _ := hs6
  have hs6' : w4.heap.size + 3 ≤ w6.heap.size := by omega
  clear k4 k5 k6 ra6 hw6 hs6
  go_wp2_with fail
  refine (rotations_at _ _ _ (w6.heap.size + 1) _ (by simp)).mono ?_
  rintro e w8 ⟨rfl, hw8⟩
  have k7 : w8.heap[w6.heap.size]? = some (.cells #[.int .i64 6, .int .i64 11, .int .i64 25] 3 (0, 0)) := by
    rw [hw8, Below.heap_alloc _ _ _ (by simp)]; exact heap_at _ _ _ rfl
  have k8 : w8.heap[w6.heap.size + 1]? = some (.cells #[.slice (some ⟨w6.heap.size, 0, none⟩) 3 3] 160 (0, 0)) := by
    rw [hw8]; exact heap_at _ _ _ (by simp)
  have hb68 : Below w6.heap.size w6 w8 := by
    rw [hw8]; exact ((Below.refl _ _).alloc (Nat.le_refl _) _).alloc (by simp) _
  have hs8 : w6.heap.size + 2 ≤ w8.heap.size := by rw [hw8]; simp
  have re8 : Rot3 w8 (w6.heap.size + 1) w6.heap.size 6 11 25 := ⟨cell_of_row _ _ 0 _ _ _ k8, cell_of_row _ _ 0 _ _ _ k7, cell_of_row _ _ 1 _ _ _ k7, cell_of_row _ _ 2 _ _ _ k7⟩
  have ra8 : Rot3 w8 (w4.heap.size + 1 + 1) (w4.heap.size + 1) 2 13 22 := Rot3.below RA6.out hb68
  have m0 := (hb68.block w.heap.size (by omega)).trans ((hb46.block w.heap.size (by omega)).trans G0.out)
  have m2 := (hb68.block (w.heap.size + 1 + 1) (by omega)).trans ((hb46.block (w.heap.size + 1 + 1) (by omega)).trans G2.out)
  have m3 := (hb68.block (w.heap.size + 1 + 1 + 1) (by omega)).trans ((hb46.block (w.heap.size + 1 + 1 + 1) (by omega)).trans G3.out)
  have m4 := (hb68.block w4.heap.size (by omega)).trans K4.out
  have hbw8 : Below w.heap.size w w8 := hbw4.trans ((hb46.mono (by omega)).trans (hb68.mono (by omega)))
  have cK : ∀ i, i < 64 → w8.cell? ⟨w.heap.size + 1 + 1, i, none⟩ = some (.int .u32 (U (ks.getD i 0))) := fun i hi => (cell_of_row _ _ i _ _ _ m2).trans (HKC.out i hi)
  have cS : ∀ i, i < 64 → w8.cell? ⟨w4.heap.size, i, none⟩ = some (.int .u32 (U (SC.getD i 0))) := fun i hi => (cell_of_row _ _ i _ _ _ m4).trans (HSC.out i hi)
  have RE : Hid _ := re8
  have RA : Hid _ := ra8
  have M0 : Hid _ := m0
  have M3 : Hid _ := m3
  have CK : Hid _ := cK
  have CS : Hid _ := cS
  clear k7 k8 re8 ra8 m0 m2 m3 m4 cK cS hw8 hb46 hb68 hbw4 G0 G2 G3 K4 RA6 HS6 HSC HKC HI32 HI64 HSS HS1
  go_wp2_with (first
    | (refine wpList_load_row rfl 102 _ rfl w.heap.size rfl 102 _ (0, 0) _ M0.out Tryz.underlying102 rfl (by kernel_rfl) ?_)
    | (refine wpList_store_row rfl 102 _ _ rfl w8.heap.size _ rfl rfl 102 _ (heap_at _ _ _ rfl) (by kernel_rfl) rfl rfl ?_))
  go_loopw [28] (fun i wv => ∃ (k : Nat) (a0 a1 a2 a3 a4 a5 a6 a7 : UInt32), k ≤ 64 ∧ i = .int .i64 k ∧ rnds ks SC [h0, h1, h2, h3, h4, h5, h6, h7] k = [a0, a1, a2, a3, a4, a5, a6, a7] ∧ wv.heap[w8.heap.size]? = some (.cells #[.int .u32 (U a0), .int .u32 (U a1), .int .u32 (U a2), .int .u32 (U a3), .int .u32 (U a4), .int .u32 (U a5), .int .u32 (U a6), .int .u32 (U a7)] 102 (0, 0)) ∧ w8.heap.size < wv.heap.size ∧ Below w8.heap.size w8 wv) (fun i _ => 64 - (intOf i).toNat)
  case atStart => exact ⟨0, h0, h1, h2, h3, h4, h5, h6, h7, by omega, rfl, rfl, heap_alloc_new _ _, by simp, (Below.refl _ _).alloc (Nat.le_refl _) _⟩
  case round =>
    obtain ⟨k, a0, a1, a2, a3, a4, a5, a6, a7, hk64, rfl, hrn, hv, hszv, hbv⟩ := hrel
    have HRN : Hid _ := hrn
    have HV : Hid _ := hv
    by_cases hlt : k < 64
    · have d0 := cell_of_row _ _ 0 _ _ _ hv
      have d1 := cell_of_row _ _ 1 _ _ _ hv
      have d2 := cell_of_row _ _ 2 _ _ _ hv
      have d3 := cell_of_row _ _ 3 _ _ _ hv
      have d4 := cell_of_row _ _ 4 _ _ _ hv
      have d5 := cell_of_row _ _ 5 _ _ _ hv
      have d6 := cell_of_row _ _ 6 _ _ _ hv
      have d7 := cell_of_row _ _ 7 _ _ _ hv
      simp only [List.getElem?_toArray, List.getElem?_cons_zero, List.getElem?_cons_succ] at d0 d1 d2 d3 d4 d5 d6 d7
      have hkx : wr.cell? ⟨w.heap.size + 1 + 1, k, none⟩ = some (.int .u32 (U (ks.getD k 0))) := (hbv.cell (by simp; omega)).trans (CK.out k hlt)
      have hwx : wr.cell? ⟨w4.heap.size, k, none⟩ = some (.int .u32 (U (SC.getD k 0))) := (hbv.cell (by simp; omega)).trans (CS.out k hlt)
      have re : Rot3 wr (w6.heap.size + 1) w6.heap.size 6 11 25 := Rot3.below RE.out hbv
      have ra : Rot3 wr (w4.heap.size + 1 + 1) (w4.heap.size + 1) 2 13 22 := Rot3.below RA.out hbv
      have hstep : rnds ks SC [h0, h1, h2, h3, h4, h5, h6, h7] (k + 1) = rnd [a0, a1, a2, a3, a4, a5, a6, a7] (ks.getD k 0) (SC.getD k 0) := by rw [← hrn]; rfl
      have HST : Hid _ := hstep
      generalize ks.getD k 0 = kk at *
      generalize SC.getD k 0 = xx at *
      have HRE : Hid _ := re
      have HRA : Hid _ := ra
      have HD7 : Hid _ := d7
      have HD : Hid _ := And.intro d0 (And.intro d1 (And.intro d2 (And.intro d3 (And.intro d4 (And.intro d5 (And.intro d6 d7))))))
      have HF : Hid _ := And.intro (frozen_of_row _ _ 0 _ _ hv) (And.intro (frozen_of_row _ _ 1 _ _ hv) (And.intro (frozen_of_row _ _ 2 _ _ hv) (And.intro (frozen_of_row _ _ 3 _ _ hv) (And.intro (frozen_of_row _ _ 4 _ _ hv) (And.intro (frozen_of_row _ _ 5 _ _ hv) (And.intro (frozen_of_row _ _ 6 _ _ hv) (frozen_of_row _ _ 7 _ _ hv)))))))
      have HKX : Hid _ := hkx
      have HWX : Hid _ := hwx
      have hkl1 : (k : Int) < 64 := by omega
      clear hv hrn hstep re ra d3 d7 hkx hwx hk64
      go_wp2
      go_region
      clear d0 d1 d2 d4 d5 d6
      have d7 := HD7.out
      have hkx := HKX.out
      have hwx := HWX.out
      go_wp2
      go_region_held3 (fun w' => w'.cell? ⟨w8.heap.size, 7, none⟩ = some (.int .u32 (U a7)) ∧ w'.cell? ⟨w.heap.size + 1 + 1, k, none⟩ = some (.int .u32 (U kk)) ∧ w'.cell? ⟨w4.heap.size, k, none⟩ = some (.int .u32 (U xx))) (go_keep) (first | (go_at_call 121; refine (rot3_at a4 6 11 25 (w6.heap.size + 1) w6.heap.size _ wr (by decide) (by decide) (by decide) HRE.out (by rfl)).mono ?_; rintro e wx ⟨rfl, rfl⟩))
      clear d7 hkx hwx
      obtain ⟨f0, f1, f2, f3, f4, f5, f6, f7⟩ := HF.out
      obtain ⟨d0, d1, d2, d3, d4, d5, d6, d7⟩ := HD.out
      go_wp2_with (go_at_call 121; refine (rot3_at a0 2 13 22 (w4.heap.size + 1 + 1) (w4.heap.size + 1) _ wr (by decide) (by decide) (by decide) HRA.out (by rfl)).mono ?_; rintro e wx ⟨rfl, rfl⟩)
      go_roundw
      case rel =>
        have hS := store8 wr w8.heap.size 102 _ _ _ _ _ _ _ _ (.int .u32 (U ((a7 + xro a4 [6, 11, 25] + ((a4 &&& a5) ^^^ (~~~a4 &&& a6)) + kk + xx) + (xro a0 [2, 13, 22] + ((a0 &&& a1) ^^^ (a0 &&& a2) ^^^ (a1 &&& a2)))))) (.int .u32 (U a0)) (.int .u32 (U a1)) (.int .u32 (U a2)) (.int .u32 (U (a3 + (a7 + xro a4 [6, 11, 25] + ((a4 &&& a5) ^^^ (~~~a4 &&& a6)) + kk + xx)))) (.int .u32 (U a4)) (.int .u32 (U a5)) (.int .u32 (U a6)) HV.out
        have hB := (below8 hbv w8.heap.size (Nat.le_refl _) (.int .u32 (U ((a7 + xro a4 [6, 11, 25] + ((a4 &&& a5) ^^^ (~~~a4 &&& a6)) + kk + xx) + (xro a0 [2, 13, 22] + ((a0 &&& a1) ^^^ (a0 &&& a2) ^^^ (a1 &&& a2)))))) (.int .u32 (U a0)) (.int .u32 (U a1)) (.int .u32 (U a2)) (.int .u32 (U (a3 + (a7 + xro a4 [6, 11, 25] + ((a4 &&& a5) ^^^ (~~~a4 &&& a6)) + kk + xx)))) (.int .u32 (U a4)) (.int .u32 (U a5)) (.int .u32 (U a6))).drew.drew
        refine ⟨k + 1, (a7 + xro a4 [6, 11, 25] + ((a4 &&& a5) ^^^ (~~~a4 &&& a6)) + kk + xx) + (xro a0 [2, 13, 22] + ((a0 &&& a1) ^^^ (a0 &&& a2) ^^^ (a1 &&& a2))), a0, a1, a2, a3 + (a7 + xro a4 [6, 11, 25] + ((a4 &&& a5) ^^^ (~~~a4 &&& a6)) + kk + xx), a4, a5, a6, by omega, by go_num, HST.out.trans ((rnd_eq a0 a1 a2 a3 a4 a5 a6 a7 kk xx).trans (by rw [xro3, xro3])), ?_, by simp; omega, ?_⟩
        · rw [heap_drew, heap_drew]; exact hS
        · exact hB
      case measure => simp [intOf]; omega
    · have hk64' : k = 64 := by omega
      subst hk64'
      have hres : List.zipWith (· + ·) (rnds ks SC [h0, h1, h2, h3, h4, h5, h6, h7] 64) [h0, h1, h2, h3, h4, h5, h6, h7] = [h0 + a0, h1 + a1, h2 + a2, h3 + a3, h4 + a4, h5 + a5, h6 + a6, h7 + a7] := by
        rw [hrn]
        show [a0 + h0, a1 + h1, a2 + h2, a3 + h3, a4 + h4, a5 + h5, a6 + h6, a7 + h7] = _
        simp only [UInt32.add_comm]
      have m0 : wr.heap[w.heap.size]? = some (.cells ((fin [h0, h1, h2, h3, h4, h5, h6, h7] [a0, a1, a2, a3, a4, a5, a6, a7] 0).map W32).toArray 102 (0, 0)) := (hbv.block _ (by omega)).trans M0.out
      have m3 := (hbv.block (w.heap.size + 1 + 1 + 1) (by omega)).trans M3.out
      have hbw : Below w.heap.size w wr := hbw8.trans (hbv.mono (by omega))
      have HRES : Hid _ := hres
      have N0 : Hid _ := m0
      have N3 : Hid _ := m3
      clear hrn HRN hres m0 m3 hv hlt hk64 hbv M0 M3 CK CS RE RA hbw8
      obtain ⟨w9, hw9⟩ : ∃ w9, w9 = wr := ⟨_, rfl⟩
      subst hw9
      go_wp2
      go_loopw [96] (fun i wv => ∃ k : Nat, k ≤ 8 ∧ i = .int .i64 k ∧ wv.heap[w.heap.size]? = some (.cells ((fin [h0, h1, h2, h3, h4, h5, h6, h7] [a0, a1, a2, a3, a4, a5, a6, a7] k).map W32).toArray 102 (0, 0)) ∧ (∀ j, j ≠ w.heap.size → wv.heap[j]? = w9.heap[j]?) ∧ Below w.heap.size w wv) (fun i _ => 8 - (intOf i).toNat)
      case atStart => exact ⟨0, by omega, rfl, N0.out, fun _ _ => rfl, hbw⟩
      case round =>
        obtain ⟨k, hk8, rfl, hh, hoth, hbv⟩ := hrel
        have hv := (hoth w8.heap.size (by omega)).trans HV.out
        have hr := (hoth (w.heap.size + 1 + 1 + 1) (by omega)).trans N3.out
        have HOTH : Hid _ := hoth
        have HH : Hid _ := hh
        have HR : Hid _ := hr
        clear hoth hr hbw
        by_cases hlt : k < 8
        · have hx := cell_of_row _ _ k _ _ _ hh
          have hy := cell_of_row _ _ k _ _ _ hv
          have hf := frozen_of_row _ _ k _ _ hh
          rw [fin_cell _ _ _ rfl rfl hlt] at hx
          rw [lit_cell a0 a1 a2 a3 a4 a5 a6 a7 k hlt] at hy
          have hset := fin_set [h0, h1, h2, h3, h4, h5, h6, h7] [a0, a1, a2, a3, a4, a5, a6, a7] k rfl rfl hlt
          have HSET : Hid _ := hset
          clear hv hset hh
          generalize ([h0, h1, h2, h3, h4, h5, h6, h7] : List UInt32).getD k 0 = x at *
          generalize ([a0, a1, a2, a3, a4, a5, a6, a7] : List UInt32).getD k 0 = y at *
          have hlt' : (k : Int) < 8 := by omega
          go_wp2
          go_region
          all_goals
            go_wp2
            go_roundw
            case rel =>
              refine ⟨k + 1, by omega, by go_num, ?_, fun j hj => ?_, (hbv.setCell (p := ⟨w.heap.size, k, none⟩) (Nat.le_refl _) _).drew⟩
              · have := heap_setCell_same _ w.heap.size k _ 102 (.int .u32 (U (x + y))) HH.out
                have e := HSET.out
                rw [← e, heap_drew]
                exact this
              · rw [heap_drew, heap_setCell_other _ _ _ _ hj]; exact HOTH.out j hj
            case measure => simp [intOf]; omega
        · have hk8' : k = 8 := by omega
          have hh8 := HH.out
          rw [hk8', fin_all] at hh8
          have hh8' : wr.heap[w.heap.size]? = some (.cells #[.int .u32 (U (h0 + a0)), .int .u32 (U (h1 + a1)), .int .u32 (U (h2 + a2)), .int .u32 (U (h3 + a3)), .int .u32 (U (h4 + a4)), .int .u32 (U (h5 + a5)), .int .u32 (U (h6 + a6)), .int .u32 (U (h7 + a7))] 102 (0, 0)) := hh8
          obtain ⟨RS, hRS⟩ : ∃ RS : Array Value, RS = #[.int .u32 (U (h0 + a0)), .int .u32 (U (h1 + a1)), .int .u32 (U (h2 + a2)), .int .u32 (U (h3 + a3)), .int .u32 (U (h4 + a4)), .int .u32 (U (h5 + a5)), .int .u32 (U (h6 + a6)), .int .u32 (U (h7 + a7))] := ⟨_, rfl⟩
          rw [← hRS] at hh8'
          have hrs : RS = ((List.zipWith (· + ·) (rnds ks SC [h0, h1, h2, h3, h4, h5, h6, h7] 64) [h0, h1, h2, h3, h4, h5, h6, h7]).map W32).toArray := by rw [HRES.out, hRS]; rfl
          have hri : (Tryz.prog.info? 102).map (·.size) = some RS.size := by rw [hRS]; kernel_rfl
          have hr1 : RS.all (·.oneCell') = true := by rw [hrs]; exact W32_one _
          have hr8 : RS.size = 8 := by rw [hRS]; rfl
          have HH8 : Hid _ := hh8'
          have HRI : Hid _ := hri
          have HR1 : Hid _ := hr1
          have HR8 : Hid _ := hr8
          have HRS : Hid _ := hrs
          clear hv hh hh8 hh8' hk8' hri hr1 hr8 hrs hRS
          go_wp2_with (first
            | (refine wpList_load_row rfl 102 _ rfl w.heap.size rfl 102 _ (0, 0) _ HH8.out Tryz.underlying102 rfl HRI.out ?_)
            | (refine wpList_store_row rfl 102 _ _ rfl (w.heap.size + 1 + 1 + 1) _ rfl rfl 102 _ HR.out HRI.out HR8.out.symm HR1.out ?_))
          refine bodyPost_ret (v := .agg RS) ?_ rfl ⟨by rw [HRS.out], below_setRow hbv (by omega) _⟩
          exact results_cell_row Tryz.results96 _ _ (w.heap.size + 1 + 1 + 1) 102 _ (0, 0) _ rfl (setRow_heap _ _ _ _ _ _ HR.out) Tryz.underlying102 rfl HRI.out

end Go.Proofs.YtbmmibmfjhehhaaGreat
