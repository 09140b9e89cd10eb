/- Contract of the reference's Press. -/
import Derived.Test.YtbmmibmfjhehhaaGreatS2
import Derived.Deep.RegionHeld3
import Derived.Deep.RegionLaw
import Derived.Deep.AppendLies
set_option linter.unusedVariables false
set_option linter.unusedSimpArgs false
namespace Go.Proofs.YtbmmibmfjhehhaaGreat
open Go.RowKit

attribute [local go_sem] U_not U_xor U_xor3 U_xor10 U_and U_or U_shr3 U_shr10 U_add U_addw

set_option maxHeartbeats 20000000 in
set_option maxRecDepth 100000 in
theorem press_any (h0 h1 h2 h3 h4 h5 h6 h7 : UInt32) (bs : List UInt8) (kv : Value) (ks : List UInt32) (w : World) (hb : bs.length = 64) (hk : HW w kv ks) (hkl : ks.length = 64) :
    Calls Tryz.prog 58 #[.agg #[.int .u32 (U h0), .int .u32 (U h1), .int .u32 (U h2), .int .u32 (U h3), .int .u32 (U h4), .int .u32 (U h5), .int .u32 (U h6), .int .u32 (U h7)], .agg (bs.map B8).toArray, kv] w fun e w' => e = .returned (.agg ((press [h0, h1, h2, h3, h4, h5, h6, h7] bs ks).map W32).toArray) ∧ Below w.heap.size w w' := by
  obtain ⟨i0, hi, hz0, hz1, hz2⟩ := info_parts Tryz.infoU32
  obtain ⟨BA, hBA⟩ : ∃ BA, BA = (bs.map B8).toArray := ⟨_, rfl⟩
  rw [← hBA]
  have H2 : Hid _ := hBA
  have H4 : Hid _ := hb
  have H5 : Hid _ := hkl
  clear hBA hb hkl
  go_enter Tryz.func58, Tryz.ntmps58
  go_wp2
  generalize hw3 : ((w.alloc (.cells #[.int .u32 (U h0), .int .u32 (U h1), .int .u32 (U h2), .int .u32 (U h3), .int .u32 (U h4), .int .u32 (U h5), .int .u32 (U h6), .int .u32 (U h7)] 102)).alloc (.cells BA 107)).alloc (.cells #[.int .u32 0, .int .u32 0, .int .u32 0, .int .u32 0, .int .u32 0, .int .u32 0, .int .u32 0, .int .u32 0] 102) = w3
  have hB3 : w3.heap.size = w.heap.size + 3 := by rw [← hw3]; simp
  have hH3 : w3.heap[w.heap.size]? = some (.cells #[.int .u32 (U h0), .int .u32 (U h1), .int .u32 (U h2), .int .u32 (U h3), .int .u32 (U h4), .int .u32 (U h5), .int .u32 (U h6), .int .u32 (U h7)] 102 (0, 0)) := by
    rw [← hw3, Below.heap_alloc _ _ _ (by simp; omega), Below.heap_alloc _ _ _ (by simp), heap_alloc_new]
  have hblk0 : w3.heap[w.heap.size + 1]? = some (.cells BA 107 (0, 0)) := by
    rw [← hw3, Below.heap_alloc _ _ _ (by simp), heap_alloc2_new]
  have hR3 : w3.heap[w.heap.size + 1 + 1]? = some (.cells #[.int .u32 0, .int .u32 0, .int .u32 0, .int .u32 0, .int .u32 0, .int .u32 0, .int .u32 0, .int .u32 0] 102 (0, 0)) := by
    rw [← hw3]; exact (by simp : (((w.alloc _).alloc _).heap.size = w.heap.size + 1 + 1)) ▸ heap_alloc_new _ _
  have hblk : ∀ i, i < 64 → w3.cell? ⟨w.heap.size + 1, i, none⟩ = some (B8 (bs.getD i 0)) := fun i hi' => by
    rw [cell_of_row _ _ _ _ _ _ hblk0, H2.out]
    have hl : i < bs.length := by rw [H4.out]; exact hi'
    simp [List.getD, List.getElem?_eq_getElem hl]
  have hw03 : Below w.heap.size w w3 := by rw [← hw3]; exact (((Below.refl _ _).alloc (Nat.le_refl _) _).alloc (by simp) _).alloc (by simp; omega) _
  clear hblk0
  have HW3 : Hid _ := hw3
  have HB3 : Hid _ := hB3
  have hB3' : w.heap.size + 3 ≤ w3.heap.size := by omega
  clear hw3 hB3
  go_loopw [7, 8] (fun v i wr => ∃ k : Nat, k ≤ 16 ∧ i = .int .i64 k ∧ FW (w.heap.size + 3) wr v (words bs k) ∧ Below (w.heap.size + 3) w3 wr) (fun _ i _ => 16 - (intOf i).toNat)
  case atStart => exact ⟨0, by omega, rfl, World.ownsRow_nil _ _ _ _, Below.refl _ _⟩
  case round =>
    obtain ⟨k, hk16, rfl, hown, hbel⟩ := hrel
    have hsz := hbel.size
    by_cases hlt : k < 16
    · have c0 : wr.cell? ⟨w.heap.size + 1, 4 * k, none⟩ = some (B8 (bs.getD (4 * k) 0)) := (hbel.cell (by simp)).trans (hblk _ (by omega))
      have c1 : wr.cell? ⟨w.heap.size + 1, 4 * k + 1, none⟩ = some (B8 (bs.getD (4 * k + 1) 0)) := (hbel.cell (by simp)).trans (hblk _ (by omega))
      have c2 : wr.cell? ⟨w.heap.size + 1, 4 * k + 2, none⟩ = some (B8 (bs.getD (4 * k + 2) 0)) := (hbel.cell (by simp)).trans (hblk _ (by omega))
      have c3 : wr.cell? ⟨w.heap.size + 1, 4 * k + 3, none⟩ = some (B8 (bs.getD (4 * k + 3) 0)) := (hbel.cell (by simp)).trans (hblk _ (by omega))
      have HWS : Hid _ := words_succ bs k
      have hwl : Hid _ := words_len bs k
      generalize bs.getD (4 * k) 0 = x0 at *
      generalize bs.getD (4 * k + 1) 0 = x1 at *
      generalize bs.getD (4 * k + 2) 0 = x2 at *
      generalize bs.getD (4 * k + 3) 0 = x3 at *
      have b0 := x0.toNat_lt
      have b1 := x1.toNat_lt
      have b2 := x2.toNat_lt
      have b3 := x3.toNat_lt
      have hU := U_wordOf x0 x1 x2 x3
      unfold B8 at c0 c1 c2 c3
      have q0 : IntKind.i64.wrap (4 * (k : Int)) = 4 * (k : Int) := wrap_i64_in _ (by omega) (by omega)
      have q1 : IntKind.i64.wrap (4 * (k : Int) + 1) = 4 * (k : Int) + 1 := wrap_i64_in _ (by omega) (by omega)
      have q2 : IntKind.i64.wrap (4 * (k : Int) + 2) = 4 * (k : Int) + 2 := wrap_i64_in _ (by omega) (by omega)
      have q3 : IntKind.i64.wrap (4 * (k : Int) + 3) = 4 * (k : Int) + 3 := wrap_i64_in _ (by omega) (by omega)
      have t0 : (4 * (k : Int)).toNat = 4 * k := by omega
      have t1 : (4 * (k : Int) + 1).toNat = 4 * k + 1 := by omega
      have t2 : (4 * (k : Int) + 2).toNat = 4 * k + 2 := by omega
      have t3 : (4 * (k : Int) + 3).toNat = 4 * k + 3 := by omega
      have i0' : (0 : Int) ≤ 4 * (k : Int) ∧ 4 * (k : Int) < 64 := by omega
      have i1' : (0 : Int) ≤ 4 * (k : Int) + 1 ∧ 4 * (k : Int) + 1 < 64 := by omega
      have i2' : (0 : Int) ≤ 4 * (k : Int) + 2 ∧ 4 * (k : Int) + 2 < 64 := by omega
      have i3' : (0 : Int) ≤ 4 * (k : Int) + 3 ∧ 4 * (k : Int) + 3 < 64 := by omega
      clear hblk
      go_wp2
      go_region_held3 (fun w' => w'.cell? ⟨w.heap.size + 1, 4 * k, none⟩ = some (.int .u8 (x0.toNat : Int)) ∧ w'.cell? ⟨w.heap.size + 1, 4 * k + 1, none⟩ = some (.int .u8 (x1.toNat : Int)) ∧ w'.cell? ⟨w.heap.size + 1, 4 * k + 2, none⟩ = some (.int .u8 (x2.toNat : Int)) ∧ w'.cell? ⟨w.heap.size + 1, 4 * k + 3, none⟩ = some (.int .u8 (x3.toNat : Int))) (go_keep) (first | (refine step_append_lies _ rfl (.tmp 29) (.tmp 59) 104 rfl (w.heap.size + 3) 101 i0 (.int .u32 0) 1 4 Tryz.underlying104 hi hz0 hz1 hz2 rfl (by decide) u7 _ _ (by simp [Act.eval, Act.put]) (by exact hown.drew.alloc _) ⟨wr.heap.size, 0, none⟩ 1 1 [_] (by simp [Act.eval, Act.put]) rfl (by exact cell_one_new _ _ _) (by intro u hu; simp at hu; subst hu; rfl) (by decide) (by rw [hwl.out]; unfold maxLen; omega) (by rw [hwl.out]; omega) (by simp; omega) _ rfl ?_; intro g cap' w1 hown1 hgr1 hg1 hlt1; have hb1 : Below (w.heap.size + 3) wr w1 := ((Below.refl _ wr).drew.alloc (by simp; omega) _).grown hgr1 (by simp; omega) (fun j hj => (hown.lt j hj).1); have d0 := (hb1.cell (p := ⟨w.heap.size + 1, 4 * k, none⟩) (by simp)).trans c0; have d1 := (hb1.cell (p := ⟨w.heap.size + 1, 4 * k + 1, none⟩) (by simp)).trans c1; have d2 := (hb1.cell (p := ⟨w.heap.size + 1, 4 * k + 2, none⟩) (by simp)).trans c2; have d3 := (hb1.cell (p := ⟨w.heap.size + 1, 4 * k + 3, none⟩) (by simp)).trans c3))
      go_wp2
      go_roundw
      case rel =>
        refine ⟨k + 1, by omega, by go_num, ?_, hbel.trans hb1⟩
        unfold FW
        rw [HWS.out, List.length_append, List.map_append]
        rw [U_wordOf'] at hown1
        exact hown1
      case measure => simp [intOf]; omega
    · have : k = 16 := by omega
      subst this
      have hown0 : FW (w.heap.size + 3) wr u7 (sched bs 0) := hown
      have hbel0 := hbel
      clear hown hbel hk16 hlt hsz hblk
      go_wp2
      go_loopw [7, 9] (fun v i wr => ∃ k : Nat, k ≤ 48 ∧ i = .int .i64 ((16 + k : Nat) : Int) ∧ FW (w.heap.size + 3) wr v (sched bs k) ∧ Below (w.heap.size + 3) w3 wr) (fun _ i _ => 64 - (intOf i).toNat)
      case atStart => exact ⟨0, by omega, rfl, hown0, hbel0⟩
      case round =>
        obtain ⟨k, hk48, rfl, hown, hbel⟩ := hrel
        clear hown0 hbel0
        have hsz := hbel.size
        have hlen := sched_len bs k
        obtain ⟨g, cap, rfl, hc1, hc2⟩ := hown.block (by omega)
        obtain ⟨i, hi16⟩ : ∃ i, i = 16 + k := ⟨_, rfl⟩
        rw [← hi16]
        have HI16 : Hid _ := hi16
        have HLEN : Hid _ := hlen
        by_cases hlt : k < 48
        · have il : i < 64 := by omega
          have il2 : 16 ≤ i := by omega
          have a15 := hown.cell (i - 15) (by omega)
          have a2 := hown.cell (i - 2) (by omega)
          have a16 := hown.cell (i - 16) (by omega)
          have a7 := hown.cell (i - 7) (by omega)
          have q15 : IntKind.i64.wrap ((i : Int) - 15) = (i : Int) - 15 := wrap_i64_in _ (by omega) (by omega)
          have q2 : IntKind.i64.wrap ((i : Int) - 2) = (i : Int) - 2 := wrap_i64_in _ (by omega) (by omega)
          have q16 : IntKind.i64.wrap ((i : Int) - 16) = (i : Int) - 16 := wrap_i64_in _ (by omega) (by omega)
          have q7 : IntKind.i64.wrap ((i : Int) - 7) = (i : Int) - 7 := wrap_i64_in _ (by omega) (by omega)
          have t15 : ((i : Int) - 15).toNat = i - 15 := by omega
          have t2 : ((i : Int) - 2).toNat = i - 2 := by omega
          have t16 : ((i : Int) - 16).toNat = i - 16 := by omega
          have t7 : ((i : Int) - 7).toNat = i - 7 := by omega
          have l15 : (0 : Int) ≤ (i : Int) - 15 ∧ (i : Int) - 15 < ((sched bs k).length : Int) := by omega
          have l2 : (0 : Int) ≤ (i : Int) - 2 ∧ (i : Int) - 2 < ((sched bs k).length : Int) := by omega
          have l16 : (0 : Int) ≤ (i : Int) - 16 ∧ (i : Int) - 16 < ((sched bs k).length : Int) := by omega
          have l7 : (0 : Int) ≤ (i : Int) - 7 ∧ (i : Int) - 7 < ((sched bs k).length : Int) := by omega
          have m16 : (16 : Int) ≤ (i : Int) := by omega
          have m7 : (7 : Int) ≤ (i : Int) := by omega
          have m15 : (15 : Int) ≤ (i : Int) := by omega
          have m2 : (2 : Int) ≤ (i : Int) := by omega
          have hsc : sched bs (k + 1) = sched bs k ++ [ext (sched bs k) i] := by rw [hi16]; rfl
          have HSC : Hid _ := hsc
          clear hi16 hlen hsc
          unfold ext at HSC
          generalize (sched bs k).getD (i - 15) 0 = x15 at *
          generalize (sched bs k).getD (i - 2) 0 = x2 at *
          generalize (sched bs k).getD (i - 16) 0 = x16 at *
          generalize (sched bs k).getD (i - 7) 0 = x7 at *
          go_wp2
          go_region
          go_wp2_with (go_at_call 76; refine (ror_num _ _ (by decide) (by decide) _).mono ?_; rintro e wx ⟨rfl, rfl⟩)
          go_region_law (refine step_append_lies _ rfl (.tmp 91) (.tmp 107) 104 rfl (w.heap.size + 3) 101 i0 (.int .u32 0) 1 4 Tryz.underlying104 hi hz0 hz1 hz2 rfl (by decide) (.slice (some ⟨g, 0, none⟩) (sched bs k).length cap) _ _ (by simp [Act.eval, Act.put]) (by exact hown.drew.drew.alloc _) ⟨wr.heap.size, 0, none⟩ 1 1 [_] (by simp [Act.eval, Act.put]) rfl (by exact cell_one_new _ _ _) (by intro u hu; simp at hu; subst hu; rfl) (by decide) (by rw [HLEN.out]; unfold maxLen; omega) (by rw [HLEN.out]; omega) (by simp; omega) _ rfl ?_; intro g' cap' w1 hown1 hgr1 hg1 hlt1)
          all_goals
            have hb1 : Below (w.heap.size + 3) wr w1 := ((Below.refl _ wr).drew.drew.alloc (by simp; omega) _).grown hgr1 (by simp; omega) (fun j hj => (hown.lt j hj).1)
            go_wp2
            go_roundw
            case rel =>
              have hfw : FW (w.heap.size + 3) w1 (.slice (some ⟨g', 0, none⟩) ((sched bs k).length + 1) cap') (sched bs (k + 1)) := by
                unfold FW
                rw [HSC.out, List.length_append, List.map_append]
                exact hown1
              have hiv : Value.int .i64 ((i : Int) + 1) = .int .i64 ((16 + (k + 1) : Nat) : Int) := by have := HI16.out; congr 1; omega
              first | exact ⟨k + 1, by omega, hiv, hfw, hbel.trans hb1⟩ | ((repeat apply Exists.intro); exact ⟨⟨k + 1, by omega, hiv, hfw, hbel.trans hb1⟩, rfl⟩)
            case measure => simp [intOf]; omega
        · have hk48' : k = 48 := by omega
          have HK48 : Hid _ := hk48'
          have hi64 : 64 ≤ i := by omega
          have hi64' : i ≤ 64 := by omega
          have hwl : (sched bs k).length = 64 := by omega
          have HWL : Hid _ := hwl
          obtain ⟨ws, hws⟩ : ∃ ws, ws = sched bs k := ⟨_, rfl⟩
          rw [← hws] at hown hc1
          rw [← hws]
          have HWS : Hid _ := hws
          clear hi16 HI16 hlt hk48 hk48' hlen HLEN hwl hws
          have hHr := (hbel.block w.heap.size (by omega)).trans hH3
          go_wp2_with (refine wpList_load_row rfl 102 _ rfl w.heap.size rfl 102 _ (0, 0) _ hHr Tryz.underlying102 rfl (by kernel_rfl) ?_)
          obtain ⟨w2, hw2⟩ : ∃ w2, w2 = wr := ⟨_, rfl⟩
          subst hw2
          obtain ⟨pk, ck, rfl, hkc⟩ := hk
          have HH3 : Hid _ := hH3
          have HR3 : Hid _ := hR3
          clear hH3 hR3 hHr
          go_loopw [15] (fun i wv => ∃ (k : Nat) (a0 a1 a2 a3 a4 a5 a6 a7 : UInt32), k ≤ 64 ∧ i = .int .i64 k ∧ rnds ks ws [h0, h1, h2, h3, h4, h5, h6, h7] k = [a0, a1, a2, a3, a4, a5, a6, a7] ∧ wv.heap[w2.heap.size]? = some (.cells #[.int .u32 (U a0), .int .u32 (U a1), .int .u32 (U a2), .int .u32 (U a3), .int .u32 (U a4), .int .u32 (U a5), .int .u32 (U a6), .int .u32 (U a7)] 102 (0, 0)) ∧ Below w2.heap.size w2 wv) (fun i _ => 64 - (intOf i).toNat)
          case atStart => exact ⟨0, h0, h1, h2, h3, h4, h5, h6, h7, by omega, rfl, rfl, heap_alloc_new _ _, (Below.refl _ _).alloc (Nat.le_refl _) _⟩
          case round =>
            obtain ⟨k, a0, a1, a2, a3, a4, a5, a6, a7, hk64, rfl, hrn, hv, hbv⟩ := hrel
            have HRN : Hid _ := hrn
            have HV : Hid _ := hv
            have hszv := hbv.size
            by_cases hlt : k < 64
            · have d0 := cell_of_row _ _ 0 _ _ _ hv
              have d1 := cell_of_row _ _ 1 _ _ _ hv
              have d2 := cell_of_row _ _ 2 _ _ _ hv
              have d3 := cell_of_row _ _ 3 _ _ _ hv
              have d4 := cell_of_row _ _ 4 _ _ _ hv
              have d5 := cell_of_row _ _ 5 _ _ _ hv
              have d6 := cell_of_row _ _ 6 _ _ _ hv
              have d7 := cell_of_row _ _ 7 _ _ _ hv
              have f0 := frozen_of_row _ _ 0 _ _ hv
              have f1 := frozen_of_row _ _ 1 _ _ hv
              have f2 := frozen_of_row _ _ 2 _ _ hv
              have f3 := frozen_of_row _ _ 3 _ _ hv
              have f4 := frozen_of_row _ _ 4 _ _ hv
              have f5 := frozen_of_row _ _ 5 _ _ hv
              have f6 := frozen_of_row _ _ 6 _ _ hv
              have f7 := frozen_of_row _ _ 7 _ _ hv
              simp only [List.getElem?_toArray, List.getElem?_cons_zero, List.getElem?_cons_succ] at d0 d1 d2 d3 d4 d5 d6 d7
              obtain ⟨bk, ok, hpk, hkx⟩ := hkc k (by rw [H5.out]; exact hlt)
              have hg2 : g < w2.heap.size := block_lt (hown.cell 0 (by rw [← HWS.out] at HWL; have := HWL.out; omega))
              have hwx : wr.cell? ⟨g, k, none⟩ = some (.int .u32 (U (ws.getD k 0))) := (hbv.cell (p := ⟨g, k, none⟩) hg2).trans (hown.cell k (by rw [← HWS.out] at HWL; have := HWL.out; omega))
              have hkx' : wr.cell? ⟨bk, ok + k, none⟩ = some (.int .u32 (U (ks.getD k 0))) := by
                have hbk : bk < w.heap.size := block_lt hkx
                have := hw03.size
                rw [hbv.cell (p := ⟨bk, ok + k, none⟩) (show bk < w2.heap.size by omega), hbel.cell (p := ⟨bk, ok + k, none⟩) (show bk < w.heap.size + 3 by omega), hw03.cell (p := ⟨bk, ok + k, none⟩) hbk]
                exact hkx
              subst hpk
              have hkl1 : (k : Int) < (ks.length : Int) := by rw [H5.out]; omega
              have hwl1 : (k : Int) < (ws.length : Int) := by rw [HWS.out, HWL.out]; omega
              have hstep : rnds ks ws [h0, h1, h2, h3, h4, h5, h6, h7] (k + 1) = rnd [a0, a1, a2, a3, a4, a5, a6, a7] (ks.getD k 0) (ws.getD k 0) := by rw [← hrn]; rfl
              have HST : Hid _ := hstep
              generalize ks.getD k 0 = kk at *
              generalize ws.getD k 0 = xx at *
              have HF : Hid _ := And.intro f0 (And.intro f1 (And.intro f2 (And.intro f3 (And.intro f4 (And.intro f5 (And.intro f6 f7))))))
              have HD : Hid _ := And.intro d0 (And.intro d1 (And.intro d2 (And.intro d3 (And.intro d4 (And.intro d5 (And.intro d6 d7))))))
              have HD7 : Hid _ := d7
              have HKX : Hid _ := hkx'
              have HWX : Hid _ := hwx
              clear hv hkc hkx hrn hstep f0 f1 f2 f3 f4 f5 f6 f7 hi hz0 hz1 hz2 hc1 hc2 hi64 hi64' hg2 d3 d7 hkx' hwx hszv hsz hk64
              go_wp2
              go_region
              clear d0 d1 d2 d4 d5 d6
              have d7 := HD7.out
              have hkx' := HKX.out
              have hwx := HWX.out
              go_wp2
              go_region_held3 (fun w' => w'.cell? ⟨w2.heap.size, 7, none⟩ = some (.int .u32 (U a7)) ∧ w'.cell? ⟨bk, ok + k, none⟩ = some (.int .u32 (U kk)) ∧ w'.cell? ⟨g, k, none⟩ = some (.int .u32 (U xx))) (go_keep) (first | (go_at_call 76; refine (ror_num _ _ (by decide) (by decide) _).mono ?_; rintro e wx ⟨rfl, rfl⟩))
              clear d7 hkx' hwx
              obtain ⟨f0, f1, f2, f3, f4, f5, f6, f7⟩ := HF.out
              obtain ⟨d0, d1, d2, d3, d4, d5, d6, d7⟩ := HD.out
              go_wp2_with (go_at_call 76; refine (ror_num _ _ (by decide) (by decide) _).mono ?_; rintro e wx ⟨rfl, rfl⟩)
              go_roundw
              case rel =>
                have hS := store8 wr w2.heap.size 102 _ _ _ _ _ _ _ _ (.int .u32 (U ((a7 + (rotr a4 6 ^^^ rotr a4 11 ^^^ rotr a4 25) + ((a4 &&& a5) ^^^ (~~~a4 &&& a6)) + kk + xx) + ((rotr a0 2 ^^^ rotr a0 13 ^^^ rotr a0 22) + ((a0 &&& a1) ^^^ (a0 &&& a2) ^^^ (a1 &&& a2)))))) (.int .u32 (U (a0))) (.int .u32 (U (a1))) (.int .u32 (U (a2))) (.int .u32 (U (a3 + (a7 + (rotr a4 6 ^^^ rotr a4 11 ^^^ rotr a4 25) + ((a4 &&& a5) ^^^ (~~~a4 &&& a6)) + kk + xx)))) (.int .u32 (U (a4))) (.int .u32 (U (a5))) (.int .u32 (U (a6))) HV.out
                have hB := (below8 hbv w2.heap.size (Nat.le_refl _) (.int .u32 (U ((a7 + (rotr a4 6 ^^^ rotr a4 11 ^^^ rotr a4 25) + ((a4 &&& a5) ^^^ (~~~a4 &&& a6)) + kk + xx) + ((rotr a0 2 ^^^ rotr a0 13 ^^^ rotr a0 22) + ((a0 &&& a1) ^^^ (a0 &&& a2) ^^^ (a1 &&& a2)))))) (.int .u32 (U (a0))) (.int .u32 (U (a1))) (.int .u32 (U (a2))) (.int .u32 (U (a3 + (a7 + (rotr a4 6 ^^^ rotr a4 11 ^^^ rotr a4 25) + ((a4 &&& a5) ^^^ (~~~a4 &&& a6)) + kk + xx)))) (.int .u32 (U (a4))) (.int .u32 (U (a5))) (.int .u32 (U (a6)))).drew.drew
                refine ⟨k + 1, (a7 + (rotr a4 6 ^^^ rotr a4 11 ^^^ rotr a4 25) + ((a4 &&& a5) ^^^ (~~~a4 &&& a6)) + kk + xx) + ((rotr a0 2 ^^^ rotr a0 13 ^^^ rotr a0 22) + ((a0 &&& a1) ^^^ (a0 &&& a2) ^^^ (a1 &&& a2))), a0, a1, a2, a3 + (a7 + (rotr a4 6 ^^^ rotr a4 11 ^^^ rotr a4 25) + ((a4 &&& a5) ^^^ (~~~a4 &&& a6)) + kk + xx), a4, a5, a6, by omega, by go_num, HST.out.trans (rnd_eq a0 a1 a2 a3 a4 a5 a6 a7 kk xx), ?_, ?_⟩
                · rw [heap_drew, heap_drew]; exact hS
                · exact hB
              case measure => simp [intOf]; omega
            · have hk64' : k = 64 := by omega
              have hrn64 : rnds ks ws [h0, h1, h2, h3, h4, h5, h6, h7] 64 = [a0, a1, a2, a3, a4, a5, a6, a7] := by rw [← hk64']; exact hrn
              have HRN64 : Hid _ := hrn64
              have hH2 : wr.heap[w.heap.size]? = some (.cells #[.int .u32 (U h0), .int .u32 (U h1), .int .u32 (U h2), .int .u32 (U h3), .int .u32 (U h4), .int .u32 (U h5), .int .u32 (U h6), .int .u32 (U h7)] 102 (0, 0)) := by
                have := hw03.size
                rw [hbv.block w.heap.size (by omega), hbel.block w.heap.size (by omega)]; exact HH3.out
              have hBw : Below w.heap.size w wr := hw03.trans ((hbel.mono (by omega)).trans (hbv.mono (by have := hw03.size; omega)))
              clear hrn HRN hrn64 hk64' hk64 hkc hi hz0 hz1 hz2 hc1 hc2 hi64 hi64' hszv hsz
              have hR2 : wr.heap[w.heap.size + 1 + 1]? = some (.cells #[.int .u32 0, .int .u32 0, .int .u32 0, .int .u32 0, .int .u32 0, .int .u32 0, .int .u32 0, .int .u32 0] 102 (0, 0)) := by
                have := hw03.size
                have := hbel.size
                rw [hbv.block _ (by omega), hbel.block _ (by omega)]; exact HR3.out
              have hw2s : w.heap.size + 3 ≤ w2.heap.size := by have := hbel.size; omega
              have hv0 : wr.heap[w2.heap.size]? = some (.cells ((fin [a0, a1, a2, a3, a4, a5, a6, a7] [h0, h1, h2, h3, h4, h5, h6, h7] 0).map W32).toArray 102 (0, 0)) := hv
              have HH2 : Hid _ := hH2
              have HR2 : Hid _ := hR2
              have HV0 : Hid _ := hv0
              obtain ⟨wf, hwf⟩ : ∃ wf, wf = wr := ⟨_, rfl⟩
              subst hwf
              clear hH2 hR2 hv0 hv HV HH3 HR3 hbv hbel hw03
              go_wp2
              go_loopw [24] (fun i wv => ∃ k : Nat, k ≤ 8 ∧ i = .int .i64 k ∧ wv.heap[w2.heap.size]? = some (.cells ((fin [a0, a1, a2, a3, a4, a5, a6, a7] [h0, h1, h2, h3, h4, h5, h6, h7] k).map W32).toArray 102 (0, 0)) ∧ Below w2.heap.size wf wv) (fun i _ => 8 - (intOf i).toNat)
              case atStart => exact ⟨0, by omega, rfl, HV0.out, Below.refl _ _⟩
              case round =>
                obtain ⟨k, hk8, rfl, hv, hbv⟩ := hrel
                have hH := (hbv.block w.heap.size (by omega)).trans HH2.out
                have hR := (hbv.block (w.heap.size + 1 + 1) (by omega)).trans HR2.out
                have HH : Hid _ := hH
                have HR : Hid _ := hR
                have HV : Hid _ := hv
                clear hH hR
                by_cases hlt : k < 8
                · have hx := cell_of_row _ _ k _ _ _ hv
                  have hy := cell_of_row _ _ k _ _ _ HH.out
                  have hf := frozen_of_row _ _ k _ _ hv
                  rw [fin_cell _ _ _ rfl rfl hlt] at hx
                  rw [lit_cell h0 h1 h2 h3 h4 h5 h6 h7 k hlt] at hy
                  have hset := fin_set [a0, a1, a2, a3, a4, a5, a6, a7] [h0, h1, h2, h3, h4, h5, h6, h7] k rfl rfl hlt
                  have HSET : Hid _ := hset
                  clear hv hset
                  generalize ([a0, a1, a2, a3, a4, a5, a6, a7] : List UInt32).getD k 0 = x at *
                  generalize ([h0, h1, h2, h3, h4, h5, h6, h7] : List UInt32).getD k 0 = y at *
                  have hlt' : (k : Int) < 8 := by omega
                  go_wp2
                  go_region
                  all_goals
                    go_wp2
                    go_roundw
                    case rel =>
                      refine ⟨k + 1, by omega, by go_num, ?_, (hbv.setCell (p := ⟨w2.heap.size, k, none⟩) (Nat.le_refl _) _).drew⟩
                      have := heap_setCell_same _ w2.heap.size k _ 102 (.int .u32 (U (x + y))) HV.out
                      have e := HSET.out
                      rw [← e]
                      exact this
                    case measure => simp [intOf]; omega
                · have hk8' : k = 8 := by omega
                  have hv8 := HV.out
                  rw [hk8', fin_all] at hv8
                  have hres : press [h0, h1, h2, h3, h4, h5, h6, h7] bs ks = [a0 + h0, a1 + h1, a2 + h2, a3 + h3, a4 + h4, a5 + h5, a6 + h6, a7 + h7] := by
                    unfold press
                    rw [← HK48.out, ← HWS.out, HRN64.out]; rfl
                  have HRES : Hid _ := hres
                  have r0 := cell_of_row _ _ 0 _ _ _ HR.out
                  have r1 := cell_of_row _ _ 1 _ _ _ HR.out
                  have r2 := cell_of_row _ _ 2 _ _ _ HR.out
                  have r3 := cell_of_row _ _ 3 _ _ _ HR.out
                  have r4 := cell_of_row _ _ 4 _ _ _ HR.out
                  have r5 := cell_of_row _ _ 5 _ _ _ HR.out
                  have r6 := cell_of_row _ _ 6 _ _ _ HR.out
                  have r7 := cell_of_row _ _ 7 _ _ _ HR.out
                  simp only [List.getElem?_toArray, List.getElem?_cons_zero, List.getElem?_cons_succ] at r0 r1 r2 r3 r4 r5 r6 r7
                  have g0 := frozen_of_row _ _ 0 _ _ HR.out
                  have g1 := frozen_of_row _ _ 1 _ _ HR.out
                  have g2 := frozen_of_row _ _ 2 _ _ HR.out
                  have g3 := frozen_of_row _ _ 3 _ _ HR.out
                  have g4 := frozen_of_row _ _ 4 _ _ HR.out
                  have g5 := frozen_of_row _ _ 5 _ _ HR.out
                  have g6 := frozen_of_row _ _ 6 _ _ HR.out
                  have g7 := frozen_of_row _ _ 7 _ _ HR.out
                  have hv8' : wr.heap[w2.heap.size]? = some (.cells #[.int .u32 (U (a0 + h0)), .int .u32 (U (a1 + h1)), .int .u32 (U (a2 + h2)), .int .u32 (U (a3 + h3)), .int .u32 (U (a4 + h4)), .int .u32 (U (a5 + h5)), .int .u32 (U (a6 + h6)), .int .u32 (U (a7 + h7))] 102 (0, 0)) := hv8
                  clear hv hv8 hk8' hres
                  go_wp2_with (refine wpList_load_row rfl 102 _ rfl w2.heap.size rfl 102 _ (0, 0) _ hv8' Tryz.underlying102 rfl (by kernel_rfl) ?_)
                  have hS := store8 wr (w.heap.size + 1 + 1) 102 _ _ _ _ _ _ _ _ (.int .u32 (U (a0 + h0))) (.int .u32 (U (a1 + h1))) (.int .u32 (U (a2 + h2))) (.int .u32 (U (a3 + h3))) (.int .u32 (U (a4 + h4))) (.int .u32 (U (a5 + h5))) (.int .u32 (U (a6 + h6))) (.int .u32 (U (a7 + h7))) HR.out
                  have hB := below8 (hBw.trans (hbv.mono (by omega))) (w.heap.size + 1 + 1) (by omega)
                  refine bodyPost_ret (v := .agg ((press [h0, h1, h2, h3, h4, h5, h6, h7] bs ks).map W32).toArray) ?_ rfl ⟨rfl, hB _ _ _ _ _ _ _ _⟩
                  rw [HRES.out]
                  exact results_cell_row Tryz.results58 _ _ (w.heap.size + 1 + 1) 102 _ (0, 0) _ rfl hS Tryz.underlying102 rfl (by kernel_rfl)

end Go.Proofs.YtbmmibmfjhehhaaGreat
