/- Contract of ref's Sum. -/
import Derived.Test.YtpmknkagnkagpaaGreatWe
import Derived.Test.YtpmknkagnkagpaaGreatX2
import Derived.Test.YtpmknkagnkagpaaGreatF3
import Derived.Lib.SlBytesRow
import Derived.Laws.CopyOwn
import Derived.Deep.RegionLaw
set_option linter.unusedVariables false
set_option linter.unusedSimpArgs false
namespace Go.Proofs.YtpmknkagnkagpaaGreat
open Go.RowKit

theorem refPress_l (hs : List UInt32) (bs : List UInt8) (kv : Value) (ks : List UInt32) (w : World) (h8 : hs.length = 8) (hb : bs.length = 64) (hk : HW w kv ks) (hkl : ks.length = 64) :
    Calls Tryz.prog 84 #[.agg (hs.map W32).toArray, .agg (bs.map B8).toArray, kv] w fun e w' => e = .returned (.agg ((press hs bs ks).map W32).toArray) ∧ Below w.heap.size w w' := by
  match hs, h8 with
  | [h0, h1, h2, h3, h4, h5, h6, h7], _ => exact press_any h0 h1 h2 h3 h4 h5 h6 h7 bs kv ks w hb hk hkl

end Go.Proofs.YtpmknkagnkagpaaGreat

namespace Go.Proofs.YtpmknkagnkagpaaGreat
open Go.RowKit

theorem splice_all {α : Type} (Z cs : List α) (h : cs.length = Z.length) : splice Z 0 cs = cs := by
  unfold splice
  simp [h]
theorem start_nat (k : Nat) (h : k < 8) : U (start (k : Int)) = U (H8.getD k 0) := by
  unfold start
  rw [if_pos ⟨by omega, by omega⟩]
  simp
theorem B8_one1 (l : List UInt8) : ∀ v ∈ l.map B8, v.oneCell' = true := by
  intro v hv
  simp only [List.mem_map] at hv
  obtain ⟨x, _, rfl⟩ := hv
  rfl
theorem sliceBlk (w : World) (b : Nat) : (Instr.sliceAt 128 (.pointer (some ⟨b, 0, none⟩)) none none none).run Tryz.prog w = .ok (.slice (some ⟨b, 0, none⟩) 64 64) w := by
  have ha : Tryz.prog.arrayLen 128 = 64 := by kernel_rfl
  have hu : Tryz.prog.underlying 128 = some (.array (Tryz.prog.arrayLen 128) (Tryz.prog.elem 128)) := by kernel_rfl
  have he : Tryz.prog.elem 128 = 5 := by kernel_rfl
  rw [run_sliceAt_array_all w 128 _ hu, he, size_u8, ha]
  have hadd : (⟨b, 0, none⟩ : Addr).add (0 * 1) = ⟨b, 0, none⟩ := by unfold Addr.add; split <;> simp_all
  simp only [Result.andThen, slicedAt]
  rw [if_neg (by decide), hadd]
theorem sliceWin (w : World) (g n cap k : Nat) (h : 64 * k + 64 ≤ cap) : (Instr.slice 78 (.slice (some ⟨g, 0, none⟩) n cap) (some (.int .i64 (64 * (k : Int)))) (some (.int .i64 (64 * (k : Int) + 64))) none).run Tryz.prog w = .ok (.slice (some ⟨g, 64 * k, none⟩) 64 (cap - 64 * k)) w := by
  have := Lib.run_slice_window (P := Tryz.prog) w 78 5 Tryz.underlying78 size_u8 g 0 n cap (64 * k) (64 * k + 64) (by omega) h
  rw [show (64 * k + 64) - 64 * k = 64 by omega, Nat.zero_add] at this
  simpa using this
theorem sliceWinA (w : World) (g n cap k : Nat) (h : 64 * k + 64 ≤ cap) : (Instr.sliceAt 78 (.slice (some ⟨g, 0, none⟩) n cap) (some (.int .i64 (64 * (k : Int)))) (some (.int .i64 (64 * (k : Int) + 64))) none).run Tryz.prog w = .ok (.slice (some ⟨g, 64 * k, none⟩) 64 (cap - 64 * k)) w := by
  rw [run_sliceAt_slice w 78 _ _ _ _ (by kernel_rfl)]; exact sliceWin w g n cap k h

set_option maxHeartbeats 8000000 in
set_option maxRecDepth 100000 in
theorem refSum_any (v : Value) (l : List UInt8) (w : World) (hr : l.length ≤ 4294967296) (h : HB w v l) :
    Calls Tryz.prog 70 #[v] w fun e w' => e = .returned (.agg ((shaL l).map B8).toArray) ∧ Below w.heap.size w w' := by
  have hm := padL_mod l
  have hle := padL_le l
  obtain ⟨N, hN⟩ : ∃ N, N = (padL l).length / 64 := ⟨_, rfl⟩
  have hN1 : (padL l).length = 64 * N := by omega
  have hN0 : 0 < N := by have := padL_pos l; omega
  have hNl : N ≤ 68719476736 := by omega
  have hpad := fun W hW => pad_any v l W (by omega) hW
  obtain ⟨D, hD⟩ : ∃ D, D = dig8 (pAll H8 (padL l) N) := ⟨_, rfl⟩
  have hDe : shaL l = D := by rw [hD, hN]; rfl
  rw [hDe]
  have hDl : D.length = 32 := by rw [hD]; exact dig8_len _
  have hDg : ∀ i, i < 32 → D.getD i 0 = wb (pAll H8 (padL l) N) i := by rw [hD]; exact dig8_get _
  have hcbs : ∀ k, k < N → ∀ j, j < 64 → (blk (padL l) k)[j]? = some ((padL l).getD (64 * k + j) 0) := fun k hk j hj => blk_get (padL l) k j (by omega) hj
  have hbl : ∀ k, k < N → (blk (padL l) k).length = 64 := fun k hk => blk_len (padL l) k (by omega)
  have hp8 := fun k => pAll_len H8 (padL l) k rfl
  have hp0 : pAll H8 (padL l) 0 = H8 := rfl
  have hrow : ∀ k, pAll H8 (padL l) (k + 1) = press (pAll H8 (padL l) k) (blk (padL l) k) K64 := fun _ => rfl
  generalize padL l = p at *
  generalize pAll H8 p = PA at *
  generalize blk p = BK at *
  have HV : Hid _ := h
  have HDL : Hid _ := hDl
  have HDG : Hid _ := hDg
  have HCB : Hid _ := hcbs
  have HBL : Hid _ := hbl
  have HP8 : Hid _ := hp8
  have HP0 : Hid _ := hp0
  have HROW : Hid _ := hrow
  have HN : Hid _ := hN1
  clear h hD hDe hDl hDg hcbs hbl hp8 hp0 hrow hN hm hle hN1 hr
  go_enter Tryz.func70, Tryz.ntmps70
  go_wp2
  go_loopw [4] (fun i wr => ∃ k : Nat, k ≤ 8 ∧ i = .int .i64 k ∧ wr.heap[w.heap.size + 1]? = some (.cells ((part 8 H8 k).map W32).toArray 124 (0, 0)) ∧ wr.heap[w.heap.size]? = some (.cells ((bpart 32 D 0).map B8).toArray 24 (0, 0)) ∧ wr.heap.size = w.heap.size + 2 ∧ Below w.heap.size w wr) (fun i _ => 8 - (intOf i).toNat)
  case atStart =>
    refine ⟨0, by omega, rfl, heap_alloc2_new _ _ _, alloc2_first _ _ _, by simp, ((Below.refl _ _).alloc (Nat.le_refl _) _).alloc (by simp) _⟩
  case round =>
    obtain ⟨k, hk, rfl, hT, hR, hs, hbel⟩ := hrel
    have HT : Hid _ := hT
    have HR : Hid _ := hR
    by_cases hlt : k < 8
    · have hset := part_set 8 H8 k rfl hlt
      obtain ⟨u, hu⟩ := part_cell 8 H8 k rfl hlt
      have hcu := cell_of_row _ _ k _ _ _ hT
      rw [hu] at hcu
      have hfu := frozen_of_row _ _ k _ _ hT
      have hst := start_any (k : Int) wr
      rw [start_nat k hlt] at hst
      have HSET : Hid _ := hset
      clear hset hT hR hu
      generalize H8.getD k 0 = x at *
      go_wp2_with fail
      refine hst.mono ?_
      rintro e wx ⟨rfl, rfl⟩
      clear hst
      go_wp2
      go_roundw
      case rel =>
        refine ⟨k + 1, by omega, by go_num, ?_, ?_, by simpa using hs, hbel.setCell (p := ⟨w.heap.size + 1, k, none⟩) (by simp) _⟩
        · rw [← HSET.out]
          exact heap_setCell_same _ (w.heap.size + 1) k _ 124 _ HT.out
        · rw [heap_setCell_other _ _ _ _ (by simp)]; exact HR.out
      case measure => simp [intOf]; omega
    · have hk' : k = 8 := by omega
      subst hk'
      have hT' := hT
      rw [part_all 8 H8 rfl, ← HP0.out] at hT'
      have HT' : Hid _ := hT'
      have HV1 : Hid _ := HB.below HV.out hbel
      clear hT HT hT' hR
      go_wp2_with fail
      refine (constants_any wr).mono ?_
      rintro e w1 ⟨kv, rfl, hkv, hb1⟩
      obtain ⟨gk, capk, rfl, hk1, hk2⟩ := hkv.block (by decide)
      have hkc : ∀ i, i < 64 → w1.cell? ⟨gk, i, none⟩ = some (W32 (K64.getD i 0)) := fun i hi => hkv.cell i hi
      have hgk : wr.heap.size ≤ gk ∧ gk < w1.heap.size := by
        have h0 := block_lt (hkc 0 (by decide))
        rcases hkv.2 with ⟨h1, h2⟩ | ⟨g', cap', cur, h1, h2, _⟩
        · simp at h1
        · simp only [Value.slice.injEq, Option.some.injEq, Addr.mk.injEq] at h1
          have h3 := h1.1.1
          simp at h2 h0
          omega
      have HKC : Hid _ := hkc
      have HV2 : Hid _ := HB.below HV1.out hb1
      clear hkv hkc
      go_wp2_with fail
      refine (hpad _ HV2.out).mono ?_
      rintro e w2 ⟨pv, rfl, hpv, hb2⟩
      clear hpad
      rcases hpv.2 with ⟨h1, h2⟩ | ⟨g, cap, cur, h1, h2, h3, h4, h5, h6⟩
      · exact absurd h2 (by have := HN.out; omega)
      subst h1
      have hpc : ∀ i, i < p.length → w2.cell? ⟨g, i, none⟩ = some (.int .u8 ((p.getD i 0).toNat : Int)) := fun i hi => by
        have := hpv.cellAt (g := g) i (by omega)
        rw [this, List.getElem?_map, List.getElem?_eq_getElem hi]
        simp [B8, List.getD, List.getElem?_eq_getElem hi]
      have hg2 : g < w2.heap.size := block_lt (hpc 0 (by have := HN.out; omega))
      have HPC : Hid _ := hpc
      have hs1 := hb1.size
      have hs2 := hb2.size
      have hT2 : w2.heap[w.heap.size + 1]? = some (.cells ((PA 0).map W32).toArray 124 (0, 0)) := (hb2.block _ (by omega)).trans ((hb1.block _ (by omega)).trans HT'.out)
      have hR2 : w2.heap[w.heap.size]? = some (.cells ((bpart 32 D 0).map B8).toArray 24 (0, 0)) := (hb2.block _ (by omega)).trans ((hb1.block _ (by omega)).trans HR.out)
      have hK2 : ∀ i, i < 64 → w2.cell? ⟨gk, i, none⟩ = some (W32 (K64.getD i 0)) := fun i hi => (hb2.cell (block_lt (HKC.out i hi))).trans (HKC.out i hi)
      have hbw : Below w.heap.size w w2 := (hbel.trans (hb1.mono (by omega))).trans (hb2.mono (by omega))
      have HT2 : Hid _ := hT2
      have HR2 : Hid _ := hR2
      have HK2 : Hid _ := hK2
      have hpn : (p.length : Int) = 64 * (N : Int) := by have := HN.out; omega
      have hcap : 64 * N ≤ cap := by have := HN.out; omega
      have hnp : 2 + w.heap.size ≤ g := by omega
      clear hT2 hR2 hK2 hpc hpv h2 h3 h4 h6 hb1 hb2 hbel HT' HR HKC HV1 HV2
      go_wp2
      go_loopw [7] (fun i wq => ∃ k : Nat, k ≤ N ∧ i = .int .i64 (64 * (k : Int)) ∧ wq.heap[w.heap.size + 1]? = some (.cells ((PA k).map W32).toArray 124 (0, 0)) ∧ (∀ j, j ≠ w.heap.size + 1 → j < w2.heap.size → wq.heap[j]? = w2.heap[j]?) ∧ w2.heap.size ≤ wq.heap.size ∧ Below w.heap.size w wq) (fun i _ => 64 * N - (intOf i).toNat)
      case atStart => exact ⟨0, Nat.zero_le _, rfl, HT2.out, fun _ _ _ => rfl, Nat.le_refl _, hbw⟩
      case round =>
        obtain ⟨wq, rfl⟩ : ∃ wq, wq = wr := ⟨_, rfl⟩
        obtain ⟨k, hkN, rfl, hh, hoth, hsz, hbq⟩ := hrel
        have HH : Hid _ := hh
        have HOTH : Hid _ := hoth
        clear hh hoth
        by_cases hlt : k < N
        · have hB64 := HBL.out k hlt
          obtain ⟨bcs, hbcs⟩ : ∃ bcs, bcs = (BK k).map B8 := ⟨_, rfl⟩
          have hbc : bcs.length = 64 := by rw [hbcs]; simp [hB64]
          have hb1c : ∀ v ∈ bcs, v.oneCell' = true := by rw [hbcs]; exact B8_one1 _
          have hsrc : ∀ W : World, W.heap[g]? = w2.heap[g]? → ∀ j u, bcs[j]? = some u → W.cell? ((⟨g, 64 * k, none⟩ : Addr).add j) = some u := fun W hW j u hu => by
            have hj : j < 64 := by have := (List.getElem?_eq_some_iff.1 hu).1; omega
            have hadd : (⟨g, 64 * k, none⟩ : Addr).add j = ⟨g, 64 * k + j, none⟩ := by unfold Addr.add; split <;> simp_all
            rw [hadd]
            have hc := HPC.out (64 * k + j) (by have := HN.out; omega)
            have hcc : W.cell? ⟨g, 64 * k + j, none⟩ = w2.cell? ⟨g, 64 * k + j, none⟩ := by simp only [World.cell?, hW]
            rw [hcc, hc]
            rw [hbcs, List.getElem?_map, HCB.out k hlt j hj] at hu
            simpa [B8] using hu
          have hkq : HW wq (.slice (some ⟨gk, 0, none⟩) 64 capk) K64 := ⟨some ⟨gk, 0, none⟩, capk, rfl, fun i hi => ⟨gk, 0, rfl, by
            have hc := HK2.out i hi
            have hW := HOTH.out gk (by omega) (block_lt hc)
            have hcc : wq.cell? ⟨gk, i, none⟩ = w2.cell? ⟨gk, i, none⟩ := by simp only [World.cell?, hW]
            rw [Nat.zero_add, hcc, hc]⟩⟩
          have hpr := fun W hW => refPress_l (PA k) (BK k) (.slice (some ⟨gk, 0, none⟩) 64 capk) K64 W (HP8.out k) hB64 hW rfl
          rw [← HROW.out k, ← hbcs] at hpr
          obtain ⟨NB, hNB⟩ : ∃ NB, NB = ((PA (k + 1)).map W32).toArray := ⟨_, rfl⟩
          obtain ⟨HA, hHA⟩ : ∃ HA, HA = ((PA k).map W32).toArray := ⟨_, rfl⟩
          rw [← hNB, ← hHA] at hpr
          have hiN : (Tryz.prog.info? 124).map (·.size) = some NB.size := by rw [hNB]; simp only [List.size_toArray, List.length_map, HP8.out (k + 1)]; kernel_rfl
          have hiH : (Tryz.prog.info? 124).map (·.size) = some HA.size := by rw [hHA]; simp only [List.size_toArray, List.length_map, HP8.out k]; kernel_rfl
          have hN1 : NB.all (·.oneCell') = true := by rw [hNB]; exact W32_one _
          have hs8 : HA.size = NB.size := by rw [hHA, hNB]; simp [HP8.out k, HP8.out (k + 1)]
          have hiB : (Tryz.prog.info? 128).map (·.size) = some bcs.toArray.size := by simp only [List.size_toArray, hbc]; kernel_rfl
          have hsA := fun W => sliceBlk W wq.heap.size
          have hsW := fun W => sliceWin W g p.length cap k (by omega)
          have hsWA := fun W => sliceWinA W g p.length cap k (by omega)
          have hwr : IntKind.i64.wrap (64 * (k : Int) + 64) = 64 * (k : Int) + 64 := wrap_i64_in _ (by omega) (by omega)
          have hH2 := HH.out
          rw [← hHA] at hH2
          have HH2 : Hid _ := hH2
          have HNB : Hid _ := hNB
          have HIN : Hid _ := hiN
          have HIH : Hid _ := hiH
          have HIB : Hid _ := hiB
          have HN1 : Hid _ := hN1
          have HS8 : Hid _ := hs8
          have HBC : Hid _ := hbc
          have HB1 : Hid _ := hb1c
          have HSRC : Hid _ := hsrc
          have HKQ : Hid _ := hkq
          have hgq := HOTH.out g (by omega) hg2
          have HGQ : Hid _ := hgq
          have hlt2 : 64 * (k : Int) < p.length := by omega
          clear hbcs hNB hHA hiN hiH hiB hN1 hs8 hbc hb1c hsrc hkq hH2 hgq hB64 HH
          go_wp2
          go_region_law (refine step_copy_splice rfl (.tmp 28) (.tmp 33) 78 78 rfl 5 Tryz.underlying78 (by kernel_rfl) (some ⟨wq.heap.size, 0, none⟩) (some ⟨g, 64 * k, none⟩) 64 64 64 (cap - 64 * k) (by simp [Act.eval, Act.put]) (by simp [Act.eval, Act.put]) wq.heap.size 0 (List.replicate 64 (.int .u8 0)) 128 (by rw [heap_drew]; exact heap_at _ _ _ rfl) bcs (by rw [HBC.out]; rfl) (fun _ => ⟨rfl, _, rfl, HSRC.out _ (by rw [heap_drew, Below.heap_alloc _ _ _ (by omega)]; exact HGQ.out)⟩) (by rw [HBC.out]; simp) HB1.out wq.heap.size wq (by exact ((Below.refl _ _).alloc (Nat.le_refl _) _).drew) (Nat.le_refl _) ?_; intro w3 HG3 hb3)
          have hs3 : wq.heap.size + 1 ≤ w3.heap.size := by
            have := (Array.getElem?_eq_some_iff.1 HG3.out).1
            omega
          have hg3 := HG3.out
          rw [splice_all _ _ (by rw [HBC.out]; simp)] at hg3
          have HG4 : Hid _ := hg3
          have hh3 := (hb3.block _ (by omega)).trans HH2.out
          have HH3 : Hid _ := hh3
          have HK3 : Hid _ := HW.below HKQ.out hb3
          clear hg3 hh3 HG3
          go_wp2_with (first
            | (refine wpList_load_row rfl 124 _ rfl (w.heap.size + 1) rfl 124 _ (0, 0) _ HH3.out Tryz.underlying124 rfl HIH.out ?_)
            | (refine wpList_load_row rfl 128 _ rfl wq.heap.size rfl 128 _ (0, 0) _ HG4.out Tryz.underlying128 rfl HIB.out ?_))
          refine (hpr _ HK3.out).mono ?_
          rintro e w4 ⟨rfl, hb4⟩
          have hh4 := (hb4.block _ (by omega)).trans HH3.out
          have HH4 : Hid _ := hh4
          have hs4 := hb4.size
          clear hh4
          go_wp2_with (refine wpList_store_row rfl 124 _ _ rfl (w.heap.size + 1) _ rfl rfl 124 _ HH4.out HIN.out HS8.out HN1.out ?_)
          go_roundw
          case rel =>
            refine ⟨k + 1, by omega, by go_num, ?_, fun j hj hj2 => ?_, ?_, ?_⟩
            · rw [← HNB.out]; exact setRow_heap _ _ _ _ _ _ HH4.out
            · rw [setRow_other _ _ _ _ hj, hb4.block _ (by omega), hb3.block _ (by omega)]; exact HOTH.out j hj hj2
            · simp; omega
            · exact below_setRow ((hbq.trans (hb3.mono (by omega))).trans (hb4.mono (by omega))) (by omega) _
          case measure => simp [intOf]; omega
        · have hkk : k = N := by omega
          subst hkk
          have hR3 := (HOTH.out w.heap.size (by omega) (by omega)).trans HR2.out
          have HR3 : Hid _ := hR3
          obtain ⟨HA, hHA⟩ : ∃ HA, HA = ((PA k).map W32).toArray := ⟨_, rfl⟩
          have hHc : ∀ i, i < 8 → HA[i]? = some (.int .u32 (U ((PA k).getD i 0))) := fun i hi => by
            rw [hHA]
            have hl : i < (PA k).length := by rw [HP8.out k]; exact hi
            simp [W32, List.getD, List.getElem?_eq_getElem hl]
          have hH2 := HH.out
          rw [← hHA] at hH2
          have HH2 : Hid _ := hH2
          have HHC : Hid _ := hHc
          clear hHA hHc hH2 hR3 HH HR2 HT2 HK2
          go_wp2
          go_loopw [10] (fun i wd => ∃ m : Nat, m ≤ 32 ∧ i = .int .i64 m ∧ wd.heap[w.heap.size + 1]? = some (.cells HA 124 (0, 0)) ∧ wd.heap[w.heap.size]? = some (.cells ((bpart 32 D 0).map B8).toArray 24 (0, 0)) ∧ wd.heap[wq.heap.size]? = some (.cells ((bpart 32 D m).map B8).toArray 24 (0, 0)) ∧ Below w.heap.size w wd) (fun i _ => 32 - (intOf i).toNat)
          case atStart =>
            refine ⟨0, by omega, rfl, ?_, ?_, ?_, hbq.alloc (by omega) _⟩
            · rw [Below.heap_alloc _ _ _ (by omega)]; exact HH2.out
            · rw [Below.heap_alloc _ _ _ (by omega)]; exact HR3.out
            · exact heap_alloc_new _ _
          case round =>
            obtain ⟨m, hm, rfl, h0, h1, h2, hbd⟩ := hrel
            have H0 : Hid _ := h0
            have H1 : Hid _ := h1
            have H2 : Hid _ := h2
            by_cases hlm : m < 32
            · have hset := bpart_set 32 D m HDL.out hlm
              obtain ⟨u, hu⟩ := bpart_cell 32 D m HDL.out hlm
              have hcu := cell_of_row _ _ m _ _ _ h2
              rw [hu] at hcu
              have hfu := frozen_of_row _ _ m _ _ h2
              have hcx := (cell_of_row _ _ (m / 4) _ _ _ h0).trans (HHC.out (m / 4) (by omega))
              have hdg := HDG.out m hlm
              rw [hdg] at hset
              obtain ⟨c, hc⟩ : ∃ c, c = 3 - m % 4 := ⟨_, rfl⟩
              have hc' : (24 : Int) - 8 * ((m : Int) % 4) = 8 * (c : Int) := by omega
              have hc3 : c ≤ 3 := by omega
              have HWB : Hid _ := wb_shr (PA k) m c hc
              have HSET : Hid _ := hset
              generalize (PA k).getD (m / 4) 0 = x at *
              clear hset hu h0 h1 h2 hdg hc
              go_wp2
              go_roundw
              case rel =>
                have hx : B8 (wb (PA k) m) = .int .u8 (U x / 2 ^ (8 * c) % 256) := by unfold B8; rw [← HWB.out, IntKind.wrap_u8]
                refine ⟨m + 1, by omega, by go_num, ?_, ?_, ?_, hbd.setCell (p := ⟨wq.heap.size, m, none⟩) (by simp; omega) _⟩
                · rw [heap_setCell_other _ _ _ _ (by simp; omega)]; exact H0.out
                · rw [heap_setCell_other _ _ _ _ (by simp; omega)]; exact H1.out
                · rw [← HSET.out, hx]; exact heap_setCell_same _ wq.heap.size m _ 24 _ H2.out
              case measure => simp [intOf]; omega
            · have hm' : m = 32 := by omega
              subst hm'
              have hT' := h2
              rw [bpart_all 32 D HDL.out] at hT'
              have hsc : (D.map B8).toArray.size = 32 := by simp [HDL.out]
              have hpz : ((bpart 32 D 0).map B8).toArray.size = 32 := by simp [bpart_len 32 D 0 HDL.out (by omega)]
              have hi25 : (Tryz.prog.info? 24).map (·.size) = some (D.map B8).toArray.size := by rw [hsc]; kernel_rfl
              have HT' : Hid _ := hT'
              have HI : Hid _ := hi25
              have HZ : Hid _ := hpz.trans hsc.symm
              have HW1 : Hid _ := B8_onea D
              clear h0 h1 h2 hT' hi25 hsc hpz
              go_wp2_with (first
                | (refine wpList_load_row rfl 24 _ rfl wq.heap.size rfl 24 _ (0, 0) _ HT'.out Tryz.underlying24 rfl HI.out ?_)
                | (refine wpList_store_row rfl 24 _ _ rfl w.heap.size _ rfl rfl 24 _ H1.out HI.out HZ.out HW1.out ?_))
              refine bodyPost_ret (v := .agg (D.map B8).toArray) ?_ rfl ⟨rfl, below_setRow hbd (Nat.le_refl _) _⟩
              exact results_cell_row Tryz.results70 _ _ w.heap.size 24 _ (0, 0) _ rfl (setRow_heap _ _ _ _ _ _ H1.out) Tryz.underlying24 rfl HI.out

end Go.Proofs.YtpmknkagnkagpaaGreat
