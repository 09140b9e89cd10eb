/- ShaBlocks: for any bytes, the statement's function answers true and leaves its argument as it was. No condition. -/
import Derived.Test.YtojafgilpnnbiaaY4
import Derived.Test.YtojafgilpnnbiaaN3
import Derived.Test.YtojafgilpnnbiaaJ1
import Derived.Test.YtojafgilpnnbiaaQ4
import Derived.Test.YtojafgilpnnbiaaRows
import Derived.WalkKit
import Derived.WalkSmall
import Derived.ProofKit
import Derived.OpenShut
import Derived.Carry
set_option linter.unusedVariables false
set_option linter.unusedSimpArgs false
namespace Go.Proofs.Ytojafgilpnnbiaa.shaBlocks
open Go.ChangeShapes Go.WideShapes Go.ChangeAt Go.RowKit

theorem own : ownKnob Try.prog.godebug = none := by kernel_rfl
theorem laidOut : laidOutB Try.prog = true := by kernel_rfl

theorem padL_take (l : List UInt8) : (padL l).take l.length = l := by unfold padL; simp
theorem padL_ge (l : List UInt8) : l.length + 9 ≤ (padL l).length := by unfold padL; simp [be8]
theorem sliceHead (W : World) (g n cap k : Nat) (h : k ≤ cap) : (Instr.slice 22 (.slice (some ⟨g, 0, none⟩) n cap) none (some (.int .i64 (k : Int))) none).run Try.prog W = .ok (.slice (some ⟨g, 0, none⟩) k cap) W := by
  have hu : Try.prog.underlying 22 = some (.slice (Try.prog.elem 22)) := by kernel_rfl
  have he : Try.prog.elem 22 = 5 := by kernel_rfl
  rw [run_slice_h W 22 _ _ _ hu .i64 _ (by omega) (by omega), he, size_u8]
  simp [Result.andThen, sliced, Addr.add]
theorem sliceHeadA (W : World) (g n cap k : Nat) (h : k ≤ cap) : (Instr.sliceAt 22 (.slice (some ⟨g, 0, none⟩) n cap) none (some (.int .i64 (k : Int))) none).run Try.prog W = .ok (.slice (some ⟨g, 0, none⟩) k cap) W := by
  rw [run_sliceAt_slice W 22 _ _ _ _ (by kernel_rfl)]; exact sliceHead W g n cap k h

set_option maxHeartbeats 8000000 in
set_option maxRecDepth 100000 in
theorem walk (v : Value) (l : List UInt8) (w : World) (hm : l.length ≤ 9223372036854775807) (h : HB w v l) :
    Calls Try.prog 8 #[v] w fun e w' => e = .returned (.bool true) ∧ Below w.heap.size w w' := by
  obtain ⟨pb, capb, hv, _⟩ := h.cells
  have hn := fun W => known_any W
  by_cases hlen : l.length ≤ 300
  · have hs := fun W hW => shaSum_any v l W (by omega) hW
    have hp := fun W hW => shaPad_any v l W (by omega) hW
    have hcv := fun W hW => conv_hb W v l hW
    have hm := padL_mod l
    have hle := padL_le l
    have hge := padL_ge l
    have htk := padL_take l
    obtain ⟨N, hN⟩ : ∃ N, N = (padL l).length / 64 := ⟨_, rfl⟩
    have hN1 : (padL l).length = 64 * N := by omega
    have hN0 : 0 < N := by omega
    have hNl : N ≤ 100 := by omega
    obtain ⟨D, hD⟩ : ∃ D, D = dig8 (pAll H8 (padL l) N) := ⟨_, rfl⟩
    have hDe : shaL l = D := by rw [hD, hN]; rfl
    rw [hDe] at hs
    have hDl : D.length = 32 := by rw [hD]; exact dig8_len _
    have hDg : ∀ i, i < 32 → D.getD i 0 = wb (pAll H8 (padL l) N) i := by rw [hD]; exact dig8_get _
    have hcbs : ∀ k, k < N → ∀ j, j < 64 → (blk (padL l) k)[j]? = some ((padL l).getD (64 * k + j) 0) := fun k hk j hj => blk_get (padL l) k j (by omega) hj
    have hbl : ∀ k, k < N → (blk (padL l) k).length = 64 := fun k hk => blk_len (padL l) k (by omega)
    have hp8 := fun k => pAll_len H8 (padL l) k rfl
    have hp0 : pAll H8 (padL l) 0 = H8 := rfl
    have hrow : ∀ k, pAll H8 (padL l) (k + 1) = press (pAll H8 (padL l) k) (blk (padL l) k) K64 := fun _ => rfl
    generalize padL l = p at *
    generalize pAll H8 p = PA at *
    generalize blk p = BK at *
    have hlt : ¬ (300 : Int) < (l.length : Int) := by omega
    subst hv
    have HV : Hid _ := h
    have HDL : Hid _ := hDl
    have HDG : Hid _ := hDg
    have HCB : Hid _ := hcbs
    have HBL : Hid _ := hbl
    have HP8 : Hid _ := hp8
    have HP0 : Hid _ := hp0
    have HROW : Hid _ := hrow
    have HN : Hid _ := hN1
    have HTK : Hid _ := htk
    clear h hD hDe hDl hDg hcbs hbl hp8 hp0 hrow hN hN1 htk
    go_enter Try.func8, Try.ntmps8
    go_wp2_with fail
    refine (hp _ HV.out).mono ?_
    rintro e w1 ⟨pv, rfl, hpv, hb1⟩
    clear hp
    rcases hpv.2 with ⟨h1, h2⟩ | ⟨g, cap, cur, h1, h2, h3, h4, h5, h6⟩
    · exact absurd h2 (by have := HN.out; omega)
    subst h1
    have hpc : ∀ i, i < p.length → w1.cell? ⟨g, i, none⟩ = some (.int .u8 ((p.getD i 0).toNat : Int)) := fun i hi => by
      have := hpv.cellAt (g := g) i (by omega)
      rw [this, List.getElem?_map, List.getElem?_eq_getElem hi]
      simp [B8, List.getD, List.getElem?_eq_getElem hi]
    have hg1 : g < w1.heap.size := block_lt (hpc 0 (by have := HN.out; omega))
    have hHB1 : HB w1 (.slice (some ⟨g, 0, none⟩) l.length cap) l := by
      by_cases h0 : l.length = 0
      · exact .inl ⟨List.eq_nil_of_length_eq_zero h0, some ⟨g, 0, none⟩, cap, by rw [h0], fun h => by cases h⟩
      · refine .inr ⟨g, 0, cap, rfl, by omega, h5, fun i hi => ?_⟩
        rw [Nat.zero_add, hpc i (by omega), ← HTK.out]
        congr 4
        have hpi : i < p.length := by omega
        simp [List.getD, List.getElem?_take_of_lt hi, List.getElem?_eq_getElem hpi]
    have hV1 := HB.below HV.out hb1
    have hcA : ∀ n, (convert 22 9 (.slice (some ⟨g, 0, none⟩) l.length cap)).run Try.prog (w1.drewN n) = .ok (.string (txt l)) (w1.drewN n) := fun n => conv_hb _ _ l (HB.drewN hHB1 n)
    have hcB : ∀ n, (convert 22 9 (.slice pb l.length capb)).run Try.prog (w1.drewN n) = .ok (.string (txt l)) (w1.drewN n) := fun n => hcv _ (HB.drewN hV1 n)
    have hsh := fun W => sliceHead W g p.length cap l.length (by omega)
    have hshA := fun W => sliceHeadA W g p.length cap l.length (by omega)
    have hpn : (p.length : Int) = 64 * (N : Int) := by have := HN.out; omega
    have hcap : 64 * N ≤ cap := by have := HN.out; omega
    have hdr : (((p.length : Int)) % 64 == 0) = true := by simp; omega
    have hwl : IntKind.i64.wrap ((l.length : Int) + 9) = (l.length : Int) + 9 := wrap_i64_in _ (by omega) (by omega)
    have hd2 : decide (64 * (N : Int) < (l.length : Int) + 9) = false := by simp; omega
    have HPC : Hid _ := hpc
    have HV1 : Hid _ := hV1
    have hs1 := hb1.size
    clear hpc hpv h2 h3 h4 h6 hHB1 hV1 hcv
    go_wp2
    go_quiet (fail)
    have hbA : Below w.heap.size w (w1.drewN nq) := below_drewN hb1 nq
    have hgA : g < (w1.drewN nq).heap.size := hg1
    have HPA : Hid (∀ i, i < p.length → (w1.drewN nq).cell? ⟨g, i, none⟩ = some (.int .u8 ((p.getD i 0).toNat : Int))) := HPC.out
    have HVA : Hid (HB (w1.drewN nq) (.slice pb l.length capb) l) := HB.drewN HV1.out nq
    have hsA := hbA.size
    clear hcA hcB hg1 HPC HV1 hs1 hb1 hsh hshA hd2 hdr
    generalize w1.drewN nq = wa at *
    go_wp2
    go_loopw [5] (fun i wr => ∃ k : Nat, k ≤ 8 ∧ i = .int .i64 k ∧ wr.heap[wa.heap.size]? = some (.cells ((part 8 H8 k).map W32).toArray 31 (0, 0)) ∧ Below wa.heap.size wa wr) (fun i _ => 8 - (intOf i).toNat)
    case atStart => exact ⟨0, by omega, rfl, heap_alloc_new _ _, (Below.refl _ _).alloc (Nat.le_refl _) _⟩
    case round =>
      obtain ⟨k, hk, rfl, hT, hbel⟩ := hrel
      have hTs : wa.heap.size < wr.heap.size := (Array.getElem?_eq_some_iff.1 hT).1
      have HT : Hid _ := hT
      clear hT
      by_cases hlt : k < 8
      · have hst := shaStart_any (k : Int) wr
        rw [start_nat k hlt] at hst
        have hset := part_set 8 H8 k rfl hlt
        have HSET : Hid _ := hset
        clear hset
        obtain ⟨x, hx⟩ : ∃ x, x = H8.getD k 0 := ⟨_, rfl⟩
        rw [← hx] at hst
        have HX : Hid _ := hx
        clear hx
        go_wp2_with fail
        refine hst.mono ?_
        rintro e wx ⟨rfl, hbx⟩
        clear hst
        have hT2 := (hbx.block _ hTs).trans HT.out
        obtain ⟨u, hu⟩ := part_cell 8 H8 k rfl hlt
        have hcu := cell_of_row _ _ k _ _ _ hT2
        rw [hu] at hcu
        have hfu := frozen_of_row _ _ k _ _ hT2
        have HT2 : Hid _ := hT2
        have hbx' := hbel.trans (hbx.mono (by omega))
        clear hT2 hu hbx
        go_wp2
        go_roundw
        case rel =>
          refine ⟨k + 1, by omega, by go_num, ?_, hbx'.setCell (p := ⟨wa.heap.size, k, none⟩) (by simp) _⟩
          rw [← HSET.out, ← HX.out]
          exact heap_setCell_same _ wa.heap.size k _ 31 _ HT2.out
        case measure => simp [intOf]; omega
      · have hk' : k = 8 := by omega
        have hT' := HT.out
        rw [hk', part_all 8 H8 rfl, ← HP0.out] at hT'
        have HT' : Hid _ := hT'
        clear HT hT'
        rw [show (k : Int) = 8 by omega]
        clear hlt hk hk'
        go_wp2
        go_loopw [6] (fun i wq => ∃ k : Nat, k ≤ N ∧ i = .int .i64 (64 * (k : Int)) ∧ wq.heap[wa.heap.size]? = some (.cells ((PA k).map W32).toArray 31 (0, 0)) ∧ Below wa.heap.size wa wq) (fun i _ => 64 * N - (intOf i).toNat)
        case atStart => exact ⟨0, Nat.zero_le _, rfl, HT'.out, hbel⟩
        case round =>
          obtain ⟨wq, rfl⟩ : ∃ wq, wq = wr := ⟨_, rfl⟩
          obtain ⟨k, hkN, rfl, hh, hbq⟩ := hrel
          have hsq : wa.heap.size < wq.heap.size := (Array.getElem?_eq_some_iff.1 hh).1
          have HH : Hid _ := hh
          clear hh
          by_cases hlt : k < N
          · have hB64 := HBL.out k hlt
            obtain ⟨bcs, hbcs⟩ : ∃ bcs, bcs = (BK k).map B8 := ⟨_, rfl⟩
            have hbc : bcs.length = 64 := by rw [hbcs]; simp [hB64]
            have hb1c : ∀ v ∈ bcs, v.oneCell' = true := by rw [hbcs]; exact B8_one _
            have hsrc : ∀ W : World, W.heap[g]? = wa.heap[g]? → ∀ j u, bcs[j]? = some u → W.cell? ((⟨g, 64 * k, none⟩ : Addr).add j) = some u := fun W hW j u hu => by
              have hj : j < 64 := by have := (List.getElem?_eq_some_iff.1 hu).1; omega
              have hadd : (⟨g, 64 * k, none⟩ : Addr).add j = ⟨g, 64 * k + j, none⟩ := by unfold Addr.add; split <;> simp_all
              rw [hadd]
              have hc := HPA.out (64 * k + j) (by have := HN.out; omega)
              have hcc : W.cell? ⟨g, 64 * k + j, none⟩ = wa.cell? ⟨g, 64 * k + j, none⟩ := by simp only [World.cell?, hW]
              rw [hcc, hc]
              rw [hbcs, List.getElem?_map, HCB.out k hlt j hj] at hu
              simpa [B8] using hu
            have hpr := fun W => pressT_any (PA k) (BK k) W (HP8.out k) hB64
            rw [← HROW.out k, ← hbcs] at hpr
            obtain ⟨NB, hNB⟩ : ∃ NB, NB = ((PA (k + 1)).map W32).toArray := ⟨_, rfl⟩
            obtain ⟨HA, hHA⟩ : ∃ HA, HA = ((PA k).map W32).toArray := ⟨_, rfl⟩
            rw [← hNB, ← hHA] at hpr
            have hiN : (Try.prog.info? 31).map (·.size) = some NB.size := by rw [hNB]; simp only [List.size_toArray, List.length_map, HP8.out (k + 1)]; kernel_rfl
            have hiH : (Try.prog.info? 31).map (·.size) = some HA.size := by rw [hHA]; simp only [List.size_toArray, List.length_map, HP8.out k]; kernel_rfl
            have hN1 : NB.all (·.oneCell') = true := by rw [hNB]; exact W32_one _
            have hs8 : HA.size = NB.size := by rw [hHA, hNB]; simp [HP8.out k, HP8.out (k + 1)]
            have hiB : (Try.prog.info? 32).map (·.size) = some bcs.toArray.size := by simp only [List.size_toArray, hbc]; kernel_rfl
            have hsA := fun W => sliceBlk W wq.heap.size
            have hsW := fun W => sliceWin W g p.length cap k (by omega)
            have hsWA := fun W => sliceWinA W g p.length cap k (by omega)
            have hwr : IntKind.i64.wrap (64 * (k : Int) + 64) = 64 * (k : Int) + 64 := wrap_i64_in _ (by omega) (by omega)
            have hH2 := HH.out
            rw [← hHA] at hH2
            have HH2 : Hid _ := hH2
            have HNB : Hid _ := hNB
            have HIN : Hid _ := hiN
            have HIH : Hid _ := hiH
            have HIB : Hid _ := hiB
            have HN1 : Hid _ := hN1
            have HS8 : Hid _ := hs8
            have HBC : Hid _ := hbc
            have HB1 : Hid _ := hb1c
            have HSRC : Hid _ := hsrc
            have hgq := hbq.block g hgA
            have HGQ : Hid _ := hgq
            have hlt2 : 64 * (k : Int) < p.length := by omega
            clear hbcs hNB hHA hiN hiH hiB hN1 hs8 hbc hb1c hsrc hH2 hgq hB64 HH
            go_wp2
            go_region_law (refine step_copy_splice rfl (.tmp 52) (.tmp 57) 22 22 rfl 5 Try.underlying22 (by kernel_rfl) (some ⟨wq.heap.size, 0, none⟩) (some ⟨g, 64 * k, none⟩) 64 64 64 (cap - 64 * k) (by simp [Act.eval, Act.put]) (by simp [Act.eval, Act.put]) wq.heap.size 0 (List.replicate 64 (.int .u8 0)) 32 (by rw [heap_drew]; exact heap_at _ _ _ rfl) bcs (by rw [HBC.out]; rfl) (fun _ => ⟨rfl, _, rfl, HSRC.out _ (by rw [heap_drew, Below.heap_alloc _ _ _ (by omega)]; exact HGQ.out)⟩) (by rw [HBC.out]; simp) HB1.out wq.heap.size wq (by exact ((Below.refl _ _).alloc (Nat.le_refl _) _).drew) (Nat.le_refl _) ?_; intro w3 HG3 hb3)
            have hs3 : wq.heap.size + 1 ≤ w3.heap.size := by
              have := (Array.getElem?_eq_some_iff.1 HG3.out).1
              omega
            have hg3 := HG3.out
            rw [splice_all _ _ (by rw [HBC.out]; simp)] at hg3
            have HG4 : Hid _ := hg3
            have hh3 := (hb3.block _ (by omega)).trans HH2.out
            have HH3 : Hid _ := hh3
            clear hg3 hh3 HG3
            go_wp2_with (first
              | (refine wpList_load_row rfl 31 _ rfl wa.heap.size rfl 31 _ (0, 0) _ HH3.out Try.underlying31 rfl HIH.out ?_)
              | (refine wpList_load_row rfl 32 _ rfl wq.heap.size rfl 32 _ (0, 0) _ HG4.out Try.underlying32 rfl HIB.out ?_))
            refine (hpr _).mono ?_
            rintro e w4 ⟨rfl, hb4⟩
            have hh4 := (hb4.block _ (by omega)).trans HH3.out
            have HH4 : Hid _ := hh4
            clear hh4
            go_wp2_with (refine wpList_store_row rfl 31 _ _ rfl wa.heap.size _ rfl rfl 31 _ HH4.out HIN.out HS8.out HN1.out ?_)
            go_roundw
            case rel =>
              refine ⟨k + 1, by omega, by go_num, ?_, ?_⟩
              · rw [← HNB.out]; exact setRow_heap _ _ _ _ _ _ HH4.out
              · exact below_setRow ((hbq.trans (hb3.mono (by omega))).trans (hb4.mono (by omega))) (Nat.le_refl _) _
            case measure => simp [intOf]; omega
          · have hkk : k = N := by omega
            subst hkk
            obtain ⟨HA, hHA⟩ : ∃ HA, HA = ((PA k).map W32).toArray := ⟨_, rfl⟩
            have hHc : ∀ i, i < 8 → HA[i]? = some (.int .u32 (U ((PA k).getD i 0))) := fun i hi => by
              rw [hHA]
              have hl : i < (PA k).length := by rw [HP8.out k]; exact hi
              simp [W32, List.getD, List.getElem?_eq_getElem hl]
            have hH2 := HH.out
            rw [← hHA] at hH2
            have HH2 : Hid _ := hH2
            have HHC : Hid _ := hHc
            have HVQ : Hid _ := HB.below HVA.out hbq
            obtain ⟨DA, hDA⟩ : ∃ DA, DA = (D.map B8).toArray := ⟨_, rfl⟩
            have hDc : ∀ i, i < 32 → DA[i]? = some (.int .u8 ((wb (PA k) i).toNat : Int)) := fun i hi => by
              have hl : i < D.length := by rw [HDL.out]; exact hi
              rw [hDA, ← HDG.out i hi]
              simp [B8, List.getD, List.getElem?_eq_getElem hl]
            rw [← hDA] at hs
            have hDs : DA.size = 32 := by rw [hDA]; simp [HDL.out]
            have hiD : (Try.prog.info? 25).map (·.size) = some DA.size := by rw [hDs]; kernel_rfl
            have hD1 : DA.all (·.oneCell') = true := by rw [hDA]; exact B8_onea _
            have HDC : Hid _ := hDc
            have HDS : Hid _ := hDs
            have HID : Hid _ := hiD
            have HD1 : Hid _ := hD1
            clear hHA hHc hH2 HH hDA hDc hDs hiD hD1
            go_wp2_with fail
            refine (hs _ HVQ.out).mono ?_
            rintro e w5 ⟨rfl, hb5⟩
            have hh5 := (hb5.block _ hsq).trans HH2.out
            have HH5 : Hid _ := hh5
            have hs5 := hb5.size
            have hbw5 : Below w.heap.size w w5 := hbA.trans ((hbq.trans (hb5.mono (by omega))).mono hsA)
            clear hh5 hs hb5
            go_wp2_with (refine wpList_store_row rfl 25 _ _ rfl w5.heap.size DA rfl rfl 25 _ (heap_at _ _ _ rfl) HID.out (by rw [HDS.out]; rfl) HD1.out ?_)
            go_loopw [9] (fun i wd => ∃ m : Nat, m ≤ 32 ∧ i = .int .i64 m ∧ wd.heap[wa.heap.size]? = some (.cells HA 31 (0, 0)) ∧ wd.heap[w5.heap.size]? = some (.cells DA 25 (0, 0)) ∧ Below w.heap.size w wd) (fun i _ => 32 - (intOf i).toNat)
            case atStart =>
              refine ⟨0, by omega, rfl, ?_, setRow_heap _ _ _ _ _ _ (heap_at _ _ _ rfl), below_setRow (hbw5.alloc (by omega) _) (by omega) _⟩
              rw [setRow_other _ _ _ _ (by omega), Below.heap_alloc _ _ _ (by omega)]; exact HH5.out
            case round =>
              obtain ⟨m, hm32, rfl, h0, h1, hbd⟩ := hrel
              have H0 : Hid _ := h0
              have H1 : Hid _ := h1
              by_cases hlm : m < 32
              · obtain ⟨c, hc⟩ : ∃ c, c = 3 - m % 4 := ⟨_, rfl⟩
                have hc' : (24 : Int) - 8 * ((m : Int) % 4) = 8 * (c : Int) := by omega
                have hc3 : c ≤ 3 := by omega
                have hwb := wb_shr (PA k) m c hc
                have hcx := (cell_of_row _ _ (m / 4) _ _ _ h0).trans (HHC.out (m / 4) (by omega))
                have hcd := (cell_of_row _ _ m _ _ _ h1).trans (HDC.out m hlm)
                rw [← hwb, IntKind.wrap_u8] at hcd
                generalize (PA k).getD (m / 4) 0 = x at *
                clear h0 h1 hc hwb
                go_wp2
                go_quiet (fail)
                go_wp2
                go_roundw
                case rel => exact ⟨m + 1, by omega, by go_num, H0.out, H1.out, below_drewN hbd _⟩
                case measure => simp [intOf]; omega
              · clear h0 h1
                go_wp2_with fail
                refine (hn _).mono ?_
                rintro e w9 ⟨rfl, b9⟩
                have c9 := hbd.trans (b9.mono hbd.size)
                clear b9
                go_wp2
                go_ret
                exact ⟨rfl, c9⟩
  · have hlt : (300 : Int) < (l.length : Int) := by omega
    subst hv
    clear h
    go_enter Try.func8, Try.ntmps8
    go_wp2_with fail
    refine (hn _).mono ?_
    rintro e w1 ⟨rfl, b1⟩
    go_wp2
    go_ret
    exact ⟨rfl, b1⟩

set_option maxRecDepth 100000 in
theorem lifted (os : Os) (started : os.Started) (H : Type) (enc : TypeId × Value → H) :
    ReturnsInHanded {} Try.checked os 8 .any (Rows.shaBlocksSpec.pre6 enc Try.prog Try.f8 Rows.shaBlocksRow.domain false) (Rows.shaBlocksSpec.post enc Try.prog Try.f8 false true false false) := by
  refine returnsInHanded_of_change (C := Try.checked) own started (by kernel_rfl) Try.func8
    (ChangeSpec.witness6 (enc := enc) (C := Try.checked) false ⟨#[], #[.slice none 0 0], []⟩ 8 (by kernel_rfl) (by kernel_rfl) (by kernel_rfl) (by kernel_rfl)) ?_
  intro W base args ds gs before hval0 hW hcnd _
  have hval : ∀ (j : Nat) t v, Try.f8.params[j]? = some t → args[j]? = some v → Value.okWide Try.prog W .any base t v := hval0
  have hW' := hW
  obtain ⟨p, q, hA0, hV, rfl, hfz, hnd⟩ := hW
  have hA : DataW.TrodAll enc Try.prog W 0 (fun _ => true) true Try.f8.params.toList args.toList ds p := hA0
  rw [Try.params8] at hA hval
  obtain ⟨v0, vs0, d0, ds0, p0, q0, hargs, rfl, rfl, h0, r0⟩ := trodAll_cons hA
  obtain ⟨rfl, rfl, rfl⟩ := trodAll_nil r0
  obtain rfl : args = #[v0] := by cases args; simp_all
  obtain ⟨rfl, rfl⟩ := trodVars_none hV
  obtain ⟨a0, len0, cap0, rfl⟩ := okWide_slice Try.underlying22 (hval 0 22 v0 rfl rfl)
  have k0 := h0
  have lt0 : ∀ x ∈ p0, x.block < W.heap.size := by obtain ⟨m, hm⟩ := k0; exact DataW.trod_lt m _ _ _ hm
  obtain ⟨l0, hl0, hm0⟩ : ∃ l, HB W (.slice a0 len0 cap0) l ∧ l.length ≤ 9223372036854775807 := by obtain ⟨fuel, hf⟩ := h0; exact open_bytes hf
  clear hA0 hval0
  refine (walk _ l0 W hm0 hl0).mono fun e W' ⟨he, bel⟩ => ?_
  subst he
  exact ⟨_, rfl, _, _, _, [], _, [], hW', trodAll_mk1 (shut_bool Try.underlying4 _), (trodAll_cons_mk (Below.trod laidOut (by kernel_rfl) (of_decide_eq_true (by kernel_rfl)) k0 bel lt0) trodAll_mk0), rfl, bel.frame _, fun h => by cases h⟩

theorem over : Rows.shaBlocksRow.holds Try.pinned (OpenSpec.ofChange Rows.shaBlocksSpec) :=
  OpenClaim.holds_of_wide 8 Try.f8 rfl rfl rfl rfl rfl rfl rfl ⟨rfl, rfl, rfl, rfl, rfl⟩ rfl rfl rfl rfl rfl (by kernel_rfl) Try.func8 (by kernel_rfl)
    (of_decide_eq_true (by kernel_rfl)) (by unfold Func.isWrapper; first | (rw [if_pos (by decide +kernel)]; kernel_rfl) | (rw [if_neg (by decide +kernel)]; exact ⟨rfl, rfl⟩))
    (fun os started H enc _ => lifted os started H enc)

end Go.Proofs.Ytojafgilpnnbiaa.shaBlocks
namespace Go.Proofs.Ytojafgilpnnbiaa
theorem shaBlocks_holds : Rows.ShaBlocksSaid := shaBlocks.over
#print axioms shaBlocks_holds
end Go.Proofs.Ytojafgilpnnbiaa
