/- report: the document's Untext. -/
import Derived.Test.YtpklboicgjpmeaaDoorTt
import Derived.Test.YtpklboicgjpmeaaDoorTd
import Derived.Test.YtpklboicgjpmeaaDoorTp
set_option linter.unusedVariables false
set_option linter.unusedSimpArgs false
namespace Go.Proofs.YtpklboicgjpmeaaDoor.RB
open Go.RowKit
open JC (splitR splitR_no splitR_at)

theorem FSt.below {base : Nat} {w w' : World} {v : Value} {ls : List (List UInt8)} (h : FSt base w v ls) (hb : Below w.heap.size w w') : FSt base w' v ls := by
  have hlt := fun j hj => (World.ownsRow.lt h j hj).2
  obtain ⟨h1, h2⟩ := h
  refine ⟨h1, ?_⟩
  rcases h2 with h2 | ⟨g, cap, cur, hv, hg, hh, r⟩
  · exact .inl h2
  · exact .inr ⟨g, cap, cur, hv, hg, (hb.block g (hlt g (by rw [hv]; rfl))).trans hh, r⟩
theorem fst_open {base : Nat} {w : World} {v : Value} {ls : List (List UInt8)} (h : FSt base w v ls) (hn : ls ≠ []) : ∃ g cap, v = .slice (some ⟨g, 0, none⟩) ls.length cap ∧ ∀ Z, Below w.heap.size w Z → ∀ i, i < ls.length → Z.cell? ⟨g, i, none⟩ = some (sV (ls.getD i [])) := by
  have hB := fun Z (hb : Below w.heap.size w Z) => FSt.below h hb
  obtain ⟨h1, h2⟩ := h
  rcases h2 with ⟨h2, h3⟩ | ⟨g, cap, cur, hv, hg, hh, r⟩
  · exact absurd (by simpa using h3) hn
  · refine ⟨g, cap, hv, fun Z hb i hi => ?_⟩
    subst hv
    have := hB Z hb
    rw [World.ownsRow.cellAt this i (by simpa using hi), List.getElem?_map, List.getElem?_eq_getElem hi]
    simp [List.getD, List.getElem?_eq_getElem hi]
theorem splitR_nn (s : List UInt8) : splitR s ≠ [] := by
  rcases idx_w s with ⟨_, h⟩ | ⟨k, _, hk, h⟩ <;> rw [h] <;> simp
theorem wrap_stp (N : Int) (c : UInt8) : IntKind.u64.wrap (IntKind.u64.wrap (IntKind.u64.wrap (N * 10) + IntKind.u64.wrap (c.toNat : Int)) - 48) = stp N c := by
  have hb : (2 : Int) ^ IntKind.u64.bits = 18446744073709551616 := by decide
  unfold stp
  simp [IntKind.wrap, IntKind.signed]
  rw [hb]
theorem tr_d3 {s : List UInt8} (h : dgB ((splitR s).getD 3 []) = false) : TR s r0 false := .inr ⟨rfl, rfl, fun q hq e => by rw [(rdT_q hq e).2.2.2.1] at h; cases h⟩
theorem tr_d5 {s : List UInt8} (h : dgB ((splitR s).getD 5 []) = false) : TR s r0 false := .inr ⟨rfl, rfl, fun q hq e => by rw [(rdT_q hq e).2.2.2.2.1] at h; cases h⟩
def RTE (s : List UInt8) (w : World) (e : Ending) (w' : World) : Prop := ∃ r b, e = .returned (.tuple #[rV r, .bool b]) ∧ TR s r b ∧ Below w.heap.size w w'
set_option maxHeartbeats 4000000 in
set_option maxRecDepth 100000 in
theorem runtext_any (s : List UInt8) (hl : s.length ≤ 1000000) (w : World) (hG : GV w) : Calls Tryd.prog 20 #[sV s] w fun e w' => RTE s w e w' := by
  have hz := zero_rp
  have hzd := zero_dg
  have HBD : Hid _ := build_rp
  have HI0A : Hid _ := infRA r0_ok
  have H01 : Hid _ := rL_one r0
  have HI0 : Hid _ := infR r0_ok
  have HR0 : Hid _ := (RS.start w).alloc _ rfl 26 (rL r0)
  have HCUT : Hid _ := fun W => rcut_any s hl W
  have HG : Hid _ := hG
  have HL : Hid _ := hl
  have hsz : (⟨s.toArray⟩ : ByteArray).size = s.length := by simp [ByteArray.size]
  clear hG hl
  go_enter Tryd.func20, Tryd.ntmps20
  go_wp2_with fail
  refine Calls.mono (HCUT.out _) ?_
  rintro e V1 ⟨v, rfl, hf, hb⟩
  have HR1 : Hid _ := HR0.out.step hb
  obtain ⟨g, cap, rfl, hcl⟩ := fst_open hf (splitR_nn s)
  have HCL : Hid _ := hcl
  clear hf hb hcl HR0 HCUT
  by_cases h250 : 250 < s.length
  · have i1 : (250 : Int) < (s.length : Int) := by omega
    have HNO : Hid (TR s r0 false) := .inr ⟨rfl, rfl, fun q hq e => by have := tex_len hq; rw [e] at this; omega⟩
    clear h250 hsz HCL
    unfold sV
    go_wp2_with (first
      | (refine build_g (by rfl) 26 #[] rfl #[] (.agg (rL r0).toArray) (by simp [Act.eval]) (HBD.out _) ?_)
      | (refine wpList_store_row rfl 26 (.tmp 2) (.tmp 22) rfl w.heap.size (rL r0).toArray rfl rfl 26 (rL r0).toArray (HR1.out.at 0 rfl) HI0A.out rfl H01.out ?_))
    have R8 := HR1.out.put 0 rfl (rL r0)
    refine bodyPost_ret (v := .tuple #[.agg (rL r0).toArray, .bool false]) (results2 Tryd.results20 _ _ w.heap.size _ (rL r0) _ _ rfl rfl (R8.at 0 rfl) Tryd.underlying26 rfl HI0.out) rfl ⟨r0, false, rfl, HNO.out, R8.bel⟩
  · have i1 : ¬ (250 : Int) < (s.length : Int) := by omega
    by_cases h6 : (splitR s).length = 6
    · skip
      have i2 : ((((splitR s).length : Nat) : Int) != 6) = false := by rw [h6]; rfl
      have hc1 := HCL.out V1 (Below.refl _ _) 1 (by omega)
      have HC3 : Hid (∀ Z, Below V1.heap.size V1 Z → Z.cell? ⟨g, 3, none⟩ = some (sV ((splitR s).getD 3 []))) := fun Z hZ => HCL.out Z hZ 3 (by omega)
      have HC5 : Hid (∀ Z, Below V1.heap.size V1 Z → Z.cell? ⟨g, 5, none⟩ = some (sV ((splitR s).getD 5 []))) := fun Z hZ => HCL.out Z hZ 5 (by omega)
      have ig1 : (1 : Int) < (((splitR s).length : Nat) : Int) := by rw [h6]; decide
      have ig3 : (3 : Int) < (((splitR s).length : Nat) : Int) := by rw [h6]; decide
      have ig5 : (5 : Int) < (((splitR s).length : Nat) : Int) := by rw [h6]; decide
      obtain ⟨P1, hP1⟩ : ∃ P, P = (splitR s).getD 1 [] := ⟨_, rfl⟩
      have HP1 : Hid _ := hP1
      rw [← hP1] at hc1
      obtain ⟨S1, hS1⟩ : ∃ S : ByteArray, S = ⟨P1.toArray⟩ := ⟨_, rfl⟩
      have hsz1 : S1.size = P1.length := by rw [hS1]; simp [ByteArray.size]
      have HIX : Hid (∀ (k : Nat) (hk : k < P1.length) (W : World), (Instr.index 9 (.string S1) (.int .i64 (k : Int))).run Tryd.prog W = .ok (.int .u8 ((P1[k]).toNat : Int)) W) := fun k hk W => by rw [hS1]; exact str_at P1 k hk W
      unfold sV at hc1 ⊢
      rw [← hS1] at hc1
      have HLN : Hid (P1.length ≤ 1000000) := by show _ ≤ _; rw [hP1]; exact Nat.le_trans (getD_len 1) HL.out
      have hln := HLN.out
      obtain ⟨P3, hP3⟩ : ∃ P, P = (splitR s).getD 3 [] := ⟨_, rfl⟩
      obtain ⟨P5, hP5⟩ : ∃ P, P = (splitR s).getD 5 [] := ⟨_, rfl⟩
      obtain ⟨S3, hS3⟩ : ∃ S : ByteArray, S = ⟨P3.toArray⟩ := ⟨_, rfl⟩
      obtain ⟨S5, hS5⟩ : ∃ S : ByteArray, S = ⟨P5.toArray⟩ := ⟨_, rfl⟩
      rw [← hP3] at HC3
      rw [← hP5] at HC5
      unfold sV at HC3 HC5
      rw [← hS3] at HC3
      rw [← hS5] at HC5
      have HD3 : Hid (∀ X, Calls Tryd.prog 38 #[.string S3] X fun e w' => e = .returned (.tuple #[.agg ((dgT P3).map B8).toArray, .bool (dgB P3)]) ∧ Below X.heap.size X w') := fun X => by rw [hS3]; exact rdig_any P3 (by rw [hP3]; exact Nat.le_trans (getD_len 3) HL.out) X
      have HD5 : Hid (∀ X, Calls Tryd.prog 38 #[.string S5] X fun e w' => e = .returned (.tuple #[.agg ((dgT P5).map B8).toArray, .bool (dgB P5)]) ∧ Below X.heap.size X w') := fun X => by rw [hS5]; exact rdig_any P5 (by rw [hP5]; exact Nat.le_trans (getD_len 5) HL.out) X
      have HN3 : Hid (dgB P3 = false → TR s r0 false) := fun h => tr_d3 (by rw [← hP3]; exact h)
      have HN5 : Hid (dgB P5 = false → TR s r0 false) := fun h => tr_d5 (by rw [← hP5]; exact h)
      obtain ⟨NR, hNR⟩ : ∃ N, N = (nrf P1).toNat := ⟨_, rfl⟩
      have HNI : Hid (nrf P1 = (NR : Int)) := by show _ = _; rw [hNR]; have := nrf_bd P1; omega
      have hRD : rdT s NR = ⟨NR, dgT P3, dgT P5⟩ := by unfold rdT; rw [hP3, hP5]
      have hNB : NR < 18446744073709551616 := by have := nrf_bd P1; omega
      have HOK : Hid (rdT s NR).ok := rdT_ok s hNB
      have HY : Hid (tex (rdT s NR) = s → TR s (rdT s NR) true) := tr_yes hNB
      have HNO' : Hid (tex (rdT s NR) ≠ s → TR s r0 false) := tr_no (fun u hu e => by rw [hNR, HP1.out, e, nrf_dec u hu]; rfl)
      have HBR : Hid (∀ X, (Instr.build 26 #[(0, .int .u64 (NR : Int)), (1, .agg ((dgT P3).map B8).toArray), (2, .agg ((dgT P5).map B8).toArray)]).run Tryd.prog X = .ok (rV (rdT s NR)) X) := fun X => by rw [hRD]; exact build_rp3 _ _ _ (by rw [List.length_map]; exact dgT_len _) (by rw [List.length_map]; exact dgT_len _) X
      have HD3L : Hid ((dgT P3).length = 32) := dgT_len _
      have HD5L : Hid ((dgT P5).length = 32) := dgT_len _
      have HIA3 : Hid _ := infDA HD3L.out
      have HIA5 : Hid _ := infDA HD5L.out
      have HI3 : Hid _ := infD HD3L.out
      have HI5 : Hid _ := infD HD5L.out
      have HLZ : Hid ((Z32.map B8).length = 32) := rfl
      have HLD3 : Hid (((dgT P3).map B8).length = 32) := by show _ = _; rw [List.length_map]; exact HD3L.out
      have HLD5 : Hid (((dgT P5).map B8).length = 32) := by show _ = _; rw [List.length_map]; exact HD5L.out
      have HOD3 : Hid _ := B8_onea (dgT P3)
      have HOD5 : Hid _ := B8_onea (dgT P5)
      have HIR : Hid _ := infR HOK.out
      have HIRA : Hid _ := infRA HOK.out
      have HRL : Hid _ := rL_one (rdT s NR)
      have HLL : Hid _ := rL_len HOK.out
      clear hRD hNR hNB hP3 hP5 hS3 hS5 HP1
      generalize rdT s NR = R at *
      generalize dgB P3 = b3 at *
      generalize dgB P5 = b5 at *
      generalize dgT P3 = D3 at *
      generalize dgT P5 = D5 at *
      clear hP1 hS1 HCL h250 hsz
      generalize (splitR s).length = NL at *
      go_wp2
      go_loopw [5, 6] (fun n i wr => ∃ k : Nat, k ≤ P1.length ∧ n = .int .u64 (nrf (P1.take k)) ∧ i = .int .i64 (k : Int) ∧ wr = V1) (fun _ i _ => P1.length - (intOf i).toNat)
      case atStart => exact ⟨0, Nat.zero_le _, rfl, rfl, rfl⟩
      case round =>
        obtain ⟨k, hk, rfl, rfl, rfl⟩ := hrel
        by_cases hlt : k < P1.length
        · have j1 : (k : Int) < (S1.size : Int) := by omega
          have hi := fun W => HIX.out k hlt W
          have HN2 : Hid (nrf (P1.take (k + 1)) = stp (nrf (P1.take k)) P1[k]) := by show _ = _; rw [← nrf_snoc]; congr 1; simp
          clear HIX
          generalize nrf (P1.take k) = N at *
          go_wp2
          refine ⟨⟨k + 1, hlt, by rw [wrap_stp, HN2.out], by go_num, trivial⟩, ?_⟩
          first | (simp [intOf]; done) | (simp [intOf]; omega)
        · have j1 : ¬ (k : Int) < (S1.size : Int) := by omega
          have hke : k = P1.length := by omega
          subst hke
          rw [List.take_length, HNI.out]
          have hcc3 := HC3.out wr (Below.refl _ _)
          clear HIX
          go_wp2_with fail
          refine Calls.mono (HD3.out _) ?_
          rintro e V2 ⟨rfl, hb⟩
          have HR2 : Hid _ := (HR1.out.step hb).alloc V2.heap.size rfl 24 (Z32.map B8)
          have HB2 : Hid _ := hb
          clear HD3 HC3 hcc3 hc1 hb
          go_wp2_with (first
            | (refine wpList_store_rowL rfl 24 (.tmp 7) (.tmp 46) rfl V2.heap.size (D3.map B8).toArray rfl rfl 24 (Z32.map B8).toArray (HR2.out.at 0 rfl) HIA3.out (by rw [List.size_toArray, List.size_toArray, HLZ.out, HLD3.out]) HOD3.out ?_; intro W3 hW3; have HR3 : Hid (RS w [(V2.heap.size, 24, D3.map B8), (w.heap.size, 26, rL r0)] W3) := (by rw [hW3]; exact HR2.out.put 0 rfl (D3.map B8)); have hcc5 : W3.cell? ⟨g, 5, none⟩ = some (.string S5) := (by rw [hW3]; exact HC5.out _ (below_setRow (HB2.out.alloc HB2.out.size _) HB2.out.size _)); clear hW3 HC5 HR2 HB2))
          refine Calls.mono (HD5.out _) ?_
          rintro e V3 ⟨rfl, hb⟩
          have HR4 : Hid _ := (HR3.out.step hb).alloc V3.heap.size rfl 24 (Z32.map B8)
          clear HD5 hcc5 hb HR3
          cases b3
          · have HNO : Hid (TR s r0 false) := HN3.out rfl
            clear HN3 HN5 HY HNO'
            go_wp2_with (first
              | (refine wpList_store_rowL rfl 24 (.tmp 9) (.tmp 53) rfl V3.heap.size (D5.map B8).toArray rfl rfl 24 (Z32.map B8).toArray (HR4.out.at 0 rfl) HIA5.out (by rw [List.size_toArray, List.size_toArray, HLZ.out, HLD5.out]) HOD5.out ?_; intro W4 hW4; have HR5 : Hid (RS w [(V3.heap.size, 24, D5.map B8), (V2.heap.size, 24, D3.map B8), (w.heap.size, 26, rL r0)] W4) := (by rw [hW4]; exact HR4.out.put 0 rfl (D5.map B8)); have HR6 : Hid _ := (HR5.out.alloc W4.heap.size rfl 26 (rL r0)); clear hW4 HR4)
              | (refine wpList_load_mid rfl 24 (.tmp 7) rfl V2.heap.size 0 rfl (D3.map B8) _ (rangeAt_row (HR5.out.at 1 rfl)) Tryd.underlying24 rfl HI3.out ?_)
              | (refine wpList_load_mid rfl 24 (.tmp 9) rfl V3.heap.size 0 rfl (D5.map B8) _ (rangeAt_row (HR5.out.at 0 rfl)) Tryd.underlying24 rfl HI5.out ?_)
              | (refine wpList_build rfl 26 #[(0, .tmp 55), (1, .tmp 56), (2, .tmp 57)] rfl #[(0, .int .u64 (NR : Int)), (1, .agg (D3.map B8).toArray), (2, .agg (D5.map B8).toArray)] (rV R) (by simp [Act.eval]; exact ⟨rfl, rfl, rfl⟩) (HBR.out _) ?_)
              | (refine wpList_store_rowL rfl 26 (.tmp 11) (.tmp 58) rfl W4.heap.size (rL R).toArray rfl rfl 26 (rL r0).toArray (HR6.out.at 0 rfl) HIRA.out (by rw [List.size_toArray, List.size_toArray, HLL.out]; rfl) HRL.out ?_; intro W5 hW5; have HR7 : Hid (RS w [(W4.heap.size, 26, rL R), (V3.heap.size, 24, D5.map B8), (V2.heap.size, 24, D3.map B8), (w.heap.size, 26, rL r0)] W5) := (by rw [hW5]; exact HR6.out.put 0 rfl (rL R)); clear hW5 HR6 HR5)
              | (refine load_mid_g (by rfl) 26 (.tmp 11) rfl W4.heap.size 0 rfl (rL R) _ (rangeAt_row (HR7.out.at 0 rfl)) Tryd.underlying26 rfl HIR.out ?_)
              | (refine build_g (by rfl) 26 #[] rfl #[] (.agg (rL r0).toArray) (by simp [Act.eval]) (HBD.out _) ?_)
              | (refine wpList_store_row rfl 26 (.tmp 2) (.tmp 71) rfl w.heap.size (rL r0).toArray rfl rfl 26 (rL r0).toArray (HR7.out.at 3 rfl) HI0A.out rfl H01.out ?_))
            have R8 := HR7.out.put 3 rfl (rL r0)
            refine bodyPost_ret (v := .tuple #[.agg (rL r0).toArray, .bool false]) (results2 Tryd.results20 _ _ w.heap.size _ (rL r0) _ _ rfl rfl (R8.at 3 rfl) Tryd.underlying26 rfl HI0.out) rfl ⟨r0, false, rfl, HNO.out, R8.bel⟩
          · cases b5
            · have HNO : Hid (TR s r0 false) := HN5.out rfl
              clear HN3 HN5 HY HNO'
              go_wp2_with (first
                | (refine wpList_store_rowL rfl 24 (.tmp 9) (.tmp 53) rfl V3.heap.size (D5.map B8).toArray rfl rfl 24 (Z32.map B8).toArray (HR4.out.at 0 rfl) HIA5.out (by rw [List.size_toArray, List.size_toArray, HLZ.out, HLD5.out]) HOD5.out ?_; intro W4 hW4; have HR5 : Hid (RS w [(V3.heap.size, 24, D5.map B8), (V2.heap.size, 24, D3.map B8), (w.heap.size, 26, rL r0)] W4) := (by rw [hW4]; exact HR4.out.put 0 rfl (D5.map B8)); have HR6 : Hid _ := (HR5.out.alloc W4.heap.size rfl 26 (rL r0)); clear hW4 HR4)
                | (refine wpList_load_mid rfl 24 (.tmp 7) rfl V2.heap.size 0 rfl (D3.map B8) _ (rangeAt_row (HR5.out.at 1 rfl)) Tryd.underlying24 rfl HI3.out ?_)
                | (refine wpList_load_mid rfl 24 (.tmp 9) rfl V3.heap.size 0 rfl (D5.map B8) _ (rangeAt_row (HR5.out.at 0 rfl)) Tryd.underlying24 rfl HI5.out ?_)
                | (refine wpList_build rfl 26 #[(0, .tmp 55), (1, .tmp 56), (2, .tmp 57)] rfl #[(0, .int .u64 (NR : Int)), (1, .agg (D3.map B8).toArray), (2, .agg (D5.map B8).toArray)] (rV R) (by simp [Act.eval]; exact ⟨rfl, rfl, rfl⟩) (HBR.out _) ?_)
                | (refine wpList_store_rowL rfl 26 (.tmp 11) (.tmp 58) rfl W4.heap.size (rL R).toArray rfl rfl 26 (rL r0).toArray (HR6.out.at 0 rfl) HIRA.out (by rw [List.size_toArray, List.size_toArray, HLL.out]; rfl) HRL.out ?_; intro W5 hW5; have HR7 : Hid (RS w [(W4.heap.size, 26, rL R), (V3.heap.size, 24, D5.map B8), (V2.heap.size, 24, D3.map B8), (w.heap.size, 26, rL r0)] W5) := (by rw [hW5]; exact HR6.out.put 0 rfl (rL R)); clear hW5 HR6 HR5)
                | (refine load_mid_g (by rfl) 26 (.tmp 11) rfl W4.heap.size 0 rfl (rL R) _ (rangeAt_row (HR7.out.at 0 rfl)) Tryd.underlying26 rfl HIR.out ?_)
                | (refine build_g (by rfl) 26 #[] rfl #[] (.agg (rL r0).toArray) (by simp [Act.eval]) (HBD.out _) ?_)
                | (refine wpList_store_row rfl 26 (.tmp 2) (.tmp 71) rfl w.heap.size (rL r0).toArray rfl rfl 26 (rL r0).toArray (HR7.out.at 3 rfl) HI0A.out rfl H01.out ?_))
              have R8 := HR7.out.put 3 rfl (rL r0)
              refine bodyPost_ret (v := .tuple #[.agg (rL r0).toArray, .bool false]) (results2 Tryd.results20 _ _ w.heap.size _ (rL r0) _ _ rfl rfl (R8.at 3 rfl) Tryd.underlying26 rfl HI0.out) rfl ⟨r0, false, rfl, HNO.out, R8.bel⟩
            · clear HN3 HN5
              have HPT : Hid (∀ X, Below w.heap.size w X → Calls Tryd.prog 12 #[rV R] X fun e w' => e = .returned (sV (tex R)) ∧ Below X.heap.size X w') := fun X hb => rtext_any R HOK.out X (HG.out.below hb)
              go_wp2_with (first
                | (refine wpList_store_rowL rfl 24 (.tmp 9) (.tmp 53) rfl V3.heap.size (D5.map B8).toArray rfl rfl 24 (Z32.map B8).toArray (HR4.out.at 0 rfl) HIA5.out (by rw [List.size_toArray, List.size_toArray, HLZ.out, HLD5.out]) HOD5.out ?_; intro W4 hW4; have HR5 : Hid (RS w [(V3.heap.size, 24, D5.map B8), (V2.heap.size, 24, D3.map B8), (w.heap.size, 26, rL r0)] W4) := (by rw [hW4]; exact HR4.out.put 0 rfl (D5.map B8)); have HR6 : Hid _ := (HR5.out.alloc W4.heap.size rfl 26 (rL r0)); clear hW4 HR4)
                | (refine wpList_load_mid rfl 24 (.tmp 7) rfl V2.heap.size 0 rfl (D3.map B8) _ (rangeAt_row (HR5.out.at 1 rfl)) Tryd.underlying24 rfl HI3.out ?_)
                | (refine wpList_load_mid rfl 24 (.tmp 9) rfl V3.heap.size 0 rfl (D5.map B8) _ (rangeAt_row (HR5.out.at 0 rfl)) Tryd.underlying24 rfl HI5.out ?_)
                | (refine wpList_build rfl 26 #[(0, .tmp 55), (1, .tmp 56), (2, .tmp 57)] rfl #[(0, .int .u64 (NR : Int)), (1, .agg (D3.map B8).toArray), (2, .agg (D5.map B8).toArray)] (rV R) (by simp [Act.eval]; exact ⟨rfl, rfl, rfl⟩) (HBR.out _) ?_)
                | (refine wpList_store_rowL rfl 26 (.tmp 11) (.tmp 58) rfl W4.heap.size (rL R).toArray rfl rfl 26 (rL r0).toArray (HR6.out.at 0 rfl) HIRA.out (by rw [List.size_toArray, List.size_toArray, HLL.out]; rfl) HRL.out ?_; intro W5 hW5; have HR7 : Hid (RS w [(W4.heap.size, 26, rL R), (V3.heap.size, 24, D5.map B8), (V2.heap.size, 24, D3.map B8), (w.heap.size, 26, rL r0)] W5) := (by rw [hW5]; exact HR6.out.put 0 rfl (rL R)); clear hW5 HR6 HR5)
                | (refine load_mid_g (by rfl) 26 (.tmp 11) rfl W4.heap.size 0 rfl (rL R) _ (rangeAt_row (HR7.out.at 0 rfl)) Tryd.underlying26 rfl HIR.out ?_)
                | (refine build_g (by rfl) 26 #[] rfl #[] (.agg (rL r0).toArray) (by simp [Act.eval]) (HBD.out _) ?_)
                | (refine wpList_store_row rfl 26 (.tmp 2) (.tmp 71) rfl w.heap.size (rL r0).toArray rfl rfl 26 (rL r0).toArray (HR7.out.at 3 rfl) HI0A.out rfl H01.out ?_))
              refine Calls.mono (HPT.out _ HR7.out.bel) ?_
              rintro e V6 ⟨rfl, hb⟩
              have HR8 : Hid _ := HR7.out.step hb
              clear hb HPT HR7
              rw [show Value.string ⟨s.toArray⟩ = sV s from rfl]
              by_cases he : tex R = s
              · have HTR : Hid (TR s R true) := HY.out he
                have hcmp : ∀ W, (binOp .neq 9 (sV (tex R)) (sV s)).run Tryd.prog W = .ok (.bool false) W := fun W => by rw [run_sneq, he]; simp
                have hgua := fun x y W => run_sguard x y (tex R) s W
                clear he HY HNO'
                go_wp2_with (first
                  | (refine wpList_load_mid rfl 26 (.tmp 11) rfl W4.heap.size 0 rfl (rL R) _ (rangeAt_row (HR8.out.at 0 rfl)) Tryd.underlying26 rfl HIR.out ?_)
                  | (refine wpList_store_row rfl 26 (.tmp 2) (.tmp 72) rfl w.heap.size (rL R).toArray rfl rfl 26 (rL r0).toArray (HR8.out.at 3 rfl) HIRA.out (by rw [List.size_toArray, List.size_toArray, HLL.out]; rfl) HRL.out ?_))
                have R8 := HR8.out.put 3 rfl (rL R)
                refine bodyPost_ret (v := .tuple #[.agg (rL R).toArray, .bool true]) (results2 Tryd.results20 _ _ w.heap.size _ (rL R) _ _ rfl rfl (R8.at 3 rfl) Tryd.underlying26 rfl HIR.out) rfl ⟨R, true, rfl, HTR.out, R8.bel⟩
              · have HNO : Hid (TR s r0 false) := HNO'.out he
                have hcmp : ∀ W, (binOp .neq 9 (sV (tex R)) (sV s)).run Tryd.prog W = .ok (.bool true) W := fun W => by rw [run_sneq, decide_eq_false he]; rfl
                have hgua := fun x y W => run_sguard x y (tex R) s W
                clear he HY HNO'
                go_wp2_with (first
                  | (refine build_g (by rfl) 26 #[] rfl #[] (.agg (rL r0).toArray) (by simp [Act.eval]) (HBD.out _) ?_)
                  | (refine wpList_store_row rfl 26 (.tmp 2) (.tmp 71) rfl w.heap.size (rL r0).toArray rfl rfl 26 (rL r0).toArray (HR8.out.at 3 rfl) HI0A.out rfl H01.out ?_))
                have R8 := HR8.out.put 3 rfl (rL r0)
                refine bodyPost_ret (v := .tuple #[.agg (rL r0).toArray, .bool false]) (results2 Tryd.results20 _ _ w.heap.size _ (rL r0) _ _ rfl rfl (R8.at 3 rfl) Tryd.underlying26 rfl HI0.out) rfl ⟨r0, false, rfl, HNO.out, R8.bel⟩
    · have i2 : ((((splitR s).length : Nat) : Int) != 6) = true := by rw [bne_iff_ne]; omega
      have HNO : Hid (TR s r0 false) := tr_len h6
      clear h250 hsz HCL h6
      unfold sV
      go_wp2_with (first
        | (refine build_g (by rfl) 26 #[] rfl #[] (.agg (rL r0).toArray) (by simp [Act.eval]) (HBD.out _) ?_)
        | (refine wpList_store_row rfl 26 (.tmp 2) (.tmp 22) rfl w.heap.size (rL r0).toArray rfl rfl 26 (rL r0).toArray (HR1.out.at 0 rfl) HI0A.out rfl H01.out ?_))
      have R8 := HR1.out.put 0 rfl (rL r0)
      refine bodyPost_ret (v := .tuple #[.agg (rL r0).toArray, .bool false]) (results2 Tryd.results20 _ _ w.heap.size _ (rL r0) _ _ rfl rfl (R8.at 0 rfl) Tryd.underlying26 rfl HI0.out) rfl ⟨r0, false, rfl, HNO.out, R8.bel⟩
end Go.Proofs.YtpklboicgjpmeaaDoor.RB
