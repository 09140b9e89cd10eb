/- OracleAgain: the walk. -/
import Derived.Test.YtefhjjjjbkkedaaGreatUA
import Derived.Deep.CutRange
set_option linter.unusedVariables false
set_option linter.unusedSimpArgs false
namespace Go.Proofs.YtefhjjjjbkkedaaGreat.R5.oracleAgain
open scoped Classical
open Go.RowKit

theorem build_ora (w : World) (p : Option Addr) (n c : Nat) : (Instr.build 33 #[(0, .bool true), (2, .slice p n c)]).run Tryz.prog w = .ok (.agg (oL true (List.replicate 32 0) (.slice p n c) 0 (.slice none 0 0)).toArray) w := by
  show _ = _
  kernel_rfl
theorem info37 (l : List Value) (h : l.length = 37) : (Tryz.prog.info? 41).map (·.size) = some l.length := by rw [h]; kernel_rfl
set_option maxHeartbeats 8000000 in
set_option maxRecDepth 100000 in
theorem walk (p : Option Addr) (N cap : Nat) (ds : List (List UInt8)) (v1 : Value) (ls : List Ak) (v2 : Value) (ms : List Ak) (w : World) (hdl : ds.length ≤ 9223372036854775807) (hpc : p = none → cap = 0) (hD : HDs w (.slice p N cap) ds) (hl1 : ls.length ≤ 9223372036854775807) (h1 : HAs w v1 ls) (hl2 : ms.length ≤ 9223372036854775807) (h2 : HAs w v2 ms) :
    Calls Tryz.prog 3 #[.slice p N cap, v1, v2] w fun e w' => e = .returned (.bool true) ∧ Below w.heap.size w w' := by
  have HMU1 : Hid _ := much_any v1 ls w hl1 h1
  have HMU2 : Hid _ := much_any v2 ms w hl2 h2
  have hNd : N = ds.length := by obtain ⟨_, p', c', e, _⟩ := hD; simp only [Value.slice.injEq] at e; exact e.2.1
  by_cases hm1 : muchB ls = true
  · rw [hm1] at HMU1
    clear hNd hD h1 h2
    go_enter Tryz.func3, Tryz.ntmps3
    go_wp2_with fail
    refine Calls.mono HMU1.out ?_
    rintro e w1 ⟨rfl, hw1⟩
    rw [hw1]
    clear hw1 w1
    go_wp2_with fail
    refine (known_any _).mono ?_
    rintro e wk ⟨rfl, hbk⟩
    go_wp2
    go_ret
    exact ⟨rfl, hbk⟩
  · have hf1 : muchB ls = false := by simpa using hm1
    rw [hf1] at HMU1
    by_cases hm2 : muchB ms = true
    · rw [hm2] at HMU2
      clear hNd hD h1 h2
      go_enter Tryz.func3, Tryz.ntmps3
      go_wp2_with fail
      refine Calls.mono HMU1.out ?_
      rintro e w1 ⟨rfl, hw1⟩
      rw [hw1]
      clear hw1 w1
      go_wp2_with fail
      refine Calls.mono HMU2.out ?_
      rintro e w1 ⟨rfl, hw1⟩
      rw [hw1]
      clear hw1 w1
      go_wp2_with fail
      refine (known_any _).mono ?_
      rintro e wk ⟨rfl, hbk⟩
      go_wp2
      go_ret
      exact ⟨rfl, hbk⟩
    · have hf2 : muchB ms = false := by simpa using hm2
      rw [hf2] at HMU2
      clear hm1 hm2
      by_cases h60 : 60 < N
      · have h60I : (60 : Int) < (N : Int) := by omega
        clear hNd hD h1 h2
        go_enter Tryz.func3, Tryz.ntmps3
        go_wp2_with fail
        refine Calls.mono HMU1.out ?_
        rintro e w1 ⟨rfl, hw1⟩
        rw [hw1]
        clear hw1 w1
        go_wp2_with fail
        refine Calls.mono HMU2.out ?_
        rintro e w1 ⟨rfl, hw1⟩
        rw [hw1]
        clear hw1 w1
        go_wp2_with fail
        refine (known_any _).mono ?_
        rintro e wk ⟨rfl, hbk⟩
        go_wp2
        go_ret
        exact ⟨rfl, hbk⟩
      · have h60I : ¬ (60 : Int) < (N : Int) := by omega
        obtain ⟨p1, c1, hv1, _⟩ := id h1
        subst hv1
        obtain ⟨p2, c2, hv2, _⟩ := id h2
        subst hv2
        have HAT1 : Hid _ := akIn h1 hf1
        have HAT2 : Hid _ := akIn h2 hf2
        have hL1 := (much_le2 hf1).1
        have hL2 := (much_le2 hf2).1
        have hnew := pnew_any true (List.replicate 32 0) p N cap ds w (by simp) hpc (by omega) hD
        have hbo := fun W => build_ora W p N cap
        have hbd := fun W => build_dig W
        have HD : Hid _ := hD
        obtain ⟨ZZ, hZZ⟩ : ∃ Z : List UInt8, Z = List.replicate 32 0 := ⟨_, rfl⟩
        rw [← hZZ] at hnew hbo hbd
        clear hZZ hD h1 h2 hf1 hf2 hNd hdl
        generalize hZC : ZZ.map B8 = ZC at *
        have HZC : Hid _ := hZC
        clear hZC
        have HBO : Hid _ := hbo
        have HBD : Hid _ := hbd
        have HNEW : Hid (Calls Tryz.prog 7 #[.bool true, .agg ZC.toArray, .slice p N cap] w fun e w' => PNew w true ZZ ds e w') := hnew
        clear hbo hbd hnew
        go_enter Tryz.func3, Tryz.ntmps3
        go_wp2_with fail
        refine Calls.mono HMU1.out ?_
        rintro e w1 ⟨rfl, hw1⟩
        rw [hw1]
        clear hw1 w1
        go_wp2_with fail
        refine Calls.mono HMU2.out ?_
        rintro e w1 ⟨rfl, hw1⟩
        rw [hw1]
        clear hw1 w1
        go_wp2_with (refine wpList_build rfl 29 _ rfl _ _ (by simp; first | done | rfl) (HBD.out _) ?_)
        refine Calls.mono HNEW.out ?_
        rintro e X ⟨og, mb, dv, rfl, hpo, hbX, _⟩
        have HM0 : Hid _ := MM.start hpo hbX HD.out
        clear hpo HNEW HMU1 HMU2 HBD hbX
        generalize hOL : oL true ZZ (.slice p N cap) 0 (.slice none 0 0) = OL at *
        clear hOL
        go_wp2_with (refine wpList_build rfl 33 _ rfl _ _ (by simp; exact ⟨rfl, rfl⟩) (HBO.out _) ?_)
        have hM1 := HM0.out.retn
        clear HM0 HBO
        generalize X.heap.size + 1 = n0 at hM1
        generalize X.alloc (.cells OL.toArray 33 (0, 0)) = W0 at *
        generalize X.heap.size = rg at *
        have HM1 : Hid _ := hM1
        clear hM1 X
        go_loopw [9] (fun i wr => ∃ k : Nat, k ≤ ls.length ∧ i = .int .i64 k ∧ MM w n0 wr.heap.size og mb rg ZZ ds (runL ZZ ds [] (ls.take k)) (runL ZZ ds [] (ls.take k)) (fun _ => False) w wr) (fun i _ => ls.length - (intOf i).toNat)
        case atStart => exact ⟨0, Nat.zero_le _, rfl, by rw [List.take_zero]; exact HM1.out⟩
        case round =>
          clear HM1 W0
          obtain ⟨k, hk, rfl, hM⟩ := hrel
          have HM : Hid _ := hM
          clear hM
          by_cases hlt : k < ls.length
          · skip
            have hkI : (k : Int) < (ls.length : Int) := by omega
            obtain ⟨a, ha⟩ : ∃ a, ls[k]? = some a := ⟨_, List.getElem?_eq_getElem hlt⟩
            obtain ⟨g, o, pd, cd, hat⟩ := HAT1.out k a ha
            have hp := hat.ptr
            subst hp
            have HROW : Hid _ := rangeAt_below hat.row HM.out.bel
            have HAI : Hid _ := info37 (akL a (.slice pd a.q.data.length cd)) (akL_len _ _ hat.ok.key)
            have HONE : Hid (Calls Tryz.prog 8 #[.pointer (some ⟨og, 0, none⟩), .pointer (some ⟨rg, 0, none⟩), .agg (akL a (.slice pd a.q.data.length cd)).toArray] wr fun e Y => OneEnd w n0 og mb rg ZZ ds (runL ZZ ds [] (ls.take (k + 1))) (fun _ => False) w e Y) := by
              show Calls _ _ _ _ _
              rw [runL_snoc ZZ ds [] ls k a ha]
              exact one_any w wr _ n0 og mb rg ZZ ds _ _ a pd cd HM.out (runL_take ZZ ds [] ls k (by omega) (by first | omega | simp)) hat.ok (by have := hat.dl; omega) hat.hb
            clear ha hat HM
            generalize akL a (.slice pd a.q.data.length cd) = AKL at *
            go_wp2_with (first
              | (refine wpList_load_mid rfl 41 _ rfl g (o + k * 37) rfl AKL _ HROW.out Tryz.underlying41 rfl HAI.out ?_)
              | (go_at_call 8; fail))
            refine Calls.mono HONE.out ?_
            rintro e Y ⟨rfl, hMY⟩
            have HMY : Hid _ := hMY
            clear hMY
            go_wp2
            go_roundw
            case rel => exact ⟨k + 1, by omega, by go_num, HMY.out⟩
            case measure => simp [intOf]; omega
          · have hke : k = ls.length := by omega
            subst hke
            have hkI : ¬ (ls.length : Int) < (ls.length : Int) := by omega
            generalize wr = XL at *
            obtain ⟨L1, hL1e⟩ : ∃ L, L = runL ZZ ds [] ls := ⟨_, rfl⟩
            have hM1 := HM.out
            rw [List.take_length, ← hL1e] at hM1
            have hN1 : L1.length ≤ 1280 := by rw [hL1e]; have := runL_len ZZ ds ls []; simp only [List.length_nil] at this; omega
            have HAM1 : Hid (allMay L1) := by show allMay L1; rw [hL1e]; exact runL_may (fun e he => by simp at he)
            clear hL1e HM HAT1 hk hlt
            have HCPY : Hid (Calls Tryz.prog 9 #[.pointer (some ⟨og, 0, none⟩)] XL fun e Y => ∃ og' I', e = .returned (.pointer (some ⟨og', 0, none⟩)) ∧ MM w n0 Y.heap.size og mb rg ZZ ds L1 L1 I' Y Y ∧ Cpy og' ZZ ds L1 I' Y ∧ I' (Y.heap.size - 1) ∧ 0 < Y.heap.size) := hM1.copy (by omega)
            clear hM1
            go_wp2_with (go_at_call 9; fail)
            refine Calls.mono HCPY.out ?_
            rintro e X2 ⟨ogc, I1, rfl, hM2, hC2, hT2, hP2⟩
            have HLOG2 : Hid (Calls Tryz.prog 10 #[.pointer (some ⟨og, 0, none⟩)] X2 fun e Y => LogEnd X2 L1 e Y) := hM2.log (by omega)
            have HM2 : Hid _ := hM2
            have HC2 : Hid _ := hC2
            have HT2 : Hid _ := hT2
            clear hM2 hC2 hT2 HCPY
            go_wp2_with (go_at_call 10; fail)
            refine Calls.mono HLOG2.out ?_
            rintro e X3 ⟨wv, wds, rfl, hlo, hb3⟩
            obtain ⟨wp, wc, hwv, _⟩ := hlr_of hlo.hlg
            obtain ⟨N1, hN1e⟩ : ∃ k, k = L1.length := ⟨_, rfl⟩
            rw [← hN1e] at hwv
            subst hwv
            obtain ⟨I2, hI2⟩ : ∃ J : Nat → Prop, J = fun k => I1 k ∨ (X2.heap.size ≤ k ∧ k < X3.heap.size) := ⟨_, rfl⟩
            have hs3 := hb3.size
            have hM3 := HM2.out.upd (Fr.ofBelow hb3)
            have HC3 : Hid (Cpy ogc ZZ ds L1 I2 X3) := by rw [hI2]; exact Cpy.more HC2.out hs3 (fun k hk => ⟨.inl hk, hb3.block k (HM2.out.ilt hk)⟩)
            have HW3 : Hid (Was (.slice wp N1 wc) L1 I2 X3) := by rw [hI2]; exact fun Z hZ hk => was_of hlo Z hZ (fun k hk' => hk k (.inr hk'))
            have HT3 : Hid (I2 (X3.heap.size - 1) ∧ 0 < X3.heap.size) := by
              rw [hI2]
              refine ⟨?_, by omega⟩
              by_cases h : X3.heap.size = X2.heap.size
              · rw [h]; exact .inl HT2.out
              · exact .inr ⟨by omega, by omega⟩
            rw [← hI2] at hM3
            have HM3 : Hid _ := hM3.rebase
            have HUS3 : Hid (Calls Tryz.prog 11 #[.pointer (some ⟨ogc, 0, none⟩)] X3 fun e Y => e = .returned (.int .i64 (N1 : Int)) ∧ Y = X3) := by rw [hN1e]; exact cpy_used HC3.out (Nat.le_refl _) (fun _ _ => rfl)
            have HN1 : Hid _ := hN1e
            have hN1b : N1 ≤ 1280 := by omega
            clear hlo hb3 hI2 hs3 hM3 HC2 HT2 HM2 HLOG2 hN1e hP2
            go_wp2_with (go_at_call 11; fail)
            refine Calls.mono HUS3.out ?_
            rintro e w1 ⟨rfl, hw1⟩
            rw [hw1]
            clear hw1 w1 HUS3
            go_wp2
            go_loopw [12] (fun i wr => ∃ k : Nat, k ≤ ms.length ∧ i = .int .i64 k ∧ MM w n0 wr.heap.size og mb rg ZZ ds (runL ZZ ds L1 (ms.take k)) (runL ZZ ds L1 (ms.take k)) I2 X3 wr) (fun i _ => ms.length - (intOf i).toNat)
            case atStart => exact ⟨0, Nat.zero_le _, rfl, by rw [List.take_zero]; exact HM3.out⟩
            case round =>
              clear HM3
              obtain ⟨k, hk, rfl, hM⟩ := hrel
              have HM : Hid _ := hM
              clear hM
              by_cases hlt : k < ms.length
              · skip
                have hkI : (k : Int) < (ms.length : Int) := by omega
                obtain ⟨a, ha⟩ : ∃ a, ms[k]? = some a := ⟨_, List.getElem?_eq_getElem hlt⟩
                obtain ⟨g, o, pd, cd, hat⟩ := HAT2.out k a ha
                have hp := hat.ptr
                subst hp
                have HROW : Hid _ := rangeAt_below hat.row HM.out.bel
                have HAI : Hid _ := info37 (akL a (.slice pd a.q.data.length cd)) (akL_len _ _ hat.ok.key)
                have HONE : Hid (Calls Tryz.prog 8 #[.pointer (some ⟨og, 0, none⟩), .pointer (some ⟨rg, 0, none⟩), .agg (akL a (.slice pd a.q.data.length cd)).toArray] wr fun e Y => OneEnd w n0 og mb rg ZZ ds (runL ZZ ds L1 (ms.take (k + 1))) I2 X3 e Y) := by
                  show Calls _ _ _ _ _
                  rw [runL_snoc ZZ ds L1 ms k a ha]
                  exact one_any w wr _ n0 og mb rg ZZ ds _ _ a pd cd HM.out (runL_take ZZ ds L1 ms k (by omega) (by first | omega | simp)) hat.ok (by have := hat.dl; omega) hat.hb
                clear ha hat HM
                generalize akL a (.slice pd a.q.data.length cd) = AKL at *
                go_wp2_with (first
                  | (refine wpList_load_mid rfl 41 _ rfl g (o + k * 37) rfl AKL _ HROW.out Tryz.underlying41 rfl HAI.out ?_)
                  | (go_at_call 8; fail))
                refine Calls.mono HONE.out ?_
                rintro e Y ⟨rfl, hMY⟩
                have HMY : Hid _ := hMY
                clear hMY
                go_wp2
                go_roundw
                case rel => exact ⟨k + 1, by omega, by go_num, HMY.out⟩
                case measure => simp [intOf]; omega
              · have hke : k = ms.length := by omega
                subst hke
                have hkI : ¬ (ms.length : Int) < (ms.length : Int) := by omega
                generalize wr = XM at *
                obtain ⟨L2, hL2e⟩ : ∃ L, L = runL ZZ ds L1 ms := ⟨_, rfl⟩
                have hM4 := HM.out
                rw [List.take_length, ← hL2e] at hM4
                have hN2 : L2.length ≤ 2560 := by rw [hL2e]; have := runL_len ZZ ds ms L1; omega
                have HAM2 : Hid (allMay L2) := by show allMay L2; rw [hL2e]; exact runL_may HAM1.out
                clear hL2e HM HAT2 hk hlt HAM1
                have hsz : X3.heap.size ≤ XM.heap.size := by have h1 := hM4.ilt HT3.out.1; have h2 := HT3.out.2; omega
                have HM4 : Hid _ := hM4
                have HUS4 : Hid (Calls Tryz.prog 11 #[.pointer (some ⟨ogc, 0, none⟩)] XM fun e Y => e = .returned (.int .i64 (N1 : Int)) ∧ Y = XM) := by rw [HN1.out]; exact cpy_used HC3.out hsz hM4.same
                have HLG4 : Hid (Calls Tryz.prog 10 #[.pointer (some ⟨ogc, 0, none⟩)] XM fun e Y => LogEnd XM L1 e Y) := cpy_log HC3.out hsz hM4.same (by omega)
                clear hM4
                go_wp2_with (go_at_call 11; fail)
                refine Calls.mono HUS4.out ?_
                rintro e w1 ⟨rfl, hw1⟩
                rw [hw1]
                clear hw1 w1 HUS4
                go_wp2_with (go_at_call 10; fail)
                refine Calls.mono HLG4.out ?_
                rintro e X4 ⟨cv, cds, rfl, hlo4, hb4⟩
                have hs4 := hb4.size
                have HSL : Hid (Calls Tryz.prog 12 #[cv, .slice wp N1 wc] X4 fun e w' => e = .returned (.bool true) ∧ Below X4.heap.size X4 w') := by
                  have h := sameLog_any cv (.slice wp N1 wc) L1 L1 X4 (by omega) (by omega) (hlr_of hlo4.hlg) (HW3.out X4 (by omega) (fun k hk => (hb4.block k (HM4.out.ilt hk)).trans (HM4.out.same k hk)))
                  rw [decide_eq_true (rfl : L1 = L1)] at h
                  exact h
                have HM5 : Hid _ := HM4.out.step hb4
                clear hlo4 hb4 HM4 HLG4 HW3 HC3
                go_wp2_with (go_at_call 12; fail)
                refine Calls.mono HSL.out ?_
                rintro e X5 ⟨rfl, hb5⟩
                have HM6 : Hid _ := HM5.out.step hb5
                clear HM5 hb5 HSL
                have HLG6 : Hid (Calls Tryz.prog 10 #[.pointer (some ⟨og, 0, none⟩)] X5 fun e Y => LogEnd X5 L2 e Y) := HM6.out.log (by omega)
                go_wp2_with (go_at_call 10; fail)
                refine Calls.mono HLG6.out ?_
                rintro e X6 ⟨nv, nds, rfl, hlo6, hb6⟩
                have HLO : Hid _ := hlo6
                have HAG0 : Hid (AG w n0 og mb rg ZZ ds L2 X5 X6 nv nds 0 X6) := ⟨((HM6.out.upd (Fr.ofBelow hb6)).less (fun k hk => .inr hk)).rebase, fun _ _ => rfl⟩
                have HNX : Hid (n0 ≤ X5.heap.size) := HM6.out.low.2
                have HLK : Hid (lOk L2) := HM6.out.lok
                obtain ⟨np, nc, hnv, _⟩ := hlr_of hlo6.hlg
                obtain ⟨N2, hN2e⟩ : ∃ k, k = L2.length := ⟨_, rfl⟩
                rw [← hN2e] at hnv
                subst hnv
                have HN2 : Hid _ := hN2e
                have hN2b : N2 ≤ 2560 := by omega
                clear hlo6 hb6 HM6 HLG6 HT3 hsz hs4 hN2e
                have hzq := fun W => zero_qn W
                have hzv := fun W => zero_dig W
                obtain ⟨ZL, hZL⟩ : ∃ L, L = (List.replicate 32 (0 : UInt8)).map B8 := ⟨_, rfl⟩
                obtain ⟨ZQ, hZQ⟩ : ∃ L, L = (qL ⟨0, List.replicate 32 0, 0, []⟩ (.slice none 0 0)).toArray := ⟨_, rfl⟩
                rw [← hZL] at hzv
                rw [← hZQ] at hzq
                have HZQ : Hid (ZQ.size = 35) := by show _ = _; rw [hZQ, List.size_toArray]; exact qL_len _ _ (by simp)
                have HZS : Hid (ZL.toArray.size = 32) := by show _ = _; rw [hZL]; simp
                clear hZL hZQ
                go_wp2
                go_loopw [14] (fun i wr => ∃ k : Nat, k ≤ N2 ∧ i = .int .i64 k ∧ AG w n0 og mb rg ZZ ds L2 X5 X6 (.slice np N2 nc) nds k wr) (fun i _ => N2 - (intOf i).toNat)
                case atStart => exact ⟨0, Nat.zero_le _, rfl, HAG0.out⟩
                case round =>
                  clear HAG0
                  generalize wr = wo at *
                  obtain ⟨k, hk, rfl, hA⟩ := hrel
                  have HA : Hid _ := hA
                  clear hA
                  by_cases hlt : k < N2
                  · have hkI : (k : Int) < (N2 : Int) := by omega
                    have hlt' : k < L2.length := by rw [← HN2.out]; exact hlt
                    obtain ⟨e0, he0⟩ : ∃ e, L2[k]? = some e := ⟨_, List.getElem?_eq_getElem hlt'⟩
                    obtain ⟨d0, hd0⟩ : ∃ d, nds[k]? = some d := ⟨_, List.getElem?_eq_getElem (by rw [HLO.out.len]; exact hlt')⟩
                    obtain ⟨g, cap', hgv, hr1, hr2⟩ := AG.row HLO.out HA.out he0 hd0
                    obtain ⟨b, capb, hdv, hvb, hbf, hbl⟩ := AG.dat HLO.out HA.out he0 hd0
                    simp only [Value.slice.injEq] at hgv
                    obtain ⟨rfl, hmid, rfl⟩ := hgv
                    clear hmid
                    have hgb : g ≠ b := fun e => hvb (by rw [e]; rfl)
                    have hkx := HLK.out.all e0 (List.mem_of_getElem? he0)
                    have hmx := HAM2.out e0 (List.mem_of_getElem? he0)
                    subst hdv
                    obtain ⟨q0, A0⟩ := e0
                    simp only at hr1 hr2 hbf hkx hmx hd0
                    have HQI : Hid _ := info35 (qL q0 (.slice (some ⟨b, 0, none⟩) q0.data.length capb)) (qL_len _ _ hkx.1.key)
                    have HQS : Hid ((qL q0 (.slice (some ⟨b, 0, none⟩) q0.data.length capb)).toArray.size = 35) := by show _ = _; rw [List.size_toArray]; exact qL_len _ _ hkx.1.key
                    have HQ1 : Hid _ := PS.all_of (qL_one q0 (.slice (some ⟨b, 0, none⟩) q0.data.length capb) rfl)
                    have HR1 : Hid _ := hr1
                    have HKC : Hid (∀ W : World, W.heap[wo.heap.size]? = some (.cells (qL q0 (.slice (some ⟨b, 0, none⟩) q0.data.length capb)).toArray 39 (0, 0)) → W.cell? ⟨wo.heap.size, 0, none⟩ = some (.int .i64 q0.kind)) := fun W hW => (q_facts hkx.1.key hW).1
                    have HDC : Hid (∀ W : World, W.heap[g]? = wo.heap[g]? → W.cell? ⟨g, k * 67 + 34, none⟩ = some (.slice (some ⟨b, 0, none⟩) q0.data.length capb)) := fun W hW => (World.cell?_of_block (a := ⟨g, k * 67 + 34, none⟩) hW).trans (hr1 34 _ (by have := qL_34 q0 (.slice (some ⟨b, 0, none⟩) q0.data.length capb) hkx.1.key; simpa using this))
                    have HASK : Hid (∀ (Y K' : World) (t' : Nat), q0.kind ≠ 4 → HB Y (.slice (some ⟨b, 0, none⟩) q0.data.length capb) q0.data → MM w n0 t' og mb rg ZZ ds L2 L2 (fun k => X5.heap.size ≤ k ∧ k < X6.heap.size) K' Y → Calls Tryz.prog 13 #[.pointer (some ⟨og, 0, none⟩), .agg (qL q0 (.slice (some ⟨b, 0, none⟩) q0.data.length capb)).toArray] Y fun e Z => e = .returned (okV A0) ∧ MM w n0 t' og mb rg ZZ ds L2 L2 (fun k => X5.heap.size ≤ k ∧ k < X6.heap.size) K' Z) := fun Y K' t' h4 hb hM => by
                      have h := hM.ask (by omega) _ q0 hkx.1 hb (by unfold askB; rw [hmx]; simpa using h4)
                      rw [nx_found HLK.out he0] at h
                      exact h
                    have HX0 : Hid (AG w n0 og mb rg ZZ ds L2 X5 X6 (.slice (some ⟨g, 0, none⟩) N2 nc) nds k wo) := HA.out
                    have HGK : Hid (∀ Y, AG w n0 og mb rg ZZ ds L2 X5 X6 (.slice (some ⟨g, 0, none⟩) N2 nc) nds k Y → Y.heap[g]? = wo.heap[g]? ∧ Y.heap[b]? = wo.heap[b]?) := fun Y hY => ⟨(hY.kp g (.inl rfl)).trans (HX0.out.kp g (.inl rfl)).symm, (hY.kp b (.inr ⟨k, _, Nat.le_refl _, hd0, rfl⟩)).trans (HX0.out.kp b (.inr ⟨k, _, Nat.le_refl _, hd0, rfl⟩)).symm⟩
                    have HGL : Hid (∀ Y, AG w n0 og mb rg ZZ ds L2 X5 X6 (.slice (some ⟨g, 0, none⟩) N2 nc) nds k Y → g < Y.heap.size) := fun Y hY => hY.mm.ilt (ag_in HLO.out (i := k) (.inl rfl))
                    have HBF : Hid _ := hbf
                    have HNXT : Hid (∀ W Y, AG w n0 og mb rg ZZ ds L2 X5 X6 (.slice (some ⟨g, 0, none⟩) N2 nc) nds k W → Fr (fun j => j = b) W Y → AG w n0 og mb rg ZZ ds L2 X5 X6 (.slice (some ⟨g, 0, none⟩) N2 nc) nds (k + 1) Y) := fun W Y hW hf => AG.next HLO.out HNX.out hW hd0 rfl hf
                    have HA32 : Hid (A0.length = 32) := hkx.2
                    have HR2 : Hid _ := hr2
                    have hdlen : q0.data.length ≤ 1099511627776 := hkx.1.data
                    clear hr1 hr2 hbf hkx hmx he0 hd0 hvb HA hbl
                    obtain ⟨W1, hW1⟩ : ∃ W, W = (wo.alloc (.cells ZQ 39 (0, 0))).setRow wo.heap.size (qL q0 (.slice (some ⟨b, 0, none⟩) q0.data.length capb)).toArray := ⟨_, rfl⟩
                    have hbW1 : Below wo.heap.size wo W1 := by rw [hW1]; exact below_setRow ((Below.refl _ _).alloc (Nat.le_refl _) _) (Nat.le_refl _) _
                    have HRW : Hid (W1.heap[wo.heap.size]? = some (.cells (qL q0 (.slice (some ⟨b, 0, none⟩) q0.data.length capb)).toArray 39 (0, 0))) := by rw [hW1]; exact setRow_heap _ _ _ _ _ _ (heap_alloc_new _ _)
                    have hkw := HKC.out W1 HRW.out
                    have HZ7 : Hid ((wo.alloc (.cells ZQ 39 (0, 0))).heap[wo.heap.size]? = some (.cells ZQ 39 (0, 0))) := heap_alloc_new _ _
                    have HA1 : Hid (AG w n0 og mb rg ZZ ds L2 X5 X6 (.slice (some ⟨g, 0, none⟩) N2 nc) nds k W1) := AG.of_mm HLO.out HX0.out (HX0.out.mm.step hbW1)
                    have HM1 : Hid _ := HX0.out.mm.step hbW1
                    have hbW1' := hbW1
                    have HQRW : Hid _ := rangeAt_row HRW.out
                    generalize qL q0 (.slice (some ⟨b, 0, none⟩) q0.data.length capb) = QL at *
                    have HW1 : Hid _ := hW1
                    clear hW1 hbW1
                    by_cases hk4 : q0.kind = 4
                    · rw [hk4] at hkw
                      clear hk4
                      go_wp2_with (first
                        | (refine wpList_load_mid rfl 39 _ rfl g (k * 67) rfl QL _ HR1.out Tryz.underlying39 rfl HQI.out ?_)
                        | (refine wpListZ_store rfl 39 _ _ rfl wo.heap.size QL.toArray rfl rfl 39 ZQ HZ7.out (info35b _ HQS.out) (HZQ.out.trans HQS.out.symm) HQ1.out ?_; intro W1' hW1'; rw [← HW1.out] at hW1'; subst hW1'))
                      clear hkw HKC HASK HRW HQRW HZ7 HW1 hbW1' HM1 HR1 HR2 HQI HQS HQ1
                      generalize q0.data = DT at *
                      have HIN : Hid (INN W1' b DT 0 W1') := INN.start (hbf_keep HBF.out (HGK.out W1' HA1.out).2)
                      go_loopw [18] (fun i X => ∃ j : Nat, j ≤ DT.length ∧ i = .int .i64 j ∧ INN W1' b DT j X) (fun i _ => DT.length - (intOf i).toNat)
                      case atStart => exact ⟨0, Nat.zero_le _, rfl, HIN.out⟩
                      case round =>
                        clear HIN
                        obtain ⟨j, hj, rfl, hI⟩ := hrel
                        have hdc := HDC.out wr ((hI.fr.block g (HGL.out W1' HA1.out) hgb).trans (HGK.out W1' HA1.out).1)
                        have HI : Hid _ := hI
                        by_cases hjl : j < DT.length
                        · have hjI : (j : Int) < (DT.length : Int) := by omega
                          obtain ⟨hcj, hfj⟩ := hI.cell hjl
                          clear hI
                          go_wp2
                          go_roundw
                          case rel => exact ⟨j + 1, by omega, by go_num, HI.out.set _⟩
                          case measure => simp [intOf]; omega
                        · have hje : j = DT.length := by omega
                          subst hje
                          have hjI : ¬ (DT.length : Int) < (DT.length : Int) := by omega
                          have HFIN : Hid _ := HNXT.out W1' wr HA1.out hI.fr
                          clear hI
                          go_wp2
                          go_roundw
                          case rel => exact ⟨k + 1, by omega, by go_num, HFIN.out⟩
                          case measure => simp [intOf]; omega
                    · have hk4' : (q0.kind != 4) = true := by simpa using hk4
                      have HK4 : Hid _ := hk4
                      clear hk4
                      go_wp2_with (first
                        | (refine wpList_load_mid rfl 39 (.tmp 101) rfl g (k * 67) rfl QL _ HR1.out Tryz.underlying39 rfl HQI.out ?_)
                        | (refine wpListZ_store rfl 39 _ _ rfl wo.heap.size QL.toArray rfl rfl 39 ZQ HZ7.out (info35b _ HQS.out) (HZQ.out.trans HQS.out.symm) HQ1.out ?_; intro W1' hW1'; rw [← HW1.out] at hW1'; subst hW1')
                        | (refine wpList_load_mid rfl 39 (.tmp 15) rfl wo.heap.size 0 rfl QL _ HQRW.out Tryz.underlying39 rfl HQI.out ?_)
                        | (go_at_call 13; fail))
                      refine Calls.mono (HASK.out W1' _ _ HK4.out (hbf_keep HBF.out (HGK.out W1' HA1.out).2).1 HM1.out) ?_
                      rintro e Y ⟨rfl, hMY⟩
                      have hAY := AG.of_mm HLO.out HX0.out hMY
                      unfold okV dV
                      have hb2 : Below Y.heap.size Y ((Y.alloc (.cells ZL.toArray 29 (0, 0))).setRow Y.heap.size (A0.map B8).toArray) := below_setRow ((Below.refl _ _).alloc (Nat.le_refl _) _) (Nat.le_refl _) _
                      have hb2d := hb2.drew
                      have HA2 : Hid _ := AG.of_mm HLO.out hAY (hAY.mm.step hb2d)
                      have HAS : Hid ((A0.map B8).toArray.size = 32) := by show _ = _; simpa using HA32.out
                      have HA1c : Hid _ := B8_onea A0
                      have hAq := fun W => neq_same W A0 HA32.out
                      have HAI : Hid _ := info32 (A0.map B8) (by simpa using HA32.out)
                      have HZ8 : Hid ((Y.alloc (.cells ZL.toArray 29 (0, 0))).heap[Y.heap.size]? = some (.cells ZL.toArray 29 (0, 0))) := heap_alloc_new _ _
                      have HSR : Hid (AnsR Y.heap.size g (k * 67 + 35) (A0.map B8) ((Y.alloc (.cells ZL.toArray 29 (0, 0))).setRow Y.heap.size (A0.map B8).toArray).drew) := ⟨rangeAt_row (by rw [heap_drew]; exact setRow_heap _ _ _ _ _ _ (heap_alloc_new _ _)), fun j v hv => (World.cell?_of_block (a := ⟨g, k * 67 + 35 + j, none⟩) (HGK.out _ HA2.out).1).trans (HR2.out j v hv)⟩
                      generalize A0.map B8 = AL at *
                      clear hMY hAY hb2 hb2d hkw HKC HASK HRW HQRW HZ7 HW1 hbW1' HM1 HR1 HR2 HQI HQS HQ1 HK4 HA1 hk4'
                      go_wp2_with (refine wpList_store_row rfl 29 _ _ rfl Y.heap.size AL.toArray rfl rfl 29 ZL.toArray HZ8.out (info32a _ HAS.out) (HZS.out.trans HAS.out.symm) HA1c.out ?_)
                      refine wp_region_held_drew (S := AnsR Y.heap.size g (k * 67 + 35) AL) (by kernel_rfl) HSR.out (fun hHeld => ?_)
                      clear HSR HZ8
                      generalize ((Y.alloc (.cells ZL.toArray 29 (0, 0))).setRow Y.heap.size AL.toArray).drew = W3 at *
                      refine wpAnyH_take (i := 0) (oi := { dst := some 112, op := Go.Op.move (Go.Operand.tmp 17), type := 48, pos := _, after := #[], guard := none }) (v := .int .i64 0) rfl (by kernel_rfl) (by kernel_rfl) (by kernel_rfl) (fun _ _ _ h => h) (Or.inl ⟨by rfl, fun w' hw' => ?_⟩) hHeld ?_
                      · first | (go_simp; done) | (go_simp; rfl)
                      try simp only [Act.put, List.setIfInBounds_toArray, List.set_cons_zero, List.set_cons_succ]
                      refine wpAnyH_take (i := 1) (oi := { dst := some 113, op := Go.Op.binOp Go.BinOp.neq 48 (Go.Operand.tmp 112) (Go.Operand.const (Go.Value.int Go.IntKind.i64 0)) 48, type := 4, pos := _, after := #[{ on := 0, ground := Go.Ground.data }], guard := none }) (v := .bool false) rfl (by kernel_rfl) (by kernel_rfl) (by kernel_rfl) (fun _ _ _ h => h) (Or.inl ⟨by rfl, fun w' hw' => ?_⟩) hHeld ?_
                      · first | (go_simp; done) | (go_simp; rfl)
                      try simp only [Act.put, List.setIfInBounds_toArray, List.set_cons_zero, List.set_cons_succ]
                      refine wpAnyH_take (i := 2) (oi := { dst := some 114, op := Go.Op.move (Go.Operand.tmp 113), type := 4, pos := _, after := #[{ on := 1, ground := Go.Ground.data }], guard := none }) (v := .bool false) rfl (by kernel_rfl) (by kernel_rfl) (by kernel_rfl) (fun _ _ _ h => h) (Or.inl ⟨by rfl, fun w' hw' => ?_⟩) hHeld ?_
                      · first | (go_simp; done) | (go_simp; rfl)
                      try simp only [Act.put, List.setIfInBounds_toArray, List.set_cons_zero, List.set_cons_succ]
                      refine wpAnyH_take (i := 3) (oi := { dst := some 115, op := Go.Op.load 29 (Go.Operand.tmp 16), type := 29, pos := _, after := #[{ on := 2, ground := Go.Ground.guard }], guard := some (2, false) }) rfl (by kernel_rfl) (by kernel_rfl) (by kernel_rfl) (fun _ _ _ h => h) (yieldsIf_load_mid (by rfl) 29 (.tmp 16) rfl (Y.heap.size) (0) rfl (AL) _ (fun _ h => h.x) Tryz.underlying29 rfl HAI.out) hHeld ?_
                      try simp only [Act.put, List.setIfInBounds_toArray, List.set_cons_zero, List.set_cons_succ]
                      refine wpAnyH_take (i := 4) (oi := { dst := some 116, op := Go.Op.move (Go.Operand.tmp 13), type := 31, pos := _, after := #[{ on := 2, ground := Go.Ground.guard }], guard := some (2, false) }) (v := .slice (some ⟨g, 0, none⟩) N2 nc) rfl (by kernel_rfl) (by kernel_rfl) (by kernel_rfl) (fun _ _ _ h => h) (Or.inl ⟨by rfl, fun w' hw' => ?_⟩) hHeld ?_
                      · first | (go_simp; done) | (go_simp; rfl)
                      try simp only [Act.put, List.setIfInBounds_toArray, List.set_cons_zero, List.set_cons_succ]
                      refine wpAnyH_take (i := 5) (oi := { dst := some 117, op := Go.Op.move (Go.Operand.tmp 14), type := 3, pos := _, after := #[{ on := 2, ground := Go.Ground.guard }], guard := some (2, false) }) (v := .int .i64 (k : Int)) rfl (by kernel_rfl) (by kernel_rfl) (by kernel_rfl) (fun _ _ _ h => h) (Or.inl ⟨by rfl, fun w' hw' => ?_⟩) hHeld ?_
                      · first | (go_simp; done) | (go_simp; rfl)
                      try simp only [Act.put, List.setIfInBounds_toArray, List.set_cons_zero, List.set_cons_succ]
                      refine wpAnyH_take (i := 6) (oi := { dst := some 118, op := Go.Op.indexAddr 31 (Go.Operand.tmp 116) (Go.Operand.tmp 117), type := 0, pos := _, after := #[{ on := 4, ground := Go.Ground.data }, { on := 5, ground := Go.Ground.data }, { on := 2, ground := Go.Ground.guard }], guard := some (2, false) }) (v := .pointer (some ⟨g, k * 67, none⟩)) rfl (by kernel_rfl) (by kernel_rfl) (by kernel_rfl) (fun _ _ _ h => h) (Or.inl ⟨by rfl, fun w' hw' => ?_⟩) hHeld ?_
                      · first | (go_simp; done) | (go_simp; rfl) | (go_simp; intro hbad; omega)
                      try simp only [Act.put, List.setIfInBounds_toArray, List.set_cons_zero, List.set_cons_succ]
                      refine wpAnyH_take (i := 7) (oi := { dst := some 119, op := Go.Op.fieldAddr 47 (Go.Operand.tmp 118) 1, type := 0, pos := _, after := #[{ on := 6, ground := Go.Ground.data }, { on := 2, ground := Go.Ground.guard }], guard := some (2, false) }) (v := .pointer (some ⟨g, k * 67 + 35, none⟩)) rfl (by kernel_rfl) (by kernel_rfl) (by kernel_rfl) (fun _ _ _ h => h) (Or.inl ⟨by rfl, fun w' hw' => ?_⟩) hHeld ?_
                      · first | (go_simp; done) | (go_simp; rfl)
                      try simp only [Act.put, List.setIfInBounds_toArray, List.set_cons_zero, List.set_cons_succ]
                      refine wpAnyH_take (i := 8) (oi := { dst := some 120, op := Go.Op.load 29 (Go.Operand.tmp 119), type := 29, pos := _, after := #[{ on := 7, ground := Go.Ground.data }, { on := 2, ground := Go.Ground.guard }], guard := some (2, false) }) rfl (by kernel_rfl) (by kernel_rfl) (by kernel_rfl) (fun _ _ _ h => h) (yieldsIf_load_mid (by rfl) 29 (.tmp 119) rfl (g) (k * 67 + 35) rfl (AL) _ (fun _ h => h.a) Tryz.underlying29 rfl HAI.out) hHeld ?_
                      try simp only [Act.put, List.setIfInBounds_toArray, List.set_cons_zero, List.set_cons_succ]
                      refine wpAnyH_take (i := 9) (oi := { dst := some 121, op := Go.Op.binOp Go.BinOp.neq 29 (Go.Operand.tmp 115) (Go.Operand.tmp 120) 29, type := 4, pos := _, after := #[{ on := 3, ground := Go.Ground.data }, { on := 8, ground := Go.Ground.data }, { on := 2, ground := Go.Ground.guard }], guard := some (2, false) }) (v := .bool false) rfl (by kernel_rfl) (by kernel_rfl) (by kernel_rfl) (fun _ _ _ h => h) (Or.inl ⟨by rfl, fun w' hw' => ?_⟩) hHeld ?_
                      · have hqq := hAq w'; first | (go_simp; done) | (go_simp; rfl)
                      try simp only [Act.put, List.setIfInBounds_toArray, List.set_cons_zero, List.set_cons_succ]
                      refine wpAnyH_take (i := 10) (oi := { dst := some 122, op := Go.Op.pick (Go.Operand.tmp 114) (Go.Operand.const (Go.Value.bool true)) (Go.Operand.tmp 121), type := 4, pos := _, after := #[{ on := 2, ground := Go.Ground.data }, { on := 9, ground := Go.Ground.data }], guard := none }) (v := .bool false) rfl (by kernel_rfl) (by kernel_rfl) (by kernel_rfl) (fun _ _ _ h => h) (Or.inl ⟨by rfl, fun w' hw' => ?_⟩) hHeld ?_
                      · first | (go_simp; done) | (go_simp; rfl)
                      try simp only [Act.put, List.setIfInBounds_toArray, List.set_cons_zero, List.set_cons_succ]
                      refine wpAnyH_done (by kernel_rfl) ?_ _
                      clear hHeld HAS HA1c hAq HAI
                      generalize q0.data = DT at *
                      go_wp2
                      have HIN : Hid (INN W3 b DT 0 W3) := INN.start (hbf_keep HBF.out (HGK.out W3 HA2.out).2)
                      go_loopw [18] (fun i X => ∃ j : Nat, j ≤ DT.length ∧ i = .int .i64 j ∧ INN W3 b DT j X) (fun i _ => DT.length - (intOf i).toNat)
                      case atStart => exact ⟨0, Nat.zero_le _, rfl, HIN.out⟩
                      case round =>
                        clear HIN
                        obtain ⟨j, hj, rfl, hI⟩ := hrel
                        have hdc := HDC.out wr ((hI.fr.block g (HGL.out W3 HA2.out) hgb).trans (HGK.out W3 HA2.out).1)
                        have HI : Hid _ := hI
                        by_cases hjl : j < DT.length
                        · have hjI : (j : Int) < (DT.length : Int) := by omega
                          obtain ⟨hcj, hfj⟩ := hI.cell hjl
                          clear hI
                          go_wp2
                          go_roundw
                          case rel => exact ⟨j + 1, by omega, by go_num, HI.out.set _⟩
                          case measure => simp [intOf]; omega
                        · have hje : j = DT.length := by omega
                          subst hje
                          have hjI : ¬ (DT.length : Int) < (DT.length : Int) := by omega
                          have HFIN : Hid _ := HNXT.out W3 wr HA2.out hI.fr
                          clear hI
                          go_wp2
                          go_roundw
                          case rel => exact ⟨k + 1, by omega, by go_num, HFIN.out⟩
                          case measure => simp [intOf]; omega
                  · have hke : k = N2 := by omega
                    subst hke
                    have hkI : ¬ (k : Int) < (k : Int) := by omega
                    obtain ⟨lv, hc35, hlr, hrgl⟩ := HA.out.mm.rlog
                    obtain ⟨lp, lc, hlv, _⟩ := id hlr
                    obtain ⟨N3, hN3⟩ : ∃ j, j = L2.length := ⟨_, rfl⟩
                    rw [← hN3] at hlv
                    subst hlv
                    have hbd : Below wo.heap.size wo wo.drew := (Below.refl _ _).drew
                    have HLR : Hid _ := hlr_below hlr hbd
                    have HMD : Hid _ := HA.out.mm.step hbd
                    have HS0 : Hid (wo.drew.cell? ⟨rg, 35, none⟩ = some (.slice lp N3 lc)) := hc35
                    have HRG : Hid _ := hrgl
                    clear hlr hc35 hbd hrgl hN3 HA
                    go_wp2
                    refine wp_region_held_drew (S := fun W => W.cell? ⟨rg, 35, none⟩ = some (.slice lp N3 lc)) (by kernel_rfl) HS0.out (fun hHeld => ?_)
                    generalize wo.drew = W at *
                    refine wpAnyH_take (i := 0) (oi := { dst := some 145, op := Go.Op.move (Go.Operand.tmp 7), type := 26, pos := _, after := #[], guard := none }) (v := .pointer (some ⟨og, 0, none⟩)) rfl (by kernel_rfl) (by kernel_rfl) (by kernel_rfl) (fun _ _ _ h => h) (Or.inl ⟨by rfl, fun w' hw' => ?_⟩) hHeld ?_
                    · first | (go_simp; done) | (go_simp; rfl)
                    try simp only [Act.put, List.setIfInBounds_toArray, List.set_cons_zero, List.set_cons_succ]
                    refine wpAnyH_take (i := 2) (oi := { dst := some 147, op := Go.Op.move (Go.Operand.tmp 8), type := 30, pos := _, after := #[], guard := none }) (v := .pointer (some ⟨rg, 0, none⟩)) rfl (by kernel_rfl) (by kernel_rfl) (by kernel_rfl) (fun _ _ _ h => h) (Or.inl ⟨by rfl, fun w' hw' => ?_⟩) hHeld ?_
                    · first | (go_simp; done) | (go_simp; rfl)
                    try simp only [Act.put, List.setIfInBounds_toArray, List.set_cons_zero, List.set_cons_succ]
                    refine wpAnyH_take (i := 3) (oi := { dst := some 148, op := Go.Op.nilCheck (Go.Operand.tmp 147), type := 0, pos := _, after := #[{ on := 2, ground := Go.Ground.data }], guard := none }) (v := .pointer (some ⟨rg, 0, none⟩)) rfl (by kernel_rfl) (by kernel_rfl) (by kernel_rfl) (fun _ _ _ h => h) (Or.inl ⟨by rfl, fun w' hw' => ?_⟩) hHeld ?_
                    · first | (go_simp; done) | (go_simp; rfl)
                    try simp only [Act.put, List.setIfInBounds_toArray, List.set_cons_zero, List.set_cons_succ]
                    refine wpAnyH_take (i := 4) (oi := { dst := some 149, op := Go.Op.fieldAddr 33 (Go.Operand.tmp 148) 4, type := 0, pos := _, after := #[{ on := 3, ground := Go.Ground.data }], guard := none }) (v := .pointer (some ⟨rg, 35, none⟩)) rfl (by kernel_rfl) (by kernel_rfl) (by kernel_rfl) (fun _ _ _ h => h) (Or.inl ⟨by rfl, fun w' hw' => ?_⟩) hHeld ?_
                    · first | (go_simp; done) | (go_simp; rfl)
                    try simp only [Act.put, List.setIfInBounds_toArray, List.set_cons_zero, List.set_cons_succ]
                    refine wpAnyH_take (i := 5) (oi := { dst := some 150, op := Go.Op.load 31 (Go.Operand.tmp 149), type := 31, pos := _, after := #[{ on := 4, ground := Go.Ground.data }], guard := none }) (v := .slice lp N3 lc) rfl (by kernel_rfl) (by kernel_rfl) (by kernel_rfl) (fun _ _ _ h => h) (Or.inl ⟨by rfl, fun w' hw' => ?_⟩) hHeld ?_
                    · first | (go_simp; done) | (go_simp; rfl)
                    try simp only [Act.put, List.setIfInBounds_toArray, List.set_cons_zero, List.set_cons_succ]
                    refine wpAnyH_ready (rs := [1]) (by kernel_rfl) (by simp) ?_
                    refine AllReadyH.cons (o := { dst := some 146, op := Go.Op.call { callee := Go.Callee.value (Go.Operand.func 10), args := #[Go.Operand.tmp 145], argTypes := #[26] }, type := 31, pos := _, after := #[{ on := 0, ground := Go.Ground.data }], guard := none }) rfl (fun K hK => ?_) AllReadyH.nil
                    rw [if_pos (by rfl)]
                    go_wp2_with fail
                    refine Calls.mono (HMD.out.log (by omega)) ?_
                    rintro e U1 ⟨ov, ods, rfl, hlo, hb1⟩
                    have hH1 : U1.cell? ⟨rg, 35, none⟩ = some (.slice lp N3 lc) := (hb1.cell (block_lt hHeld)).trans hHeld
                    have HM1 : Hid _ := HMD.out.step hb1
                    have HSL : Hid (Calls Tryz.prog 12 #[ov, .slice lp N3 lc] U1 fun e w' => e = .returned (.bool true) ∧ Below U1.heap.size U1 w') := by
                      have h := sameLog_any ov (.slice lp N3 lc) L2 L2 U1 (by omega) (by omega) (hlr_of hlo.hlg) (hlr_below HLR.out hb1)
                      rw [decide_eq_true (rfl : L2 = L2)] at h
                      exact h
                    clear hlo hb1 HMD HLR
                    refine hK.out _ _ hH1 (fun _ => ?_)
                    clear hK K
                    try simp only [Act.put, List.setIfInBounds_toArray, List.set_cons_zero, List.set_cons_succ]
                    clear hHeld
                    have hHeld := hH1
                    refine wpAnyH_ready (rs := [6]) (by kernel_rfl) (by simp) ?_
                    refine AllReadyH.cons (o := { dst := some 151, op := Go.Op.call { callee := Go.Callee.value (Go.Operand.func 12), args := #[Go.Operand.tmp 146, Go.Operand.tmp 150], argTypes := #[31, 31] }, type := 4, pos := _, after := #[{ on := 1, ground := Go.Ground.data }, { on := 5, ground := Go.Ground.data }, { on := 1, ground := Go.Ground.chain }], guard := none }) rfl (fun K hK => ?_) AllReadyH.nil
                    rw [if_pos (by rfl)]
                    go_wp2_with fail
                    refine Calls.mono HSL.out ?_
                    rintro e U2 ⟨rfl, hb2⟩
                    have hH2 : U2.cell? ⟨rg, 35, none⟩ = some (.slice lp N3 lc) := (hb2.cell (block_lt hHeld)).trans hHeld
                    have HM2 : Hid _ := HM1.out.step hb2
                    clear hb2 HSL
                    refine hK.out _ _ hH2 (fun _ => ?_)
                    clear hK K
                    try simp only [Act.put, List.setIfInBounds_toArray, List.set_cons_zero, List.set_cons_succ]
                    clear hHeld hH1
                    have hHeld := hH2
                    refine wpAnyH_take (i := 7) (oi := { dst := some 152, op := Go.Op.move (Go.Operand.tmp 151), type := 4, pos := _, after := #[{ on := 6, ground := Go.Ground.data }, { on := 6, ground := Go.Ground.chain }], guard := none }) (v := .bool true) rfl (by kernel_rfl) (by kernel_rfl) (by kernel_rfl) (fun _ _ _ h => h) (Or.inl ⟨by rfl, fun w' hw' => ?_⟩) hHeld ?_
                    · first | (go_simp; done) | (go_simp; rfl)
                    try simp only [Act.put, List.setIfInBounds_toArray, List.set_cons_zero, List.set_cons_succ]
                    refine wpAnyH_ready (rs := [8]) (by kernel_rfl) (by simp) ?_
                    refine AllReadyH.cons (o := { dst := some 153, op := Go.Op.call { callee := Go.Callee.value (Go.Operand.func 6), args := #[], argTypes := #[] }, type := 4, pos := _, after := #[{ on := 7, ground := Go.Ground.chain }, { on := 7, ground := Go.Ground.guard }], guard := some (7, true) }) rfl (fun K hK => ?_) AllReadyH.nil
                    rw [if_pos (by rfl)]
                    go_wp2_with fail
                    refine (known_any _).mono ?_
                    rintro e U3 ⟨rfl, hb3⟩
                    have hH3 : U3.cell? ⟨rg, 35, none⟩ = some (.slice lp N3 lc) := (hb3.cell (block_lt hHeld)).trans hHeld
                    have HM3 : Hid _ := (HM2.out.step hb3).bel
                    clear hb3
                    refine hK.out _ _ hH3 (fun _ => ?_)
                    clear hK K
                    try simp only [Act.put, List.setIfInBounds_toArray, List.set_cons_zero, List.set_cons_succ]
                    clear hHeld hH2
                    have hHeld := hH3
                    refine wpAnyH_take (i := 9) (oi := { dst := some 154, op := Go.Op.pick (Go.Operand.tmp 152) (Go.Operand.tmp 153) (Go.Operand.const (Go.Value.bool false)), type := 4, pos := _, after := #[{ on := 7, ground := Go.Ground.data }, { on := 8, ground := Go.Ground.data }], guard := none }) (v := .bool true) rfl (by kernel_rfl) (by kernel_rfl) (by kernel_rfl) (fun _ _ _ h => h) (Or.inl ⟨by rfl, fun w' hw' => ?_⟩) hHeld ?_
                    · first | (go_simp; done) | (go_simp; rfl)
                    try simp only [Act.put, List.setIfInBounds_toArray, List.set_cons_zero, List.set_cons_succ]
                    refine wpAnyH_ready (rs := [10]) (by kernel_rfl) (by simp) ?_
                    refine AllReadyH.cons (o := { dst := some 6, op := Go.Op.assign (Go.Operand.tmp 154), type := 4, pos := _, after := #[{ on := 9, ground := Go.Ground.data }, { on := 8, ground := Go.Ground.chain }, { on := 0, ground := Go.Ground.phase }, { on := 1, ground := Go.Ground.phase }, { on := 2, ground := Go.Ground.phase }, { on := 3, ground := Go.Ground.phase }, { on := 4, ground := Go.Ground.phase }, { on := 5, ground := Go.Ground.phase }, { on := 6, ground := Go.Ground.phase }, { on := 7, ground := Go.Ground.phase }, { on := 8, ground := Go.Ground.phase }, { on := 9, ground := Go.Ground.phase }], guard := none }) rfl (fun K hK => ?_) AllReadyH.nil
                    rw [if_pos (by rfl)]
                    go_wp2_with fail
                    refine hK.out _ _ hH3 (fun _ => ?_)
                    clear hK K
                    try simp only [Act.put, List.setIfInBounds_toArray, List.set_cons_zero, List.set_cons_succ]
                    refine wpAnyH_done (by kernel_rfl) ?_ _
                    clear hHeld hH3
                    go_wp2
                    go_ret
                    exact ⟨rfl, HM3.out⟩
end Go.Proofs.YtefhjjjjbkkedaaGreat.R5.oracleAgain
