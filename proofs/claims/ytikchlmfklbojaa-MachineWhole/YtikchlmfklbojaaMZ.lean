/- MachineWhole: the walk. -/
import Derived.Test.YtikchlmfklbojaaMY
set_option linter.unusedVariables false
set_option linter.unusedSimpArgs false
namespace Go.Proofs.Ytikchlmfklbojaa.MC
open Go.RowKit

set_option maxHeartbeats 8000000 in
set_option maxRecDepth 100000 in
theorem whole_walk (n : Nat) (v1 v2 : Value) (ls ms : List Ac) (w : World) (h1 : 1 ≤ n) (h2 : n ≤ 64) (hl1 : ls.length ≤ 40) (hl2 : ms.length ≤ 40) (hA1 : HAc w v1 ls) (hA2 : HAc w v2 ms) :
    Calls Try.prog 4 #[.int .i64 (n : Int), v1, v2] w fun e w' => e = .returned (.bool true) ∧ Below w.heap.size w w' := by
  obtain ⟨p1, c1, rfl, hls⟩ := hA1
  obtain ⟨p2, c2, rfl, hms⟩ := hA2
  have HLS : Hid _ := hls
  have HMS : Hid _ := hms
  obtain ⟨V0, hV0⟩ : ∃ V0, V0 = (w.alloc (.cells #[.int .i64 (n : Int)] 3 (0, 0))).alloc (.cells #[.bool false] 4 (0, 0)) := ⟨_, rfl⟩
  have HC0 : Hid (C6 w V0 n false) := by
    show C6 _ _ _ _
    rw [hV0]
    exact ⟨((Below.refl _ w).alloc (Nat.le_refl _) _).alloc (by simp) _, alloc2_first _ _ _, heap_at _ _ _ (by simp)⟩
  have hs0 : V0.heap.size = w.heap.size + 2 := by rw [hV0]; simp
  obtain ⟨hg0, _, _⟩ := HC0.out.facts
  have HNW : Hid (Calls Try.prog 9 #[.int .i64 (n : Int)] V0 fun e w' => NewEnd V0 n e w') := new_ok n V0 (by omega) (by omega)
  have HNR : Hid (∀ W, Calls Try.prog 10 #[.int .i64 (n : Int)] W fun e w' => RNewEnd W n e w') := fun W => rnew_ok n W (by omega) (by omega)
  clear hls hms
  rw [hV0] at hg0
  refine calls_marks Try.func4 rfl ?_
  simp only [Try.ntmps4, List.size_toArray, List.length_cons, List.length_nil, Nat.reduceAdd, Nat.reduceSub, Array.replicate_succ, Array.replicate_zero, List.push_toArray, List.append_toArray, List.nil_append, List.cons_append]
  go_wp2_with fail
  rw [← hV0] at ⊢
  clear hV0 hg0
  refine Calls.mono HNW.out ?_
  rintro e W1 ⟨mb, gb, rfl, hP, hmb, hgb, hb1⟩
  have HC1 : Hid _ := HC0.out.step hb1
  have HP : Hid _ := hP
  have hs1 := hb1.size
  obtain ⟨hg1, _, _⟩ := HC1.out.facts
  have HNR1 : Hid _ := HNR.out W1
  clear HNW HNR hP hb1
  go_wp2_with fail
  refine Calls.mono HNR1.out ?_
  rintro e W2 ⟨rb, bb, rfl, hR, hrb, hbb, hb2⟩
  have HC2 : Hid _ := HC1.out.step hb2
  have HJ0 : Hid (JM (w.heap.size + 2) W2 mb gb rb bb n (runB n (List.replicate (128 * n) 0) ls 0)) := by
    have hg := row_lt HP.out.row
    have hm := row_lt HP.out.head
    have hs2 := hb2.size
    exact ⟨HP.out.below hb2, hR, by omega, by omega, by omega, by omega, by omega, by omega⟩
  clear hR hb2 hg1 HNR1 HP HC1 HC0 hmb hgb hrb hbb
  go_wp2
  go_loopw [10] (fun i wr => ∃ k : Nat, k ≤ ls.length ∧ i = .int .i64 k ∧ JM (w.heap.size + 2) wr mb gb rb bb n (runB n (List.replicate (128 * n) 0) ls k) ∧ C6 w wr n false) (fun i _ => ls.length - (intOf i).toNat)
  case atStart => exact ⟨0, Nat.zero_le _, rfl, HJ0.out, HC2.out⟩
  case round =>
    clear HJ0 HC2
    obtain ⟨k, hk, rfl, hJ, hC⟩ := hrel
    generalize wr = W at *
    have HJ : Hid _ := hJ
    have HC : Hid _ := hC
    clear hJ hC
    by_cases hlt : k < ls.length
    · have hkI : (k : Int) < (ls.length : Int) := by omega
      -- one act: ls the list, (List.replicate (128 * n) 0) the bytes at the start, HLS what is known besides (a line)
      obtain ⟨ac, hac⟩ : ∃ ac, ls[k]? = some ac := ⟨_, List.getElem?_eq_getElem hlt⟩
      obtain ⟨ag, ao, dv, rfl, hra, hok, hbd⟩ := HLS.out k ac hac
      obtain ⟨pd, cd, rfl, _⟩ := hb_any hbd
      have hra2 := rangeAt_below hra HC.out.bel
      have hc4 : W.cell? ⟨ag, ao + k * 5 + 4, none⟩ = some (.slice pd ac.bytes.length cd) := hra2 4 _ rfl
      by_cases hbig : 1000 < ac.bytes.length
      · have hbI : (1000 : Int) < (ac.bytes.length : Int) := by omega
        clear hra hra2 hok hbd hac
        -- the answer is known's: HC what is known of the cells at the world where the walk stands
        go_wp2_with fail
        refine Calls.mono (known_any _) ?_
        rintro e wk ⟨rfl, hbk⟩
        have hc6 := HC.out.step hbk
        have HC5 : Hid _ := hc6.set true
        obtain ⟨_, hk1, hk2⟩ := hc6.facts
        clear hc6 hbk
        go_wp2
        refine marks_ret (v := .bool true) [] _ (by simp) (by simp) (fun w' h1 h2 h3 h4 h5 => ⟨results_bool Try.results4 _ _ (w.heap.size + 1) true rfl (by rw [cell_of_row _ _ 0 _ _ _ ((h5 _ (by simp)).trans HC5.out.rc)]; rfl), rfl, ⟨h2.trans HC5.out.bel.os, h3.trans HC5.out.bel.tape, h4.trans HC5.out.bel.output, by rw [h1]; exact HC5.out.bel.size, fun k hk => (h5 k (by simp)).trans (HC5.out.bel.block k hk)⟩⟩)
      · skip
        have hbI : ¬ (1000 : Int) < (ac.bytes.length : Int) := by omega
        have hdo := do_any (w.heap.size + 2) mb gb rb bb n (runB n (List.replicate (128 * n) 0) ls k) ac (.slice pd ac.bytes.length cd) W HJ.out hok (fun X hX => hbd.below (HC.out.bel.trans (hX.mono (by omega))))
        rw [← runB_succ n (List.replicate (128 * n) 0) ls k ac hac] at hdo
        have HDO : Hid _ := hdo
        obtain ⟨AL, hAL⟩ : ∃ L, L = acL ac (.slice pd ac.bytes.length cd) := ⟨_, rfl⟩
        rw [← hAL] at hra2 HDO
        have HRA : Hid _ := hra2
        have HAI : Hid _ := info5 AL (by rw [hAL]; rfl)
        clear hra hra2 hok hbd hac hAL hdo
        go_wp2_with (refine wpList_load_mid rfl 34 _ rfl ag (ao + k * 5) rfl AL _ HRA.out Try.underlying34 rfl HAI.out ?_)
        refine Calls.mono HDO.out ?_
        rintro e W2 ⟨rfl, hJ2, hK2⟩
        have HC2 : Hid _ := HC.out.ks hK2 HJ.out.ge
        have HJ2 : Hid _ := hJ2
        clear hJ2 hK2 HDO HRA HAI
        go_wp2
        go_roundw
        case rel => exact ⟨k + 1, by omega, by go_num, HJ2.out, HC2.out⟩
        case measure => simp [intOf]; omega
    · have hke : k = ls.length := by omega
      subst hke
      clear hk hlt HLS
      generalize runB n (List.replicate (128 * n) 0) ls ls.length = L at *
      obtain ⟨S0, hS0⟩ : ∃ S, S = W.heap.size := ⟨_, rfl⟩
      have HLT : Hid (∀ j, SJ gb bb j → j < S0) := by rw [hS0]; exact HJ.out.lts
      have HGE : Hid (∀ j, SJ gb bb j → w.heap.size + 2 ≤ j) := HJ.out.ge
      have hS0w : w.heap.size + 2 ≤ S0 := by rw [hS0]; exact HJ.out.low
      have HCP : Hid _ := copy_ok mb gb n n L W HJ.out.pm.pr
      go_wp2_with fail
      refine Calls.mono HCP.out ?_
      rintro e W3 ⟨mc, cp1, k1, rfl, hpr, hmc, hcp1, hb3⟩
      have HJ3 : Hid _ := HJ.out.below hb3
      have HC3 : Hid _ := HC.out.step hb3
      have HPR3 : Hid _ := hpr
      have HWO : Hid _ := whole_ok mb gb n n L W3 HJ3.out.pm.pr
      have hs3 := hb3.size
      clear hb3 hpr HJ HC HCP
      go_wp2_with fail
      refine Calls.mono HWO.out ?_
      rintro e W4 ⟨fb, cp2, k2, rfl, hwh, hfb, hcp2, hb4⟩
      have HJ4 : Hid _ := HJ3.out.below hb4
      have HC4 : Hid _ := HC3.out.step hb4
      have HPR4 : Hid _ := HPR3.out.below hb4
      have HWH4 : Hid _ := hwh
      have hs4 := hb4.size
      clear hb4 hwh HJ3 HC3 HPR3 HWO
      obtain ⟨N, hN⟩ : ∃ N, N = 128 * n := ⟨_, rfl⟩
      have HN : Hid _ := hN
      have hN2 : N ≤ 8192 := by omega
      have hcR : W4.cell? ⟨rb, 0, none⟩ = some (.slice (some ⟨bb, 0, none⟩) N N) := by rw [hN]; exact HJ4.out.rm.cell
      obtain ⟨i0, hi, hz0, hz1, hz2⟩ := info_parts Try.infoU8
      obtain ⟨XS, hXS⟩ : ∃ XS, XS = L.map B8 := ⟨_, rfl⟩
      have HXL : Hid (XS.length = N * 1) := by show _ = _; rw [hXS, List.length_map, HJ4.out.rm.len, hN]; omega
      have HO1 : Hid (∀ u ∈ XS, u.oneCell' = true) := by rw [hXS]; exact B8_one _
      have HNW : Hid (∀ j u, XS[j]? = some u → W4.cell? ((⟨bb, 0, none⟩ : Addr).add j) = some u) := fun j u hu => by
        rw [add_none]; rw [hXS] at hu; exact HJ4.out.rm.rr.row j u hu
      have HAP : Hid (∀ v1 w1, w1.ownsRow W4.heap.size 5 1 v1 (0 + N) ([] ++ XS) → W4.grownBy w1 (Value.slice none 0 0).ownBlock → ∃ wb kw, v1 = .slice (some ⟨wb, 0, none⟩) N kw ∧ Hid (w1.rangeAt wb 0 (L.map B8)) ∧ W4.heap.size ≤ wb ∧ N ≤ kw ∧ kw ≤ maxLen ∧ Hid (Below W4.heap.size W4 w1)) := fun v1 w1 ho hg => by
        rw [List.nil_append, Nat.zero_add] at ho
        have hb : Below W4.heap.size W4 w1 := (Below.refl _ _).grown hg (Nat.le_refl _) (fun k e => by simp [Value.ownBlock] at e)
        rcases ho.2 with ⟨e1, e2⟩ | ⟨g, cp, cur, rfl, e2, e3, e4, e5, e6, e7⟩
        · omega
        · refine ⟨g, cp, rfl, fun j u hu => ?_, e2, e4, e5, hb⟩
          rw [Nat.zero_add, cell_of_row _ _ _ _ _ _ e3, ← Array.getElem?_toList]
          rw [← hXS] at hu
          have hj : j < N * 1 := by rw [← HXL.out]; exact (List.getElem?_eq_some_iff.1 hu).1
          rw [← e7, List.getElem?_take_of_lt hj] at hu
          exact hu
      have HOE : Hid (W4.ownsRow W4.heap.size 5 1 (.slice none 0 0) 0 []) := World.ownsRow_nil _ _ _ _
      have HSZ : Hid _ := hS0
      have hN1 : 1 ≤ N := by omega
      have heqf := fun W b => eq_nilf W b
      clear hXS hN hS0
      go_wp2_with (first | (at_builtin; refine wpList_append_own _ rfl _ (.tmp 73) 32 rfl W4.heap.size 5 i0 (.int .u8 0) 1 1 Try.underlying32 hi hz0 hz1 hz2 rfl (by decide) (.slice none 0 0) 0 [] rfl HOE.out ⟨bb, 0, none⟩ N N XS rfl HXL.out HNW.out HO1.out (by unfold maxLen; omega) (by omega) (by simp) ?_; intro v1 w1 hown1 hgr1 hn1; obtain ⟨wb, kw, rfl, HRW, hwb, hkw, hkm, HBW⟩ := HAP.out v1 w1 hown1 hgr1; clear hown1 hgr1 HAP hn1) | fail)
      obtain ⟨W5, hW5⟩ : ∃ W5, W5 = w1.alloc (.cells #[.slice (some ⟨wb, 0, none⟩) N kw] 43 (0, 0)) := ⟨_, rfl⟩
      have hb5 : Below W4.heap.size W4 W5 := by rw [hW5]; exact HBW.out.alloc HBW.out.size _
      have hs5 := hb5.size
      have hsw := HBW.out.size
      have HJ5 : Hid _ := HJ4.out.below hb5
      have HC5 : Hid _ := HC4.out.step hb5
      have HEX5 : Hid (EX W5 S0 mc cp1 k1 fb cp2 k2 w1.heap.size wb kw n L) := by
        have h0 := HSZ.out
        refine ⟨HPR4.out.below hb5, HWH4.out.below hb5, ⟨?_, ?_, HJ4.out.rm.len, HJ4.out.rm.pos, HJ4.out.rm.le, by rw [← HN.out]; exact hkw⟩, by omega, by omega, by omega, by omega, by omega, by omega⟩
        · rw [hW5, cell_of_row _ _ 0 _ _ _ (heap_alloc_new _ _), HN.out]; rfl
        · rw [hW5]; exact rangeAt_below HRW.out ((Below.refl _ _).alloc (Nat.le_refl _) _)
      rw [← hW5]
      generalize w1.heap.size = ws at *
      have HSM : Hid (∀ X, EX X S0 mc cp1 k1 fb cp2 k2 ws wb kw n L → JM (w.heap.size + 2) X mb gb rb bb n L → Calls Try.prog 21 #[.pointer (some ⟨mc, 0, none⟩), .pointer (some ⟨mb, 0, none⟩)] X fun e w' => e = .returned (.bool true) ∧ Below X.heap.size X w') := fun X hE hJ => by
        have := same_ok mc cp1 k1 mb gb n n L L X hE.pr hJ.pm.pr
        rw [show (L == L) = true by simp] at this
        exact this
      have HSM2 : Hid (∀ X, JM (w.heap.size + 2) X mb gb rb bb n L → Calls Try.prog 21 #[.pointer (some ⟨mb, 0, none⟩), .pointer (some ⟨mb, 0, none⟩)] X fun e w' => e = .returned (.bool true) ∧ Below X.heap.size X w') := fun X hJ => by
        have := same_ok mb gb n mb gb n n L L X hJ.pm.pr hJ.pm.pr
        rw [show (L == L) = true by simp] at this
        exact this
      clear hW5 hb5 HRW HBW hcR HNW HO1 HXL HOE HJ4 HC4 HPR4 HWH4 hi hz0 hz1 hz2 hmc hcp1 hs3 hfb hcp2 hs4 hwb hs5 hsw HSZ
      refine Calls.mono (HSM.out W5 HEX5.out HJ5.out) ?_
      rintro e W6 ⟨rfl, hb6⟩
      have HJ6 : Hid _ := HJ5.out.below hb6
      have HC6 : Hid _ := HC5.out.step hb6
      have HEX6 : Hid _ := HEX5.out.below hb6
      clear hb6 HJ5 HC5 HEX5 HSM
      go_wp2_with fail
      refine Calls.mono (HSM2.out W6 HJ6.out) ?_
      rintro e W7 ⟨rfl, hb7⟩
      have HJ7 : Hid (JM (w.heap.size + 2) W7 mb gb rb bb n (runB n L ms 0)) := HJ6.out.below hb7
      have HC7 : Hid _ := HC6.out.step hb7
      have HEX7 : Hid _ := HEX6.out.below hb7
      clear hb7 HJ6 HC6 HEX6 HSM2 heqf
      go_wp2
      go_loopw [14] (fun i wr => ∃ k : Nat, k ≤ ms.length ∧ i = .int .i64 k ∧ JM (w.heap.size + 2) wr mb gb rb bb n (runB n L ms k) ∧ C6 w wr n false ∧ EX wr S0 mc cp1 k1 fb cp2 k2 ws wb kw n L) (fun i _ => ms.length - (intOf i).toNat)
      case atStart => exact ⟨0, Nat.zero_le _, rfl, HJ7.out, HC7.out, HEX7.out⟩
      case round =>
        clear HJ7 HC7 HEX7
        obtain ⟨k, hk, rfl, hJ, hC, hE⟩ := hrel
        clear W
        generalize wr = W at *
        have HJ : Hid _ := hJ
        have HC : Hid _ := hC
        have HE : Hid _ := hE
        clear hJ hC hE
        by_cases hlt : k < ms.length
        · have hkI : (k : Int) < (ms.length : Int) := by omega
          -- one act: ms the list, L the bytes at the start, HMS what is known besides (a line)
          obtain ⟨ac, hac⟩ : ∃ ac, ms[k]? = some ac := ⟨_, List.getElem?_eq_getElem hlt⟩
          obtain ⟨ag, ao, dv, rfl, hra, hok, hbd⟩ := HMS.out k ac hac
          obtain ⟨pd, cd, rfl, _⟩ := hb_any hbd
          have hra2 := rangeAt_below hra HC.out.bel
          have hc4 : W.cell? ⟨ag, ao + k * 5 + 4, none⟩ = some (.slice pd ac.bytes.length cd) := hra2 4 _ rfl
          by_cases hbig : 1000 < ac.bytes.length
          · have hbI : (1000 : Int) < (ac.bytes.length : Int) := by omega
            clear hra hra2 hok hbd hac
            -- the answer is known's: HC what is known of the cells at the world where the walk stands
            go_wp2_with fail
            refine Calls.mono (known_any _) ?_
            rintro e wk ⟨rfl, hbk⟩
            have hc6 := HC.out.step hbk
            have HC5 : Hid _ := hc6.set true
            obtain ⟨_, hk1, hk2⟩ := hc6.facts
            clear hc6 hbk
            go_wp2
            refine marks_ret (v := .bool true) [] _ (by simp) (by simp) (fun w' h1 h2 h3 h4 h5 => ⟨results_bool Try.results4 _ _ (w.heap.size + 1) true rfl (by rw [cell_of_row _ _ 0 _ _ _ ((h5 _ (by simp)).trans HC5.out.rc)]; rfl), rfl, ⟨h2.trans HC5.out.bel.os, h3.trans HC5.out.bel.tape, h4.trans HC5.out.bel.output, by rw [h1]; exact HC5.out.bel.size, fun k hk => (h5 k (by simp)).trans (HC5.out.bel.block k hk)⟩⟩)
          · skip
            have hbI : ¬ (1000 : Int) < (ac.bytes.length : Int) := by omega
            have hdo := do_any (w.heap.size + 2) mb gb rb bb n (runB n L ms k) ac (.slice pd ac.bytes.length cd) W HJ.out hok (fun X hX => hbd.below (HC.out.bel.trans (hX.mono (by omega))))
            rw [← runB_succ n L ms k ac hac] at hdo
            have HDO : Hid _ := hdo
            obtain ⟨AL, hAL⟩ : ∃ L, L = acL ac (.slice pd ac.bytes.length cd) := ⟨_, rfl⟩
            rw [← hAL] at hra2 HDO
            have HRA : Hid _ := hra2
            have HAI : Hid _ := info5 AL (by rw [hAL]; rfl)
            clear hra hra2 hok hbd hac hAL hdo
            go_wp2_with (refine wpList_load_mid rfl 34 _ rfl ag (ao + k * 5) rfl AL _ HRA.out Try.underlying34 rfl HAI.out ?_)
            refine Calls.mono HDO.out ?_
            rintro e W2 ⟨rfl, hJ2, hK2⟩
            have HC2 : Hid _ := HC.out.ks hK2 HJ.out.ge
            have HJ2 : Hid _ := hJ2
            have HE2 : Hid _ := HE.out.ks hK2 HLT.out
            clear hJ2 hK2 HDO HRA HAI
            go_wp2
            go_roundw
            case rel => exact ⟨k + 1, by omega, by go_num, HJ2.out, HC2.out, HE2.out⟩
            case measure => simp [intOf]; omega
        · have hke : k = ms.length := by omega
          subst hke
          clear hk hlt HMS
          generalize runB n L ms ms.length = M at *
          have HS1 : Hid (∀ X, Below W.heap.size W X → Calls Try.prog 21 #[.pointer (some ⟨mc, 0, none⟩), .pointer (some ⟨mb, 0, none⟩)] X fun e w' => e = .returned (.bool (L == M)) ∧ Below X.heap.size X w') := fun X hX => same_ok mc cp1 k1 mb gb n n L M X (HE.out.below hX).pr (HJ.out.below hX).pm.pr
          have HS2 : Hid (∀ X, Below W.heap.size W X → Calls Try.prog 21 #[.pointer (some ⟨mb, 0, none⟩), .pointer (some ⟨mc, 0, none⟩)] X fun e w' => e = .returned (.bool (M == L)) ∧ Below X.heap.size X w') := fun X hX => same_ok mb gb n mc cp1 k1 n M L X (HJ.out.below hX).pm.pr (HE.out.below hX).pr
          have HCE1 : Hid (∀ X, Below W.heap.size W X → X.cell? ⟨ws, 0, none⟩ = some (.slice (some ⟨wb, 0, none⟩) N kw)) := fun X hX => by rw [HN.out]; exact (HE.out.below hX).rr.cell
          have HCE2 : Hid (∀ X, Below W.heap.size W X → X.cell? ⟨rb, 0, none⟩ = some (.slice (some ⟨bb, 0, none⟩) N N)) := fun X hX => by rw [HN.out]; exact (HJ.out.below hX).rm.cell
          have HCV1 : Hid (∀ X, Below W.heap.size W X → (convert 32 9 (.slice (some ⟨wb, 0, none⟩) N kw)).run Try.prog X = .ok (.string (txt L)) X) := fun X hX => conv_hb X _ _ (hb_range (by rw [HN.out]; exact HE.out.rr.len.symm) (by rw [HE.out.rr.len, ← HN.out]; exact hkw) hkm (HE.out.below hX).rr.row)
          have HCV2 : Hid (∀ X, Below W.heap.size W X → (convert 32 9 (.slice (some ⟨bb, 0, none⟩) N N)).run Try.prog X = .ok (.string (txt M)) X) := fun X hX => conv_hb X _ _ (hb_range (by rw [HN.out]; exact HJ.out.rm.len.symm) (by rw [HJ.out.rm.len, ← HN.out]; exact Nat.le_refl _) (by unfold maxLen; omega) (HJ.out.below hX).rm.rr.row)
          have HEQ : Hid (∃ b : Bool, (L == M) = b ∧ (M == L) = b ∧ ((txt L).toList == (txt M).toList) = b) := by
            show ∃ b : Bool, _
            by_cases hLM : L = M
            · subst hLM; exact ⟨true, by simp, by simp, by simp⟩
            · exact ⟨false, by simpa using hLM, by simpa using fun e => hLM e.symm, txt_neq hLM⟩
          obtain ⟨RES, he1, he2, he3⟩ := HEQ.out
          rw [he1] at HS1
          rw [he2] at HS2
          generalize txt L = TL at *
          generalize txt M = TM at *
          have HSZ : Hid (∀ j, SJ gb bb j → j < W.heap.size) := HJ.out.lts
          clear HEQ he1 he2
          go_upto_region 26 with fail
          go_cut [137] from 116 to 136 (fun v X => v = .bool false ∧ Below W.heap.size W X)
          case first =>
            refine wp_only ?_
            refine wp_region_held_drew (S := Below W.heap.size W) (by kernel_rfl) (below_drew _) (fun hHeld => ?_)
            generalize W.drew = V1 at *
            refine wpAnyH_take (i := 0) (oi := { dst := some 116, op := Go.Op.move (Go.Operand.tmp 11), type := 25, pos := _, after := #[], guard := none }) (v := .pointer (some ⟨mc, 0, none⟩)) rfl (by kernel_rfl) (by kernel_rfl) (by kernel_rfl) (fun _ _ _ h => h) (Or.inl ⟨by rfl, fun w' hw' => ?_⟩) hHeld ?_
            · first | (go_simp; done) | (go_simp; rfl)
            try simp only [Act.put, List.setIfInBounds_toArray, List.set_cons_zero, List.set_cons_succ]
            refine wpAnyH_take (i := 1) (oi := { dst := some 117, op := Go.Op.move (Go.Operand.tmp 7), type := 25, pos := _, after := #[], guard := none }) (v := .pointer (some ⟨mb, 0, none⟩)) rfl (by kernel_rfl) (by kernel_rfl) (by kernel_rfl) (fun _ _ _ h => h) (Or.inl ⟨by rfl, fun w' hw' => ?_⟩) hHeld ?_
            · first | (go_simp; done) | (go_simp; rfl)
            try simp only [Act.put, List.setIfInBounds_toArray, List.set_cons_zero, List.set_cons_succ]
            refine wpAnyH_take (i := 3) (oi := { dst := some 119, op := Go.Op.fieldAddr 43 (Go.Operand.tmp 13) 0, type := 0, pos := _, after := #[], guard := none }) (v := .pointer (some ⟨ws, 0, none⟩)) rfl (by kernel_rfl) (by kernel_rfl) (by kernel_rfl) (fun _ _ _ h => h) (Or.inl ⟨by rfl, fun w' hw' => ?_⟩) hHeld ?_
            · first | (go_simp; done) | (go_simp; rfl)
            try simp only [Act.put, List.setIfInBounds_toArray, List.set_cons_zero, List.set_cons_succ]
            refine wpAnyH_take (i := 4) (oi := { dst := some 120, op := Go.Op.load 32 (Go.Operand.tmp 119), type := 32, pos := _, after := #[{ on := 3, ground := Go.Ground.data }], guard := none }) (v := .slice (some ⟨wb, 0, none⟩) N kw) rfl (by kernel_rfl) (by kernel_rfl) (by kernel_rfl) (fun _ _ _ h => h) (Or.inl ⟨by rfl, fun w' hw' => ?_⟩) hHeld ?_
            · have hcc := HCE1.out _ hw'; first | (go_simp; done) | (go_simp; rfl)
            try simp only [Act.put, List.setIfInBounds_toArray, List.set_cons_zero, List.set_cons_succ]
            refine wpAnyH_take (i := 5) (oi := { dst := some 121, op := Go.Op.convert 32 9 (Go.Operand.tmp 120), type := 9, pos := _, after := #[{ on := 4, ground := Go.Ground.data }], guard := none }) (v := .string TL) rfl (by kernel_rfl) (by kernel_rfl) (by kernel_rfl) (fun _ _ _ h => h) (Or.inl ⟨by rfl, fun w' hw' => ?_⟩) hHeld ?_
            · have hcc := HCV1.out _ hw'; first | (go_simp; done) | (go_simp; rfl)
            try simp only [Act.put, List.setIfInBounds_toArray, List.set_cons_zero, List.set_cons_succ]
            refine wpAnyH_take (i := 6) (oi := { dst := some 122, op := Go.Op.move (Go.Operand.tmp 9), type := 29, pos := _, after := #[], guard := none }) (v := .pointer (some ⟨rb, 0, none⟩)) rfl (by kernel_rfl) (by kernel_rfl) (by kernel_rfl) (fun _ _ _ h => h) (Or.inl ⟨by rfl, fun w' hw' => ?_⟩) hHeld ?_
            · first | (go_simp; done) | (go_simp; rfl)
            try simp only [Act.put, List.setIfInBounds_toArray, List.set_cons_zero, List.set_cons_succ]
            refine wpAnyH_take (i := 7) (oi := { dst := some 123, op := Go.Op.nilCheck (Go.Operand.tmp 122), type := 0, pos := _, after := #[{ on := 6, ground := Go.Ground.data }], guard := none }) (v := .pointer (some ⟨rb, 0, none⟩)) rfl (by kernel_rfl) (by kernel_rfl) (by kernel_rfl) (fun _ _ _ h => h) (Or.inl ⟨by rfl, fun w' hw' => ?_⟩) hHeld ?_
            · first | (go_simp; done) | (go_simp; rfl)
            try simp only [Act.put, List.setIfInBounds_toArray, List.set_cons_zero, List.set_cons_succ]
            refine wpAnyH_take (i := 8) (oi := { dst := some 124, op := Go.Op.fieldAddr 43 (Go.Operand.tmp 123) 0, type := 0, pos := _, after := #[{ on := 7, ground := Go.Ground.data }], guard := none }) (v := .pointer (some ⟨rb, 0, none⟩)) rfl (by kernel_rfl) (by kernel_rfl) (by kernel_rfl) (fun _ _ _ h => h) (Or.inl ⟨by rfl, fun w' hw' => ?_⟩) hHeld ?_
            · first | (go_simp; done) | (go_simp; rfl)
            try simp only [Act.put, List.setIfInBounds_toArray, List.set_cons_zero, List.set_cons_succ]
            refine wpAnyH_take (i := 9) (oi := { dst := some 125, op := Go.Op.load 32 (Go.Operand.tmp 124), type := 32, pos := _, after := #[{ on := 8, ground := Go.Ground.data }], guard := none }) (v := .slice (some ⟨bb, 0, none⟩) N N) rfl (by kernel_rfl) (by kernel_rfl) (by kernel_rfl) (fun _ _ _ h => h) (Or.inl ⟨by rfl, fun w' hw' => ?_⟩) hHeld ?_
            · have hcc := HCE2.out _ hw'; first | (go_simp; done) | (go_simp; rfl)
            try simp only [Act.put, List.setIfInBounds_toArray, List.set_cons_zero, List.set_cons_succ]
            refine wpAnyH_take (i := 10) (oi := { dst := some 126, op := Go.Op.convert 32 9 (Go.Operand.tmp 125), type := 9, pos := _, after := #[{ on := 9, ground := Go.Ground.data }], guard := none }) (v := .string TM) rfl (by kernel_rfl) (by kernel_rfl) (by kernel_rfl) (fun _ _ _ h => h) (Or.inl ⟨by rfl, fun w' hw' => ?_⟩) hHeld ?_
            · have hcc := HCV2.out _ hw'; first | (go_simp; done) | (go_simp; rfl)
            try simp only [Act.put, List.setIfInBounds_toArray, List.set_cons_zero, List.set_cons_succ]
            refine wpAnyH_take (i := 11) (oi := { dst := some 127, op := Go.Op.binOp Go.BinOp.eql 9 (Go.Operand.tmp 121) (Go.Operand.tmp 126) 9, type := 4, pos := _, after := #[{ on := 5, ground := Go.Ground.data }, { on := 10, ground := Go.Ground.data }], guard := none }) (v := .bool RES) rfl (by kernel_rfl) (by kernel_rfl) (by kernel_rfl) (fun _ _ _ h => h) (Or.inl ⟨by rfl, fun w' hw' => ?_⟩) hHeld ?_
            · first | (go_simp; done) | (go_simp; rfl)
            try simp only [Act.put, List.setIfInBounds_toArray, List.set_cons_zero, List.set_cons_succ]
            refine wpAnyH_ready (rs := [2]) (by kernel_rfl) (by simp) ?_
            refine AllReadyH.cons (o := { dst := some 118, op := Go.Op.call { callee := Go.Callee.value (Go.Operand.func 21), args := #[Go.Operand.tmp 116, Go.Operand.tmp 117], argTypes := #[25, 25] }, type := 4, pos := _, after := #[{ on := 0, ground := Go.Ground.data }, { on := 1, ground := Go.Ground.data }], guard := none }) rfl (fun K hK => ?_) AllReadyH.nil
            rw [if_pos (by rfl)]
            go_wp2_with fail
            refine Calls.mono (HS1.out _ hHeld) ?_
            rintro e V2 ⟨rfl, hb2⟩
            have hHeld2 : Below W.heap.size W V2 := hHeld.trans (hb2.mono hHeld.size)
            refine hK.out _ _ hHeld2 (fun _ => ?_)
            clear hK K
            try simp only [Act.put, List.setIfInBounds_toArray, List.set_cons_zero, List.set_cons_succ]
            clear hHeld
            have hHeld := hHeld2
            refine wpAnyH_take (i := 12) (oi := { dst := some 128, op := Go.Op.binOp Go.BinOp.neq 4 (Go.Operand.tmp 118) (Go.Operand.tmp 127) 4, type := 4, pos := _, after := #[{ on := 2, ground := Go.Ground.data }, { on := 11, ground := Go.Ground.data }], guard := none }) (v := .bool false) rfl (by kernel_rfl) (by kernel_rfl) (by kernel_rfl) (fun _ _ _ h => h) (Or.inl ⟨by rfl, fun w' hw' => ?_⟩) hHeld ?_
            · first | (go_simp; done) | (go_simp; rfl)
            try simp only [Act.put, List.setIfInBounds_toArray, List.set_cons_zero, List.set_cons_succ]
            refine wpAnyH_take (i := 13) (oi := { dst := some 129, op := Go.Op.move (Go.Operand.tmp 128), type := 4, pos := _, after := #[{ on := 12, ground := Go.Ground.data }, { on := 2, ground := Go.Ground.chain }], guard := none }) (v := .bool false) rfl (by kernel_rfl) (by kernel_rfl) (by kernel_rfl) (fun _ _ _ h => h) (Or.inl ⟨by rfl, fun w' hw' => ?_⟩) hHeld ?_
            · first | (go_simp; done) | (go_simp; rfl)
            try simp only [Act.put, List.setIfInBounds_toArray, List.set_cons_zero, List.set_cons_succ]
            refine wpAnyH_take (i := 14) (oi := { dst := some 130, op := Go.Op.move (Go.Operand.tmp 7), type := 25, pos := _, after := #[{ on := 13, ground := Go.Ground.guard }], guard := some (13, false) }) (v := .pointer (some ⟨mb, 0, none⟩)) rfl (by kernel_rfl) (by kernel_rfl) (by kernel_rfl) (fun _ _ _ h => h) (Or.inl ⟨by rfl, fun w' hw' => ?_⟩) hHeld ?_
            · first | (go_simp; done) | (go_simp; rfl)
            try simp only [Act.put, List.setIfInBounds_toArray, List.set_cons_zero, List.set_cons_succ]
            refine wpAnyH_take (i := 15) (oi := { dst := some 131, op := Go.Op.move (Go.Operand.tmp 11), type := 25, pos := _, after := #[{ on := 13, ground := Go.Ground.guard }], guard := some (13, false) }) (v := .pointer (some ⟨mc, 0, none⟩)) rfl (by kernel_rfl) (by kernel_rfl) (by kernel_rfl) (fun _ _ _ h => h) (Or.inl ⟨by rfl, fun w' hw' => ?_⟩) hHeld ?_
            · first | (go_simp; done) | (go_simp; rfl)
            try simp only [Act.put, List.setIfInBounds_toArray, List.set_cons_zero, List.set_cons_succ]
            refine wpAnyH_take (i := 17) (oi := { dst := some 133, op := Go.Op.move (Go.Operand.tmp 11), type := 25, pos := _, after := #[{ on := 13, ground := Go.Ground.guard }], guard := some (13, false) }) (v := .pointer (some ⟨mc, 0, none⟩)) rfl (by kernel_rfl) (by kernel_rfl) (by kernel_rfl) (fun _ _ _ h => h) (Or.inl ⟨by rfl, fun w' hw' => ?_⟩) hHeld ?_
            · first | (go_simp; done) | (go_simp; rfl)
            try simp only [Act.put, List.setIfInBounds_toArray, List.set_cons_zero, List.set_cons_succ]
            refine wpAnyH_take (i := 18) (oi := { dst := some 134, op := Go.Op.move (Go.Operand.tmp 7), type := 25, pos := _, after := #[{ on := 13, ground := Go.Ground.guard }], guard := some (13, false) }) (v := .pointer (some ⟨mb, 0, none⟩)) rfl (by kernel_rfl) (by kernel_rfl) (by kernel_rfl) (fun _ _ _ h => h) (Or.inl ⟨by rfl, fun w' hw' => ?_⟩) hHeld ?_
            · first | (go_simp; done) | (go_simp; rfl)
            try simp only [Act.put, List.setIfInBounds_toArray, List.set_cons_zero, List.set_cons_succ]
            refine wpAnyH_ready (rs := [16]) (by kernel_rfl) (by simp) ?_
            refine AllReadyH.cons (o := { dst := some 132, op := Go.Op.call { callee := Go.Callee.value (Go.Operand.func 21), args := #[Go.Operand.tmp 130, Go.Operand.tmp 131], argTypes := #[25, 25] }, type := 4, pos := _, after := #[{ on := 14, ground := Go.Ground.data }, { on := 15, ground := Go.Ground.data }, { on := 13, ground := Go.Ground.chain }, { on := 13, ground := Go.Ground.guard }], guard := some (13, false) }) rfl (fun K hK => ?_) AllReadyH.nil
            rw [if_pos (by rfl)]
            go_wp2_with fail
            refine Calls.mono (HS2.out _ hHeld) ?_
            rintro e V3 ⟨rfl, hb3⟩
            have hHeld3 : Below W.heap.size W V3 := hHeld.trans (hb3.mono hHeld.size)
            refine hK.out _ _ hHeld3 (fun _ => ?_)
            clear hK K
            try simp only [Act.put, List.setIfInBounds_toArray, List.set_cons_zero, List.set_cons_succ]
            clear hHeld
            have hHeld := hHeld3
            refine wpAnyH_ready (rs := [19]) (by kernel_rfl) (by simp) ?_
            refine AllReadyH.cons (o := { dst := some 135, op := Go.Op.call { callee := Go.Callee.value (Go.Operand.func 21), args := #[Go.Operand.tmp 133, Go.Operand.tmp 134], argTypes := #[25, 25] }, type := 4, pos := _, after := #[{ on := 17, ground := Go.Ground.data }, { on := 18, ground := Go.Ground.data }, { on := 16, ground := Go.Ground.chain }, { on := 13, ground := Go.Ground.guard }], guard := some (13, false) }) rfl (fun K hK => ?_) AllReadyH.nil
            rw [if_pos (by rfl)]
            go_wp2_with fail
            refine Calls.mono (HS1.out _ hHeld) ?_
            rintro e V4 ⟨rfl, hb4⟩
            have hHeld4 : Below W.heap.size W V4 := hHeld.trans (hb4.mono hHeld.size)
            refine hK.out _ _ hHeld4 (fun _ => ?_)
            clear hK K
            try simp only [Act.put, List.setIfInBounds_toArray, List.set_cons_zero, List.set_cons_succ]
            clear hHeld
            have hHeld := hHeld4
            refine wpAnyH_take (i := 20) (oi := { dst := some 136, op := Go.Op.binOp Go.BinOp.neq 4 (Go.Operand.tmp 132) (Go.Operand.tmp 135) 4, type := 4, pos := _, after := #[{ on := 16, ground := Go.Ground.data }, { on := 19, ground := Go.Ground.data }, { on := 13, ground := Go.Ground.guard }], guard := some (13, false) }) (v := .bool false) rfl (by kernel_rfl) (by kernel_rfl) (by kernel_rfl) (fun _ _ _ h => h) (Or.inl ⟨by rfl, fun w' hw' => ?_⟩) hHeld ?_
            · first | (go_simp; done) | (go_simp; rfl)
            try simp only [Act.put, List.setIfInBounds_toArray, List.set_cons_zero, List.set_cons_succ]
            refine wpAnyH_take (i := 21) (oi := { dst := some 137, op := Go.Op.pick (Go.Operand.tmp 129) (Go.Operand.const (Go.Value.bool true)) (Go.Operand.tmp 136), type := 4, pos := _, after := #[{ on := 13, ground := Go.Ground.data }, { on := 20, ground := Go.Ground.data }], guard := none }) (v := .bool false) rfl (by kernel_rfl) (by kernel_rfl) (by kernel_rfl) (fun _ _ _ h => h) (Or.inl ⟨by rfl, fun w' hw' => ?_⟩) hHeld ?_
            · first | (go_simp; done) | (go_simp; rfl)
            try simp only [Act.put, List.setIfInBounds_toArray, List.set_cons_zero, List.set_cons_succ]
            refine wpAnyH_done (by kernel_rfl) ?_ _
            go_wp2_with fail
            go_meet
            case rel => exact ⟨rfl, hHeld4⟩
          case rest =>
            obtain ⟨rfl, hbc⟩ := hcut
            have HJc : Hid _ := HJ.out.below hbc
            have HCc : Hid _ := HC.out.step hbc
            have HEc : Hid _ := HE.out.below hbc
            have hsc := hbc.size
            clear hbc HJ HC HE HS1 HS2 HCE1 HCE2 HCV1 HCV2 he3 HLT HGE
            go_wp2
            obtain ⟨WN, hWN⟩ : ∃ WN, WN = wc.alloc (.cells #[.int .i64 0] 3 (0, 0)) := ⟨_, rfl⟩
            have hbN : Below wc.heap.size wc WN := by rw [hWN]; exact (Below.refl _ _).alloc (Nat.le_refl _) _
            have hsN : WN.heap.size = wc.heap.size + 1 := by rw [hWN]; simp
            have HEN : Hid _ := HEc.out.below hbN
            have HIN : Hid (IW w n wc.heap.size ws wb kw L 0 0 WN) := ⟨HCc.out.step hbN, HEN.out.rr, by rw [hWN]; exact heap_alloc_new _ _, Nat.le_refl _, fun j _ h => absurd h (Nat.not_lt_zero _)⟩
            have hgx : w.heap.size + 2 ≤ wc.heap.size := Nat.le_trans HJc.out.low (Nat.le_refl _)
            have hws : ws < wc.heap.size := block_lt HEc.out.rr.cell
            have hwb : wb < wc.heap.size := HEc.out.rr.bb_lt
            have hfbl : fb < wc.heap.size := HEc.out.wh.lt
            have hcbl : cp2 < wc.heap.size := HEc.out.wh.cb_lt (by omega)
            rw [← hWN]
            have HRG : Hid (∀ X j, RR X ws wb n kw L → j < n → Calls Try.prog 18 #[.pointer (some ⟨ws, 0, none⟩), .int .i64 (j : Int)] X fun e w' => e = .returned (.agg ((getB L j).map B8).toArray) ∧ Below X.heap.size X w') := fun X j hX hj => rget_ok ws wb n kw j L X hX hj hkm
            generalize wc.heap.size = gx at *
            clear hWN hbN HJc HCc HEc hsc HSZ
            refine range_whole (fb := fb) (cb := cp2) (n := n) (cap := k2) (l := L) rfl rfl HEN.out.wh (by omega) (fun k X => ∃ gv, IW w n gx ws wb kw L gv k X) (fun k X Y ⟨gv, h⟩ hb => ⟨gv, h.step hb⟩) (fun k X lp ob ⟨gv, h⟩ hl => ⟨gv, h.put lp ob (by omega) (by omega) (by omega) (by omega)⟩) (fun k X _ hz ⟨gv, h⟩ => ⟨gv, h.skip hz⟩) ⟨0, HIN.out⟩ ?_ ?_
            · intro lp k X hk hnz hI hlp hX hlr
              obtain ⟨gv, hI⟩ := hI
              simp only [List.zip_toArray, List.zip_cons_cons, List.zip_nil_left, List.zip_nil_right, List.foldl_toArray, List.foldl_cons, List.foldl_nil, List.setIfInBounds_toArray, List.set_cons_succ, List.set_cons_zero]
              have hzv := fun W => zero_gr W
              obtain ⟨ZL, hZL⟩ : ∃ L, L = Z128.map B8 := ⟨_, rfl⟩
              rw [← hZL] at hzv
              have HZS : Hid (ZL.toArray.size = 128) := by show _ = _; rw [hZL]; simp [Z128]
              have HBD : Hid (∀ W, (Instr.build 45 #[]).run Try.prog W = .ok (.agg ZL.toArray) W) := by rw [hZL]; exact fun W => build_gr W
              have HEQZ : Hid (∀ j, j < n → ∀ b, (getB L j == Z128) = b → ∀ W, (Op.equalIn 10000 45 (.agg ((getB L j).map B8).toArray) (.agg ZL.toArray)).run Try.prog W = .ok b W) := by
                rw [hZL]; exact fun j hj b hb W => neq_gr W _ _ (getB_len L n j hI.rr.len hj) z128_len b hb
              have hgl := getB_len L n k hI.rr.len hk
              have HEQS : Hid (∀ W, (Op.equalIn 10000 45 (.agg ((getB L k).map B8).toArray) (.agg ((getB L k).map B8).toArray)).run Try.prog W = .ok true W) := fun W => eq_gr_self W _ hgl
              have HRGK : Hid (∀ X, RR X ws wb n kw L → Calls Try.prog 18 #[.pointer (some ⟨ws, 0, none⟩), .int .i64 (k : Int)] X fun e w' => e = .returned (.agg ((getB L k).map B8).toArray) ∧ Below X.heap.size X w') := fun X hX => HRG.out X k hX hk
              have HKZ : Hid (∀ W, (Op.equalIn 10000 45 (.agg ((getB L k).map B8).toArray) (.agg ZL.toArray)).run Try.prog W = .ok false W) := HEQZ.out k hk false (by simpa using hnz)
              obtain ⟨GL, hGL⟩ : ∃ GL, GL = (getB L k).map B8 := ⟨_, rfl⟩
              have HGI : Hid _ := info128 GL (by rw [hGL, List.length_map]; exact hgl)
              have HGS : Hid (GL.toArray.size = 128) := by show _ = _; rw [hGL]; simpa using hgl
              have HG1 : Hid (GL.toArray.all (·.oneCell') = true) := by show _ = _; rw [hGL]; exact B8_onea _
              rw [← hGL] at HEQS HRGK HKZ
              rw [← hGL]
              have HII : Hid _ := hI
              have HR1 : Hid ((X.alloc (.cells ZL.toArray 45 (0, 0))).heap[X.heap.size]? = some (.cells ZL.toArray 45 (0, 0))) := heap_alloc_new _ _
              have hkI : (k : Int) < (n : Int) := by omega
              clear hGL hgl hZL hI hnz HIN
              refine wpIn_seq ?_
              refine region_plain (by kernel_rfl) (fun h => by obtain ⟨_, _, h⟩ := h; exact h) ?_
              go_wp2_with fail
              change Code.wpIn _ _ _ _ _ _ _
              refine region_plain (by kernel_rfl) (fun h => by obtain ⟨_, _, h⟩ := h; exact h) ?_
              go_wp2_with (refine wpList_store_row rfl 45 _ _ rfl X.heap.size GL.toArray rfl rfl 45 ZL.toArray HR1.out (info128a _ HGS.out) (HZS.out.trans HGS.out.symm) HG1.out ?_)
              have hbY : Below X.heap.size X ((X.alloc (.cells ZL.toArray 45 (0, 0))).setRow X.heap.size GL.toArray) := below_setRow ((Below.refl _ _).alloc (Nat.le_refl _) _) (Nat.le_refl _) _
              have hrY := setRow_heap _ _ _ GL.toArray _ _ HR1.out
              have hsY : ((X.alloc (.cells ZL.toArray 45 (0, 0))).setRow X.heap.size GL.toArray).heap.size = X.heap.size + 1 := by simp
              generalize (X.alloc (.cells ZL.toArray 45 (0, 0))).setRow X.heap.size GL.toArray = Y at *
              refine ⟨hbY, fun X2 hX2 => ?_⟩
              obtain ⟨ob, hX2⟩ := hX2
              have HI2 : Hid (IW w n gx ws wb kw L gv k X2) := by
                show IW _ _ _ _ _ _ _ _ _ _
                rw [hX2]; exact (HII.out.step hbY).put lp ob (by omega) (by omega) (by omega) (by omega)
              have HB2 : Hid (X2.heap[X.heap.size]? = some (.cells GL.toArray 45 (0, 0))) := by
                rw [hX2]; exact (World.putObj_heap_other (by omega)).trans hrY
              have hsX2 : X2.heap.size = X.heap.size + 1 := by rw [hX2]; simp [hsY]
              clear hX2 hrY hbY hsY HII HR1 hlr
              refine wpIn_block (wpIn_seq (wpIn_block ?_))
              simp only [Act.put]
              gi_loopw [141] (fun _ wr => ∃ gv, IW w n gx ws wb kw L gv k wr ∧ KpR WN.heap.size fb cp2 X2 wr) (fun _ wr => k - gAt wr gx)
              case atStart => exact ⟨gv, HI2.out, KpR.refl _ _ _ _⟩
              case round =>
                clear HI2
                obtain ⟨g2, hI2, hK2⟩ := hrel
                obtain ⟨hcg, hfg, hcn⟩ := hI2.cells
                have hgk := hI2.gk
                have HI2 : Hid _ := hI2
                have HK2 : Hid (KpR WN.heap.size fb cp2 X2 wr) := hK2
                have hgn : (g2 : Int) < (n : Int) := by omega
                have hga := hI2.gAt
                rw [hga]
                have hswr := hK2.1
                by_cases hlt : g2 < k
                · have HG2 : Hid _ := HRG.out wr g2 hI2.rr (by omega)
                  have heq : ∀ W, (Op.equalIn 10000 45 (.agg ((getB L g2).map B8).toArray) (.agg ZL.toArray)).run Try.prog W = .ok true W := HEQZ.out g2 (by omega) true (by rw [hI2.z g2 (Nat.le_refl _) hlt]; simp)
                  generalize (getB L g2).map B8 = G2 at *
                  clear hI2 hK2
                  refine wpIn_seq (wpIn_seq ?_)
                  refine region_plain (by kernel_rfl) (fun h => by obtain ⟨_, _, h1, _⟩ := h; cases h1) ?_
                  go_wp2_with (refine wpList_buildg (by rfl) 45 #[] rfl #[] (.agg ZL.toArray) (by simp) (HBD.out _) ?_)
                  refine Calls.mono HG2.out ?_
                  rintro e V ⟨rfl, hbV⟩
                  have HIV : Hid _ := HI2.out.step hbV
                  have HKV : Hid (KpR WN.heap.size fb cp2 X2 V) := KpR.step HK2.out hbV
                  obtain ⟨hcg2, hfg2, _⟩ := HIV.out.cells
                  clear hbV hcg hfg
                  go_wp2_with (refine wpList_buildg (by rfl) 45 #[] rfl #[] (.agg ZL.toArray) (by simp) (HBD.out _) ?_)
                  change Code.wpIn _ _ _ _ _ _ _
                  refine wpIn_cond_true (by rfl) (wpIn_skip ?_)
                  change Code.wpIn _ _ _ _ _ _ _
                  refine wpIn_block ?_
                  refine region_plain (by kernel_rfl) (fun h => by obtain ⟨_, _, h1, _⟩ := h; cases h1) ?_
                  go_wp2_with fail
                  go_roundw
                  case rel =>
                    refine ⟨g2 + 1, ?_, KpR.set HKV.out (by omega) (by omega) (by omega) _⟩
                    have hz := HIV.out.z
                    have := HIV.out.set hgx (by omega) (by omega) (g2 + 1) k (by omega) (fun j h1 h2 => hz j (by omega) h2)
                    rw [show ((g2 + 1 : Nat) : Int) = (g2 : Int) + 1 by omega] at this
                    exact this
                  case measure =>
                    have hz := HIV.out.z
                    have := (HIV.out.set hgx (by omega) (by omega) (g2 + 1) k (by omega) (fun j h1 h2 => hz j (by omega) h2)).gAt
                    rw [show ((g2 + 1 : Nat) : Int) = (g2 : Int) + 1 by omega] at this
                    rw [this]; omega
                · have hge : g2 = k := by omega
                  subst hge
                  have hbl : wr.heap[X.heap.size]? = some (.cells GL.toArray 45 (0, 0)) := (hK2.2 _ (by omega) (.inl (by omega))).trans HB2.out
                  have HG2 : Hid _ := HRGK.out wr hI2.rr
                  have heq := fun W => HKZ.out W
                  have HBL : Hid _ := hbl
                  clear hI2 hK2 hbl
                  refine wpIn_seq (wpIn_seq ?_)
                  refine region_plain (by kernel_rfl) (fun h => by obtain ⟨_, _, h1, _⟩ := h; cases h1) ?_
                  go_wp2_with (refine wpList_buildg (by rfl) 45 #[] rfl #[] (.agg ZL.toArray) (by simp) (HBD.out _) ?_)
                  refine Calls.mono HG2.out ?_
                  rintro e V ⟨rfl, hbV⟩
                  have HIV : Hid _ := HI2.out.step hbV
                  have HKV : Hid (KpR WN.heap.size fb cp2 X2 V) := KpR.step HK2.out hbV
                  have HRV : Hid (V.rangeAt X.heap.size 0 GL) := rangeAt_row ((hbV.block _ (row_lt HBL.out)).trans HBL.out)
                  clear hbV hcg hfg hcn
                  go_wp2_with (refine wpList_buildg (by rfl) 45 #[] rfl #[] (.agg ZL.toArray) (by simp) (HBD.out _) ?_)
                  change Code.wpIn _ _ _ _ _ _ _
                  refine wpIn_cond_false (by rfl) (wpIn_exit ?_)
                  simp only [Exit.inBlock, Exit.then, ↓reduceIte]
                  clear heq
                  have heqs := fun W => HEQS.out W
                  have HCG : Hid (∀ Z, Below V.heap.size V Z → Z.cell? ⟨gx, 0, none⟩ = some (.int .i64 (g2 : Int)) ∧ Z.cell? ⟨w.heap.size, 0, none⟩ = some (.int .i64 (n : Int))) := fun Z hZ => ⟨(HIV.out.step hZ).cells.1, (HIV.out.step hZ).cells.2.2⟩
                  have hgnI : ¬ (n : Int) ≤ (g2 : Int) := by omega
                  refine wpIn_seq (wpIn_seq ?_)
                  refine region_round (S := Below V.heap.size V) (by kernel_rfl) (by kernel_rfl) (fun h => by obtain ⟨_, _, h1, _⟩ := h; cases h1) (below_drew _) (fun hHeld => ?_)
                  generalize V.drew = V1 at *
                  refine wpAnyH_take (i := 0) (oi := { dst := some 152, op := Go.Op.move (Go.Operand.tmp 16), type := 3, pos := _, after := #[], guard := none }) (v := .int .i64 (g2 : Int)) rfl (by kernel_rfl) (by kernel_rfl) (by kernel_rfl) (fun _ _ _ h => h) (Or.inl ⟨by rfl, fun w' hw' => ?_⟩) hHeld ?_
                  · first | (go_simp; done) | (go_simp; rfl)
                  try simp only [Act.put, List.setIfInBounds_toArray, List.set_cons_zero, List.set_cons_succ]
                  refine wpAnyH_take (i := 1) (oi := { dst := some 153, op := Go.Op.load 3 (Go.Operand.tmp 15), type := 3, pos := _, after := #[], guard := none }) (v := .int .i64 (g2 : Int)) rfl (by kernel_rfl) (by kernel_rfl) (by kernel_rfl) (fun _ _ _ h => h) (Or.inl ⟨by rfl, fun w' hw' => ?_⟩) hHeld ?_
                  · have hcc := (HCG.out _ hw').1; first | (go_simp; done) | (go_simp; rfl)
                  try simp only [Act.put, List.setIfInBounds_toArray, List.set_cons_zero, List.set_cons_succ]
                  refine wpAnyH_take (i := 2) (oi := { dst := some 154, op := Go.Op.binOp Go.BinOp.neq 3 (Go.Operand.tmp 152) (Go.Operand.tmp 153) 3, type := 4, pos := _, after := #[{ on := 0, ground := Go.Ground.data }, { on := 1, ground := Go.Ground.data }], guard := none }) (v := .bool false) rfl (by kernel_rfl) (by kernel_rfl) (by kernel_rfl) (fun _ _ _ h => h) (Or.inl ⟨by rfl, fun w' hw' => ?_⟩) hHeld ?_
                  · first | (go_simp; done) | (go_simp; rfl)
                  try simp only [Act.put, List.setIfInBounds_toArray, List.set_cons_zero, List.set_cons_succ]
                  refine wpAnyH_take (i := 3) (oi := { dst := some 155, op := Go.Op.move (Go.Operand.tmp 154), type := 4, pos := _, after := #[{ on := 2, ground := Go.Ground.data }], guard := none }) (v := .bool false) rfl (by kernel_rfl) (by kernel_rfl) (by kernel_rfl) (fun _ _ _ h => h) (Or.inl ⟨by rfl, fun w' hw' => ?_⟩) hHeld ?_
                  · first | (go_simp; done) | (go_simp; rfl)
                  try simp only [Act.put, List.setIfInBounds_toArray, List.set_cons_zero, List.set_cons_succ]
                  refine wpAnyH_take (i := 4) (oi := { dst := some 156, op := Go.Op.load 3 (Go.Operand.tmp 15), type := 3, pos := _, after := #[{ on := 3, ground := Go.Ground.guard }], guard := some (3, false) }) (v := .int .i64 (g2 : Int)) rfl (by kernel_rfl) (by kernel_rfl) (by kernel_rfl) (fun _ _ _ h => h) (Or.inl ⟨by rfl, fun w' hw' => ?_⟩) hHeld ?_
                  · have hcc := (HCG.out _ hw').1; first | (go_simp; done) | (go_simp; rfl)
                  try simp only [Act.put, List.setIfInBounds_toArray, List.set_cons_zero, List.set_cons_succ]
                  refine wpAnyH_take (i := 5) (oi := { dst := some 157, op := Go.Op.load 3 (Go.Operand.tmp 3), type := 3, pos := _, after := #[{ on := 3, ground := Go.Ground.guard }], guard := some (3, false) }) (v := .int .i64 (n : Int)) rfl (by kernel_rfl) (by kernel_rfl) (by kernel_rfl) (fun _ _ _ h => h) (Or.inl ⟨by rfl, fun w' hw' => ?_⟩) hHeld ?_
                  · have hcc := (HCG.out _ hw').2; first | (go_simp; done) | (go_simp; rfl)
                  try simp only [Act.put, List.setIfInBounds_toArray, List.set_cons_zero, List.set_cons_succ]
                  refine wpAnyH_take (i := 6) (oi := { dst := some 158, op := Go.Op.binOp Go.BinOp.geq 3 (Go.Operand.tmp 156) (Go.Operand.tmp 157) 3, type := 4, pos := _, after := #[{ on := 4, ground := Go.Ground.data }, { on := 5, ground := Go.Ground.data }, { on := 3, ground := Go.Ground.guard }], guard := some (3, false) }) (v := .bool false) rfl (by kernel_rfl) (by kernel_rfl) (by kernel_rfl) (fun _ _ _ h => h) (Or.inl ⟨by rfl, fun w' hw' => ?_⟩) hHeld ?_
                  · first | (go_simp; done) | (go_simp; rfl)
                  try simp only [Act.put, List.setIfInBounds_toArray, List.set_cons_zero, List.set_cons_succ]
                  refine wpAnyH_take (i := 7) (oi := { dst := some 159, op := Go.Op.pick (Go.Operand.tmp 155) (Go.Operand.const (Go.Value.bool true)) (Go.Operand.tmp 158), type := 4, pos := _, after := #[{ on := 3, ground := Go.Ground.data }, { on := 6, ground := Go.Ground.data }], guard := none }) (v := .bool false) rfl (by kernel_rfl) (by kernel_rfl) (by kernel_rfl) (fun _ _ _ h => h) (Or.inl ⟨by rfl, fun w' hw' => ?_⟩) hHeld ?_
                  · first | (go_simp; done) | (go_simp; rfl)
                  try simp only [Act.put, List.setIfInBounds_toArray, List.set_cons_zero, List.set_cons_succ]
                  refine wpAnyH_take (i := 8) (oi := { dst := some 160, op := Go.Op.move (Go.Operand.tmp 159), type := 4, pos := _, after := #[{ on := 7, ground := Go.Ground.data }, { on := 3, ground := Go.Ground.chain }], guard := none }) (v := .bool false) rfl (by kernel_rfl) (by kernel_rfl) (by kernel_rfl) (fun _ _ _ h => h) (Or.inl ⟨by rfl, fun w' hw' => ?_⟩) hHeld ?_
                  · first | (go_simp; done) | (go_simp; rfl)
                  try simp only [Act.put, List.setIfInBounds_toArray, List.set_cons_zero, List.set_cons_succ]
                  refine wpAnyH_take (i := 9) (oi := { dst := some 161, op := Go.Op.load 45 (Go.Operand.tmp 17), type := 45, pos := _, after := #[{ on := 8, ground := Go.Ground.guard }], guard := some (8, false) }) rfl (by kernel_rfl) (by kernel_rfl) (by kernel_rfl) (fun _ _ _ h => h) (yieldsIf_load_mid (by rfl) 45 (.tmp 17) rfl (X.heap.size) (0) rfl (GL) _ (fun _ h => rangeAt_below HRV.out h) Try.underlying45 rfl HGI.out) hHeld ?_
                  try simp only [Act.put, List.setIfInBounds_toArray, List.set_cons_zero, List.set_cons_succ]
                  refine wpAnyH_take (i := 10) (oi := { dst := some 162, op := Go.Op.load 3 (Go.Operand.tmp 15), type := 3, pos := _, after := #[{ on := 8, ground := Go.Ground.guard }], guard := some (8, false) }) (v := .int .i64 (g2 : Int)) rfl (by kernel_rfl) (by kernel_rfl) (by kernel_rfl) (fun _ _ _ h => h) (Or.inl ⟨by rfl, fun w' hw' => ?_⟩) hHeld ?_
                  · have hcc := (HCG.out _ hw').1; first | (go_simp; done) | (go_simp; rfl)
                  try simp only [Act.put, List.setIfInBounds_toArray, List.set_cons_zero, List.set_cons_succ]
                  refine wpAnyH_ready (rs := [11]) (by kernel_rfl) (by simp) ?_
                  refine AllReadyH.cons (o := { dst := some 163, op := Go.Op.call { callee := Go.Callee.value (Go.Operand.func 18), args := #[Go.Operand.tmp 13, Go.Operand.tmp 162], argTypes := #[43, 3] }, type := 45, pos := _, after := #[{ on := 10, ground := Go.Ground.data }, { on := 8, ground := Go.Ground.chain }, { on := 8, ground := Go.Ground.guard }], guard := some (8, false) }) rfl (fun K hK => ?_) AllReadyH.nil
                  rw [if_pos (by rfl)]
                  go_wp2_with fail
                  refine Calls.mono (HRGK.out _ (HIV.out.step hHeld).rr) ?_
                  rintro e V2 ⟨rfl, hb2⟩
                  have hHeld2 : Below V.heap.size V V2 := hHeld.trans (hb2.mono hHeld.size)
                  refine hK.out _ _ hHeld2 (fun _ => ?_)
                  clear hK K
                  try simp only [Act.put, List.setIfInBounds_toArray, List.set_cons_zero, List.set_cons_succ]
                  clear hHeld
                  have hHeld := hHeld2
                  refine wpAnyH_take (i := 12) (oi := { dst := some 164, op := Go.Op.binOp Go.BinOp.neq 45 (Go.Operand.tmp 161) (Go.Operand.tmp 163) 45, type := 4, pos := _, after := #[{ on := 9, ground := Go.Ground.data }, { on := 11, ground := Go.Ground.data }, { on := 8, ground := Go.Ground.guard }], guard := some (8, false) }) (v := .bool false) rfl (by kernel_rfl) (by kernel_rfl) (by kernel_rfl) (fun _ _ _ h => h) (Or.inl ⟨by rfl, fun w' hw' => ?_⟩) hHeld ?_
                  · first | (go_simp; done) | (go_simp; rfl)
                  try simp only [Act.put, List.setIfInBounds_toArray, List.set_cons_zero, List.set_cons_succ]
                  refine wpAnyH_take (i := 13) (oi := { dst := some 165, op := Go.Op.pick (Go.Operand.tmp 160) (Go.Operand.const (Go.Value.bool true)) (Go.Operand.tmp 164), type := 4, pos := _, after := #[{ on := 8, ground := Go.Ground.data }, { on := 12, ground := Go.Ground.data }], guard := none }) (v := .bool false) rfl (by kernel_rfl) (by kernel_rfl) (by kernel_rfl) (fun _ _ _ h => h) (Or.inl ⟨by rfl, fun w' hw' => ?_⟩) hHeld ?_
                  · first | (go_simp; done) | (go_simp; rfl)
                  try simp only [Act.put, List.setIfInBounds_toArray, List.set_cons_zero, List.set_cons_succ]
                  refine wpAnyH_done (by kernel_rfl) ?_ _
                  have HI3 : Hid _ := HIV.out.step hHeld2
                  have HK3 : Hid (KpR WN.heap.size fb cp2 X2 V2) := KpR.step HKV.out hHeld2
                  obtain ⟨hcg3, hfg3, _⟩ := HI3.out.cells
                  clear hHeld hHeld2 hb2 heqs
                  change Code.wpIn _ _ _ _ _ _ _
                  refine wpIn_cond_false (by rfl) (wpIn_skip ?_)
                  change Code.wpIn _ _ _ _ _ _ _
                  refine region_plain (by kernel_rfl) (fun h => by obtain ⟨_, _, h1, _⟩ := h; cases h1) ?_
                  go_wp2_with fail
                  refine ⟨trivial, ⟨g2 + 1, ?_⟩, KpR.set HK3.out (by omega) (by omega) (by omega) _⟩
                  have := HI3.out.set hgx (by omega) (by omega) (g2 + 1) (g2 + 1) (Nat.le_refl _) (fun j h1 h2 => by omega)
                  rw [show ((g2 + 1 : Nat) : Int) = (g2 : Int) + 1 by omega] at this
                  exact this
            · intro X hI hd
              obtain ⟨gv, hI⟩ := hI
              have hzv := fun W => zero_gr W
              obtain ⟨ZL, hZL⟩ : ∃ L, L = Z128.map B8 := ⟨_, rfl⟩
              have HBD : Hid (∀ W, (Instr.build 45 #[]).run Try.prog W = .ok (.agg ZL.toArray) W) := by rw [hZL]; exact fun W => build_gr W
              have HEQZ : Hid (∀ W, (Op.equalIn 10000 45 (.agg ZL.toArray) (.agg ZL.toArray)).run Try.prog W = .ok true W) := by rw [hZL]; exact fun W => eq_gr_self W Z128 z128_len
              have HRZ : Hid (∀ X j, RR X ws wb n kw L → j < n → getB L j = Z128 → Calls Try.prog 18 #[.pointer (some ⟨ws, 0, none⟩), .int .i64 (j : Int)] X fun e w' => e = .returned (.agg ZL.toArray) ∧ Below X.heap.size X w') := fun X j hX hj hz => by
                have := HRG.out X j hX hj
                rw [hz, ← hZL] at this
                exact this
              have HI0 : Hid _ := hI
              have HD0 : Hid (X.heap[gx + 1]? = some (.deferred (some []))) := by rw [← hsN]; exact hd
              rw [hsN]
              clear hI hd hZL hzv HIN HRG HEN
              go_wp2
              go_loopw [168] (fun _ wr => ∃ g2, IW w n gx ws wb kw L g2 n wr ∧ wr.heap[gx + 1]? = some (.deferred (some []))) (fun _ wr => n - gAt wr gx)
              case atStart => exact ⟨gv, HI0.out, HD0.out⟩
              case round =>
                clear HI0 HD0
                obtain ⟨g2, hI2, hD2⟩ := hrel
                obtain ⟨hcg, hfg, hcn⟩ := hI2.cells
                have hgk := hI2.gk
                have HI2 : Hid _ := hI2
                have HD2 : Hid _ := hD2
                have hga := hI2.gAt
                have hswr := row_lt hD2
                by_cases hlt : g2 < n
                · have hgn : (g2 : Int) < (n : Int) := by omega
                  have HG2 : Hid _ := HRZ.out wr g2 hI2.rr hlt (hI2.z g2 (Nat.le_refl _) hlt)
                  have heq := fun W => HEQZ.out W
                  clear hI2 hD2
                  go_wp2_with fail
                  refine Calls.mono HG2.out ?_
                  rintro e V ⟨rfl, hbV⟩
                  have HIV : Hid _ := HI2.out.step hbV
                  have HDV : Hid _ := (hbV.block _ hswr).trans HD2.out
                  obtain ⟨hcg2, hfg2, _⟩ := HIV.out.cells
                  clear hbV hcg hfg
                  go_wp2_with (refine wpList_build rfl 45 #[] rfl #[] (.agg ZL.toArray) (by simp) (HBD.out _) ?_)
                  have hz := HIV.out.z
                  have hset := HIV.out.set hgx (by omega) (by omega) (g2 + 1) n (by omega) (fun j h1 h2 => hz j (by omega) h2)
                  rw [show ((g2 + 1 : Nat) : Int) = (g2 : Int) + 1 by omega] at hset
                  refine ⟨⟨g2 + 1, hset, (heap_setCell_other _ _ _ _ (by show gx + 1 ≠ gx; omega)).trans HDV.out⟩, ?_⟩
                  rw [hset.gAt, hga]; omega
                · have hge : g2 = n := by omega
                  subst hge
                  have HC : Hid _ := hI2.c6
                  clear hI2 hD2
                  go_wp2_with fail
                  refine Calls.mono (known_any _) ?_
                  rintro e wk ⟨rfl, hbk⟩
                  have hc6 := HC.out.step hbk
                  have HC5 : Hid _ := hc6.set true
                  have HDK : Hid ((wk.setCell ⟨w.heap.size + 1, 0, none⟩ (.bool true)).heap[gx + 1]? = some (.deferred (some []))) := (heap_setCell_other _ _ _ _ (by show gx + 1 ≠ w.heap.size + 1; omega)).trans ((hbk.block _ hswr).trans HD2.out)
                  obtain ⟨_, hk1, hk2⟩ := hc6.facts
                  clear hc6 hbk hcg hfg hcn
                  go_wp2
                  refine marks_ret (v := .bool true) [gx + 1] _ (fun D hD => ?_) (by simp) (fun w' h1 h2 h3 h4 h5 => ⟨results_bool Try.results4 _ _ (w.heap.size + 1) true rfl (by rw [cell_of_row _ _ 0 _ _ _ ((h5 _ (by simp; omega)).trans HC5.out.rc)]; rfl), rfl, ⟨h2.trans HC5.out.bel.os, h3.trans HC5.out.bel.tape, h4.trans HC5.out.bel.output, by rw [h1]; exact HC5.out.bel.size, fun k hk => (h5 k (by simp; omega)).trans (HC5.out.bel.block k hk)⟩⟩)
                  rw [List.mem_singleton.1 hD]; exact HDK.out
end Go.Proofs.Ytikchlmfklbojaa.MC
