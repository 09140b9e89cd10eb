/- cpu: what the document makes of a text of an instruction: the walk. -/
import Derived.Test.YtkpjfhphohanlaaGreatDoorLV
import Derived.Deep.CutRange
set_option linter.unusedVariables false
set_option linter.unusedSimpArgs false
namespace Go.Proofs.YtkpjfhphohanlaaGreatDoor.JC
open Go.RowKit
open Go.Proofs.YtkpjfhphohanlaaGreatDoor.EC (row_lt heap_at rangeAt_below rangeAt_row ret_bool ret_i64 beq_int)

theorem pv_d {k : Nat} {P : List UInt8} (hk : k < 3) (h : P ≠ []) : pv k P = numR (P.drop 1) := by unfold pv; rw [if_pos ⟨hk, h⟩]
theorem pv_w {k : Nat} {P : List UInt8} (h : ¬ (k < 3 ∧ P ≠ [])) : pv k P = numR P := by unfold pv; rw [if_neg h]
set_option maxHeartbeats 2000000 in
set_option maxRecDepth 100000 in
theorem runtext_short (s : List UInt8) (hl : s.length ≤ 60) (w : World) (hG : GV w) : Calls Tryz.prog 19 #[sV s] w fun e w' => e = .returned (rdRes (unt s)) ∧ Below w.heap.size w w' := by
  have hSP := fun W => split_any s (by omega) W
  have hne := splitR_ne s
  have HNH : Hid (noHit s 18 → unt s = none) := noHit_all
  have HHT : Hid (∀ i, may i = true → txt i = s → unt s = some i) := fun i h1 h2 => unt_hit h1 h2
  have HPL : Hid (∀ A, ((splitR s).getD A []).length ≤ 1000000) := fun A => by
    by_cases h : A < (splitR s).length
    · have := splitR_mem s ((splitR s).getD A []) (by simp [List.getD, List.getElem?_eq_getElem h])
      omega
    · simp [List.getD, List.getElem?_eq_none (by omega : (splitR s).length ≤ A)]
  obtain ⟨S, hS⟩ : ∃ S : ByteArray, S = ⟨s.toArray⟩ := ⟨_, rfl⟩
  have hsz : ¬ (60 : Int) < S.size := by rw [hS]; simp [ByteArray.size]; omega
  unfold sV at hSP ⊢
  rw [← hS] at hSP ⊢
  obtain ⟨ZI, hZI⟩ : ∃ ZI : List Value, ZI = iL iZ := ⟨_, rfl⟩
  have hzi : ∀ W, (zeroValue 41).run Tryz.prog W = .ok (.agg ZI.toArray) W := fun W => by rw [hZI]; exact ins_zero W
  have HBZ : Hid (∀ W, (Instr.build 41 #[]).run Tryz.prog W = .ok (.agg ZI.toArray) W) := fun W => by rw [hZI]; exact bz W
  have HII : Hid (∀ L : List Value, L.length = 5 → (Tryz.prog.info? 41).map (·.size) = some L.toArray.size) := fun L h => by rw [List.size_toArray, h]; exact ins_info iZ
  have HII2 : Hid (∀ L : List Value, L.length = 5 → (Tryz.prog.info? 41).map (·.size) = some L.length) := fun L h => by rw [h]; exact ins_info iZ
  have HZN : Hid (ZI.length = 5) := by rw [hZI]; rfl
  have HZ1 : Hid (ZI.toArray.all (·.oneCell') = true) := by show _ = _; rw [hZI]; exact iL_one _
  have HZA : Hid _ := hZI
  obtain ⟨ZF, hZF⟩ : ∃ L, L = zF := ⟨_, rfl⟩
  have hzv := fun W => zero5 W
  rw [← hZF] at hzv
  have HZFN : Hid (ZF.length = 5) := by rw [hZF]; rfl
  have hb0 : Below w.heap.size w (w.alloc (.cells ZI.toArray 41 (0, 0))) := (Below.refl _ _).alloc (Nat.le_refl _) _
  have hr0 : (w.alloc (.cells ZI.toArray 41 (0, 0))).heap[w.heap.size]? = some (.cells ZI.toArray 41 (0, 0)) := heap_alloc_new _ _
  have HB0 : Hid _ := hb0
  have HR0 : Hid _ := hr0
  have HS : Hid _ := hS
  clear hZI hZF hb0 hr0 hS
  go_enter Tryz.func19, Tryz.ntmps19
  go_wp2_with fail
  refine Calls.mono (hSP _) ?_
  rintro e W1 ⟨v, rfl, hf, hb1⟩
  clear hSP
  obtain ⟨g, cap, rfl, hgb, hglt⟩ := World.ownsRow.form hf hne
  have HPC : Hid (∀ Z, Below W1.heap.size W1 Z → ∀ A, A < (splitR s).length → Z.cell? ⟨g, A, none⟩ = some (sV ((splitR s).getD A []))) := fun Z hZ A hA => fs_at (hf.below hZ) rfl A hA
  have HRW : Hid (∀ Z, Below W1.heap.size W1 Z → Z.heap[w.heap.size]? = some (.cells ZI.toArray 41 (0, 0))) := fun Z hZ => by
    have h1 := (hb1.block _ (row_lt HR0.out)).trans HR0.out
    exact (hZ.block _ (row_lt h1)).trans h1
  have HBW : Hid (∀ Z, Below W1.heap.size W1 Z → Below w.heap.size w Z) := fun Z hZ => by
    have h2 := HB0.out.trans (hb1.mono HB0.out.size)
    exact h2.trans (hZ.mono h2.size)
  have HGW : Hid (∀ Z, Below W1.heap.size W1 Z → GV Z) := fun Z hZ => hG.below (HBW.out Z hZ)
  clear hf hb1 hG hgb hglt HB0 HR0
  obtain ⟨ps, hps⟩ : ∃ ps, ps = splitR s := ⟨_, rfl⟩
  have HPS : Hid (∀ o, cand o s = (cS o ps 4).2) := fun o => by rw [hps]; rfl
  rw [← hps] at HPC HPL hne
  rw [← hps]
  clear hps
  have HPC : Hid _ := HPC
  have HPL : Hid _ := HPL
  go_wp2
  go_loopw [5] (fun o wr => ∃ k : Nat, 1 ≤ k ∧ k ≤ 18 ∧ o = .int .i64 k ∧ noHit s k ∧ Below W1.heap.size W1 wr) (fun o _ => 18 - (intOf o).toNat)
  case atStart => exact ⟨1, by omega, by omega, rfl, noHit_1 s, Below.refl _ _⟩
  case round =>
    obtain ⟨k, hk1, hk, rfl, hNO, hbel⟩ := hrel
    have HNO : Hid _ := hNO
    have HBL : Hid _ := hbel
    clear hNO hbel
    by_cases hlt : k ≤ 17
    · have hki : ((k : Int) ≤ 17) := by omega
      go_wp2_with fail
      refine Calls.mono (of_any (k : Int) _) ?_
      rintro e X2 ⟨rfl, hb2⟩
      have HB2 : Hid (Below W1.heap.size W1 X2) := HBL.out.trans (hb2.mono HBL.out.size)
      clear hb2 HBL
      have HF0 : Hid ((ofL (k : Int))[0]? = some (.bool (fk (k : Int) 0))) := rfl
      have HF1 : Hid ((ofL (k : Int))[1]? = some (.bool (fk (k : Int) 1))) := rfl
      have HF2 : Hid ((ofL (k : Int))[2]? = some (.bool (fk (k : Int) 2))) := rfl
      have HF3 : Hid ((ofL (k : Int))[3]? = some (.bool (fk (k : Int) 3))) := rfl
      have HFN : Hid ((ofL (k : Int)).length = 5) := rfl
      have HFO : Hid ((ofL (k : Int)).toArray.all (·.oneCell') = true) := fL_one _ _ _ _ _
      generalize ofL (k : Int) = FL at *
      have HQ1 : Hid ((X2.alloc (.cells ZF.toArray 88 (0, 0))).heap[X2.heap.size]? = some (.cells ZF.toArray 88 (0, 0))) := heap_alloc_new _ _
      go_upto_region 8 with (refine wpList_strL rfl 88 _ _ rfl X2.heap.size FL.toArray rfl rfl 88 ZF.toArray HQ1.out (info5a FL HFN.out) (by simp [HZFN.out, HFN.out]) HFO.out ?_; intro Y eY)
      obtain ⟨pY, rY⟩ := put_row X2 ZF FL 88
      rw [← eY] at pY rY
      have HBY : Hid (Below W1.heap.size W1 Y) := HB2.out.trans (pY.mono HB2.out.size)
      have HRY : Hid _ := rY
      clear eY pY rY HQ1 HB2
      have hbi := fun W => bop (k : Int) W
      have HIL : Hid ((iL ⟨k, 0, 0, 0, 0⟩).length = 5) := rfl
      have HI1 : Hid ((iL ⟨k, 0, 0, 0, 0⟩).toArray.all (·.oneCell') = true) := iL_one _
      obtain ⟨IK, hIK⟩ : ∃ L, L = iL ⟨(k : Int), 0, 0, 0, 0⟩ := ⟨_, rfl⟩
      rw [← hIK] at hbi HIL HI1
      have HBI : Hid _ := hbi
      have HIK : Hid _ := hIK
      clear hbi hIK
      have HQ2 : Hid ((Y.alloc (.cells ZI.toArray 41 (0, 0))).heap[Y.heap.size]? = some (.cells ZI.toArray 41 (0, 0))) := heap_alloc_new _ _
      go_upto_region 9 with (first
        | (refine wpList_build rfl 41 #[(0, .tmp 24)] rfl #[(0, .int .i64 (k : Int))] (.agg IK.toArray) (by simp [Act.eval]) (HBI.out _) ?_)
        | (refine wpList_strL rfl 41 _ _ rfl Y.heap.size IK.toArray rfl rfl 41 ZI.toArray HQ2.out (HII.out IK HIL.out) (by simp [HZN.out, HIL.out]) HI1.out ?_; intro Z eZ))
      obtain ⟨pZ, rZ⟩ := put_row Y ZI IK 41
      rw [← eZ] at pZ rZ
      have HBZ2 : Hid (Below W1.heap.size W1 Z) := HBY.out.trans (pZ.mono HBY.out.size)
      have HRF := (pZ.block _ (row_lt HRY.out)).trans HRY.out
      have f0 := (fields5 _ _ _ _ _ HRF 0).trans ((List.getElem?_toArray ..).trans HF0.out)
      have f1 := (fields5 _ _ _ _ _ HRF 1).trans ((List.getElem?_toArray ..).trans HF1.out)
      have f2 := (fields5 _ _ _ _ _ HRF 2).trans ((List.getElem?_toArray ..).trans HF2.out)
      have f3 := (fields5 _ _ _ _ _ HRF 3).trans ((List.getElem?_toArray ..).trans HF3.out)
      have HRZ : Hid _ := rZ
      have HYL : Hid (W1.heap.size ≤ Y.heap.size) := HBY.out.size
      have HBS : Hid (∀ W, _) := fun W => bb4 (fk (k : Int) 0) (fk (k : Int) 1) (fk (k : Int) 2) (fk (k : Int) 3) W
      clear eZ pZ rZ HQ2 HRF HRY HBY HF0 HF1 HF2 HF3 HFN HFO
      have hbs := HBS.out
      go_upto_region 11 with (refine wpList_bslice rfl 90 4 #[(0, .tmp 27), (1, .tmp 29), (2, .tmp 31), (3, .tmp 33)] rfl #[(0, .bool (fk (k : Int) 0)), (1, .bool (fk (k : Int) 1)), (2, .bool (fk (k : Int) 2)), (3, .bool (fk (k : Int) 3))] _ (by simp [Act.eval]) (HBS.out _) ?_)
      have hU0 : UR W1 Y.heap.size Z.heap.size IK [.bool (fk (k : Int) 0), .bool (fk (k : Int) 1), .bool (fk (k : Int) 2), .bool (fk (k : Int) 3)] (Z.alloc (.cells #[.bool (fk (k : Int) 0), .bool (fk (k : Int) 1), .bool (fk (k : Int) 2), .bool (fk (k : Int) 3)] 4 (0, 0))) := ⟨HBZ2.out.alloc HBZ2.out.size _, HYL.out, by have := row_lt HRZ.out; omega, (heap_alloc_old _ _ (row_lt HRZ.out)).trans HRZ.out, heap_alloc_new _ _⟩
      have HU0 : Hid _ := hU0
      clear hU0 HRZ HYL HBZ2 f0 f1 f2 f3 hbs HBS
      generalize (Z.alloc (.cells #[.bool (fk (k : Int) 0), .bool (fk (k : Int) 1), .bool (fk (k : Int) 2), .bool (fk (k : Int) 3)] 4 (0, 0))) = Z1 at *
      generalize Z.heap.size = bb at *
      generalize Y.heap.size = ib at *
      have HCA : Hid (∀ (A : Nat) (I : Ins), cS (k : Int) ps 4 = (A, I) → cand (k : Int) s = I) := fun A I h => by rw [HPS.out, h]
      obtain ⟨BS, hBS⟩ : ∃ L : List Value, L = [.bool (fk (k : Int) 0), .bool (fk (k : Int) 1), .bool (fk (k : Int) 2), .bool (fk (k : Int) 3)] := ⟨_, rfl⟩
      have HBS0 : Hid (BS[0]? = some (.bool (fk (k : Int) 0))) := by show _ = _; rw [hBS]; rfl
      have HBS1 : Hid (BS[1]? = some (.bool (fk (k : Int) 1))) := by show _ = _; rw [hBS]; rfl
      have HBS2 : Hid (BS[2]? = some (.bool (fk (k : Int) 2))) := by show _ = _; rw [hBS]; rfl
      have HBS3 : Hid (BS[3]? = some (.bool (fk (k : Int) 3))) := by show _ = _; rw [hBS]; rfl
      rw [← hBS] at HU0
      clear HBI HIL HI1 hsz hBS
      go_wp2
      go_loopw [8, 10] (fun a j wr => ∃ (n A : Nat) (I : Ins), n ≤ 4 ∧ cS (k : Int) ps n = (A, I) ∧ a = .int .i64 A ∧ j = .int .i64 n ∧ UR W1 ib bb (iL I) BS wr) (fun _ j _ => 4 - (intOf j).toNat)
      case atStart => exact ⟨0, 1, ⟨(k : Int), 0, 0, 0, 0⟩, by omega, rfl, rfl, rfl, by rw [← HIK.out]; exact HU0.out⟩
      case round =>
        obtain ⟨n, A, I, hn, hAI, rfl, rfl, hU⟩ := hrel
        have HU : Hid _ := hU
        have HAI : Hid _ := hAI
        clear hU hAI HU0 HIK
        by_cases hn4 : n < 4
        · clear HNO HCA HNH HHT HRW HBW HGW HPS HS HII HII2
          obtain rfl | rfl | rfl | rfl : n = 0 ∨ n = 1 ∨ n = 2 ∨ n = 3 := by omega
          · skip
            have hcc := HU.out.cb 0 _ (HBS0.out)
            have hA4 : A ≤ 4 := by have := cS_at (k : Int) ps 0; rw [HAI.out] at this; simp only at this; omega
            by_cases hon : fk (k : Int) 0 = true ∧ A < ps.length
            · obtain ⟨hfk, hlA⟩ := hon
              rw [hfk] at hcc
              have HS : Hid (cS (k : Int) ps 1 = (A + 1, setI I 0 (pv 0 (ps.getD A [])))) := cS_on HAI.out hfk hlA
              have hcp := HPC.out _ HU.out.bel A hlA
              have hlP := HPL.out A
              have hiA : (A : Int) < ps.length := by omega
              have hiB : ¬ (ps.length : Int) ≤ A := by omega
              clear hfk
              generalize ps.getD A [] = P at *
              have hN1 := fun W => number_any P hlP W
              have hN2 := fun W => number_any (P.drop 1) (by simp; omega) W
              obtain ⟨NV, hNV⟩ : ∃ n, n = numR (P.drop 1) := ⟨_, rfl⟩
              rw [← hNV] at hN2
              have HNV : Hid _ := hNV
              obtain ⟨PS, hPS⟩ : ∃ PS : ByteArray, PS = ⟨P.toArray⟩ := ⟨_, rfl⟩
              have hpz : PS.size = P.length := by rw [hPS]; simp [ByteArray.size]
              have hxd : PS.extract 1 PS.size = ⟨(P.drop 1).toArray⟩ := by rw [hpz, hPS]; exact ext_drop P 1
              unfold sV at hcp hN1 hN2
              rw [← hPS] at hcp hN1
              rw [← hxd] at hN2
              clear hxd hPS hlP hNV
              by_cases hP : P = []
              · have hw : ¬ (0 < 3 ∧ P ≠ []) := fun h => h.2 hP
                have hp0 : ¬ (0 : Int) < PS.size := by rw [hpz, hP]; simp
                clear hP hpz
                have HS2 : Hid (cS (k : Int) ps 1 = (A + 1, setI I 0 (numR P))) := by show _ = _; rw [HS.out, pv_w hw]
                have HIS : Hid _ := iL_set I 0 (by decide) (numR P)
                clear HS hw
                go_wp2_with fail
                refine Calls.mono (hN1 _) ?_
                rintro e wq ⟨rfl, rfl⟩
                clear hN1 hN2
                go_wp2_with (refine wpList_sti3 rfl (.tmp 79) (.tmp 78) rfl ib 1 (numR P) rfl rfl (iL I) 41 HU.out.i (by rw [iL_n]; decide) ?_; intro W3 e3)
                exact ⟨⟨1, A + 1, setI I 0 (numR P), by omega, HS2.out, by go_num, by go_num, by rw [HIS.out]; (try rw [e3]); exact HU.out.set 1 _⟩, by first | (simp [intOf]; done) | (simp [intOf]; omega)⟩
              · have hpl : 0 < P.length := by cases P with | nil => exact absurd rfl hP | cons x l => simp
                have hp0 : (0 : Int) < PS.size := by rw [hpz]; omega
                have hp1 : (1 : Int) ≤ PS.size := by rw [hpz]; omega
                clear hpz hpl
                have HS2 : Hid (cS (k : Int) ps 1 = (A + 1, setI I 0 NV)) := by show _ = _; rw [HS.out, pv_d (by decide) hP, ← HNV.out]
                have HIS : Hid _ := iL_set I 0 (by decide) NV
                clear HS hP HNV
                go_wp2_with fail
                refine Calls.mono (hN1 _) ?_
                rintro e wq ⟨rfl, rfl⟩
                clear hN1
                go_wp2_with fail
                refine Calls.mono (hN2 _) ?_
                rintro e wq ⟨rfl, rfl⟩
                clear hN2
                go_wp2_with (refine wpList_sti3 rfl (.tmp 79) (.tmp 78) rfl ib 1 (NV) rfl rfl (iL I) 41 HU.out.i (by rw [iL_n]; decide) ?_; intro W3 e3)
                exact ⟨⟨1, A + 1, setI I 0 (NV), by omega, HS2.out, by go_num, by go_num, by rw [HIS.out]; (try rw [e3]); exact HU.out.set 1 _⟩, by first | (simp [intOf]; done) | (simp [intOf]; omega)⟩
            · clear HPC HPL
              cases hfk : fk (k : Int) 0
              · rw [hfk] at hcc
                have HS : Hid (cS (k : Int) ps 1 = (A, I)) := cS_no HAI.out (by rw [hfk]; simp)
                clear hon hfk
                go_wp2
                exact ⟨⟨1, A, I, by omega, HS.out, rfl, by go_num, HU.out⟩, by first | (simp [intOf]; done) | (simp [intOf]; omega)⟩
              · rw [hfk] at hcc
                have hge : (ps.length : Int) ≤ A := by have : ¬ A < ps.length := fun h => hon ⟨hfk, h⟩; omega
                have HS : Hid (cS (k : Int) ps 1 = (A, I)) := cS_no HAI.out (fun h => hon h)
                clear hon hfk
                go_wp2
                exact ⟨⟨1, A, I, by omega, HS.out, rfl, by go_num, HU.out⟩, by first | (simp [intOf]; done) | (simp [intOf]; omega)⟩
          · skip
            have hcc := HU.out.cb 1 _ (HBS1.out)
            have hA4 : A ≤ 4 := by have := cS_at (k : Int) ps 1; rw [HAI.out] at this; simp only at this; omega
            by_cases hon : fk (k : Int) 1 = true ∧ A < ps.length
            · obtain ⟨hfk, hlA⟩ := hon
              rw [hfk] at hcc
              have HS : Hid (cS (k : Int) ps 2 = (A + 1, setI I 1 (pv 1 (ps.getD A [])))) := cS_on HAI.out hfk hlA
              have hcp := HPC.out _ HU.out.bel A hlA
              have hlP := HPL.out A
              have hiA : (A : Int) < ps.length := by omega
              have hiB : ¬ (ps.length : Int) ≤ A := by omega
              clear hfk
              generalize ps.getD A [] = P at *
              have hN1 := fun W => number_any P hlP W
              have hN2 := fun W => number_any (P.drop 1) (by simp; omega) W
              obtain ⟨NV, hNV⟩ : ∃ n, n = numR (P.drop 1) := ⟨_, rfl⟩
              rw [← hNV] at hN2
              have HNV : Hid _ := hNV
              obtain ⟨PS, hPS⟩ : ∃ PS : ByteArray, PS = ⟨P.toArray⟩ := ⟨_, rfl⟩
              have hpz : PS.size = P.length := by rw [hPS]; simp [ByteArray.size]
              have hxd : PS.extract 1 PS.size = ⟨(P.drop 1).toArray⟩ := by rw [hpz, hPS]; exact ext_drop P 1
              unfold sV at hcp hN1 hN2
              rw [← hPS] at hcp hN1
              rw [← hxd] at hN2
              clear hxd hPS hlP hNV
              by_cases hP : P = []
              · have hw : ¬ (1 < 3 ∧ P ≠ []) := fun h => h.2 hP
                have hp0 : ¬ (0 : Int) < PS.size := by rw [hpz, hP]; simp
                clear hP hpz
                have HS2 : Hid (cS (k : Int) ps 2 = (A + 1, setI I 1 (numR P))) := by show _ = _; rw [HS.out, pv_w hw]
                have HIS : Hid _ := iL_set I 1 (by decide) (numR P)
                clear HS hw
                go_wp2_with fail
                refine Calls.mono (hN1 _) ?_
                rintro e wq ⟨rfl, rfl⟩
                clear hN1 hN2
                go_wp2_with (refine wpList_sti3 rfl (.tmp 83) (.tmp 82) rfl ib 2 (numR P) rfl rfl (iL I) 41 HU.out.i (by rw [iL_n]; decide) ?_; intro W3 e3)
                exact ⟨⟨2, A + 1, setI I 1 (numR P), by omega, HS2.out, by go_num, by go_num, by rw [HIS.out]; (try rw [e3]); exact HU.out.set 2 _⟩, by first | (simp [intOf]; done) | (simp [intOf]; omega)⟩
              · have hpl : 0 < P.length := by cases P with | nil => exact absurd rfl hP | cons x l => simp
                have hp0 : (0 : Int) < PS.size := by rw [hpz]; omega
                have hp1 : (1 : Int) ≤ PS.size := by rw [hpz]; omega
                clear hpz hpl
                have HS2 : Hid (cS (k : Int) ps 2 = (A + 1, setI I 1 NV)) := by show _ = _; rw [HS.out, pv_d (by decide) hP, ← HNV.out]
                have HIS : Hid _ := iL_set I 1 (by decide) NV
                clear HS hP HNV
                go_wp2_with fail
                refine Calls.mono (hN1 _) ?_
                rintro e wq ⟨rfl, rfl⟩
                clear hN1
                go_wp2_with fail
                refine Calls.mono (hN2 _) ?_
                rintro e wq ⟨rfl, rfl⟩
                clear hN2
                go_wp2_with (refine wpList_sti3 rfl (.tmp 83) (.tmp 82) rfl ib 2 (NV) rfl rfl (iL I) 41 HU.out.i (by rw [iL_n]; decide) ?_; intro W3 e3)
                exact ⟨⟨2, A + 1, setI I 1 (NV), by omega, HS2.out, by go_num, by go_num, by rw [HIS.out]; (try rw [e3]); exact HU.out.set 2 _⟩, by first | (simp [intOf]; done) | (simp [intOf]; omega)⟩
            · clear HPC HPL
              cases hfk : fk (k : Int) 1
              · rw [hfk] at hcc
                have HS : Hid (cS (k : Int) ps 2 = (A, I)) := cS_no HAI.out (by rw [hfk]; simp)
                clear hon hfk
                go_wp2
                exact ⟨⟨2, A, I, by omega, HS.out, rfl, by go_num, HU.out⟩, by first | (simp [intOf]; done) | (simp [intOf]; omega)⟩
              · rw [hfk] at hcc
                have hge : (ps.length : Int) ≤ A := by have : ¬ A < ps.length := fun h => hon ⟨hfk, h⟩; omega
                have HS : Hid (cS (k : Int) ps 2 = (A, I)) := cS_no HAI.out (fun h => hon h)
                clear hon hfk
                go_wp2
                exact ⟨⟨2, A, I, by omega, HS.out, rfl, by go_num, HU.out⟩, by first | (simp [intOf]; done) | (simp [intOf]; omega)⟩
          · skip
            have hcc := HU.out.cb 2 _ (HBS2.out)
            have hA4 : A ≤ 4 := by have := cS_at (k : Int) ps 2; rw [HAI.out] at this; simp only at this; omega
            by_cases hon : fk (k : Int) 2 = true ∧ A < ps.length
            · obtain ⟨hfk, hlA⟩ := hon
              rw [hfk] at hcc
              have HS : Hid (cS (k : Int) ps 3 = (A + 1, setI I 2 (pv 2 (ps.getD A [])))) := cS_on HAI.out hfk hlA
              have hcp := HPC.out _ HU.out.bel A hlA
              have hlP := HPL.out A
              have hiA : (A : Int) < ps.length := by omega
              have hiB : ¬ (ps.length : Int) ≤ A := by omega
              clear hfk
              generalize ps.getD A [] = P at *
              have hN1 := fun W => number_any P hlP W
              have hN2 := fun W => number_any (P.drop 1) (by simp; omega) W
              obtain ⟨NV, hNV⟩ : ∃ n, n = numR (P.drop 1) := ⟨_, rfl⟩
              rw [← hNV] at hN2
              have HNV : Hid _ := hNV
              obtain ⟨PS, hPS⟩ : ∃ PS : ByteArray, PS = ⟨P.toArray⟩ := ⟨_, rfl⟩
              have hpz : PS.size = P.length := by rw [hPS]; simp [ByteArray.size]
              have hxd : PS.extract 1 PS.size = ⟨(P.drop 1).toArray⟩ := by rw [hpz, hPS]; exact ext_drop P 1
              unfold sV at hcp hN1 hN2
              rw [← hPS] at hcp hN1
              rw [← hxd] at hN2
              clear hxd hPS hlP hNV
              by_cases hP : P = []
              · have hw : ¬ (2 < 3 ∧ P ≠ []) := fun h => h.2 hP
                have hp0 : ¬ (0 : Int) < PS.size := by rw [hpz, hP]; simp
                clear hP hpz
                have HS2 : Hid (cS (k : Int) ps 3 = (A + 1, setI I 2 (numR P))) := by show _ = _; rw [HS.out, pv_w hw]
                have HIS : Hid _ := iL_set I 2 (by decide) (numR P)
                clear HS hw
                go_wp2_with fail
                refine Calls.mono (hN1 _) ?_
                rintro e wq ⟨rfl, rfl⟩
                clear hN1 hN2
                go_wp2_with (refine wpList_sti3 rfl (.tmp 87) (.tmp 86) rfl ib 3 (numR P) rfl rfl (iL I) 41 HU.out.i (by rw [iL_n]; decide) ?_; intro W3 e3)
                exact ⟨⟨3, A + 1, setI I 2 (numR P), by omega, HS2.out, by go_num, by go_num, by rw [HIS.out]; (try rw [e3]); exact HU.out.set 3 _⟩, by first | (simp [intOf]; done) | (simp [intOf]; omega)⟩
              · have hpl : 0 < P.length := by cases P with | nil => exact absurd rfl hP | cons x l => simp
                have hp0 : (0 : Int) < PS.size := by rw [hpz]; omega
                have hp1 : (1 : Int) ≤ PS.size := by rw [hpz]; omega
                clear hpz hpl
                have HS2 : Hid (cS (k : Int) ps 3 = (A + 1, setI I 2 NV)) := by show _ = _; rw [HS.out, pv_d (by decide) hP, ← HNV.out]
                have HIS : Hid _ := iL_set I 2 (by decide) NV
                clear HS hP HNV
                go_wp2_with fail
                refine Calls.mono (hN1 _) ?_
                rintro e wq ⟨rfl, rfl⟩
                clear hN1
                go_wp2_with fail
                refine Calls.mono (hN2 _) ?_
                rintro e wq ⟨rfl, rfl⟩
                clear hN2
                go_wp2_with (refine wpList_sti3 rfl (.tmp 87) (.tmp 86) rfl ib 3 (NV) rfl rfl (iL I) 41 HU.out.i (by rw [iL_n]; decide) ?_; intro W3 e3)
                exact ⟨⟨3, A + 1, setI I 2 (NV), by omega, HS2.out, by go_num, by go_num, by rw [HIS.out]; (try rw [e3]); exact HU.out.set 3 _⟩, by first | (simp [intOf]; done) | (simp [intOf]; omega)⟩
            · clear HPC HPL
              cases hfk : fk (k : Int) 2
              · rw [hfk] at hcc
                have HS : Hid (cS (k : Int) ps 3 = (A, I)) := cS_no HAI.out (by rw [hfk]; simp)
                clear hon hfk
                go_wp2
                exact ⟨⟨3, A, I, by omega, HS.out, rfl, by go_num, HU.out⟩, by first | (simp [intOf]; done) | (simp [intOf]; omega)⟩
              · rw [hfk] at hcc
                have hge : (ps.length : Int) ≤ A := by have : ¬ A < ps.length := fun h => hon ⟨hfk, h⟩; omega
                have HS : Hid (cS (k : Int) ps 3 = (A, I)) := cS_no HAI.out (fun h => hon h)
                clear hon hfk
                go_wp2
                exact ⟨⟨3, A, I, by omega, HS.out, rfl, by go_num, HU.out⟩, by first | (simp [intOf]; done) | (simp [intOf]; omega)⟩
          · skip
            have hcc := HU.out.cb 3 _ (HBS3.out)
            have hA4 : A ≤ 4 := by have := cS_at (k : Int) ps 3; rw [HAI.out] at this; simp only at this; omega
            by_cases hon : fk (k : Int) 3 = true ∧ A < ps.length
            · obtain ⟨hfk, hlA⟩ := hon
              rw [hfk] at hcc
              have HS : Hid (cS (k : Int) ps 4 = (A + 1, setI I 3 (pv 3 (ps.getD A [])))) := cS_on HAI.out hfk hlA
              have hcp := HPC.out _ HU.out.bel A hlA
              have hlP := HPL.out A
              have hiA : (A : Int) < ps.length := by omega
              have hiB : ¬ (ps.length : Int) ≤ A := by omega
              clear hfk
              generalize ps.getD A [] = P at *
              have hN1 := fun W => number_any P hlP W
              have hN2 := fun W => number_any (P.drop 1) (by simp; omega) W
              obtain ⟨NV, hNV⟩ : ∃ n, n = numR (P.drop 1) := ⟨_, rfl⟩
              rw [← hNV] at hN2
              have HNV : Hid _ := hNV
              obtain ⟨PS, hPS⟩ : ∃ PS : ByteArray, PS = ⟨P.toArray⟩ := ⟨_, rfl⟩
              have hpz : PS.size = P.length := by rw [hPS]; simp [ByteArray.size]
              have hxd : PS.extract 1 PS.size = ⟨(P.drop 1).toArray⟩ := by rw [hpz, hPS]; exact ext_drop P 1
              unfold sV at hcp hN1 hN2
              rw [← hPS] at hcp hN1
              rw [← hxd] at hN2
              clear hxd hPS hlP hNV
              have hw : ¬ (3 < 3 ∧ P ≠ []) := fun h => absurd h.1 (by decide)
              clear hpz
              have HS2 : Hid (cS (k : Int) ps 4 = (A + 1, setI I 3 (numR P))) := by show _ = _; rw [HS.out, pv_w hw]
              have HIS : Hid _ := iL_set I 3 (by decide) (numR P)
              clear HS hw
              go_wp2_with fail
              refine Calls.mono (hN1 _) ?_
              rintro e wq ⟨rfl, rfl⟩
              clear hN1 hN2
              go_wp2_with (refine wpList_sti2 rfl (.tmp 75) (.tmp 74) rfl ib 4 (numR P) rfl rfl (iL I) 41 HU.out.i (by rw [iL_n]; decide) ?_; intro W3 e3)
              exact ⟨⟨4, A + 1, setI I 3 (numR P), by omega, HS2.out, by go_num, by go_num, by rw [HIS.out]; (try rw [e3]); exact HU.out.set 4 _⟩, by first | (simp [intOf]; done) | (simp [intOf]; omega)⟩
            · clear HPC HPL
              cases hfk : fk (k : Int) 3
              · rw [hfk] at hcc
                have HS : Hid (cS (k : Int) ps 4 = (A, I)) := cS_no HAI.out (by rw [hfk]; simp)
                clear hon hfk
                go_wp2
                exact ⟨⟨4, A, I, by omega, HS.out, rfl, by go_num, HU.out⟩, by first | (simp [intOf]; done) | (simp [intOf]; omega)⟩
              · rw [hfk] at hcc
                have hge : (ps.length : Int) ≤ A := by have : ¬ A < ps.length := fun h => hon ⟨hfk, h⟩; omega
                have HS : Hid (cS (k : Int) ps 4 = (A, I)) := cS_no HAI.out (fun h => hon h)
                clear hon hfk
                go_wp2
                exact ⟨⟨4, A, I, by omega, HS.out, rfl, by go_num, HU.out⟩, by first | (simp [intOf]; done) | (simp [intOf]; omega)⟩
        · have hn5 : n = 4 := by omega
          subst hn5
          have HCI : Hid (cand (k : Int) s = I) := HCA.out A I HAI.out
          have hM := fun W => rmay_any I W
          have hT := fun W hm hW => rtext_ok I hm W hW
          rw [show iV I = .agg (iL I).toArray from rfl] at hM hT
          have HT : Hid _ := hT
          have HIV : Hid (.agg (iL I).toArray = iV I) := rfl
          have HLN : Hid ((iL I).length = 5) := rfl
          have HL1 : Hid ((iL I).toArray.all (·.oneCell') = true) := iL_one I
          obtain ⟨IL, hIL⟩ : ∃ L, L = iL I := ⟨_, rfl⟩
          rw [← hIL] at hM HT HU HIV HLN HL1
          clear hT HAI HCA HBS0 HBS1 HBS2 HBS3 HPC HPL HNH HPS hIL hn4 hn
          go_wp2_with (refine wpList_load_mid rfl 41 _ rfl ib 0 rfl IL _ (rangeAt_row HU.out.i) Tryz.underlying41 rfl (HII2.out _ HLN.out) ?_)
          refine Calls.mono (hM _) ?_
          rintro e W5 ⟨rfl, hb5⟩
          have HU5 : Hid _ := HU.out.below hb5
          clear hb5 HU hM
          cases hm : may I
          · have HNN : Hid (noHit s (k + 1)) := noHit_step HNO.out (by rw [HCI.out, hm]; simp)
            clear hm HNO
            go_wp2
            exact ⟨⟨k + 1, by omega, by omega, by go_num, HNN.out, HU5.out.bel⟩, by first | (simp [intOf]; done) | (simp [intOf]; omega)⟩
          · have hT := fun W hW => HT.out W hm hW
            by_cases ht : txt I = s
            · have HUS : Hid (unt s = some I) := HHT.out I hm ht
              have hTS : sV (txt I) = .string S := by rw [ht, HS.out]; rfl
              rw [hTS] at hT
              clear hTS ht hm HHT HNO HT HS
              go_wp2_with (refine load_row_g (by rfl) 41 _ rfl ib 0 rfl IL _ (rangeAt_row HU5.out.i) Tryz.underlying41 rfl (HII2.out _ HLN.out) ?_)
              refine Calls.mono (hT _ (HGW.out _ HU5.out.bel)) ?_
              rintro e W6 ⟨rfl, hb6⟩
              have HU6 : Hid _ := HU5.out.below hb6
              have HR6 : Hid _ := HRW.out _ HU6.out.bel
              have HB6 : Hid _ := HBW.out _ HU6.out.bel
              clear hb6 HU5 hT HGW HRW HBW
              go_wp2_with (first
                | (refine wpList_load_mid rfl 41 _ rfl ib 0 rfl IL _ (rangeAt_row HU6.out.i) Tryz.underlying41 rfl (HII2.out _ HLN.out) ?_)
                | (refine wpList_store_row rfl 41 _ _ rfl w.heap.size IL.toArray rfl rfl 41 ZI.toArray HR6.out (HII.out IL HLN.out) (by simp [HZN.out, HLN.out]) HL1.out ?_))
              refine bodyPost_ret (v := .tuple #[.agg IL.toArray, .bool true]) (results2 Tryz.results19 _ _ w.heap.size 41 IL (0, 0) _ rfl rfl (setRow_heap _ _ _ _ _ _ HR6.out) Tryz.underlying41 rfl (HII2.out IL HLN.out)) rfl ⟨?_, below_setRow HB6.out (Nat.le_refl _) _⟩
              rw [HUS.out, HIV.out]; rfl
            · have HNN : Hid (noHit s (k + 1)) := noHit_step HNO.out (by rw [HCI.out]; exact fun h => ht h.2)
              obtain ⟨TS, hTS⟩ : ∃ TS : ByteArray, TS = ⟨(txt I).toArray⟩ := ⟨_, rfl⟩
              have hne : (TS.toList == S.toList) = false := by
                rw [hTS, HS.out]
                simpa using ht
              unfold sV at hT
              rw [← hTS] at hT
              clear hTS ht hm HHT HNO HT HS
              go_wp2_with (refine load_row_g (by rfl) 41 _ rfl ib 0 rfl IL _ (rangeAt_row HU5.out.i) Tryz.underlying41 rfl (HII2.out _ HLN.out) ?_)
              refine Calls.mono (hT _ (HGW.out _ HU5.out.bel)) ?_
              rintro e W6 ⟨rfl, hb6⟩
              have HU6 : Hid _ := HU5.out.below hb6
              clear hb6 HU5 hT HGW
              go_wp2
              exact ⟨⟨k + 1, by omega, by omega, by go_num, HNN.out, HU6.out.bel⟩, by first | (simp [intOf]; done) | (simp [intOf]; omega)⟩
    · have hke : k = 18 := by omega
      subst hke
      have HUN : Hid (unt s = none) := HNH.out HNO.out
      have HR : Hid _ := HRW.out _ HBL.out
      have HB : Hid _ := HBW.out _ HBL.out
      go_wp2_with (first
        | (refine wpList_build rfl 41 #[] rfl #[] (.agg ZI.toArray) (by simp) (HBZ.out _) ?_)
        | (refine wpList_store_row rfl 41 _ _ rfl w.heap.size ZI.toArray rfl rfl 41 ZI.toArray HR.out (HII.out ZI HZN.out) rfl HZ1.out ?_))
      refine bodyPost_ret (v := .tuple #[.agg ZI.toArray, .bool false]) (results2 Tryz.results19 _ _ w.heap.size 41 ZI (0, 0) _ rfl rfl (setRow_heap _ _ _ _ _ _ HR.out) Tryz.underlying41 rfl (HII2.out ZI HZN.out)) rfl ⟨?_, below_setRow HB.out (Nat.le_refl _) _⟩
      rw [HUN.out, HZA.out]; rfl
end Go.Proofs.YtkpjfhphohanlaaGreatDoor.JC
