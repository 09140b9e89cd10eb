/- CpuBack: for any instruction, state, number and words, the tables of the program's as its text lays them, the statement's function answers true. -/
import Derived.Test.YtkpjfhphohanlaaDoorNE
import Derived.Test.YtkpjfhphohanlaaDoorLX
set_option linter.unusedVariables false
set_option linter.unusedSimpArgs false
namespace Go.Proofs.YtkpjfhphohanlaaDoor.cpuBack
open Go.ChangeShapes Go.WideShapes Go.ChangeAt Go.RowKit
open Go.Proofs.YtkpjfhphohanlaaDoor.JC
open Go.Proofs.YtkpjfhphohanlaaDoor.EC (row_lt heap_at rangeAt_below rangeAt_row ret_bool ret_i64 beq_int)

theorem load_mid_g {ops : Array Oper} {rest : List Oper} {o : Oper} {a : Act} {w : World} {Q : Exit → Act → World → Prop} (hw : Region.wanted o (yielded ops a.tmps) = true) (ty : TypeId) (x : Operand) (ho : o.op = .load ty x)
    (b off : Nat) (hx : a.eval x = .pointer (some ⟨b, off, none⟩)) (cs : List Value) (d : TypeDesc) (hc : w.rangeAt b off cs) (hu : Tryd.prog.underlying ty = some d) (hd : d.isRow = true) (hi : (Tryd.prog.info? ty).map (·.size) = some cs.length)
    (h : wpList Tryd.prog ops Q rest (a.put o.dst (.agg cs.toArray)) w) : wpList Tryd.prog ops Q (o :: rest) a w :=
  wpList_step fun K hK => by rw [if_pos hw]; exact wp_load_mid ty x ho b off hx cs d hc hu hd hi (hK _ _ h)
theorem dif_le (a b : List Int) : ∀ k, dif a b k ≤ k
  | 0 => Nat.le_refl _
  | k + 1 => by
    have h := dif_le a b k
    unfold dif
    split <;> omega
set_option maxHeartbeats 4000000 in
set_option maxRecDepth 100000 in
theorem walk (i : Ins) (s : St) (ld : Int) (v : Value) (ls : List Int) (w : World) (hi : iwf i) (hs : swf s) (hx : (Lit.int .u64 ld).wf = true) (hll : ls.length ≤ 9223372036854775807) (hv : HU w v ls) (hG : GV w) : Calls Tryd.prog 7 #[.agg (iL i).toArray, .agg (sL s).toArray, .int .u64 ld, v] w fun e w' => e = .returned (.bool true) ∧ Below w.heap.size w w' := by
  have HK : Hid (∀ W, GV W → Calls Tryd.prog 13 #[] W fun e w' => e = .returned (.bool true) ∧ Below W.heap.size W w') := fun W hW => known_any W hW
  have hu : u64 ld := JC.bounds_u64 hx
  obtain ⟨pv, cv, rfl, hcv, hrv⟩ := id hv
  have HUS : Hid (∀ x ∈ ls, u64 x) := fun x hx => by
    obtain ⟨j, hj⟩ := List.getElem?_of_mem hx
    exact (hrv j x hj).1
  have HV : Hid (HU w (.slice pv ls.length cv) ls) := hv
  clear hv hrv hcv
  have hP := fun W => do_any s hs i hi ld hu W
  have hwf := doR_wf hs i ld hu
  have H81 : Hid (dif (doR s i ld).1.rs s.rs 8 ≤ 1) := doR_one s i ld
  have HDL : Hid (∀ k, dif (doR s i ld).1.rs s.rs k ≤ k) := dif_le _ _
  have HAR : Hid (∀ k, k < 8 → (sL (doR s i ld).1)[k]? = some (U ((doR s i ld).1.rs.getD k 0))) := fun k hk => sL_reg hwf k hk
  have HCR : Hid (∀ k, k < 8 → (sL s)[k]? = some (U (s.rs.getD k 0))) := fun k hk => sL_reg hs k hk
  have HAN : Hid ((sL (doR s i ld).1).length = 9) := sL_len hwf
  have HA1 : Hid _ := sL_one (doR s i ld).1
  have HCN : Hid ((sL s).length = 9) := sL_len hs
  have HEN : Hid ((eL (doR s i ld).2.1 (doR s i ld).2.2).length = 2) := rfl
  have HE1 : Hid _ := eL_one (doR s i ld).2.1 (doR s i ld).2.2
  have hq := fun W => eqIns W i
  obtain ⟨ZI, hZI⟩ : ∃ ZI : List Value, ZI = iL iZ := ⟨_, rfl⟩
  have hzi : ∀ W, (zeroValue 24).run Tryd.prog W = .ok (.agg ZI.toArray) W := fun W => by rw [hZI]; exact ins_zero W
  obtain ⟨ZC, hZC⟩ : ∃ ZC : List Value, ZC = Z9 := ⟨_, rfl⟩
  have hz9 : ∀ W, (zeroValue 45).run Tryd.prog W = .ok (.agg ZC.toArray) W := fun W => by rw [hZC]; exact zero9 W
  have HZC : Hid (ZC.length = 9) := by show _ = _; rw [hZC]; rfl
  obtain ⟨ZE, hZE⟩ : ∃ ZE : List Value, ZE = eL 0 0 := ⟨_, rfl⟩
  have hz2 : ∀ W, (zeroValue 48).run Tryd.prog W = .ok (.agg ZE.toArray) W := fun W => by rw [hZE]; exact zero2 W
  have HZE : Hid (ZE.length = 2) := by show _ = _; rw [hZE]; rfl
  have HII : Hid (∀ L : List Value, L.length = 5 → (Tryd.prog.info? 24).map (·.size) = some L.toArray.size) := fun L h => by rw [List.size_toArray, h]; exact ins_info iZ
  have HII2 : Hid (∀ L : List Value, L.length = 5 → (Tryd.prog.info? 24).map (·.size) = some L.length) := fun L h => by rw [h]; exact ins_info iZ
  have HCI : Hid (∀ L : List Value, L.length = 9 → (Tryd.prog.info? 45).map (·.size) = some L.toArray.size) := fun L h => by rw [List.size_toArray, h]; kernel_rfl
  have HCI2 : Hid (∀ L : List Value, L.length = 9 → (Tryd.prog.info? 45).map (·.size) = some L.length) := fun L h => by rw [h]; kernel_rfl
  have HEI : Hid (∀ L : List Value, L.length = 2 → (Tryd.prog.info? 48).map (·.size) = some L.toArray.size) := fun L h => by rw [List.size_toArray, h]; kernel_rfl
  have HZN : Hid (ZI.length = 5) := by rw [hZI]; rfl
  have HLN : Hid ((iL i).length = 5) := rfl
  have HL1 : Hid ((iL i).toArray.all (·.oneCell') = true) := iL_one i
  clear hZI hZC hZE hx hwf hll
  cases hm : may i
  · have hE := fun W => enc_bad i hi hm W
    have hT := fun (W : World) (_ : GV W) => text_bad i hi hm W
    rw [show iV i = .agg (iL i).toArray from rfl] at hE hT hP
    unfold DoEnd at hP
    clear hm hi hs hu
    generalize iL i = IL at *
    generalize sL (doR s i ld).1 = AL at *
    generalize eL (doR s i ld).2.1 (doR s i ld).2.2 = EL at *
    generalize (doR s i ld).1.rs = A0 at *
    generalize sL s = CL at *
    generalize s.rs = B0 at *
    go_enter Tryd.func7, Tryd.ntmps7
    go_upto_region 1 with fail
    obtain ⟨W0, hW0⟩ : ∃ W0, W0 = (w.alloc (.cells IL.toArray 24 (0, 0))).alloc (.cells CL.toArray 45 (0, 0)) := ⟨_, rfl⟩
    rw [← hW0]
    have HB0 : Hid (Below W0.heap.size W0 W0) := Below.refl _ _
    have HRI : Hid (∀ X, Below W0.heap.size W0 X → X.heap[w.heap.size]? = some (.cells IL.toArray 24 (0, 0))) := fun X hX => by
      have h0 : W0.heap[w.heap.size]? = some (.cells IL.toArray 24 (0, 0)) := by rw [hW0]; exact (heap_alloc_old _ _ (by simp)).trans (heap_alloc_new _ _)
      exact (hX.block _ (row_lt h0)).trans h0
    have HRC : Hid (∀ X, Below W0.heap.size W0 X → X.heap[w.heap.size + 1]? = some (.cells CL.toArray 45 (0, 0))) := fun X hX => by
      have h0 : W0.heap[w.heap.size + 1]? = some (.cells CL.toArray 45 (0, 0)) := by rw [hW0]; exact heap_at _ _ _ (by simp)
      exact (hX.block _ (row_lt h0)).trans h0
    have HBW : Hid (∀ X, Below W0.heap.size W0 X → Below w.heap.size w X) := fun X hX => by
      have h1 : Below w.heap.size w W0 := by rw [hW0]; exact ((Below.refl _ _).alloc (Nat.le_refl _) _).alloc (by simp) _
      exact h1.trans (hX.mono h1.size)
    have HGV : Hid (∀ X, Below W0.heap.size W0 X → GV X) := fun X hX => hG.below (HBW.out X hX)
    have HHV : Hid (∀ X, Below W0.heap.size W0 X → HU X (.slice pv ls.length cv) ls) := fun X hX => HV.out.keep (HBW.out X hX)
    clear hW0 hG
    go_wp2_with fail
    refine Calls.mono (HK.out _ (HGV.out _ HB0.out)) ?_
    rintro e X1 ⟨rfl, hX⟩
    have HB1 : Hid (Below W0.heap.size W0 X1) := HB0.out.trans (hX.mono HB0.out.size)
    clear hX
    go_wp2_with (refine wpList_load_mid rfl 24 _ rfl w.heap.size 0 rfl IL _ (rangeAt_row (HRI.out _ HB1.out)) Tryd.underlying24 rfl (HII2.out IL HLN.out) ?_)
    refine Calls.mono (hE _) ?_
    rintro e X2 ⟨rfl, hX⟩
    have HB2 : Hid (Below W0.heap.size W0 X2) := HB1.out.trans (hX.mono HB1.out.size)
    clear hX
    go_wp2_with (refine wpList_load_mid rfl 24 _ rfl w.heap.size 0 rfl IL _ (rangeAt_row (HRI.out _ HB2.out)) Tryd.underlying24 rfl (HII2.out IL HLN.out) ?_)
    refine Calls.mono (hT _ (HGV.out _ HB2.out)) ?_
    rintro e X3 ⟨rfl, hX⟩
    have HB3 : Hid (Below W0.heap.size W0 X3) := HB2.out.trans (hX.mono HB2.out.size)
    clear hX
    go_wp2_with fail
    refine Calls.mono (num_any _ _) ?_
    rintro e wq ⟨rfl, rfl⟩
    go_wp2_with (first
      | (refine wpList_load_mid rfl 45 (.tmp 5) rfl (w.heap.size + 1) 0 rfl CL _ (rangeAt_row (HRC.out _ HB3.out)) Tryd.underlying45 rfl (HCI2.out CL HCN.out) ?_)
      | (refine wpList_load_mid rfl 24 (.tmp 4) rfl w.heap.size 0 rfl IL _ (rangeAt_row (HRI.out _ HB3.out)) Tryd.underlying24 rfl (HII2.out IL HLN.out) ?_))
    refine Calls.mono (hP _) ?_
    rintro e Y1 ⟨rfl, hX⟩
    have HB8 : Hid (Below W0.heap.size W0 Y1) := HB3.out.trans (hX.mono HB3.out.size)
    clear hX
    have HA17 : Hid (((Y1.alloc (.cells ZC.toArray 45 (0, 0))).alloc (.cells ZE.toArray 48 (0, 0))).heap[Y1.heap.size]? = some (.cells ZC.toArray 45 (0, 0))) := (heap_alloc_old _ _ (by simp)).trans (heap_alloc_new _ _)
    have HA18 : Hid (((Y1.alloc (.cells ZC.toArray 45 (0, 0))).alloc (.cells ZE.toArray 48 (0, 0))).heap[Y1.heap.size + 1]? = some (.cells ZE.toArray 48 (0, 0))) := heap_at _ _ _ (by simp)
    go_upto_region 11 with (first
      | (refine wpList_strL rfl 45 (.tmp 17) (.tmp 75) rfl Y1.heap.size AL.toArray rfl rfl 45 ZC.toArray HA17.out (HCI.out AL HAN.out) (by simp [HZC.out, HAN.out]) HA1.out ?_; intro Y2 e2; have HE2 : Hid _ := e2; clear e2; have HR18 : Hid (Y2.heap[Y1.heap.size + 1]? = some (.cells ZE.toArray 48 (0, 0))) := by { show _ = _; rw [HE2.out]; exact (setRow_other _ _ _ _ (by omega)).trans HA18.out })
      | (refine wpList_strL rfl 48 (.tmp 18) (.tmp 76) rfl (Y1.heap.size + 1) EL.toArray rfl rfl 48 ZE.toArray HR18.out (HEI.out EL HEN.out) (by simp [HZE.out, HEN.out]) HE1.out ?_; intro Y3 e3; have HE3 : Hid _ := e3; clear e3))
    have HR17 : Hid (Y3.heap[Y1.heap.size]? = some (.cells AL.toArray 45 (0, 0))) := by
      show _ = _
      rw [HE3.out]
      refine (setRow_other _ _ _ _ (by omega)).trans ?_
      rw [HE2.out]
      exact setRow_heap _ _ _ _ _ _ HA17.out
    have hb3 : Below Y1.heap.size Y1 Y3 := by
      rw [HE3.out]
      refine below_setRow ?_ (by omega) _
      rw [HE2.out]
      exact below_setRow (((Below.refl _ _).alloc (Nat.le_refl _) _).alloc (by simp) _) (Nat.le_refl _) _
    have HBY : Hid (Below W0.heap.size W0 Y3) := HB8.out.trans (hb3.mono HB8.out.size)
    clear HE2 HE3 HR18 HA17 HA18 hb3 HB8
    generalize Y1.heap.size = g17 at *
    go_wp2
    go_loopw [19, 20] (fun n k wr => ∃ j : Nat, j ≤ 8 ∧ n = .int .i64 (dif A0 B0 j : Int) ∧ k = .int .i64 j ∧ wr.heap[g17]? = some (.cells AL.toArray 45 (0, 0)) ∧ Below W0.heap.size W0 wr) (fun _ k _ => 8 - (intOf k).toNat)
    case atStart => exact ⟨0, by omega, rfl, rfl, HR17.out, HBY.out⟩
    case round =>
      clear HR17 HBY
      obtain ⟨j, hj, rfl, rfl, hr, hb⟩ := hrel
      have hd8 := HDL.out j
      by_cases hlt : j < 8
      · have hjI : (j : Int) < 8 := by omega
        have HDS : Hid (dif A0 B0 (j + 1) = dif A0 B0 j + if A0.getD j 0 = B0.getD j 0 then 0 else 1) := rfl
        have ca := cell_of_row _ _ j _ _ _ hr
        rw [List.getElem?_toArray, HAR.out j hlt] at ca
        have cb := cell_of_row _ _ j _ _ _ (HRC.out _ hb)
        rw [List.getElem?_toArray, HCR.out j hlt] at cb
        have HS0 : Hid (wr.drew.cell? ⟨g17, j, none⟩ = some (.int .u64 (A0.getD j 0)) ∧ wr.drew.cell? ⟨w.heap.size + 1, j, none⟩ = some (.int .u64 (B0.getD j 0))) := ⟨ca, cb⟩
        have HRD : Hid (wr.drew.heap[g17]? = some (.cells AL.toArray 45 (0, 0))) := hr
        have HBD : Hid (Below W0.heap.size W0 wr.drew) := hb.drew
        clear ca cb hr hb
        generalize A0.getD j 0 = a at *
        generalize B0.getD j 0 = b at *
        generalize dif A0 B0 j = N at *
        have hwN : IntKind.i64.wrap ((N : Int) + 1) = (N : Int) + 1 := by rw [IntKind.wrap_i64]; omega
        by_cases hab : a = b
        · have HM : Hid (dif A0 B0 (j + 1) = N) := by show _ = _; rw [HDS.out, if_pos hab]; rfl
          have HNE : Hid ((a != b) = false) := by show _ = _; rw [bne_eq_false_iff_eq]; exact hab
          clear hab HDS
          go_upto_region 15 with fail
          refine wp_region_held_drew (S := fun X => X.cell? ⟨g17, j, none⟩ = some (.int .u64 a) ∧ X.cell? ⟨w.heap.size + 1, j, none⟩ = some (.int .u64 b)) (by kernel_rfl) HS0.out (fun hHeld => ?_)
          generalize World.drew _ = V at *
          refine wpAnyH_take (i := 0) (oi := { dst := some 81, op := Go.Op.move (Go.Operand.tmp 20), type := 3, pos := _, after := #[], guard := none }) (v := .int .i64 (j : Int)) rfl (by kernel_rfl) (by kernel_rfl) (by kernel_rfl) (fun _ _ _ h => h) (Or.inl ⟨by rfl, fun w' hw' => ?_⟩) hHeld ?_
          · first | (go_simp; done) | (go_simp; rfl)
          try simp only [Act.put, List.setIfInBounds_toArray, List.set_cons_zero, List.set_cons_succ]
          refine wpAnyH_take (i := 1) (oi := { dst := some 82, op := Go.Op.fieldAddr 45 (Go.Operand.tmp 17) 0, type := 0, pos := _, after := #[], guard := none }) (v := .pointer (some ⟨g17, 0, none⟩)) rfl (by kernel_rfl) (by kernel_rfl) (by kernel_rfl) (fun _ _ _ h => h) (Or.inl ⟨by rfl, fun w' hw' => ?_⟩) hHeld ?_
          · first | (go_simp; done) | (go_simp; rfl)
          try simp only [Act.put, List.setIfInBounds_toArray, List.set_cons_zero, List.set_cons_succ]
          refine wpAnyH_take (i := 2) (oi := { dst := some 83, op := Go.Op.indexAddr 43 (Go.Operand.tmp 82) (Go.Operand.tmp 81), type := 0, pos := _, after := #[{ on := 1, ground := Go.Ground.data }, { on := 0, ground := Go.Ground.data }], guard := none }) (v := .pointer (some ⟨g17, j, none⟩)) rfl (by kernel_rfl) (by kernel_rfl) (by kernel_rfl) (fun _ _ _ h => h) (Or.inl ⟨by rfl, fun w' hw' => ?_⟩) hHeld ?_
          · first | (go_simp; done) | (go_simp; rfl)
          try simp only [Act.put, List.setIfInBounds_toArray, List.set_cons_zero, List.set_cons_succ]
          refine wpAnyH_take (i := 3) (oi := { dst := some 84, op := Go.Op.load 25 (Go.Operand.tmp 83), type := 25, pos := _, after := #[{ on := 2, ground := Go.Ground.data }], guard := none }) (v := .int .u64 a) rfl (by kernel_rfl) (by kernel_rfl) (by kernel_rfl) (fun _ _ _ h => h) (Or.inl ⟨by rfl, fun w' hw' => ?_⟩) hHeld ?_
          · have hcc := hw'.1; first | (go_simp; done) | (go_simp; rfl)
          try simp only [Act.put, List.setIfInBounds_toArray, List.set_cons_zero, List.set_cons_succ]
          refine wpAnyH_take (i := 4) (oi := { dst := some 85, op := Go.Op.move (Go.Operand.tmp 20), type := 3, pos := _, after := #[], guard := none }) (v := .int .i64 (j : Int)) rfl (by kernel_rfl) (by kernel_rfl) (by kernel_rfl) (fun _ _ _ h => h) (Or.inl ⟨by rfl, fun w' hw' => ?_⟩) hHeld ?_
          · first | (go_simp; done) | (go_simp; rfl)
          try simp only [Act.put, List.setIfInBounds_toArray, List.set_cons_zero, List.set_cons_succ]
          refine wpAnyH_take (i := 5) (oi := { dst := some 86, op := Go.Op.fieldAddr 45 (Go.Operand.tmp 5) 0, type := 0, pos := _, after := #[], guard := none }) (v := .pointer (some ⟨w.heap.size + 1, 0, none⟩)) rfl (by kernel_rfl) (by kernel_rfl) (by kernel_rfl) (fun _ _ _ h => h) (Or.inl ⟨by rfl, fun w' hw' => ?_⟩) hHeld ?_
          · first | (go_simp; done) | (go_simp; rfl)
          try simp only [Act.put, List.setIfInBounds_toArray, List.set_cons_zero, List.set_cons_succ]
          refine wpAnyH_take (i := 6) (oi := { dst := some 87, op := Go.Op.indexAddr 43 (Go.Operand.tmp 86) (Go.Operand.tmp 85), type := 0, pos := _, after := #[{ on := 5, ground := Go.Ground.data }, { on := 4, ground := Go.Ground.data }], guard := none }) (v := .pointer (some ⟨w.heap.size + 1, j, none⟩)) rfl (by kernel_rfl) (by kernel_rfl) (by kernel_rfl) (fun _ _ _ h => h) (Or.inl ⟨by rfl, fun w' hw' => ?_⟩) hHeld ?_
          · first | (go_simp; done) | (go_simp; rfl)
          try simp only [Act.put, List.setIfInBounds_toArray, List.set_cons_zero, List.set_cons_succ]
          refine wpAnyH_take (i := 7) (oi := { dst := some 88, op := Go.Op.load 25 (Go.Operand.tmp 87), type := 25, pos := _, after := #[{ on := 6, ground := Go.Ground.data }], guard := none }) (v := .int .u64 b) rfl (by kernel_rfl) (by kernel_rfl) (by kernel_rfl) (fun _ _ _ h => h) (Or.inl ⟨by rfl, fun w' hw' => ?_⟩) hHeld ?_
          · have hcc := hw'.2; first | (go_simp; done) | (go_simp; rfl)
          try simp only [Act.put, List.setIfInBounds_toArray, List.set_cons_zero, List.set_cons_succ]
          refine wpAnyH_take (i := 8) (oi := { dst := some 89, op := Go.Op.binOp Go.BinOp.neq 25 (Go.Operand.tmp 84) (Go.Operand.tmp 88) 25, type := 4, pos := _, after := #[{ on := 3, ground := Go.Ground.data }, { on := 7, ground := Go.Ground.data }], guard := none }) (v := .bool false) rfl (by kernel_rfl) (by kernel_rfl) (by kernel_rfl) (fun _ _ _ h => h) (Or.inl ⟨by rfl, fun w' hw' => ?_⟩) hHeld ?_
          · have hcc := HNE.out; first | (go_simp; done) | (go_simp; rfl)
          try simp only [Act.put, List.setIfInBounds_toArray, List.set_cons_zero, List.set_cons_succ]
          refine wpAnyH_done (by kernel_rfl) ?_ _
          clear hHeld HS0
          go_wp2
          go_roundw
          case rel => exact ⟨j + 1, by omega, by rw [HM.out], by go_num, HRD.out, HBD.out⟩
          case measure => simp [intOf]; omega
        · have HM : Hid (dif A0 B0 (j + 1) = N + 1) := by show _ = _; rw [HDS.out, if_neg hab]
          have HNE : Hid ((a != b) = true) := by show _ = _; rw [bne_iff_ne]; exact hab
          clear hab HDS
          go_upto_region 15 with fail
          refine wp_region_held_drew (S := fun X => X.cell? ⟨g17, j, none⟩ = some (.int .u64 a) ∧ X.cell? ⟨w.heap.size + 1, j, none⟩ = some (.int .u64 b)) (by kernel_rfl) HS0.out (fun hHeld => ?_)
          generalize World.drew _ = V at *
          refine wpAnyH_take (i := 0) (oi := { dst := some 81, op := Go.Op.move (Go.Operand.tmp 20), type := 3, pos := _, after := #[], guard := none }) (v := .int .i64 (j : Int)) rfl (by kernel_rfl) (by kernel_rfl) (by kernel_rfl) (fun _ _ _ h => h) (Or.inl ⟨by rfl, fun w' hw' => ?_⟩) hHeld ?_
          · first | (go_simp; done) | (go_simp; rfl)
          try simp only [Act.put, List.setIfInBounds_toArray, List.set_cons_zero, List.set_cons_succ]
          refine wpAnyH_take (i := 1) (oi := { dst := some 82, op := Go.Op.fieldAddr 45 (Go.Operand.tmp 17) 0, type := 0, pos := _, after := #[], guard := none }) (v := .pointer (some ⟨g17, 0, none⟩)) rfl (by kernel_rfl) (by kernel_rfl) (by kernel_rfl) (fun _ _ _ h => h) (Or.inl ⟨by rfl, fun w' hw' => ?_⟩) hHeld ?_
          · first | (go_simp; done) | (go_simp; rfl)
          try simp only [Act.put, List.setIfInBounds_toArray, List.set_cons_zero, List.set_cons_succ]
          refine wpAnyH_take (i := 2) (oi := { dst := some 83, op := Go.Op.indexAddr 43 (Go.Operand.tmp 82) (Go.Operand.tmp 81), type := 0, pos := _, after := #[{ on := 1, ground := Go.Ground.data }, { on := 0, ground := Go.Ground.data }], guard := none }) (v := .pointer (some ⟨g17, j, none⟩)) rfl (by kernel_rfl) (by kernel_rfl) (by kernel_rfl) (fun _ _ _ h => h) (Or.inl ⟨by rfl, fun w' hw' => ?_⟩) hHeld ?_
          · first | (go_simp; done) | (go_simp; rfl)
          try simp only [Act.put, List.setIfInBounds_toArray, List.set_cons_zero, List.set_cons_succ]
          refine wpAnyH_take (i := 3) (oi := { dst := some 84, op := Go.Op.load 25 (Go.Operand.tmp 83), type := 25, pos := _, after := #[{ on := 2, ground := Go.Ground.data }], guard := none }) (v := .int .u64 a) rfl (by kernel_rfl) (by kernel_rfl) (by kernel_rfl) (fun _ _ _ h => h) (Or.inl ⟨by rfl, fun w' hw' => ?_⟩) hHeld ?_
          · have hcc := hw'.1; first | (go_simp; done) | (go_simp; rfl)
          try simp only [Act.put, List.setIfInBounds_toArray, List.set_cons_zero, List.set_cons_succ]
          refine wpAnyH_take (i := 4) (oi := { dst := some 85, op := Go.Op.move (Go.Operand.tmp 20), type := 3, pos := _, after := #[], guard := none }) (v := .int .i64 (j : Int)) rfl (by kernel_rfl) (by kernel_rfl) (by kernel_rfl) (fun _ _ _ h => h) (Or.inl ⟨by rfl, fun w' hw' => ?_⟩) hHeld ?_
          · first | (go_simp; done) | (go_simp; rfl)
          try simp only [Act.put, List.setIfInBounds_toArray, List.set_cons_zero, List.set_cons_succ]
          refine wpAnyH_take (i := 5) (oi := { dst := some 86, op := Go.Op.fieldAddr 45 (Go.Operand.tmp 5) 0, type := 0, pos := _, after := #[], guard := none }) (v := .pointer (some ⟨w.heap.size + 1, 0, none⟩)) rfl (by kernel_rfl) (by kernel_rfl) (by kernel_rfl) (fun _ _ _ h => h) (Or.inl ⟨by rfl, fun w' hw' => ?_⟩) hHeld ?_
          · first | (go_simp; done) | (go_simp; rfl)
          try simp only [Act.put, List.setIfInBounds_toArray, List.set_cons_zero, List.set_cons_succ]
          refine wpAnyH_take (i := 6) (oi := { dst := some 87, op := Go.Op.indexAddr 43 (Go.Operand.tmp 86) (Go.Operand.tmp 85), type := 0, pos := _, after := #[{ on := 5, ground := Go.Ground.data }, { on := 4, ground := Go.Ground.data }], guard := none }) (v := .pointer (some ⟨w.heap.size + 1, j, none⟩)) rfl (by kernel_rfl) (by kernel_rfl) (by kernel_rfl) (fun _ _ _ h => h) (Or.inl ⟨by rfl, fun w' hw' => ?_⟩) hHeld ?_
          · first | (go_simp; done) | (go_simp; rfl)
          try simp only [Act.put, List.setIfInBounds_toArray, List.set_cons_zero, List.set_cons_succ]
          refine wpAnyH_take (i := 7) (oi := { dst := some 88, op := Go.Op.load 25 (Go.Operand.tmp 87), type := 25, pos := _, after := #[{ on := 6, ground := Go.Ground.data }], guard := none }) (v := .int .u64 b) rfl (by kernel_rfl) (by kernel_rfl) (by kernel_rfl) (fun _ _ _ h => h) (Or.inl ⟨by rfl, fun w' hw' => ?_⟩) hHeld ?_
          · have hcc := hw'.2; first | (go_simp; done) | (go_simp; rfl)
          try simp only [Act.put, List.setIfInBounds_toArray, List.set_cons_zero, List.set_cons_succ]
          refine wpAnyH_take (i := 8) (oi := { dst := some 89, op := Go.Op.binOp Go.BinOp.neq 25 (Go.Operand.tmp 84) (Go.Operand.tmp 88) 25, type := 4, pos := _, after := #[{ on := 3, ground := Go.Ground.data }, { on := 7, ground := Go.Ground.data }], guard := none }) (v := .bool true) rfl (by kernel_rfl) (by kernel_rfl) (by kernel_rfl) (fun _ _ _ h => h) (Or.inl ⟨by rfl, fun w' hw' => ?_⟩) hHeld ?_
          · have hcc := HNE.out; first | (go_simp; done) | (go_simp; rfl)
          try simp only [Act.put, List.setIfInBounds_toArray, List.set_cons_zero, List.set_cons_succ]
          refine wpAnyH_done (by kernel_rfl) ?_ _
          clear hHeld HS0
          go_wp2
          go_roundw
          case rel => exact ⟨j + 1, by omega, by rw [HM.out]; go_num, by go_num, HRD.out, HBD.out⟩
          case measure => simp [intOf]; omega
      · have hj8 : j = 8 := by omega
        have hjI : ¬ (j : Int) < 8 := by omega
        have h81 : dif A0 B0 j ≤ 1 := by rw [hj8]; exact H81.out
        generalize dif A0 B0 j = N at *
        have hnI : ¬ (1 : Int) < (N : Int) := by omega
        have HBB : Hid _ := hb
        clear hr hb hd8
        by_cases hL : 600 < ls.length
        · have hLI : (600 : Int) < (ls.length : Int) := by omega
          go_wp2
          go_ret
          exact ⟨rfl, HBW.out _ HBB.out⟩
        · have hLI : ¬ (600 : Int) < (ls.length : Int) := by omega
          by_cases hM : 512 < ls.length
          · have hBIG := list_big _ ls hM _ (HHV.out _ HBB.out)
            go_wp2_with fail
            refine Calls.mono hBIG ?_
            rintro e w9 ⟨rfl, rfl⟩
            clear hBIG
            go_wp2_with fail
            refine Calls.mono (num_any _ _) ?_
            rintro e wq ⟨rfl, rfl⟩
            go_wp2
            go_ret
            exact ⟨rfl, HBW.out _ HBB.out⟩
          · have hLST := list_any _ ls (by omega) _ (HGV.out _ HBB.out) (HHV.out _ HBB.out)
            cases hw : lsW ls with
            | none =>
              have hLS2 : lsRes ls = .tuple #[sV [], .int .i64 4] := by unfold lsRes; rw [hw]
              rw [hLS2] at hLST
              clear hLS2
              go_wp2_with fail
              refine Calls.mono hLST ?_
              rintro e X9 ⟨rfl, hX⟩
              have HB9 : Hid (Below W0.heap.size W0 X9) := HBB.out.trans (hX.mono HBB.out.size)
              clear hX hLST
              go_wp2_with fail
              refine Calls.mono (num_any _ _) ?_
              rintro e wq ⟨rfl, rfl⟩
              go_wp2
              go_ret
              exact ⟨rfl, HBW.out _ HB9.out⟩
            | some t =>
              have hLS2 : lsRes ls = .tuple #[sV (lt_ t), .int .i64 0] := by unfold lsRes; rw [hw]
              rw [hLS2] at hLST
              clear hLS2
              obtain ⟨b1, b2, b3⟩ := back_ok HUS.out hw
              have hl1 := lsW_len hw
              have hl2 := lt_len t (lsW_60 hw)
              have hPG : ∀ W, GV W → Calls Tryd.prog 26 #[sV (lt_ t)] W fun e w' => (∃ u, e = .returned (.tuple #[u, .int .i64 0, .int .i64 0]) ∧ FU W.heap.size w' u ls) ∧ Below W.heap.size W w' := fun W hW => (prog_any (lt_ t) (by omega) W hW).mono fun e w' ⟨h1, h2⟩ => ⟨by
                have q := h1.ok (by rw [b1, hl1]; omega) (by rw [b1]; exact b3)
                rw [b1, b2] at q
                exact q, h2⟩
              clear hw b1 b2 b3 hl1 hl2
              generalize sV (lt_ t) = TV at *
              go_wp2_with fail
              refine Calls.mono hLST ?_
              rintro e X9 ⟨rfl, hX⟩
              have HB9 : Hid (Below W0.heap.size W0 X9) := HBB.out.trans (hX.mono HBB.out.size)
              clear hX hLST
              go_wp2_with fail
              refine Calls.mono (num_any _ _) ?_
              rintro e wq ⟨rfl, rfl⟩
              go_wp2_with fail
              refine Calls.mono (hPG _ (HGV.out _ HB9.out)) ?_
              rintro e XA ⟨⟨u, rfl, hf⟩, hX⟩
              have HBA : Hid (Below W0.heap.size W0 XA) := HB9.out.trans (hX.mono HB9.out.size)
              have hSM := same_eq u _ ls XA (by omega) (hf.hu HUS.out) (HHV.out _ HBA.out)
              clear hX hf hPG
              go_wp2_with fail
              refine Calls.mono hSM ?_
              rintro e XB ⟨rfl, hX⟩
              have HBC : Hid (Below W0.heap.size W0 XB) := HBA.out.trans (hX.mono HBA.out.size)
              clear hX hSM
              go_wp2_with fail
              refine Calls.mono (num_any _ _) ?_
              rintro e wq ⟨rfl, rfl⟩
              go_wp2
              go_ret
              exact ⟨rfl, HBW.out _ HBC.out⟩
  · have hE := fun W => enc_ok i hi hm W
    have hT := fun (W : World) (hW : GV W) => text_ok i hi hm W hW
    have hwu : u64 (wrd i) := by
      have e := wrd_eq hm
      obtain ⟨m1, m2, m3, m4, m5, m6, m7, m8, m9, m10⟩ := may_bd hm
      constructor <;> omega
    have hDc : ∀ W, Calls Tryd.prog 16 #[.int .u64 (wrd i)] W fun e w' => e = .returned (.tuple #[.agg (iL i).toArray, .int .i64 0]) ∧ Below W.heap.size W w' := fun W => by
      have q := dec_any (wrd i) hwu.1 hwu.2 W
      rw [dec_wrd hm] at q
      exact q
    have htl : (txt i).length ≤ 1000000 := by have := txt_len hm; omega
    have hUn : ∀ W, GV W → Calls Tryd.prog 18 #[sV (txt i)] W fun e w' => e = .returned (.tuple #[.agg (iL i).toArray, .int .i64 0]) ∧ Below W.heap.size W w' := fun W hW => by
      have q := untext_any (txt i) htl W hW
      rw [unt_txt hm] at q
      exact q
    rw [show iV i = .agg (iL i).toArray from rfl] at hE hT hP
    unfold DoEnd at hP
    clear hm hi hs hu hwu htl
    generalize wrd i = WD at *
    generalize sV (txt i) = TX at *
    generalize iL i = IL at *
    generalize sL (doR s i ld).1 = AL at *
    generalize eL (doR s i ld).2.1 (doR s i ld).2.2 = EL at *
    generalize (doR s i ld).1.rs = A0 at *
    generalize sL s = CL at *
    generalize s.rs = B0 at *
    go_enter Tryd.func7, Tryd.ntmps7
    go_upto_region 1 with fail
    obtain ⟨W0, hW0⟩ : ∃ W0, W0 = (w.alloc (.cells IL.toArray 24 (0, 0))).alloc (.cells CL.toArray 45 (0, 0)) := ⟨_, rfl⟩
    rw [← hW0]
    have HB0 : Hid (Below W0.heap.size W0 W0) := Below.refl _ _
    have HRI : Hid (∀ X, Below W0.heap.size W0 X → X.heap[w.heap.size]? = some (.cells IL.toArray 24 (0, 0))) := fun X hX => by
      have h0 : W0.heap[w.heap.size]? = some (.cells IL.toArray 24 (0, 0)) := by rw [hW0]; exact (heap_alloc_old _ _ (by simp)).trans (heap_alloc_new _ _)
      exact (hX.block _ (row_lt h0)).trans h0
    have HRC : Hid (∀ X, Below W0.heap.size W0 X → X.heap[w.heap.size + 1]? = some (.cells CL.toArray 45 (0, 0))) := fun X hX => by
      have h0 : W0.heap[w.heap.size + 1]? = some (.cells CL.toArray 45 (0, 0)) := by rw [hW0]; exact heap_at _ _ _ (by simp)
      exact (hX.block _ (row_lt h0)).trans h0
    have HBW : Hid (∀ X, Below W0.heap.size W0 X → Below w.heap.size w X) := fun X hX => by
      have h1 : Below w.heap.size w W0 := by rw [hW0]; exact ((Below.refl _ _).alloc (Nat.le_refl _) _).alloc (by simp) _
      exact h1.trans (hX.mono h1.size)
    have HGV : Hid (∀ X, Below W0.heap.size W0 X → GV X) := fun X hX => hG.below (HBW.out X hX)
    have HHV : Hid (∀ X, Below W0.heap.size W0 X → HU X (.slice pv ls.length cv) ls) := fun X hX => HV.out.keep (HBW.out X hX)
    clear hW0 hG
    go_wp2_with fail
    refine Calls.mono (HK.out _ (HGV.out _ HB0.out)) ?_
    rintro e X1 ⟨rfl, hX⟩
    have HB1 : Hid (Below W0.heap.size W0 X1) := HB0.out.trans (hX.mono HB0.out.size)
    clear hX
    go_wp2_with (refine wpList_load_mid rfl 24 _ rfl w.heap.size 0 rfl IL _ (rangeAt_row (HRI.out _ HB1.out)) Tryd.underlying24 rfl (HII2.out IL HLN.out) ?_)
    refine Calls.mono (hE _) ?_
    rintro e X2 ⟨rfl, hX⟩
    have HB2 : Hid (Below W0.heap.size W0 X2) := HB1.out.trans (hX.mono HB1.out.size)
    clear hX
    go_wp2_with (refine wpList_load_mid rfl 24 _ rfl w.heap.size 0 rfl IL _ (rangeAt_row (HRI.out _ HB2.out)) Tryd.underlying24 rfl (HII2.out IL HLN.out) ?_)
    refine Calls.mono (hT _ (HGV.out _ HB2.out)) ?_
    rintro e X3 ⟨rfl, hX⟩
    have HB3 : Hid (Below W0.heap.size W0 X3) := HB2.out.trans (hX.mono HB2.out.size)
    clear hX
    go_wp2_with fail
    refine Calls.mono (num_any _ _) ?_
    rintro e wq ⟨rfl, rfl⟩
    go_wp2_with fail
    refine Calls.mono (hDc _) ?_
    rintro e X4 ⟨rfl, hX⟩
    have HB4 : Hid (Below W0.heap.size W0 X4) := HB3.out.trans (hX.mono HB3.out.size)
    clear hX
    have HQ : Hid ((X4.alloc (.cells ZI.toArray 24 (0, 0))).heap[X4.heap.size]? = some (.cells ZI.toArray 24 (0, 0))) := heap_alloc_new _ _
    go_upto_region 7 with (refine wpList_strL rfl 24 _ _ rfl X4.heap.size IL.toArray rfl rfl 24 ZI.toArray HQ.out (HII.out IL HLN.out) (by simp [HZN.out, HLN.out]) HL1.out ?_; intro X5 eZ; have eY : Hid _ := eZ; clear eZ)
    obtain ⟨pY, rY⟩ := put_row X4 ZI IL 24
    rw [← eY.out] at pY rY
    have HB5 : Hid (Below W0.heap.size W0 X5) := HB4.out.trans (pY.mono HB4.out.size)
    have HR13 : Hid _ := rY
    clear eY pY rY HQ
    go_wp2_with fail
    refine Calls.mono (hUn _ (HGV.out _ HB5.out)) ?_
    rintro e X6 ⟨rfl, hX⟩
    have HB6 : Hid (Below W0.heap.size W0 X6) := HB5.out.trans (hX.mono HB5.out.size)
    have HR6 : Hid (X6.heap[X4.heap.size]? = some (.cells IL.toArray 24 (0, 0))) := (hX.block _ (row_lt HR13.out)).trans HR13.out
    clear hX HR13
    have HQ : Hid ((X6.alloc (.cells ZI.toArray 24 (0, 0))).heap[X6.heap.size]? = some (.cells ZI.toArray 24 (0, 0))) := heap_alloc_new _ _
    go_upto_region 8 with (refine wpList_strL rfl 24 _ _ rfl X6.heap.size IL.toArray rfl rfl 24 ZI.toArray HQ.out (HII.out IL HLN.out) (by simp [HZN.out, HLN.out]) HL1.out ?_; intro X7 eZ; have eY : Hid _ := eZ; clear eZ)
    obtain ⟨pY, rY⟩ := put_row X6 ZI IL 24
    rw [← eY.out] at pY rY
    have HB7 : Hid (Below W0.heap.size W0 X7) := HB6.out.trans (pY.mono HB6.out.size)
    have HR15 : Hid _ := rY
    have HR13 : Hid (X7.heap[X4.heap.size]? = some (.cells IL.toArray 24 (0, 0))) := (pY.block _ (row_lt HR6.out)).trans HR6.out
    clear eY pY rY HQ HR6
    go_wp2_with fail
    refine Calls.mono (num_any _ _) ?_
    rintro e wq ⟨rfl, rfl⟩
    go_wp2_with fail
    refine Calls.mono (num_any _ _) ?_
    rintro e wq ⟨rfl, rfl⟩
    go_wp2_with fail
    refine Calls.mono (num_any _ _) ?_
    rintro e wq ⟨rfl, rfl⟩
    go_upto_region 10 with (first
      | (refine load_mid_g (by rfl) 24 (.tmp 13) rfl X4.heap.size 0 rfl IL _ (rangeAt_row HR13.out) Tryd.underlying24 rfl (HII2.out IL HLN.out) ?_)
      | (refine load_mid_g (by rfl) 24 (.tmp 15) rfl X6.heap.size 0 rfl IL _ (rangeAt_row HR15.out) Tryd.underlying24 rfl (HII2.out IL HLN.out) ?_)
      | (refine load_mid_g (by rfl) 24 (.tmp 4) rfl w.heap.size 0 rfl IL _ (rangeAt_row (HRI.out _ HB7.out)) Tryd.underlying24 rfl (HII2.out IL HLN.out) ?_))
    clear HR13 HR15 HB4 HB5 HB6 hDc hUn
    go_wp2_with (first
      | (refine wpList_load_mid rfl 45 (.tmp 5) rfl (w.heap.size + 1) 0 rfl CL _ (rangeAt_row (HRC.out _ HB7.out)) Tryd.underlying45 rfl (HCI2.out CL HCN.out) ?_)
      | (refine wpList_load_mid rfl 24 (.tmp 4) rfl w.heap.size 0 rfl IL _ (rangeAt_row (HRI.out _ HB7.out)) Tryd.underlying24 rfl (HII2.out IL HLN.out) ?_))
    refine Calls.mono (hP _) ?_
    rintro e Y1 ⟨rfl, hX⟩
    have HB8 : Hid (Below W0.heap.size W0 Y1) := HB7.out.trans (hX.mono HB7.out.size)
    clear hX
    have HA17 : Hid (((Y1.alloc (.cells ZC.toArray 45 (0, 0))).alloc (.cells ZE.toArray 48 (0, 0))).heap[Y1.heap.size]? = some (.cells ZC.toArray 45 (0, 0))) := (heap_alloc_old _ _ (by simp)).trans (heap_alloc_new _ _)
    have HA18 : Hid (((Y1.alloc (.cells ZC.toArray 45 (0, 0))).alloc (.cells ZE.toArray 48 (0, 0))).heap[Y1.heap.size + 1]? = some (.cells ZE.toArray 48 (0, 0))) := heap_at _ _ _ (by simp)
    go_upto_region 11 with (first
      | (refine wpList_strL rfl 45 (.tmp 17) (.tmp 75) rfl Y1.heap.size AL.toArray rfl rfl 45 ZC.toArray HA17.out (HCI.out AL HAN.out) (by simp [HZC.out, HAN.out]) HA1.out ?_; intro Y2 e2; have HE2 : Hid _ := e2; clear e2; have HR18 : Hid (Y2.heap[Y1.heap.size + 1]? = some (.cells ZE.toArray 48 (0, 0))) := by { show _ = _; rw [HE2.out]; exact (setRow_other _ _ _ _ (by omega)).trans HA18.out })
      | (refine wpList_strL rfl 48 (.tmp 18) (.tmp 76) rfl (Y1.heap.size + 1) EL.toArray rfl rfl 48 ZE.toArray HR18.out (HEI.out EL HEN.out) (by simp [HZE.out, HEN.out]) HE1.out ?_; intro Y3 e3; have HE3 : Hid _ := e3; clear e3))
    have HR17 : Hid (Y3.heap[Y1.heap.size]? = some (.cells AL.toArray 45 (0, 0))) := by
      show _ = _
      rw [HE3.out]
      refine (setRow_other _ _ _ _ (by omega)).trans ?_
      rw [HE2.out]
      exact setRow_heap _ _ _ _ _ _ HA17.out
    have hb3 : Below Y1.heap.size Y1 Y3 := by
      rw [HE3.out]
      refine below_setRow ?_ (by omega) _
      rw [HE2.out]
      exact below_setRow (((Below.refl _ _).alloc (Nat.le_refl _) _).alloc (by simp) _) (Nat.le_refl _) _
    have HBY : Hid (Below W0.heap.size W0 Y3) := HB8.out.trans (hb3.mono HB8.out.size)
    clear HE2 HE3 HR18 HA17 HA18 hb3 HB8
    generalize Y1.heap.size = g17 at *
    go_wp2
    go_loopw [19, 20] (fun n k wr => ∃ j : Nat, j ≤ 8 ∧ n = .int .i64 (dif A0 B0 j : Int) ∧ k = .int .i64 j ∧ wr.heap[g17]? = some (.cells AL.toArray 45 (0, 0)) ∧ Below W0.heap.size W0 wr) (fun _ k _ => 8 - (intOf k).toNat)
    case atStart => exact ⟨0, by omega, rfl, rfl, HR17.out, HBY.out⟩
    case round =>
      clear HR17 HBY
      obtain ⟨j, hj, rfl, rfl, hr, hb⟩ := hrel
      have hd8 := HDL.out j
      by_cases hlt : j < 8
      · have hjI : (j : Int) < 8 := by omega
        have HDS : Hid (dif A0 B0 (j + 1) = dif A0 B0 j + if A0.getD j 0 = B0.getD j 0 then 0 else 1) := rfl
        have ca := cell_of_row _ _ j _ _ _ hr
        rw [List.getElem?_toArray, HAR.out j hlt] at ca
        have cb := cell_of_row _ _ j _ _ _ (HRC.out _ hb)
        rw [List.getElem?_toArray, HCR.out j hlt] at cb
        have HS0 : Hid (wr.drew.cell? ⟨g17, j, none⟩ = some (.int .u64 (A0.getD j 0)) ∧ wr.drew.cell? ⟨w.heap.size + 1, j, none⟩ = some (.int .u64 (B0.getD j 0))) := ⟨ca, cb⟩
        have HRD : Hid (wr.drew.heap[g17]? = some (.cells AL.toArray 45 (0, 0))) := hr
        have HBD : Hid (Below W0.heap.size W0 wr.drew) := hb.drew
        clear ca cb hr hb
        generalize A0.getD j 0 = a at *
        generalize B0.getD j 0 = b at *
        generalize dif A0 B0 j = N at *
        have hwN : IntKind.i64.wrap ((N : Int) + 1) = (N : Int) + 1 := by rw [IntKind.wrap_i64]; omega
        by_cases hab : a = b
        · have HM : Hid (dif A0 B0 (j + 1) = N) := by show _ = _; rw [HDS.out, if_pos hab]; rfl
          have HNE : Hid ((a != b) = false) := by show _ = _; rw [bne_eq_false_iff_eq]; exact hab
          clear hab HDS
          go_upto_region 15 with fail
          refine wp_region_held_drew (S := fun X => X.cell? ⟨g17, j, none⟩ = some (.int .u64 a) ∧ X.cell? ⟨w.heap.size + 1, j, none⟩ = some (.int .u64 b)) (by kernel_rfl) HS0.out (fun hHeld => ?_)
          generalize World.drew _ = V at *
          refine wpAnyH_take (i := 0) (oi := { dst := some 81, op := Go.Op.move (Go.Operand.tmp 20), type := 3, pos := _, after := #[], guard := none }) (v := .int .i64 (j : Int)) rfl (by kernel_rfl) (by kernel_rfl) (by kernel_rfl) (fun _ _ _ h => h) (Or.inl ⟨by rfl, fun w' hw' => ?_⟩) hHeld ?_
          · first | (go_simp; done) | (go_simp; rfl)
          try simp only [Act.put, List.setIfInBounds_toArray, List.set_cons_zero, List.set_cons_succ]
          refine wpAnyH_take (i := 1) (oi := { dst := some 82, op := Go.Op.fieldAddr 45 (Go.Operand.tmp 17) 0, type := 0, pos := _, after := #[], guard := none }) (v := .pointer (some ⟨g17, 0, none⟩)) rfl (by kernel_rfl) (by kernel_rfl) (by kernel_rfl) (fun _ _ _ h => h) (Or.inl ⟨by rfl, fun w' hw' => ?_⟩) hHeld ?_
          · first | (go_simp; done) | (go_simp; rfl)
          try simp only [Act.put, List.setIfInBounds_toArray, List.set_cons_zero, List.set_cons_succ]
          refine wpAnyH_take (i := 2) (oi := { dst := some 83, op := Go.Op.indexAddr 43 (Go.Operand.tmp 82) (Go.Operand.tmp 81), type := 0, pos := _, after := #[{ on := 1, ground := Go.Ground.data }, { on := 0, ground := Go.Ground.data }], guard := none }) (v := .pointer (some ⟨g17, j, none⟩)) rfl (by kernel_rfl) (by kernel_rfl) (by kernel_rfl) (fun _ _ _ h => h) (Or.inl ⟨by rfl, fun w' hw' => ?_⟩) hHeld ?_
          · first | (go_simp; done) | (go_simp; rfl)
          try simp only [Act.put, List.setIfInBounds_toArray, List.set_cons_zero, List.set_cons_succ]
          refine wpAnyH_take (i := 3) (oi := { dst := some 84, op := Go.Op.load 25 (Go.Operand.tmp 83), type := 25, pos := _, after := #[{ on := 2, ground := Go.Ground.data }], guard := none }) (v := .int .u64 a) rfl (by kernel_rfl) (by kernel_rfl) (by kernel_rfl) (fun _ _ _ h => h) (Or.inl ⟨by rfl, fun w' hw' => ?_⟩) hHeld ?_
          · have hcc := hw'.1; first | (go_simp; done) | (go_simp; rfl)
          try simp only [Act.put, List.setIfInBounds_toArray, List.set_cons_zero, List.set_cons_succ]
          refine wpAnyH_take (i := 4) (oi := { dst := some 85, op := Go.Op.move (Go.Operand.tmp 20), type := 3, pos := _, after := #[], guard := none }) (v := .int .i64 (j : Int)) rfl (by kernel_rfl) (by kernel_rfl) (by kernel_rfl) (fun _ _ _ h => h) (Or.inl ⟨by rfl, fun w' hw' => ?_⟩) hHeld ?_
          · first | (go_simp; done) | (go_simp; rfl)
          try simp only [Act.put, List.setIfInBounds_toArray, List.set_cons_zero, List.set_cons_succ]
          refine wpAnyH_take (i := 5) (oi := { dst := some 86, op := Go.Op.fieldAddr 45 (Go.Operand.tmp 5) 0, type := 0, pos := _, after := #[], guard := none }) (v := .pointer (some ⟨w.heap.size + 1, 0, none⟩)) rfl (by kernel_rfl) (by kernel_rfl) (by kernel_rfl) (fun _ _ _ h => h) (Or.inl ⟨by rfl, fun w' hw' => ?_⟩) hHeld ?_
          · first | (go_simp; done) | (go_simp; rfl)
          try simp only [Act.put, List.setIfInBounds_toArray, List.set_cons_zero, List.set_cons_succ]
          refine wpAnyH_take (i := 6) (oi := { dst := some 87, op := Go.Op.indexAddr 43 (Go.Operand.tmp 86) (Go.Operand.tmp 85), type := 0, pos := _, after := #[{ on := 5, ground := Go.Ground.data }, { on := 4, ground := Go.Ground.data }], guard := none }) (v := .pointer (some ⟨w.heap.size + 1, j, none⟩)) rfl (by kernel_rfl) (by kernel_rfl) (by kernel_rfl) (fun _ _ _ h => h) (Or.inl ⟨by rfl, fun w' hw' => ?_⟩) hHeld ?_
          · first | (go_simp; done) | (go_simp; rfl)
          try simp only [Act.put, List.setIfInBounds_toArray, List.set_cons_zero, List.set_cons_succ]
          refine wpAnyH_take (i := 7) (oi := { dst := some 88, op := Go.Op.load 25 (Go.Operand.tmp 87), type := 25, pos := _, after := #[{ on := 6, ground := Go.Ground.data }], guard := none }) (v := .int .u64 b) rfl (by kernel_rfl) (by kernel_rfl) (by kernel_rfl) (fun _ _ _ h => h) (Or.inl ⟨by rfl, fun w' hw' => ?_⟩) hHeld ?_
          · have hcc := hw'.2; first | (go_simp; done) | (go_simp; rfl)
          try simp only [Act.put, List.setIfInBounds_toArray, List.set_cons_zero, List.set_cons_succ]
          refine wpAnyH_take (i := 8) (oi := { dst := some 89, op := Go.Op.binOp Go.BinOp.neq 25 (Go.Operand.tmp 84) (Go.Operand.tmp 88) 25, type := 4, pos := _, after := #[{ on := 3, ground := Go.Ground.data }, { on := 7, ground := Go.Ground.data }], guard := none }) (v := .bool false) rfl (by kernel_rfl) (by kernel_rfl) (by kernel_rfl) (fun _ _ _ h => h) (Or.inl ⟨by rfl, fun w' hw' => ?_⟩) hHeld ?_
          · have hcc := HNE.out; first | (go_simp; done) | (go_simp; rfl)
          try simp only [Act.put, List.setIfInBounds_toArray, List.set_cons_zero, List.set_cons_succ]
          refine wpAnyH_done (by kernel_rfl) ?_ _
          clear hHeld HS0
          go_wp2
          go_roundw
          case rel => exact ⟨j + 1, by omega, by rw [HM.out], by go_num, HRD.out, HBD.out⟩
          case measure => simp [intOf]; omega
        · have HM : Hid (dif A0 B0 (j + 1) = N + 1) := by show _ = _; rw [HDS.out, if_neg hab]
          have HNE : Hid ((a != b) = true) := by show _ = _; rw [bne_iff_ne]; exact hab
          clear hab HDS
          go_upto_region 15 with fail
          refine wp_region_held_drew (S := fun X => X.cell? ⟨g17, j, none⟩ = some (.int .u64 a) ∧ X.cell? ⟨w.heap.size + 1, j, none⟩ = some (.int .u64 b)) (by kernel_rfl) HS0.out (fun hHeld => ?_)
          generalize World.drew _ = V at *
          refine wpAnyH_take (i := 0) (oi := { dst := some 81, op := Go.Op.move (Go.Operand.tmp 20), type := 3, pos := _, after := #[], guard := none }) (v := .int .i64 (j : Int)) rfl (by kernel_rfl) (by kernel_rfl) (by kernel_rfl) (fun _ _ _ h => h) (Or.inl ⟨by rfl, fun w' hw' => ?_⟩) hHeld ?_
          · first | (go_simp; done) | (go_simp; rfl)
          try simp only [Act.put, List.setIfInBounds_toArray, List.set_cons_zero, List.set_cons_succ]
          refine wpAnyH_take (i := 1) (oi := { dst := some 82, op := Go.Op.fieldAddr 45 (Go.Operand.tmp 17) 0, type := 0, pos := _, after := #[], guard := none }) (v := .pointer (some ⟨g17, 0, none⟩)) rfl (by kernel_rfl) (by kernel_rfl) (by kernel_rfl) (fun _ _ _ h => h) (Or.inl ⟨by rfl, fun w' hw' => ?_⟩) hHeld ?_
          · first | (go_simp; done) | (go_simp; rfl)
          try simp only [Act.put, List.setIfInBounds_toArray, List.set_cons_zero, List.set_cons_succ]
          refine wpAnyH_take (i := 2) (oi := { dst := some 83, op := Go.Op.indexAddr 43 (Go.Operand.tmp 82) (Go.Operand.tmp 81), type := 0, pos := _, after := #[{ on := 1, ground := Go.Ground.data }, { on := 0, ground := Go.Ground.data }], guard := none }) (v := .pointer (some ⟨g17, j, none⟩)) rfl (by kernel_rfl) (by kernel_rfl) (by kernel_rfl) (fun _ _ _ h => h) (Or.inl ⟨by rfl, fun w' hw' => ?_⟩) hHeld ?_
          · first | (go_simp; done) | (go_simp; rfl)
          try simp only [Act.put, List.setIfInBounds_toArray, List.set_cons_zero, List.set_cons_succ]
          refine wpAnyH_take (i := 3) (oi := { dst := some 84, op := Go.Op.load 25 (Go.Operand.tmp 83), type := 25, pos := _, after := #[{ on := 2, ground := Go.Ground.data }], guard := none }) (v := .int .u64 a) rfl (by kernel_rfl) (by kernel_rfl) (by kernel_rfl) (fun _ _ _ h => h) (Or.inl ⟨by rfl, fun w' hw' => ?_⟩) hHeld ?_
          · have hcc := hw'.1; first | (go_simp; done) | (go_simp; rfl)
          try simp only [Act.put, List.setIfInBounds_toArray, List.set_cons_zero, List.set_cons_succ]
          refine wpAnyH_take (i := 4) (oi := { dst := some 85, op := Go.Op.move (Go.Operand.tmp 20), type := 3, pos := _, after := #[], guard := none }) (v := .int .i64 (j : Int)) rfl (by kernel_rfl) (by kernel_rfl) (by kernel_rfl) (fun _ _ _ h => h) (Or.inl ⟨by rfl, fun w' hw' => ?_⟩) hHeld ?_
          · first | (go_simp; done) | (go_simp; rfl)
          try simp only [Act.put, List.setIfInBounds_toArray, List.set_cons_zero, List.set_cons_succ]
          refine wpAnyH_take (i := 5) (oi := { dst := some 86, op := Go.Op.fieldAddr 45 (Go.Operand.tmp 5) 0, type := 0, pos := _, after := #[], guard := none }) (v := .pointer (some ⟨w.heap.size + 1, 0, none⟩)) rfl (by kernel_rfl) (by kernel_rfl) (by kernel_rfl) (fun _ _ _ h => h) (Or.inl ⟨by rfl, fun w' hw' => ?_⟩) hHeld ?_
          · first | (go_simp; done) | (go_simp; rfl)
          try simp only [Act.put, List.setIfInBounds_toArray, List.set_cons_zero, List.set_cons_succ]
          refine wpAnyH_take (i := 6) (oi := { dst := some 87, op := Go.Op.indexAddr 43 (Go.Operand.tmp 86) (Go.Operand.tmp 85), type := 0, pos := _, after := #[{ on := 5, ground := Go.Ground.data }, { on := 4, ground := Go.Ground.data }], guard := none }) (v := .pointer (some ⟨w.heap.size + 1, j, none⟩)) rfl (by kernel_rfl) (by kernel_rfl) (by kernel_rfl) (fun _ _ _ h => h) (Or.inl ⟨by rfl, fun w' hw' => ?_⟩) hHeld ?_
          · first | (go_simp; done) | (go_simp; rfl)
          try simp only [Act.put, List.setIfInBounds_toArray, List.set_cons_zero, List.set_cons_succ]
          refine wpAnyH_take (i := 7) (oi := { dst := some 88, op := Go.Op.load 25 (Go.Operand.tmp 87), type := 25, pos := _, after := #[{ on := 6, ground := Go.Ground.data }], guard := none }) (v := .int .u64 b) rfl (by kernel_rfl) (by kernel_rfl) (by kernel_rfl) (fun _ _ _ h => h) (Or.inl ⟨by rfl, fun w' hw' => ?_⟩) hHeld ?_
          · have hcc := hw'.2; first | (go_simp; done) | (go_simp; rfl)
          try simp only [Act.put, List.setIfInBounds_toArray, List.set_cons_zero, List.set_cons_succ]
          refine wpAnyH_take (i := 8) (oi := { dst := some 89, op := Go.Op.binOp Go.BinOp.neq 25 (Go.Operand.tmp 84) (Go.Operand.tmp 88) 25, type := 4, pos := _, after := #[{ on := 3, ground := Go.Ground.data }, { on := 7, ground := Go.Ground.data }], guard := none }) (v := .bool true) rfl (by kernel_rfl) (by kernel_rfl) (by kernel_rfl) (fun _ _ _ h => h) (Or.inl ⟨by rfl, fun w' hw' => ?_⟩) hHeld ?_
          · have hcc := HNE.out; first | (go_simp; done) | (go_simp; rfl)
          try simp only [Act.put, List.setIfInBounds_toArray, List.set_cons_zero, List.set_cons_succ]
          refine wpAnyH_done (by kernel_rfl) ?_ _
          clear hHeld HS0
          go_wp2
          go_roundw
          case rel => exact ⟨j + 1, by omega, by rw [HM.out]; go_num, by go_num, HRD.out, HBD.out⟩
          case measure => simp [intOf]; omega
      · have hj8 : j = 8 := by omega
        have hjI : ¬ (j : Int) < 8 := by omega
        have h81 : dif A0 B0 j ≤ 1 := by rw [hj8]; exact H81.out
        generalize dif A0 B0 j = N at *
        have hnI : ¬ (1 : Int) < (N : Int) := by omega
        have HBB : Hid _ := hb
        clear hr hb hd8
        by_cases hL : 600 < ls.length
        · have hLI : (600 : Int) < (ls.length : Int) := by omega
          go_wp2
          go_ret
          exact ⟨rfl, HBW.out _ HBB.out⟩
        · have hLI : ¬ (600 : Int) < (ls.length : Int) := by omega
          by_cases hM : 512 < ls.length
          · have hBIG := list_big _ ls hM _ (HHV.out _ HBB.out)
            go_wp2_with fail
            refine Calls.mono hBIG ?_
            rintro e w9 ⟨rfl, rfl⟩
            clear hBIG
            go_wp2_with fail
            refine Calls.mono (num_any _ _) ?_
            rintro e wq ⟨rfl, rfl⟩
            go_wp2
            go_ret
            exact ⟨rfl, HBW.out _ HBB.out⟩
          · have hLST := list_any _ ls (by omega) _ (HGV.out _ HBB.out) (HHV.out _ HBB.out)
            cases hw : lsW ls with
            | none =>
              have hLS2 : lsRes ls = .tuple #[sV [], .int .i64 4] := by unfold lsRes; rw [hw]
              rw [hLS2] at hLST
              clear hLS2
              go_wp2_with fail
              refine Calls.mono hLST ?_
              rintro e X9 ⟨rfl, hX⟩
              have HB9 : Hid (Below W0.heap.size W0 X9) := HBB.out.trans (hX.mono HBB.out.size)
              clear hX hLST
              go_wp2_with fail
              refine Calls.mono (num_any _ _) ?_
              rintro e wq ⟨rfl, rfl⟩
              go_wp2
              go_ret
              exact ⟨rfl, HBW.out _ HB9.out⟩
            | some t =>
              have hLS2 : lsRes ls = .tuple #[sV (lt_ t), .int .i64 0] := by unfold lsRes; rw [hw]
              rw [hLS2] at hLST
              clear hLS2
              obtain ⟨b1, b2, b3⟩ := back_ok HUS.out hw
              have hl1 := lsW_len hw
              have hl2 := lt_len t (lsW_60 hw)
              have hPG : ∀ W, GV W → Calls Tryd.prog 26 #[sV (lt_ t)] W fun e w' => (∃ u, e = .returned (.tuple #[u, .int .i64 0, .int .i64 0]) ∧ FU W.heap.size w' u ls) ∧ Below W.heap.size W w' := fun W hW => (prog_any (lt_ t) (by omega) W hW).mono fun e w' ⟨h1, h2⟩ => ⟨by
                have q := h1.ok (by rw [b1, hl1]; omega) (by rw [b1]; exact b3)
                rw [b1, b2] at q
                exact q, h2⟩
              clear hw b1 b2 b3 hl1 hl2
              generalize sV (lt_ t) = TV at *
              go_wp2_with fail
              refine Calls.mono hLST ?_
              rintro e X9 ⟨rfl, hX⟩
              have HB9 : Hid (Below W0.heap.size W0 X9) := HBB.out.trans (hX.mono HBB.out.size)
              clear hX hLST
              go_wp2_with fail
              refine Calls.mono (num_any _ _) ?_
              rintro e wq ⟨rfl, rfl⟩
              go_wp2_with fail
              refine Calls.mono (hPG _ (HGV.out _ HB9.out)) ?_
              rintro e XA ⟨⟨u, rfl, hf⟩, hX⟩
              have HBA : Hid (Below W0.heap.size W0 XA) := HB9.out.trans (hX.mono HB9.out.size)
              have hSM := same_eq u _ ls XA (by omega) (hf.hu HUS.out) (HHV.out _ HBA.out)
              clear hX hf hPG
              go_wp2_with fail
              refine Calls.mono hSM ?_
              rintro e XB ⟨rfl, hX⟩
              have HBC : Hid (Below W0.heap.size W0 XB) := HBA.out.trans (hX.mono HBA.out.size)
              clear hX hSM
              go_wp2_with fail
              refine Calls.mono (num_any _ _) ?_
              rintro e wq ⟨rfl, rfl⟩
              go_wp2
              go_ret
              exact ⟨rfl, HBW.out _ HBC.out⟩
set_option maxRecDepth 100000 in
theorem lifted (os : Os) (started : os.Started) (H : Type) (enc : TypeId × Value → H) :
    ReturnsInHanded {} Tryd.checked os 7 .any (fun w args => (Rows.cpuBackSpec.pre enc Tryd.prog Tryd.f7 [] false w args ∧ laidMetH Tryd.prog Rows.cpuBackRow.laid w) ∧ sizedMet enc Tryd.prog Tryd.f7 (OpenSpec.ofChange Rows.cpuBackSpec) false w args) (Rows.cpuBackSpec.post enc Tryd.prog Tryd.f7 false true false false) := by
  refine returnsInHanded_of_change_and (C := Tryd.checked) (X := fun w _ => laidMetH Tryd.prog Rows.cpuBackRow.laid w) (fun _ _ _ hh h => h.of_heap hh) own started (by kernel_rfl) Tryd.func7
    (ChangeSpec.witness_shaped (enc := enc) (C := Tryd.checked) (os := os) (X := fun w _ => laidMetH Tryd.prog Rows.cpuBackRow.laid w) false (World.doorLaid Tryd.prog 400 os) #[.agg (Array.replicate 5 (.int .i64 0)), .agg (Array.replicate 9 (.int .u64 0)), .int .u64 0, .slice none 0 0] 8 rfl (World.shaped_of_RefB (by kernel_rfl) (by kernel_rfl)) (by kernel_rfl) (by kernel_rfl) (by kernel_rfl) (door_met os _)) ?_
  intro W base args ds gs before hval0 hW hcnd _ hL _
  have hval : ∀ (j : Nat) t v, Tryd.f7.params[j]? = some t → args[j]? = some v → Value.okWide Tryd.prog W .any base t v := hval0
  have hW' := hW
  obtain ⟨p, q, hA0, hV, rfl, hfz, hnd⟩ := hW
  have hA : DataW.TrodAll enc Tryd.prog W 0 (fun _ => true) true Tryd.f7.params.toList args.toList ds p := hA0
  rw [Tryd.params7] at hA hval
  obtain ⟨v0, vs0, d0, ds0, p0, q0, hargs, rfl, rfl, h0, r0⟩ := trodAll_cons hA
  obtain ⟨v1, vs1, d1, ds1, p1, q1, rfl, rfl, rfl, h1, r1⟩ := trodAll_cons r0
  obtain ⟨v2, vs2, d2, ds2, p2, q2, rfl, rfl, rfl, h2, r2⟩ := trodAll_cons r1
  obtain ⟨v3, vs3, d3, ds3, p3, q3, rfl, rfl, rfl, h3, r3⟩ := trodAll_cons r2
  obtain ⟨rfl, rfl, rfl⟩ := trodAll_nil r3
  obtain rfl : args = #[v0, v1, v2, v3] := by cases args; simp_all
  obtain ⟨rfl, rfl⟩ := trodVars_none hV
  have k0 := h0
  have lt0 : ∀ x ∈ p0, x.block < W.heap.size := by obtain ⟨m, hm⟩ := k0; exact DataW.trod_lt m _ _ _ hm
  obtain ⟨xs0, rfl⟩ := JC.okWide_str Tryd.underlying24 (hval 0 24 v0 rfl rfl)
  obtain ⟨i0, rfl, hl0⟩ : ∃ i : JC.Ins, xs0 = (JC.iL i).toArray ∧ JC.iwf i := by obtain ⟨fuel, hf⟩ := h0; obtain ⟨s, e, h1⟩ := JC.open_ins hf; exact ⟨s, by rw [← Array.toList_inj]; exact e, h1⟩
  have k1 := h1
  have lt1 : ∀ x ∈ p1, x.block < W.heap.size := by obtain ⟨m, hm⟩ := k1; exact DataW.trod_lt m _ _ _ hm
  obtain ⟨xs1, rfl⟩ := JC.okWide_str Tryd.underlying45 (hval 1 45 v1 rfl rfl)
  obtain ⟨s1, rfl, hl1⟩ : ∃ s : JC.St, xs1 = (JC.sL s).toArray ∧ JC.swf s := by obtain ⟨fuel, hf⟩ := h1; obtain ⟨s, e, h1⟩ := JC.open_cpu hf; exact ⟨s, by rw [← Array.toList_inj]; exact e, h1⟩
  obtain ⟨n2, rfl, rfl, rfl, w2⟩ := open_int Tryd.underlying25 (hval 2 25 v2 rfl rfl) h2
  obtain ⟨a3, len3, cap3, rfl⟩ := okWide_slice Tryd.underlying59 (hval 3 59 v3 rfl rfl)
  have k3 := h3
  have lt3 : ∀ x ∈ p3, x.block < W.heap.size := by obtain ⟨m, hm⟩ := k3; exact DataW.trod_lt m _ _ _ hm
  obtain ⟨l3, hl3, hm3⟩ : ∃ ls, JC.HU W (.slice a3 len3 cap3) ls ∧ ls.length ≤ 9223372036854775807 := by obtain ⟨fuel, hf⟩ := h3; exact JC.open_us hf
  clear hA0 hval0
  refine (walk i0 s1 n2 _ l3 W hl0 hl1 w2 hm3 hl3 (of_laid hL)).mono fun e W' ⟨he, bel⟩ => ?_
  subst he
  exact ⟨_, rfl, _, _, _, [], _, [], hW', trodAll_mk1 (shut_bool Tryd.underlying4 _), (trodAll_cons_mk (Below.trod laidOut (by kernel_rfl) (of_decide_eq_true (by kernel_rfl)) k0 bel lt0) (trodAll_cons_mk (Below.trod laidOut (by kernel_rfl) (of_decide_eq_true (by kernel_rfl)) k1 bel lt1) (trodAll_cons_mk (shut_int Tryd.underlying25 w2) (trodAll_cons_mk (Below.trod laidOut (by kernel_rfl) (of_decide_eq_true (by kernel_rfl)) k3 bel lt3) trodAll_mk0)))), rfl, bel.frame _, fun h => by cases h⟩

theorem over : Rows.cpuBackRow.holds Tryd.pinned (OpenSpec.ofChange Rows.cpuBackSpec) :=
  OpenClaim.holds_of_wide 7 Tryd.f7 rfl rfl rfl rfl rfl rfl rfl ⟨rfl, rfl, rfl, rfl, rfl⟩ rfl rfl rfl rfl rfl (by kernel_rfl) Tryd.func7 (by kernel_rfl)
    (of_decide_eq_true (by kernel_rfl)) (by unfold Func.isWrapper; first | (rw [if_pos (by decide +kernel)]; kernel_rfl) | (rw [if_neg (by decide +kernel)]; exact ⟨rfl, rfl⟩))
    (fun os started H enc _ => lifted os started H enc)

theorem card : Rows.CpuBackCardSaid :=
  Claim7.holds_tied_plain_at .later [] Rows.cpuBackCard.laidKinds true Rows.cpuBackCard.stood.harness Rows.cpuBackCard.stood.looks
    over (fun _ h => by cases h) (by kernel_rfl) (fun _ h => by cases h) cpuBack_row_tie rfl ⟨rfl, rfl⟩ (by kernel_rfl) rfl
    (fun f fn hf hfn => by
      obtain rfl : f = 7 := Option.some.inj ((show Tryd.prog.funcNamed Rows.cpuBackRow.func = some 7 by kernel_rfl).symm.trans hf) |>.symm
      obtain rfl : fn = Tryd.f7 := (Option.some.inj (Tryd.func7.symm.trans hfn)).symm
      exact ⟨by kernel_rfl, fun j t ht => by
        rw [Tryd.params7] at ht
        have hm : t ∈ [24, 45, 25, 59] := by simpa using Array.mem_of_getElem? ht
        have hall : ([24, 45, 25, 59].all fun u => !Tryd.prog.wantsStandIn u) = true := by kernel_rfl
        exact (show Tryd.prog.wantsStandIn t = false by simpa using List.all_eq_true.1 hall t hm)⟩)
    (by kernel_rfl)
end Go.Proofs.YtkpjfhphohanlaaDoor.cpuBack
namespace Go.Proofs.YtkpjfhphohanlaaDoor
theorem cpuBack_holds : Rows.CpuBackCardSaid := cpuBack.card
#print axioms cpuBack_holds
end Go.Proofs.YtkpjfhphohanlaaDoor
