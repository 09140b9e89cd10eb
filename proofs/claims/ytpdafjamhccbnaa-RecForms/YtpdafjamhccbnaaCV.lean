/- rec: contract of OutOf. -/
import Derived.Test.YtpdafjamhccbnaaCS
set_option linter.unusedVariables false
set_option linter.unusedSimpArgs false
namespace Go.Proofs.Ytpdafjamhccbnaa.VC
open Go.RowKit

def oo (G : List UInt8) : Ot := ⟨IntKind.i64.wrap (wo G 0), ((ws G).drop 1).take 4, wo G 5, wo G 6 == 1, IntKind.i64.wrap (wo G 7)⟩
def ooF (G : List UInt8) : Bool := VC.mt (oo G) && (gr (ow (oo G)) == G)
theorem wrap_wf (x : Int) : (Lit.int .i64 (IntKind.i64.wrap x)).wf = true := by
  rw [IntKind.wrap_i64]
  simp [Lit.wf, IntKind.min, IntKind.max, IntKind.signed, IntKind.bits]
  omega
theorem oo_ok (G : List UInt8) : ook (oo G) := by
  refine ⟨⟨?_, fun x hx => ?_⟩, wo_u G 5, wrap_wf _, wrap_wf _⟩
  · unfold oo; simp [ws_len]
  · exact ws_u G x (List.mem_of_mem_drop (List.mem_of_mem_take hx))
theorem bldO (a b : Int) (c : Bool) (d : Int) (W : World) : (Instr.build 40 #[(0, .int .i64 a), (2, .int .u64 b), (3, .bool c), (4, .int .i64 d)]).run Try.prog W = .ok (.agg (oL ⟨a, Z4, b, c, d⟩).toArray) W := by kernel_rfl
theorem oo_seg (G : List UInt8) : splice (oL ⟨(oo G).re, Z4, (oo G).ad, (oo G).wr, (oo G).ran⟩) 1 ((oo G).ns.map U) = oL (oo G) := by
  obtain ⟨a, b, c, d, hk⟩ := four (oo_ok G).n.len
  unfold oL; rw [hk]; rfl
set_option maxHeartbeats 2000000 in
set_option maxRecDepth 100000 in
theorem outOf_any (G : List UInt8) (hG : G.length = 128) (w : World) : Calls Try.prog 18 #[.agg (G.map B8).toArray] w fun e w' => e = .returned (.tuple #[.agg (oL (if ooF G = true then oo G else o0)).toArray, .int .i64 (if ooF G = true then 0 else 4)]) ∧ Below w.heap.size w w' := by
  have hok := oo_ok G
  have h4 := hok.n.len
  have hz := zero8
  have HBI : Hid _ := bld8
  have hzw := zero_ws
  have hzg := zero_gr
  have HSG : Hid _ := oo_seg G
  obtain ⟨ZI, hZI⟩ : ∃ L, L = oL o0 := ⟨_, rfl⟩
  have HZI : Hid (ZI.length = 8) := by rw [hZI]; rfl
  have HZ1 : Hid (ZI.toArray.all (·.oneCell') = true) := by rw [hZI]; exact oL_one o0
  rw [← hZI] at hz HBI
  obtain ⟨ZW, hZW⟩ : ∃ L, L = Z16.map U := ⟨_, rfl⟩
  have HZW : Hid (ZW.length = 16) := by rw [hZW]; rfl
  rw [← hZW] at hzw
  obtain ⟨ZG, hZG⟩ : ∃ L, L = Z128.map B8 := ⟨_, rfl⟩
  have HZG : Hid (ZG.length = 128) := by show _ = _; rw [hZG, List.length_map, z128_len]
  rw [← hZG] at hzg
  have HWS : Hid (∀ W, Calls Try.prog 23 #[.agg (G.map B8).toArray] W fun e w' => e = .returned (.agg ((ws G).map U).toArray) ∧ Below W.heap.size W w') := fun W => wordsOf_any G hG W
  have HOB : Hid (∀ W, Calls Try.prog 15 #[.agg (oL (oo G)).toArray] W fun e w' => e = .returned (.tuple #[.agg ((obL (oo G)).map B8).toArray, .int .i64 (if VC.mt (oo G) = true then 0 else 2)]) ∧ Below W.heap.size W w') := fun W => outBytes_any (oo G) hok W
  have HEQ : Hid (∀ W, (Op.equalIn 10000 45 (.agg ((obL (oo G)).map B8).toArray) (.agg (G.map B8).toArray)).run Try.prog W = .ok (obL (oo G) == G) W) := fun W => eq_gr W _ _ (obL_len h4) hG _ rfl
  have HGL : Hid ((G.map B8).length = 128) := by show _ = _; rw [List.length_map]; exact hG
  have HBL : Hid (((obL (oo G)).map B8).length = 128) := by show _ = _; rw [List.length_map]; exact obL_len h4
  have HB1 : Hid _ := B8_onea (obL (oo G))
  have HQL : Hid (((ws G).map U).length = 16) := by show _ = _; rw [List.length_map]; exact ws_len G
  have HQ1 : Hid _ := onea (U_one (ws G))
  have HNL : Hid (((oo G).ns.map U).length = 4) := by show _ = _; simpa using h4
  have HN1 : Hid _ := U_one (oo G).ns
  have HTK : Hid ((((ws G).map U).drop 1).take 4 = (oo G).ns.map U) := by show _ = _; rw [← List.map_drop, ← List.map_take]; rfl
  have HBO : Hid _ := bldO (IntKind.i64.wrap (wo G 0)) (wo G 5) (wo G 6 == 1) (IntKind.i64.wrap (wo G 7))
  have HWG : Hid (∀ i, i < 16 → ((ws G).map U)[i]? = some (.int .u64 (wo G i))) := fun i hi => by rw [U_get (ws G) i (by rw [ws_len]; exact hi), ws_get G i hi]
  have HAL : Hid ((oL ⟨(oo G).re, Z4, (oo G).ad, (oo G).wr, (oo G).ran⟩).length = 8) := rfl
  have HA1 : Hid _ := oL_one ⟨(oo G).re, Z4, (oo G).ad, (oo G).wr, (oo G).ran⟩
  have HTL : Hid _ := oL_len h4
  have HT1 : Hid _ := oL_one (oo G)
  have HR : Hid _ := ((RS.start w).alloc _ rfl 45 (G.map B8)).alloc (w.heap.size + 1) (by simp) 40 ZI
  have HFIN : Hid (∀ b, ooF G = b → (.tuple #[.agg (oL (if ooF G = true then oo G else o0)).toArray, .int .i64 (if ooF G = true then 0 else 4)] : Value) = if b = true then .tuple #[.agg (oL (oo G)).toArray, .int .i64 0] else .tuple #[.agg ZI.toArray, .int .i64 4]) := by
    intro b hb; rw [hb, hZI]; cases b <;> rfl
  have HFF : Hid (ooF G = (VC.mt (oo G) && (obL (oo G) == G))) := by
    show _ = _
    unfold ooF obL
    cases VC.mt (oo G) <;> simp
  obtain ⟨AL, hAL⟩ : ∃ L, L = oL ⟨(oo G).re, Z4, (oo G).ad, (oo G).wr, (oo G).ran⟩ := ⟨_, rfl⟩
  have HBO2 : Hid (∀ W, (Instr.build 40 #[(0, .int .i64 (IntKind.i64.wrap (wo G 0))), (2, .int .u64 (wo G 5)), (3, .bool (wo G 6 == 1)), (4, .int .i64 (IntKind.i64.wrap (wo G 7)))]).run Try.prog W = .ok (.agg AL.toArray) W) := by rw [hAL]; exact HBO.out
  rw [← hAL] at HSG HAL HA1
  clear HBO hAL
  generalize (.tuple #[.agg (oL (if ooF G = true then oo G else o0)).toArray, .int .i64 (if ooF G = true then 0 else 4)] : Value) = RV at *
  generalize ooF G = FN at *
  generalize (obL (oo G) == G) = EQ at *
  generalize VC.mt (oo G) = MT at *
  generalize (obL (oo G)).map B8 = BL at *
  generalize oL (oo G) = TL at *
  generalize (oo G).ns.map U = NL at *
  generalize (ws G).map U = QL at *
  generalize G.map B8 = GL at *
  have HW0 : Hid _ := HWG.out 0 (by decide)
  have HW5 : Hid _ := HWG.out 5 (by decide)
  have HW6 : Hid _ := HWG.out 6 (by decide)
  have HW7 : Hid _ := HWG.out 7 (by decide)
  generalize wo G 0 = x0 at *
  generalize wo G 5 = x5 at *
  generalize wo G 6 = x6 at *
  generalize wo G 7 = x7 at *
  obtain ⟨q0, hq0⟩ : ∃ r, IntKind.i64.wrap x0 = r := ⟨_, rfl⟩
  obtain ⟨q7, hq7⟩ : ∃ r, IntKind.i64.wrap x7 = r := ⟨_, rfl⟩
  rw [hq0, hq7] at HBO2
  have hv0 : wrap64 x0 = q0 := by rw [← hq0, IntKind.wrap_i64]; unfold wrap64; omega
  have hv7 : wrap64 x7 = q7 := by rw [← hq7, IntKind.wrap_i64]; unfold wrap64; omega
  clear hZI hZW hZG h4 hok hG HWG
  go_enter Try.func18, Try.ntmps18
  go_wp2_with (refine wpList_load_mid rfl 45 (.tmp 1) rfl w.heap.size 0 rfl GL _ (rangeAt_row (HR.out.at 1 rfl)) Try.underlying45 rfl (info128 GL HGL.out) ?_)
  refine Calls.mono (HWS.out _) ?_
  rintro e W1 ⟨rfl, b1⟩
  have R1 := (HR.out.step b1).alloc _ rfl 70 ZW
  have HRa : Hid _ := R1
  have HRb : Hid _ := R1.put 0 rfl QL
  clear b1 R1 HR HWS
  go_wp2_with (first
    | (refine wpList_store_rowL rfl 70 (.tmp 4) (.tmp 9) rfl W1.heap.size QL.toArray rfl rfl 70 ZW.toArray (HRa.out.at 0 rfl) (info16a QL HQL.out) (by simp [HZW.out, HQL.out]) HQ1.out ?_
       intro V1 hV1
       rw [← hV1] at HRb
       have c0 := HRb.out.cell 0 rfl 0 HW0.out
       have c5 := HRb.out.cell 0 rfl 5 HW5.out
       have c6 := HRb.out.cell 0 rfl 6 HW6.out
       have c7 := HRb.out.cell 0 rfl 7 HW7.out
       clear HRa hV1)
    | (refine build_g (by rfl) 40 #[(0, .tmp 12), (2, .tmp 14), (3, .tmp 17), (4, .tmp 20)] rfl #[(0, .int .i64 q0), (2, .int .u64 x5), (3, .bool (x6 == 1)), (4, .int .i64 q7)] (.agg AL.toArray) (by first | (simp [Act.eval]; done) | (simp [Act.eval]; rfl)) (HBO2.out _) ?_
       have R3 := HRb.out.alloc _ rfl 40 ZI
       have HR3 : Hid _ := R3
       have HR4 : Hid (RS w [(V1.heap.size, 40, AL), (W1.heap.size, 70, QL), (w.heap.size + 1, 40, ZI), (w.heap.size, 45, GL)] ((V1.alloc (.cells ZI.toArray 40 (0, 0))).setRow V1.heap.size AL.toArray)) := R3.put 0 rfl AL
       clear R3 HRb)
    | (refine wpList_store_rowL rfl 40 (.tmp 5) (.tmp 21) rfl V1.heap.size AL.toArray rfl rfl 40 ZI.toArray (HR3.out.at 0 rfl) (info8oa AL HAL.out) (by simp [HZI.out, HAL.out]) HA1.out ?_
       intro V2 hV2
       rw [← hV2] at HR4
       clear hV2 HR3 c0 c5 c6 c7))
  generalize W1.heap.size = n1 at *
  generalize V1.heap.size = n2 at *
  refine wp_region_held_drew (S := fun X => ∃ Z : List Value, RS w [(n2, 40, Z), (n1, 70, QL), (w.heap.size + 1, 40, ZI), (w.heap.size, 45, GL)] X) (by kernel_rfl) ⟨AL, HR4.out.step (below_drew _)⟩ (fun hHeld => ?_)
  have hs1 := fun W => slice44 W n2 1
  have hs2 := fun W => slice15 W n1
  refine wpAnyH_take (i := 0) (oi := { dst := some 22, op := Go.Op.fieldAddr 40 (Go.Operand.tmp 5) 1, type := 0, pos := _, after := #[], guard := none }) (v := .pointer (some ⟨n2, 1, none⟩)) rfl (by kernel_rfl) (by kernel_rfl) (by kernel_rfl) (fun _ _ _ h => h) (Or.inl ⟨by rfl, fun w' hw' => ?_⟩) hHeld ?_
  · first | (go_simp; done) | (go_simp; rfl)
  try simp only [Act.put, List.setIfInBounds_toArray, List.set_cons_zero, List.set_cons_succ]
  refine wpAnyH_take (i := 1) (oi := { dst := some 23, op := Go.Op.slice 29 (Go.Operand.tmp 22) none none none, type := 64, pos := _, after := #[{ on := 0, ground := Go.Ground.data }], guard := none }) (v := .slice (some ⟨n2, 1, none⟩) 4 4) rfl (by kernel_rfl) (by kernel_rfl) (by kernel_rfl) (fun _ _ _ h => h) (Or.inl ⟨by rfl, fun w' hw' => ?_⟩) hHeld ?_
  · first | (go_simp; done) | (go_simp; rfl)
  try simp only [Act.put, List.setIfInBounds_toArray, List.set_cons_zero, List.set_cons_succ]
  refine wpAnyH_take (i := 2) (oi := { dst := some 24, op := Go.Op.slice 70 (Go.Operand.tmp 4) (some (Go.Operand.const (Go.Value.int Go.IntKind.i64 1))) (some (Go.Operand.const (Go.Value.int Go.IntKind.i64 5))) none, type := 64, pos := _, after := #[], guard := none }) (v := .slice (some ⟨n1, 1, none⟩) 4 15) rfl (by kernel_rfl) (by kernel_rfl) (by kernel_rfl) (fun _ _ _ h => h) (Or.inl ⟨by rfl, fun w' hw' => ?_⟩) hHeld ?_
  · first | (go_simp; done) | (go_simp; rfl)
  try simp only [Act.put, List.setIfInBounds_toArray, List.set_cons_zero, List.set_cons_succ]
  refine wpAnyH_ready (rs := [3]) (by kernel_rfl) (by simp) ?_
  refine AllReadyH.cons (o := { dst := some 25, op := Go.Op.call { callee := Go.Callee.builtin Go.Builtin.copy, args := #[Go.Operand.tmp 23, Go.Operand.tmp 24], argTypes := #[64, 64] }, type := 3, pos := _, after := #[{ on := 1, ground := Go.Ground.data }, { on := 2, ground := Go.Ground.data }], guard := none }) rfl (fun K hK => ?_) AllReadyH.nil
  rw [if_pos (by rfl)]
  have R4 := HR4.out.step (below_drew _)
  refine wp_copy_seg (.tmp 23) (.tmp 24) rfl n2 1 4 4 (some ⟨n1, 1, none⟩) 4 15 rfl rfl AL 40 (R4.at 0 rfl) NL (by rw [HNL.out]; rfl) (fun _ => ⟨_, rfl, fun j v hv => ?_⟩) (by rw [HNL.out, HAL.out]; decide) HN1.out ?_
  · rw [add_none]
    have q := rangeAt_part (rangeAt_row (R4.at 1 rfl)) 1 4
    rw [HTK.out, Nat.zero_add] at q
    exact q j v hv
  rw [HSG.out]
  have R5 := R4.put 0 rfl TL
  have HR6 : Hid _ := R5
  refine hK.out _ _ ⟨TL, R5⟩ (fun _ => ?_)
  clear hK K
  try simp only [Act.put, List.setIfInBounds_toArray, List.set_cons_zero, List.set_cons_succ]
  refine wpAnyH_done (by kernel_rfl) ?_ _
  clear R4 R5 hHeld hs1 hs2 HR4
  generalize World.setRow _ n2 TL.toArray = V5 at *
  go_wp2_with (refine wpList_load_mid rfl 40 (.tmp 5) rfl n2 0 rfl TL _ (rangeAt_row (HR6.out.at 0 rfl)) Try.underlying40 rfl (info8o TL HTL.out) ?_)
  refine Calls.mono (HOB.out _) ?_
  rintro e V6 ⟨rfl, b6⟩
  have R7 := (HR6.out.step b6).alloc _ rfl 45 ZG
  have HR7 : Hid _ := R7
  have HR8 : Hid (RS w [(V6.heap.size, 45, BL), (n2, 40, TL), (n1, 70, QL), (w.heap.size + 1, 40, ZI), (w.heap.size, 45, GL)] ((V6.alloc (.cells ZG.toArray 45 (0, 0))).setRow V6.heap.size BL.toArray)) := R7.put 0 rfl BL
  clear b6 R7 HR6
  have hqq := HEQ.out
  cases MT
  · simp only [Bool.false_eq_true, if_false]
    go_wp2_with (first
      | (refine wpList_store_rowL rfl 45 (.tmp 6) (.tmp 29) rfl V6.heap.size BL.toArray rfl rfl 45 ZG.toArray (HR7.out.at 0 rfl) (info128a BL HBL.out) (by simp [HZG.out, HBL.out]) HB1.out ?_
         intro V7 hV7
         rw [← hV7] at HR8
         clear hV7 HR7)
      | (refine load_mid_g (by rfl) 45 (.tmp 6) rfl V6.heap.size 0 rfl BL _ (rangeAt_row (HR8.out.at 0 rfl)) Try.underlying45 rfl (info128 BL HBL.out) ?_)
      | (refine load_mid_g (by rfl) 45 (.tmp 1) rfl w.heap.size 0 rfl GL _ (rangeAt_row (HR8.out.at 4 rfl)) Try.underlying45 rfl (info128 GL HGL.out) ?_)
      | (refine build_g (by rfl) 40 #[] rfl #[] (.agg ZI.toArray) (by simp [Act.eval]) (HBI.out _) ?_) | (refine wpList_store_row rfl 40 (.tmp 2) (.tmp 38) rfl (w.heap.size + 1) ZI.toArray rfl rfl 40 ZI.toArray (HR8.out.at 3 rfl) (info8oa ZI HZI.out) rfl HZ1.out ?_))
    have R9 := HR8.out.put 3 rfl ZI
    refine bodyPost_ret (v := .tuple #[.agg ZI.toArray, .int .i64 4]) (results2 Try.results18 _ _ (w.heap.size + 1) _ ZI _ _ rfl rfl (R9.at 3 rfl) Try.underlying40 rfl (info8o ZI HZI.out)) rfl ⟨by rw [HFIN.out false HFF.out]; rfl, R9.bel⟩
  · simp only [if_true]
    cases EQ
    · skip
      go_wp2_with (first
        | (refine wpList_store_rowL rfl 45 (.tmp 6) (.tmp 29) rfl V6.heap.size BL.toArray rfl rfl 45 ZG.toArray (HR7.out.at 0 rfl) (info128a BL HBL.out) (by simp [HZG.out, HBL.out]) HB1.out ?_
           intro V7 hV7
           rw [← hV7] at HR8
           clear hV7 HR7)
        | (refine load_mid_g (by rfl) 45 (.tmp 6) rfl V6.heap.size 0 rfl BL _ (rangeAt_row (HR8.out.at 0 rfl)) Try.underlying45 rfl (info128 BL HBL.out) ?_)
        | (refine load_mid_g (by rfl) 45 (.tmp 1) rfl w.heap.size 0 rfl GL _ (rangeAt_row (HR8.out.at 4 rfl)) Try.underlying45 rfl (info128 GL HGL.out) ?_)
        | (refine build_g (by rfl) 40 #[] rfl #[] (.agg ZI.toArray) (by simp [Act.eval]) (HBI.out _) ?_) | (refine wpList_store_row rfl 40 (.tmp 2) (.tmp 38) rfl (w.heap.size + 1) ZI.toArray rfl rfl 40 ZI.toArray (HR8.out.at 3 rfl) (info8oa ZI HZI.out) rfl HZ1.out ?_))
      have R9 := HR8.out.put 3 rfl ZI
      refine bodyPost_ret (v := .tuple #[.agg ZI.toArray, .int .i64 4]) (results2 Try.results18 _ _ (w.heap.size + 1) _ ZI _ _ rfl rfl (R9.at 3 rfl) Try.underlying40 rfl (info8o ZI HZI.out)) rfl ⟨by rw [HFIN.out false HFF.out]; rfl, R9.bel⟩
    · skip
      go_wp2_with (first
        | (refine wpList_store_rowL rfl 45 (.tmp 6) (.tmp 29) rfl V6.heap.size BL.toArray rfl rfl 45 ZG.toArray (HR7.out.at 0 rfl) (info128a BL HBL.out) (by simp [HZG.out, HBL.out]) HB1.out ?_
           intro V7 hV7
           rw [← hV7] at HR8
           clear hV7 HR7)
        | (refine load_mid_g (by rfl) 45 (.tmp 6) rfl V6.heap.size 0 rfl BL _ (rangeAt_row (HR8.out.at 0 rfl)) Try.underlying45 rfl (info128 BL HBL.out) ?_)
        | (refine load_mid_g (by rfl) 45 (.tmp 1) rfl w.heap.size 0 rfl GL _ (rangeAt_row (HR8.out.at 4 rfl)) Try.underlying45 rfl (info128 GL HGL.out) ?_)
        | (refine wpList_load_mid rfl 40 (.tmp 5) rfl n2 0 rfl TL _ (rangeAt_row (HR8.out.at 1 rfl)) Try.underlying40 rfl (info8o TL HTL.out) ?_) | (refine wpList_store_row rfl 40 (.tmp 2) (.tmp 39) rfl (w.heap.size + 1) TL.toArray rfl rfl 40 ZI.toArray (HR8.out.at 3 rfl) (info8oa TL HTL.out) (by simp [HZI.out, HTL.out]) HT1.out ?_))
      have R9 := HR8.out.put 3 rfl TL
      refine bodyPost_ret (v := .tuple #[.agg TL.toArray, .int .i64 0]) (results2 Try.results18 _ _ (w.heap.size + 1) _ TL _ _ rfl rfl (R9.at 3 rfl) Try.underlying40 rfl (info8o TL HTL.out)) rfl ⟨by rw [HFIN.out true HFF.out]; rfl, R9.bel⟩
end Go.Proofs.Ytpdafjamhccbnaa.VC
