/- rec: contract of InOf. -/
import Derived.Test.YtpdafjamhccbnaaCS
set_option linter.unusedVariables false
set_option linter.unusedSimpArgs false
namespace Go.Proofs.Ytpdafjamhccbnaa.VC
open Go.RowKit

def inN (G : List UInt8) : List Int := (ws G).take 4
def inF (G : List UInt8) : Bool := gr (inN G ++ Z12) == G
theorem inN_ok (G : List UInt8) : nok (inN G) := ⟨by unfold inN; rw [List.length_take, ws_len]; rfl, fun x hx => ws_u G x (List.mem_of_mem_take hx)⟩
theorem zero4i (W : World) : (zeroValue 31).run Try.prog W = .ok (.agg (Z4.map U).toArray) W := by kernel_rfl
theorem bld4i (W : World) : (Instr.build 31 #[]).run Try.prog W = .ok (.agg (Z4.map U).toArray) W := by kernel_rfl
theorem info4ia (L : List Value) (h : L.length = 4) : (Try.prog.info? 31).map (·.size) = some L.toArray.size := by rw [List.size_toArray, h]; kernel_rfl
theorem in4_seg {ns : List Int} (h : ns.length = 4) : splice (Z4.map U) 0 (ns.map U) = ns.map U := by
  obtain ⟨a, b, c, d, rfl⟩ := four h
  rfl
set_option maxHeartbeats 2000000 in
set_option maxRecDepth 100000 in
theorem inOf_any (G : List UInt8) (hG : G.length = 128) (w : World) : Calls Try.prog 14 #[.agg (G.map B8).toArray] w fun e w' => e = .returned (.tuple #[.agg ((if inF G = true then inN G else Z4).map U).toArray, .int .i64 (if inF G = true then 0 else 4)]) ∧ Below w.heap.size w w' := by
  have hok := inN_ok G
  have h4 := hok.len
  have hz := zero4i
  have HBI : Hid _ := bld4i
  have hzw := zero_ws
  have HSG : Hid _ := in4_seg h4
  obtain ⟨ZI, hZI⟩ : ∃ L, L = Z4.map U := ⟨_, rfl⟩
  have HZI : Hid (ZI.length = 4) := by rw [hZI]; rfl
  have HZ1 : Hid (ZI.toArray.all (·.oneCell') = true) := by rw [hZI]; exact onea (U_one Z4)
  rw [← hZI] at hz HSG HBI
  obtain ⟨ZW, hZW⟩ : ∃ L, L = Z16.map U := ⟨_, rfl⟩
  have HZW : Hid (ZW.length = 16) := by rw [hZW]; rfl
  rw [← hZW] at hzw
  have HWS : Hid (∀ W, Calls Try.prog 23 #[.agg (G.map B8).toArray] W fun e w' => e = .returned (.agg ((ws G).map U).toArray) ∧ Below W.heap.size W w') := fun W => wordsOf_any G hG W
  have HIB : Hid (∀ W, Calls Try.prog 13 #[.agg ((inN G).map U).toArray] W fun e w' => e = .returned (.agg ((gr (inN G ++ Z12)).map B8).toArray) ∧ Below W.heap.size W w') := fun W => inBytes_any (inN G) hok W
  have HEQ : Hid (∀ W, (Op.equalIn 10000 45 (.agg ((gr (inN G ++ Z12)).map B8).toArray) (.agg (G.map B8).toArray)).run Try.prog W = .ok (inF G) W) := fun W => eq_gr W _ _ (by rw [gr_len, in_len h4]) hG _ rfl
  have HGL : Hid ((G.map B8).length = 128) := by show _ = _; rw [List.length_map]; exact hG
  have HQL : Hid (((ws G).map U).length = 16) := by show _ = _; rw [List.length_map]; exact ws_len G
  have HQ1 : Hid _ := onea (U_one (ws G))
  have HNL : Hid (((inN G).map U).length = 4) := by show _ = _; simpa using h4
  have HN1 : Hid _ := U_one (inN G)
  have HN1a : Hid _ := onea (U_one (inN G))
  have HTK : Hid ((((ws G).map U).drop 0).take 4 = (inN G).map U) := by show _ = _; rw [List.drop_zero, ← List.map_take]; rfl
  have HR : Hid _ := ((RS.start w).alloc _ rfl 45 (G.map B8)).alloc (w.heap.size + 1) (by simp) 31 ZI
  have HFIN : Hid (∀ b, inF G = b → (.tuple #[.agg ((if inF G = true then inN G else Z4).map U).toArray, .int .i64 (if inF G = true then 0 else 4)] : Value) = if b = true then .tuple #[.agg ((inN G).map U).toArray, .int .i64 0] else .tuple #[.agg ZI.toArray, .int .i64 4]) := by
    intro b hb; rw [hb, hZI]; cases b <;> rfl
  generalize (.tuple #[.agg ((if inF G = true then inN G else Z4).map U).toArray, .int .i64 (if inF G = true then 0 else 4)] : Value) = RV at *
  generalize inF G = FN at *
  generalize (gr (inN G ++ Z12)).map B8 = BL at *
  generalize (inN G).map U = NL at *
  generalize (ws G).map U = QL at *
  generalize G.map B8 = GL at *
  clear hZI hZW h4 hok hG
  go_enter Try.func14, Try.ntmps14
  go_wp2_with (refine wpList_load_mid rfl 45 (.tmp 1) rfl w.heap.size 0 rfl GL _ (rangeAt_row (HR.out.at 1 rfl)) Try.underlying45 rfl (info128 GL HGL.out) ?_)
  refine Calls.mono (HWS.out _) ?_
  rintro e W1 ⟨rfl, b1⟩
  have R1 := (HR.out.step b1).alloc _ rfl 70 ZW
  have HRa : Hid _ := R1
  have HRb : Hid _ := R1.put 0 rfl QL
  clear b1 R1 HR HWS
  go_wp2_with (refine wpList_store_rowL rfl 70 (.tmp 4) (.tmp 7) rfl W1.heap.size QL.toArray rfl rfl 70 ZW.toArray (HRa.out.at 0 rfl) (info16a QL HQL.out) (by simp [HZW.out, HQL.out]) HQ1.out ?_
               intro V1 hV1
               rw [← hV1] at HRb
               have R2 := HRb.out.alloc _ rfl 31 ZI
               have HR2 : Hid (RS w [(V1.heap.size, 31, ZI), (W1.heap.size, 70, QL), (w.heap.size + 1, 31, ZI), (w.heap.size, 45, GL)] (V1.alloc (.cells ZI.toArray 31 (0, 0)))) := R2
               clear R2 HRb HRa hV1)
  generalize W1.heap.size = n1 at *
  generalize V1.heap.size = n2 at *
  refine wp_region_held_drew (S := fun X => ∃ Z : List Value, RS w [(n2, 31, Z), (n1, 70, QL), (w.heap.size + 1, 31, ZI), (w.heap.size, 45, GL)] X) (by kernel_rfl) ⟨ZI, HR2.out.step (below_drew _)⟩ (fun hHeld => ?_)
  have hs1 := fun W => slice44 W n2 0
  have hs2 := fun W => slice04 W n1
  refine wpAnyH_take (i := 0) (oi := { dst := some 8, op := Go.Op.fieldAddr 31 (Go.Operand.tmp 5) 0, type := 0, pos := _, after := #[], guard := none }) (v := .pointer (some ⟨n2, 0, none⟩)) rfl (by kernel_rfl) (by kernel_rfl) (by kernel_rfl) (fun _ _ _ h => h) (Or.inl ⟨by rfl, fun w' hw' => ?_⟩) hHeld ?_
  · first | (go_simp; done) | (go_simp; rfl)
  try simp only [Act.put, List.setIfInBounds_toArray, List.set_cons_zero, List.set_cons_succ]
  refine wpAnyH_take (i := 1) (oi := { dst := some 9, op := Go.Op.slice 29 (Go.Operand.tmp 8) none none none, type := 64, pos := _, after := #[{ on := 0, ground := Go.Ground.data }], guard := none }) (v := .slice (some ⟨n2, 0, none⟩) 4 4) rfl (by kernel_rfl) (by kernel_rfl) (by kernel_rfl) (fun _ _ _ h => h) (Or.inl ⟨by rfl, fun w' hw' => ?_⟩) hHeld ?_
  · first | (go_simp; done) | (go_simp; rfl)
  try simp only [Act.put, List.setIfInBounds_toArray, List.set_cons_zero, List.set_cons_succ]
  refine wpAnyH_take (i := 2) (oi := { dst := some 10, op := Go.Op.slice 70 (Go.Operand.tmp 4) none (some (Go.Operand.const (Go.Value.int Go.IntKind.i64 4))) none, type := 64, pos := _, after := #[], guard := none }) (v := .slice (some ⟨n1, 0, none⟩) 4 16) rfl (by kernel_rfl) (by kernel_rfl) (by kernel_rfl) (fun _ _ _ h => h) (Or.inl ⟨by rfl, fun w' hw' => ?_⟩) hHeld ?_
  · first | (go_simp; done) | (go_simp; rfl)
  try simp only [Act.put, List.setIfInBounds_toArray, List.set_cons_zero, List.set_cons_succ]
  refine wpAnyH_ready (rs := [3]) (by kernel_rfl) (by simp) ?_
  refine AllReadyH.cons (o := { dst := some 11, op := Go.Op.call { callee := Go.Callee.builtin Go.Builtin.copy, args := #[Go.Operand.tmp 9, Go.Operand.tmp 10], argTypes := #[64, 64] }, type := 3, pos := _, after := #[{ on := 1, ground := Go.Ground.data }, { on := 2, ground := Go.Ground.data }], guard := none }) rfl (fun K hK => ?_) AllReadyH.nil
  rw [if_pos (by rfl)]
  have R4 := HR2.out.step (below_drew _)
  refine wp_copy_seg (.tmp 9) (.tmp 10) rfl n2 0 4 4 (some ⟨n1, 0, none⟩) 4 16 rfl rfl ZI 31 (R4.at 0 rfl) NL (by rw [HNL.out]; rfl) (fun _ => ⟨_, rfl, fun j v hv => ?_⟩) (by rw [HNL.out, HZI.out]; decide) HN1.out ?_
  · rw [add_none]
    have q := rangeAt_part (rangeAt_row (R4.at 1 rfl)) 0 4
    rw [HTK.out] at q
    exact q j v hv
  rw [HSG.out]
  have R5 := R4.put 0 rfl NL
  have HR6 : Hid _ := R5
  refine hK.out _ _ ⟨NL, R5⟩ (fun _ => ?_)
  clear hK K
  try simp only [Act.put, List.setIfInBounds_toArray, List.set_cons_zero, List.set_cons_succ]
  refine wpAnyH_done (by kernel_rfl) ?_ _
  clear R4 R5 hHeld hs1 hs2 HR2
  generalize World.setRow _ n2 NL.toArray = V5 at *
  go_wp2_with fail
  refine wp_region_held_drew (S := fun X => RS w [(n2, 31, NL), (n1, 70, QL), (w.heap.size + 1, 31, ZI), (w.heap.size, 45, GL)] X) (by kernel_rfl) (HR6.out.step (below_drew _)) (fun hHeld => ?_)
  clear HR6
  refine wpAnyH_take (i := 0) (oi := { dst := some 12, op := Go.Op.load 31 (Go.Operand.tmp 5), type := 31, pos := _, after := #[], guard := none }) rfl (by kernel_rfl) (by kernel_rfl) (by kernel_rfl) (fun _ _ _ h => h) (yieldsIf_load_mid (by rfl) 31 (.tmp 5) rfl (n2) (0) rfl (NL) _ (fun _ h => rangeAt_row (h.at 0 rfl)) Try.underlying31 rfl (info4i NL HNL.out)) hHeld ?_
  try simp only [Act.put, List.setIfInBounds_toArray, List.set_cons_zero, List.set_cons_succ]
  refine wpAnyH_take (i := 2) (oi := { dst := some 14, op := Go.Op.load 45 (Go.Operand.tmp 1), type := 45, pos := _, after := #[], guard := none }) rfl (by kernel_rfl) (by kernel_rfl) (by kernel_rfl) (fun _ _ _ h => h) (yieldsIf_load_mid (by rfl) 45 (.tmp 1) rfl (w.heap.size) (0) rfl (GL) _ (fun _ h => rangeAt_row (h.at 3 rfl)) Try.underlying45 rfl (info128 GL HGL.out)) hHeld ?_
  try simp only [Act.put, List.setIfInBounds_toArray, List.set_cons_zero, List.set_cons_succ]
  refine wpAnyH_ready (rs := [1]) (by kernel_rfl) (by simp) ?_
  refine AllReadyH.cons (o := { dst := some 13, op := Go.Op.call { callee := Go.Callee.value (Go.Operand.func 13), args := #[Go.Operand.tmp 12], argTypes := #[31] }, type := 45, pos := _, after := #[{ on := 0, ground := Go.Ground.data }], guard := none }) rfl (fun K hK => ?_) AllReadyH.nil
  rw [if_pos (by rfl)]
  go_wp2_with fail
  refine Calls.mono (HIB.out _) ?_
  rintro e V6 ⟨rfl, b6⟩
  replace hHeld := hHeld.step b6
  clear b6
  refine hK.out _ _ hHeld (fun _ => ?_)
  clear hK K
  try simp only [Act.put, List.setIfInBounds_toArray, List.set_cons_zero, List.set_cons_succ]
  refine wpAnyH_take (i := 3) (oi := { dst := some 15, op := Go.Op.binOp Go.BinOp.neq 45 (Go.Operand.tmp 13) (Go.Operand.tmp 14) 45, type := 4, pos := _, after := #[{ on := 1, ground := Go.Ground.data }, { on := 2, ground := Go.Ground.data }], guard := none }) (v := .bool (!FN)) rfl (by kernel_rfl) (by kernel_rfl) (by kernel_rfl) (fun _ _ _ h => h) (Or.inl ⟨by rfl, fun w' hw' => ?_⟩) hHeld ?_
  · exact run_neq rfl rfl rfl gG (HEQ.out w')
  try simp only [Act.put, List.setIfInBounds_toArray, List.set_cons_zero, List.set_cons_succ]
  refine wpAnyH_done (by kernel_rfl) ?_ _
  have HR7 : Hid _ := hHeld
  clear hHeld
  cases FN
  · simp only [Bool.not_false]
    go_wp2_with (first
      | (refine build_g (by rfl) 31 #[] rfl #[] (.agg ZI.toArray) (by simp [Act.eval]) (HBI.out _) ?_)
      | (refine wpList_store_row rfl 31 (.tmp 2) (.tmp 16) rfl (w.heap.size + 1) ZI.toArray rfl rfl 31 ZI.toArray (HR7.out.at 2 rfl) (info4ia ZI HZI.out) rfl HZ1.out ?_))
    have R8 := HR7.out.put 2 rfl ZI
    refine bodyPost_ret (v := .tuple #[.agg ZI.toArray, .int .i64 4]) (results2 Try.results14 _ _ (w.heap.size + 1) _ ZI _ _ rfl rfl (R8.at 2 rfl) Try.underlying31 rfl (info4i ZI HZI.out)) rfl ⟨by rw [HFIN.out false rfl]; rfl, R8.bel⟩
  · simp only [Bool.not_true]
    go_wp2_with (first
      | (refine wpList_load_mid rfl 31 (.tmp 5) rfl n2 0 rfl NL _ (rangeAt_row (HR7.out.at 0 rfl)) Try.underlying31 rfl (info4i NL HNL.out) ?_)
      | (refine wpList_store_row rfl 31 (.tmp 2) (.tmp 17) rfl (w.heap.size + 1) NL.toArray rfl rfl 31 ZI.toArray (HR7.out.at 2 rfl) (info4ia NL HNL.out) (by simp [HZI.out, HNL.out]) HN1a.out ?_))
    have R8 := HR7.out.put 2 rfl NL
    refine bodyPost_ret (v := .tuple #[.agg NL.toArray, .int .i64 0]) (results2 Try.results14 _ _ (w.heap.size + 1) _ NL _ _ rfl rfl (R8.at 2 rfl) Try.underlying31 rfl (info4i NL HNL.out)) rfl ⟨by rw [HFIN.out true rfl]; rfl, R8.bel⟩
end Go.Proofs.Ytpdafjamhccbnaa.VC
