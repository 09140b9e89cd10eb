/- BlobMixes: for any two granules the statement's function answers true. No condition. -/
import Derived.Test.YtbmmibmfjhehhaaBJ
import Derived.Test.YtbmmibmfjhehhaaRows
import Derived.WalkKit
import Derived.ChangeOld
import Derived.ProofKit
import Derived.OpenShut
import Derived.Carry
set_option linter.unusedVariables false
set_option linter.unusedSimpArgs false
namespace Go.Proofs.Ytbmmibmfjhehhaa.blobMixes
open Go.ChangeShapes Go.WideShapes Go.ChangeAt Go.RowKit Go.Proofs.Ytbmmibmfjhehhaa.BC
set_option maxHeartbeats 4000000 in
set_option maxRecDepth 100000 in
theorem walk (a b : List UInt8) (w : World) (ha : a.length = 128) (hb : b.length = 128) :
    Calls Try.prog 3 #[.agg (a.map B8).toArray, .agg (b.map B8).toArray] w fun e w' => e = .returned (.bool true) ∧ Below w.heap.size w w' := by
  have hz := fun W => zero_gr W
  obtain ⟨ZL, hZL⟩ : ∃ L, L = Z128.map B8 := ⟨_, rfl⟩
  rw [← hZL] at hz
  have HZN : Hid (ZL.length = 128) := by show _ = _; rw [hZL]; simp [z128_len]
  have hml := mx_len a b ha hb
  have hbk : mx (mx a b) b = a := mx_back a b (ha.trans hb.symm)
  have HP1 : Hid (∀ W, Calls Try.prog 6 #[.agg (a.map B8).toArray, .agg (b.map B8).toArray] W fun e w' => e = .returned (.agg ((mx a b).map B8).toArray) ∧ Below W.heap.size W w') := fun W => pmix_any a b W ha hb
  have HP2 : Hid (∀ W, Calls Try.prog 6 #[.agg ((mx a b).map B8).toArray, .agg (b.map B8).toArray] W fun e w' => e = .returned (.agg (a.map B8).toArray) ∧ Below W.heap.size W w') := fun W => by
    have q := pmix_any (mx a b) b W hml hb
    rw [hbk] at q
    exact q
  have HR : Hid (∀ W, Calls Try.prog 7 #[.agg (a.map B8).toArray, .agg (b.map B8).toArray] W fun e w' => e = .returned (.agg ((mx a b).map B8).toArray) ∧ Below W.heap.size W w') := fun W => rmix_any a b W ha hb
  have HE1 : Hid (∀ W, (Op.equalIn 10000 23 (.agg ((mx a b).map B8).toArray) (.agg ((mx a b).map B8).toArray)).run Try.prog W = .ok true W) := fun W => eq_gr W _ _ hml hml true (beq_self_eq_true _)
  have HE2 : Hid (∀ W, (Op.equalIn 10000 23 (.agg (a.map B8).toArray) (.agg (a.map B8).toArray)).run Try.prog W = .ok true W) := fun W => eq_gr W _ _ ha ha true (beq_self_eq_true _)
  have HM1 : Hid _ := B8_onea (mx a b)
  have HML : Hid (((mx a b).map B8).length = 128) := by show _ = _; simpa using hml
  have HAL : Hid ((a.map B8).length = 128) := by show _ = _; simpa using ha
  have HBL : Hid ((b.map B8).length = 128) := by show _ = _; simpa using hb
  have HKN : Hid (∀ W, Calls Try.prog 8 #[] W fun e w' => e = .returned (.bool true) ∧ Below W.heap.size W w') := known_any
  clear hZL hml hbk ha hb
  generalize (mx a b).map B8 = ML at *
  generalize a.map B8 = AL at *
  generalize b.map B8 = BL at *
  have HT0 : Hid _ := ((RS.start w).alloc w.heap.size rfl 23 AL).alloc (w.heap.size + 1) (by simp) 23 BL
  go_enter Try.func3, Try.ntmps3
  go_upto_region 1 with fail
  generalize World.alloc _ _ = X0 at *
  go_wp2_with (first
    | (refine wpList_load_mid rfl 23 (.tmp 2) rfl w.heap.size 0 rfl AL _ (rangeAt_row (HT0.out.at 1 rfl)) Try.underlying23 rfl (info128 AL HAL.out) ?_)
    | (refine wpList_load_mid rfl 23 (.tmp 3) rfl (w.heap.size + 1) 0 rfl BL _ (rangeAt_row (HT0.out.at 0 rfl)) Try.underlying23 rfl (info128 BL HBL.out) ?_))
  refine Calls.mono (HP1.out X0) ?_
  rintro e X1 ⟨rfl, hb1⟩
  have HT1 : Hid _ := (HT0.out.step hb1).alloc X1.heap.size rfl 23 ZL
  clear hb1 HT0 HP1
  go_upto_region 2 with (refine R5.wpList_store_rowL rfl 23 _ _ rfl X1.heap.size ML.toArray rfl rfl 23 ZL.toArray (HT1.out.at 0 rfl) (info128a ML HML.out) (by simp [HML.out, HZN.out]) HM1.out ?_; intro X2 e2; have HT2 : Hid _ := HT1.out.put 0 rfl ML; rw [← e2] at HT2; clear e2)
  clear HT1
  generalize X1.heap.size = gm at *
  refine wp_region_held_drew (S := fun X => RS w [(gm, 23, ML), (w.heap.size + 1, 23, BL), (w.heap.size, 23, AL)] X) (by kernel_rfl) (HT2.out.step (Below.refl _ _).drew) (fun hHeld => ?_)
  clear HT2
  generalize World.drew _ = Y0 at *
  refine wpAnyH_take (i := 0) (oi := { dst := some 9, op := Go.Op.load 23 (Go.Operand.tmp 5), type := 23, pos := _, after := #[], guard := none }) rfl (by kernel_rfl) (by kernel_rfl) (by kernel_rfl) (fun _ _ _ h => h) (yieldsIf_load_mid (by rfl) 23 (.tmp 5) rfl (gm) (0) rfl (ML) _ (fun _ h => rangeAt_row (h.at 0 rfl)) Try.underlying23 rfl (info128 ML HML.out)) hHeld ?_
  try simp only [Act.put, List.setIfInBounds_toArray, List.set_cons_zero, List.set_cons_succ]
  refine wpAnyH_take (i := 1) (oi := { dst := some 10, op := Go.Op.load 23 (Go.Operand.tmp 2), type := 23, pos := _, after := #[], guard := none }) rfl (by kernel_rfl) (by kernel_rfl) (by kernel_rfl) (fun _ _ _ h => h) (yieldsIf_load_mid (by rfl) 23 (.tmp 2) rfl (w.heap.size) (0) rfl (AL) _ (fun _ h => rangeAt_row (h.at 2 rfl)) Try.underlying23 rfl (info128 AL HAL.out)) hHeld ?_
  try simp only [Act.put, List.setIfInBounds_toArray, List.set_cons_zero, List.set_cons_succ]
  refine wpAnyH_take (i := 2) (oi := { dst := some 11, op := Go.Op.load 23 (Go.Operand.tmp 3), type := 23, pos := _, after := #[], guard := none }) rfl (by kernel_rfl) (by kernel_rfl) (by kernel_rfl) (fun _ _ _ h => h) (yieldsIf_load_mid (by rfl) 23 (.tmp 3) rfl (w.heap.size + 1) (0) rfl (BL) _ (fun _ h => rangeAt_row (h.at 1 rfl)) Try.underlying23 rfl (info128 BL HBL.out)) hHeld ?_
  try simp only [Act.put, List.setIfInBounds_toArray, List.set_cons_zero, List.set_cons_succ]
  refine wpAnyH_ready (rs := [3]) (by kernel_rfl) (by simp) ?_
  refine AllReadyH.cons (o := { dst := some 12, op := Go.Op.call { callee := Go.Callee.value (Go.Operand.func 7), args := #[Go.Operand.tmp 10, Go.Operand.tmp 11], argTypes := #[23, 23] }, type := 23, pos := _, after := #[{ on := 1, ground := Go.Ground.data }, { on := 2, ground := Go.Ground.data }], guard := none }) rfl (fun K hK => ?_) AllReadyH.nil
  rw [if_pos (by rfl)]
  go_wp2_with fail
  refine Calls.mono (HR.out Y0) ?_
  rintro e Y1 ⟨rfl, b1⟩
  have hH1 := hHeld.step b1
  clear b1
  refine hK.out _ _ hH1 (fun _ => ?_)
  clear hK K
  try simp only [Act.put, List.setIfInBounds_toArray, List.set_cons_zero, List.set_cons_succ]
  clear hHeld
  have hHeld := hH1
  clear hH1
  refine wpAnyH_take (i := 4) (oi := { dst := some 13, op := Go.Op.binOp Go.BinOp.eql 23 (Go.Operand.tmp 9) (Go.Operand.tmp 12) 23, type := 4, pos := _, after := #[{ on := 0, ground := Go.Ground.data }, { on := 3, ground := Go.Ground.data }], guard := none }) (v := .bool true) rfl (by kernel_rfl) (by kernel_rfl) (by kernel_rfl) (fun _ _ _ h => h) (Or.inl ⟨by rfl, fun w' hw' => ?_⟩) hHeld ?_
  · exact run_eql rfl rfl rfl gG (HE1.out w')
  try simp only [Act.put, List.setIfInBounds_toArray, List.set_cons_zero, List.set_cons_succ]
  refine wpAnyH_take (i := 5) (oi := { dst := some 14, op := Go.Op.move (Go.Operand.tmp 13), type := 4, pos := _, after := #[{ on := 4, ground := Go.Ground.data }, { on := 3, ground := Go.Ground.chain }], guard := none }) (v := .bool true) rfl (by kernel_rfl) (by kernel_rfl) (by kernel_rfl) (fun _ _ _ h => h) (Or.inl ⟨by rfl, fun w' hw' => ?_⟩) hHeld ?_
  · first | (go_simp; done) | (go_simp; rfl)
  try simp only [Act.put, List.setIfInBounds_toArray, List.set_cons_zero, List.set_cons_succ]
  refine wpAnyH_take (i := 6) (oi := { dst := some 15, op := Go.Op.load 23 (Go.Operand.tmp 5), type := 23, pos := _, after := #[{ on := 5, ground := Go.Ground.guard }], guard := some (5, true) }) rfl (by kernel_rfl) (by kernel_rfl) (by kernel_rfl) (fun _ _ _ h => h) (yieldsIf_load_mid (by rfl) 23 (.tmp 5) rfl (gm) (0) rfl (ML) _ (fun _ h => rangeAt_row (h.at 0 rfl)) Try.underlying23 rfl (info128 ML HML.out)) hHeld ?_
  try simp only [Act.put, List.setIfInBounds_toArray, List.set_cons_zero, List.set_cons_succ]
  refine wpAnyH_take (i := 7) (oi := { dst := some 16, op := Go.Op.load 23 (Go.Operand.tmp 3), type := 23, pos := _, after := #[{ on := 5, ground := Go.Ground.guard }], guard := some (5, true) }) rfl (by kernel_rfl) (by kernel_rfl) (by kernel_rfl) (fun _ _ _ h => h) (yieldsIf_load_mid (by rfl) 23 (.tmp 3) rfl (w.heap.size + 1) (0) rfl (BL) _ (fun _ h => rangeAt_row (h.at 1 rfl)) Try.underlying23 rfl (info128 BL HBL.out)) hHeld ?_
  try simp only [Act.put, List.setIfInBounds_toArray, List.set_cons_zero, List.set_cons_succ]
  refine wpAnyH_take (i := 9) (oi := { dst := some 18, op := Go.Op.load 23 (Go.Operand.tmp 2), type := 23, pos := _, after := #[{ on := 5, ground := Go.Ground.guard }], guard := some (5, true) }) rfl (by kernel_rfl) (by kernel_rfl) (by kernel_rfl) (fun _ _ _ h => h) (yieldsIf_load_mid (by rfl) 23 (.tmp 2) rfl (w.heap.size) (0) rfl (AL) _ (fun _ h => rangeAt_row (h.at 2 rfl)) Try.underlying23 rfl (info128 AL HAL.out)) hHeld ?_
  try simp only [Act.put, List.setIfInBounds_toArray, List.set_cons_zero, List.set_cons_succ]
  refine wpAnyH_ready (rs := [8]) (by kernel_rfl) (by simp) ?_
  refine AllReadyH.cons (o := { dst := some 17, op := Go.Op.call { callee := Go.Callee.value (Go.Operand.func 6), args := #[Go.Operand.tmp 15, Go.Operand.tmp 16], argTypes := #[23, 23] }, type := 23, pos := _, after := #[{ on := 6, ground := Go.Ground.data }, { on := 7, ground := Go.Ground.data }, { on := 5, ground := Go.Ground.chain }, { on := 5, ground := Go.Ground.guard }], guard := some (5, true) }) rfl (fun K hK => ?_) AllReadyH.nil
  rw [if_pos (by rfl)]
  go_wp2_with fail
  refine Calls.mono (HP2.out Y1) ?_
  rintro e Y2 ⟨rfl, b1⟩
  have hH1 := hHeld.step b1
  clear b1
  refine hK.out _ _ hH1 (fun _ => ?_)
  clear hK K
  try simp only [Act.put, List.setIfInBounds_toArray, List.set_cons_zero, List.set_cons_succ]
  clear hHeld
  have hHeld := hH1
  clear hH1
  refine wpAnyH_take (i := 10) (oi := { dst := some 19, op := Go.Op.binOp Go.BinOp.eql 23 (Go.Operand.tmp 17) (Go.Operand.tmp 18) 23, type := 4, pos := _, after := #[{ on := 8, ground := Go.Ground.data }, { on := 9, ground := Go.Ground.data }, { on := 5, ground := Go.Ground.guard }], guard := some (5, true) }) (v := .bool true) rfl (by kernel_rfl) (by kernel_rfl) (by kernel_rfl) (fun _ _ _ h => h) (Or.inl ⟨by rfl, fun w' hw' => ?_⟩) hHeld ?_
  · exact run_eql rfl rfl rfl gG (HE2.out w')
  try simp only [Act.put, List.setIfInBounds_toArray, List.set_cons_zero, List.set_cons_succ]
  refine wpAnyH_take (i := 11) (oi := { dst := some 20, op := Go.Op.pick (Go.Operand.tmp 14) (Go.Operand.tmp 19) (Go.Operand.const (Go.Value.bool false)), type := 4, pos := _, after := #[{ on := 5, ground := Go.Ground.data }, { on := 10, ground := Go.Ground.data }], guard := none }) (v := .bool true) rfl (by kernel_rfl) (by kernel_rfl) (by kernel_rfl) (fun _ _ _ h => h) (Or.inl ⟨by rfl, fun w' hw' => ?_⟩) hHeld ?_
  · first | (go_simp; done) | (go_simp; rfl)
  try simp only [Act.put, List.setIfInBounds_toArray, List.set_cons_zero, List.set_cons_succ]
  refine wpAnyH_take (i := 12) (oi := { dst := some 21, op := Go.Op.move (Go.Operand.tmp 20), type := 4, pos := _, after := #[{ on := 11, ground := Go.Ground.data }, { on := 8, ground := Go.Ground.chain }], guard := none }) (v := .bool true) rfl (by kernel_rfl) (by kernel_rfl) (by kernel_rfl) (fun _ _ _ h => h) (Or.inl ⟨by rfl, fun w' hw' => ?_⟩) hHeld ?_
  · first | (go_simp; done) | (go_simp; rfl)
  try simp only [Act.put, List.setIfInBounds_toArray, List.set_cons_zero, List.set_cons_succ]
  refine wpAnyH_ready (rs := [13]) (by kernel_rfl) (by simp) ?_
  refine AllReadyH.cons (o := { dst := some 22, op := Go.Op.call { callee := Go.Callee.value (Go.Operand.func 8), args := #[], argTypes := #[] }, type := 4, pos := _, after := #[{ on := 12, ground := Go.Ground.chain }, { on := 12, ground := Go.Ground.guard }], guard := some (12, true) }) rfl (fun K hK => ?_) AllReadyH.nil
  rw [if_pos (by rfl)]
  go_wp2_with fail
  refine Calls.mono (HKN.out Y2) ?_
  rintro e Y3 ⟨rfl, b1⟩
  have hH1 := hHeld.step b1
  clear b1
  refine hK.out _ _ hH1 (fun _ => ?_)
  clear hK K
  try simp only [Act.put, List.setIfInBounds_toArray, List.set_cons_zero, List.set_cons_succ]
  clear hHeld
  have hHeld := hH1
  clear hH1
  refine wpAnyH_take (i := 14) (oi := { dst := some 23, op := Go.Op.pick (Go.Operand.tmp 21) (Go.Operand.tmp 22) (Go.Operand.const (Go.Value.bool false)), type := 4, pos := _, after := #[{ on := 12, ground := Go.Ground.data }, { on := 13, ground := Go.Ground.data }], guard := none }) (v := .bool true) rfl (by kernel_rfl) (by kernel_rfl) (by kernel_rfl) (fun _ _ _ h => h) (Or.inl ⟨by rfl, fun w' hw' => ?_⟩) hHeld ?_
  · first | (go_simp; done) | (go_simp; rfl)
  try simp only [Act.put, List.setIfInBounds_toArray, List.set_cons_zero, List.set_cons_succ]
  refine wpAnyH_take (i := 15) (oi := { dst := some 4, op := Go.Op.assign (Go.Operand.tmp 23), type := 4, pos := _, after := #[{ on := 14, ground := Go.Ground.data }, { on := 13, ground := Go.Ground.chain }, { on := 0, ground := Go.Ground.phase }, { on := 1, ground := Go.Ground.phase }, { on := 2, ground := Go.Ground.phase }, { on := 3, ground := Go.Ground.phase }, { on := 4, ground := Go.Ground.phase }, { on := 5, ground := Go.Ground.phase }, { on := 6, ground := Go.Ground.phase }, { on := 7, ground := Go.Ground.phase }, { on := 8, ground := Go.Ground.phase }, { on := 9, ground := Go.Ground.phase }, { on := 10, ground := Go.Ground.phase }, { on := 11, ground := Go.Ground.phase }, { on := 12, ground := Go.Ground.phase }, { on := 13, ground := Go.Ground.phase }, { on := 14, ground := Go.Ground.phase }], guard := none }) (v := .bool true) rfl (by kernel_rfl) (by kernel_rfl) (by kernel_rfl) (fun _ _ _ h => h) (Or.inl ⟨by rfl, fun w' hw' => ?_⟩) hHeld ?_
  · first | (go_simp; done) | (go_simp; rfl)
  try simp only [Act.put, List.setIfInBounds_toArray, List.set_cons_zero, List.set_cons_succ]
  refine wpAnyH_done (by kernel_rfl) ?_ _
  have HEND : Hid (Below w.heap.size w Y3) := hHeld.bel
  clear hHeld
  go_wp2
  go_ret
  exact ⟨rfl, HEND.out⟩
set_option maxRecDepth 100000 in
theorem lifted (os : Os) (started : os.Started) (H : Type) (enc : TypeId × Value → H) :
    ReturnsInHanded {} Try.checked os 3 .any (Rows.blobMixesSpec.pre6 enc Try.prog Try.f3 Rows.blobMixesRow.domain false) (Rows.blobMixesSpec.post enc Try.prog Try.f3 false true false false) := by
  refine returnsInHanded_of_change (C := Try.checked) own started (by kernel_rfl) Try.func3
    (ChangeSpec.witness6 (enc := enc) (C := Try.checked) false ⟨#[], #[.agg (Array.replicate 128 (.int .u8 0)), .agg (Array.replicate 128 (.int .u8 0))], []⟩ 8 (by kernel_rfl) (by kernel_rfl) (by kernel_rfl) (by kernel_rfl)) ?_
  intro W base args ds gs before hval0 hW hcnd _
  have hval : ∀ (j : Nat) t v, Try.f3.params[j]? = some t → args[j]? = some v → Value.okWide Try.prog W .any base t v := hval0
  have hW' := hW
  obtain ⟨p, q, hA0, hV, rfl, hfz, hnd⟩ := hW
  have hA : DataW.TrodAll enc Try.prog W 0 (fun _ => true) true Try.f3.params.toList args.toList ds p := hA0
  rw [Try.params3] at hA hval
  obtain ⟨v0, vs0, d0, ds0, p0, q0, hargs, rfl, rfl, h0, r0⟩ := trodAll_cons hA
  obtain ⟨v1, vs1, d1, ds1, p1, q1, rfl, rfl, rfl, h1, r1⟩ := trodAll_cons r0
  obtain ⟨rfl, rfl, rfl⟩ := trodAll_nil r1
  obtain rfl : args = #[v0, v1] := by cases args; simp_all
  obtain ⟨rfl, rfl⟩ := trodVars_none hV
  have k0 := h0
  have lt0 : ∀ x ∈ p0, x.block < W.heap.size := by obtain ⟨m, hm⟩ := k0; exact DataW.trod_lt m _ _ _ hm
  obtain ⟨l0, rfl, hl0⟩ := open_octets Try.underlying23 (by kernel_rfl) (hval 0 23 v0 rfl rfl) h0
  have k1 := h1
  have lt1 : ∀ x ∈ p1, x.block < W.heap.size := by obtain ⟨m, hm⟩ := k1; exact DataW.trod_lt m _ _ _ hm
  obtain ⟨l1, rfl, hl1⟩ := open_octets Try.underlying23 (by kernel_rfl) (hval 1 23 v1 rfl rfl) h1
  clear hA0 hval0
  refine (walk l0 l1 W hl0 hl1).mono fun e W' ⟨he, bel⟩ => ?_
  subst he
  exact ⟨_, rfl, _, _, _, [], _, [], hW', trodAll_mk1 (shut_bool Try.underlying4 _), (trodAll_cons_mk (Below.trod laidOut (by kernel_rfl) (of_decide_eq_true (by kernel_rfl)) k0 bel lt0) (trodAll_cons_mk (Below.trod laidOut (by kernel_rfl) (of_decide_eq_true (by kernel_rfl)) k1 bel lt1) trodAll_mk0)), rfl, bel.frame _, fun h => by cases h⟩

theorem over : Rows.blobMixesRow.holds Try.pinned (OpenSpec.ofChange Rows.blobMixesSpec) :=
  OpenClaim.holds_of_wide 3 Try.f3 rfl rfl rfl rfl rfl rfl rfl ⟨rfl, rfl, rfl, rfl, rfl⟩ rfl rfl rfl rfl rfl (by kernel_rfl) Try.func3 (by kernel_rfl)
    (of_decide_eq_true (by kernel_rfl)) (by unfold Func.isWrapper; first | (rw [if_pos (by decide +kernel)]; kernel_rfl) | (rw [if_neg (by decide +kernel)]; exact ⟨rfl, rfl⟩))
    (fun os started H enc _ => lifted os started H enc)

end Go.Proofs.Ytbmmibmfjhehhaa.blobMixes
namespace Go.Proofs.Ytbmmibmfjhehhaa
theorem blobMixes_holds : Rows.BlobMixesSaid := blobMixes.over
#print axioms blobMixes_holds
end Go.Proofs.Ytbmmibmfjhehhaa
