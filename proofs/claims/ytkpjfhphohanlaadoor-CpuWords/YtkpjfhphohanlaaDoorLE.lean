/- CpuWords: for any instruction, the tables of the program's as its text lays them, the statement's function answers true. -/
import Derived.Test.YtkpjfhphohanlaaDoorLD
set_option linter.unusedVariables false
set_option linter.unusedSimpArgs false
namespace Go.Proofs.YtkpjfhphohanlaaDoor.cpuWords
open Go.ChangeShapes Go.WideShapes Go.ChangeAt Go.RowKit
open Go.Proofs.YtkpjfhphohanlaaDoor.JC
open Go.Proofs.YtkpjfhphohanlaaDoor.EC (row_lt heap_at rangeAt_below rangeAt_row ret_bool ret_i64 beq_int)

/-- The instruction's row, and what stood ahead of it. -/
def CW (w : World) (IL : List Value) (X : World) : Prop := Below (w.alloc (.cells IL.toArray 24 (0, 0))).heap.size (w.alloc (.cells IL.toArray 24 (0, 0))) X
theorem CW.new (w : World) (IL : List Value) : CW w IL (w.alloc (.cells IL.toArray 24 (0, 0))) := Below.refl _ _
theorem CW.below {w : World} {IL : List Value} {X Y : World} (h : CW w IL X) (hb : Below X.heap.size X Y) : CW w IL Y := Below.trans h (hb.mono (Below.size h))
theorem CW.r {w : World} {IL : List Value} {X : World} (h : CW w IL X) : X.rangeAt w.heap.size 0 IL := rangeAt_row ((Below.block h _ (by simp)).trans (heap_alloc_new _ _))
theorem CW.bel {w : World} {IL : List Value} {X : World} (h : CW w IL X) : Below w.heap.size w X := by
  have hb : Below w.heap.size w (w.alloc (.cells IL.toArray 24 (0, 0))) := (Below.refl _ _).alloc (Nat.le_refl _) _
  exact hb.trans (Below.mono h hb.size)
set_option maxHeartbeats 1000000 in
set_option maxRecDepth 100000 in
theorem walk (i : Ins) (w : World) (hi : iwf i) (hG : GV w) : Calls Tryd.prog 3 #[.agg (iL i).toArray] w fun e w' => e = .returned (.bool true) ∧ Below w.heap.size w w' := by
  have HK : Hid (∀ W, GV W → Calls Tryd.prog 13 #[] W fun e w' => e = .returned (.bool true) ∧ Below W.heap.size W w') := fun W hW => known_any W hW
  have hM := fun W => may_any i hi W
  have hR := fun W => rmay_any i W
  cases hm : may i
  · rw [hm] at hM hR
    have hE := fun W => enc_bad i hi hm W
    have hT := fun (W : World) (_ : GV W) => text_bad i hi hm W
    clear hi hm
    have HIN : Hid _ := ins_info i
    have hiV : iV i = .agg (iL i).toArray := rfl
    rw [hiV] at hM hR hE hT
    generalize iL i = IL at *
    have HB0 : Hid (CW w IL (w.alloc (.cells IL.toArray 24 (0, 0)))) := CW.new w IL
    have HGV : Hid (∀ X, CW w IL X → GV X) := fun X hX => hG.below hX.bel
    clear hG hiV
    go_enter Tryd.func3, Tryd.ntmps3
    go_wp2_with (refine wpList_load_mid rfl 24 _ rfl w.heap.size 0 rfl IL _ HB0.out.r Tryd.underlying24 rfl HIN.out ?_)
    refine Calls.mono (hE _) ?_
    rintro e X1 ⟨rfl, hX⟩
    have HB1 : Hid (CW w IL X1) := HB0.out.below hX
    clear hX
    clear hE
    go_wp2_with (refine wpList_load_mid rfl 24 _ rfl w.heap.size 0 rfl IL _ HB1.out.r Tryd.underlying24 rfl HIN.out ?_)
    refine Calls.mono (hT _ (HGV.out _ HB1.out)) ?_
    rintro e X2 ⟨rfl, hX⟩
    have HB2 : Hid (CW w IL X2) := HB1.out.below hX
    clear hX
    clear hT
    have HS3 : Hid (CW w IL X2.drew) := HB2.out.below (Below.drew (Below.refl _ _))
    go_wp2
    refine wp_region_held_drew (S := CW w IL) (by kernel_rfl) HS3.out (fun hHeld => ?_)
    generalize X2.drew = W at *
    refine wpAnyH_take (i := 0) (oi := { dst := some 17, op := Go.Op.load 24 (Go.Operand.tmp 1), type := 24, pos := _, after := #[], guard := none }) rfl (by kernel_rfl) (by kernel_rfl) (by kernel_rfl) (fun _ _ _ h => h) (yieldsIf_load_mid (by rfl) 24 (.tmp 1) rfl (w.heap.size) (0) rfl (IL) _ (fun _ h => h.r) Tryd.underlying24 rfl HIN.out) hHeld ?_
    try simp only [Act.put, List.setIfInBounds_toArray, List.set_cons_zero, List.set_cons_succ]
    refine wpAnyH_take (i := 2) (oi := { dst := some 19, op := Go.Op.load 24 (Go.Operand.tmp 1), type := 24, pos := _, after := #[], guard := none }) rfl (by kernel_rfl) (by kernel_rfl) (by kernel_rfl) (fun _ _ _ h => h) (yieldsIf_load_mid (by rfl) 24 (.tmp 1) rfl (w.heap.size) (0) rfl (IL) _ (fun _ h => h.r) Tryd.underlying24 rfl HIN.out) hHeld ?_
    try simp only [Act.put, List.setIfInBounds_toArray, List.set_cons_zero, List.set_cons_succ]
    refine wpAnyH_ready (rs := [1]) (by kernel_rfl) (by simp) ?_
    refine AllReadyH.cons (o := { dst := some 18, op := Go.Op.call { callee := Go.Callee.value (Go.Operand.func 10), args := #[Go.Operand.tmp 17], argTypes := #[24] }, type := 4, pos := _, after := #[{ on := 0, ground := Go.Ground.data }], guard := none }) rfl (fun K hK => ?_) AllReadyH.nil
    rw [if_pos (by rfl)]
    go_wp2_with fail
    refine Calls.mono (hM _) ?_
    rintro e X3 ⟨rfl, hX⟩
    have HB3 : Hid (CW w IL X3) := HS3.out.below hX
    clear hX
    refine hK.out _ _ HB3.out (fun _ => ?_)
    clear hK K
    try simp only [Act.put, List.setIfInBounds_toArray, List.set_cons_zero, List.set_cons_succ]
    clear hHeld
    have hHeld := HB3.out
    refine wpAnyH_ready (rs := [3]) (by kernel_rfl) (by simp) ?_
    refine AllReadyH.cons (o := { dst := some 20, op := Go.Op.call { callee := Go.Callee.value (Go.Operand.func 11), args := #[Go.Operand.tmp 19], argTypes := #[24] }, type := 4, pos := _, after := #[{ on := 2, ground := Go.Ground.data }, { on := 1, ground := Go.Ground.chain }], guard := none }) rfl (fun K hK => ?_) AllReadyH.nil
    rw [if_pos (by rfl)]
    go_wp2_with fail
    refine Calls.mono (hR _) ?_
    rintro e X4 ⟨rfl, hX⟩
    have HB4 : Hid (CW w IL X4) := HB3.out.below hX
    clear hX
    refine hK.out _ _ HB4.out (fun _ => ?_)
    clear hK K
    try simp only [Act.put, List.setIfInBounds_toArray, List.set_cons_zero, List.set_cons_succ]
    clear hHeld
    have hHeld := HB4.out
    refine wpAnyH_take (i := 4) (oi := { dst := some 21, op := Go.Op.binOp Go.BinOp.neq 4 (Go.Operand.tmp 18) (Go.Operand.tmp 20) 4, type := 4, pos := _, after := #[{ on := 1, ground := Go.Ground.data }, { on := 3, ground := Go.Ground.data }], guard := none }) (v := .bool false) rfl (by kernel_rfl) (by kernel_rfl) (by kernel_rfl) (fun _ _ _ h => h) (Or.inl ⟨by rfl, fun w' hw' => ?_⟩) hHeld ?_
    · first | (go_simp; done) | (go_simp; rfl)
    try simp only [Act.put, List.setIfInBounds_toArray, List.set_cons_zero, List.set_cons_succ]
    refine wpAnyH_done (by kernel_rfl) ?_ _
    clear hHeld hM
    go_wp2_with (refine wpList_load_mid rfl 24 _ rfl w.heap.size 0 rfl IL _ HB4.out.r Tryd.underlying24 rfl HIN.out ?_)
    refine Calls.mono (hR _) ?_
    rintro e X5 ⟨rfl, hX⟩
    have HB5 : Hid (CW w IL X5) := HB4.out.below hX
    clear hX
    clear hR
    go_wp2_with (go_at_call 12; refine Calls.mono (num_any _ _) ?_; rintro e wq ⟨rfl, rfl⟩)
    refine Calls.mono (HK.out _ (HGV.out _ HB5.out)) ?_
    rintro e V ⟨rfl, hbV⟩
    go_wp2
    go_ret
    exact ⟨rfl, (HB5.out.below hbV).bel⟩
  · rw [hm] at hM hR
    have hE := fun W => enc_ok i hi hm W
    have hT := fun (W : World) (hW : GV W) => text_ok i hi hm W hW
    have hQ := fun W => renc_ok i hm W
    have hU := fun (W : World) (hW : GV W) => rtext_ok i hm W hW
    clear hi hm
    generalize txt i = TXT at *
    generalize wrd i = WRD at *
    unfold sV at *
    have HIN : Hid _ := ins_info i
    have hiV : iV i = .agg (iL i).toArray := rfl
    rw [hiV] at hM hR hE hT hQ hU
    generalize iL i = IL at *
    have HB0 : Hid (CW w IL (w.alloc (.cells IL.toArray 24 (0, 0)))) := CW.new w IL
    have HGV : Hid (∀ X, CW w IL X → GV X) := fun X hX => hG.below hX.bel
    clear hG hiV
    go_enter Tryd.func3, Tryd.ntmps3
    go_wp2_with (refine wpList_load_mid rfl 24 _ rfl w.heap.size 0 rfl IL _ HB0.out.r Tryd.underlying24 rfl HIN.out ?_)
    refine Calls.mono (hE _) ?_
    rintro e X1 ⟨rfl, hX⟩
    have HB1 : Hid (CW w IL X1) := HB0.out.below hX
    clear hX
    clear hE
    go_wp2_with (refine wpList_load_mid rfl 24 _ rfl w.heap.size 0 rfl IL _ HB1.out.r Tryd.underlying24 rfl HIN.out ?_)
    refine Calls.mono (hT _ (HGV.out _ HB1.out)) ?_
    rintro e X2 ⟨rfl, hX⟩
    have HB2 : Hid (CW w IL X2) := HB1.out.below hX
    clear hX
    clear hT
    have HS3 : Hid (CW w IL X2.drew) := HB2.out.below (Below.drew (Below.refl _ _))
    go_wp2
    refine wp_region_held_drew (S := CW w IL) (by kernel_rfl) HS3.out (fun hHeld => ?_)
    generalize X2.drew = W at *
    refine wpAnyH_take (i := 0) (oi := { dst := some 17, op := Go.Op.load 24 (Go.Operand.tmp 1), type := 24, pos := _, after := #[], guard := none }) rfl (by kernel_rfl) (by kernel_rfl) (by kernel_rfl) (fun _ _ _ h => h) (yieldsIf_load_mid (by rfl) 24 (.tmp 1) rfl (w.heap.size) (0) rfl (IL) _ (fun _ h => h.r) Tryd.underlying24 rfl HIN.out) hHeld ?_
    try simp only [Act.put, List.setIfInBounds_toArray, List.set_cons_zero, List.set_cons_succ]
    refine wpAnyH_take (i := 2) (oi := { dst := some 19, op := Go.Op.load 24 (Go.Operand.tmp 1), type := 24, pos := _, after := #[], guard := none }) rfl (by kernel_rfl) (by kernel_rfl) (by kernel_rfl) (fun _ _ _ h => h) (yieldsIf_load_mid (by rfl) 24 (.tmp 1) rfl (w.heap.size) (0) rfl (IL) _ (fun _ h => h.r) Tryd.underlying24 rfl HIN.out) hHeld ?_
    try simp only [Act.put, List.setIfInBounds_toArray, List.set_cons_zero, List.set_cons_succ]
    refine wpAnyH_ready (rs := [1]) (by kernel_rfl) (by simp) ?_
    refine AllReadyH.cons (o := { dst := some 18, op := Go.Op.call { callee := Go.Callee.value (Go.Operand.func 10), args := #[Go.Operand.tmp 17], argTypes := #[24] }, type := 4, pos := _, after := #[{ on := 0, ground := Go.Ground.data }], guard := none }) rfl (fun K hK => ?_) AllReadyH.nil
    rw [if_pos (by rfl)]
    go_wp2_with fail
    refine Calls.mono (hM _) ?_
    rintro e X3 ⟨rfl, hX⟩
    have HB3 : Hid (CW w IL X3) := HS3.out.below hX
    clear hX
    refine hK.out _ _ HB3.out (fun _ => ?_)
    clear hK K
    try simp only [Act.put, List.setIfInBounds_toArray, List.set_cons_zero, List.set_cons_succ]
    clear hHeld
    have hHeld := HB3.out
    refine wpAnyH_ready (rs := [3]) (by kernel_rfl) (by simp) ?_
    refine AllReadyH.cons (o := { dst := some 20, op := Go.Op.call { callee := Go.Callee.value (Go.Operand.func 11), args := #[Go.Operand.tmp 19], argTypes := #[24] }, type := 4, pos := _, after := #[{ on := 2, ground := Go.Ground.data }, { on := 1, ground := Go.Ground.chain }], guard := none }) rfl (fun K hK => ?_) AllReadyH.nil
    rw [if_pos (by rfl)]
    go_wp2_with fail
    refine Calls.mono (hR _) ?_
    rintro e X4 ⟨rfl, hX⟩
    have HB4 : Hid (CW w IL X4) := HB3.out.below hX
    clear hX
    refine hK.out _ _ HB4.out (fun _ => ?_)
    clear hK K
    try simp only [Act.put, List.setIfInBounds_toArray, List.set_cons_zero, List.set_cons_succ]
    clear hHeld
    have hHeld := HB4.out
    refine wpAnyH_take (i := 4) (oi := { dst := some 21, op := Go.Op.binOp Go.BinOp.neq 4 (Go.Operand.tmp 18) (Go.Operand.tmp 20) 4, type := 4, pos := _, after := #[{ on := 1, ground := Go.Ground.data }, { on := 3, ground := Go.Ground.data }], guard := none }) (v := .bool false) rfl (by kernel_rfl) (by kernel_rfl) (by kernel_rfl) (fun _ _ _ h => h) (Or.inl ⟨by rfl, fun w' hw' => ?_⟩) hHeld ?_
    · first | (go_simp; done) | (go_simp; rfl)
    try simp only [Act.put, List.setIfInBounds_toArray, List.set_cons_zero, List.set_cons_succ]
    refine wpAnyH_done (by kernel_rfl) ?_ _
    clear hHeld hM
    go_wp2_with (refine wpList_load_mid rfl 24 _ rfl w.heap.size 0 rfl IL _ HB4.out.r Tryd.underlying24 rfl HIN.out ?_)
    refine Calls.mono (hR _) ?_
    rintro e X5 ⟨rfl, hX⟩
    have HB5 : Hid (CW w IL X5) := HB4.out.below hX
    clear hX
    clear hR
    go_wp2_with (refine wpList_load_mid rfl 24 _ rfl w.heap.size 0 rfl IL _ HB5.out.r Tryd.underlying24 rfl HIN.out ?_)
    refine Calls.mono (hQ _) ?_
    rintro e X6 ⟨rfl, hX⟩
    have HB6 : Hid (CW w IL X6) := HB5.out.below hX
    clear hX
    go_wp2_with (refine load_row_g (by rfl) 24 _ rfl w.heap.size 0 rfl IL _ HB6.out.r Tryd.underlying24 rfl HIN.out ?_)
    refine Calls.mono (hU _ (HGV.out _ HB6.out)) ?_
    rintro e X7 ⟨rfl, hX⟩
    have HB7 : Hid (CW w IL X7) := HB6.out.below hX
    clear hX
    go_wp2_with (go_at_call 12; refine Calls.mono (num_any _ _) ?_; rintro e wq ⟨rfl, rfl⟩)
    refine Calls.mono (HK.out _ (HGV.out _ HB7.out)) ?_
    rintro e V ⟨rfl, hbV⟩
    go_wp2
    go_ret
    exact ⟨rfl, (HB7.out.below hbV).bel⟩
set_option maxRecDepth 100000 in
theorem lifted (os : Os) (started : os.Started) (H : Type) (enc : TypeId × Value → H) :
    ReturnsInHanded {} Tryd.checked os 3 .any (fun w args => (Rows.cpuWordsSpec.pre enc Tryd.prog Tryd.f3 [] false w args ∧ laidMetH Tryd.prog Rows.cpuWordsRow.laid w) ∧ sizedMet enc Tryd.prog Tryd.f3 (OpenSpec.ofChange Rows.cpuWordsSpec) false w args) (Rows.cpuWordsSpec.post enc Tryd.prog Tryd.f3 false true false false) := by
  refine returnsInHanded_of_change_and (C := Tryd.checked) (X := fun w _ => laidMetH Tryd.prog Rows.cpuWordsRow.laid w) (fun _ _ _ hh h => h.of_heap hh) own started (by kernel_rfl) Tryd.func3
    (ChangeSpec.witness_shaped (enc := enc) (C := Tryd.checked) (os := os) (X := fun w _ => laidMetH Tryd.prog Rows.cpuWordsRow.laid w) false (World.doorLaid Tryd.prog 400 os) #[.agg (Array.replicate 5 (.int .i64 0))] 8 rfl (World.shaped_of_RefB (by kernel_rfl) (by kernel_rfl)) (by kernel_rfl) (by kernel_rfl) (by kernel_rfl) (door_met os _)) ?_
  intro W base args ds gs before hval0 hW hcnd _ hL _
  have hval : ∀ (j : Nat) t v, Tryd.f3.params[j]? = some t → args[j]? = some v → Value.okWide Tryd.prog W .any base t v := hval0
  have hW' := hW
  obtain ⟨p, q, hA0, hV, rfl, hfz, hnd⟩ := hW
  have hA : DataW.TrodAll enc Tryd.prog W 0 (fun _ => true) true Tryd.f3.params.toList args.toList ds p := hA0
  rw [Tryd.params3] at hA hval
  obtain ⟨v0, vs0, d0, ds0, p0, q0, hargs, rfl, rfl, h0, r0⟩ := trodAll_cons hA
  obtain ⟨rfl, rfl, rfl⟩ := trodAll_nil r0
  obtain rfl : args = #[v0] := by cases args; simp_all
  obtain ⟨rfl, rfl⟩ := trodVars_none hV
  have k0 := h0
  have lt0 : ∀ x ∈ p0, x.block < W.heap.size := by obtain ⟨m, hm⟩ := k0; exact DataW.trod_lt m _ _ _ hm
  obtain ⟨xs0, rfl⟩ := JC.okWide_str Tryd.underlying24 (hval 0 24 v0 rfl rfl)
  obtain ⟨i0, rfl, hl0⟩ : ∃ i : JC.Ins, xs0 = (JC.iL i).toArray ∧ JC.iwf i := by obtain ⟨fuel, hf⟩ := h0; obtain ⟨s, e, h1⟩ := JC.open_ins hf; exact ⟨s, by rw [← Array.toList_inj]; exact e, h1⟩
  clear hA0 hval0
  refine (walk i0 W hl0 (of_laid hL)).mono fun e W' ⟨he, bel⟩ => ?_
  subst he
  exact ⟨_, rfl, _, _, _, [], _, [], hW', trodAll_mk1 (shut_bool Tryd.underlying4 _), (trodAll_cons_mk (Below.trod laidOut (by kernel_rfl) (of_decide_eq_true (by kernel_rfl)) k0 bel lt0) trodAll_mk0), rfl, bel.frame _, fun h => by cases h⟩

theorem over : Rows.cpuWordsRow.holds Tryd.pinned (OpenSpec.ofChange Rows.cpuWordsSpec) :=
  OpenClaim.holds_of_wide 3 Tryd.f3 rfl rfl rfl rfl rfl rfl rfl ⟨rfl, rfl, rfl, rfl, rfl⟩ rfl rfl rfl rfl rfl (by kernel_rfl) Tryd.func3 (by kernel_rfl)
    (of_decide_eq_true (by kernel_rfl)) (by unfold Func.isWrapper; first | (rw [if_pos (by decide +kernel)]; kernel_rfl) | (rw [if_neg (by decide +kernel)]; exact ⟨rfl, rfl⟩))
    (fun os started H enc _ => lifted os started H enc)

theorem card : Rows.CpuWordsCardSaid :=
  Claim7.holds_tied_plain_at .later [] Rows.cpuWordsCard.laidKinds true Rows.cpuWordsCard.stood.harness Rows.cpuWordsCard.stood.looks
    over (fun _ h => by cases h) (by kernel_rfl) (fun _ h => by cases h) cpuWords_row_tie rfl ⟨rfl, rfl⟩ (by kernel_rfl) rfl
    (fun f fn hf hfn => by
      obtain rfl : f = 3 := Option.some.inj ((show Tryd.prog.funcNamed Rows.cpuWordsRow.func = some 3 by kernel_rfl).symm.trans hf) |>.symm
      obtain rfl : fn = Tryd.f3 := (Option.some.inj (Tryd.func3.symm.trans hfn)).symm
      exact ⟨by kernel_rfl, fun j t ht => by
        rw [Tryd.params3] at ht
        have hm : t ∈ [24] := by simpa using Array.mem_of_getElem? ht
        have hall : ([24].all fun u => !Tryd.prog.wantsStandIn u) = true := by kernel_rfl
        exact (show Tryd.prog.wantsStandIn t = false by simpa using List.all_eq_true.1 hall t hm)⟩)
    (by kernel_rfl)
end Go.Proofs.YtkpjfhphohanlaaDoor.cpuWords
namespace Go.Proofs.YtkpjfhphohanlaaDoor
theorem cpuWords_holds : Rows.CpuWordsCardSaid := cpuWords.card
#print axioms cpuWords_holds
end Go.Proofs.YtkpjfhphohanlaaDoor
