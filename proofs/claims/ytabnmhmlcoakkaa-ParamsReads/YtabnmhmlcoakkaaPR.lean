/- ParamsRecs: for any parameters of a vCPU the statement's function answers true. No condition. -/
import Derived.Test.YtabnmhmlcoakkaaPQ
import Derived.WalkKit
import Derived.Carry
set_option linter.unusedVariables false
set_option linter.unusedSimpArgs false
namespace Go.Proofs.Ytabnmhmlcoakkaa.PC
open Go.RowKit

set_option maxHeartbeats 2000000 in
set_option maxRecDepth 100000 in
theorem recs_walk (pc : Nat) (rs : List Nat) (r : Bool) (w : World) (hr : rs.length = 8) (hp : pc < 18446744073709551616) (hrs : ∀ x ∈ rs, x < 18446744073709551616) :
    Calls Try.prog 4 #[.agg (rcL pc rs r).toArray] w fun e w' => e = .returned (.bool true) ∧ Below w.heap.size w w' := by
  have hzg := fun W => zero_gr W
  obtain ⟨ZL, hZL⟩ : ∃ L, L = Z128.map B8 := ⟨_, rfl⟩
  rw [← hZL] at hzg
  have HGL : Hid (ZL.length = 128) := by show _ = _; rw [hZL, List.length_map, z128_len]
  have HZL : Hid _ := hZL
  clear hZL
  have hM1 := fun W => pmayC_any pc rs r W
  have hM2 := fun W => rmayC_any pc rs r W
  have hRB := fun W => cb_any pc rs r W hr hp hrs
  have hRR := fun W => rcb_any pc rs r W hr hp hrs
  have hpl := rcL_len pc rs r hr
  generalize rcL pc rs r = PL at *
  have HPI : Hid _ := info10 PL hpl
  obtain ⟨GL, hGL⟩ : ∃ L, L = (cbA pc rs r).map B8 := ⟨_, rfl⟩
  have hgl : GL.length = 128 := by rw [hGL, List.length_map, cbA_len pc rs r hr]
  have HII : Hid _ := info128 GL hgl
  have HIA : Hid _ := info128a GL.toArray (by simpa using hgl)
  have HI1 : Hid (GL.toArray.all (·.oneCell') = true) := by show _ = _; rw [hGL]; exact B8_onea _
  have HIS : Hid (ZL.toArray.size = GL.toArray.size) := by show _ = _; simp [HGL.out, hgl]
  have heq : ∀ W, (Op.equalIn 10000 28 (.agg GL.toArray) (.agg GL.toArray)).run Try.prog W = .ok true W := fun W => by rw [hGL]; exact eq_gr W _ _ (cbA_len pc rs r hr) (cbA_len pc rs r hr) true (by simp)
  rw [← hGL] at hRB
  cases hm : mayC pc
  · have HBG : Hid (∀ W, (Instr.build 28 #[]).run Try.prog W = .ok (.agg GL.toArray) W) := fun W => by rw [hGL]; unfold cbA; rw [hm]; exact build_gr W
    rw [hm] at hM1 hM2
    have hee : cbE pc = 2 := by unfold cbE; rw [hm]; rfl
    rw [hee] at hRB
    clear hm hGL hgl hpl hr hp hrs hee hRR
    have HW0 : Hid _ := BX.start w 38 PL
    have HP0 : Hid _ := rangeAt_row HW0.out.gr
    have hnum := fun e W => num_any e W
    have hkn := fun W => known_any W
    go_enter Try.func4, Try.ntmps4
    go_wp2_with (refine wpList_load_mid rfl 38 _ rfl w.heap.size 0 rfl PL _ HP0.out Try.underlying38 rfl HPI.out ?_)
    refine Calls.mono (hRB _) ?_
    rintro e w1 ⟨rfl, hb1⟩
    have HN1 : Hid _ := heap_alloc_new w1 (.cells ZL.toArray 28 (0, 0))
    have HW1 : Hid _ := (LW.of (HW0.out.below hb1) ZL GL).below (Below.refl _ _).drew
    clear hb1 HW0 HP0 hRB
    go_wp2_with (refine wpList_store_row rfl 28 _ _ rfl w1.heap.size GL.toArray rfl rfl 28 ZL.toArray HN1.out HIA.out HIS.out HI1.out ?_)
    refine wp_region_held_drew (S := LW w 38 PL w1.heap.size GL) (by kernel_rfl) HW1.out (fun hHeld => ?_)
    refine wpAnyH_take (i := 0) (oi := { dst := some 10, op := Go.Op.load 38 (Go.Operand.tmp 1), type := 38, pos := _, after := #[], guard := none }) rfl (by kernel_rfl) (by kernel_rfl) (by kernel_rfl) (fun _ _ _ h => h) (yieldsIf_load_mid (by rfl) 38 (.tmp 1) rfl (w.heap.size) (0) rfl (PL) _ (fun _ h => rangeAt_row h.p) Try.underlying38 rfl HPI.out) hHeld ?_
    try simp only [Act.put, List.setIfInBounds_toArray, List.set_cons_zero, List.set_cons_succ]
    refine wpAnyH_take (i := 2) (oi := { dst := some 12, op := Go.Op.load 38 (Go.Operand.tmp 1), type := 38, pos := _, after := #[], guard := none }) rfl (by kernel_rfl) (by kernel_rfl) (by kernel_rfl) (fun _ _ _ h => h) (yieldsIf_load_mid (by rfl) 38 (.tmp 1) rfl (w.heap.size) (0) rfl (PL) _ (fun _ h => rangeAt_row h.p) Try.underlying38 rfl HPI.out) hHeld ?_
    try simp only [Act.put, List.setIfInBounds_toArray, List.set_cons_zero, List.set_cons_succ]
    refine wpAnyH_ready (rs := [1]) (by kernel_rfl) (by simp) ?_
    refine AllReadyH.cons (o := { dst := some 11, op := Go.Op.call { callee := Go.Callee.value (Go.Operand.func 15), args := #[Go.Operand.tmp 10], argTypes := #[38] }, type := 4, pos := _, after := #[{ on := 0, ground := Go.Ground.data }], guard := none }) rfl (fun K hK => ?_) AllReadyH.nil
    rw [if_pos (by rfl)]
    go_wp2_with fail
    refine Calls.mono (hM1 _) ?_
    rintro e w2 ⟨rfl, hb2⟩
    have hHeld2 := hHeld.below hb2
    clear hb2
    refine hK.out _ _ hHeld2 (fun _ => ?_)
    clear hK K
    try simp only [Act.put, List.setIfInBounds_toArray, List.set_cons_zero, List.set_cons_succ]
    refine wpAnyH_ready (rs := [3]) (by kernel_rfl) (by simp) ?_
    refine AllReadyH.cons (o := { dst := some 13, op := Go.Op.call { callee := Go.Callee.value (Go.Operand.func 16), args := #[Go.Operand.tmp 12], argTypes := #[38] }, type := 4, pos := _, after := #[{ on := 2, ground := Go.Ground.data }, { on := 1, ground := Go.Ground.chain }], guard := none }) rfl (fun K hK => ?_) AllReadyH.nil
    rw [if_pos (by rfl)]
    go_wp2_with fail
    refine Calls.mono (hM2 _) ?_
    rintro e w3 ⟨rfl, hb3⟩
    have hHeld3 := hHeld2.below hb3
    clear hb3 hHeld hHeld2
    refine hK.out _ _ hHeld3 (fun _ => ?_)
    clear hK K
    try simp only [Act.put, List.setIfInBounds_toArray, List.set_cons_zero, List.set_cons_succ]
    have hHeld := hHeld3
    refine wpAnyH_take (i := 4) (oi := { dst := some 14, op := Go.Op.binOp Go.BinOp.neq 4 (Go.Operand.tmp 11) (Go.Operand.tmp 13) 4, type := 4, pos := _, after := #[{ on := 1, ground := Go.Ground.data }, { on := 3, ground := Go.Ground.data }], guard := none }) (v := .bool false) rfl (by kernel_rfl) (by kernel_rfl) (by kernel_rfl) (fun _ _ _ h => h) (Or.inl ⟨by rfl, fun w' hw' => ?_⟩) hHeld ?_
    · first | (go_simp; done) | (go_simp; rfl)
    try simp only [Act.put, List.setIfInBounds_toArray, List.set_cons_zero, List.set_cons_succ]
    refine wpAnyH_done (by kernel_rfl) ?_ _
    have HW3 : Hid _ := hHeld3
    have HP3 : Hid _ := rangeAt_row HW3.out.p
    clear hHeld hHeld3 HW1
    go_wp2_with (refine wpList_load_mid rfl 38 _ rfl w.heap.size 0 rfl PL _ HP3.out Try.underlying38 rfl HPI.out ?_)
    refine Calls.mono (hM2 _) ?_
    rintro e w4 ⟨rfl, hb4⟩
    have hw4 := HW3.out.below hb4
    have HW4 : Hid _ := hw4
    clear hb4 HW3 HP3
    have HG4 : Hid _ := rangeAt_row HW4.out.g
    go_wp2_with (first
      | (refine wpList_load_mid rfl 28 _ rfl w1.heap.size 0 rfl GL _ HG4.out Try.underlying28 rfl HII.out ?_)
      | (refine wpList_build rfl 28 #[] rfl #[] (.agg GL.toArray) (by simp) (HBG.out _) ?_)
      | (go_at_call 11; refine Calls.mono (hnum _ _) ?_; rintro e w9 ⟨rfl, rfl⟩))
    refine Calls.mono (hkn _) ?_
    rintro e w5 ⟨rfl, hb5⟩
    have HB5 : Hid _ := (HW4.out.below hb5).bel
    clear hb5
    go_wp2
    go_ret
    exact ⟨rfl, HB5.out⟩
  · rw [hm] at hM1 hM2
    have hee : cbE pc = 0 := by unfold cbE; rw [hm]; rfl
    have haa : cbA pc rs r = cbL pc rs r := by unfold cbA; rw [if_pos hm]
    rw [← haa, ← hGL] at hRR
    rw [hee] at hRB
    clear hm hGL hgl hpl hr hp hrs hee haa
    have HW0 : Hid _ := BX.start w 38 PL
    have HP0 : Hid _ := rangeAt_row HW0.out.gr
    have hnum := fun e W => num_any e W
    have hkn := fun W => known_any W
    go_enter Try.func4, Try.ntmps4
    go_wp2_with (refine wpList_load_mid rfl 38 _ rfl w.heap.size 0 rfl PL _ HP0.out Try.underlying38 rfl HPI.out ?_)
    refine Calls.mono (hRB _) ?_
    rintro e w1 ⟨rfl, hb1⟩
    have HN1 : Hid _ := heap_alloc_new w1 (.cells ZL.toArray 28 (0, 0))
    have HW1 : Hid _ := (LW.of (HW0.out.below hb1) ZL GL).below (Below.refl _ _).drew
    clear hb1 HW0 HP0 hRB
    go_wp2_with (refine wpList_store_row rfl 28 _ _ rfl w1.heap.size GL.toArray rfl rfl 28 ZL.toArray HN1.out HIA.out HIS.out HI1.out ?_)
    refine wp_region_held_drew (S := LW w 38 PL w1.heap.size GL) (by kernel_rfl) HW1.out (fun hHeld => ?_)
    refine wpAnyH_take (i := 0) (oi := { dst := some 10, op := Go.Op.load 38 (Go.Operand.tmp 1), type := 38, pos := _, after := #[], guard := none }) rfl (by kernel_rfl) (by kernel_rfl) (by kernel_rfl) (fun _ _ _ h => h) (yieldsIf_load_mid (by rfl) 38 (.tmp 1) rfl (w.heap.size) (0) rfl (PL) _ (fun _ h => rangeAt_row h.p) Try.underlying38 rfl HPI.out) hHeld ?_
    try simp only [Act.put, List.setIfInBounds_toArray, List.set_cons_zero, List.set_cons_succ]
    refine wpAnyH_take (i := 2) (oi := { dst := some 12, op := Go.Op.load 38 (Go.Operand.tmp 1), type := 38, pos := _, after := #[], guard := none }) rfl (by kernel_rfl) (by kernel_rfl) (by kernel_rfl) (fun _ _ _ h => h) (yieldsIf_load_mid (by rfl) 38 (.tmp 1) rfl (w.heap.size) (0) rfl (PL) _ (fun _ h => rangeAt_row h.p) Try.underlying38 rfl HPI.out) hHeld ?_
    try simp only [Act.put, List.setIfInBounds_toArray, List.set_cons_zero, List.set_cons_succ]
    refine wpAnyH_ready (rs := [1]) (by kernel_rfl) (by simp) ?_
    refine AllReadyH.cons (o := { dst := some 11, op := Go.Op.call { callee := Go.Callee.value (Go.Operand.func 15), args := #[Go.Operand.tmp 10], argTypes := #[38] }, type := 4, pos := _, after := #[{ on := 0, ground := Go.Ground.data }], guard := none }) rfl (fun K hK => ?_) AllReadyH.nil
    rw [if_pos (by rfl)]
    go_wp2_with fail
    refine Calls.mono (hM1 _) ?_
    rintro e w2 ⟨rfl, hb2⟩
    have hHeld2 := hHeld.below hb2
    clear hb2
    refine hK.out _ _ hHeld2 (fun _ => ?_)
    clear hK K
    try simp only [Act.put, List.setIfInBounds_toArray, List.set_cons_zero, List.set_cons_succ]
    refine wpAnyH_ready (rs := [3]) (by kernel_rfl) (by simp) ?_
    refine AllReadyH.cons (o := { dst := some 13, op := Go.Op.call { callee := Go.Callee.value (Go.Operand.func 16), args := #[Go.Operand.tmp 12], argTypes := #[38] }, type := 4, pos := _, after := #[{ on := 2, ground := Go.Ground.data }, { on := 1, ground := Go.Ground.chain }], guard := none }) rfl (fun K hK => ?_) AllReadyH.nil
    rw [if_pos (by rfl)]
    go_wp2_with fail
    refine Calls.mono (hM2 _) ?_
    rintro e w3 ⟨rfl, hb3⟩
    have hHeld3 := hHeld2.below hb3
    clear hb3 hHeld hHeld2
    refine hK.out _ _ hHeld3 (fun _ => ?_)
    clear hK K
    try simp only [Act.put, List.setIfInBounds_toArray, List.set_cons_zero, List.set_cons_succ]
    have hHeld := hHeld3
    refine wpAnyH_take (i := 4) (oi := { dst := some 14, op := Go.Op.binOp Go.BinOp.neq 4 (Go.Operand.tmp 11) (Go.Operand.tmp 13) 4, type := 4, pos := _, after := #[{ on := 1, ground := Go.Ground.data }, { on := 3, ground := Go.Ground.data }], guard := none }) (v := .bool false) rfl (by kernel_rfl) (by kernel_rfl) (by kernel_rfl) (fun _ _ _ h => h) (Or.inl ⟨by rfl, fun w' hw' => ?_⟩) hHeld ?_
    · first | (go_simp; done) | (go_simp; rfl)
    try simp only [Act.put, List.setIfInBounds_toArray, List.set_cons_zero, List.set_cons_succ]
    refine wpAnyH_done (by kernel_rfl) ?_ _
    have HW3 : Hid _ := hHeld3
    have HP3 : Hid _ := rangeAt_row HW3.out.p
    clear hHeld hHeld3 HW1
    go_wp2_with (refine wpList_load_mid rfl 38 _ rfl w.heap.size 0 rfl PL _ HP3.out Try.underlying38 rfl HPI.out ?_)
    refine Calls.mono (hM2 _) ?_
    rintro e w4 ⟨rfl, hb4⟩
    have hw4 := HW3.out.below hb4
    have HW4 : Hid _ := hw4
    clear hb4 HW3 HP3
    have HW5 : Hid _ := HW4.out.below (Below.refl _ _).drew
    go_wp2
    refine wp_region_held_drew (S := LW w 38 PL w1.heap.size GL) (by kernel_rfl) HW5.out (fun hHeld => ?_)
    refine wpAnyH_take (i := 0) (oi := { dst := some 29, op := Go.Op.load 28 (Go.Operand.tmp 3), type := 28, pos := _, after := #[], guard := none }) rfl (by kernel_rfl) (by kernel_rfl) (by kernel_rfl) (fun _ _ _ h => h) (yieldsIf_load_mid (by rfl) 28 (.tmp 3) rfl (w1.heap.size) (0) rfl (GL) _ (fun _ h => rangeAt_row h.g) Try.underlying28 rfl HII.out) hHeld ?_
    try simp only [Act.put, List.setIfInBounds_toArray, List.set_cons_zero, List.set_cons_succ]
    refine wpAnyH_take (i := 1) (oi := { dst := some 30, op := Go.Op.load 38 (Go.Operand.tmp 1), type := 38, pos := _, after := #[], guard := none }) rfl (by kernel_rfl) (by kernel_rfl) (by kernel_rfl) (fun _ _ _ h => h) (yieldsIf_load_mid (by rfl) 38 (.tmp 1) rfl (w.heap.size) (0) rfl (PL) _ (fun _ h => rangeAt_row h.p) Try.underlying38 rfl HPI.out) hHeld ?_
    try simp only [Act.put, List.setIfInBounds_toArray, List.set_cons_zero, List.set_cons_succ]
    refine wpAnyH_ready (rs := [2]) (by kernel_rfl) (by simp) ?_
    refine AllReadyH.cons (o := { dst := some 31, op := Go.Op.call { callee := Go.Callee.value (Go.Operand.func 17), args := #[Go.Operand.tmp 30], argTypes := #[38] }, type := 28, pos := _, after := #[{ on := 1, ground := Go.Ground.data }], guard := none }) rfl (fun K hK => ?_) AllReadyH.nil
    rw [if_pos (by rfl)]
    go_wp2_with fail
    refine Calls.mono (hRR _) ?_
    rintro e w5 ⟨rfl, hb5⟩
    have hHeld5 := hHeld.below hb5
    clear hb5 hHeld
    refine hK.out _ _ hHeld5 (fun _ => ?_)
    clear hK K
    try simp only [Act.put, List.setIfInBounds_toArray, List.set_cons_zero, List.set_cons_succ]
    have hHeld := hHeld5
    refine wpAnyH_take (i := 3) (oi := { dst := some 32, op := Go.Op.binOp Go.BinOp.eql 28 (Go.Operand.tmp 29) (Go.Operand.tmp 31) 28, type := 4, pos := _, after := #[{ on := 0, ground := Go.Ground.data }, { on := 2, ground := Go.Ground.data }], guard := none }) (v := .bool true) rfl (by kernel_rfl) (by kernel_rfl) (by kernel_rfl) (fun _ _ _ h => h) (Or.inl ⟨by rfl, fun w' hw' => ?_⟩) hHeld ?_
    · first | (go_simp; done) | (go_simp; rfl)
    try simp only [Act.put, List.setIfInBounds_toArray, List.set_cons_zero, List.set_cons_succ]
    refine wpAnyH_take (i := 4) (oi := { dst := some 33, op := Go.Op.move (Go.Operand.tmp 32), type := 4, pos := _, after := #[{ on := 3, ground := Go.Ground.data }, { on := 2, ground := Go.Ground.chain }], guard := none }) (v := .bool true) rfl (by kernel_rfl) (by kernel_rfl) (by kernel_rfl) (fun _ _ _ h => h) (Or.inl ⟨by rfl, fun w' hw' => ?_⟩) hHeld ?_
    · first | (go_simp; done) | (go_simp; rfl)
    try simp only [Act.put, List.setIfInBounds_toArray, List.set_cons_zero, List.set_cons_succ]
    refine wpAnyH_take (i := 5) (oi := { dst := some 34, op := Go.Op.move (Go.Operand.tmp 4), type := 29, pos := _, after := #[{ on := 4, ground := Go.Ground.guard }], guard := some (4, true) }) (v := .int .i64 0) rfl (by kernel_rfl) (by kernel_rfl) (by kernel_rfl) (fun _ _ _ h => h) (Or.inl ⟨by rfl, fun w' hw' => ?_⟩) hHeld ?_
    · first | (go_simp; done) | (go_simp; rfl)
    try simp only [Act.put, List.setIfInBounds_toArray, List.set_cons_zero, List.set_cons_succ]
    refine wpAnyH_ready (rs := [6]) (by kernel_rfl) (by simp) ?_
    refine AllReadyH.cons (o := { dst := some 35, op := Go.Op.call { callee := Go.Callee.value (Go.Operand.func 11), args := #[Go.Operand.tmp 34], argTypes := #[29] }, type := 3, pos := _, after := #[{ on := 5, ground := Go.Ground.data }, { on := 4, ground := Go.Ground.chain }, { on := 4, ground := Go.Ground.guard }], guard := some (4, true) }) rfl (fun K hK => ?_) AllReadyH.nil
    rw [if_pos (by rfl)]
    go_wp2_with fail
    refine Calls.mono (hnum _ _) ?_
    rintro e w6 ⟨rfl, hw6⟩
    have hHeld6 : LW w 38 PL w1.heap.size GL w6 := by rw [← hw6]; exact hHeld5
    clear hHeld hHeld5 hw6
    refine hK.out _ _ hHeld6 (fun _ => ?_)
    clear hK K
    try simp only [Act.put, List.setIfInBounds_toArray, List.set_cons_zero, List.set_cons_succ]
    have hHeld := hHeld6
    refine wpAnyH_take (i := 7) (oi := { dst := some 36, op := Go.Op.binOp Go.BinOp.eql 3 (Go.Operand.tmp 35) (Go.Operand.const (Go.Value.int Go.IntKind.i64 0)) 3, type := 4, pos := _, after := #[{ on := 6, ground := Go.Ground.data }, { on := 4, ground := Go.Ground.guard }], guard := some (4, true) }) (v := .bool true) rfl (by kernel_rfl) (by kernel_rfl) (by kernel_rfl) (fun _ _ _ h => h) (Or.inl ⟨by rfl, fun w' hw' => ?_⟩) hHeld ?_
    · first | (go_simp; done) | (go_simp; rfl)
    try simp only [Act.put, List.setIfInBounds_toArray, List.set_cons_zero, List.set_cons_succ]
    refine wpAnyH_take (i := 8) (oi := { dst := some 37, op := Go.Op.pick (Go.Operand.tmp 33) (Go.Operand.tmp 36) (Go.Operand.const (Go.Value.bool false)), type := 4, pos := _, after := #[{ on := 4, ground := Go.Ground.data }, { on := 7, ground := Go.Ground.data }], guard := none }) (v := .bool true) rfl (by kernel_rfl) (by kernel_rfl) (by kernel_rfl) (fun _ _ _ h => h) (Or.inl ⟨by rfl, fun w' hw' => ?_⟩) hHeld ?_
    · first | (go_simp; done) | (go_simp; rfl)
    try simp only [Act.put, List.setIfInBounds_toArray, List.set_cons_zero, List.set_cons_succ]
    refine wpAnyH_take (i := 9) (oi := { dst := some 38, op := Go.Op.move (Go.Operand.tmp 37), type := 4, pos := _, after := #[{ on := 8, ground := Go.Ground.data }, { on := 6, ground := Go.Ground.chain }], guard := none }) (v := .bool true) rfl (by kernel_rfl) (by kernel_rfl) (by kernel_rfl) (fun _ _ _ h => h) (Or.inl ⟨by rfl, fun w' hw' => ?_⟩) hHeld ?_
    · first | (go_simp; done) | (go_simp; rfl)
    try simp only [Act.put, List.setIfInBounds_toArray, List.set_cons_zero, List.set_cons_succ]
    refine wpAnyH_ready (rs := [10]) (by kernel_rfl) (by simp) ?_
    refine AllReadyH.cons (o := { dst := some 39, op := Go.Op.call { callee := Go.Callee.value (Go.Operand.func 12), args := #[], argTypes := #[] }, type := 4, pos := _, after := #[{ on := 9, ground := Go.Ground.chain }, { on := 9, ground := Go.Ground.guard }], guard := some (9, true) }) rfl (fun K hK => ?_) AllReadyH.nil
    rw [if_pos (by rfl)]
    go_wp2_with fail
    refine Calls.mono (hkn _) ?_
    rintro e w7 ⟨rfl, hb7⟩
    have hHeld7 := hHeld6.below hb7
    clear hHeld hHeld6 hb7
    refine hK.out _ _ hHeld7 (fun _ => ?_)
    clear hK K
    try simp only [Act.put, List.setIfInBounds_toArray, List.set_cons_zero, List.set_cons_succ]
    have hHeld := hHeld7
    refine wpAnyH_take (i := 11) (oi := { dst := some 40, op := Go.Op.pick (Go.Operand.tmp 38) (Go.Operand.tmp 39) (Go.Operand.const (Go.Value.bool false)), type := 4, pos := _, after := #[{ on := 9, ground := Go.Ground.data }, { on := 10, ground := Go.Ground.data }], guard := none }) (v := .bool true) rfl (by kernel_rfl) (by kernel_rfl) (by kernel_rfl) (fun _ _ _ h => h) (Or.inl ⟨by rfl, fun w' hw' => ?_⟩) hHeld ?_
    · first | (go_simp; done) | (go_simp; rfl)
    try simp only [Act.put, List.setIfInBounds_toArray, List.set_cons_zero, List.set_cons_succ]
    refine wpAnyH_take (i := 12) (oi := { dst := some 2, op := Go.Op.assign (Go.Operand.tmp 40), type := 4, pos := _, after := #[{ on := 11, ground := Go.Ground.data }, { on := 10, ground := Go.Ground.chain }, { on := 0, ground := Go.Ground.phase }, { on := 1, ground := Go.Ground.phase }, { on := 2, ground := Go.Ground.phase }, { on := 3, ground := Go.Ground.phase }, { on := 4, ground := Go.Ground.phase }, { on := 5, ground := Go.Ground.phase }, { on := 6, ground := Go.Ground.phase }, { on := 7, ground := Go.Ground.phase }, { on := 8, ground := Go.Ground.phase }, { on := 9, ground := Go.Ground.phase }, { on := 10, ground := Go.Ground.phase }, { on := 11, ground := Go.Ground.phase }], guard := none }) (v := .bool true) rfl (by kernel_rfl) (by kernel_rfl) (by kernel_rfl) (fun _ _ _ h => h) (Or.inl ⟨by rfl, fun w' hw' => ?_⟩) hHeld ?_
    · first | (go_simp; done) | (go_simp; rfl)
    try simp only [Act.put, List.setIfInBounds_toArray, List.set_cons_zero, List.set_cons_succ]
    refine wpAnyH_done (by kernel_rfl) ?_ _
    have HB7 : Hid _ := hHeld7.bel
    clear hHeld hHeld7
    go_wp2
    go_ret
    exact ⟨rfl, HB7.out⟩
end Go.Proofs.Ytabnmhmlcoakkaa.PC
namespace Go.Proofs.Ytabnmhmlcoakkaa.paramsRecs
open Go.ChangeShapes Go.WideShapes Go.ChangeAt Go.RowKit

theorem own : ownKnob Try.prog.godebug = none := by kernel_rfl
theorem laidOut : laidOutB Try.prog = true := by kernel_rfl
theorem walk (pc : Nat) (rs : List Nat) (r : Bool) (w : World) (hr : rs.length = 8) (hp : pc < 18446744073709551616) (hrs : ∀ x ∈ rs, x < 18446744073709551616) :
    Calls Try.prog 4 #[.agg (PC.rcL pc rs r).toArray] w fun e w' => e = .returned (.bool true) ∧ Below w.heap.size w w' := PC.recs_walk pc rs r w hr hp hrs
set_option maxRecDepth 100000 in
theorem lifted (os : Os) (started : os.Started) (H : Type) (enc : TypeId × Value → H) :
    ReturnsInHanded {} Try.checked os 4 .any (Rows.paramsRecsSpec.pre6 enc Try.prog Try.f4 Rows.paramsRecsRow.domain false) (Rows.paramsRecsSpec.post enc Try.prog Try.f4 false true false false) := by
  refine returnsInHanded_of_change (C := Try.checked) own started (by kernel_rfl) Try.func4
    (ChangeSpec.witness6 (enc := enc) (C := Try.checked) false ⟨#[], #[.agg (Array.replicate 9 (.int .u64 0) ++ #[.bool false])], []⟩ 8 (by kernel_rfl) (by kernel_rfl) (by kernel_rfl) (by kernel_rfl)) ?_
  intro W base args ds gs before hval0 hW hcnd _
  have hval : ∀ (j : Nat) t v, Try.f4.params[j]? = some t → args[j]? = some v → Value.okWide Try.prog W .any base t v := hval0
  have hW' := hW
  obtain ⟨p, q, hA0, hV, rfl, hfz, hnd⟩ := hW
  have hA : DataW.TrodAll enc Try.prog W 0 (fun _ => true) true Try.f4.params.toList args.toList ds p := hA0
  rw [Try.params4] at hA hval
  obtain ⟨v0, vs0, d0, ds0, p0, q0, hargs, rfl, rfl, h0, r0⟩ := trodAll_cons hA
  obtain ⟨rfl, rfl, rfl⟩ := trodAll_nil r0
  obtain rfl : args = #[v0] := by cases args; simp_all
  obtain ⟨rfl, rfl⟩ := trodVars_none hV
  have k0 := h0
  have lt0 : ∀ x ∈ p0, x.block < W.heap.size := by obtain ⟨m, hm⟩ := k0; exact DataW.trod_lt m _ _ _ hm
  obtain ⟨xs0, rfl⟩ := PC.okWide_str Try.underlying38 (hval 0 38 v0 rfl rfl)
  obtain ⟨pc0, rs0, r0b, rfl, hr0, hp0, hx0⟩ : ∃ pc rs r, xs0 = (PC.rcL pc rs r).toArray ∧ rs.length = 8 ∧ pc < 18446744073709551616 ∧ ∀ x ∈ rs, x < 18446744073709551616 := by obtain ⟨fuel, hf⟩ := h0; obtain ⟨pc, rs, r, e, h1, h2, h3⟩ := PC.open_rc hf; exact ⟨pc, rs, r, by rw [← Array.toList_inj]; exact e, h1, h2, h3⟩
  clear hA0 hval0
  refine (walk pc0 rs0 r0b W hr0 hp0 hx0).mono fun e W' ⟨he, bel⟩ => ?_
  subst he
  exact ⟨_, rfl, _, _, _, [], _, [], hW', trodAll_mk1 (shut_bool Try.underlying4 _), (trodAll_cons_mk (Below.trod laidOut (by kernel_rfl) (of_decide_eq_true (by kernel_rfl)) k0 bel lt0) trodAll_mk0), rfl, bel.frame _, fun h => by cases h⟩

theorem over : Rows.paramsRecsRow.holds Try.pinned (OpenSpec.ofChange Rows.paramsRecsSpec) :=
  OpenClaim.holds_of_wide 4 Try.f4 rfl rfl rfl rfl rfl rfl rfl ⟨rfl, rfl, rfl, rfl, rfl⟩ rfl rfl rfl rfl rfl (by kernel_rfl) Try.func4 (by kernel_rfl)
    (of_decide_eq_true (by kernel_rfl)) (by unfold Func.isWrapper; first | (rw [if_pos (by decide +kernel)]; kernel_rfl) | (rw [if_neg (by decide +kernel)]; exact ⟨rfl, rfl⟩))
    (fun os started H enc _ => lifted os started H enc)

end Go.Proofs.Ytabnmhmlcoakkaa.paramsRecs
namespace Go.Proofs.Ytabnmhmlcoakkaa
theorem paramsRecs_holds : Rows.ParamsRecsSaid := paramsRecs.over
#print axioms paramsRecs_holds
end Go.Proofs.Ytabnmhmlcoakkaa
