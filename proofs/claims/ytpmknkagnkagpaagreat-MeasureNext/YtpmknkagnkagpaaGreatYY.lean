/- MeasureNext. -/
import Derived.Test.YtpmknkagnkagpaaGreatYX
set_option linter.unusedVariables false
set_option linter.unusedSimpArgs false
namespace Go.Proofs.YtpmknkagnkagpaaGreat.ZC
open Go.RowKit

set_option maxHeartbeats 4000000 in
set_option maxRecDepth 100000 in
theorem next_walk (i : Bool) (a1 : Option Addr) (len1 cap1 : Nat) (D : List (List UInt8)) (m : List UInt8) (r : Rd) (w : World) (hD : D.length ≤ 9223372036854775807) (ha : a1 = none → cap1 = 0) (hd : R5.HDs w (.slice a1 len1 cap1) D) (hm : m.length = 32) (hr : r.ok) :
    Calls Tryz.prog 3 #[.bool i, .slice a1 len1 cap1, .agg (m.map B8).toArray, .agg (rdL r).toArray] w fun e w' => e = .returned (.bool true) ∧ Below w.heap.size w w' := by
  obtain ⟨hdl, pd, capd, hde, hdr⟩ := id hd
  obtain ⟨rfl, rfl, rfl⟩ : a1 = pd ∧ len1 = D.length ∧ cap1 = capd := by simpa using hde
  have HKN : Hid (∀ W : World, Calls Tryz.prog 5 #[] W fun e w' => e = .returned (.bool true) ∧ Below W.heap.size W w') := known_any
  clear hde hdr
  obtain ⟨X0, hX0⟩ : ∃ X, X = (w.alloc (.cells (m.map B8).toArray 24 (0, 0))).alloc (.cells (rdL r).toArray 33 (0, 0)) := ⟨_, rfl⟩
  obtain ⟨hb0, hr0, hr1⟩ := alloc2 w (m.map B8).toArray (rdL r).toArray 24 33
  rw [← hX0] at hb0 hr0 hr1
  by_cases h60 : 60 < D.length
  · have h60I : (60 : Int) < (D.length : Int) := by omega
    have HB0 : Hid (Below w.heap.size w X0) := hb0
    have HK0 : Hid (Calls Tryz.prog 5 #[] X0 fun e w' => e = .returned (.bool true) ∧ Below X0.heap.size X0 w') := HKN.out X0
    have HX0 : Hid (X0 = (w.alloc (.cells (m.map B8).toArray 24 (0, 0))).alloc (.cells (rdL r).toArray 33 (0, 0))) := hX0
    rw [hX0] at HK0
    clear hdl hb0 hr0 hr1 hX0 hd hm hr HKN
    generalize (rdL r).toArray = RA at *
    generalize (m.map B8).toArray = MA at *
    go_enter Tryz.func3, Tryz.ntmps3
    go_wp2_with fail
    refine Calls.mono HK0.out ?_
    rintro e X1 ⟨rfl, hb1⟩
    rw [← HX0.out] at hb1
    have HB1 : Hid (Below w.heap.size w X1) := HB0.out.trans (hb1.mono HB0.out.size)
    clear hb1
    go_wp2
    go_ret
    exact ⟨rfl, HB1.out⟩
  have h60I : ¬ (60 : Int) < (D.length : Int) := by omega
  obtain ⟨RW, hRW⟩ : ∃ R : Rws, R = [(w.heap.size, (m.map B8).toArray, 24), (w.heap.size + 1, (rdL r).toArray, 33)] := ⟨_, rfl⟩
  have HBO : Hid (Calls Tryz.prog 6 #[.bool i, .agg (m.map B8).toArray, .slice a1 D.length cap1] X0 fun e Y => BoEnd w i m D RW e Y) := both_any w X0 i m a1 D.length cap1 D RW hm ha (by omega) hd hb0 (fun r hr => by rw [hRW] at hr; simp only [List.mem_cons, List.not_mem_nil, or_false] at hr; rcases hr with rfl | rfl <;> assumption)
  have HL0 : Hid ((X0).rangeAt w.heap.size 0 (m.map B8)) := PC.rangeAt_row hr0
  have HMI : Hid _ := R5.info32 (m.map B8) (by simpa using hm)
  have HRI : Hid _ := info172 (rdL r) (rdL_len hr)
  obtain ⟨ZL, hZL⟩ : ∃ L, L = Z0.map B8 := ⟨_, rfl⟩
  have hZL' : ZL = (List.replicate 32 (0 : UInt8)).map B8 := hZL
  have hz := fun W => R5.zero_dig W
  rw [← hZL'] at hz
  have HZS : Hid (ZL.toArray.size = 32) := by show _ = _; rw [hZL']; simp
  have HBD : Hid (∀ W : World, (Instr.build 24 #[]).run Tryz.prog W = .ok (.agg ZL.toArray) W) := fun W => by rw [hZL']; exact R5.build_dig W
  obtain ⟨A1, e1, L1, t1, l1, n1⟩ := two_next (w := w) (i := i) (m := m) hdl (L := []) (fun e he => (List.not_mem_nil he).elim) (by simp) m hm r hr
  simp only [List.length_nil] at n1
  rw [← hZL] at t1
  have HMY : Hid (∀ W, Calls Tryz.prog 8 #[.agg (rdL r).toArray] W fun e w' => e = .returned (.bool (mayD r)) ∧ Below W.heap.size W w') := fun W => may_any r W hr
  have HRM : Hid (∀ W, Calls Tryz.prog 9 #[.agg (rdL r).toArray] W fun e w' => e = .returned (.bool (mayD r)) ∧ Below W.heap.size W w') := fun W => rmay_any r W hr
  have HC0 : Hid (∀ (W : World) (b : Nat), W.rangeAt b 0 (rdL r) → W.cell? ⟨b, 0, none⟩ = some (.int .i64 r.kind)) := fun W b h => by have := h 0 _ (rdL_0 r); rwa [Nat.zero_add] at this
  generalize hkb : (r.kind == 1) = kb at *
  generalize mayD r = mk at *
  have HN1 : Hid (L1.length < 1000000) := by show _ < _; omega
  have HX0 : Hid (X0 = (w.alloc (.cells (m.map B8).toArray 24 (0, 0))).alloc (.cells (rdL r).toArray 33 (0, 0))) := hX0
  have HRW : Hid (RW = [(w.heap.size, (m.map B8).toArray, 24), (w.heap.size + 1, (rdL r).toArray, 33)]) := hRW
  have HT1 : Hid (Two w i m D 7 12 [.agg (m.map B8).toArray, .agg (rdL r).toArray] [.agg (m.map B8).toArray, .agg (rdL r).toArray] (mk && !kb) A1 e1 [] L1 ZL) := t1
  rw [hX0] at HBO HL0
  clear hZL hZL' hdl hb0 hr0 hr1 hX0 hd hm hr hRW t1 l1 n1 ha hD h60
  generalize rdL r = RL at *
  generalize r.kind = kd at *
  generalize m.map B8 = ML at *
  go_enter Tryz.func3, Tryz.ntmps3
  go_wp2_with (first
    | (refine wpList_load_mid rfl 24 _ rfl w.heap.size 0 rfl ML _ HL0.out Tryz.underlying24 rfl HMI.out ?_)
    | (go_at_call 6; fail))
  refine Calls.mono HBO.out ?_
  rintro e X1 ⟨og, mb, rg, rfl, hT⟩
  have HTW : Hid (TW w og mb rg i m D [] [] RW X1) := hT
  clear hT HBO HL0 HX0
  have HLM : Hid ((X1).rangeAt w.heap.size 0 ML) := RS.at (t := 24) HTW.out.rs (by simp [HRW.out])
  have HLR : Hid ((X1).rangeAt (w.heap.size + 1) 0 RL) := RS.at (t := 33) HTW.out.rs (by simp [HRW.out])
  go_wp2_with (first
    | (refine R5.load_mid_g (by rfl) 24 _ rfl w.heap.size 0 rfl ML _ HLM.out Tryz.underlying24 rfl HMI.out ?_)
    | (refine R5.load_mid_g (by rfl) 33 _ rfl (w.heap.size + 1) 0 rfl RL _ HLR.out Tryz.underlying33 rfl HRI.out ?_)
    | (go_at_call 7; fail))
  refine Calls.mono (HT1.out.p og mb rg _ X1 HTW.out) ?_
  rintro e X2 ⟨rfl, hT⟩
  have HTX : Hid (TW w og mb rg i m D L1 [] RW X2) := hT
  clear hT HTW HLM HLR
  have HTW : Hid (TW w og mb rg i m D L1 [] ((X2.heap.size, A1.toArray, 24) :: RW) ((X2.alloc (.cells ZL.toArray 24 (0, 0))).setRow X2.heap.size A1.toArray).drew) := (HTX.out.newrow _ _ _).step (Below.refl _ _).drew
  have HRD : Hid (RS ((X2.heap.size, A1.toArray, 24) :: RW) ((X2.alloc (.cells ZL.toArray 24 (0, 0))).setRow X2.heap.size A1.toArray).drew) := HTW.out.rs
  have HZA : Hid ((X2.alloc (.cells ZL.toArray 24 (0, 0))).heap[X2.heap.size]? = some (.cells ZL.toArray 24 (0, 0))) := heap_alloc_new _ _
  have HAS : Hid (A1.toArray.size = 32) := by show _ = _; simpa using HT1.out.len
  have HA1 : Hid _ := HT1.out.one
  go_wp2_with (refine wpList_store_row rfl 24 _ _ rfl X2.heap.size A1.toArray rfl rfl 24 ZL.toArray HZA.out (R5.info32a _ HAS.out) (HZS.out.trans HAS.out.symm) HA1.out ?_)
  refine wp_region_held_drew (S := RS ((X2.heap.size, A1.toArray, 24) :: RW)) (by kernel_rfl) HRD.out (fun hHeld => ?_)
  clear HZA HRD HTX HA1 HAS
  generalize ((X2.alloc (.cells ZL.toArray 24 (0, 0))).setRow X2.heap.size A1.toArray).drew = X at *
  generalize X2.heap.size = db at *
  have HAI : Hid _ := R5.info32 A1 HT1.out.len
  refine wpAnyH_take (i := 0) (oi := { dst := some 31, op := Go.Op.load 33 (Go.Operand.tmp 7), type := 33, pos := _, after := #[], guard := none }) rfl (by kernel_rfl) (by kernel_rfl) (by kernel_rfl) (fun _ _ _ h => h) (yieldsIf_load_mid (by rfl) 33 (.tmp 7) rfl (w.heap.size + 1) (0) rfl (RL) _ (fun _ h => RS.at (t := 33) h (by simp [HRW.out])) Tryz.underlying33 rfl HRI.out) hHeld ?_
  try simp only [Act.put, List.setIfInBounds_toArray, List.set_cons_zero, List.set_cons_succ]
  refine wpAnyH_take (i := 2) (oi := { dst := some 33, op := Go.Op.load 33 (Go.Operand.tmp 7), type := 33, pos := _, after := #[], guard := none }) rfl (by kernel_rfl) (by kernel_rfl) (by kernel_rfl) (fun _ _ _ h => h) (yieldsIf_load_mid (by rfl) 33 (.tmp 7) rfl (w.heap.size + 1) (0) rfl (RL) _ (fun _ h => RS.at (t := 33) h (by simp [HRW.out])) Tryz.underlying33 rfl HRI.out) hHeld ?_
  try simp only [Act.put, List.setIfInBounds_toArray, List.set_cons_zero, List.set_cons_succ]
  refine wpAnyH_ready (rs := [1]) (by kernel_rfl) (by simp) ?_
  refine AllReadyH.cons (o := { dst := some 32, op := Go.Op.call { callee := Go.Callee.value (Go.Operand.func 8), args := #[Go.Operand.tmp 31], argTypes := #[33] }, type := 4, pos := _, after := #[{ on := 0, ground := Go.Ground.data }], guard := none }) rfl (fun K hK => ?_) AllReadyH.nil
  rw [if_pos (by rfl)]
  go_wp2_with fail
  refine Calls.mono (HMY.out X) ?_
  rintro e Y ⟨rfl, hbY⟩
  have hTY := HTW.out.step hbY
  have hRY := hTY.rs
  clear hHeld hbY
  refine hK.out _ _ hRY (fun _ => ?_)
  clear hK K
  try simp only [Act.put, List.setIfInBounds_toArray, List.set_cons_zero, List.set_cons_succ]
  have hHeld := hRY
  refine wpAnyH_ready (rs := [3]) (by kernel_rfl) (by simp) ?_
  refine AllReadyH.cons (o := { dst := some 34, op := Go.Op.call { callee := Go.Callee.value (Go.Operand.func 9), args := #[Go.Operand.tmp 33], argTypes := #[33] }, type := 4, pos := _, after := #[{ on := 2, ground := Go.Ground.data }, { on := 1, ground := Go.Ground.chain }], guard := none }) rfl (fun K hK => ?_) AllReadyH.nil
  rw [if_pos (by rfl)]
  go_wp2_with fail
  refine Calls.mono (HRM.out Y) ?_
  rintro e Z ⟨rfl, hbZ⟩
  have HTZ : Hid _ := hTY.step hbZ
  have hRZ := HTZ.out.rs
  clear hHeld hbZ hRY hTY
  refine hK.out _ _ hRZ (fun _ => ?_)
  clear hK K
  try simp only [Act.put, List.setIfInBounds_toArray, List.set_cons_zero, List.set_cons_succ]
  have hHeld := hRZ
  have hbb : (mk != mk) = false := by simp
  refine wpAnyH_take (i := 4) (oi := { dst := some 35, op := Go.Op.binOp Go.BinOp.neq 4 (Go.Operand.tmp 32) (Go.Operand.tmp 34) 4, type := 4, pos := _, after := #[{ on := 1, ground := Go.Ground.data }, { on := 3, ground := Go.Ground.data }], guard := none }) (v := .bool false) rfl (by kernel_rfl) (by kernel_rfl) (by kernel_rfl) (fun _ _ _ h => h) (Or.inl ⟨by rfl, fun w' hw' => ?_⟩) hHeld ?_
  · first | (go_simp; done) | (go_simp; rfl)
  try simp only [Act.put, List.setIfInBounds_toArray, List.set_cons_zero, List.set_cons_succ]
  refine wpAnyH_done (by kernel_rfl) ?_ _
  clear hHeld hRZ HTW hbb
  have HTW : Hid (TW w og mb rg i m D L1 [] ((db, A1.toArray, 24) :: RW) Z) := HTZ.out
  clear HTZ
  have HLR : Hid (Z.rangeAt (w.heap.size + 1) 0 RL) := RS.at (t := 33) HTW.out.rs (by simp [HRW.out])
  go_wp2_with (refine R5.load_mid_g (by rfl) 33 _ rfl (w.heap.size + 1) 0 rfl RL _ HLR.out Tryz.underlying33 rfl HRI.out ?_)
  refine Calls.mono (HRM.out Z) ?_
  rintro e V ⟨rfl, hbV⟩
  have HTV : Hid (TW w og mb rg i m D L1 [] ((db, A1.toArray, 24) :: RW) V) := HTW.out.step hbV
  clear HTW HLR hbV
  have HTW : Hid _ := HTV.out
  clear HTV
  have hcK : V.cell? ⟨w.heap.size + 1, 0, none⟩ = some (.int .i64 kd) := HC0.out V _ (RS.at (t := 33) HTW.out.rs (by simp [HRW.out]))
  have HLA : Hid (V.rangeAt db 0 A1) := RS.at (t := 24) HTW.out.rs (by simp)
  by_cases hok : (mk && !kb) = true
  · obtain ⟨rfl, rfl⟩ : mk = true ∧ kb = false := by revert hok; cases mk <;> cases kb <;> simp
    have he := HT1.out.y rfl
    subst he
    have HTD : Hid (TW w og mb rg i m D L1 [] ((db, A1.toArray, 24) :: RW) V.drew) := HTW.out.step (Below.refl _ _).drew
    clear HTW hok
    have HRD : Hid (RS ((db, A1.toArray, 24) :: RW) V.drew) := HTD.out.rs
    go_wp2
    refine wp_region_held_drew (S := RS ((db, A1.toArray, 24) :: RW)) (by kernel_rfl) HRD.out (fun hHeld => ?_)
    clear HRD hcK HLA
    generalize V.drew = F at *
    refine wpAnyH_take (i := 0) (oi := { dst := some 61, op := Go.Op.load 24 (Go.Operand.tmp 11), type := 24, pos := _, after := #[], guard := none }) rfl (by kernel_rfl) (by kernel_rfl) (by kernel_rfl) (fun _ _ _ h => h) (yieldsIf_load_mid (by rfl) 24 (.tmp 11) rfl (db) (0) rfl (A1) _ (fun _ h => RS.at (t := 24) h (by simp)) Tryz.underlying24 rfl HAI.out) hHeld ?_
    try simp only [Act.put, List.setIfInBounds_toArray, List.set_cons_zero, List.set_cons_succ]
    refine wpAnyH_take (i := 1) (oi := { dst := some 62, op := Go.Op.move (Go.Operand.tmp 10), type := 36, pos := _, after := #[], guard := none }) (v := .pointer (some ⟨rg, 0, none⟩)) rfl (by kernel_rfl) (by kernel_rfl) (by kernel_rfl) (fun _ _ _ h => h) (Or.inl ⟨by rfl, fun w' hw' => ?_⟩) hHeld ?_
    · first | (go_simp; done) | (go_simp; rfl)
    try simp only [Act.put, List.setIfInBounds_toArray, List.set_cons_zero, List.set_cons_succ]
    refine wpAnyH_take (i := 2) (oi := { dst := some 63, op := Go.Op.load 24 (Go.Operand.tmp 6), type := 24, pos := _, after := #[], guard := none }) rfl (by kernel_rfl) (by kernel_rfl) (by kernel_rfl) (fun _ _ _ h => h) (yieldsIf_load_mid (by rfl) 24 (.tmp 6) rfl (w.heap.size) (0) rfl (ML) _ (fun _ h => RS.at (t := 24) h (by simp [HRW.out])) Tryz.underlying24 rfl HMI.out) hHeld ?_
    try simp only [Act.put, List.setIfInBounds_toArray, List.set_cons_zero, List.set_cons_succ]
    refine wpAnyH_take (i := 3) (oi := { dst := some 64, op := Go.Op.load 33 (Go.Operand.tmp 7), type := 33, pos := _, after := #[], guard := none }) rfl (by kernel_rfl) (by kernel_rfl) (by kernel_rfl) (fun _ _ _ h => h) (yieldsIf_load_mid (by rfl) 33 (.tmp 7) rfl (w.heap.size + 1) (0) rfl (RL) _ (fun _ h => RS.at (t := 33) h (by simp [HRW.out])) Tryz.underlying33 rfl HRI.out) hHeld ?_
    try simp only [Act.put, List.setIfInBounds_toArray, List.set_cons_zero, List.set_cons_succ]
    refine wpAnyH_ready (rs := [4]) (by kernel_rfl) (by simp) ?_
    refine AllReadyH.cons (o := { dst := some 65, op := Go.Op.call { callee := Go.Callee.value (Go.Operand.func 12), args := #[Go.Operand.tmp 62, Go.Operand.tmp 63, Go.Operand.tmp 64], argTypes := #[36, 24, 33] }, type := 24, pos := _, after := #[{ on := 1, ground := Go.Ground.data }, { on := 2, ground := Go.Ground.data }, { on := 3, ground := Go.Ground.data }], guard := none }) rfl (fun K hK => ?_) AllReadyH.nil
    rw [if_pos (by rfl)]
    go_wp2_with fail
    refine Calls.mono (HT1.out.r rfl og mb rg _ F HTD.out) ?_
    rintro e G ⟨rfl, hT⟩
    have HTG : Hid _ := hT
    have hRG := hT.rs
    obtain ⟨lv, hcl, hlr⟩ := hT.rlog
    obtain ⟨pl, cl, rfl, _⟩ := id hlr
    have HLR : Hid (R5.HLr G (.slice pl L1.length cl) L1) := hlr
    clear hHeld hT hlr HTD
    refine hK.out _ _ hRG (fun _ => ?_)
    clear hK K
    try simp only [Act.put, List.setIfInBounds_toArray, List.set_cons_zero, List.set_cons_succ]
    have hHeld := hRG
    have heq := HT1.out.eq
    refine wpAnyH_take (i := 5) (oi := { dst := some 66, op := Go.Op.binOp Go.BinOp.eql 24 (Go.Operand.tmp 61) (Go.Operand.tmp 65) 24, type := 4, pos := _, after := #[{ on := 0, ground := Go.Ground.data }, { on := 4, ground := Go.Ground.data }], guard := none }) (v := .bool true) rfl (by kernel_rfl) (by kernel_rfl) (by kernel_rfl) (fun _ _ _ h => h) (Or.inl ⟨by rfl, fun w' hw' => ?_⟩) hHeld ?_
    · first | (go_simp; done) | (go_simp; rfl)
    try simp only [Act.put, List.setIfInBounds_toArray, List.set_cons_zero, List.set_cons_succ]
    refine wpAnyH_take (i := 6) (oi := { dst := some 67, op := Go.Op.move (Go.Operand.tmp 66), type := 4, pos := _, after := #[{ on := 5, ground := Go.Ground.data }, { on := 4, ground := Go.Ground.chain }], guard := none }) (v := .bool true) rfl (by kernel_rfl) (by kernel_rfl) (by kernel_rfl) (fun _ _ _ h => h) (Or.inl ⟨by rfl, fun w' hw' => ?_⟩) hHeld ?_
    · first | (go_simp; done) | (go_simp; rfl)
    try simp only [Act.put, List.setIfInBounds_toArray, List.set_cons_zero, List.set_cons_succ]
    refine wpAnyH_take (i := 7) (oi := { dst := some 68, op := Go.Op.move (Go.Operand.tmp 12), type := 39, pos := _, after := #[{ on := 6, ground := Go.Ground.guard }], guard := some (6, true) }) (v := .int .i64 0) rfl (by kernel_rfl) (by kernel_rfl) (by kernel_rfl) (fun _ _ _ h => h) (Or.inl ⟨by rfl, fun w' hw' => ?_⟩) hHeld ?_
    · first | (go_simp; done) | (go_simp; rfl)
    try simp only [Act.put, List.setIfInBounds_toArray, List.set_cons_zero, List.set_cons_succ]
    refine wpAnyH_ready (rs := [8]) (by kernel_rfl) (by simp) ?_
    refine AllReadyH.cons (o := { dst := some 69, op := Go.Op.call { callee := Go.Callee.value (Go.Operand.func 10), args := #[Go.Operand.tmp 68], argTypes := #[39] }, type := 3, pos := _, after := #[{ on := 7, ground := Go.Ground.data }, { on := 6, ground := Go.Ground.chain }, { on := 6, ground := Go.Ground.guard }], guard := some (6, true) }) rfl (fun K hK => ?_) AllReadyH.nil
    rw [if_pos (by rfl)]
    go_wp2_with fail
    refine Calls.mono (num_any 0 G) ?_
    rintro e w' ⟨rfl, rfl⟩
    refine hK.out _ _ hHeld (fun _ => ?_)
    clear hK K
    try simp only [Act.put, List.setIfInBounds_toArray, List.set_cons_zero, List.set_cons_succ]
    refine wpAnyH_take (i := 9) (oi := { dst := some 70, op := Go.Op.binOp Go.BinOp.eql 3 (Go.Operand.tmp 69) (Go.Operand.const (Go.Value.int Go.IntKind.i64 0)) 3, type := 4, pos := _, after := #[{ on := 8, ground := Go.Ground.data }, { on := 6, ground := Go.Ground.guard }], guard := some (6, true) }) (v := .bool true) rfl (by kernel_rfl) (by kernel_rfl) (by kernel_rfl) (fun _ _ _ h => h) (Or.inl ⟨by rfl, fun w' hw' => ?_⟩) hHeld ?_
    · first | (go_simp; done) | (go_simp; rfl)
    try simp only [Act.put, List.setIfInBounds_toArray, List.set_cons_zero, List.set_cons_succ]
    refine wpAnyH_take (i := 10) (oi := { dst := some 71, op := Go.Op.pick (Go.Operand.tmp 67) (Go.Operand.tmp 70) (Go.Operand.const (Go.Value.bool false)), type := 4, pos := _, after := #[{ on := 6, ground := Go.Ground.data }, { on := 9, ground := Go.Ground.data }], guard := none }) (v := .bool true) rfl (by kernel_rfl) (by kernel_rfl) (by kernel_rfl) (fun _ _ _ h => h) (Or.inl ⟨by rfl, fun w' hw' => ?_⟩) hHeld ?_
    · first | (go_simp; done) | (go_simp; rfl)
    try simp only [Act.put, List.setIfInBounds_toArray, List.set_cons_zero, List.set_cons_succ]
    refine wpAnyH_take (i := 11) (oi := { dst := some 72, op := Go.Op.move (Go.Operand.tmp 71), type := 4, pos := _, after := #[{ on := 10, ground := Go.Ground.data }, { on := 8, ground := Go.Ground.chain }], guard := none }) (v := .bool true) rfl (by kernel_rfl) (by kernel_rfl) (by kernel_rfl) (fun _ _ _ h => h) (Or.inl ⟨by rfl, fun w' hw' => ?_⟩) hHeld ?_
    · first | (go_simp; done) | (go_simp; rfl)
    try simp only [Act.put, List.setIfInBounds_toArray, List.set_cons_zero, List.set_cons_succ]
    refine wpAnyH_take (i := 12) (oi := { dst := some 73, op := Go.Op.move (Go.Operand.tmp 9), type := 35, pos := _, after := #[{ on := 11, ground := Go.Ground.guard }], guard := some (11, true) }) (v := .pointer (some ⟨og, 0, none⟩)) rfl (by kernel_rfl) (by kernel_rfl) (by kernel_rfl) (fun _ _ _ h => h) (Or.inl ⟨by rfl, fun w' hw' => ?_⟩) hHeld ?_
    · first | (go_simp; done) | (go_simp; rfl)
    try simp only [Act.put, List.setIfInBounds_toArray, List.set_cons_zero, List.set_cons_succ]
    refine wpAnyH_take (i := 14) (oi := { dst := some 75, op := Go.Op.move (Go.Operand.tmp 10), type := 36, pos := _, after := #[{ on := 11, ground := Go.Ground.guard }], guard := some (11, true) }) (v := .pointer (some ⟨rg, 0, none⟩)) rfl (by kernel_rfl) (by kernel_rfl) (by kernel_rfl) (fun _ _ _ h => h) (Or.inl ⟨by rfl, fun w' hw' => ?_⟩) hHeld ?_
    · first | (go_simp; done) | (go_simp; rfl)
    try simp only [Act.put, List.setIfInBounds_toArray, List.set_cons_zero, List.set_cons_succ]
    refine wpAnyH_take (i := 15) (oi := { dst := some 76, op := Go.Op.nilCheck (Go.Operand.tmp 75), type := 0, pos := _, after := #[{ on := 14, ground := Go.Ground.data }, { on := 11, ground := Go.Ground.guard }], guard := some (11, true) }) (v := .pointer (some ⟨rg, 0, none⟩)) rfl (by kernel_rfl) (by kernel_rfl) (by kernel_rfl) (fun _ _ _ h => h) (Or.inl ⟨by rfl, fun w' hw' => ?_⟩) hHeld ?_
    · first | (go_simp; done) | (go_simp; rfl)
    try simp only [Act.put, List.setIfInBounds_toArray, List.set_cons_zero, List.set_cons_succ]
    refine wpAnyH_take (i := 16) (oi := { dst := some 77, op := Go.Op.fieldAddr 49 (Go.Operand.tmp 76) 4, type := 0, pos := _, after := #[{ on := 15, ground := Go.Ground.data }, { on := 11, ground := Go.Ground.guard }], guard := some (11, true) }) (v := .pointer (some ⟨rg, 35, none⟩)) rfl (by kernel_rfl) (by kernel_rfl) (by kernel_rfl) (fun _ _ _ h => h) (Or.inl ⟨by rfl, fun w' hw' => ?_⟩) hHeld ?_
    · first | (go_simp; done) | (go_simp; rfl)
    try simp only [Act.put, List.setIfInBounds_toArray, List.set_cons_zero, List.set_cons_succ]
    refine wpAnyH_ready (rs := [13, 17]) (by kernel_rfl) (by simp) ?_
    refine AllReadyH.cons (o := { dst := some 74, op := Go.Op.call { callee := Go.Callee.value (Go.Operand.func 11), args := #[Go.Operand.tmp 73], argTypes := #[35] }, type := 44, pos := _, after := #[{ on := 12, ground := Go.Ground.data }, { on := 11, ground := Go.Ground.chain }, { on := 11, ground := Go.Ground.guard }], guard := some (11, true) }) rfl (fun K hK => ?_) (AllReadyH.cons (o := { dst := some 78, op := Go.Op.load 44 (Go.Operand.tmp 77), type := 44, pos := _, after := #[{ on := 16, ground := Go.Ground.data }, { on := 11, ground := Go.Ground.guard }], guard := some (11, true) }) rfl (fun K hK => ?_) AllReadyH.nil)
    all_goals rw [if_pos (by rfl)]
    · go_wp2_with fail
      refine Calls.mono (HTG.out.log HN1.out) ?_
      rintro e F1 ⟨vl, rfl, hv1, hbF⟩
      have HTF : Hid _ := HTG.out.step hbF
      have hRF := HTF.out.rs
      have hcl1 : F1.cell? ⟨rg, 35, none⟩ = some (.slice pl L1.length cl) := (hbF.cell (block_lt hcl)).trans hcl
      have HSL : Hid (Calls Tryz.prog 13 #[vl, .slice pl L1.length cl] F1 fun e w' => e = .returned (.bool true) ∧ Below F1.heap.size F1 w') := slog_same vl _ L1 F1 HN1.out hv1 (R5.hlr_below HLR.out hbF)
      clear hv1 hbF hHeld
      refine hK.out _ _ hRF (fun _ => ?_)
      clear hK K
      try simp only [Act.put, List.setIfInBounds_toArray, List.set_cons_zero, List.set_cons_succ]
      have hHeld := hRF
      refine wpAnyH_ready (rs := [17]) (by kernel_rfl) (by simp) ?_
      refine AllReadyH.cons (o := { dst := some 78, op := Go.Op.load 44 (Go.Operand.tmp 77), type := 44, pos := _, after := #[{ on := 16, ground := Go.Ground.data }, { on := 11, ground := Go.Ground.guard }], guard := some (11, true) }) rfl (fun K hK => ?_) AllReadyH.nil
      rw [if_pos (by rfl)]
      go_wp2_with fail
      refine hK.out _ _ hHeld (fun _ => ?_)
      clear hK K
      try simp only [Act.put, List.setIfInBounds_toArray, List.set_cons_zero, List.set_cons_succ]
      refine wpAnyH_ready (rs := [18]) (by kernel_rfl) (by simp) ?_
      refine AllReadyH.cons (o := { dst := some 79, op := Go.Op.call { callee := Go.Callee.value (Go.Operand.func 13), args := #[Go.Operand.tmp 74, Go.Operand.tmp 78], argTypes := #[44, 44] }, type := 4, pos := _, after := #[{ on := 13, ground := Go.Ground.data }, { on := 17, ground := Go.Ground.data }, { on := 13, ground := Go.Ground.chain }, { on := 11, ground := Go.Ground.guard }], guard := some (11, true) }) rfl (fun K hK => ?_) AllReadyH.nil
      rw [if_pos (by rfl)]
      go_wp2_with fail
      refine Calls.mono HSL.out ?_
      rintro e F2 ⟨rfl, hbG⟩
      have HT2 : Hid _ := HTF.out.step hbG
      have hR2 := HT2.out.rs
      clear hbG HSL hHeld
      refine hK.out _ _ hR2 (fun _ => ?_)
      clear hK K
      try simp only [Act.put, List.setIfInBounds_toArray, List.set_cons_zero, List.set_cons_succ]
      have hHeld := hR2
      refine wpAnyH_take (i := 19) (oi := { dst := some 80, op := Go.Op.pick (Go.Operand.tmp 72) (Go.Operand.tmp 79) (Go.Operand.const (Go.Value.bool false)), type := 4, pos := _, after := #[{ on := 11, ground := Go.Ground.data }, { on := 18, ground := Go.Ground.data }], guard := none }) (v := .bool true) rfl (by kernel_rfl) (by kernel_rfl) (by kernel_rfl) (fun _ _ _ h => h) (Or.inl ⟨by rfl, fun w' hw' => ?_⟩) hHeld ?_
      · first | (go_simp; done) | (go_simp; rfl)
      try simp only [Act.put, List.setIfInBounds_toArray, List.set_cons_zero, List.set_cons_succ]
      refine wpAnyH_take (i := 20) (oi := { dst := some 81, op := Go.Op.move (Go.Operand.tmp 80), type := 4, pos := _, after := #[{ on := 19, ground := Go.Ground.data }, { on := 18, ground := Go.Ground.chain }], guard := none }) (v := .bool true) rfl (by kernel_rfl) (by kernel_rfl) (by kernel_rfl) (fun _ _ _ h => h) (Or.inl ⟨by rfl, fun w' hw' => ?_⟩) hHeld ?_
      · first | (go_simp; done) | (go_simp; rfl)
      try simp only [Act.put, List.setIfInBounds_toArray, List.set_cons_zero, List.set_cons_succ]
      refine wpAnyH_ready (rs := [21]) (by kernel_rfl) (by simp) ?_
      refine AllReadyH.cons (o := { dst := some 82, op := Go.Op.call { callee := Go.Callee.value (Go.Operand.func 5), args := #[], argTypes := #[] }, type := 4, pos := _, after := #[{ on := 20, ground := Go.Ground.chain }, { on := 20, ground := Go.Ground.guard }], guard := some (20, true) }) rfl (fun K hK => ?_) AllReadyH.nil
      rw [if_pos (by rfl)]
      go_wp2_with fail
      refine Calls.mono (HKN.out F2) ?_
      rintro e F3 ⟨rfl, hbK⟩
      have HT3 : Hid _ := HT2.out.step hbK
      have hR3 := HT3.out.rs
      clear hbK hHeld
      refine hK.out _ _ hR3 (fun _ => ?_)
      clear hK K
      try simp only [Act.put, List.setIfInBounds_toArray, List.set_cons_zero, List.set_cons_succ]
      have hHeld := hR3
      refine wpAnyH_take (i := 22) (oi := { dst := some 83, op := Go.Op.pick (Go.Operand.tmp 81) (Go.Operand.tmp 82) (Go.Operand.const (Go.Value.bool false)), type := 4, pos := _, after := #[{ on := 20, ground := Go.Ground.data }, { on := 21, ground := Go.Ground.data }], guard := none }) (v := .bool true) rfl (by kernel_rfl) (by kernel_rfl) (by kernel_rfl) (fun _ _ _ h => h) (Or.inl ⟨by rfl, fun w' hw' => ?_⟩) hHeld ?_
      · first | (go_simp; done) | (go_simp; rfl)
      try simp only [Act.put, List.setIfInBounds_toArray, List.set_cons_zero, List.set_cons_succ]
      refine wpAnyH_take (i := 23) (oi := { dst := some 8, op := Go.Op.assign (Go.Operand.tmp 83), type := 4, pos := _, after := #[{ on := 22, ground := Go.Ground.data }, { on := 21, ground := Go.Ground.chain }, { on := 0, ground := Go.Ground.phase }, { on := 1, ground := Go.Ground.phase }, { on := 2, ground := Go.Ground.phase }, { on := 3, ground := Go.Ground.phase }, { on := 4, ground := Go.Ground.phase }, { on := 5, ground := Go.Ground.phase }, { on := 6, ground := Go.Ground.phase }, { on := 7, ground := Go.Ground.phase }, { on := 8, ground := Go.Ground.phase }, { on := 9, ground := Go.Ground.phase }, { on := 10, ground := Go.Ground.phase }, { on := 11, ground := Go.Ground.phase }, { on := 12, ground := Go.Ground.phase }, { on := 13, ground := Go.Ground.phase }, { on := 14, ground := Go.Ground.phase }, { on := 15, ground := Go.Ground.phase }, { on := 16, ground := Go.Ground.phase }, { on := 17, ground := Go.Ground.phase }, { on := 18, ground := Go.Ground.phase }, { on := 19, ground := Go.Ground.phase }, { on := 20, ground := Go.Ground.phase }, { on := 21, ground := Go.Ground.phase }, { on := 22, ground := Go.Ground.phase }], guard := none }) (v := .bool true) rfl (by kernel_rfl) (by kernel_rfl) (by kernel_rfl) (fun _ _ _ h => h) (Or.inl ⟨by rfl, fun w' hw' => ?_⟩) hHeld ?_
      · first | (go_simp; done) | (go_simp; rfl)
      try simp only [Act.put, List.setIfInBounds_toArray, List.set_cons_zero, List.set_cons_succ]
      refine wpAnyH_done (by kernel_rfl) ?_ _
      have HB3 : Hid (Below w.heap.size w F3) := HT3.out.bel
      clear hHeld hR3 hR2
      go_wp2
      go_ret
      exact ⟨rfl, HB3.out⟩
    · go_wp2_with fail
      refine hK.out _ _ hHeld (fun _ => ?_)
      clear hK K
      try simp only [Act.put, List.setIfInBounds_toArray, List.set_cons_zero, List.set_cons_succ]
      refine wpAnyH_ready (rs := [13]) (by kernel_rfl) (by simp) ?_
      refine AllReadyH.cons (o := { dst := some 74, op := Go.Op.call { callee := Go.Callee.value (Go.Operand.func 11), args := #[Go.Operand.tmp 73], argTypes := #[35] }, type := 44, pos := _, after := #[{ on := 12, ground := Go.Ground.data }, { on := 11, ground := Go.Ground.chain }, { on := 11, ground := Go.Ground.guard }], guard := some (11, true) }) rfl (fun K hK => ?_) AllReadyH.nil
      rw [if_pos (by rfl)]
      go_wp2_with fail
      refine Calls.mono (HTG.out.log HN1.out) ?_
      rintro e F1 ⟨vl, rfl, hv1, hbF⟩
      have HTF : Hid _ := HTG.out.step hbF
      have hRF := HTF.out.rs
      have hcl1 : F1.cell? ⟨rg, 35, none⟩ = some (.slice pl L1.length cl) := (hbF.cell (block_lt hcl)).trans hcl
      have HSL : Hid (Calls Tryz.prog 13 #[vl, .slice pl L1.length cl] F1 fun e w' => e = .returned (.bool true) ∧ Below F1.heap.size F1 w') := slog_same vl _ L1 F1 HN1.out hv1 (R5.hlr_below HLR.out hbF)
      clear hv1 hbF hHeld
      refine hK.out _ _ hRF (fun _ => ?_)
      clear hK K
      try simp only [Act.put, List.setIfInBounds_toArray, List.set_cons_zero, List.set_cons_succ]
      have hHeld := hRF
      refine wpAnyH_ready (rs := [18]) (by kernel_rfl) (by simp) ?_
      refine AllReadyH.cons (o := { dst := some 79, op := Go.Op.call { callee := Go.Callee.value (Go.Operand.func 13), args := #[Go.Operand.tmp 74, Go.Operand.tmp 78], argTypes := #[44, 44] }, type := 4, pos := _, after := #[{ on := 13, ground := Go.Ground.data }, { on := 17, ground := Go.Ground.data }, { on := 13, ground := Go.Ground.chain }, { on := 11, ground := Go.Ground.guard }], guard := some (11, true) }) rfl (fun K hK => ?_) AllReadyH.nil
      rw [if_pos (by rfl)]
      go_wp2_with fail
      refine Calls.mono HSL.out ?_
      rintro e F2 ⟨rfl, hbG⟩
      have HT2 : Hid _ := HTF.out.step hbG
      have hR2 := HT2.out.rs
      clear hbG HSL hHeld
      refine hK.out _ _ hR2 (fun _ => ?_)
      clear hK K
      try simp only [Act.put, List.setIfInBounds_toArray, List.set_cons_zero, List.set_cons_succ]
      have hHeld := hR2
      refine wpAnyH_take (i := 19) (oi := { dst := some 80, op := Go.Op.pick (Go.Operand.tmp 72) (Go.Operand.tmp 79) (Go.Operand.const (Go.Value.bool false)), type := 4, pos := _, after := #[{ on := 11, ground := Go.Ground.data }, { on := 18, ground := Go.Ground.data }], guard := none }) (v := .bool true) rfl (by kernel_rfl) (by kernel_rfl) (by kernel_rfl) (fun _ _ _ h => h) (Or.inl ⟨by rfl, fun w' hw' => ?_⟩) hHeld ?_
      · first | (go_simp; done) | (go_simp; rfl)
      try simp only [Act.put, List.setIfInBounds_toArray, List.set_cons_zero, List.set_cons_succ]
      refine wpAnyH_take (i := 20) (oi := { dst := some 81, op := Go.Op.move (Go.Operand.tmp 80), type := 4, pos := _, after := #[{ on := 19, ground := Go.Ground.data }, { on := 18, ground := Go.Ground.chain }], guard := none }) (v := .bool true) rfl (by kernel_rfl) (by kernel_rfl) (by kernel_rfl) (fun _ _ _ h => h) (Or.inl ⟨by rfl, fun w' hw' => ?_⟩) hHeld ?_
      · first | (go_simp; done) | (go_simp; rfl)
      try simp only [Act.put, List.setIfInBounds_toArray, List.set_cons_zero, List.set_cons_succ]
      refine wpAnyH_ready (rs := [21]) (by kernel_rfl) (by simp) ?_
      refine AllReadyH.cons (o := { dst := some 82, op := Go.Op.call { callee := Go.Callee.value (Go.Operand.func 5), args := #[], argTypes := #[] }, type := 4, pos := _, after := #[{ on := 20, ground := Go.Ground.chain }, { on := 20, ground := Go.Ground.guard }], guard := some (20, true) }) rfl (fun K hK => ?_) AllReadyH.nil
      rw [if_pos (by rfl)]
      go_wp2_with fail
      refine Calls.mono (HKN.out F2) ?_
      rintro e F3 ⟨rfl, hbK⟩
      have HT3 : Hid _ := HT2.out.step hbK
      have hR3 := HT3.out.rs
      clear hbK hHeld
      refine hK.out _ _ hR3 (fun _ => ?_)
      clear hK K
      try simp only [Act.put, List.setIfInBounds_toArray, List.set_cons_zero, List.set_cons_succ]
      have hHeld := hR3
      refine wpAnyH_take (i := 22) (oi := { dst := some 83, op := Go.Op.pick (Go.Operand.tmp 81) (Go.Operand.tmp 82) (Go.Operand.const (Go.Value.bool false)), type := 4, pos := _, after := #[{ on := 20, ground := Go.Ground.data }, { on := 21, ground := Go.Ground.data }], guard := none }) (v := .bool true) rfl (by kernel_rfl) (by kernel_rfl) (by kernel_rfl) (fun _ _ _ h => h) (Or.inl ⟨by rfl, fun w' hw' => ?_⟩) hHeld ?_
      · first | (go_simp; done) | (go_simp; rfl)
      try simp only [Act.put, List.setIfInBounds_toArray, List.set_cons_zero, List.set_cons_succ]
      refine wpAnyH_take (i := 23) (oi := { dst := some 8, op := Go.Op.assign (Go.Operand.tmp 83), type := 4, pos := _, after := #[{ on := 22, ground := Go.Ground.data }, { on := 21, ground := Go.Ground.chain }, { on := 0, ground := Go.Ground.phase }, { on := 1, ground := Go.Ground.phase }, { on := 2, ground := Go.Ground.phase }, { on := 3, ground := Go.Ground.phase }, { on := 4, ground := Go.Ground.phase }, { on := 5, ground := Go.Ground.phase }, { on := 6, ground := Go.Ground.phase }, { on := 7, ground := Go.Ground.phase }, { on := 8, ground := Go.Ground.phase }, { on := 9, ground := Go.Ground.phase }, { on := 10, ground := Go.Ground.phase }, { on := 11, ground := Go.Ground.phase }, { on := 12, ground := Go.Ground.phase }, { on := 13, ground := Go.Ground.phase }, { on := 14, ground := Go.Ground.phase }, { on := 15, ground := Go.Ground.phase }, { on := 16, ground := Go.Ground.phase }, { on := 17, ground := Go.Ground.phase }, { on := 18, ground := Go.Ground.phase }, { on := 19, ground := Go.Ground.phase }, { on := 20, ground := Go.Ground.phase }, { on := 21, ground := Go.Ground.phase }, { on := 22, ground := Go.Ground.phase }], guard := none }) (v := .bool true) rfl (by kernel_rfl) (by kernel_rfl) (by kernel_rfl) (fun _ _ _ h => h) (Or.inl ⟨by rfl, fun w' hw' => ?_⟩) hHeld ?_
      · first | (go_simp; done) | (go_simp; rfl)
      try simp only [Act.put, List.setIfInBounds_toArray, List.set_cons_zero, List.set_cons_succ]
      refine wpAnyH_done (by kernel_rfl) ?_ _
      have HB3 : Hid (Below w.heap.size w F3) := HT3.out.bel
      clear hHeld hR3 hR2
      go_wp2
      go_ret
      exact ⟨rfl, HB3.out⟩
  · have hok' : (mk && !kb) = false := by simpa using hok
    obtain ⟨he, hA, hL⟩ := HT1.out.n hok'
    have heq : ∀ W, (binOp .eql 24 (.agg A1.toArray) (.agg ZL.toArray)).run Tryz.prog W = .ok (.bool true) W := fun W => by
      have h := HT1.out.eq W
      rw [hA] at h ⊢
      exact h
    have HLOG : Hid (Calls Tryz.prog 11 #[.pointer (some ⟨og, 0, none⟩)] V fun e Y => ∃ p cap, e = .returned (.slice p 0 cap) ∧ Below V.heap.size V Y) := by
      refine (HTW.out.log HN1.out).mono ?_
      rintro e Y ⟨v, rfl, hlr, hb⟩
      rw [hL] at hlr
      obtain ⟨p, cap, rfl, _⟩ := hlr
      exact ⟨p, cap, rfl, hb⟩
    subst he
    clear hA hL hok
    cases mk with
    | false =>
      clear hok' hcK
      go_wp2_with (first
        | (refine R5.load_mid_g (by rfl) 24 _ rfl db 0 rfl A1 _ HLA.out Tryz.underlying24 rfl HAI.out ?_)
        | (refine build_g (by rfl) 24 _ rfl #[] (.agg ZL.toArray) (by simp) (HBD.out _) ?_)
        | (go_at_call 10; fail))
      refine Calls.mono (num_any 2 V) ?_
      rintro e w' ⟨rfl, rfl⟩
      go_wp2_with fail
      refine Calls.mono HLOG.out ?_
      rintro e F1 ⟨p, cap, rfl, hbF⟩
      have HB1 : Hid (Below w.heap.size w F1) := HTW.out.bel.trans (hbF.mono HTW.out.bel.size)
      clear hbF
      go_wp2_with fail
      refine Calls.mono (HKN.out F1) ?_
      rintro e F2 ⟨rfl, hbK⟩
      have HB2 : Hid (Below w.heap.size w F2) := HB1.out.trans (hbK.mono HB1.out.size)
      clear hbK
      go_wp2
      go_ret
      exact ⟨rfl, HB2.out⟩
    | true =>
      obtain rfl : kb = true := by revert hok'; cases kb <;> simp
      clear hok'
      go_wp2_with (first
        | (refine R5.load_mid_g (by rfl) 24 _ rfl db 0 rfl A1 _ HLA.out Tryz.underlying24 rfl HAI.out ?_)
        | (refine build_g (by rfl) 24 _ rfl #[] (.agg ZL.toArray) (by simp) (HBD.out _) ?_)
        | (go_at_call 10; fail))
      refine Calls.mono (num_any 2 V) ?_
      rintro e w' ⟨rfl, rfl⟩
      go_wp2_with fail
      refine Calls.mono HLOG.out ?_
      rintro e F1 ⟨p, cap, rfl, hbF⟩
      have HB1 : Hid (Below w.heap.size w F1) := HTW.out.bel.trans (hbF.mono HTW.out.bel.size)
      clear hbF
      go_wp2_with fail
      refine Calls.mono (HKN.out F1) ?_
      rintro e F2 ⟨rfl, hbK⟩
      have HB2 : Hid (Below w.heap.size w F2) := HB1.out.trans (hbK.mono HB1.out.size)
      clear hbK
      go_wp2
      go_ret
      exact ⟨rfl, HB2.out⟩
end Go.Proofs.YtpmknkagnkagpaaGreat.ZC
