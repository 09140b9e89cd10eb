/- MeasureSteps. -/
import Derived.Test.YtpmknkagnkagpaaYT
set_option linter.unusedVariables false
set_option linter.unusedSimpArgs false
namespace Go.Proofs.Ytpmknkagnkagpaa.ZC
open Go.RowKit

set_option maxHeartbeats 4000000 in
set_option maxRecDepth 100000 in
theorem steps_walk (i : Bool) (a1 : Option Addr) (len1 cap1 : Nat) (D : List (List UInt8)) (m : List UInt8) (pg : Int) (g V : List UInt8) (n pc : Nat) (rs : List Nat) (run : Bool) (w : World) (hD : D.length ≤ 9223372036854775807) (ha : a1 = none → cap1 = 0) (hd : R5.HDs w (.slice a1 len1 cap1) D) (hm : m.length = 32) (hg : g.length = 128) (hV : V.length = 32) (hs : rs.length = 8) (hp : pc < 18446744073709551616) (hx : ∀ x ∈ rs, x < 18446744073709551616) :
    Calls Try.prog 3 #[.bool i, .slice a1 len1 cap1, .agg (m.map B8).toArray, .int .i64 pg, .agg (g.map B8).toArray, .agg (PC.rpL V n).toArray, .agg (PC.rcL pc rs run).toArray] w fun e w' => e = .returned (.bool true) ∧ Below w.heap.size w w' := by
  obtain ⟨hdl, pd, capd, hde, hdr⟩ := id hd
  obtain ⟨rfl, rfl, rfl⟩ : a1 = pd ∧ len1 = D.length ∧ cap1 = capd := by simpa using hde
  have HKN : Hid (∀ W : World, Calls Try.prog 6 #[] W fun e w' => e = .returned (.bool true) ∧ Below W.heap.size W w') := known_any
  clear hde hdr
  obtain ⟨X0, hX0⟩ : ∃ X, X = (((w.alloc (.cells (m.map B8).toArray 24 (0, 0))).alloc (.cells (g.map B8).toArray 26 (0, 0))).alloc (.cells (PC.rpL V n).toArray 29 (0, 0))).alloc (.cells (PC.rcL pc rs run).toArray 32 (0, 0)) := ⟨_, rfl⟩
  obtain ⟨hb0, hr0, hr1, hr2, hr3⟩ := alloc4 w _ _ _ _ _ _ _ _ X0 hX0
  by_cases h60 : 60 < D.length
  · have h60I : (60 : Int) < (D.length : Int) := by omega
    have HB0 : Hid (Below w.heap.size w X0) := hb0
    have HK0 : Hid (Calls Try.prog 6 #[] X0 fun e w' => e = .returned (.bool true) ∧ Below X0.heap.size X0 w') := HKN.out X0
    have HX0 : Hid (X0 = (((w.alloc (.cells (m.map B8).toArray 24 (0, 0))).alloc (.cells (g.map B8).toArray 26 (0, 0))).alloc (.cells (PC.rpL V n).toArray 29 (0, 0))).alloc (.cells (PC.rcL pc rs run).toArray 32 (0, 0))) := hX0
    rw [hX0] at HK0
    clear hdl hb0 hr0 hr1 hr2 hr3 hX0 hd hm hg hV hs hp hx HKN
    generalize (PC.rcL pc rs run).toArray = RA at *
    generalize (PC.rpL V n).toArray = PA at *
    generalize (m.map B8).toArray = MA at *
    generalize (g.map B8).toArray = GA at *
    go_enter Try.func3, Try.ntmps3
    go_wp2_with fail
    refine Calls.mono HK0.out ?_
    rintro e X1 ⟨rfl, hb1⟩
    rw [← HX0.out] at hb1
    have HB1 : Hid (Below w.heap.size w X1) := HB0.out.trans (hb1.mono HB0.out.size)
    clear hb1
    go_wp2
    go_ret
    exact ⟨rfl, HB1.out⟩
  have h60I : ¬ (60 : Int) < (D.length : Int) := by omega
  obtain ⟨RW, hRW⟩ : ∃ R : Rws, R = [(w.heap.size, (m.map B8).toArray, 24), (w.heap.size + 1, (g.map B8).toArray, 26), (w.heap.size + 1 + 1, (PC.rpL V n).toArray, 29), (w.heap.size + 1 + 1 + 1, (PC.rcL pc rs run).toArray, 32)] := ⟨_, rfl⟩
  have HBO : Hid (Calls Try.prog 7 #[.bool i, .agg (m.map B8).toArray, .slice a1 D.length cap1] X0 fun e Y => BoEnd w i m D RW e Y) := both_any w X0 i m a1 D.length cap1 D RW hm ha (by omega) hd hb0 (fun r hr => by rw [hRW] at hr; simp only [List.mem_cons, List.not_mem_nil, or_false] at hr; rcases hr with rfl | rfl | rfl | rfl <;> assumption)
  have HL0 : Hid ((X0).rangeAt w.heap.size 0 (m.map B8)) := PC.rangeAt_row hr0
  have HMI : Hid _ := R5.info32 (m.map B8) (by simpa using hm)
  have HGI : Hid _ := PC.info128 (g.map B8) (by simpa using hg)
  have HPI : Hid _ := PC.info33 (PC.rpL V n) (PC.rpL_len V n hV)
  have HRI : Hid _ := PC.info10 (PC.rcL pc rs run) (PC.rcL_len pc rs run hs)
  have HVI : Hid _ := R5.info32 (V.map B8) (by simpa using hV)
  obtain ⟨ZL, hZL⟩ : ∃ L, L = Z0.map B8 := ⟨_, rfl⟩
  have hZL' : ZL = (List.replicate 32 (0 : UInt8)).map B8 := hZL
  have hz := fun W => R5.zero_dig W
  rw [← hZL'] at hz
  have HZS : Hid (ZL.toArray.size = 32) := by show _ = _; rw [hZL']; simp
  have HBD : Hid (∀ W : World, (Instr.build 24 #[]).run Try.prog W = .ok (.agg ZL.toArray) W) := fun W => by rw [hZL']; exact R5.build_dig W
  obtain ⟨A1, L1, t1, l1, n1⟩ := two_begin (w := w) (i := i) (m := m) hdl (L := []) (fun e he => (List.not_mem_nil he).elim) (by simp) V n hV ZL
  simp only [List.length_nil] at n1
  obtain ⟨A2, e2, L2, t2, l2, n2⟩ := two_data (w := w) (i := i) (m := m) hdl l1 (by omega) m hm pg g hg
  obtain ⟨A3, e3, L3, t3, l3, n3⟩ := two_rec (w := w) (i := i) (m := m) hdl l2 (by omega) m hm pc rs run hs hp hx
  rw [← hZL] at t2 t3
  have HPG : Hid (∀ W, Calls Try.prog 12 #[.int .i64 pg] W fun e w' => e = .returned (.bool (decide (0 ≤ pg ∧ pg < 128))) ∧ w' = W) := fun W => rpage_any pg W
  have HRC : Hid (∀ W, Calls Try.prog 15 #[.agg (PC.rcL pc rs run).toArray] W fun e w' => e = .returned (.bool (PC.mayC pc)) ∧ Below W.heap.size W w') := fun W => PC.rmayC_any pc rs run W
  generalize decide (0 ≤ pg ∧ pg < 128) = pk at *
  generalize PC.mayC pc = rk at *
  have HN3 : Hid (L3.length < 1000000) := by show _ < _; omega
  have HX0 : Hid (X0 = (((w.alloc (.cells (m.map B8).toArray 24 (0, 0))).alloc (.cells (g.map B8).toArray 26 (0, 0))).alloc (.cells (PC.rpL V n).toArray 29 (0, 0))).alloc (.cells (PC.rcL pc rs run).toArray 32 (0, 0))) := hX0
  have HVP : Hid (∀ (W : World) (b : Nat), W.rangeAt b 0 (PC.rpL V n) → W.rangeAt b 0 (V.map B8)) := fun W b h => range_pre h
  have HRW : Hid (RW = [(w.heap.size, (m.map B8).toArray, 24), (w.heap.size + 1, (g.map B8).toArray, 26), (w.heap.size + 1 + 1, (PC.rpL V n).toArray, 29), (w.heap.size + 1 + 1 + 1, (PC.rcL pc rs run).toArray, 32)]) := hRW
  have HT1 : Hid (Two w i m D 8 10 [.agg (PC.rpL V n).toArray] [.agg (V.map B8).toArray] true A1 0 [] L1 ZL) := t1
  have HT2 : Hid (Two w i m D 11 13 [.agg (m.map B8).toArray, .int .i64 pg, .agg (g.map B8).toArray] [.agg (m.map B8).toArray, .int .i64 pg, .agg (g.map B8).toArray] pk A2 e2 L1 L2 ZL) := t2
  have HT3 : Hid (Two w i m D 14 16 [.agg (m.map B8).toArray, .agg (PC.rcL pc rs run).toArray] [.agg (m.map B8).toArray, .agg (PC.rcL pc rs run).toArray] rk A3 e3 L2 L3 ZL) := t3
  rw [hX0] at HBO HL0
  clear hZL hZL' hdl hb0 hr0 hr1 hr2 hr3 hX0 hd hm hg hV hs hp hx hRW t1 t2 t3 l1 l2 l3 n1 n2 n3 ha hD h60
  generalize PC.rcL pc rs run = RL at *
  generalize PC.rpL V n = PL at *
  generalize V.map B8 = VL at *
  generalize m.map B8 = ML at *
  generalize g.map B8 = GL at *
  go_enter Try.func3, Try.ntmps3
  go_wp2_with (first
    | (refine wpList_load_mid rfl 24 _ rfl w.heap.size 0 rfl ML _ HL0.out Try.underlying24 rfl HMI.out ?_)
    | (go_at_call 7; fail))
  refine Calls.mono HBO.out ?_
  rintro e X1 ⟨og, mb, rg, rfl, hT⟩
  have HTW : Hid (TW w og mb rg i m D [] [] RW X1) := hT
  clear hT HBO HL0 HX0
  have HLM : Hid ((X1).rangeAt w.heap.size 0 ML) := RS.at (t := 24) HTW.out.rs (by simp [HRW.out])
  have HLG : Hid ((X1).rangeAt (w.heap.size + 1) 0 GL) := RS.at (t := 26) HTW.out.rs (by simp [HRW.out])
  have HLP : Hid ((X1).rangeAt (w.heap.size + 1 + 1) 0 PL) := RS.at (t := 29) HTW.out.rs (by simp [HRW.out])
  have HLR : Hid ((X1).rangeAt (w.heap.size + 1 + 1 + 1) 0 RL) := RS.at (t := 32) HTW.out.rs (by simp [HRW.out])
  go_wp2_with (first
    | (refine wpList_load_mid rfl 24 _ rfl w.heap.size 0 rfl ML _ HLM.out Try.underlying24 rfl HMI.out ?_)
    | (refine wpList_load_mid rfl 26 _ rfl (w.heap.size + 1) 0 rfl GL _ HLG.out Try.underlying26 rfl HGI.out ?_)
    | (refine wpList_load_mid rfl 29 _ rfl (w.heap.size + 1 + 1) 0 rfl PL _ HLP.out Try.underlying29 rfl HPI.out ?_)
    | (refine wpList_load_mid rfl 32 _ rfl (w.heap.size + 1 + 1 + 1) 0 rfl RL _ HLR.out Try.underlying32 rfl HRI.out ?_)
    | (go_at_call 8; fail))
  refine Calls.mono (HT1.out.p og mb rg _ X1 HTW.out) ?_
  rintro e X2 ⟨rfl, hT⟩
  have HTX : Hid (TW w og mb rg i m D L1 [] (RW) X2) := hT
  clear hT HTW HLM HLG HLP HLR
  have HTW : Hid (TW w og mb rg i m D L1 [] ((X2.heap.size, A1.toArray, 24) :: RW) ((X2.alloc (.cells ZL.toArray 24 (0, 0))).setRow X2.heap.size A1.toArray)) := HTX.out.newrow _ _ _
  have HZA : Hid ((X2.alloc (.cells ZL.toArray 24 (0, 0))).heap[X2.heap.size]? = some (.cells ZL.toArray 24 (0, 0))) := heap_alloc_new _ _
  have HAS : Hid (A1.toArray.size = 32) := by show _ = _; simpa using HT1.out.len
  have HA1 : Hid _ := HT1.out.one
  have HRD : Hid (RS ((X2.heap.size, A1.toArray, 24) :: RW) ((X2.alloc (.cells ZL.toArray 24 (0, 0))).setRow X2.heap.size A1.toArray).drew) := HTW.out.rs
  have HTD : Hid (TW w og mb rg i m D L1 [] ((X2.heap.size, A1.toArray, 24) :: RW) ((X2.alloc (.cells ZL.toArray 24 (0, 0))).setRow X2.heap.size A1.toArray).drew) := HTW.out.step (Below.refl _ _).drew
  clear HTX
  go_wp2_with (first
    | (refine wpList_store_row rfl 24 _ _ rfl X2.heap.size A1.toArray rfl rfl 24 ZL.toArray HZA.out (R5.info32a _ HAS.out) (HZS.out.trans HAS.out.symm) HA1.out ?_)
    | (refine wpList_load_mid rfl 32 _ rfl (w.heap.size + 1 + 1 + 1) 0 rfl RL _ HLR.out Try.underlying32 rfl HRI.out ?_))
  refine wp_region_held_drew (S := RS ((X2.heap.size, A1.toArray, 24) :: RW)) (by kernel_rfl) HRD.out (fun hHeld => ?_)
  clear HZA HRD HTW HAS HA1
  have HTW : Hid _ := HTD.out
  clear HTD
  generalize ((X2.alloc (.cells ZL.toArray 24 (0, 0))).setRow X2.heap.size A1.toArray).drew = X at *
  generalize X2.heap.size = ab at *
  have HAI : Hid _ := R5.info32 A1 HT1.out.len
  refine wpAnyH_take (i := 0) (oi := { dst := some 40, op := Go.Op.move (Go.Operand.tmp 18), type := 38, pos := _, after := #[], guard := none }) (v := .int .i64 0) rfl (by kernel_rfl) (by kernel_rfl) (by kernel_rfl) (fun _ _ _ h => h) (Or.inl ⟨by rfl, fun w' hw' => ?_⟩) hHeld ?_
  · first | (go_simp; done) | (go_simp; rfl)
  try simp only [Act.put, List.setIfInBounds_toArray, List.set_cons_zero, List.set_cons_succ]
  refine wpAnyH_ready (rs := [1]) (by kernel_rfl) (by simp) ?_
  refine AllReadyH.cons (o := { dst := some 41, op := Go.Op.call { callee := Go.Callee.value (Go.Operand.func 9), args := #[Go.Operand.tmp 40], argTypes := #[38] }, type := 3, pos := _, after := #[{ on := 0, ground := Go.Ground.data }], guard := none }) rfl (fun K hK => ?_) AllReadyH.nil
  rw [if_pos (by rfl)]
  go_wp2_with fail
  refine Calls.mono (num_any 0 X) ?_
  rintro e w' ⟨rfl, rfl⟩
  refine hK.out _ _ hHeld (fun _ => ?_)
  clear hK K
  try simp only [Act.put, List.setIfInBounds_toArray, List.set_cons_zero, List.set_cons_succ]
  refine wpAnyH_take (i := 2) (oi := { dst := some 42, op := Go.Op.binOp Go.BinOp.neq 3 (Go.Operand.tmp 41) (Go.Operand.const (Go.Value.int Go.IntKind.i64 0)) 3, type := 4, pos := _, after := #[{ on := 1, ground := Go.Ground.data }], guard := none }) (v := .bool false) rfl (by kernel_rfl) (by kernel_rfl) (by kernel_rfl) (fun _ _ _ h => h) (Or.inl ⟨by rfl, fun w' hw' => ?_⟩) hHeld ?_
  · first | (go_simp; done) | (go_simp; rfl)
  try simp only [Act.put, List.setIfInBounds_toArray, List.set_cons_zero, List.set_cons_succ]
  refine wpAnyH_take (i := 3) (oi := { dst := some 43, op := Go.Op.move (Go.Operand.tmp 42), type := 4, pos := _, after := #[{ on := 2, ground := Go.Ground.data }, { on := 1, ground := Go.Ground.chain }], guard := none }) (v := .bool false) rfl (by kernel_rfl) (by kernel_rfl) (by kernel_rfl) (fun _ _ _ h => h) (Or.inl ⟨by rfl, fun w' hw' => ?_⟩) hHeld ?_
  · first | (go_simp; done) | (go_simp; rfl)
  try simp only [Act.put, List.setIfInBounds_toArray, List.set_cons_zero, List.set_cons_succ]
  refine wpAnyH_take (i := 4) (oi := { dst := some 44, op := Go.Op.load 24 (Go.Operand.tmp 17), type := 24, pos := _, after := #[{ on := 3, ground := Go.Ground.guard }], guard := some (3, false) }) rfl (by kernel_rfl) (by kernel_rfl) (by kernel_rfl) (fun _ _ _ h => h) (yieldsIf_load_mid (by rfl) 24 (.tmp 17) rfl (ab) (0) rfl (A1) _ (fun _ h => RS.at (t := 24) h (by simp [HRW.out])) Try.underlying24 rfl HAI.out) hHeld ?_
  try simp only [Act.put, List.setIfInBounds_toArray, List.set_cons_zero, List.set_cons_succ]
  refine wpAnyH_take (i := 5) (oi := { dst := some 45, op := Go.Op.move (Go.Operand.tmp 16), type := 35, pos := _, after := #[{ on := 3, ground := Go.Ground.guard }], guard := some (3, false) }) (v := .pointer (some ⟨rg, 0, none⟩)) rfl (by kernel_rfl) (by kernel_rfl) (by kernel_rfl) (fun _ _ _ h => h) (Or.inl ⟨by rfl, fun w' hw' => ?_⟩) hHeld ?_
  · first | (go_simp; done) | (go_simp; rfl)
  try simp only [Act.put, List.setIfInBounds_toArray, List.set_cons_zero, List.set_cons_succ]
  refine wpAnyH_take (i := 6) (oi := { dst := some 46, op := Go.Op.fieldAddr 29 (Go.Operand.tmp 12) 0, type := 0, pos := _, after := #[{ on := 3, ground := Go.Ground.guard }], guard := some (3, false) }) (v := .pointer (some ⟨w.heap.size + 1 + 1, 0, none⟩)) rfl (by kernel_rfl) (by kernel_rfl) (by kernel_rfl) (fun _ _ _ h => h) (Or.inl ⟨by rfl, fun w' hw' => ?_⟩) hHeld ?_
  · first | (go_simp; done) | (go_simp; rfl)
  try simp only [Act.put, List.setIfInBounds_toArray, List.set_cons_zero, List.set_cons_succ]
  refine wpAnyH_take (i := 7) (oi := { dst := some 47, op := Go.Op.load 24 (Go.Operand.tmp 46), type := 24, pos := _, after := #[{ on := 6, ground := Go.Ground.data }, { on := 3, ground := Go.Ground.guard }], guard := some (3, false) }) rfl (by kernel_rfl) (by kernel_rfl) (by kernel_rfl) (fun _ _ _ h => h) (yieldsIf_load_mid (by rfl) 24 (.tmp 46) rfl (w.heap.size + 1 + 1) (0) rfl (VL) _ (fun _ h => HVP.out _ _ (RS.at (t := 29) h (by simp [HRW.out]))) Try.underlying24 rfl HVI.out) hHeld ?_
  try simp only [Act.put, List.setIfInBounds_toArray, List.set_cons_zero, List.set_cons_succ]
  refine wpAnyH_ready (rs := [8]) (by kernel_rfl) (by simp) ?_
  refine AllReadyH.cons (o := { dst := some 48, op := Go.Op.call { callee := Go.Callee.value (Go.Operand.func 10), args := #[Go.Operand.tmp 45, Go.Operand.tmp 47], argTypes := #[35, 24] }, type := 24, pos := _, after := #[{ on := 5, ground := Go.Ground.data }, { on := 7, ground := Go.Ground.data }, { on := 3, ground := Go.Ground.chain }, { on := 3, ground := Go.Ground.guard }], guard := some (3, false) }) rfl (fun K hK => ?_) AllReadyH.nil
  rw [if_pos (by rfl)]
  go_wp2_with fail
  refine Calls.mono (HT1.out.r rfl og mb rg _ X HTW.out) ?_
  rintro e Y ⟨rfl, hT⟩
  have hRY := hT.rs
  have HTY : Hid _ := hT
  clear hHeld hT
  refine hK.out _ _ hRY (fun _ => ?_)
  clear hK K
  try simp only [Act.put, List.setIfInBounds_toArray, List.set_cons_zero, List.set_cons_succ]
  have hHeld := hRY
  have hne := HT1.out.ne
  refine wpAnyH_take (i := 9) (oi := { dst := some 49, op := Go.Op.binOp Go.BinOp.neq 24 (Go.Operand.tmp 44) (Go.Operand.tmp 48) 24, type := 4, pos := _, after := #[{ on := 4, ground := Go.Ground.data }, { on := 8, ground := Go.Ground.data }, { on := 3, ground := Go.Ground.guard }], guard := some (3, false) }) (v := .bool false) rfl (by kernel_rfl) (by kernel_rfl) (by kernel_rfl) (fun _ _ _ h => h) (Or.inl ⟨by rfl, fun w' hw' => ?_⟩) hHeld ?_
  · first | (go_simp; done) | (go_simp; rfl)
  try simp only [Act.put, List.setIfInBounds_toArray, List.set_cons_zero, List.set_cons_succ]
  refine wpAnyH_take (i := 10) (oi := { dst := some 50, op := Go.Op.pick (Go.Operand.tmp 43) (Go.Operand.const (Go.Value.bool true)) (Go.Operand.tmp 49), type := 4, pos := _, after := #[{ on := 3, ground := Go.Ground.data }, { on := 9, ground := Go.Ground.data }], guard := none }) (v := .bool false) rfl (by kernel_rfl) (by kernel_rfl) (by kernel_rfl) (fun _ _ _ h => h) (Or.inl ⟨by rfl, fun w' hw' => ?_⟩) hHeld ?_
  · first | (go_simp; done) | (go_simp; rfl)
  try simp only [Act.put, List.setIfInBounds_toArray, List.set_cons_zero, List.set_cons_succ]
  refine wpAnyH_done (by kernel_rfl) ?_ _
  clear hHeld hRY hne HTW HAI
  have HTW : Hid (TW w og mb rg i m D L1 L1 ((ab, A1.toArray, 24) :: RW) Y) := HTY.out
  clear HTY
  have HLM : Hid ((Y).rangeAt w.heap.size 0 ML) := RS.at (t := 24) HTW.out.rs (by simp [HRW.out])
  have HLG : Hid ((Y).rangeAt (w.heap.size + 1) 0 GL) := RS.at (t := 26) HTW.out.rs (by simp [HRW.out])
  have HLP : Hid ((Y).rangeAt (w.heap.size + 1 + 1) 0 PL) := RS.at (t := 29) HTW.out.rs (by simp [HRW.out])
  have HLR : Hid ((Y).rangeAt (w.heap.size + 1 + 1 + 1) 0 RL) := RS.at (t := 32) HTW.out.rs (by simp [HRW.out])
  go_wp2_with (first
    | (refine wpList_load_mid rfl 24 _ rfl w.heap.size 0 rfl ML _ HLM.out Try.underlying24 rfl HMI.out ?_)
    | (refine wpList_load_mid rfl 26 _ rfl (w.heap.size + 1) 0 rfl GL _ HLG.out Try.underlying26 rfl HGI.out ?_)
    | (refine wpList_load_mid rfl 29 _ rfl (w.heap.size + 1 + 1) 0 rfl PL _ HLP.out Try.underlying29 rfl HPI.out ?_)
    | (refine wpList_load_mid rfl 32 _ rfl (w.heap.size + 1 + 1 + 1) 0 rfl RL _ HLR.out Try.underlying32 rfl HRI.out ?_)
    | (go_at_call 11; fail))
  refine Calls.mono (HT2.out.p og mb rg _ Y HTW.out) ?_
  rintro e X3 ⟨rfl, hT⟩
  have HTX : Hid (TW w og mb rg i m D L2 L1 ((ab, A1.toArray, 24) :: RW) X3) := hT
  clear hT HTW HLM HLG HLP HLR
  have HTW : Hid (TW w og mb rg i m D L2 L1 ((X3.heap.size, A2.toArray, 24) :: (ab, A1.toArray, 24) :: RW) ((X3.alloc (.cells ZL.toArray 24 (0, 0))).setRow X3.heap.size A2.toArray)) := HTX.out.newrow _ _ _
  have HZA : Hid ((X3.alloc (.cells ZL.toArray 24 (0, 0))).heap[X3.heap.size]? = some (.cells ZL.toArray 24 (0, 0))) := heap_alloc_new _ _
  have HAS : Hid (A2.toArray.size = 32) := by show _ = _; simpa using HT2.out.len
  have HA1 : Hid _ := HT2.out.one
  go_wp2_with (refine wpList_store_row rfl 24 _ _ rfl X3.heap.size A2.toArray rfl rfl 24 ZL.toArray HZA.out (R5.info32a _ HAS.out) (HZS.out.trans HAS.out.symm) HA1.out ?_)
  refine Calls.mono (HPG.out _) ?_
  rintro e w' ⟨rfl, rfl⟩
  clear HTX HZA HAS HA1
  generalize (X3.alloc (.cells ZL.toArray 24 (0, 0))).setRow X3.heap.size A2.toArray = X4 at *
  generalize X3.heap.size = bb at *
  cases pk with
  | true =>
    have he := HT2.out.y rfl
    subst he
    have HAI : Hid _ := R5.info32 A2 HT2.out.len
    have HRD : Hid (RS ((bb, A2.toArray, 24) :: (ab, A1.toArray, 24) :: RW) (X4).drew) := HTW.out.rs
    have HTD : Hid (TW w og mb rg i m D L2 L1 ((bb, A2.toArray, 24) :: (ab, A1.toArray, 24) :: RW) (X4).drew) := HTW.out.step (Below.refl _ _).drew
    go_wp2
    refine wp_region_held_drew (S := RS ((bb, A2.toArray, 24) :: (ab, A1.toArray, 24) :: RW)) (by kernel_rfl) HRD.out (fun hHeld => ?_)
    clear HTW HRD
    have HTW : Hid _ := HTD.out
    clear HTD
    generalize (X4).drew = X8 at *
    refine wpAnyH_take (i := 0) (oi := { dst := some 61, op := Go.Op.move (Go.Operand.tmp 20), type := 38, pos := _, after := #[], guard := none }) (v := .int .i64 0) rfl (by kernel_rfl) (by kernel_rfl) (by kernel_rfl) (fun _ _ _ h => h) (Or.inl ⟨by rfl, fun w' hw' => ?_⟩) hHeld ?_
    · first | (go_simp; done) | (go_simp; rfl)
    try simp only [Act.put, List.setIfInBounds_toArray, List.set_cons_zero, List.set_cons_succ]
    refine wpAnyH_ready (rs := [1]) (by kernel_rfl) (by simp) ?_
    refine AllReadyH.cons (o := { dst := some 62, op := Go.Op.call { callee := Go.Callee.value (Go.Operand.func 9), args := #[Go.Operand.tmp 61], argTypes := #[38] }, type := 3, pos := _, after := #[{ on := 0, ground := Go.Ground.data }], guard := none }) rfl (fun K hK => ?_) AllReadyH.nil
    rw [if_pos (by rfl)]
    go_wp2_with fail
    refine Calls.mono (num_any 0 X8) ?_
    rintro e w' ⟨rfl, rfl⟩
    refine hK.out _ _ hHeld (fun _ => ?_)
    clear hK K
    try simp only [Act.put, List.setIfInBounds_toArray, List.set_cons_zero, List.set_cons_succ]
    refine wpAnyH_take (i := 2) (oi := { dst := some 63, op := Go.Op.binOp Go.BinOp.neq 3 (Go.Operand.tmp 62) (Go.Operand.const (Go.Value.int Go.IntKind.i64 0)) 3, type := 4, pos := _, after := #[{ on := 1, ground := Go.Ground.data }], guard := none }) (v := .bool false) rfl (by kernel_rfl) (by kernel_rfl) (by kernel_rfl) (fun _ _ _ h => h) (Or.inl ⟨by rfl, fun w' hw' => ?_⟩) hHeld ?_
    · first | (go_simp; done) | (go_simp; rfl)
    try simp only [Act.put, List.setIfInBounds_toArray, List.set_cons_zero, List.set_cons_succ]
    refine wpAnyH_take (i := 3) (oi := { dst := some 64, op := Go.Op.move (Go.Operand.tmp 63), type := 4, pos := _, after := #[{ on := 2, ground := Go.Ground.data }, { on := 1, ground := Go.Ground.chain }], guard := none }) (v := .bool false) rfl (by kernel_rfl) (by kernel_rfl) (by kernel_rfl) (fun _ _ _ h => h) (Or.inl ⟨by rfl, fun w' hw' => ?_⟩) hHeld ?_
    · first | (go_simp; done) | (go_simp; rfl)
    try simp only [Act.put, List.setIfInBounds_toArray, List.set_cons_zero, List.set_cons_succ]
    refine wpAnyH_take (i := 4) (oi := { dst := some 65, op := Go.Op.load 24 (Go.Operand.tmp 19), type := 24, pos := _, after := #[{ on := 3, ground := Go.Ground.guard }], guard := some (3, false) }) rfl (by kernel_rfl) (by kernel_rfl) (by kernel_rfl) (fun _ _ _ h => h) (yieldsIf_load_mid (by rfl) 24 (.tmp 19) rfl (bb) (0) rfl (A2) _ (fun _ h => RS.at (t := 24) h (by simp [HRW.out])) Try.underlying24 rfl HAI.out) hHeld ?_
    try simp only [Act.put, List.setIfInBounds_toArray, List.set_cons_zero, List.set_cons_succ]
    refine wpAnyH_take (i := 5) (oi := { dst := some 66, op := Go.Op.move (Go.Operand.tmp 16), type := 35, pos := _, after := #[{ on := 3, ground := Go.Ground.guard }], guard := some (3, false) }) (v := .pointer (some ⟨rg, 0, none⟩)) rfl (by kernel_rfl) (by kernel_rfl) (by kernel_rfl) (fun _ _ _ h => h) (Or.inl ⟨by rfl, fun w' hw' => ?_⟩) hHeld ?_
    · first | (go_simp; done) | (go_simp; rfl)
    try simp only [Act.put, List.setIfInBounds_toArray, List.set_cons_zero, List.set_cons_succ]
    refine wpAnyH_take (i := 6) (oi := { dst := some 67, op := Go.Op.load 24 (Go.Operand.tmp 9), type := 24, pos := _, after := #[{ on := 3, ground := Go.Ground.guard }], guard := some (3, false) }) rfl (by kernel_rfl) (by kernel_rfl) (by kernel_rfl) (fun _ _ _ h => h) (yieldsIf_load_mid (by rfl) 24 (.tmp 9) rfl (w.heap.size) (0) rfl (ML) _ (fun _ h => RS.at (t := 24) h (by simp [HRW.out])) Try.underlying24 rfl HMI.out) hHeld ?_
    try simp only [Act.put, List.setIfInBounds_toArray, List.set_cons_zero, List.set_cons_succ]
    refine wpAnyH_take (i := 7) (oi := { dst := some 68, op := Go.Op.move (Go.Operand.tmp 3), type := 3, pos := _, after := #[{ on := 3, ground := Go.Ground.guard }], guard := some (3, false) }) (v := .int .i64 pg) rfl (by kernel_rfl) (by kernel_rfl) (by kernel_rfl) (fun _ _ _ h => h) (Or.inl ⟨by rfl, fun w' hw' => ?_⟩) hHeld ?_
    · first | (go_simp; done) | (go_simp; rfl)
    try simp only [Act.put, List.setIfInBounds_toArray, List.set_cons_zero, List.set_cons_succ]
    refine wpAnyH_take (i := 8) (oi := { dst := some 69, op := Go.Op.load 26 (Go.Operand.tmp 11), type := 26, pos := _, after := #[{ on := 3, ground := Go.Ground.guard }], guard := some (3, false) }) rfl (by kernel_rfl) (by kernel_rfl) (by kernel_rfl) (fun _ _ _ h => h) (yieldsIf_load_mid (by rfl) 26 (.tmp 11) rfl (w.heap.size + 1) (0) rfl (GL) _ (fun _ h => RS.at (t := 26) h (by simp [HRW.out])) Try.underlying26 rfl HGI.out) hHeld ?_
    try simp only [Act.put, List.setIfInBounds_toArray, List.set_cons_zero, List.set_cons_succ]
    refine wpAnyH_ready (rs := [9]) (by kernel_rfl) (by simp) ?_
    refine AllReadyH.cons (o := { dst := some 70, op := Go.Op.call { callee := Go.Callee.value (Go.Operand.func 13), args := #[Go.Operand.tmp 66, Go.Operand.tmp 67, Go.Operand.tmp 68, Go.Operand.tmp 69], argTypes := #[35, 24, 3, 26] }, type := 24, pos := _, after := #[{ on := 5, ground := Go.Ground.data }, { on := 6, ground := Go.Ground.data }, { on := 7, ground := Go.Ground.data }, { on := 8, ground := Go.Ground.data }, { on := 3, ground := Go.Ground.chain }, { on := 3, ground := Go.Ground.guard }], guard := some (3, false) }) rfl (fun K hK => ?_) AllReadyH.nil
    rw [if_pos (by rfl)]
    go_wp2_with fail
    refine Calls.mono (HT2.out.r rfl og mb rg _ X8 HTW.out) ?_
    rintro e Y8 ⟨rfl, hT⟩
    have hRY := hT.rs
    have HTY : Hid _ := hT
    clear hHeld hT
    refine hK.out _ _ hRY (fun _ => ?_)
    clear hK K
    try simp only [Act.put, List.setIfInBounds_toArray, List.set_cons_zero, List.set_cons_succ]
    have hHeld := hRY
    have hne := HT2.out.ne
    refine wpAnyH_take (i := 10) (oi := { dst := some 71, op := Go.Op.binOp Go.BinOp.neq 24 (Go.Operand.tmp 65) (Go.Operand.tmp 70) 24, type := 4, pos := _, after := #[{ on := 4, ground := Go.Ground.data }, { on := 9, ground := Go.Ground.data }, { on := 3, ground := Go.Ground.guard }], guard := some (3, false) }) (v := .bool false) rfl (by kernel_rfl) (by kernel_rfl) (by kernel_rfl) (fun _ _ _ h => h) (Or.inl ⟨by rfl, fun w' hw' => ?_⟩) hHeld ?_
    · first | (go_simp; done) | (go_simp; rfl)
    try simp only [Act.put, List.setIfInBounds_toArray, List.set_cons_zero, List.set_cons_succ]
    refine wpAnyH_take (i := 11) (oi := { dst := some 72, op := Go.Op.pick (Go.Operand.tmp 64) (Go.Operand.const (Go.Value.bool true)) (Go.Operand.tmp 71), type := 4, pos := _, after := #[{ on := 3, ground := Go.Ground.data }, { on := 10, ground := Go.Ground.data }], guard := none }) (v := .bool false) rfl (by kernel_rfl) (by kernel_rfl) (by kernel_rfl) (fun _ _ _ h => h) (Or.inl ⟨by rfl, fun w' hw' => ?_⟩) hHeld ?_
    · first | (go_simp; done) | (go_simp; rfl)
    try simp only [Act.put, List.setIfInBounds_toArray, List.set_cons_zero, List.set_cons_succ]
    refine wpAnyH_done (by kernel_rfl) ?_ _
    clear hHeld hRY hne HTW HAI
    have HTW : Hid (TW w og mb rg i m D L2 L2 ((bb, A2.toArray, 24) :: (ab, A1.toArray, 24) :: RW) Y8) := HTY.out
    clear HTY
    have HLM : Hid ((Y8).rangeAt w.heap.size 0 ML) := RS.at (t := 24) HTW.out.rs (by simp [HRW.out])
    have HLG : Hid ((Y8).rangeAt (w.heap.size + 1) 0 GL) := RS.at (t := 26) HTW.out.rs (by simp [HRW.out])
    have HLP : Hid ((Y8).rangeAt (w.heap.size + 1 + 1) 0 PL) := RS.at (t := 29) HTW.out.rs (by simp [HRW.out])
    have HLR : Hid ((Y8).rangeAt (w.heap.size + 1 + 1 + 1) 0 RL) := RS.at (t := 32) HTW.out.rs (by simp [HRW.out])
    go_wp2_with (first
      | (refine wpList_load_mid rfl 24 _ rfl w.heap.size 0 rfl ML _ HLM.out Try.underlying24 rfl HMI.out ?_)
      | (refine wpList_load_mid rfl 26 _ rfl (w.heap.size + 1) 0 rfl GL _ HLG.out Try.underlying26 rfl HGI.out ?_)
      | (refine wpList_load_mid rfl 29 _ rfl (w.heap.size + 1 + 1) 0 rfl PL _ HLP.out Try.underlying29 rfl HPI.out ?_)
      | (refine wpList_load_mid rfl 32 _ rfl (w.heap.size + 1 + 1 + 1) 0 rfl RL _ HLR.out Try.underlying32 rfl HRI.out ?_)
      | (go_at_call 14; fail))
    refine Calls.mono (HT3.out.p og mb rg _ Y8 HTW.out) ?_
    rintro e X5 ⟨rfl, hT⟩
    have HTX : Hid (TW w og mb rg i m D L3 L2 ((bb, A2.toArray, 24) :: (ab, A1.toArray, 24) :: RW) X5) := hT
    clear hT HTW HLM HLG HLP HLR
    have HTW : Hid (TW w og mb rg i m D L3 L2 ((X5.heap.size, A3.toArray, 24) :: (bb, A2.toArray, 24) :: (ab, A1.toArray, 24) :: RW) ((X5.alloc (.cells ZL.toArray 24 (0, 0))).setRow X5.heap.size A3.toArray)) := HTX.out.newrow _ _ _
    have HZA : Hid ((X5.alloc (.cells ZL.toArray 24 (0, 0))).heap[X5.heap.size]? = some (.cells ZL.toArray 24 (0, 0))) := heap_alloc_new _ _
    have HAS : Hid (A3.toArray.size = 32) := by show _ = _; simpa using HT3.out.len
    have HA1 : Hid _ := HT3.out.one
    have HLR : Hid (((X5.alloc (.cells ZL.toArray 24 (0, 0))).setRow X5.heap.size A3.toArray).rangeAt (w.heap.size + 1 + 1 + 1) 0 RL) := RS.at (t := 32) HTW.out.rs (by simp [HRW.out])
    go_wp2_with (first
      | (refine wpList_store_row rfl 24 _ _ rfl X5.heap.size A3.toArray rfl rfl 24 ZL.toArray HZA.out (R5.info32a _ HAS.out) (HZS.out.trans HAS.out.symm) HA1.out ?_)
      | (refine wpList_load_mid rfl 32 _ rfl (w.heap.size + 1 + 1 + 1) 0 rfl RL _ HLR.out Try.underlying32 rfl HRI.out ?_))
    refine Calls.mono (HRC.out _) ?_
    rintro e X6 ⟨rfl, hb6⟩
    have HT6 : Hid (TW w og mb rg i m D L3 L2 ((X5.heap.size, A3.toArray, 24) :: (bb, A2.toArray, 24) :: (ab, A1.toArray, 24) :: RW) X6) := HTW.out.step hb6
    clear HTW HTX HZA HLR hb6 HAS HA1
    have HTW : Hid _ := HT6.out
    clear HT6
    generalize X5.heap.size = cb at *
    cases rk with
    | true =>
      have he := HT3.out.y rfl
      subst he
      have HAI : Hid _ := R5.info32 A3 HT3.out.len
      have HRD : Hid (RS ((cb, A3.toArray, 24) :: (bb, A2.toArray, 24) :: (ab, A1.toArray, 24) :: RW) (X6).drew) := HTW.out.rs
      have HTD : Hid (TW w og mb rg i m D L3 L2 ((cb, A3.toArray, 24) :: (bb, A2.toArray, 24) :: (ab, A1.toArray, 24) :: RW) (X6).drew) := HTW.out.step (Below.refl _ _).drew
      go_wp2
      refine wp_region_held_drew (S := RS ((cb, A3.toArray, 24) :: (bb, A2.toArray, 24) :: (ab, A1.toArray, 24) :: RW)) (by kernel_rfl) HRD.out (fun hHeld => ?_)
      clear HTW HRD
      have HTW : Hid _ := HTD.out
      clear HTD
      generalize (X6).drew = X7 at *
      refine wpAnyH_take (i := 0) (oi := { dst := some 90, op := Go.Op.move (Go.Operand.tmp 22), type := 38, pos := _, after := #[], guard := none }) (v := .int .i64 0) rfl (by kernel_rfl) (by kernel_rfl) (by kernel_rfl) (fun _ _ _ h => h) (Or.inl ⟨by rfl, fun w' hw' => ?_⟩) hHeld ?_
      · first | (go_simp; done) | (go_simp; rfl)
      try simp only [Act.put, List.setIfInBounds_toArray, List.set_cons_zero, List.set_cons_succ]
      refine wpAnyH_ready (rs := [1]) (by kernel_rfl) (by simp) ?_
      refine AllReadyH.cons (o := { dst := some 91, op := Go.Op.call { callee := Go.Callee.value (Go.Operand.func 9), args := #[Go.Operand.tmp 90], argTypes := #[38] }, type := 3, pos := _, after := #[{ on := 0, ground := Go.Ground.data }], guard := none }) rfl (fun K hK => ?_) AllReadyH.nil
      rw [if_pos (by rfl)]
      go_wp2_with fail
      refine Calls.mono (num_any 0 X7) ?_
      rintro e w' ⟨rfl, rfl⟩
      refine hK.out _ _ hHeld (fun _ => ?_)
      clear hK K
      try simp only [Act.put, List.setIfInBounds_toArray, List.set_cons_zero, List.set_cons_succ]
      refine wpAnyH_take (i := 2) (oi := { dst := some 92, op := Go.Op.binOp Go.BinOp.neq 3 (Go.Operand.tmp 91) (Go.Operand.const (Go.Value.int Go.IntKind.i64 0)) 3, type := 4, pos := _, after := #[{ on := 1, ground := Go.Ground.data }], guard := none }) (v := .bool false) rfl (by kernel_rfl) (by kernel_rfl) (by kernel_rfl) (fun _ _ _ h => h) (Or.inl ⟨by rfl, fun w' hw' => ?_⟩) hHeld ?_
      · first | (go_simp; done) | (go_simp; rfl)
      try simp only [Act.put, List.setIfInBounds_toArray, List.set_cons_zero, List.set_cons_succ]
      refine wpAnyH_take (i := 3) (oi := { dst := some 93, op := Go.Op.move (Go.Operand.tmp 92), type := 4, pos := _, after := #[{ on := 2, ground := Go.Ground.data }, { on := 1, ground := Go.Ground.chain }], guard := none }) (v := .bool false) rfl (by kernel_rfl) (by kernel_rfl) (by kernel_rfl) (fun _ _ _ h => h) (Or.inl ⟨by rfl, fun w' hw' => ?_⟩) hHeld ?_
      · first | (go_simp; done) | (go_simp; rfl)
      try simp only [Act.put, List.setIfInBounds_toArray, List.set_cons_zero, List.set_cons_succ]
      refine wpAnyH_take (i := 4) (oi := { dst := some 94, op := Go.Op.load 24 (Go.Operand.tmp 21), type := 24, pos := _, after := #[{ on := 3, ground := Go.Ground.guard }], guard := some (3, false) }) rfl (by kernel_rfl) (by kernel_rfl) (by kernel_rfl) (fun _ _ _ h => h) (yieldsIf_load_mid (by rfl) 24 (.tmp 21) rfl (cb) (0) rfl (A3) _ (fun _ h => RS.at (t := 24) h (by simp [HRW.out])) Try.underlying24 rfl HAI.out) hHeld ?_
      try simp only [Act.put, List.setIfInBounds_toArray, List.set_cons_zero, List.set_cons_succ]
      refine wpAnyH_take (i := 5) (oi := { dst := some 95, op := Go.Op.move (Go.Operand.tmp 16), type := 35, pos := _, after := #[{ on := 3, ground := Go.Ground.guard }], guard := some (3, false) }) (v := .pointer (some ⟨rg, 0, none⟩)) rfl (by kernel_rfl) (by kernel_rfl) (by kernel_rfl) (fun _ _ _ h => h) (Or.inl ⟨by rfl, fun w' hw' => ?_⟩) hHeld ?_
      · first | (go_simp; done) | (go_simp; rfl)
      try simp only [Act.put, List.setIfInBounds_toArray, List.set_cons_zero, List.set_cons_succ]
      refine wpAnyH_take (i := 6) (oi := { dst := some 96, op := Go.Op.load 24 (Go.Operand.tmp 9), type := 24, pos := _, after := #[{ on := 3, ground := Go.Ground.guard }], guard := some (3, false) }) rfl (by kernel_rfl) (by kernel_rfl) (by kernel_rfl) (fun _ _ _ h => h) (yieldsIf_load_mid (by rfl) 24 (.tmp 9) rfl (w.heap.size) (0) rfl (ML) _ (fun _ h => RS.at (t := 24) h (by simp [HRW.out])) Try.underlying24 rfl HMI.out) hHeld ?_
      try simp only [Act.put, List.setIfInBounds_toArray, List.set_cons_zero, List.set_cons_succ]
      refine wpAnyH_take (i := 7) (oi := { dst := some 97, op := Go.Op.load 32 (Go.Operand.tmp 13), type := 32, pos := _, after := #[{ on := 3, ground := Go.Ground.guard }], guard := some (3, false) }) rfl (by kernel_rfl) (by kernel_rfl) (by kernel_rfl) (fun _ _ _ h => h) (yieldsIf_load_mid (by rfl) 32 (.tmp 13) rfl (w.heap.size + 1 + 1 + 1) (0) rfl (RL) _ (fun _ h => RS.at (t := 32) h (by simp [HRW.out])) Try.underlying32 rfl HRI.out) hHeld ?_
      try simp only [Act.put, List.setIfInBounds_toArray, List.set_cons_zero, List.set_cons_succ]
      refine wpAnyH_ready (rs := [8]) (by kernel_rfl) (by simp) ?_
      refine AllReadyH.cons (o := { dst := some 98, op := Go.Op.call { callee := Go.Callee.value (Go.Operand.func 16), args := #[Go.Operand.tmp 95, Go.Operand.tmp 96, Go.Operand.tmp 97], argTypes := #[35, 24, 32] }, type := 24, pos := _, after := #[{ on := 5, ground := Go.Ground.data }, { on := 6, ground := Go.Ground.data }, { on := 7, ground := Go.Ground.data }, { on := 3, ground := Go.Ground.chain }, { on := 3, ground := Go.Ground.guard }], guard := some (3, false) }) rfl (fun K hK => ?_) AllReadyH.nil
      rw [if_pos (by rfl)]
      go_wp2_with fail
      refine Calls.mono (HT3.out.r rfl og mb rg _ X7 HTW.out) ?_
      rintro e Y7 ⟨rfl, hT⟩
      have hRY := hT.rs
      have HTY : Hid _ := hT
      clear hHeld hT
      refine hK.out _ _ hRY (fun _ => ?_)
      clear hK K
      try simp only [Act.put, List.setIfInBounds_toArray, List.set_cons_zero, List.set_cons_succ]
      have hHeld := hRY
      have hne := HT3.out.ne
      refine wpAnyH_take (i := 9) (oi := { dst := some 99, op := Go.Op.binOp Go.BinOp.neq 24 (Go.Operand.tmp 94) (Go.Operand.tmp 98) 24, type := 4, pos := _, after := #[{ on := 4, ground := Go.Ground.data }, { on := 8, ground := Go.Ground.data }, { on := 3, ground := Go.Ground.guard }], guard := some (3, false) }) (v := .bool false) rfl (by kernel_rfl) (by kernel_rfl) (by kernel_rfl) (fun _ _ _ h => h) (Or.inl ⟨by rfl, fun w' hw' => ?_⟩) hHeld ?_
      · first | (go_simp; done) | (go_simp; rfl)
      try simp only [Act.put, List.setIfInBounds_toArray, List.set_cons_zero, List.set_cons_succ]
      refine wpAnyH_take (i := 10) (oi := { dst := some 100, op := Go.Op.pick (Go.Operand.tmp 93) (Go.Operand.const (Go.Value.bool true)) (Go.Operand.tmp 99), type := 4, pos := _, after := #[{ on := 3, ground := Go.Ground.data }, { on := 9, ground := Go.Ground.data }], guard := none }) (v := .bool false) rfl (by kernel_rfl) (by kernel_rfl) (by kernel_rfl) (fun _ _ _ h => h) (Or.inl ⟨by rfl, fun w' hw' => ?_⟩) hHeld ?_
      · first | (go_simp; done) | (go_simp; rfl)
      try simp only [Act.put, List.setIfInBounds_toArray, List.set_cons_zero, List.set_cons_succ]
      refine wpAnyH_done (by kernel_rfl) ?_ _
      clear hHeld hRY hne HTW
      have HTW : Hid _ := HTY.out
      clear HTY
      obtain ⟨lv, hlv, hlr⟩ := HTW.out.rlog
      have HLC : Hid ((Y7).drew.cell? ⟨rg, 35, none⟩ = some lv) := hlv
      have HLD : Hid (R5.HLr (Y7).drew lv L3) := hlr
      have HTD : Hid (TW w og mb rg i m D L3 L3 ((cb, A3.toArray, 24) :: (bb, A2.toArray, 24) :: (ab, A1.toArray, 24) :: RW) (Y7).drew) := HTW.out.step (Below.refl _ _).drew
      clear hlv hlr HTW
      go_wp2
      refine wp_region_held_drew (S := fun W => W.cell? ⟨rg, 35, none⟩ = some lv) (by kernel_rfl) HLC.out (fun hHeld => ?_)
      clear HLC
      generalize (Y7).drew = F at *
      refine wpAnyH_take (i := 0) (oi := { dst := some 109, op := Go.Op.move (Go.Operand.tmp 15), type := 34, pos := _, after := #[], guard := none }) (v := .pointer (some ⟨og, 0, none⟩)) rfl (by kernel_rfl) (by kernel_rfl) (by kernel_rfl) (fun _ _ _ h => h) (Or.inl ⟨by rfl, fun w' hw' => ?_⟩) hHeld ?_
      · first | (go_simp; done) | (go_simp; rfl)
      try simp only [Act.put, List.setIfInBounds_toArray, List.set_cons_zero, List.set_cons_succ]
      refine wpAnyH_take (i := 2) (oi := { dst := some 111, op := Go.Op.move (Go.Operand.tmp 16), type := 35, pos := _, after := #[], guard := none }) (v := .pointer (some ⟨rg, 0, none⟩)) rfl (by kernel_rfl) (by kernel_rfl) (by kernel_rfl) (fun _ _ _ h => h) (Or.inl ⟨by rfl, fun w' hw' => ?_⟩) hHeld ?_
      · first | (go_simp; done) | (go_simp; rfl)
      try simp only [Act.put, List.setIfInBounds_toArray, List.set_cons_zero, List.set_cons_succ]
      refine wpAnyH_take (i := 3) (oi := { dst := some 112, op := Go.Op.nilCheck (Go.Operand.tmp 111), type := 0, pos := _, after := #[{ on := 2, ground := Go.Ground.data }], guard := none }) (v := .pointer (some ⟨rg, 0, none⟩)) rfl (by kernel_rfl) (by kernel_rfl) (by kernel_rfl) (fun _ _ _ h => h) (Or.inl ⟨by rfl, fun w' hw' => ?_⟩) hHeld ?_
      · first | (go_simp; done) | (go_simp; rfl)
      try simp only [Act.put, List.setIfInBounds_toArray, List.set_cons_zero, List.set_cons_succ]
      refine wpAnyH_take (i := 4) (oi := { dst := some 113, op := Go.Op.fieldAddr 53 (Go.Operand.tmp 112) 4, type := 0, pos := _, after := #[{ on := 3, ground := Go.Ground.data }], guard := none }) (v := .pointer (some ⟨rg, 35, none⟩)) rfl (by kernel_rfl) (by kernel_rfl) (by kernel_rfl) (fun _ _ _ h => h) (Or.inl ⟨by rfl, fun w' hw' => ?_⟩) hHeld ?_
      · first | (go_simp; done) | (go_simp; rfl)
      try simp only [Act.put, List.setIfInBounds_toArray, List.set_cons_zero, List.set_cons_succ]
      refine wpAnyH_take (i := 5) (oi := { dst := some 114, op := Go.Op.load 50 (Go.Operand.tmp 113), type := 50, pos := _, after := #[{ on := 4, ground := Go.Ground.data }], guard := none }) (v := lv) rfl (by kernel_rfl) (by kernel_rfl) (by kernel_rfl) (fun _ _ _ h => h) (Or.inl ⟨by rfl, fun w' hw' => ?_⟩) hHeld ?_
      · have hcc : w'.cell? ⟨rg, 35, none⟩ = some lv := hw'; first | (go_simp; done) | (go_simp; rfl)
      try simp only [Act.put, List.setIfInBounds_toArray, List.set_cons_zero, List.set_cons_succ]
      refine wpAnyH_ready (rs := [1]) (by kernel_rfl) (by simp) ?_
      refine AllReadyH.cons (o := { dst := some 110, op := Go.Op.call { callee := Go.Callee.value (Go.Operand.func 18), args := #[Go.Operand.tmp 109], argTypes := #[34] }, type := 50, pos := _, after := #[{ on := 0, ground := Go.Ground.data }], guard := none }) rfl (fun K hK => ?_) AllReadyH.nil
      rw [if_pos (by rfl)]
      go_wp2_with fail
      refine Calls.mono (HTD.out.log HN3.out) ?_
      rintro e F1 ⟨vl, rfl, hv1, hbF⟩
      have hHF : F1.cell? ⟨rg, 35, none⟩ = some lv := (hbF.cell (block_lt hHeld)).trans hHeld
      have HSL : Hid (Calls Try.prog 17 #[vl, lv] F1 fun e w' => e = .returned (.bool true) ∧ Below F1.heap.size F1 w') := slog_same vl lv L3 F1 HN3.out hv1 (R5.hlr_below HLD.out hbF)
      have HB1 : Hid (Below w.heap.size w F1) := HTD.out.bel.trans (hbF.mono HTD.out.bel.size)
      clear hv1 hbF HLD
      refine hK.out _ _ hHF (fun _ => ?_)
      clear hK K
      try simp only [Act.put, List.setIfInBounds_toArray, List.set_cons_zero, List.set_cons_succ]
      have hHeld := hHF
      refine wpAnyH_ready (rs := [6]) (by kernel_rfl) (by simp) ?_
      refine AllReadyH.cons (o := { dst := some 115, op := Go.Op.call { callee := Go.Callee.value (Go.Operand.func 17), args := #[Go.Operand.tmp 110, Go.Operand.tmp 114], argTypes := #[50, 50] }, type := 4, pos := _, after := #[{ on := 1, ground := Go.Ground.data }, { on := 5, ground := Go.Ground.data }, { on := 1, ground := Go.Ground.chain }], guard := none }) rfl (fun K hK => ?_) AllReadyH.nil
      rw [if_pos (by rfl)]
      go_wp2_with fail
      refine Calls.mono HSL.out ?_
      rintro e F2 ⟨rfl, hbG⟩
      have hHG : F2.cell? ⟨rg, 35, none⟩ = some lv := (hbG.cell (block_lt hHeld)).trans hHeld
      have HB2 : Hid (Below w.heap.size w F2) := HB1.out.trans (hbG.mono HB1.out.size)
      clear hbG HSL
      refine hK.out _ _ hHG (fun _ => ?_)
      clear hK K
      try simp only [Act.put, List.setIfInBounds_toArray, List.set_cons_zero, List.set_cons_succ]
      have hHeld := hHG
      refine wpAnyH_take (i := 7) (oi := { dst := some 116, op := Go.Op.move (Go.Operand.tmp 115), type := 4, pos := _, after := #[{ on := 6, ground := Go.Ground.data }, { on := 6, ground := Go.Ground.chain }], guard := none }) (v := .bool true) rfl (by kernel_rfl) (by kernel_rfl) (by kernel_rfl) (fun _ _ _ h => h) (Or.inl ⟨by rfl, fun w' hw' => ?_⟩) hHeld ?_
      · first | (go_simp; done) | (go_simp; rfl)
      try simp only [Act.put, List.setIfInBounds_toArray, List.set_cons_zero, List.set_cons_succ]
      refine wpAnyH_ready (rs := [8]) (by kernel_rfl) (by simp) ?_
      refine AllReadyH.cons (o := { dst := some 117, op := Go.Op.call { callee := Go.Callee.value (Go.Operand.func 6), args := #[], argTypes := #[] }, type := 4, pos := _, after := #[{ on := 7, ground := Go.Ground.chain }, { on := 7, ground := Go.Ground.guard }], guard := some (7, true) }) rfl (fun K hK => ?_) AllReadyH.nil
      rw [if_pos (by rfl)]
      go_wp2_with fail
      refine Calls.mono (HKN.out F2) ?_
      rintro e F3 ⟨rfl, hbK⟩
      have hHK : F3.cell? ⟨rg, 35, none⟩ = some lv := (hbK.cell (block_lt hHeld)).trans hHeld
      have HB3 : Hid (Below w.heap.size w F3) := HB2.out.trans (hbK.mono HB2.out.size)
      clear hbK
      refine hK.out _ _ hHK (fun _ => ?_)
      clear hK K
      try simp only [Act.put, List.setIfInBounds_toArray, List.set_cons_zero, List.set_cons_succ]
      have hHeld := hHK
      refine wpAnyH_take (i := 9) (oi := { dst := some 118, op := Go.Op.pick (Go.Operand.tmp 116) (Go.Operand.tmp 117) (Go.Operand.const (Go.Value.bool false)), type := 4, pos := _, after := #[{ on := 7, ground := Go.Ground.data }, { on := 8, ground := Go.Ground.data }], guard := none }) (v := .bool true) rfl (by kernel_rfl) (by kernel_rfl) (by kernel_rfl) (fun _ _ _ h => h) (Or.inl ⟨by rfl, fun w' hw' => ?_⟩) hHeld ?_
      · first | (go_simp; done) | (go_simp; rfl)
      try simp only [Act.put, List.setIfInBounds_toArray, List.set_cons_zero, List.set_cons_succ]
      refine wpAnyH_take (i := 10) (oi := { dst := some 14, op := Go.Op.assign (Go.Operand.tmp 118), type := 4, pos := _, after := #[{ on := 9, ground := Go.Ground.data }, { on := 8, ground := Go.Ground.chain }, { on := 0, ground := Go.Ground.phase }, { on := 1, ground := Go.Ground.phase }, { on := 2, ground := Go.Ground.phase }, { on := 3, ground := Go.Ground.phase }, { on := 4, ground := Go.Ground.phase }, { on := 5, ground := Go.Ground.phase }, { on := 6, ground := Go.Ground.phase }, { on := 7, ground := Go.Ground.phase }, { on := 8, ground := Go.Ground.phase }, { on := 9, ground := Go.Ground.phase }], guard := none }) (v := .bool true) rfl (by kernel_rfl) (by kernel_rfl) (by kernel_rfl) (fun _ _ _ h => h) (Or.inl ⟨by rfl, fun w' hw' => ?_⟩) hHeld ?_
      · first | (go_simp; done) | (go_simp; rfl)
      try simp only [Act.put, List.setIfInBounds_toArray, List.set_cons_zero, List.set_cons_succ]
      refine wpAnyH_done (by kernel_rfl) ?_ _
      clear hHeld hHK hHG hHF
      go_wp2
      go_ret
      exact ⟨rfl, HB3.out⟩
    | false =>
      obtain ⟨he, hA, hL⟩ := HT3.out.n rfl
      have HT : Hid (TW w og mb rg i m D L3 L3 ((cb, A3.toArray, 24) :: (bb, A2.toArray, 24) :: (ab, A1.toArray, 24) :: RW) X6) := by
        have h := HTW.out
        rw [hL] at h
        show TW _ _ _ _ _ _ _ _ _ _ _
        rw [hL]; exact h
      have hne : ∀ W, (binOp .neq 24 (.agg A3.toArray) (.agg ZL.toArray)).run Try.prog W = .ok (.bool false) W := fun W => by
        have h := HT3.out.ne W
        rw [hA] at h ⊢
        exact h
      have HLA : Hid ((X6).rangeAt cb 0 A3) := RS.at (t := 24) HTW.out.rs (by simp)
      have HAI : Hid _ := R5.info32 A3 HT3.out.len
      subst he
      clear HTW hA hL
      go_wp2_with fail
      refine Calls.mono (num_any 2 X6) ?_
      rintro e w' ⟨rfl, rfl⟩
      have HTW : Hid _ := HT.out
      clear HT
      obtain ⟨lv, hlv, hlr⟩ := HTW.out.rlog
      have HLC : Hid ((X6).drew.cell? ⟨rg, 35, none⟩ = some lv) := hlv
      have HLD : Hid (R5.HLr (X6).drew lv L3) := hlr
      have HTD : Hid (TW w og mb rg i m D L3 L3 ((cb, A3.toArray, 24) :: (bb, A2.toArray, 24) :: (ab, A1.toArray, 24) :: RW) (X6).drew) := HTW.out.step (Below.refl _ _).drew
      clear hlv hlr HTW
      go_wp2_with (first | (refine R5.load_mid_g (by rfl) 24 _ rfl cb 0 rfl A3 _ HLA.out Try.underlying24 rfl HAI.out ?_) | (refine build_g (by rfl) 24 _ rfl #[] (.agg ZL.toArray) (by simp) (HBD.out _) ?_))
      refine wp_region_held_drew (S := fun W => W.cell? ⟨rg, 35, none⟩ = some lv) (by kernel_rfl) HLC.out (fun hHeld => ?_)
      clear HLC
      generalize (X6).drew = F at *
      refine wpAnyH_take (i := 0) (oi := { dst := some 109, op := Go.Op.move (Go.Operand.tmp 15), type := 34, pos := _, after := #[], guard := none }) (v := .pointer (some ⟨og, 0, none⟩)) rfl (by kernel_rfl) (by kernel_rfl) (by kernel_rfl) (fun _ _ _ h => h) (Or.inl ⟨by rfl, fun w' hw' => ?_⟩) hHeld ?_
      · first | (go_simp; done) | (go_simp; rfl)
      try simp only [Act.put, List.setIfInBounds_toArray, List.set_cons_zero, List.set_cons_succ]
      refine wpAnyH_take (i := 2) (oi := { dst := some 111, op := Go.Op.move (Go.Operand.tmp 16), type := 35, pos := _, after := #[], guard := none }) (v := .pointer (some ⟨rg, 0, none⟩)) rfl (by kernel_rfl) (by kernel_rfl) (by kernel_rfl) (fun _ _ _ h => h) (Or.inl ⟨by rfl, fun w' hw' => ?_⟩) hHeld ?_
      · first | (go_simp; done) | (go_simp; rfl)
      try simp only [Act.put, List.setIfInBounds_toArray, List.set_cons_zero, List.set_cons_succ]
      refine wpAnyH_take (i := 3) (oi := { dst := some 112, op := Go.Op.nilCheck (Go.Operand.tmp 111), type := 0, pos := _, after := #[{ on := 2, ground := Go.Ground.data }], guard := none }) (v := .pointer (some ⟨rg, 0, none⟩)) rfl (by kernel_rfl) (by kernel_rfl) (by kernel_rfl) (fun _ _ _ h => h) (Or.inl ⟨by rfl, fun w' hw' => ?_⟩) hHeld ?_
      · first | (go_simp; done) | (go_simp; rfl)
      try simp only [Act.put, List.setIfInBounds_toArray, List.set_cons_zero, List.set_cons_succ]
      refine wpAnyH_take (i := 4) (oi := { dst := some 113, op := Go.Op.fieldAddr 53 (Go.Operand.tmp 112) 4, type := 0, pos := _, after := #[{ on := 3, ground := Go.Ground.data }], guard := none }) (v := .pointer (some ⟨rg, 35, none⟩)) rfl (by kernel_rfl) (by kernel_rfl) (by kernel_rfl) (fun _ _ _ h => h) (Or.inl ⟨by rfl, fun w' hw' => ?_⟩) hHeld ?_
      · first | (go_simp; done) | (go_simp; rfl)
      try simp only [Act.put, List.setIfInBounds_toArray, List.set_cons_zero, List.set_cons_succ]
      refine wpAnyH_take (i := 5) (oi := { dst := some 114, op := Go.Op.load 50 (Go.Operand.tmp 113), type := 50, pos := _, after := #[{ on := 4, ground := Go.Ground.data }], guard := none }) (v := lv) rfl (by kernel_rfl) (by kernel_rfl) (by kernel_rfl) (fun _ _ _ h => h) (Or.inl ⟨by rfl, fun w' hw' => ?_⟩) hHeld ?_
      · have hcc : w'.cell? ⟨rg, 35, none⟩ = some lv := hw'; first | (go_simp; done) | (go_simp; rfl)
      try simp only [Act.put, List.setIfInBounds_toArray, List.set_cons_zero, List.set_cons_succ]
      refine wpAnyH_ready (rs := [1]) (by kernel_rfl) (by simp) ?_
      refine AllReadyH.cons (o := { dst := some 110, op := Go.Op.call { callee := Go.Callee.value (Go.Operand.func 18), args := #[Go.Operand.tmp 109], argTypes := #[34] }, type := 50, pos := _, after := #[{ on := 0, ground := Go.Ground.data }], guard := none }) rfl (fun K hK => ?_) AllReadyH.nil
      rw [if_pos (by rfl)]
      go_wp2_with fail
      refine Calls.mono (HTD.out.log HN3.out) ?_
      rintro e F1 ⟨vl, rfl, hv1, hbF⟩
      have hHF : F1.cell? ⟨rg, 35, none⟩ = some lv := (hbF.cell (block_lt hHeld)).trans hHeld
      have HSL : Hid (Calls Try.prog 17 #[vl, lv] F1 fun e w' => e = .returned (.bool true) ∧ Below F1.heap.size F1 w') := slog_same vl lv L3 F1 HN3.out hv1 (R5.hlr_below HLD.out hbF)
      have HB1 : Hid (Below w.heap.size w F1) := HTD.out.bel.trans (hbF.mono HTD.out.bel.size)
      clear hv1 hbF HLD
      refine hK.out _ _ hHF (fun _ => ?_)
      clear hK K
      try simp only [Act.put, List.setIfInBounds_toArray, List.set_cons_zero, List.set_cons_succ]
      have hHeld := hHF
      refine wpAnyH_ready (rs := [6]) (by kernel_rfl) (by simp) ?_
      refine AllReadyH.cons (o := { dst := some 115, op := Go.Op.call { callee := Go.Callee.value (Go.Operand.func 17), args := #[Go.Operand.tmp 110, Go.Operand.tmp 114], argTypes := #[50, 50] }, type := 4, pos := _, after := #[{ on := 1, ground := Go.Ground.data }, { on := 5, ground := Go.Ground.data }, { on := 1, ground := Go.Ground.chain }], guard := none }) rfl (fun K hK => ?_) AllReadyH.nil
      rw [if_pos (by rfl)]
      go_wp2_with fail
      refine Calls.mono HSL.out ?_
      rintro e F2 ⟨rfl, hbG⟩
      have hHG : F2.cell? ⟨rg, 35, none⟩ = some lv := (hbG.cell (block_lt hHeld)).trans hHeld
      have HB2 : Hid (Below w.heap.size w F2) := HB1.out.trans (hbG.mono HB1.out.size)
      clear hbG HSL
      refine hK.out _ _ hHG (fun _ => ?_)
      clear hK K
      try simp only [Act.put, List.setIfInBounds_toArray, List.set_cons_zero, List.set_cons_succ]
      have hHeld := hHG
      refine wpAnyH_take (i := 7) (oi := { dst := some 116, op := Go.Op.move (Go.Operand.tmp 115), type := 4, pos := _, after := #[{ on := 6, ground := Go.Ground.data }, { on := 6, ground := Go.Ground.chain }], guard := none }) (v := .bool true) rfl (by kernel_rfl) (by kernel_rfl) (by kernel_rfl) (fun _ _ _ h => h) (Or.inl ⟨by rfl, fun w' hw' => ?_⟩) hHeld ?_
      · first | (go_simp; done) | (go_simp; rfl)
      try simp only [Act.put, List.setIfInBounds_toArray, List.set_cons_zero, List.set_cons_succ]
      refine wpAnyH_ready (rs := [8]) (by kernel_rfl) (by simp) ?_
      refine AllReadyH.cons (o := { dst := some 117, op := Go.Op.call { callee := Go.Callee.value (Go.Operand.func 6), args := #[], argTypes := #[] }, type := 4, pos := _, after := #[{ on := 7, ground := Go.Ground.chain }, { on := 7, ground := Go.Ground.guard }], guard := some (7, true) }) rfl (fun K hK => ?_) AllReadyH.nil
      rw [if_pos (by rfl)]
      go_wp2_with fail
      refine Calls.mono (HKN.out F2) ?_
      rintro e F3 ⟨rfl, hbK⟩
      have hHK : F3.cell? ⟨rg, 35, none⟩ = some lv := (hbK.cell (block_lt hHeld)).trans hHeld
      have HB3 : Hid (Below w.heap.size w F3) := HB2.out.trans (hbK.mono HB2.out.size)
      clear hbK
      refine hK.out _ _ hHK (fun _ => ?_)
      clear hK K
      try simp only [Act.put, List.setIfInBounds_toArray, List.set_cons_zero, List.set_cons_succ]
      have hHeld := hHK
      refine wpAnyH_take (i := 9) (oi := { dst := some 118, op := Go.Op.pick (Go.Operand.tmp 116) (Go.Operand.tmp 117) (Go.Operand.const (Go.Value.bool false)), type := 4, pos := _, after := #[{ on := 7, ground := Go.Ground.data }, { on := 8, ground := Go.Ground.data }], guard := none }) (v := .bool true) rfl (by kernel_rfl) (by kernel_rfl) (by kernel_rfl) (fun _ _ _ h => h) (Or.inl ⟨by rfl, fun w' hw' => ?_⟩) hHeld ?_
      · first | (go_simp; done) | (go_simp; rfl)
      try simp only [Act.put, List.setIfInBounds_toArray, List.set_cons_zero, List.set_cons_succ]
      refine wpAnyH_take (i := 10) (oi := { dst := some 14, op := Go.Op.assign (Go.Operand.tmp 118), type := 4, pos := _, after := #[{ on := 9, ground := Go.Ground.data }, { on := 8, ground := Go.Ground.chain }, { on := 0, ground := Go.Ground.phase }, { on := 1, ground := Go.Ground.phase }, { on := 2, ground := Go.Ground.phase }, { on := 3, ground := Go.Ground.phase }, { on := 4, ground := Go.Ground.phase }, { on := 5, ground := Go.Ground.phase }, { on := 6, ground := Go.Ground.phase }, { on := 7, ground := Go.Ground.phase }, { on := 8, ground := Go.Ground.phase }, { on := 9, ground := Go.Ground.phase }], guard := none }) (v := .bool true) rfl (by kernel_rfl) (by kernel_rfl) (by kernel_rfl) (fun _ _ _ h => h) (Or.inl ⟨by rfl, fun w' hw' => ?_⟩) hHeld ?_
      · first | (go_simp; done) | (go_simp; rfl)
      try simp only [Act.put, List.setIfInBounds_toArray, List.set_cons_zero, List.set_cons_succ]
      refine wpAnyH_done (by kernel_rfl) ?_ _
      clear hHeld hHK hHG hHF
      go_wp2
      go_ret
      exact ⟨rfl, HB3.out⟩
  | false =>
    obtain ⟨he, hA, hL⟩ := HT2.out.n rfl
    have HT : Hid (TW w og mb rg i m D L2 L2 ((bb, A2.toArray, 24) :: (ab, A1.toArray, 24) :: RW) X4) := by
      have h := HTW.out
      rw [hL] at h
      show TW _ _ _ _ _ _ _ _ _ _ _
      rw [hL]; exact h
    have hne : ∀ W, (binOp .neq 24 (.agg A2.toArray) (.agg ZL.toArray)).run Try.prog W = .ok (.bool false) W := fun W => by
      have h := HT2.out.ne W
      rw [hA] at h ⊢
      exact h
    have HLA : Hid ((X4).rangeAt bb 0 A2) := RS.at (t := 24) HTW.out.rs (by simp)
    have HAI : Hid _ := R5.info32 A2 HT2.out.len
    subst he
    clear HTW hA hL
    go_wp2_with fail
    refine Calls.mono (num_any 2 X4) ?_
    rintro e w' ⟨rfl, rfl⟩
    have HTW : Hid _ := HT.out
    clear HT
    have HLM : Hid ((X4).rangeAt w.heap.size 0 ML) := RS.at (t := 24) HTW.out.rs (by simp [HRW.out])
    have HLG : Hid ((X4).rangeAt (w.heap.size + 1) 0 GL) := RS.at (t := 26) HTW.out.rs (by simp [HRW.out])
    have HLP : Hid ((X4).rangeAt (w.heap.size + 1 + 1) 0 PL) := RS.at (t := 29) HTW.out.rs (by simp [HRW.out])
    have HLR : Hid ((X4).rangeAt (w.heap.size + 1 + 1 + 1) 0 RL) := RS.at (t := 32) HTW.out.rs (by simp [HRW.out])
    go_wp2_with (first | (refine R5.load_mid_g (by rfl) 24 _ rfl bb 0 rfl A2 _ HLA.out Try.underlying24 rfl HAI.out ?_) | (refine build_g (by rfl) 24 _ rfl #[] (.agg ZL.toArray) (by simp) (HBD.out _) ?_) | (refine wpList_load_mid rfl 24 _ rfl w.heap.size 0 rfl ML _ HLM.out Try.underlying24 rfl HMI.out ?_) | (refine wpList_load_mid rfl 32 _ rfl (w.heap.size + 1 + 1 + 1) 0 rfl RL _ HLR.out Try.underlying32 rfl HRI.out ?_) | (go_at_call 14; fail))
    refine Calls.mono (HT3.out.p og mb rg _ X4 HTW.out) ?_
    rintro e X5 ⟨rfl, hT⟩
    have HTX : Hid (TW w og mb rg i m D L3 L2 ((bb, A2.toArray, 24) :: (ab, A1.toArray, 24) :: RW) X5) := hT
    clear hT HTW HLM HLG HLP HLR
    have HTW : Hid (TW w og mb rg i m D L3 L2 ((X5.heap.size, A3.toArray, 24) :: (bb, A2.toArray, 24) :: (ab, A1.toArray, 24) :: RW) ((X5.alloc (.cells ZL.toArray 24 (0, 0))).setRow X5.heap.size A3.toArray)) := HTX.out.newrow _ _ _
    have HZA : Hid ((X5.alloc (.cells ZL.toArray 24 (0, 0))).heap[X5.heap.size]? = some (.cells ZL.toArray 24 (0, 0))) := heap_alloc_new _ _
    have HAS : Hid (A3.toArray.size = 32) := by show _ = _; simpa using HT3.out.len
    have HA1 : Hid _ := HT3.out.one
    have HLR : Hid (((X5.alloc (.cells ZL.toArray 24 (0, 0))).setRow X5.heap.size A3.toArray).rangeAt (w.heap.size + 1 + 1 + 1) 0 RL) := RS.at (t := 32) HTW.out.rs (by simp [HRW.out])
    go_wp2_with (first
      | (refine wpList_store_row rfl 24 _ _ rfl X5.heap.size A3.toArray rfl rfl 24 ZL.toArray HZA.out (R5.info32a _ HAS.out) (HZS.out.trans HAS.out.symm) HA1.out ?_)
      | (refine wpList_load_mid rfl 32 _ rfl (w.heap.size + 1 + 1 + 1) 0 rfl RL _ HLR.out Try.underlying32 rfl HRI.out ?_))
    refine Calls.mono (HRC.out _) ?_
    rintro e X6 ⟨rfl, hb6⟩
    have HT6 : Hid (TW w og mb rg i m D L3 L2 ((X5.heap.size, A3.toArray, 24) :: (bb, A2.toArray, 24) :: (ab, A1.toArray, 24) :: RW) X6) := HTW.out.step hb6
    clear HTW HTX HZA HLR hb6 HAS HA1
    have HTW : Hid _ := HT6.out
    clear HT6
    generalize X5.heap.size = cb at *
    cases rk with
    | true =>
      have he := HT3.out.y rfl
      subst he
      have HAI : Hid _ := R5.info32 A3 HT3.out.len
      have HRD : Hid (RS ((cb, A3.toArray, 24) :: (bb, A2.toArray, 24) :: (ab, A1.toArray, 24) :: RW) (X6).drew) := HTW.out.rs
      have HTD : Hid (TW w og mb rg i m D L3 L2 ((cb, A3.toArray, 24) :: (bb, A2.toArray, 24) :: (ab, A1.toArray, 24) :: RW) (X6).drew) := HTW.out.step (Below.refl _ _).drew
      go_wp2
      refine wp_region_held_drew (S := RS ((cb, A3.toArray, 24) :: (bb, A2.toArray, 24) :: (ab, A1.toArray, 24) :: RW)) (by kernel_rfl) HRD.out (fun hHeld => ?_)
      clear HTW HRD
      have HTW : Hid _ := HTD.out
      clear HTD
      generalize (X6).drew = X7 at *
      refine wpAnyH_take (i := 0) (oi := { dst := some 90, op := Go.Op.move (Go.Operand.tmp 22), type := 38, pos := _, after := #[], guard := none }) (v := .int .i64 0) rfl (by kernel_rfl) (by kernel_rfl) (by kernel_rfl) (fun _ _ _ h => h) (Or.inl ⟨by rfl, fun w' hw' => ?_⟩) hHeld ?_
      · first | (go_simp; done) | (go_simp; rfl)
      try simp only [Act.put, List.setIfInBounds_toArray, List.set_cons_zero, List.set_cons_succ]
      refine wpAnyH_ready (rs := [1]) (by kernel_rfl) (by simp) ?_
      refine AllReadyH.cons (o := { dst := some 91, op := Go.Op.call { callee := Go.Callee.value (Go.Operand.func 9), args := #[Go.Operand.tmp 90], argTypes := #[38] }, type := 3, pos := _, after := #[{ on := 0, ground := Go.Ground.data }], guard := none }) rfl (fun K hK => ?_) AllReadyH.nil
      rw [if_pos (by rfl)]
      go_wp2_with fail
      refine Calls.mono (num_any 0 X7) ?_
      rintro e w' ⟨rfl, rfl⟩
      refine hK.out _ _ hHeld (fun _ => ?_)
      clear hK K
      try simp only [Act.put, List.setIfInBounds_toArray, List.set_cons_zero, List.set_cons_succ]
      refine wpAnyH_take (i := 2) (oi := { dst := some 92, op := Go.Op.binOp Go.BinOp.neq 3 (Go.Operand.tmp 91) (Go.Operand.const (Go.Value.int Go.IntKind.i64 0)) 3, type := 4, pos := _, after := #[{ on := 1, ground := Go.Ground.data }], guard := none }) (v := .bool false) rfl (by kernel_rfl) (by kernel_rfl) (by kernel_rfl) (fun _ _ _ h => h) (Or.inl ⟨by rfl, fun w' hw' => ?_⟩) hHeld ?_
      · first | (go_simp; done) | (go_simp; rfl)
      try simp only [Act.put, List.setIfInBounds_toArray, List.set_cons_zero, List.set_cons_succ]
      refine wpAnyH_take (i := 3) (oi := { dst := some 93, op := Go.Op.move (Go.Operand.tmp 92), type := 4, pos := _, after := #[{ on := 2, ground := Go.Ground.data }, { on := 1, ground := Go.Ground.chain }], guard := none }) (v := .bool false) rfl (by kernel_rfl) (by kernel_rfl) (by kernel_rfl) (fun _ _ _ h => h) (Or.inl ⟨by rfl, fun w' hw' => ?_⟩) hHeld ?_
      · first | (go_simp; done) | (go_simp; rfl)
      try simp only [Act.put, List.setIfInBounds_toArray, List.set_cons_zero, List.set_cons_succ]
      refine wpAnyH_take (i := 4) (oi := { dst := some 94, op := Go.Op.load 24 (Go.Operand.tmp 21), type := 24, pos := _, after := #[{ on := 3, ground := Go.Ground.guard }], guard := some (3, false) }) rfl (by kernel_rfl) (by kernel_rfl) (by kernel_rfl) (fun _ _ _ h => h) (yieldsIf_load_mid (by rfl) 24 (.tmp 21) rfl (cb) (0) rfl (A3) _ (fun _ h => RS.at (t := 24) h (by simp [HRW.out])) Try.underlying24 rfl HAI.out) hHeld ?_
      try simp only [Act.put, List.setIfInBounds_toArray, List.set_cons_zero, List.set_cons_succ]
      refine wpAnyH_take (i := 5) (oi := { dst := some 95, op := Go.Op.move (Go.Operand.tmp 16), type := 35, pos := _, after := #[{ on := 3, ground := Go.Ground.guard }], guard := some (3, false) }) (v := .pointer (some ⟨rg, 0, none⟩)) rfl (by kernel_rfl) (by kernel_rfl) (by kernel_rfl) (fun _ _ _ h => h) (Or.inl ⟨by rfl, fun w' hw' => ?_⟩) hHeld ?_
      · first | (go_simp; done) | (go_simp; rfl)
      try simp only [Act.put, List.setIfInBounds_toArray, List.set_cons_zero, List.set_cons_succ]
      refine wpAnyH_take (i := 6) (oi := { dst := some 96, op := Go.Op.load 24 (Go.Operand.tmp 9), type := 24, pos := _, after := #[{ on := 3, ground := Go.Ground.guard }], guard := some (3, false) }) rfl (by kernel_rfl) (by kernel_rfl) (by kernel_rfl) (fun _ _ _ h => h) (yieldsIf_load_mid (by rfl) 24 (.tmp 9) rfl (w.heap.size) (0) rfl (ML) _ (fun _ h => RS.at (t := 24) h (by simp [HRW.out])) Try.underlying24 rfl HMI.out) hHeld ?_
      try simp only [Act.put, List.setIfInBounds_toArray, List.set_cons_zero, List.set_cons_succ]
      refine wpAnyH_take (i := 7) (oi := { dst := some 97, op := Go.Op.load 32 (Go.Operand.tmp 13), type := 32, pos := _, after := #[{ on := 3, ground := Go.Ground.guard }], guard := some (3, false) }) rfl (by kernel_rfl) (by kernel_rfl) (by kernel_rfl) (fun _ _ _ h => h) (yieldsIf_load_mid (by rfl) 32 (.tmp 13) rfl (w.heap.size + 1 + 1 + 1) (0) rfl (RL) _ (fun _ h => RS.at (t := 32) h (by simp [HRW.out])) Try.underlying32 rfl HRI.out) hHeld ?_
      try simp only [Act.put, List.setIfInBounds_toArray, List.set_cons_zero, List.set_cons_succ]
      refine wpAnyH_ready (rs := [8]) (by kernel_rfl) (by simp) ?_
      refine AllReadyH.cons (o := { dst := some 98, op := Go.Op.call { callee := Go.Callee.value (Go.Operand.func 16), args := #[Go.Operand.tmp 95, Go.Operand.tmp 96, Go.Operand.tmp 97], argTypes := #[35, 24, 32] }, type := 24, pos := _, after := #[{ on := 5, ground := Go.Ground.data }, { on := 6, ground := Go.Ground.data }, { on := 7, ground := Go.Ground.data }, { on := 3, ground := Go.Ground.chain }, { on := 3, ground := Go.Ground.guard }], guard := some (3, false) }) rfl (fun K hK => ?_) AllReadyH.nil
      rw [if_pos (by rfl)]
      go_wp2_with fail
      refine Calls.mono (HT3.out.r rfl og mb rg _ X7 HTW.out) ?_
      rintro e Y7 ⟨rfl, hT⟩
      have hRY := hT.rs
      have HTY : Hid _ := hT
      clear hHeld hT
      refine hK.out _ _ hRY (fun _ => ?_)
      clear hK K
      try simp only [Act.put, List.setIfInBounds_toArray, List.set_cons_zero, List.set_cons_succ]
      have hHeld := hRY
      have hne := HT3.out.ne
      refine wpAnyH_take (i := 9) (oi := { dst := some 99, op := Go.Op.binOp Go.BinOp.neq 24 (Go.Operand.tmp 94) (Go.Operand.tmp 98) 24, type := 4, pos := _, after := #[{ on := 4, ground := Go.Ground.data }, { on := 8, ground := Go.Ground.data }, { on := 3, ground := Go.Ground.guard }], guard := some (3, false) }) (v := .bool false) rfl (by kernel_rfl) (by kernel_rfl) (by kernel_rfl) (fun _ _ _ h => h) (Or.inl ⟨by rfl, fun w' hw' => ?_⟩) hHeld ?_
      · first | (go_simp; done) | (go_simp; rfl)
      try simp only [Act.put, List.setIfInBounds_toArray, List.set_cons_zero, List.set_cons_succ]
      refine wpAnyH_take (i := 10) (oi := { dst := some 100, op := Go.Op.pick (Go.Operand.tmp 93) (Go.Operand.const (Go.Value.bool true)) (Go.Operand.tmp 99), type := 4, pos := _, after := #[{ on := 3, ground := Go.Ground.data }, { on := 9, ground := Go.Ground.data }], guard := none }) (v := .bool false) rfl (by kernel_rfl) (by kernel_rfl) (by kernel_rfl) (fun _ _ _ h => h) (Or.inl ⟨by rfl, fun w' hw' => ?_⟩) hHeld ?_
      · first | (go_simp; done) | (go_simp; rfl)
      try simp only [Act.put, List.setIfInBounds_toArray, List.set_cons_zero, List.set_cons_succ]
      refine wpAnyH_done (by kernel_rfl) ?_ _
      clear hHeld hRY hne HTW
      have HTW : Hid _ := HTY.out
      clear HTY
      obtain ⟨lv, hlv, hlr⟩ := HTW.out.rlog
      have HLC : Hid ((Y7).drew.cell? ⟨rg, 35, none⟩ = some lv) := hlv
      have HLD : Hid (R5.HLr (Y7).drew lv L3) := hlr
      have HTD : Hid (TW w og mb rg i m D L3 L3 ((cb, A3.toArray, 24) :: (bb, A2.toArray, 24) :: (ab, A1.toArray, 24) :: RW) (Y7).drew) := HTW.out.step (Below.refl _ _).drew
      clear hlv hlr HTW
      go_wp2
      refine wp_region_held_drew (S := fun W => W.cell? ⟨rg, 35, none⟩ = some lv) (by kernel_rfl) HLC.out (fun hHeld => ?_)
      clear HLC
      generalize (Y7).drew = F at *
      refine wpAnyH_take (i := 0) (oi := { dst := some 109, op := Go.Op.move (Go.Operand.tmp 15), type := 34, pos := _, after := #[], guard := none }) (v := .pointer (some ⟨og, 0, none⟩)) rfl (by kernel_rfl) (by kernel_rfl) (by kernel_rfl) (fun _ _ _ h => h) (Or.inl ⟨by rfl, fun w' hw' => ?_⟩) hHeld ?_
      · first | (go_simp; done) | (go_simp; rfl)
      try simp only [Act.put, List.setIfInBounds_toArray, List.set_cons_zero, List.set_cons_succ]
      refine wpAnyH_take (i := 2) (oi := { dst := some 111, op := Go.Op.move (Go.Operand.tmp 16), type := 35, pos := _, after := #[], guard := none }) (v := .pointer (some ⟨rg, 0, none⟩)) rfl (by kernel_rfl) (by kernel_rfl) (by kernel_rfl) (fun _ _ _ h => h) (Or.inl ⟨by rfl, fun w' hw' => ?_⟩) hHeld ?_
      · first | (go_simp; done) | (go_simp; rfl)
      try simp only [Act.put, List.setIfInBounds_toArray, List.set_cons_zero, List.set_cons_succ]
      refine wpAnyH_take (i := 3) (oi := { dst := some 112, op := Go.Op.nilCheck (Go.Operand.tmp 111), type := 0, pos := _, after := #[{ on := 2, ground := Go.Ground.data }], guard := none }) (v := .pointer (some ⟨rg, 0, none⟩)) rfl (by kernel_rfl) (by kernel_rfl) (by kernel_rfl) (fun _ _ _ h => h) (Or.inl ⟨by rfl, fun w' hw' => ?_⟩) hHeld ?_
      · first | (go_simp; done) | (go_simp; rfl)
      try simp only [Act.put, List.setIfInBounds_toArray, List.set_cons_zero, List.set_cons_succ]
      refine wpAnyH_take (i := 4) (oi := { dst := some 113, op := Go.Op.fieldAddr 53 (Go.Operand.tmp 112) 4, type := 0, pos := _, after := #[{ on := 3, ground := Go.Ground.data }], guard := none }) (v := .pointer (some ⟨rg, 35, none⟩)) rfl (by kernel_rfl) (by kernel_rfl) (by kernel_rfl) (fun _ _ _ h => h) (Or.inl ⟨by rfl, fun w' hw' => ?_⟩) hHeld ?_
      · first | (go_simp; done) | (go_simp; rfl)
      try simp only [Act.put, List.setIfInBounds_toArray, List.set_cons_zero, List.set_cons_succ]
      refine wpAnyH_take (i := 5) (oi := { dst := some 114, op := Go.Op.load 50 (Go.Operand.tmp 113), type := 50, pos := _, after := #[{ on := 4, ground := Go.Ground.data }], guard := none }) (v := lv) rfl (by kernel_rfl) (by kernel_rfl) (by kernel_rfl) (fun _ _ _ h => h) (Or.inl ⟨by rfl, fun w' hw' => ?_⟩) hHeld ?_
      · have hcc : w'.cell? ⟨rg, 35, none⟩ = some lv := hw'; first | (go_simp; done) | (go_simp; rfl)
      try simp only [Act.put, List.setIfInBounds_toArray, List.set_cons_zero, List.set_cons_succ]
      refine wpAnyH_ready (rs := [1]) (by kernel_rfl) (by simp) ?_
      refine AllReadyH.cons (o := { dst := some 110, op := Go.Op.call { callee := Go.Callee.value (Go.Operand.func 18), args := #[Go.Operand.tmp 109], argTypes := #[34] }, type := 50, pos := _, after := #[{ on := 0, ground := Go.Ground.data }], guard := none }) rfl (fun K hK => ?_) AllReadyH.nil
      rw [if_pos (by rfl)]
      go_wp2_with fail
      refine Calls.mono (HTD.out.log HN3.out) ?_
      rintro e F1 ⟨vl, rfl, hv1, hbF⟩
      have hHF : F1.cell? ⟨rg, 35, none⟩ = some lv := (hbF.cell (block_lt hHeld)).trans hHeld
      have HSL : Hid (Calls Try.prog 17 #[vl, lv] F1 fun e w' => e = .returned (.bool true) ∧ Below F1.heap.size F1 w') := slog_same vl lv L3 F1 HN3.out hv1 (R5.hlr_below HLD.out hbF)
      have HB1 : Hid (Below w.heap.size w F1) := HTD.out.bel.trans (hbF.mono HTD.out.bel.size)
      clear hv1 hbF HLD
      refine hK.out _ _ hHF (fun _ => ?_)
      clear hK K
      try simp only [Act.put, List.setIfInBounds_toArray, List.set_cons_zero, List.set_cons_succ]
      have hHeld := hHF
      refine wpAnyH_ready (rs := [6]) (by kernel_rfl) (by simp) ?_
      refine AllReadyH.cons (o := { dst := some 115, op := Go.Op.call { callee := Go.Callee.value (Go.Operand.func 17), args := #[Go.Operand.tmp 110, Go.Operand.tmp 114], argTypes := #[50, 50] }, type := 4, pos := _, after := #[{ on := 1, ground := Go.Ground.data }, { on := 5, ground := Go.Ground.data }, { on := 1, ground := Go.Ground.chain }], guard := none }) rfl (fun K hK => ?_) AllReadyH.nil
      rw [if_pos (by rfl)]
      go_wp2_with fail
      refine Calls.mono HSL.out ?_
      rintro e F2 ⟨rfl, hbG⟩
      have hHG : F2.cell? ⟨rg, 35, none⟩ = some lv := (hbG.cell (block_lt hHeld)).trans hHeld
      have HB2 : Hid (Below w.heap.size w F2) := HB1.out.trans (hbG.mono HB1.out.size)
      clear hbG HSL
      refine hK.out _ _ hHG (fun _ => ?_)
      clear hK K
      try simp only [Act.put, List.setIfInBounds_toArray, List.set_cons_zero, List.set_cons_succ]
      have hHeld := hHG
      refine wpAnyH_take (i := 7) (oi := { dst := some 116, op := Go.Op.move (Go.Operand.tmp 115), type := 4, pos := _, after := #[{ on := 6, ground := Go.Ground.data }, { on := 6, ground := Go.Ground.chain }], guard := none }) (v := .bool true) rfl (by kernel_rfl) (by kernel_rfl) (by kernel_rfl) (fun _ _ _ h => h) (Or.inl ⟨by rfl, fun w' hw' => ?_⟩) hHeld ?_
      · first | (go_simp; done) | (go_simp; rfl)
      try simp only [Act.put, List.setIfInBounds_toArray, List.set_cons_zero, List.set_cons_succ]
      refine wpAnyH_ready (rs := [8]) (by kernel_rfl) (by simp) ?_
      refine AllReadyH.cons (o := { dst := some 117, op := Go.Op.call { callee := Go.Callee.value (Go.Operand.func 6), args := #[], argTypes := #[] }, type := 4, pos := _, after := #[{ on := 7, ground := Go.Ground.chain }, { on := 7, ground := Go.Ground.guard }], guard := some (7, true) }) rfl (fun K hK => ?_) AllReadyH.nil
      rw [if_pos (by rfl)]
      go_wp2_with fail
      refine Calls.mono (HKN.out F2) ?_
      rintro e F3 ⟨rfl, hbK⟩
      have hHK : F3.cell? ⟨rg, 35, none⟩ = some lv := (hbK.cell (block_lt hHeld)).trans hHeld
      have HB3 : Hid (Below w.heap.size w F3) := HB2.out.trans (hbK.mono HB2.out.size)
      clear hbK
      refine hK.out _ _ hHK (fun _ => ?_)
      clear hK K
      try simp only [Act.put, List.setIfInBounds_toArray, List.set_cons_zero, List.set_cons_succ]
      have hHeld := hHK
      refine wpAnyH_take (i := 9) (oi := { dst := some 118, op := Go.Op.pick (Go.Operand.tmp 116) (Go.Operand.tmp 117) (Go.Operand.const (Go.Value.bool false)), type := 4, pos := _, after := #[{ on := 7, ground := Go.Ground.data }, { on := 8, ground := Go.Ground.data }], guard := none }) (v := .bool true) rfl (by kernel_rfl) (by kernel_rfl) (by kernel_rfl) (fun _ _ _ h => h) (Or.inl ⟨by rfl, fun w' hw' => ?_⟩) hHeld ?_
      · first | (go_simp; done) | (go_simp; rfl)
      try simp only [Act.put, List.setIfInBounds_toArray, List.set_cons_zero, List.set_cons_succ]
      refine wpAnyH_take (i := 10) (oi := { dst := some 14, op := Go.Op.assign (Go.Operand.tmp 118), type := 4, pos := _, after := #[{ on := 9, ground := Go.Ground.data }, { on := 8, ground := Go.Ground.chain }, { on := 0, ground := Go.Ground.phase }, { on := 1, ground := Go.Ground.phase }, { on := 2, ground := Go.Ground.phase }, { on := 3, ground := Go.Ground.phase }, { on := 4, ground := Go.Ground.phase }, { on := 5, ground := Go.Ground.phase }, { on := 6, ground := Go.Ground.phase }, { on := 7, ground := Go.Ground.phase }, { on := 8, ground := Go.Ground.phase }, { on := 9, ground := Go.Ground.phase }], guard := none }) (v := .bool true) rfl (by kernel_rfl) (by kernel_rfl) (by kernel_rfl) (fun _ _ _ h => h) (Or.inl ⟨by rfl, fun w' hw' => ?_⟩) hHeld ?_
      · first | (go_simp; done) | (go_simp; rfl)
      try simp only [Act.put, List.setIfInBounds_toArray, List.set_cons_zero, List.set_cons_succ]
      refine wpAnyH_done (by kernel_rfl) ?_ _
      clear hHeld hHK hHG hHF
      go_wp2
      go_ret
      exact ⟨rfl, HB3.out⟩
    | false =>
      obtain ⟨he, hA, hL⟩ := HT3.out.n rfl
      have HT : Hid (TW w og mb rg i m D L3 L3 ((cb, A3.toArray, 24) :: (bb, A2.toArray, 24) :: (ab, A1.toArray, 24) :: RW) X6) := by
        have h := HTW.out
        rw [hL] at h
        show TW _ _ _ _ _ _ _ _ _ _ _
        rw [hL]; exact h
      have hne : ∀ W, (binOp .neq 24 (.agg A3.toArray) (.agg ZL.toArray)).run Try.prog W = .ok (.bool false) W := fun W => by
        have h := HT3.out.ne W
        rw [hA] at h ⊢
        exact h
      have HLA : Hid ((X6).rangeAt cb 0 A3) := RS.at (t := 24) HTW.out.rs (by simp)
      have HAI : Hid _ := R5.info32 A3 HT3.out.len
      subst he
      clear HTW hA hL
      go_wp2_with fail
      refine Calls.mono (num_any 2 X6) ?_
      rintro e w' ⟨rfl, rfl⟩
      have HTW : Hid _ := HT.out
      clear HT
      obtain ⟨lv, hlv, hlr⟩ := HTW.out.rlog
      have HLC : Hid ((X6).drew.cell? ⟨rg, 35, none⟩ = some lv) := hlv
      have HLD : Hid (R5.HLr (X6).drew lv L3) := hlr
      have HTD : Hid (TW w og mb rg i m D L3 L3 ((cb, A3.toArray, 24) :: (bb, A2.toArray, 24) :: (ab, A1.toArray, 24) :: RW) (X6).drew) := HTW.out.step (Below.refl _ _).drew
      clear hlv hlr HTW
      go_wp2_with (first | (refine R5.load_mid_g (by rfl) 24 _ rfl cb 0 rfl A3 _ HLA.out Try.underlying24 rfl HAI.out ?_) | (refine build_g (by rfl) 24 _ rfl #[] (.agg ZL.toArray) (by simp) (HBD.out _) ?_))
      refine wp_region_held_drew (S := fun W => W.cell? ⟨rg, 35, none⟩ = some lv) (by kernel_rfl) HLC.out (fun hHeld => ?_)
      clear HLC
      generalize (X6).drew = F at *
      refine wpAnyH_take (i := 0) (oi := { dst := some 109, op := Go.Op.move (Go.Operand.tmp 15), type := 34, pos := _, after := #[], guard := none }) (v := .pointer (some ⟨og, 0, none⟩)) rfl (by kernel_rfl) (by kernel_rfl) (by kernel_rfl) (fun _ _ _ h => h) (Or.inl ⟨by rfl, fun w' hw' => ?_⟩) hHeld ?_
      · first | (go_simp; done) | (go_simp; rfl)
      try simp only [Act.put, List.setIfInBounds_toArray, List.set_cons_zero, List.set_cons_succ]
      refine wpAnyH_take (i := 2) (oi := { dst := some 111, op := Go.Op.move (Go.Operand.tmp 16), type := 35, pos := _, after := #[], guard := none }) (v := .pointer (some ⟨rg, 0, none⟩)) rfl (by kernel_rfl) (by kernel_rfl) (by kernel_rfl) (fun _ _ _ h => h) (Or.inl ⟨by rfl, fun w' hw' => ?_⟩) hHeld ?_
      · first | (go_simp; done) | (go_simp; rfl)
      try simp only [Act.put, List.setIfInBounds_toArray, List.set_cons_zero, List.set_cons_succ]
      refine wpAnyH_take (i := 3) (oi := { dst := some 112, op := Go.Op.nilCheck (Go.Operand.tmp 111), type := 0, pos := _, after := #[{ on := 2, ground := Go.Ground.data }], guard := none }) (v := .pointer (some ⟨rg, 0, none⟩)) rfl (by kernel_rfl) (by kernel_rfl) (by kernel_rfl) (fun _ _ _ h => h) (Or.inl ⟨by rfl, fun w' hw' => ?_⟩) hHeld ?_
      · first | (go_simp; done) | (go_simp; rfl)
      try simp only [Act.put, List.setIfInBounds_toArray, List.set_cons_zero, List.set_cons_succ]
      refine wpAnyH_take (i := 4) (oi := { dst := some 113, op := Go.Op.fieldAddr 53 (Go.Operand.tmp 112) 4, type := 0, pos := _, after := #[{ on := 3, ground := Go.Ground.data }], guard := none }) (v := .pointer (some ⟨rg, 35, none⟩)) rfl (by kernel_rfl) (by kernel_rfl) (by kernel_rfl) (fun _ _ _ h => h) (Or.inl ⟨by rfl, fun w' hw' => ?_⟩) hHeld ?_
      · first | (go_simp; done) | (go_simp; rfl)
      try simp only [Act.put, List.setIfInBounds_toArray, List.set_cons_zero, List.set_cons_succ]
      refine wpAnyH_take (i := 5) (oi := { dst := some 114, op := Go.Op.load 50 (Go.Operand.tmp 113), type := 50, pos := _, after := #[{ on := 4, ground := Go.Ground.data }], guard := none }) (v := lv) rfl (by kernel_rfl) (by kernel_rfl) (by kernel_rfl) (fun _ _ _ h => h) (Or.inl ⟨by rfl, fun w' hw' => ?_⟩) hHeld ?_
      · have hcc : w'.cell? ⟨rg, 35, none⟩ = some lv := hw'; first | (go_simp; done) | (go_simp; rfl)
      try simp only [Act.put, List.setIfInBounds_toArray, List.set_cons_zero, List.set_cons_succ]
      refine wpAnyH_ready (rs := [1]) (by kernel_rfl) (by simp) ?_
      refine AllReadyH.cons (o := { dst := some 110, op := Go.Op.call { callee := Go.Callee.value (Go.Operand.func 18), args := #[Go.Operand.tmp 109], argTypes := #[34] }, type := 50, pos := _, after := #[{ on := 0, ground := Go.Ground.data }], guard := none }) rfl (fun K hK => ?_) AllReadyH.nil
      rw [if_pos (by rfl)]
      go_wp2_with fail
      refine Calls.mono (HTD.out.log HN3.out) ?_
      rintro e F1 ⟨vl, rfl, hv1, hbF⟩
      have hHF : F1.cell? ⟨rg, 35, none⟩ = some lv := (hbF.cell (block_lt hHeld)).trans hHeld
      have HSL : Hid (Calls Try.prog 17 #[vl, lv] F1 fun e w' => e = .returned (.bool true) ∧ Below F1.heap.size F1 w') := slog_same vl lv L3 F1 HN3.out hv1 (R5.hlr_below HLD.out hbF)
      have HB1 : Hid (Below w.heap.size w F1) := HTD.out.bel.trans (hbF.mono HTD.out.bel.size)
      clear hv1 hbF HLD
      refine hK.out _ _ hHF (fun _ => ?_)
      clear hK K
      try simp only [Act.put, List.setIfInBounds_toArray, List.set_cons_zero, List.set_cons_succ]
      have hHeld := hHF
      refine wpAnyH_ready (rs := [6]) (by kernel_rfl) (by simp) ?_
      refine AllReadyH.cons (o := { dst := some 115, op := Go.Op.call { callee := Go.Callee.value (Go.Operand.func 17), args := #[Go.Operand.tmp 110, Go.Operand.tmp 114], argTypes := #[50, 50] }, type := 4, pos := _, after := #[{ on := 1, ground := Go.Ground.data }, { on := 5, ground := Go.Ground.data }, { on := 1, ground := Go.Ground.chain }], guard := none }) rfl (fun K hK => ?_) AllReadyH.nil
      rw [if_pos (by rfl)]
      go_wp2_with fail
      refine Calls.mono HSL.out ?_
      rintro e F2 ⟨rfl, hbG⟩
      have hHG : F2.cell? ⟨rg, 35, none⟩ = some lv := (hbG.cell (block_lt hHeld)).trans hHeld
      have HB2 : Hid (Below w.heap.size w F2) := HB1.out.trans (hbG.mono HB1.out.size)
      clear hbG HSL
      refine hK.out _ _ hHG (fun _ => ?_)
      clear hK K
      try simp only [Act.put, List.setIfInBounds_toArray, List.set_cons_zero, List.set_cons_succ]
      have hHeld := hHG
      refine wpAnyH_take (i := 7) (oi := { dst := some 116, op := Go.Op.move (Go.Operand.tmp 115), type := 4, pos := _, after := #[{ on := 6, ground := Go.Ground.data }, { on := 6, ground := Go.Ground.chain }], guard := none }) (v := .bool true) rfl (by kernel_rfl) (by kernel_rfl) (by kernel_rfl) (fun _ _ _ h => h) (Or.inl ⟨by rfl, fun w' hw' => ?_⟩) hHeld ?_
      · first | (go_simp; done) | (go_simp; rfl)
      try simp only [Act.put, List.setIfInBounds_toArray, List.set_cons_zero, List.set_cons_succ]
      refine wpAnyH_ready (rs := [8]) (by kernel_rfl) (by simp) ?_
      refine AllReadyH.cons (o := { dst := some 117, op := Go.Op.call { callee := Go.Callee.value (Go.Operand.func 6), args := #[], argTypes := #[] }, type := 4, pos := _, after := #[{ on := 7, ground := Go.Ground.chain }, { on := 7, ground := Go.Ground.guard }], guard := some (7, true) }) rfl (fun K hK => ?_) AllReadyH.nil
      rw [if_pos (by rfl)]
      go_wp2_with fail
      refine Calls.mono (HKN.out F2) ?_
      rintro e F3 ⟨rfl, hbK⟩
      have hHK : F3.cell? ⟨rg, 35, none⟩ = some lv := (hbK.cell (block_lt hHeld)).trans hHeld
      have HB3 : Hid (Below w.heap.size w F3) := HB2.out.trans (hbK.mono HB2.out.size)
      clear hbK
      refine hK.out _ _ hHK (fun _ => ?_)
      clear hK K
      try simp only [Act.put, List.setIfInBounds_toArray, List.set_cons_zero, List.set_cons_succ]
      have hHeld := hHK
      refine wpAnyH_take (i := 9) (oi := { dst := some 118, op := Go.Op.pick (Go.Operand.tmp 116) (Go.Operand.tmp 117) (Go.Operand.const (Go.Value.bool false)), type := 4, pos := _, after := #[{ on := 7, ground := Go.Ground.data }, { on := 8, ground := Go.Ground.data }], guard := none }) (v := .bool true) rfl (by kernel_rfl) (by kernel_rfl) (by kernel_rfl) (fun _ _ _ h => h) (Or.inl ⟨by rfl, fun w' hw' => ?_⟩) hHeld ?_
      · first | (go_simp; done) | (go_simp; rfl)
      try simp only [Act.put, List.setIfInBounds_toArray, List.set_cons_zero, List.set_cons_succ]
      refine wpAnyH_take (i := 10) (oi := { dst := some 14, op := Go.Op.assign (Go.Operand.tmp 118), type := 4, pos := _, after := #[{ on := 9, ground := Go.Ground.data }, { on := 8, ground := Go.Ground.chain }, { on := 0, ground := Go.Ground.phase }, { on := 1, ground := Go.Ground.phase }, { on := 2, ground := Go.Ground.phase }, { on := 3, ground := Go.Ground.phase }, { on := 4, ground := Go.Ground.phase }, { on := 5, ground := Go.Ground.phase }, { on := 6, ground := Go.Ground.phase }, { on := 7, ground := Go.Ground.phase }, { on := 8, ground := Go.Ground.phase }, { on := 9, ground := Go.Ground.phase }], guard := none }) (v := .bool true) rfl (by kernel_rfl) (by kernel_rfl) (by kernel_rfl) (fun _ _ _ h => h) (Or.inl ⟨by rfl, fun w' hw' => ?_⟩) hHeld ?_
      · first | (go_simp; done) | (go_simp; rfl)
      try simp only [Act.put, List.setIfInBounds_toArray, List.set_cons_zero, List.set_cons_succ]
      refine wpAnyH_done (by kernel_rfl) ?_ _
      clear hHeld hHK hHG hHF
      go_wp2
      go_ret
      exact ⟨rfl, HB3.out⟩
end Go.Proofs.Ytpmknkagnkagpaa.ZC
