/- ReportAlike: for any three reports, any number, the tables as the program's text lays them, the statement's function answers true. -/
import Derived.Test.YtpklboicgjpmeaaDoorTw
import Derived.Test.YtpklboicgjpmeaaDoorTv
set_option linter.unusedVariables false
set_option linter.unusedSimpArgs false
namespace Go.Proofs.YtpklboicgjpmeaaDoor.reportAlike
open Go.ChangeShapes Go.WideShapes Go.ChangeAt Go.RowKit
open Go.Proofs.YtpklboicgjpmeaaDoor.RB

theorem run_stU (w : World) (b k : Nat) (OL : List Value) (t : TypeId) (hrow : w.heap[b]? = some (.cells OL.toArray t (0, 0))) (hk : k < OL.length) (x : Int) : (Instr.storeAt 22 (.pointer (some ⟨b, k, none⟩)) (.int .u64 x)).run Tryd.prog w = .ok () (w.setCell ⟨b, k, none⟩ (.int .u64 x)) := by
  have hc := cell_of_row w b k _ _ _ hrow
  rw [List.getElem?_toArray, List.getElem?_eq_getElem hk] at hc
  have hf := frozen_of_row _ _ k _ _ hrow
  generalize OL[k] = ov at *
  unfold Instr.storeAt Instr.sureAddr
  go_simp
theorem alk_symm (a b : Rp) : alk b a = alk a b := by
  unfold alk
  rw [Bool.eq_iff_iff]; simp only [Bool.and_eq_true, beq_iff_eq]
  exact ⟨fun h => ⟨h.1.symm, h.2.symm⟩, fun h => ⟨h.1.symm, h.2.symm⟩⟩
theorem alk_trans {a b c : Rp} (h : alk a b = true) (k : alk b c = true) : alk a c = true := by
  unfold alk at *
  simp only [Bool.and_eq_true, beq_iff_eq] at *
  exact ⟨h.1.trans k.1, h.2.trans k.2⟩
theorem alk_own (a : Rp) (n : Nat) : alk a ⟨n, a.ms, a.ch⟩ = true := by
  unfold alk; simp
set_option maxHeartbeats 16000000 in
set_option maxRecDepth 100000 in
theorem walk (a b c : Rp) (n : Int) (w : World) (ha : a.ok) (hb : b.ok) (hc : c.ok) (hn : (Lit.int .u64 n).wf = true) (hG : GV w) : Calls Tryd.prog 6 #[rV a, rV b, rV c, .int .u64 n] w fun e w' => e = .returned (.bool true) ∧ Below w.heap.size w w' := by
  have hnb := bounds_u64 hn
  obtain ⟨N, rfl⟩ : ∃ N : Nat, n = N := ⟨n.toNat, by omega⟩
  have hd : (⟨N, a.ms, a.ch⟩ : Rp).ok := ⟨by show N < _; omega, ha.m, ha.c⟩
  have hz := zero_rp
  have HAB : Hid (∀ X, Calls Tryd.prog 13 #[rV a, rV b] X fun e w' => e = .returned (.bool (alk a b)) ∧ Below X.heap.size X w') := fun X => palike_any a b ha hb X
  have HBC : Hid (∀ X, Calls Tryd.prog 13 #[rV b, rV c] X fun e w' => e = .returned (.bool (alk b c)) ∧ Below X.heap.size X w') := fun X => palike_any b c hb hc X
  have HAC : Hid (∀ X, Calls Tryd.prog 13 #[rV a, rV c] X fun e w' => e = .returned (.bool (alk a c)) ∧ Below X.heap.size X w') := fun X => palike_any a c ha hc X
  have HBA : Hid (∀ X, Calls Tryd.prog 13 #[rV b, rV a] X fun e w' => e = .returned (.bool (alk a b)) ∧ Below X.heap.size X w') := fun X => by rw [← alk_symm]; exact palike_any b a hb ha X
  have HAD : Hid (∀ X, Calls Tryd.prog 13 #[rV a, rV ⟨N, a.ms, a.ch⟩] X fun e w' => e = .returned (.bool true) ∧ Below X.heap.size X w') := fun X => by rw [← alk_own a N]; exact palike_any a _ ha hd X
  have HKN : Hid (∀ X, Below w.heap.size w X → Calls Tryd.prog 15 #[] X fun e w' => e = .returned (.bool true) ∧ Below X.heap.size X w') := fun X hb => known_any X (hG.below hb)
  have HT : Hid (alk a b = true → alk b c = true → alk a c = true) := fun h k => alk_trans h k
  have HIa : Hid _ := infR ha
  have HIb : Hid _ := infR hb
  have HIc : Hid _ := infR hc
  have HId : Hid _ := infR hd
  have HIAa : Hid _ := infRA ha
  have HLa : Hid _ := rL_len ha
  have HOa : Hid _ := rL_one a
  have HR0 : Hid _ := (((RS.start w).alloc _ rfl 26 (rL a)).alloc (w.heap.size + 1) (by simp) 26 (rL b)).alloc (w.heap.size + 2) (by simp) 26 (rL c)
  have HR1 : Hid _ := HR0.out.alloc (w.heap.size + 3) (by simp) 26 (rL r0)
  clear ha hb hc hd hn hnb hG
  generalize alk a b = AB at *
  generalize alk b c = BC at *
  generalize alk a c = AC at *
  unfold rV
  go_enter Tryd.func6, Tryd.ntmps6
  go_wp2_with (first
    | (refine wpList_load_mid rfl 26 (.tmp 4) rfl w.heap.size 0 rfl (rL a) _ (rangeAt_row (HR0.out.at 2 rfl)) Tryd.underlying26 rfl HIa.out ?_)
    | (refine wpList_store_rowL rfl 26 (.tmp 9) (.tmp 13) rfl (w.heap.size + 3) (rL a).toArray rfl rfl 26 (rL r0).toArray (HR1.out.at 0 rfl) HIAa.out (by rw [List.size_toArray, List.size_toArray, HLa.out]; rfl) HOa.out ?_; intro W1 hW; have HR2 : Hid _ := (HR1.out.put 0 rfl (rL a)); rw [← hW] at HR2; clear hW HR1)
    | (refine wpList_st rfl 22 (.tmp 15) (.tmp 14) rfl _ (.int .u64 (N : Int)) rfl rfl _ (run_stU W1 (w.heap.size + 3) 0 (rL a) 26 (HR2.out.at 0 rfl) (by rw [HLa.out]; decide) (N : Int)) ?_; intro W2 hW; have HR3 : Hid (RS w [(w.heap.size + 3, 26, rL ⟨N, a.ms, a.ch⟩), (w.heap.size + 2, 26, rL c), (w.heap.size + 1, 26, rL b), (w.heap.size, 26, rL a)] W2) := (by rw [hW]; exact HR2.out.poke 0 rfl 0 _ rfl); clear hW HR2))
  refine wp_region_held_drew (S := fun X => RS w [(w.heap.size + 3, 26, rL ⟨N, a.ms, a.ch⟩), (w.heap.size + 2, 26, rL c), (w.heap.size + 1, 26, rL b), (w.heap.size, 26, rL a)] X) (by kernel_rfl) (HR3.out.step (Below.refl _ _).drew) (fun hHeld => ?_)
  generalize World.drew _ = V0 at *
  refine wpAnyH_take (i := 0) (oi := { dst := some 16, op := Go.Op.load 26 (Go.Operand.tmp 4), type := 26, pos := _, after := #[], guard := none }) rfl (by kernel_rfl) (by kernel_rfl) (by kernel_rfl) (fun _ _ _ h => h) (yieldsIf_load_mid (by rfl) 26 (.tmp 4) rfl (w.heap.size) (0) rfl (rL a) _ (fun _ h => rangeAt_row (RS.at h 3 rfl)) Tryd.underlying26 rfl HIa.out) hHeld ?_
  try simp only [Act.put, List.setIfInBounds_toArray, List.set_cons_zero, List.set_cons_succ]
  refine wpAnyH_take (i := 1) (oi := { dst := some 17, op := Go.Op.load 26 (Go.Operand.tmp 5), type := 26, pos := _, after := #[], guard := none }) rfl (by kernel_rfl) (by kernel_rfl) (by kernel_rfl) (fun _ _ _ h => h) (yieldsIf_load_mid (by rfl) 26 (.tmp 5) rfl ((w.heap.size + 1)) (0) rfl (rL b) _ (fun _ h => rangeAt_row (RS.at h 2 rfl)) Tryd.underlying26 rfl HIb.out) hHeld ?_
  try simp only [Act.put, List.setIfInBounds_toArray, List.set_cons_zero, List.set_cons_succ]
  refine wpAnyH_take (i := 3) (oi := { dst := some 19, op := Go.Op.load 26 (Go.Operand.tmp 5), type := 26, pos := _, after := #[], guard := none }) rfl (by kernel_rfl) (by kernel_rfl) (by kernel_rfl) (fun _ _ _ h => h) (yieldsIf_load_mid (by rfl) 26 (.tmp 5) rfl ((w.heap.size + 1)) (0) rfl (rL b) _ (fun _ h => rangeAt_row (RS.at h 2 rfl)) Tryd.underlying26 rfl HIb.out) hHeld ?_
  try simp only [Act.put, List.setIfInBounds_toArray, List.set_cons_zero, List.set_cons_succ]
  refine wpAnyH_take (i := 4) (oi := { dst := some 20, op := Go.Op.load 26 (Go.Operand.tmp 6), type := 26, pos := _, after := #[], guard := none }) rfl (by kernel_rfl) (by kernel_rfl) (by kernel_rfl) (fun _ _ _ h => h) (yieldsIf_load_mid (by rfl) 26 (.tmp 6) rfl ((w.heap.size + 2)) (0) rfl (rL c) _ (fun _ h => rangeAt_row (RS.at h 1 rfl)) Tryd.underlying26 rfl HIc.out) hHeld ?_
  try simp only [Act.put, List.setIfInBounds_toArray, List.set_cons_zero, List.set_cons_succ]
  refine wpAnyH_take (i := 6) (oi := { dst := some 22, op := Go.Op.load 26 (Go.Operand.tmp 4), type := 26, pos := _, after := #[], guard := none }) rfl (by kernel_rfl) (by kernel_rfl) (by kernel_rfl) (fun _ _ _ h => h) (yieldsIf_load_mid (by rfl) 26 (.tmp 4) rfl (w.heap.size) (0) rfl (rL a) _ (fun _ h => rangeAt_row (RS.at h 3 rfl)) Tryd.underlying26 rfl HIa.out) hHeld ?_
  try simp only [Act.put, List.setIfInBounds_toArray, List.set_cons_zero, List.set_cons_succ]
  refine wpAnyH_take (i := 7) (oi := { dst := some 23, op := Go.Op.load 26 (Go.Operand.tmp 6), type := 26, pos := _, after := #[], guard := none }) rfl (by kernel_rfl) (by kernel_rfl) (by kernel_rfl) (fun _ _ _ h => h) (yieldsIf_load_mid (by rfl) 26 (.tmp 6) rfl ((w.heap.size + 2)) (0) rfl (rL c) _ (fun _ h => rangeAt_row (RS.at h 1 rfl)) Tryd.underlying26 rfl HIc.out) hHeld ?_
  try simp only [Act.put, List.setIfInBounds_toArray, List.set_cons_zero, List.set_cons_succ]
  refine wpAnyH_ready (rs := [2]) (by kernel_rfl) (by simp) ?_
  refine AllReadyH.cons (o := { dst := some 18, op := Go.Op.call { callee := Go.Callee.value (Go.Operand.func 13), args := #[Go.Operand.tmp 16, Go.Operand.tmp 17], argTypes := #[26, 26] }, type := 4, pos := _, after := #[{ on := 0, ground := Go.Ground.data }, { on := 1, ground := Go.Ground.data }], guard := none }) rfl (fun K hK => ?_) AllReadyH.nil
  rw [if_pos (by rfl)]
  go_wp2_with fail
  refine Calls.mono (HAB.out _) ?_
  rintro e V1 ⟨rfl, hb⟩
  replace hHeld := hHeld.step hb
  clear hb
  refine hK.out _ _ hHeld (fun _ => ?_)
  clear hK K
  try simp only [Act.put, List.setIfInBounds_toArray, List.set_cons_zero, List.set_cons_succ]
  refine wpAnyH_ready (rs := [5]) (by kernel_rfl) (by simp) ?_
  refine AllReadyH.cons (o := { dst := some 21, op := Go.Op.call { callee := Go.Callee.value (Go.Operand.func 13), args := #[Go.Operand.tmp 19, Go.Operand.tmp 20], argTypes := #[26, 26] }, type := 4, pos := _, after := #[{ on := 3, ground := Go.Ground.data }, { on := 4, ground := Go.Ground.data }, { on := 2, ground := Go.Ground.chain }], guard := none }) rfl (fun K hK => ?_) AllReadyH.nil
  rw [if_pos (by rfl)]
  go_wp2_with fail
  refine Calls.mono (HBC.out _) ?_
  rintro e V2 ⟨rfl, hb⟩
  replace hHeld := hHeld.step hb
  clear hb
  refine hK.out _ _ hHeld (fun _ => ?_)
  clear hK K
  try simp only [Act.put, List.setIfInBounds_toArray, List.set_cons_zero, List.set_cons_succ]
  refine wpAnyH_ready (rs := [8]) (by kernel_rfl) (by simp) ?_
  refine AllReadyH.cons (o := { dst := some 24, op := Go.Op.call { callee := Go.Callee.value (Go.Operand.func 13), args := #[Go.Operand.tmp 22, Go.Operand.tmp 23], argTypes := #[26, 26] }, type := 4, pos := _, after := #[{ on := 6, ground := Go.Ground.data }, { on := 7, ground := Go.Ground.data }, { on := 5, ground := Go.Ground.chain }], guard := none }) rfl (fun K hK => ?_) AllReadyH.nil
  rw [if_pos (by rfl)]
  go_wp2_with fail
  refine Calls.mono (HAC.out _) ?_
  rintro e V3 ⟨rfl, hb⟩
  replace hHeld := hHeld.step hb
  clear hb
  refine hK.out _ _ hHeld (fun _ => ?_)
  clear hK K
  try simp only [Act.put, List.setIfInBounds_toArray, List.set_cons_zero, List.set_cons_succ]
  refine wpAnyH_take (i := 9) (oi := { dst := some 10, op := Go.Op.assign (Go.Operand.tmp 18), type := 4, pos := _, after := #[{ on := 2, ground := Go.Ground.data }, { on := 8, ground := Go.Ground.chain }, { on := 0, ground := Go.Ground.phase }, { on := 1, ground := Go.Ground.phase }, { on := 2, ground := Go.Ground.phase }, { on := 3, ground := Go.Ground.textOnly Go.Departure.lateStores }, { on := 4, ground := Go.Ground.textOnly Go.Departure.lateStores }, { on := 5, ground := Go.Ground.textOnly Go.Departure.lateStoresUnsure }, { on := 6, ground := Go.Ground.textOnly Go.Departure.lateStores }, { on := 7, ground := Go.Ground.textOnly Go.Departure.lateStores }, { on := 8, ground := Go.Ground.textOnly Go.Departure.lateStoresUnsure }], guard := none }) (v := .bool AB) rfl (by kernel_rfl) (by kernel_rfl) (by kernel_rfl) (fun _ _ _ h => h) (Or.inl ⟨by rfl, fun w' hw' => ?_⟩) hHeld ?_
  · first | (go_simp; done) | (go_simp; rfl)
  try simp only [Act.put, List.setIfInBounds_toArray, List.set_cons_zero, List.set_cons_succ]
  refine wpAnyH_take (i := 10) (oi := { dst := some 11, op := Go.Op.assign (Go.Operand.tmp 21), type := 4, pos := _, after := #[{ on := 5, ground := Go.Ground.data }, { on := 9, ground := Go.Ground.chain }, { on := 0, ground := Go.Ground.phase }, { on := 1, ground := Go.Ground.phase }, { on := 2, ground := Go.Ground.phase }, { on := 3, ground := Go.Ground.phase }, { on := 4, ground := Go.Ground.phase }, { on := 5, ground := Go.Ground.phase }, { on := 6, ground := Go.Ground.textOnly Go.Departure.lateStores }, { on := 7, ground := Go.Ground.textOnly Go.Departure.lateStores }, { on := 8, ground := Go.Ground.textOnly Go.Departure.lateStoresUnsure }, { on := 9, ground := Go.Ground.phase }], guard := none }) (v := .bool BC) rfl (by kernel_rfl) (by kernel_rfl) (by kernel_rfl) (fun _ _ _ h => h) (Or.inl ⟨by rfl, fun w' hw' => ?_⟩) hHeld ?_
  · first | (go_simp; done) | (go_simp; rfl)
  try simp only [Act.put, List.setIfInBounds_toArray, List.set_cons_zero, List.set_cons_succ]
  refine wpAnyH_take (i := 11) (oi := { dst := some 12, op := Go.Op.assign (Go.Operand.tmp 24), type := 4, pos := _, after := #[{ on := 8, ground := Go.Ground.data }, { on := 10, ground := Go.Ground.chain }, { on := 0, ground := Go.Ground.phase }, { on := 1, ground := Go.Ground.phase }, { on := 2, ground := Go.Ground.phase }, { on := 3, ground := Go.Ground.phase }, { on := 4, ground := Go.Ground.phase }, { on := 5, ground := Go.Ground.phase }, { on := 6, ground := Go.Ground.phase }, { on := 7, ground := Go.Ground.phase }, { on := 8, ground := Go.Ground.phase }, { on := 9, ground := Go.Ground.phase }, { on := 10, ground := Go.Ground.phase }], guard := none }) (v := .bool AC) rfl (by kernel_rfl) (by kernel_rfl) (by kernel_rfl) (fun _ _ _ h => h) (Or.inl ⟨by rfl, fun w' hw' => ?_⟩) hHeld ?_
  · first | (go_simp; done) | (go_simp; rfl)
  try simp only [Act.put, List.setIfInBounds_toArray, List.set_cons_zero, List.set_cons_succ]
  refine wpAnyH_done (by kernel_rfl) ?_ _
  have HRX : Hid _ := hHeld
  clear hHeld HAB HBC HAC HR3 HR0
  cases AB
  · skip
    go_wp2_with (first
      | (refine load_mid_g (by rfl) 26 (.tmp 4) rfl w.heap.size 0 rfl (rL a) _ (rangeAt_row (HRX.out.at 3 rfl)) Tryd.underlying26 rfl HIa.out ?_)
      | (refine load_mid_g (by rfl) 26 (.tmp 5) rfl (w.heap.size + 1) 0 rfl (rL b) _ (rangeAt_row (HRX.out.at 2 rfl)) Tryd.underlying26 rfl HIb.out ?_))
    refine Calls.mono (HBA.out _) ?_
    rintro e X1 ⟨rfl, hb⟩
    have HRX : Hid _ := HRX.out.step hb
    clear hb
    go_wp2_with (first
      | (refine load_mid_g (by rfl) 26 (.tmp 4) rfl w.heap.size 0 rfl (rL a) _ (rangeAt_row (HRX.out.at 3 rfl)) Tryd.underlying26 rfl HIa.out ?_)
      | (refine load_mid_g (by rfl) 26 (.tmp 9) rfl (w.heap.size + 3) 0 rfl (rL ⟨N, a.ms, a.ch⟩) _ (rangeAt_row (HRX.out.at 0 rfl)) Tryd.underlying26 rfl HId.out ?_))
    refine Calls.mono (HAD.out _) ?_
    rintro e X2 ⟨rfl, hb⟩
    have HRX : Hid _ := HRX.out.step hb
    clear hb
    go_wp2_with fail
    refine Calls.mono (HKN.out _ HRX.out.bel) ?_
    rintro e X3 ⟨rfl, hb⟩
    have HRX : Hid _ := HRX.out.step hb
    clear hb
    go_wp2
    go_ret
    exact ⟨rfl, HRX.out.bel⟩
  · cases BC
    · skip
      go_wp2_with (first
        | (refine load_mid_g (by rfl) 26 (.tmp 4) rfl w.heap.size 0 rfl (rL a) _ (rangeAt_row (HRX.out.at 3 rfl)) Tryd.underlying26 rfl HIa.out ?_)
        | (refine load_mid_g (by rfl) 26 (.tmp 5) rfl (w.heap.size + 1) 0 rfl (rL b) _ (rangeAt_row (HRX.out.at 2 rfl)) Tryd.underlying26 rfl HIb.out ?_))
      refine Calls.mono (HBA.out _) ?_
      rintro e X1 ⟨rfl, hb⟩
      have HRX : Hid _ := HRX.out.step hb
      clear hb
      go_wp2_with (first
        | (refine load_mid_g (by rfl) 26 (.tmp 4) rfl w.heap.size 0 rfl (rL a) _ (rangeAt_row (HRX.out.at 3 rfl)) Tryd.underlying26 rfl HIa.out ?_)
        | (refine load_mid_g (by rfl) 26 (.tmp 9) rfl (w.heap.size + 3) 0 rfl (rL ⟨N, a.ms, a.ch⟩) _ (rangeAt_row (HRX.out.at 0 rfl)) Tryd.underlying26 rfl HId.out ?_))
      refine Calls.mono (HAD.out _) ?_
      rintro e X2 ⟨rfl, hb⟩
      have HRX : Hid _ := HRX.out.step hb
      clear hb
      go_wp2_with fail
      refine Calls.mono (HKN.out _ HRX.out.bel) ?_
      rintro e X3 ⟨rfl, hb⟩
      have HRX : Hid _ := HRX.out.step hb
      clear hb
      go_wp2
      go_ret
      exact ⟨rfl, HRX.out.bel⟩
    · have e := HT.out rfl rfl
      subst e
      go_wp2_with (first
        | (refine load_mid_g (by rfl) 26 (.tmp 4) rfl w.heap.size 0 rfl (rL a) _ (rangeAt_row (HRX.out.at 3 rfl)) Tryd.underlying26 rfl HIa.out ?_)
        | (refine load_mid_g (by rfl) 26 (.tmp 5) rfl (w.heap.size + 1) 0 rfl (rL b) _ (rangeAt_row (HRX.out.at 2 rfl)) Tryd.underlying26 rfl HIb.out ?_))
      refine Calls.mono (HBA.out _) ?_
      rintro e X1 ⟨rfl, hb⟩
      have HRX : Hid _ := HRX.out.step hb
      clear hb
      go_wp2_with (first
        | (refine load_mid_g (by rfl) 26 (.tmp 4) rfl w.heap.size 0 rfl (rL a) _ (rangeAt_row (HRX.out.at 3 rfl)) Tryd.underlying26 rfl HIa.out ?_)
        | (refine load_mid_g (by rfl) 26 (.tmp 9) rfl (w.heap.size + 3) 0 rfl (rL ⟨N, a.ms, a.ch⟩) _ (rangeAt_row (HRX.out.at 0 rfl)) Tryd.underlying26 rfl HId.out ?_))
      refine Calls.mono (HAD.out _) ?_
      rintro e X2 ⟨rfl, hb⟩
      have HRX : Hid _ := HRX.out.step hb
      clear hb
      go_wp2_with fail
      refine Calls.mono (HKN.out _ HRX.out.bel) ?_
      rintro e X3 ⟨rfl, hb⟩
      have HRX : Hid _ := HRX.out.step hb
      clear hb
      go_wp2
      go_ret
      exact ⟨rfl, HRX.out.bel⟩
set_option maxRecDepth 100000 in
theorem lifted (os : Os) (started : os.Started) (H : Type) (enc : TypeId × Value → H) :
    ReturnsInHanded {} Tryd.checked os 6 .any (fun w args => (Rows.reportAlikeSpec.pre enc Tryd.prog Tryd.f6 [] false w args ∧ laidMetH Tryd.prog Rows.reportAlikeRow.laid w) ∧ sizedMet enc Tryd.prog Tryd.f6 (OpenSpec.ofChange Rows.reportAlikeSpec) false w args) (Rows.reportAlikeSpec.post enc Tryd.prog Tryd.f6 false true false false) := by
  refine returnsInHanded_of_change_and (C := Tryd.checked) (X := fun w _ => laidMetH Tryd.prog Rows.reportAlikeRow.laid w) (fun _ _ _ hh h => h.of_heap hh) own started (by kernel_rfl) Tryd.func6
    (ChangeSpec.witness_shaped (enc := enc) (C := Tryd.checked) (os := os) (X := fun w _ => laidMetH Tryd.prog Rows.reportAlikeRow.laid w) false (World.doorLaid Tryd.prog 400 os) #[.agg (#[.int .u64 0] ++ Array.replicate 64 (.int .u8 0)), .agg (#[.int .u64 0] ++ Array.replicate 64 (.int .u8 0)), .agg (#[.int .u64 0] ++ Array.replicate 64 (.int .u8 0)), .int .u64 0] 8 rfl (World.shaped_of_RefB (by kernel_rfl) (by kernel_rfl)) (by kernel_rfl) (by kernel_rfl) (by kernel_rfl) (door_met os _)) ?_
  intro W base args ds gs before hval0 hW hcnd _ hL _
  have hval : ∀ (j : Nat) t v, Tryd.f6.params[j]? = some t → args[j]? = some v → Value.okWide Tryd.prog W .any base t v := hval0
  have hW' := hW
  obtain ⟨p, q, hA0, hV, rfl, hfz, hnd⟩ := hW
  have hA : DataW.TrodAll enc Tryd.prog W 0 (fun _ => true) true Tryd.f6.params.toList args.toList ds p := hA0
  rw [Tryd.params6] at hA hval
  obtain ⟨v0, vs0, d0, ds0, p0, q0, hargs, rfl, rfl, h0, r0⟩ := trodAll_cons hA
  obtain ⟨v1, vs1, d1, ds1, p1, q1, rfl, rfl, rfl, h1, r1⟩ := trodAll_cons r0
  obtain ⟨v2, vs2, d2, ds2, p2, q2, rfl, rfl, rfl, h2, r2⟩ := trodAll_cons r1
  obtain ⟨v3, vs3, d3, ds3, p3, q3, rfl, rfl, rfl, h3, r3⟩ := trodAll_cons r2
  obtain ⟨rfl, rfl, rfl⟩ := trodAll_nil r3
  obtain rfl : args = #[v0, v1, v2, v3] := by cases args; simp_all
  obtain ⟨rfl, rfl⟩ := trodVars_none hV
  have k0 := h0
  have lt0 : ∀ x ∈ p0, x.block < W.heap.size := by obtain ⟨m, hm⟩ := k0; exact DataW.trod_lt m _ _ _ hm
  obtain ⟨xs0, rfl⟩ := RB.okWide_str Tryd.underlying26 (hval 0 26 v0 rfl rfl)
  obtain ⟨R0, rfl, hl0⟩ : ∃ r : RB.Rp, xs0 = (RB.rL r).toArray ∧ r.ok := by obtain ⟨fuel, hf⟩ := h0; obtain ⟨s, e, h1⟩ := RB.open_rp hf; exact ⟨s, by rw [← Array.toList_inj]; exact e, h1⟩
  have k1 := h1
  have lt1 : ∀ x ∈ p1, x.block < W.heap.size := by obtain ⟨m, hm⟩ := k1; exact DataW.trod_lt m _ _ _ hm
  obtain ⟨xs1, rfl⟩ := RB.okWide_str Tryd.underlying26 (hval 1 26 v1 rfl rfl)
  obtain ⟨R1, rfl, hl1⟩ : ∃ r : RB.Rp, xs1 = (RB.rL r).toArray ∧ r.ok := by obtain ⟨fuel, hf⟩ := h1; obtain ⟨s, e, h1⟩ := RB.open_rp hf; exact ⟨s, by rw [← Array.toList_inj]; exact e, h1⟩
  have k2 := h2
  have lt2 : ∀ x ∈ p2, x.block < W.heap.size := by obtain ⟨m, hm⟩ := k2; exact DataW.trod_lt m _ _ _ hm
  obtain ⟨xs2, rfl⟩ := RB.okWide_str Tryd.underlying26 (hval 2 26 v2 rfl rfl)
  obtain ⟨R2, rfl, hl2⟩ : ∃ r : RB.Rp, xs2 = (RB.rL r).toArray ∧ r.ok := by obtain ⟨fuel, hf⟩ := h2; obtain ⟨s, e, h1⟩ := RB.open_rp hf; exact ⟨s, by rw [← Array.toList_inj]; exact e, h1⟩
  obtain ⟨n3, rfl, rfl, rfl, w3⟩ := open_int Tryd.underlying22 (hval 3 22 v3 rfl rfl) h3
  clear hA0 hval0
  refine (walk R0 R1 R2 n3 W hl0 hl1 hl2 w3 (of_laid hL)).mono fun e W' ⟨he, bel⟩ => ?_
  subst he
  exact ⟨_, rfl, _, _, _, [], _, [], hW', trodAll_mk1 (shut_bool Tryd.underlying4 _), (trodAll_cons_mk (Below.trod laidOut (by kernel_rfl) (of_decide_eq_true (by kernel_rfl)) k0 bel lt0) (trodAll_cons_mk (Below.trod laidOut (by kernel_rfl) (of_decide_eq_true (by kernel_rfl)) k1 bel lt1) (trodAll_cons_mk (Below.trod laidOut (by kernel_rfl) (of_decide_eq_true (by kernel_rfl)) k2 bel lt2) (trodAll_cons_mk (shut_int Tryd.underlying22 w3) trodAll_mk0)))), rfl, bel.frame _, fun h => by cases h⟩

theorem over : Rows.reportAlikeRow.holds Tryd.pinned (OpenSpec.ofChange Rows.reportAlikeSpec) :=
  OpenClaim.holds_of_wide 6 Tryd.f6 rfl rfl rfl rfl rfl rfl rfl ⟨rfl, rfl, rfl, rfl, rfl⟩ rfl rfl rfl rfl rfl (by kernel_rfl) Tryd.func6 (by kernel_rfl)
    (of_decide_eq_true (by kernel_rfl)) (by unfold Func.isWrapper; first | (rw [if_pos (by decide +kernel)]; kernel_rfl) | (rw [if_neg (by decide +kernel)]; exact ⟨rfl, rfl⟩))
    (fun os started H enc _ => lifted os started H enc)

theorem card : Rows.ReportAlikeCardSaid :=
  Claim7.holds_tied_plain_at .later [] Rows.reportAlikeCard.laidKinds true Rows.reportAlikeCard.stood.harness Rows.reportAlikeCard.stood.looks
    over (fun _ h => by cases h) (by kernel_rfl) (fun _ h => by cases h) reportAlike_row_tie rfl ⟨rfl, rfl⟩ (by kernel_rfl) rfl
    (fun f fn hf hfn => by
      obtain rfl : f = 6 := Option.some.inj ((show Tryd.prog.funcNamed Rows.reportAlikeRow.func = some 6 by kernel_rfl).symm.trans hf) |>.symm
      obtain rfl : fn = Tryd.f6 := (Option.some.inj (Tryd.func6.symm.trans hfn)).symm
      exact ⟨by kernel_rfl, fun j t ht => by
        rw [Tryd.params6] at ht
        have hm : t ∈ [26, 26, 26, 22] := by simpa using Array.mem_of_getElem? ht
        have hall : ([26, 26, 26, 22].all fun u => !Tryd.prog.wantsStandIn u) = true := by kernel_rfl
        exact (show Tryd.prog.wantsStandIn t = false by simpa using List.all_eq_true.1 hall t hm)⟩)
    (by kernel_rfl)
end Go.Proofs.YtpklboicgjpmeaaDoor.reportAlike
namespace Go.Proofs.YtpklboicgjpmeaaDoor
theorem reportAlike_holds : Rows.ReportAlikeCardSaid := reportAlike.card
#print axioms reportAlike_holds
end Go.Proofs.YtpklboicgjpmeaaDoor
