/- MacDerives: for any key, any label and any number, the statement's function answers true and leaves its arguments as they were. No condition. -/
import Derived.Test.YtojafgilpnnbiabM5
import Derived.Test.YtojafgilpnnbiabO4
import Derived.Test.YtojafgilpnnbiabRows
import Derived.WalkKit
import Derived.ProofKit
import Derived.OpenShut
import Derived.Carry
import Derived.ShutString
set_option linter.unusedVariables false
set_option linter.unusedSimpArgs false
namespace Go.Proofs.Ytojafgilpnnbiab.macDerives
open Go.ChangeShapes Go.WideShapes Go.ChangeAt Go.RowKit
open Go.ChangeMaps (open_string shut_string)

theorem own : ownKnob Try.prog.godebug = none := by kernel_rfl
theorem laidOut : laidOutB Try.prog = true := by kernel_rfl

theorem mayLabel_any (s : ByteArray) (w : World) (hs : s.size ≤ 9000) : Calls Try.prog 16 #[.string s] w fun e w' => e = .returned (.bool (decide (1 ≤ s.size ∧ s.size ≤ 64))) ∧ w = w' := by
  by_cases h1 : 1 ≤ s.size
  · by_cases h2 : s.size ≤ 64
    · have h1' : (1 : Int) ≤ (s.size : Int) := by omega
      have h2' : (s.size : Int) ≤ 64 := by omega
      rw [show decide (1 ≤ s.size ∧ s.size ≤ 64) = true by simp [h1, h2]]
      go_enter Try.func16, Try.ntmps16
      go_wp2
      go_ret
      exact ⟨rfl, rfl⟩
    · have h1' : (1 : Int) ≤ (s.size : Int) := by omega
      have h2' : ¬ (s.size : Int) ≤ 64 := by omega
      rw [show decide (1 ≤ s.size ∧ s.size ≤ 64) = false by simp [h2]]
      go_enter Try.func16, Try.ntmps16
      go_wp2
      go_ret
      exact ⟨rfl, rfl⟩
  · have h1' : ¬ (1 : Int) ≤ (s.size : Int) := by omega
    rw [show decide (1 ≤ s.size ∧ s.size ≤ 64) = false by simp [h1]]
    go_enter Try.func16, Try.ntmps16
    go_wp2
    go_ret
    exact ⟨rfl, rfl⟩

theorem eqz (w : World) : (Op.equalIn 10000 24 (.agg Z32) (.agg Z32)).run Try.prog w = .ok true w := by
  have := run_equalIn_bytes (P := Try.prog) w 9998 24 5 32 Try.underlying24 Try.underlying5 size_u8 (List.replicate 32 0) (List.replicate 32 0) (by simp) (by simp)
  rw [show (List.replicate 32 (0 : UInt8) == List.replicate 32 0) = true by simp] at this
  exact this

/-- What stays while the law runs. -/
def LS (w : World) (DL RL : List Value) (t : Nat) (w' : World) : Prop := w'.rangeAt w.heap.size 0 DL ∧ w'.rangeAt t 0 RL ∧ Below w.heap.size w w'
theorem LS.below {w a b : World} {DL RL : List Value} {t : Nat} (h : LS w DL RL t a) (hb : Below a.heap.size a b) : LS w DL RL t b := by
  obtain ⟨h1, h2, h3⟩ := h
  exact ⟨rangeAt_below h1 hb, rangeAt_below h2 hb, h3.trans (hb.mono h3.size)⟩

set_option maxHeartbeats 8000000 in
set_option maxRecDepth 100000 in
theorem walk (d : List UInt8) (s : ByteArray) (m : Int) (w : World) (hd : d.length = 32) (hwf : (Lit.int .u64 m).wf = true) :
    Calls Try.prog 5 #[.agg (d.map B8).toArray, .string s, .int .u64 m] w fun e w' => e = .returned (.bool true) ∧ Below w.heap.size w w' := by
  have hbm := bounds_u64 hwf
  obtain ⟨n, rfl⟩ := Int.eq_ofNat_of_zero_le hbm.1
  have hn : n < 18446744073709551616 := by omega
  have hkn := fun W => known_any W
  have hnum := fun k W => num_any k W
  by_cases hlen : s.size ≤ 9000
  · have hlt : ¬ (9000 : Int) < (s.size : Int) := by omega
    have hml := fun W => mayLabel_any s W hlen
    obtain ⟨DL, hDL⟩ : ∃ DL, DL = d.map B8 := ⟨_, rfl⟩
    have hiD : (Try.prog.info? 24).map (·.size) = some DL.length := by rw [hDL, List.length_map, hd]; kernel_rfl
    have HID : Hid ((Try.prog.info? 24).map (·.size) = some DL.toArray.size) := hiD
    by_cases hok : 1 ≤ s.size ∧ s.size ≤ 64
    · have hde := fun W => derive_ok d s n W hd (by omega) hok.2 hn
      have hrd := fun W => refDerive_any d s n W hd hok.2 hn
      have heq := fun W => eql_digest W (macL d (askL s n)) (macL d (askL s n)) (macL_len _ _) (macL_len _ _)
      rw [show (macL d (askL s n) == macL d (askL s n)) = true by simp] at heq
      have hmll : (macL d (askL s n)).length = 32 := macL_len _ _
      rw [show decide (1 ≤ s.size ∧ s.size ≤ 64) = true by simp [hok]] at hml
      obtain ⟨RL, hRL⟩ : ∃ RL, RL = (macL d (askL s n)).map B8 := ⟨_, rfl⟩
      have hR32 : RL.length = 32 := by rw [hRL, List.length_map, hmll]
      have hiR : (Try.prog.info? 24).map (·.size) = some RL.length := by rw [hR32]; kernel_rfl
      have HRS : Hid ((32 : Nat) = RL.toArray.size) := by show _ = _; rw [List.size_toArray, hR32]
      have HR1 : Hid (RL.toArray.all (·.oneCell') = true) := by show _ = _; rw [hRL]; exact B8_onea _
      have hRs : RL.toArray.size = 32 := HRS.out.symm
      have hu := Try.underlying24
      simp only [← hDL, ← hRL] at hde hrd heq ⊢
      clear hDL hRL hmll hR32 hd hok hwf
      go_enter Try.func5, Try.ntmps5
      go_wp2_with (refine wpList_load_row rfl 24 _ rfl w.heap.size rfl 24 DL.toArray (0, 0) _ (heap_alloc_new _ _) Try.underlying24 rfl HID.out ?_)
      refine (hde _).mono ?_
      rintro e w1 ⟨rfl, hb1⟩
      have G1 : Hid (w1.heap[w.heap.size]? = some (.cells DL.toArray 24 (0, 0))) := below_blk hb1 (by simp) (heap_alloc_new _ _)
      have hbw1 : Below w.heap.size w w1 := ((Below.refl _ _).alloc (Nat.le_refl _) _).trans (hb1.mono (by simp))
      have hs1 := row_lt G1.out
      clear hb1 hde
      go_wp2_with fail
      refine upon_store w1.heap.size RL.toArray Z32 24 (heap_alloc_new _ _) HRS.out HR1.out ?_
      intro wA HA hbA
      have cA : Below w1.heap.size w1 wA := ((Below.refl _ _).alloc (Nat.le_refl _) _).trans hbA
      have HLS : Hid (LS w DL RL w1.heap.size wA.drew) := ⟨rangeAt_row (by rw [heap_drew]; exact (cA.block _ hs1).trans G1.out), rangeAt_row (by rw [heap_drew]; exact HA.out), (hbw1.trans (cA.mono (by omega))).drew⟩
      clear hbA cA G1 hbw1 HA hRs
      go_wp2_with fail
      refine (hml _).mono ?_
      rintro e wx ⟨rfl, rfl⟩
      clear hml
      go_wp2
      refine wp_region_held_drew (S := LS w DL RL w1.heap.size) (by kernel_rfl) HLS.out (fun hHeld => ?_)
      refine wpAnyH_take (i := 0) (oi := { dst := some 34, op := Go.Op.load 24 (Go.Operand.tmp 7), type := 24, pos := _, after := #[], guard := none }) rfl (by kernel_rfl) (by kernel_rfl) (by kernel_rfl) (fun _ _ _ h => h) (yieldsIf_load_mid (by rfl) 24 (.tmp 7) rfl (w1.heap.size) (0) rfl (RL) _ (fun _ h => h.2.1) hu rfl hiR) hHeld ?_
      try simp only [Act.put, List.setIfInBounds_toArray, List.set_cons_zero, List.set_cons_succ]
      refine wpAnyH_take (i := 1) (oi := { dst := some 35, op := Go.Op.load 24 (Go.Operand.tmp 3), type := 24, pos := _, after := #[], guard := none }) rfl (by kernel_rfl) (by kernel_rfl) (by kernel_rfl) (fun _ _ _ h => h) (yieldsIf_load_mid (by rfl) 24 (.tmp 3) rfl (w.heap.size) (0) rfl (DL) _ (fun _ h => h.1) hu rfl hiD) hHeld ?_
      try simp only [Act.put, List.setIfInBounds_toArray, List.set_cons_zero, List.set_cons_succ]
      refine wpAnyH_take (i := 2) (oi := { dst := some 36, op := Go.Op.move (Go.Operand.tmp 1), type := 9, pos := _, after := #[], guard := none }) (v := .string s) rfl (by kernel_rfl) (by kernel_rfl) (by kernel_rfl) (fun _ _ _ h => h) (Or.inl ⟨by rfl, fun w' hw' => ?_⟩) hHeld ?_
      · first | (go_simp; done) | (go_simp; rfl)
      try simp only [Act.put, List.setIfInBounds_toArray, List.set_cons_zero, List.set_cons_succ]
      refine wpAnyH_take (i := 3) (oi := { dst := some 37, op := Go.Op.move (Go.Operand.tmp 2), type := 32, pos := _, after := #[], guard := none }) (v := .int .u64 (n : Int)) rfl (by kernel_rfl) (by kernel_rfl) (by kernel_rfl) (fun _ _ _ h => h) (Or.inl ⟨by rfl, fun w' hw' => ?_⟩) hHeld ?_
      · first | (go_simp; done) | (go_simp; rfl)
      try simp only [Act.put, List.setIfInBounds_toArray, List.set_cons_zero, List.set_cons_succ]
      refine wpAnyH_ready (rs := [4]) (by kernel_rfl) (by simp) ?_
      refine AllReadyH.cons (o := { dst := some 38, op := Go.Op.call { callee := Go.Callee.value (Go.Operand.func 18), args := #[Go.Operand.tmp 35, Go.Operand.tmp 36, Go.Operand.tmp 37], argTypes := #[24, 9, 32] }, type := 24, pos := _, after := #[{ on := 1, ground := Go.Ground.data }, { on := 2, ground := Go.Ground.data }, { on := 3, ground := Go.Ground.data }], guard := none }) rfl (fun K hK => ?_) AllReadyH.nil
      rw [if_pos (by rfl)]
      go_wp2_with fail
      refine (hrd _).mono ?_
      rintro e w3 ⟨rfl, hb3⟩
      have hHeld3 := LS.below hHeld hb3
      clear hb3
      refine hK.out _ _ hHeld3 (fun _ => ?_)
      clear hK K
      try simp only [Act.put, List.setIfInBounds_toArray, List.set_cons_zero, List.set_cons_succ]
      have hHeld := hHeld3
      refine wpAnyH_take (i := 5) (oi := { dst := some 39, op := Go.Op.binOp Go.BinOp.eql 24 (Go.Operand.tmp 34) (Go.Operand.tmp 38) 24, type := 4, pos := _, after := #[{ on := 0, ground := Go.Ground.data }, { on := 4, ground := Go.Ground.data }], guard := none }) (v := .bool true) rfl (by kernel_rfl) (by kernel_rfl) (by kernel_rfl) (fun _ _ _ h => h) (Or.inl ⟨by rfl, fun w' hw' => ?_⟩) hHeld ?_
      · first | (go_simp; done) | (go_simp; rfl)
      try simp only [Act.put, List.setIfInBounds_toArray, List.set_cons_zero, List.set_cons_succ]
      refine wpAnyH_take (i := 6) (oi := { dst := some 40, op := Go.Op.move (Go.Operand.tmp 39), type := 4, pos := _, after := #[{ on := 5, ground := Go.Ground.data }, { on := 4, ground := Go.Ground.chain }], guard := none }) (v := .bool true) rfl (by kernel_rfl) (by kernel_rfl) (by kernel_rfl) (fun _ _ _ h => h) (Or.inl ⟨by rfl, fun w' hw' => ?_⟩) hHeld ?_
      · first | (go_simp; done) | (go_simp; rfl)
      try simp only [Act.put, List.setIfInBounds_toArray, List.set_cons_zero, List.set_cons_succ]
      refine wpAnyH_take (i := 7) (oi := { dst := some 41, op := Go.Op.move (Go.Operand.tmp 8), type := 33, pos := _, after := #[{ on := 6, ground := Go.Ground.guard }], guard := some (6, true) }) (v := .int .i64 0) rfl (by kernel_rfl) (by kernel_rfl) (by kernel_rfl) (fun _ _ _ h => h) (Or.inl ⟨by rfl, fun w' hw' => ?_⟩) hHeld ?_
      · first | (go_simp; done) | (go_simp; rfl)
      try simp only [Act.put, List.setIfInBounds_toArray, List.set_cons_zero, List.set_cons_succ]
      refine wpAnyH_ready (rs := [8]) (by kernel_rfl) (by simp) ?_
      refine AllReadyH.cons (o := { dst := some 42, op := Go.Op.call { callee := Go.Callee.value (Go.Operand.func 17), args := #[Go.Operand.tmp 41], argTypes := #[33] }, type := 3, pos := _, after := #[{ on := 7, ground := Go.Ground.data }, { on := 6, ground := Go.Ground.chain }, { on := 6, ground := Go.Ground.guard }], guard := some (6, true) }) rfl (fun K hK => ?_) AllReadyH.nil
      rw [if_pos (by rfl)]
      go_wp2_with fail
      refine (hnum _ _).mono ?_
      rintro e wy ⟨rfl, rfl⟩
      refine hK.out _ _ hHeld3 (fun _ => ?_)
      clear hK K
      try simp only [Act.put, List.setIfInBounds_toArray, List.set_cons_zero, List.set_cons_succ]
      refine wpAnyH_take (i := 9) (oi := { dst := some 43, op := Go.Op.binOp Go.BinOp.eql 3 (Go.Operand.tmp 42) (Go.Operand.const (Go.Value.int Go.IntKind.i64 0)) 3, type := 4, pos := _, after := #[{ on := 8, ground := Go.Ground.data }, { on := 6, ground := Go.Ground.guard }], guard := some (6, true) }) (v := .bool true) rfl (by kernel_rfl) (by kernel_rfl) (by kernel_rfl) (fun _ _ _ h => h) (Or.inl ⟨by rfl, fun w' hw' => ?_⟩) hHeld ?_
      · first | (go_simp; done) | (go_simp; rfl)
      try simp only [Act.put, List.setIfInBounds_toArray, List.set_cons_zero, List.set_cons_succ]
      refine wpAnyH_take (i := 10) (oi := { dst := some 44, op := Go.Op.pick (Go.Operand.tmp 40) (Go.Operand.tmp 43) (Go.Operand.const (Go.Value.bool false)), type := 4, pos := _, after := #[{ on := 6, ground := Go.Ground.data }, { on := 9, ground := Go.Ground.data }], guard := none }) (v := .bool true) rfl (by kernel_rfl) (by kernel_rfl) (by kernel_rfl) (fun _ _ _ h => h) (Or.inl ⟨by rfl, fun w' hw' => ?_⟩) hHeld ?_
      · first | (go_simp; done) | (go_simp; rfl)
      try simp only [Act.put, List.setIfInBounds_toArray, List.set_cons_zero, List.set_cons_succ]
      refine wpAnyH_take (i := 11) (oi := { dst := some 45, op := Go.Op.move (Go.Operand.tmp 44), type := 4, pos := _, after := #[{ on := 10, ground := Go.Ground.data }, { on := 8, ground := Go.Ground.chain }], guard := none }) (v := .bool true) rfl (by kernel_rfl) (by kernel_rfl) (by kernel_rfl) (fun _ _ _ h => h) (Or.inl ⟨by rfl, fun w' hw' => ?_⟩) hHeld ?_
      · first | (go_simp; done) | (go_simp; rfl)
      try simp only [Act.put, List.setIfInBounds_toArray, List.set_cons_zero, List.set_cons_succ]
      refine wpAnyH_ready (rs := [12]) (by kernel_rfl) (by simp) ?_
      refine AllReadyH.cons (o := { dst := some 46, op := Go.Op.call { callee := Go.Callee.value (Go.Operand.func 8), args := #[], argTypes := #[] }, type := 4, pos := _, after := #[{ on := 11, ground := Go.Ground.chain }, { on := 11, ground := Go.Ground.guard }], guard := some (11, true) }) rfl (fun K hK => ?_) AllReadyH.nil
      rw [if_pos (by rfl)]
      go_wp2_with fail
      refine (hkn _).mono ?_
      rintro e w5 ⟨rfl, hb5⟩
      have hHeld5 := LS.below hHeld3 hb5
      clear hb5
      refine hK.out _ _ hHeld5 (fun _ => ?_)
      clear hK K
      try simp only [Act.put, List.setIfInBounds_toArray, List.set_cons_zero, List.set_cons_succ]
      have hHeld := hHeld5
      refine wpAnyH_take (i := 13) (oi := { dst := some 47, op := Go.Op.pick (Go.Operand.tmp 45) (Go.Operand.tmp 46) (Go.Operand.const (Go.Value.bool false)), type := 4, pos := _, after := #[{ on := 11, ground := Go.Ground.data }, { on := 12, ground := Go.Ground.data }], guard := none }) (v := .bool true) rfl (by kernel_rfl) (by kernel_rfl) (by kernel_rfl) (fun _ _ _ h => h) (Or.inl ⟨by rfl, fun w' hw' => ?_⟩) hHeld ?_
      · first | (go_simp; done) | (go_simp; rfl)
      try simp only [Act.put, List.setIfInBounds_toArray, List.set_cons_zero, List.set_cons_succ]
      refine wpAnyH_take (i := 14) (oi := { dst := some 6, op := Go.Op.assign (Go.Operand.tmp 47), type := 4, pos := _, after := #[{ on := 13, ground := Go.Ground.data }, { on := 12, ground := Go.Ground.chain }, { on := 0, ground := Go.Ground.phase }, { on := 1, ground := Go.Ground.phase }, { on := 2, ground := Go.Ground.phase }, { on := 3, ground := Go.Ground.phase }, { on := 4, ground := Go.Ground.phase }, { on := 5, ground := Go.Ground.phase }, { on := 6, ground := Go.Ground.phase }, { on := 7, ground := Go.Ground.phase }, { on := 8, ground := Go.Ground.phase }, { on := 9, ground := Go.Ground.phase }, { on := 10, ground := Go.Ground.phase }, { on := 11, ground := Go.Ground.phase }, { on := 12, ground := Go.Ground.phase }, { on := 13, ground := Go.Ground.phase }], guard := none }) (v := .bool true) rfl (by kernel_rfl) (by kernel_rfl) (by kernel_rfl) (fun _ _ _ h => h) (Or.inl ⟨by rfl, fun w' hw' => ?_⟩) hHeld ?_
      · first | (go_simp; done) | (go_simp; rfl)
      try simp only [Act.put, List.setIfInBounds_toArray, List.set_cons_zero, List.set_cons_succ]
      refine wpAnyH_done (by kernel_rfl) ?_ _
      have HB5 : Hid _ := hHeld5.2.2
      clear hHeld hHeld3 hHeld5
      go_wp2
      go_ret
      exact ⟨rfl, HB5.out⟩
    · have hbad : s.size = 0 ∨ 64 < s.size := by omega
      have hde := fun W => derive_bad d s (n : Int) W hd hbad
      rw [show decide (1 ≤ s.size ∧ s.size ≤ 64) = false by simpa using hok] at hml
      obtain ⟨ZZ, hZZ⟩ : ∃ ZZ, ZZ = Z32 := ⟨_, rfl⟩
      rw [← hZZ] at hde
      have heq : ∀ W, (Op.equalIn 10000 24 (.agg ZZ) (.agg Z32)).run Try.prog W = .ok true W := fun W => by rw [hZZ]; exact eqz W
      have hzs : ZZ.size = 32 := by rw [hZZ]; rfl
      have HZI : Hid ((Try.prog.info? 24).map (·.size) = some ZZ.size) := by show _ = _; rw [hzs]; kernel_rfl
      have HZ1 : Hid (ZZ.all (·.oneCell') = true) := by show _ = _; rw [hZZ]; exact z32_one
      have HZS : Hid ((32 : Nat) = ZZ.size) := hzs.symm
      rw [← hDL] at hde ⊢
      clear hDL hZZ hd hok hbad hwf
      go_enter Try.func5, Try.ntmps5
      go_wp2_with (refine wpList_load_row rfl 24 _ rfl w.heap.size rfl 24 DL.toArray (0, 0) _ (heap_alloc_new _ _) Try.underlying24 rfl HID.out ?_)
      refine (hde _).mono ?_
      rintro e w1 ⟨rfl, hb1⟩
      have hbw1 : Below w.heap.size w w1 := ((Below.refl _ _).alloc (Nat.le_refl _) _).trans (hb1.mono (by simp))
      have hs1 := hbw1.size
      clear hb1 hde
      go_wp2_with fail
      refine upon_store w1.heap.size ZZ Z32 24 (heap_alloc_new _ _) HZS.out HZ1.out ?_
      intro wA HA hbA
      have hbwA : Below w.heap.size w wA := hbw1.trans ((((Below.refl w1.heap.size w1).alloc (Nat.le_refl _) _).trans hbA).mono hs1)
      clear hbA hbw1
      go_wp2_with fail
      refine (hml _).mono ?_
      rintro e wx ⟨rfl, rfl⟩
      clear hml
      go_wp2_with (refine wpList_load_row rfl 24 _ rfl w1.heap.size rfl 24 ZZ (0, 0) _ HA.out Try.underlying24 rfl HZI.out ?_)
      refine (hnum _ _).mono ?_
      rintro e wy ⟨rfl, rfl⟩
      go_wp2_with fail
      refine (hkn _).mono ?_
      rintro e w5 ⟨rfl, hb5⟩
      have c5 := hbwA.trans (hb5.mono hbwA.size)
      clear hb5 hbwA
      go_wp2
      go_ret
      exact ⟨rfl, c5⟩
  · have hlt : (9000 : Int) < (s.size : Int) := by omega
    generalize (d.map B8).toArray = DA at *
    clear hwf
    go_enter Try.func5, Try.ntmps5
    go_wp2_with fail
    refine (hkn _).mono ?_
    rintro e w1 ⟨rfl, b1⟩
    go_wp2
    go_ret
    exact ⟨rfl, ((Below.refl _ _).alloc (Nat.le_refl _) _).trans (b1.mono (by simp))⟩

set_option maxRecDepth 100000 in
theorem lifted (os : Os) (started : os.Started) (H : Type) (enc : TypeId × Value → H) :
    ReturnsInHanded {} Try.checked os 5 .any (Rows.macDerivesSpec.pre6 enc Try.prog Try.f5 Rows.macDerivesRow.domain false) (Rows.macDerivesSpec.post enc Try.prog Try.f5 false true false false) := by
  refine returnsInHanded_of_change (C := Try.checked) own started (by kernel_rfl) Try.func5
    (ChangeSpec.witness6 (enc := enc) (C := Try.checked) false ⟨#[], #[.agg (Array.replicate 32 (.int .u8 0)), .string ByteArray.empty, .int .u64 0], []⟩ 8 (by kernel_rfl) (by kernel_rfl) (by kernel_rfl) (by kernel_rfl)) ?_
  intro W base args ds gs before hval0 hW hcnd _
  have hval : ∀ (j : Nat) t v, Try.f5.params[j]? = some t → args[j]? = some v → Value.okWide Try.prog W .any base t v := hval0
  have hW' := hW
  obtain ⟨p, q, hA0, hV, rfl, hfz, hnd⟩ := hW
  have hA : DataW.TrodAll enc Try.prog W 0 (fun _ => true) true Try.f5.params.toList args.toList ds p := hA0
  rw [Try.params5] at hA hval
  obtain ⟨v0, vs0, d0, ds0, p0, q0, hargs, rfl, rfl, h0, r0⟩ := trodAll_cons hA
  obtain ⟨v1, vs1, d1, ds1, p1, q1, rfl, rfl, rfl, h1, r1⟩ := trodAll_cons r0
  obtain ⟨v2, vs2, d2, ds2, p2, q2, rfl, rfl, rfl, h2, r2⟩ := trodAll_cons r1
  obtain ⟨rfl, rfl, rfl⟩ := trodAll_nil r2
  obtain rfl : args = #[v0, v1, v2] := by cases args; simp_all
  obtain ⟨rfl, rfl⟩ := trodVars_none hV
  have k0 := h0
  have lt0 : ∀ x ∈ p0, x.block < W.heap.size := by obtain ⟨m, hm⟩ := k0; exact DataW.trod_lt m _ _ _ hm
  obtain ⟨l0, rfl, hl0⟩ := open_octets Try.underlying24 (by kernel_rfl) (hval 0 24 v0 rfl rfl) h0
  obtain ⟨s1, rfl, rfl, rfl, sm1⟩ := open_string Try.underlying9 (hval 1 9 v1 rfl rfl) h1
  obtain ⟨n2, rfl, rfl, rfl, w2⟩ := open_int Try.underlying32 (hval 2 32 v2 rfl rfl) h2
  clear hA0 hval0
  refine (walk l0 s1 n2 W hl0 w2).mono fun e W' ⟨he, bel⟩ => ?_
  subst he
  exact ⟨_, rfl, _, _, _, [], _, [], hW', trodAll_mk1 (shut_bool Try.underlying4 _), (trodAll_cons_mk (Below.trod laidOut (by kernel_rfl) (of_decide_eq_true (by kernel_rfl)) k0 bel lt0) (trodAll_cons_mk (shut_string Try.underlying9 sm1) (trodAll_cons_mk (shut_int Try.underlying32 w2) trodAll_mk0))), rfl, bel.frame _, fun h => by cases h⟩

theorem over : Rows.macDerivesRow.holds Try.pinned (OpenSpec.ofChange Rows.macDerivesSpec) :=
  OpenClaim.holds_of_wide 5 Try.f5 rfl rfl rfl rfl rfl rfl rfl ⟨rfl, rfl, rfl, rfl, rfl⟩ rfl rfl rfl rfl rfl (by kernel_rfl) Try.func5 (by kernel_rfl)
    (of_decide_eq_true (by kernel_rfl)) (by unfold Func.isWrapper; first | (rw [if_pos (by decide +kernel)]; kernel_rfl) | (rw [if_neg (by decide +kernel)]; exact ⟨rfl, rfl⟩))
    (fun os started H enc _ => lifted os started H enc)

end Go.Proofs.Ytojafgilpnnbiab.macDerives
namespace Go.Proofs.Ytojafgilpnnbiab
theorem macDerives_holds : Rows.MacDerivesSaid := macDerives.over
#print axioms macDerives_holds
end Go.Proofs.Ytojafgilpnnbiab
