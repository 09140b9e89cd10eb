/- MacTags: for any key, any bytes and any digest, the statement's function answers true and leaves its arguments as they were. No condition. -/
import Derived.Test.YtojafgilpnnbiabG5
import Derived.Test.YtojafgilpnnbiabQ4
import Derived.Test.YtojafgilpnnbiabRows
import Derived.WalkKit
import Derived.ProofKit
import Derived.OpenShut
import Derived.Carry
set_option linter.unusedVariables false
set_option linter.unusedSimpArgs false
namespace Go.Proofs.Ytojafgilpnnbiab.macTags
open Go.ChangeShapes Go.WideShapes Go.ChangeAt Go.RowKit

theorem own : ownKnob Try.prog.godebug = none := by kernel_rfl
theorem laidOut : laidOutB Try.prog = true := by kernel_rfl

/-- What stays while the law runs. -/
def LS (w : World) (ML DL : List Value) (t q : Nat) (w' : World) : Prop :=
  w'.rangeAt t 0 ML ∧ w'.rangeAt q 0 ML ∧ w'.rangeAt w.heap.size 0 DL ∧ Below w.heap.size w w'
theorem LS.below {w a b : World} {ML DL : List Value} {t q : Nat} (h : LS w ML DL t q a) (hb : Below a.heap.size a b) : LS w ML DL t q b := by
  obtain ⟨h1, h2, h3, h4⟩ := h
  exact ⟨rangeAt_below h1 hb, rangeAt_below h2 hb, rangeAt_below h3 hb, h4.trans (hb.mono h4.size)⟩
theorem row_range {w : World} {b : Nat} {L : List Value} {t : TypeId} {fr : Nat × Nat} (h : w.heap[b]? = some (.cells L.toArray t fr)) : w.rangeAt b 0 L := rangeAt_row h

set_option maxHeartbeats 8000000 in
set_option maxRecDepth 100000 in
theorem walk (kv : Value) (key : List UInt8) (bv : Value) (b d : List UInt8) (w : World) (hmk : key.length ≤ 9223372036854775807) (hk : HB w kv key) (hmb : b.length ≤ 9223372036854775807) (hb : HB w bv b) (hd : d.length = 32) :
    Calls Try.prog 3 #[kv, bv, .agg (d.map B8).toArray] w fun e w' => e = .returned (.bool true) ∧ Below w.heap.size w w' := by
  have hn := fun W => known_any W
  have HKV : Hid _ := hk
  have HBV : Hid _ := hb
  obtain ⟨pk, capk, rfl, _⟩ := hk.cells
  obtain ⟨pb, capb, rfl, _⟩ := hb.cells
  by_cases hlk : key.length ≤ 300
  · by_cases hlb : b.length ≤ 300
    · have ht := fun W h1 h2 => tag_any (.slice pk key.length capk) (.slice pb b.length capb) key b W (by omega) (by omega) h1 h2
      have hr := fun W h1 h2 => refTag_any (.slice pk key.length capk) (.slice pb b.length capb) key b W (by omega) (by omega) h1 h2
      have hc1 := fun W h1 h2 => check_any (.slice pk key.length capk) (.slice pb b.length capb) key b (macL key b) W (by omega) (by omega) (macL_len _ _) h1 h2
      have hc2 := fun W h1 h2 => check_any (.slice pk key.length capk) (.slice pb b.length capb) key b d W (by omega) (by omega) hd h1 h2
      have he1 := fun W => eql_digest W (macL key b) (macL key b) (macL_len _ _) (macL_len _ _)
      have he2 := fun W => eql_digest W d (macL key b) hd (macL_len _ _)
      have hss : (macL key b == macL key b) = true := by simp
      have hsy : (d == macL key b) = (macL key b == d) := by rw [Bool.eq_iff_iff, beq_iff_eq, beq_iff_eq]; exact eq_comm
      have hml : (macL key b).length = 32 := macL_len _ _
      rw [hss] at hc1 he1
      rw [hsy] at he2
      clear hss hsy
      generalize (macL key b == d) = R at *
      obtain ⟨ML, hML⟩ : ∃ ML, ML = (macL key b).map B8 := ⟨_, rfl⟩
      obtain ⟨DL, hDL⟩ : ∃ DL, DL = d.map B8 := ⟨_, rfl⟩
      have hiM : (Try.prog.info? 24).map (·.size) = some ML.length := by rw [hML, List.length_map, hml]; kernel_rfl
      have hiD : (Try.prog.info? 24).map (·.size) = some DL.length := by rw [hDL, List.length_map, hd]; kernel_rfl
      have hu := Try.underlying24
      have hM32 : ML.length = 32 := by rw [hML, List.length_map, hml]
      have HMS : Hid ((32 : Nat) = ML.toArray.size) := by show _ = _; rw [List.size_toArray, hM32]
      have HM1 : Hid (ML.toArray.all (·.oneCell') = true) := by show _ = _; rw [hML]; exact B8_onea _
      have hMs : ML.toArray.size = 32 := by rw [List.size_toArray, hM32]
      simp only [← hML, ← hDL] at ht hr hc1 hc2 he1 he2 ⊢
      have hlk' : ¬ (300 : Int) < (key.length : Int) := by omega
      have hlb' : ¬ (300 : Int) < (b.length : Int) := by omega
      clear hML hDL hml hd hk hb
      go_enter Try.func3, Try.ntmps3
      go_wp2_with fail
      refine (ht _ (HB.alloc HKV.out _) (HB.alloc HBV.out _)).mono ?_
      rintro e w1 ⟨rfl, hb1⟩
      have hs1 : w.heap.size + 1 ≤ w1.heap.size := by have := hb1.size; simpa using this
      have G1 : Hid (w1.heap[w.heap.size]? = some (.cells DL.toArray 24 (0, 0))) := below_blk hb1 (by simp) (heap_alloc_new _ _)
      have hbw1 : Below w.heap.size w w1 := ((Below.refl _ _).alloc (Nat.le_refl _) _).trans (hb1.mono (by simp))
      clear hb1 ht
      go_wp2_with fail
      refine upon_store w1.heap.size ML.toArray Z32 24 (heap_alloc_new _ _) HMS.out HM1.out ?_
      intro wA HA hbA
      have cA : Below w1.heap.size w1 wA := ((Below.refl _ _).alloc (Nat.le_refl _) _).trans hbA
      have hbwA : Below w.heap.size w wA := hbw1.trans (cA.mono (by omega))
      have GA : Hid _ := (cA.block w.heap.size (by omega)).trans G1.out
      have hsA := row_lt HA.out
      have HKA : Hid _ := HB.below HKV.out hbwA
      have HBA : Hid _ := HB.below HBV.out hbwA
      clear hbA cA G1 hbw1
      go_wp2_with fail
      refine (hr _ HKA.out HBA.out).mono ?_
      rintro e w2 ⟨rfl, hb2⟩
      have hs2 := hb2.size
      have HA2 : Hid _ := (hb2.block w1.heap.size hsA).trans HA.out
      have G2 : Hid _ := (hb2.block w.heap.size (by omega)).trans GA.out
      have hbw2 : Below w.heap.size w w2 := hbwA.trans (hb2.mono (by omega))
      clear hb2 hr hbwA GA HA HKA HBA
      go_wp2_with fail
      refine upon_store w2.heap.size ML.toArray Z32 24 (heap_alloc_new _ _) HMS.out HM1.out ?_
      intro wB HBq hbB
      have cB : Below w2.heap.size w2 wB := ((Below.refl _ _).alloc (Nat.le_refl _) _).trans hbB
      have hLS : LS w ML DL w1.heap.size w2.heap.size wB := ⟨row_range ((cB.block w1.heap.size (by omega)).trans HA2.out), row_range HBq.out, row_range ((cB.block w.heap.size (by omega)).trans G2.out), hbw2.trans (cB.mono (by omega))⟩
      have HLS : Hid _ := hLS
      clear hbB cB hLS hbw2 HA2 G2 HBq hMs hM32
      go_wp2
      refine wp_region_held_drew (S := LS w ML DL w1.heap.size w2.heap.size) (by kernel_rfl) ?_ (fun hHeld => ?_)
      · have h := HLS.out
        exact ⟨h.1, h.2.1, h.2.2.1, h.2.2.2.drew⟩
      refine wpAnyH_take (i := 0) (oi := { dst := some 24, op := Go.Op.load 24 (Go.Operand.tmp 7), type := 24, pos := _, after := #[], guard := none }) rfl (by kernel_rfl) (by kernel_rfl) (by kernel_rfl) (fun _ _ _ h => h) (yieldsIf_load_mid (by rfl) 24 (.tmp 7) rfl (w1.heap.size) (0) rfl (ML) _ (fun _ h => h.1) hu rfl hiM) hHeld ?_
      try simp only [Act.put, List.setIfInBounds_toArray, List.set_cons_zero, List.set_cons_succ]
      refine wpAnyH_take (i := 1) (oi := { dst := some 25, op := Go.Op.load 24 (Go.Operand.tmp 8), type := 24, pos := _, after := #[], guard := none }) rfl (by kernel_rfl) (by kernel_rfl) (by kernel_rfl) (fun _ _ _ h => h) (yieldsIf_load_mid (by rfl) 24 (.tmp 8) rfl (w2.heap.size) (0) rfl (ML) _ (fun _ h => h.2.1) hu rfl hiM) hHeld ?_
      try simp only [Act.put, List.setIfInBounds_toArray, List.set_cons_zero, List.set_cons_succ]
      refine wpAnyH_take (i := 2) (oi := { dst := some 26, op := Go.Op.binOp Go.BinOp.eql 24 (Go.Operand.tmp 24) (Go.Operand.tmp 25) 24, type := 4, pos := _, after := #[{ on := 0, ground := Go.Ground.data }, { on := 1, ground := Go.Ground.data }], guard := none }) (v := .bool true) rfl (by kernel_rfl) (by kernel_rfl) (by kernel_rfl) (fun _ _ _ h => h) (Or.inl ⟨by rfl, fun w' hw' => ?_⟩) hHeld ?_
      · first | (go_simp; done) | (go_simp; rfl)
      try simp only [Act.put, List.setIfInBounds_toArray, List.set_cons_zero, List.set_cons_succ]
      refine wpAnyH_take (i := 3) (oi := { dst := some 27, op := Go.Op.move (Go.Operand.tmp 26), type := 4, pos := _, after := #[{ on := 2, ground := Go.Ground.data }], guard := none }) (v := .bool true) rfl (by kernel_rfl) (by kernel_rfl) (by kernel_rfl) (fun _ _ _ h => h) (Or.inl ⟨by rfl, fun w' hw' => ?_⟩) hHeld ?_
      · first | (go_simp; done) | (go_simp; rfl)
      try simp only [Act.put, List.setIfInBounds_toArray, List.set_cons_zero, List.set_cons_succ]
      refine wpAnyH_take (i := 4) (oi := { dst := some 28, op := Go.Op.move (Go.Operand.tmp 0), type := 22, pos := _, after := #[{ on := 3, ground := Go.Ground.guard }], guard := some (3, true) }) (v := .slice pk key.length capk) rfl (by kernel_rfl) (by kernel_rfl) (by kernel_rfl) (fun _ _ _ h => h) (Or.inl ⟨by rfl, fun w' hw' => ?_⟩) hHeld ?_
      · first | (go_simp; done) | (go_simp; rfl)
      try simp only [Act.put, List.setIfInBounds_toArray, List.set_cons_zero, List.set_cons_succ]
      refine wpAnyH_take (i := 5) (oi := { dst := some 29, op := Go.Op.move (Go.Operand.tmp 1), type := 22, pos := _, after := #[{ on := 3, ground := Go.Ground.guard }], guard := some (3, true) }) (v := .slice pb b.length capb) rfl (by kernel_rfl) (by kernel_rfl) (by kernel_rfl) (fun _ _ _ h => h) (Or.inl ⟨by rfl, fun w' hw' => ?_⟩) hHeld ?_
      · first | (go_simp; done) | (go_simp; rfl)
      try simp only [Act.put, List.setIfInBounds_toArray, List.set_cons_zero, List.set_cons_succ]
      refine wpAnyH_take (i := 6) (oi := { dst := some 30, op := Go.Op.load 24 (Go.Operand.tmp 8), type := 24, pos := _, after := #[{ on := 3, ground := Go.Ground.guard }], guard := some (3, true) }) rfl (by kernel_rfl) (by kernel_rfl) (by kernel_rfl) (fun _ _ _ h => h) (yieldsIf_load_mid (by rfl) 24 (.tmp 8) rfl (w2.heap.size) (0) rfl (ML) _ (fun _ h => h.2.1) hu rfl hiM) hHeld ?_
      try simp only [Act.put, List.setIfInBounds_toArray, List.set_cons_zero, List.set_cons_succ]
      refine wpAnyH_ready (rs := [7]) (by kernel_rfl) (by simp) ?_
      refine AllReadyH.cons (o := { dst := some 31, op := Go.Op.call { callee := Go.Callee.value (Go.Operand.func 11), args := #[Go.Operand.tmp 28, Go.Operand.tmp 29, Go.Operand.tmp 30], argTypes := #[22, 22, 24] }, type := 4, pos := _, after := #[{ on := 4, ground := Go.Ground.data }, { on := 5, ground := Go.Ground.data }, { on := 6, ground := Go.Ground.data }, { on := 3, ground := Go.Ground.chain }, { on := 3, ground := Go.Ground.guard }], guard := some (3, true) }) rfl (fun K hK => ?_) AllReadyH.nil
      rw [if_pos (by rfl)]
      go_wp2_with fail
      refine (hc1 _ ?_ ?_).mono ?_
      · exact HB.below HKV.out hHeld.2.2.2
      · exact HB.below HBV.out hHeld.2.2.2
      rintro e w3 ⟨rfl, hb3⟩
      have hHeld3 := LS.below hHeld hb3
      clear hb3
      refine hK.out _ _ hHeld3 (fun _ => ?_)
      clear hK K
      try simp only [Act.put, List.setIfInBounds_toArray, List.set_cons_zero, List.set_cons_succ]
      have hHeld := hHeld3
      refine wpAnyH_take (i := 8) (oi := { dst := some 32, op := Go.Op.pick (Go.Operand.tmp 27) (Go.Operand.tmp 31) (Go.Operand.const (Go.Value.bool false)), type := 4, pos := _, after := #[{ on := 3, ground := Go.Ground.data }, { on := 7, ground := Go.Ground.data }], guard := none }) (v := .bool true) rfl (by kernel_rfl) (by kernel_rfl) (by kernel_rfl) (fun _ _ _ h => h) (Or.inl ⟨by rfl, fun w' hw' => ?_⟩) hHeld ?_
      · first | (go_simp; done) | (go_simp; rfl)
      try simp only [Act.put, List.setIfInBounds_toArray, List.set_cons_zero, List.set_cons_succ]
      refine wpAnyH_take (i := 9) (oi := { dst := some 33, op := Go.Op.move (Go.Operand.tmp 32), type := 4, pos := _, after := #[{ on := 8, ground := Go.Ground.data }, { on := 7, ground := Go.Ground.chain }], guard := none }) (v := .bool true) rfl (by kernel_rfl) (by kernel_rfl) (by kernel_rfl) (fun _ _ _ h => h) (Or.inl ⟨by rfl, fun w' hw' => ?_⟩) hHeld ?_
      · first | (go_simp; done) | (go_simp; rfl)
      try simp only [Act.put, List.setIfInBounds_toArray, List.set_cons_zero, List.set_cons_succ]
      refine wpAnyH_take (i := 10) (oi := { dst := some 34, op := Go.Op.move (Go.Operand.tmp 0), type := 22, pos := _, after := #[{ on := 9, ground := Go.Ground.guard }], guard := some (9, true) }) (v := .slice pk key.length capk) rfl (by kernel_rfl) (by kernel_rfl) (by kernel_rfl) (fun _ _ _ h => h) (Or.inl ⟨by rfl, fun w' hw' => ?_⟩) hHeld ?_
      · first | (go_simp; done) | (go_simp; rfl)
      try simp only [Act.put, List.setIfInBounds_toArray, List.set_cons_zero, List.set_cons_succ]
      refine wpAnyH_take (i := 11) (oi := { dst := some 35, op := Go.Op.move (Go.Operand.tmp 1), type := 22, pos := _, after := #[{ on := 9, ground := Go.Ground.guard }], guard := some (9, true) }) (v := .slice pb b.length capb) rfl (by kernel_rfl) (by kernel_rfl) (by kernel_rfl) (fun _ _ _ h => h) (Or.inl ⟨by rfl, fun w' hw' => ?_⟩) hHeld ?_
      · first | (go_simp; done) | (go_simp; rfl)
      try simp only [Act.put, List.setIfInBounds_toArray, List.set_cons_zero, List.set_cons_succ]
      refine wpAnyH_take (i := 12) (oi := { dst := some 36, op := Go.Op.load 24 (Go.Operand.tmp 5), type := 24, pos := _, after := #[{ on := 9, ground := Go.Ground.guard }], guard := some (9, true) }) rfl (by kernel_rfl) (by kernel_rfl) (by kernel_rfl) (fun _ _ _ h => h) (yieldsIf_load_mid (by rfl) 24 (.tmp 5) rfl (w.heap.size) (0) rfl (DL) _ (fun _ h => h.2.2.1) hu rfl hiD) hHeld ?_
      try simp only [Act.put, List.setIfInBounds_toArray, List.set_cons_zero, List.set_cons_succ]
      refine wpAnyH_take (i := 14) (oi := { dst := some 38, op := Go.Op.load 24 (Go.Operand.tmp 5), type := 24, pos := _, after := #[{ on := 9, ground := Go.Ground.guard }], guard := some (9, true) }) rfl (by kernel_rfl) (by kernel_rfl) (by kernel_rfl) (fun _ _ _ h => h) (yieldsIf_load_mid (by rfl) 24 (.tmp 5) rfl (w.heap.size) (0) rfl (DL) _ (fun _ h => h.2.2.1) hu rfl hiD) hHeld ?_
      try simp only [Act.put, List.setIfInBounds_toArray, List.set_cons_zero, List.set_cons_succ]
      refine wpAnyH_take (i := 15) (oi := { dst := some 39, op := Go.Op.load 24 (Go.Operand.tmp 8), type := 24, pos := _, after := #[{ on := 9, ground := Go.Ground.guard }], guard := some (9, true) }) rfl (by kernel_rfl) (by kernel_rfl) (by kernel_rfl) (fun _ _ _ h => h) (yieldsIf_load_mid (by rfl) 24 (.tmp 8) rfl (w2.heap.size) (0) rfl (ML) _ (fun _ h => h.2.1) hu rfl hiM) hHeld ?_
      try simp only [Act.put, List.setIfInBounds_toArray, List.set_cons_zero, List.set_cons_succ]
      refine wpAnyH_take (i := 16) (oi := { dst := some 40, op := Go.Op.binOp Go.BinOp.eql 24 (Go.Operand.tmp 38) (Go.Operand.tmp 39) 24, type := 4, pos := _, after := #[{ on := 14, ground := Go.Ground.data }, { on := 15, ground := Go.Ground.data }, { on := 9, ground := Go.Ground.guard }], guard := some (9, true) }) (v := .bool R) rfl (by kernel_rfl) (by kernel_rfl) (by kernel_rfl) (fun _ _ _ h => h) (Or.inl ⟨by rfl, fun w' hw' => ?_⟩) hHeld ?_
      · first | (go_simp; done) | (go_simp; rfl)
      try simp only [Act.put, List.setIfInBounds_toArray, List.set_cons_zero, List.set_cons_succ]
      refine wpAnyH_ready (rs := [13]) (by kernel_rfl) (by simp) ?_
      refine AllReadyH.cons (o := { dst := some 37, op := Go.Op.call { callee := Go.Callee.value (Go.Operand.func 11), args := #[Go.Operand.tmp 34, Go.Operand.tmp 35, Go.Operand.tmp 36], argTypes := #[22, 22, 24] }, type := 4, pos := _, after := #[{ on := 10, ground := Go.Ground.data }, { on := 11, ground := Go.Ground.data }, { on := 12, ground := Go.Ground.data }, { on := 9, ground := Go.Ground.chain }, { on := 9, ground := Go.Ground.guard }], guard := some (9, true) }) rfl (fun K hK => ?_) AllReadyH.nil
      rw [if_pos (by rfl)]
      go_wp2_with fail
      refine (hc2 _ ?_ ?_).mono ?_
      · exact HB.below HKV.out hHeld3.2.2.2
      · exact HB.below HBV.out hHeld3.2.2.2
      rintro e w4 ⟨rfl, hb4⟩
      have hHeld4 := LS.below hHeld3 hb4
      clear hb4
      refine hK.out _ _ hHeld4 (fun _ => ?_)
      clear hK K
      try simp only [Act.put, List.setIfInBounds_toArray, List.set_cons_zero, List.set_cons_succ]
      have hHeld := hHeld4
      refine wpAnyH_take (i := 17) (oi := { dst := some 41, op := Go.Op.binOp Go.BinOp.eql 4 (Go.Operand.tmp 37) (Go.Operand.tmp 40) 4, type := 4, pos := _, after := #[{ on := 13, ground := Go.Ground.data }, { on := 16, ground := Go.Ground.data }, { on := 9, ground := Go.Ground.guard }], guard := some (9, true) }) (v := .bool true) rfl (by kernel_rfl) (by kernel_rfl) (by kernel_rfl) (fun _ _ _ h => h) (Or.inl ⟨by rfl, fun w' hw' => ?_⟩) hHeld ?_
      · first | (go_simp; done) | (go_simp; rfl)
      try simp only [Act.put, List.setIfInBounds_toArray, List.set_cons_zero, List.set_cons_succ]
      refine wpAnyH_take (i := 18) (oi := { dst := some 42, op := Go.Op.pick (Go.Operand.tmp 33) (Go.Operand.tmp 41) (Go.Operand.const (Go.Value.bool false)), type := 4, pos := _, after := #[{ on := 9, ground := Go.Ground.data }, { on := 17, ground := Go.Ground.data }], guard := none }) (v := .bool true) rfl (by kernel_rfl) (by kernel_rfl) (by kernel_rfl) (fun _ _ _ h => h) (Or.inl ⟨by rfl, fun w' hw' => ?_⟩) hHeld ?_
      · first | (go_simp; done) | (go_simp; rfl)
      try simp only [Act.put, List.setIfInBounds_toArray, List.set_cons_zero, List.set_cons_succ]
      refine wpAnyH_take (i := 19) (oi := { dst := some 43, op := Go.Op.move (Go.Operand.tmp 42), type := 4, pos := _, after := #[{ on := 18, ground := Go.Ground.data }, { on := 13, ground := Go.Ground.chain }], guard := none }) (v := .bool true) rfl (by kernel_rfl) (by kernel_rfl) (by kernel_rfl) (fun _ _ _ h => h) (Or.inl ⟨by rfl, fun w' hw' => ?_⟩) hHeld ?_
      · first | (go_simp; done) | (go_simp; rfl)
      try simp only [Act.put, List.setIfInBounds_toArray, List.set_cons_zero, List.set_cons_succ]
      refine wpAnyH_ready (rs := [20]) (by kernel_rfl) (by simp) ?_
      refine AllReadyH.cons (o := { dst := some 44, op := Go.Op.call { callee := Go.Callee.value (Go.Operand.func 8), args := #[], argTypes := #[] }, type := 4, pos := _, after := #[{ on := 19, ground := Go.Ground.chain }, { on := 19, ground := Go.Ground.guard }], guard := some (19, true) }) rfl (fun K hK => ?_) AllReadyH.nil
      rw [if_pos (by rfl)]
      go_wp2_with fail
      refine (hn _).mono ?_
      rintro e w5 ⟨rfl, hb5⟩
      have hHeld5 := LS.below hHeld4 hb5
      clear hb5
      refine hK.out _ _ hHeld5 (fun _ => ?_)
      clear hK K
      try simp only [Act.put, List.setIfInBounds_toArray, List.set_cons_zero, List.set_cons_succ]
      have hHeld := hHeld5
      refine wpAnyH_take (i := 21) (oi := { dst := some 45, op := Go.Op.pick (Go.Operand.tmp 43) (Go.Operand.tmp 44) (Go.Operand.const (Go.Value.bool false)), type := 4, pos := _, after := #[{ on := 19, ground := Go.Ground.data }, { on := 20, ground := Go.Ground.data }], guard := none }) (v := .bool true) rfl (by kernel_rfl) (by kernel_rfl) (by kernel_rfl) (fun _ _ _ h => h) (Or.inl ⟨by rfl, fun w' hw' => ?_⟩) hHeld ?_
      · first | (go_simp; done) | (go_simp; rfl)
      try simp only [Act.put, List.setIfInBounds_toArray, List.set_cons_zero, List.set_cons_succ]
      refine wpAnyH_take (i := 22) (oi := { dst := some 6, op := Go.Op.assign (Go.Operand.tmp 45), type := 4, pos := _, after := #[{ on := 21, ground := Go.Ground.data }, { on := 20, ground := Go.Ground.chain }, { on := 0, ground := Go.Ground.phase }, { on := 1, ground := Go.Ground.phase }, { on := 2, ground := Go.Ground.phase }, { on := 3, ground := Go.Ground.phase }, { on := 4, ground := Go.Ground.phase }, { on := 5, ground := Go.Ground.phase }, { on := 6, ground := Go.Ground.phase }, { on := 7, ground := Go.Ground.phase }, { on := 8, ground := Go.Ground.phase }, { on := 9, ground := Go.Ground.phase }, { on := 10, ground := Go.Ground.phase }, { on := 11, ground := Go.Ground.phase }, { on := 12, ground := Go.Ground.phase }, { on := 13, ground := Go.Ground.phase }, { on := 14, ground := Go.Ground.phase }, { on := 15, ground := Go.Ground.phase }, { on := 16, ground := Go.Ground.phase }, { on := 17, ground := Go.Ground.phase }, { on := 18, ground := Go.Ground.phase }, { on := 19, ground := Go.Ground.phase }, { on := 20, ground := Go.Ground.phase }, { on := 21, ground := Go.Ground.phase }], guard := none }) (v := .bool true) rfl (by kernel_rfl) (by kernel_rfl) (by kernel_rfl) (fun _ _ _ h => h) (Or.inl ⟨by rfl, fun w' hw' => ?_⟩) hHeld ?_
      · first | (go_simp; done) | (go_simp; rfl)
      try simp only [Act.put, List.setIfInBounds_toArray, List.set_cons_zero, List.set_cons_succ]
      refine wpAnyH_done (by kernel_rfl) ?_ _
      have HB5 : Hid _ := hHeld5.2.2.2
      clear hHeld hHeld3 hHeld4 hHeld5
      go_wp2
      go_ret
      exact ⟨rfl, HB5.out⟩
    · have hlk' : ¬ (300 : Int) < (key.length : Int) := by omega
      have hlb' : (300 : Int) < (b.length : Int) := by omega
      generalize (d.map B8).toArray = DA at *
      clear hk hb
      go_enter Try.func3, Try.ntmps3
      go_wp2_with fail
      refine (hn _).mono ?_
      rintro e w1 ⟨rfl, b1⟩
      go_wp2
      go_ret
      exact ⟨rfl, ((Below.refl _ _).alloc (Nat.le_refl _) _).trans (b1.mono (by simp))⟩
  · have hlk' : (300 : Int) < (key.length : Int) := by omega
    generalize (d.map B8).toArray = DA at *
    clear hk hb
    go_enter Try.func3, Try.ntmps3
    go_wp2_with fail
    refine (hn _).mono ?_
    rintro e w1 ⟨rfl, b1⟩
    go_wp2
    go_ret
    exact ⟨rfl, ((Below.refl _ _).alloc (Nat.le_refl _) _).trans (b1.mono (by simp))⟩

set_option maxRecDepth 100000 in
theorem lifted (os : Os) (started : os.Started) (H : Type) (enc : TypeId × Value → H) :
    ReturnsInHanded {} Try.checked os 3 .any (Rows.macTagsSpec.pre6 enc Try.prog Try.f3 Rows.macTagsRow.domain false) (Rows.macTagsSpec.post enc Try.prog Try.f3 false true false false) := by
  refine returnsInHanded_of_change (C := Try.checked) own started (by kernel_rfl) Try.func3
    (ChangeSpec.witness6 (enc := enc) (C := Try.checked) false ⟨#[], #[.slice none 0 0, .slice none 0 0, .agg (Array.replicate 32 (.int .u8 0))], []⟩ 8 (by kernel_rfl) (by kernel_rfl) (by kernel_rfl) (by kernel_rfl)) ?_
  intro W base args ds gs before hval0 hW hcnd _
  have hval : ∀ (j : Nat) t v, Try.f3.params[j]? = some t → args[j]? = some v → Value.okWide Try.prog W .any base t v := hval0
  have hW' := hW
  obtain ⟨p, q, hA0, hV, rfl, hfz, hnd⟩ := hW
  have hA : DataW.TrodAll enc Try.prog W 0 (fun _ => true) true Try.f3.params.toList args.toList ds p := hA0
  rw [Try.params3] at hA hval
  obtain ⟨v0, vs0, d0, ds0, p0, q0, hargs, rfl, rfl, h0, r0⟩ := trodAll_cons hA
  obtain ⟨v1, vs1, d1, ds1, p1, q1, rfl, rfl, rfl, h1, r1⟩ := trodAll_cons r0
  obtain ⟨v2, vs2, d2, ds2, p2, q2, rfl, rfl, rfl, h2, r2⟩ := trodAll_cons r1
  obtain ⟨rfl, rfl, rfl⟩ := trodAll_nil r2
  obtain rfl : args = #[v0, v1, v2] := by cases args; simp_all
  obtain ⟨rfl, rfl⟩ := trodVars_none hV
  obtain ⟨a0, len0, cap0, rfl⟩ := okWide_slice Try.underlying22 (hval 0 22 v0 rfl rfl)
  have k0 := h0
  have lt0 : ∀ x ∈ p0, x.block < W.heap.size := by obtain ⟨m, hm⟩ := k0; exact DataW.trod_lt m _ _ _ hm
  obtain ⟨l0, hl0, hm0⟩ : ∃ l, HB W (.slice a0 len0 cap0) l ∧ l.length ≤ 9223372036854775807 := by obtain ⟨fuel, hf⟩ := h0; exact open_bytes hf
  obtain ⟨a1, len1, cap1, rfl⟩ := okWide_slice Try.underlying22 (hval 1 22 v1 rfl rfl)
  have k1 := h1
  have lt1 : ∀ x ∈ p1, x.block < W.heap.size := by obtain ⟨m, hm⟩ := k1; exact DataW.trod_lt m _ _ _ hm
  obtain ⟨l1, hl1, hm1⟩ : ∃ l, HB W (.slice a1 len1 cap1) l ∧ l.length ≤ 9223372036854775807 := by obtain ⟨fuel, hf⟩ := h1; exact open_bytes hf
  have k2 := h2
  have lt2 : ∀ x ∈ p2, x.block < W.heap.size := by obtain ⟨m, hm⟩ := k2; exact DataW.trod_lt m _ _ _ hm
  obtain ⟨l2, rfl, hl2⟩ := open_octets Try.underlying24 (by kernel_rfl) (hval 2 24 v2 rfl rfl) h2
  clear hA0 hval0
  refine (walk _ l0 _ l1 l2 W hm0 hl0 hm1 hl1 hl2).mono fun e W' ⟨he, bel⟩ => ?_
  subst he
  exact ⟨_, rfl, _, _, _, [], _, [], hW', trodAll_mk1 (shut_bool Try.underlying4 _), (trodAll_cons_mk (Below.trod laidOut (by kernel_rfl) (of_decide_eq_true (by kernel_rfl)) k0 bel lt0) (trodAll_cons_mk (Below.trod laidOut (by kernel_rfl) (of_decide_eq_true (by kernel_rfl)) k1 bel lt1) (trodAll_cons_mk (Below.trod laidOut (by kernel_rfl) (of_decide_eq_true (by kernel_rfl)) k2 bel lt2) trodAll_mk0))), rfl, bel.frame _, fun h => by cases h⟩

theorem over : Rows.macTagsRow.holds Try.pinned (OpenSpec.ofChange Rows.macTagsSpec) :=
  OpenClaim.holds_of_wide 3 Try.f3 rfl rfl rfl rfl rfl rfl rfl ⟨rfl, rfl, rfl, rfl, rfl⟩ rfl rfl rfl rfl rfl (by kernel_rfl) Try.func3 (by kernel_rfl)
    (of_decide_eq_true (by kernel_rfl)) (by unfold Func.isWrapper; first | (rw [if_pos (by decide +kernel)]; kernel_rfl) | (rw [if_neg (by decide +kernel)]; exact ⟨rfl, rfl⟩))
    (fun os started H enc _ => lifted os started H enc)

end Go.Proofs.Ytojafgilpnnbiab.macTags
namespace Go.Proofs.Ytojafgilpnnbiab
theorem macTags_holds : Rows.MacTagsSaid := macTags.over
#print axioms macTags_holds
end Go.Proofs.Ytojafgilpnnbiab
