/- Several texts in one. -/
import Derived.Test.YtnijjoankahddaaGreatFD
import Derived.Test.YtnijjoankahddaaGreatWx
set_option linter.unusedVariables false
set_option linter.unusedSimpArgs false
/- tree: the document's At and put, over both memories. -/
namespace Go.Proofs.YtnijjoankahddaaGreat.DC
open Go.RowKit

section
variable {w X Y : World} {og mb rg mm gb rm bb n : Nat} {i : Bool} {m : List UInt8} {D : List (List UInt8)} {L L' R R' : Lg} {rows rows' : Rws} {l1 l2 l' A : List UInt8}
set_option maxHeartbeats 4000000 in
set_option maxRecDepth 100000 in
theorem TM.rat (h : TM w og mb rg i m D L R mm gb rm bb n l1 l2 rows X) (a k : Nat) (hw : witB n a = true) (hk : k < 256) :
    Calls Tryz.prog 28 #[.pointer (some ⟨rm, 0, none⟩), .int .u64 (a : Int), .int .i64 (k : Int)] X fun e Y => e = .returned (.agg ((nodeB l2 a k).map B8).toArray) ∧ TM w og mb rg i m D L R mm gb rm bb n l1 l2 rows Y := by
  have hz := fun W => R5.zero_dig W
  obtain ⟨ZL, hZL⟩ : ∃ L, L = (List.replicate 32 (0 : UInt8)).map B8 := ⟨_, rfl⟩
  rw [← hZL] at hz
  have HZL : Hid (ZL.length = 32) := by show _ = _; rw [hZL]; simp
  clear hZL
  have hnl := nodeB_len h.len2 hw hk
  have hlt := wit_lt hw h.le hk
  have hwd := of_decide_eq_true hw
  have hin : a + 32 * k + 32 ≤ 128 * n := by omega
  have hN : 128 * n ≤ 600000 := by have := h.le; omega
  have e1 : IntKind.i64.wrap (a : Int) = (a : Int) := by rw [IntKind.wrap_i64]; omega
  have e2 : IntKind.i64.wrap (32 * (k : Int)) = ((32 * k : Nat) : Int) := by rw [IntKind.wrap_i64]; omega
  have e3 : IntKind.i64.wrap ((a : Int) + ((32 * k : Nat) : Int)) = ((a + 32 * k : Nat) : Int) := by rw [IntKind.wrap_i64]; omega
  have hsl := fun W => MC.slice_off W bb 0 (128 * n) (128 * n) (a + 32 * k) (by omega) (by omega)
  rw [Nat.zero_add] at hsl
  obtain ⟨KO, hK⟩ : ∃ KO, a + 32 * k = KO := ⟨_, rfl⟩
  obtain ⟨N, hN2⟩ : ∃ N, 128 * n = N := ⟨_, rfl⟩
  obtain ⟨z2, hz2⟩ : ∃ z : Int, ((32 * k : Nat) : Int) = z := ⟨_, rfl⟩
  rw [hz2] at e2 e3
  rw [hK, hN2] at hsl
  rw [hK] at e3
  have HIN : Hid (KO + 32 ≤ N ∧ N ≤ 600000) := by show _ ∧ _; omega
  have HRG : Hid (∀ rws W, TM w og mb rg i m D L R mm gb rm bb n l1 l2 rws W → W.rangeAt bb KO ((nodeB l2 a k).map B8)) := fun rws W hW => by
    have q := MC.rangeAt_part (MC.rangeAt_row hW.rmem.row) (a + 32 * k) 32
    rw [Nat.zero_add, hK, ← List.map_drop, ← List.map_take] at q
    unfold nodeB MC.rdB
    rw [hK]; exact q
  have HCE : Hid (∀ rws W, TM w og mb rg i m D L R mm gb rm bb n l1 l2 rws W → W.cell? ⟨rm, 0, none⟩ = some (.slice (some ⟨bb, 0, none⟩) N N)) := fun rws W hW => by rw [← hN2]; exact hW.rmem.cell
  have HNL : Hid (((nodeB l2 a k).map B8).length = 32) := by show _ = _; simpa using hnl
  have HN1 : Hid _ := MC.B8_one (nodeB l2 a k)
  have HN2 : Hid _ := R5.B8_onea (nodeB l2 a k)
  generalize (nodeB l2 a k).map B8 = NL at *
  have HT0 : Hid _ := (h.alloc X.heap.size rfl 23 ZL).alloc (X.heap.size + 1) (by simp) 23 ZL
  have hsd := fun W => R5.sliceDig W (X.heap.size + 1) 0
  clear hlt hwd hin hN hK hN2 hz2 h hw hk hnl
  generalize hb6 : X.heap.size = b6 at *
  generalize hb7 : b6 + 1 = b7 at *
  go_enter Tryz.func28, Tryz.ntmps28
  go_upto_region 2 with fail
  try rw [hb6] at *
  try rw [hb7] at *
  have HT1 : Hid _ := HT0.out.step (Below.refl _ _).drew
  refine wp_region_held_drew (S := fun W => TM w og mb rg i m D L R mm gb rm bb n l1 l2 rows W) (by kernel_rfl) HT1.out.drop.drop (fun hHeld => ?_)
  clear HT0
  generalize World.drew _ = V0 at *
  refine wpAnyH_take (i := 0) (oi := { dst := some 8, op := Go.Op.slice 23 (Go.Operand.tmp 7) none none none, type := 83, pos := _, after := #[], guard := none }) (v := .slice (some ⟨b7, 0, none⟩) 32 32) rfl (by kernel_rfl) (by kernel_rfl) (by kernel_rfl) (fun _ _ _ h => h) (Or.inl ⟨by rfl, fun w' hw' => ?_⟩) hHeld ?_
  · first | (go_simp; done) | (go_simp; rfl)
  try simp only [Act.put, List.setIfInBounds_toArray, List.set_cons_zero, List.set_cons_succ]
  refine wpAnyH_take (i := 1) (oi := { dst := some 9, op := Go.Op.move (Go.Operand.tmp 0), type := 34, pos := _, after := #[], guard := none }) (v := .pointer (some ⟨rm, 0, none⟩)) rfl (by kernel_rfl) (by kernel_rfl) (by kernel_rfl) (fun _ _ _ h => h) (Or.inl ⟨by rfl, fun w' hw' => ?_⟩) hHeld ?_
  · first | (go_simp; done) | (go_simp; rfl)
  try simp only [Act.put, List.setIfInBounds_toArray, List.set_cons_zero, List.set_cons_succ]
  refine wpAnyH_take (i := 2) (oi := { dst := some 10, op := Go.Op.nilCheck (Go.Operand.tmp 9), type := 0, pos := _, after := #[{ on := 1, ground := Go.Ground.data }], guard := none }) (v := .pointer (some ⟨rm, 0, none⟩)) rfl (by kernel_rfl) (by kernel_rfl) (by kernel_rfl) (fun _ _ _ h => h) (Or.inl ⟨by rfl, fun w' hw' => ?_⟩) hHeld ?_
  · first | (go_simp; done) | (go_simp; rfl)
  try simp only [Act.put, List.setIfInBounds_toArray, List.set_cons_zero, List.set_cons_succ]
  refine wpAnyH_take (i := 3) (oi := { dst := some 11, op := Go.Op.fieldAddr 97 (Go.Operand.tmp 10) 0, type := 0, pos := _, after := #[{ on := 2, ground := Go.Ground.data }], guard := none }) (v := .pointer (some ⟨rm, 0, none⟩)) rfl (by kernel_rfl) (by kernel_rfl) (by kernel_rfl) (fun _ _ _ h => h) (Or.inl ⟨by rfl, fun w' hw' => ?_⟩) hHeld ?_
  · first | (go_simp; done) | (go_simp; rfl)
  try simp only [Act.put, List.setIfInBounds_toArray, List.set_cons_zero, List.set_cons_succ]
  refine wpAnyH_take (i := 4) (oi := { dst := some 12, op := Go.Op.load 83 (Go.Operand.tmp 11), type := 83, pos := _, after := #[{ on := 3, ground := Go.Ground.data }], guard := none }) (v := .slice (some ⟨bb, 0, none⟩) N N) rfl (by kernel_rfl) (by kernel_rfl) (by kernel_rfl) (fun _ _ _ h => h) (Or.inl ⟨by rfl, fun w' hw' => ?_⟩) hHeld ?_
  · have hcc := HCE.out _ _ hw'; first | (go_simp; done) | (go_simp; rfl)
  try simp only [Act.put, List.setIfInBounds_toArray, List.set_cons_zero, List.set_cons_succ]
  refine wpAnyH_take (i := 5) (oi := { dst := some 13, op := Go.Op.move (Go.Operand.tmp 1), type := 26, pos := _, after := #[], guard := none }) (v := .int .u64 (a : Int)) rfl (by kernel_rfl) (by kernel_rfl) (by kernel_rfl) (fun _ _ _ h => h) (Or.inl ⟨by rfl, fun w' hw' => ?_⟩) hHeld ?_
  · first | (go_simp; done) | (go_simp; rfl)
  try simp only [Act.put, List.setIfInBounds_toArray, List.set_cons_zero, List.set_cons_succ]
  refine wpAnyH_take (i := 6) (oi := { dst := some 14, op := Go.Op.convert 26 3 (Go.Operand.tmp 13), type := 3, pos := _, after := #[{ on := 5, ground := Go.Ground.data }], guard := none }) (v := .int .i64 (a : Int)) rfl (by kernel_rfl) (by kernel_rfl) (by kernel_rfl) (fun _ _ _ h => h) (Or.inl ⟨by rfl, fun w' hw' => ?_⟩) hHeld ?_
  · first | (go_simp; done) | (go_simp; rfl)
  try simp only [Act.put, List.setIfInBounds_toArray, List.set_cons_zero, List.set_cons_succ]
  refine wpAnyH_take (i := 7) (oi := { dst := some 15, op := Go.Op.move (Go.Operand.tmp 2), type := 3, pos := _, after := #[], guard := none }) (v := .int .i64 (k : Int)) rfl (by kernel_rfl) (by kernel_rfl) (by kernel_rfl) (fun _ _ _ h => h) (Or.inl ⟨by rfl, fun w' hw' => ?_⟩) hHeld ?_
  · first | (go_simp; done) | (go_simp; rfl)
  try simp only [Act.put, List.setIfInBounds_toArray, List.set_cons_zero, List.set_cons_succ]
  refine wpAnyH_take (i := 8) (oi := { dst := some 16, op := Go.Op.binOp Go.BinOp.mul 3 (Go.Operand.const (Go.Value.int Go.IntKind.i64 32)) (Go.Operand.tmp 15) 3, type := 3, pos := _, after := #[{ on := 7, ground := Go.Ground.data }], guard := none }) (v := .int .i64 z2) rfl (by kernel_rfl) (by kernel_rfl) (by kernel_rfl) (fun _ _ _ h => h) (Or.inl ⟨by rfl, fun w' hw' => ?_⟩) hHeld ?_
  · first | (go_simp; done) | (go_simp; rfl)
  try simp only [Act.put, List.setIfInBounds_toArray, List.set_cons_zero, List.set_cons_succ]
  refine wpAnyH_take (i := 9) (oi := { dst := some 17, op := Go.Op.binOp Go.BinOp.add 3 (Go.Operand.tmp 14) (Go.Operand.tmp 16) 3, type := 3, pos := _, after := #[{ on := 6, ground := Go.Ground.data }, { on := 8, ground := Go.Ground.data }], guard := none }) (v := .int .i64 (KO : Int)) rfl (by kernel_rfl) (by kernel_rfl) (by kernel_rfl) (fun _ _ _ h => h) (Or.inl ⟨by rfl, fun w' hw' => ?_⟩) hHeld ?_
  · first | (go_simp; done) | (go_simp; rfl)
  try simp only [Act.put, List.setIfInBounds_toArray, List.set_cons_zero, List.set_cons_succ]
  refine wpAnyH_take (i := 10) (oi := { dst := some 18, op := Go.Op.slice 83 (Go.Operand.tmp 12) (some (Go.Operand.tmp 17)) none none, type := 83, pos := _, after := #[{ on := 4, ground := Go.Ground.data }, { on := 9, ground := Go.Ground.data }], guard := none }) (v := .slice (some ⟨bb, KO, none⟩) (N - KO) (N - KO)) rfl (by kernel_rfl) (by kernel_rfl) (by kernel_rfl) (fun _ _ _ h => h) (Or.inl ⟨by rfl, fun w' hw' => ?_⟩) hHeld ?_
  · first | (go_simp; done) | (go_simp; rfl)
  try simp only [Act.put, List.setIfInBounds_toArray, List.set_cons_zero, List.set_cons_succ]
  refine wpAnyH_ready (rs := [11]) (by kernel_rfl) (by simp) ?_
  refine AllReadyH.cons (o := { dst := some 19, op := Go.Op.call { callee := Go.Callee.builtin Go.Builtin.copy, args := #[Go.Operand.tmp 8, Go.Operand.tmp 18], argTypes := #[83, 83] }, type := 3, pos := _, after := #[{ on := 0, ground := Go.Ground.data }, { on := 10, ground := Go.Ground.data }], guard := none }) rfl (fun K hK => ?_) AllReadyH.nil
  rw [if_pos (by rfl)]
  have hin := HIN.out
  refine MC.wp_copy_seg (.tmp 8) (.tmp 18) rfl b7 0 32 32 (some ⟨bb, KO, none⟩) (N - KO) (N - KO) rfl rfl ZL 23 (HT1.out.at 0 rfl) NL (by rw [HNL.out]; exact (Nat.min_eq_right (by omega)).symm) (fun _ => ⟨_, rfl, fun j v hv => by rw [add_none]; exact HRG.out _ _ HT1.out j v hv⟩) (by rw [HNL.out, HZL.out]; decide) HN1.out ?_
  rw [MC.splice_all _ _ (HNL.out.trans HZL.out.symm)]
  have HT2 : Hid _ := HT1.out.put' 0 rfl NL
  have hH2 := HT2.out.drop.drop
  generalize World.setRow _ _ _ = V1 at *
  clear hHeld HT1 hin
  refine hK.out _ _ hH2 (fun _ => ?_)
  clear hK K
  try simp only [Act.put, List.setIfInBounds_toArray, List.set_cons_zero, List.set_cons_succ]
  refine wpAnyH_done (by kernel_rfl) ?_ _
  go_wp2_with (first
    | (refine wpList_load_mid rfl 23 (.tmp 7) rfl b7 0 rfl NL _ (MC.rangeAt_row (HT2.out.at 0 rfl)) Tryz.underlying23 rfl (infoD NL HNL.out) ?_)
    | (refine wpList_store_dL rfl (.tmp 6) (.tmp 20) rfl b6 NL ZL rfl rfl (HT2.out.at 1 rfl) HNL.out HZL.out HN2.out ?_; intro V2 e2; subst e2))
  refine bodyPost_ret (v := .agg NL.toArray) ?_ rfl ⟨rfl, (HT2.out.put' 1 rfl NL).drop.drop⟩
  exact results_cell_row Tryz.results28 _ _ b6 23 _ (0, 0) _ rfl (setRow_heap _ _ _ _ _ _ (HT2.out.at 1 rfl)) Tryz.underlying23 rfl (infoDa NL HNL.out)
set_option maxHeartbeats 4000000 in
set_option maxRecDepth 100000 in
theorem TM.rlay (h : TM w og mb rg i m D L R mm gb rm bb n l1 l2 rows X) (a k : Nat) (d : List UInt8) (hw : witB n a = true) (hk : k < 256) (hd : d.length = 32) :
    Calls Tryz.prog 54 #[.pointer (some ⟨rm, 0, none⟩), .int .u64 (a : Int), .int .i64 (k : Int), .agg (d.map B8).toArray] X fun e Y => e = .returned (.tuple #[]) ∧ TM w og mb rg i m D L R mm gb rm bb n l1 (splice l2 (a + 32 * k) d) rows Y := by
  have hlt := wit_lt hw h.le hk
  have hwd := of_decide_eq_true hw
  have hin : a + 32 * k + 32 ≤ 128 * n := by omega
  have hN : 128 * n ≤ 600000 := by have := h.le; omega
  have e1 : IntKind.i64.wrap (a : Int) = (a : Int) := by rw [IntKind.wrap_i64]; omega
  have e2 : IntKind.i64.wrap (32 * (k : Int)) = ((32 * k : Nat) : Int) := by rw [IntKind.wrap_i64]; omega
  have e3 : IntKind.i64.wrap ((a : Int) + ((32 * k : Nat) : Int)) = ((a + 32 * k : Nat) : Int) := by rw [IntKind.wrap_i64]; omega
  have hsl := fun W => MC.slice_off W bb 0 (128 * n) (128 * n) (a + 32 * k) (by omega) (by omega)
  rw [Nat.zero_add] at hsl
  obtain ⟨KO, hK⟩ : ∃ KO, a + 32 * k = KO := ⟨_, rfl⟩
  obtain ⟨N, hN2⟩ : ∃ N, 128 * n = N := ⟨_, rfl⟩
  obtain ⟨z2, hz2⟩ : ∃ z : Int, ((32 * k : Nat) : Int) = z := ⟨_, rfl⟩
  rw [hz2] at e2 e3
  rw [hK, hN2] at hsl
  rw [hK] at e3
  have HIN : Hid (KO + 32 ≤ N ∧ N ≤ 600000) := by show _ ∧ _; omega
  have HNN : Hid (128 * n = N) := hN2
  have HL2 : Hid (l2.length = N) := by show _ = _; rw [h.len2, hN2]
  rw [hK]
  have HCE : Hid (∀ rws W, TM w og mb rg i m D L R mm gb rm bb n l1 l2 rws W → W.cell? ⟨rm, 0, none⟩ = some (.slice (some ⟨bb, 0, none⟩) N N)) := fun rws W hW => by rw [← hN2]; exact hW.rmem.cell
  have HDL : Hid ((d.map B8).length = 32) := by show _ = _; simpa using hd
  have HD1 : Hid _ := MC.B8_one d
  obtain ⟨DL, hDL⟩ : ∃ L, d.map B8 = L := ⟨_, rfl⟩
  have HDLE : Hid (d.map B8 = DL) := hDL
  rw [hDL] at HDL HD1 ⊢
  have HDD : Hid (d.length = 32) := hd
  have HT0 : Hid _ := h.alloc X.heap.size rfl 23 DL
  have hsd := fun W => R5.sliceDig W X.heap.size 0
  clear hlt hwd hin hN hK hN2 hz2 h hw hk hd hDL
  generalize hb7 : X.heap.size = b7 at *
  go_enter Tryz.func54, Tryz.ntmps54
  go_upto_region 1 with fail
  try rw [hb7] at *
  have HT1 : Hid _ := HT0.out.step (Below.refl _ _).drew
  refine wp_region_held_drew (S := fun W => ∃ l2' rws, TM w og mb rg i m D L R mm gb rm bb n l1 l2' rws W) (by kernel_rfl) ⟨_, _, HT1.out⟩ (fun hHeld => ?_)
  clear HT0
  generalize World.drew _ = V0 at *
  refine wpAnyH_take (i := 0) (oi := { dst := some 8, op := Go.Op.move (Go.Operand.tmp 0), type := 34, pos := _, after := #[], guard := none }) (v := .pointer (some ⟨rm, 0, none⟩)) rfl (by kernel_rfl) (by kernel_rfl) (by kernel_rfl) (fun _ _ _ h => h) (Or.inl ⟨by rfl, fun w' hw' => ?_⟩) hHeld ?_
  · first | (go_simp; done) | (go_simp; rfl)
  try simp only [Act.put, List.setIfInBounds_toArray, List.set_cons_zero, List.set_cons_succ]
  refine wpAnyH_take (i := 1) (oi := { dst := some 9, op := Go.Op.nilCheck (Go.Operand.tmp 8), type := 0, pos := _, after := #[{ on := 0, ground := Go.Ground.data }], guard := none }) (v := .pointer (some ⟨rm, 0, none⟩)) rfl (by kernel_rfl) (by kernel_rfl) (by kernel_rfl) (fun _ _ _ h => h) (Or.inl ⟨by rfl, fun w' hw' => ?_⟩) hHeld ?_
  · first | (go_simp; done) | (go_simp; rfl)
  try simp only [Act.put, List.setIfInBounds_toArray, List.set_cons_zero, List.set_cons_succ]
  refine wpAnyH_take (i := 2) (oi := { dst := some 10, op := Go.Op.fieldAddr 97 (Go.Operand.tmp 9) 0, type := 0, pos := _, after := #[{ on := 1, ground := Go.Ground.data }], guard := none }) (v := .pointer (some ⟨rm, 0, none⟩)) rfl (by kernel_rfl) (by kernel_rfl) (by kernel_rfl) (fun _ _ _ h => h) (Or.inl ⟨by rfl, fun w' hw' => ?_⟩) hHeld ?_
  · first | (go_simp; done) | (go_simp; rfl)
  try simp only [Act.put, List.setIfInBounds_toArray, List.set_cons_zero, List.set_cons_succ]
  refine wpAnyH_take (i := 3) (oi := { dst := some 11, op := Go.Op.load 83 (Go.Operand.tmp 10), type := 83, pos := _, after := #[{ on := 2, ground := Go.Ground.data }], guard := none }) (v := .slice (some ⟨bb, 0, none⟩) N N) rfl (by kernel_rfl) (by kernel_rfl) (by kernel_rfl) (fun _ _ _ h => h) (Or.inl ⟨by rfl, fun w' hw' => ?_⟩) hHeld ?_
  · have hcc := (by obtain ⟨_, _, q⟩ := hw'; have q2 := q.rmem.cell; rw [HNN.out] at q2; exact q2 : w'.cell? ⟨rm, 0, none⟩ = some (.slice (some ⟨bb, 0, none⟩) N N)); first | (go_simp; done) | (go_simp; rfl)
  try simp only [Act.put, List.setIfInBounds_toArray, List.set_cons_zero, List.set_cons_succ]
  refine wpAnyH_take (i := 4) (oi := { dst := some 12, op := Go.Op.move (Go.Operand.tmp 1), type := 26, pos := _, after := #[], guard := none }) (v := .int .u64 (a : Int)) rfl (by kernel_rfl) (by kernel_rfl) (by kernel_rfl) (fun _ _ _ h => h) (Or.inl ⟨by rfl, fun w' hw' => ?_⟩) hHeld ?_
  · first | (go_simp; done) | (go_simp; rfl)
  try simp only [Act.put, List.setIfInBounds_toArray, List.set_cons_zero, List.set_cons_succ]
  refine wpAnyH_take (i := 5) (oi := { dst := some 13, op := Go.Op.convert 26 3 (Go.Operand.tmp 12), type := 3, pos := _, after := #[{ on := 4, ground := Go.Ground.data }], guard := none }) (v := .int .i64 (a : Int)) rfl (by kernel_rfl) (by kernel_rfl) (by kernel_rfl) (fun _ _ _ h => h) (Or.inl ⟨by rfl, fun w' hw' => ?_⟩) hHeld ?_
  · first | (go_simp; done) | (go_simp; rfl)
  try simp only [Act.put, List.setIfInBounds_toArray, List.set_cons_zero, List.set_cons_succ]
  refine wpAnyH_take (i := 6) (oi := { dst := some 14, op := Go.Op.move (Go.Operand.tmp 2), type := 3, pos := _, after := #[], guard := none }) (v := .int .i64 (k : Int)) rfl (by kernel_rfl) (by kernel_rfl) (by kernel_rfl) (fun _ _ _ h => h) (Or.inl ⟨by rfl, fun w' hw' => ?_⟩) hHeld ?_
  · first | (go_simp; done) | (go_simp; rfl)
  try simp only [Act.put, List.setIfInBounds_toArray, List.set_cons_zero, List.set_cons_succ]
  refine wpAnyH_take (i := 7) (oi := { dst := some 15, op := Go.Op.binOp Go.BinOp.mul 3 (Go.Operand.const (Go.Value.int Go.IntKind.i64 32)) (Go.Operand.tmp 14) 3, type := 3, pos := _, after := #[{ on := 6, ground := Go.Ground.data }], guard := none }) (v := .int .i64 z2) rfl (by kernel_rfl) (by kernel_rfl) (by kernel_rfl) (fun _ _ _ h => h) (Or.inl ⟨by rfl, fun w' hw' => ?_⟩) hHeld ?_
  · first | (go_simp; done) | (go_simp; rfl)
  try simp only [Act.put, List.setIfInBounds_toArray, List.set_cons_zero, List.set_cons_succ]
  refine wpAnyH_take (i := 8) (oi := { dst := some 16, op := Go.Op.binOp Go.BinOp.add 3 (Go.Operand.tmp 13) (Go.Operand.tmp 15) 3, type := 3, pos := _, after := #[{ on := 5, ground := Go.Ground.data }, { on := 7, ground := Go.Ground.data }], guard := none }) (v := .int .i64 (KO : Int)) rfl (by kernel_rfl) (by kernel_rfl) (by kernel_rfl) (fun _ _ _ h => h) (Or.inl ⟨by rfl, fun w' hw' => ?_⟩) hHeld ?_
  · first | (go_simp; done) | (go_simp; rfl)
  try simp only [Act.put, List.setIfInBounds_toArray, List.set_cons_zero, List.set_cons_succ]
  refine wpAnyH_take (i := 9) (oi := { dst := some 17, op := Go.Op.slice 83 (Go.Operand.tmp 11) (some (Go.Operand.tmp 16)) none none, type := 83, pos := _, after := #[{ on := 3, ground := Go.Ground.data }, { on := 8, ground := Go.Ground.data }], guard := none }) (v := .slice (some ⟨bb, KO, none⟩) (N - KO) (N - KO)) rfl (by kernel_rfl) (by kernel_rfl) (by kernel_rfl) (fun _ _ _ h => h) (Or.inl ⟨by rfl, fun w' hw' => ?_⟩) hHeld ?_
  · first | (go_simp; done) | (go_simp; rfl)
  try simp only [Act.put, List.setIfInBounds_toArray, List.set_cons_zero, List.set_cons_succ]
  refine wpAnyH_take (i := 10) (oi := { dst := some 18, op := Go.Op.slice 23 (Go.Operand.tmp 7) none none none, type := 83, pos := _, after := #[], guard := none }) (v := .slice (some ⟨b7, 0, none⟩) 32 32) rfl (by kernel_rfl) (by kernel_rfl) (by kernel_rfl) (fun _ _ _ h => h) (Or.inl ⟨by rfl, fun w' hw' => ?_⟩) hHeld ?_
  · first | (go_simp; done) | (go_simp; rfl)
  try simp only [Act.put, List.setIfInBounds_toArray, List.set_cons_zero, List.set_cons_succ]
  refine wpAnyH_ready (rs := [11]) (by kernel_rfl) (by simp) ?_
  refine AllReadyH.cons (o := { dst := some 19, op := Go.Op.call { callee := Go.Callee.builtin Go.Builtin.copy, args := #[Go.Operand.tmp 17, Go.Operand.tmp 18], argTypes := #[83, 83] }, type := 3, pos := _, after := #[{ on := 9, ground := Go.Ground.data }, { on := 10, ground := Go.Ground.data }], guard := none }) rfl (fun K hK => ?_) AllReadyH.nil
  rw [if_pos (by rfl)]
  have hin := HIN.out
  refine MC.wp_copy_seg (.tmp 17) (.tmp 18) rfl bb KO (N - KO) (N - KO) (some ⟨b7, 0, none⟩) 32 32 rfl rfl (l2.map B8) 5 HT1.out.rmem.row DL (by rw [HDL.out]; exact (Nat.min_eq_left (by omega)).symm) (fun _ => ⟨_, rfl, fun j v hv => by rw [add_none]; exact MC.rangeAt_row (HT1.out.at 0 rfl) j v hv⟩) (by rw [HDL.out, List.length_map, HL2.out]; omega) HD1.out ?_
  rw [← HDLE.out, MC.splice_map]
  have hs : (splice l2 KO d).length = 128 * n := by rw [MC.splice_len _ _ _ (by rw [HDD.out, HL2.out]; omega)]; exact HT1.out.len2
  have hm2 : MC.RM (V0.setRow bb ((splice l2 KO d).map B8).toArray) rm bb n (splice l2 KO d) := ⟨(setRow_other _ _ _ _ HT1.out.ne2).trans HT1.out.rmem.head, setRow_heap _ _ _ _ _ _ HT1.out.rmem.row, hs, HT1.out.pos, HT1.out.le, HT1.out.ne2⟩
  have HT2 : Hid _ := HT1.out.wr2 hm2 ((MC.KB.refl bb V0).set _)
  have hH2 : ∃ l2' rws, TM w og mb rg i m D L R mm gb rm bb n l1 l2' rws (V0.setRow bb ((splice l2 KO d).map B8).toArray) := ⟨_, _, HT2.out⟩
  generalize World.setRow _ _ _ = V1 at *
  clear hHeld HT1 hin hs hm2
  refine hK.out _ _ hH2 (fun _ => ?_)
  clear hK K
  try simp only [Act.put, List.setIfInBounds_toArray, List.set_cons_zero, List.set_cons_succ]
  refine wpAnyH_done (by kernel_rfl) ?_ _
  go_wp2
  go_end0
  exact ⟨rfl, HT2.out.drop⟩
end
end Go.Proofs.YtnijjoankahddaaGreat.DC

/- tree: the document's Up over both sides. -/
namespace Go.Proofs.YtnijjoankahddaaGreat.DC
open Go.RowKit

set_option maxHeartbeats 4000000 in
set_option maxRecDepth 100000 in
theorem bs_dig1 (w : World) (X : List Value) (h1 : X.length = 32) : (Instr.buildSlice 24 1 #[(0, .agg X.toArray)]).run Tryz.prog w = .ok (.slice (some ⟨w.heap.size, 0, none⟩) 1 1) (w.alloc (.cells X.toArray 23 (0, 0))) := by
  iterate 32 (obtain ⟨_, _, e, g⟩ := R5.cons_of h1; clear h1; subst e; have h1 := g; clear g)
  obtain rfl := List.eq_nil_of_length_eq_zero h1
  show _ = _
  kernel_rfl
theorem infoDg : (Tryz.prog.info? 23).map (fun i => (i.zero, i.size, i.bytes)) = some (some (.agg ((List.replicate 32 (0 : UInt8)).map B8).toArray), 32, 32) := by kernel_rfl
/-- append(s, d). -/
theorem wpList_appD {ops : Array Oper} {rest : List Oper} {o : Oper} {a : Act} {Q : Exit → Act → World → Prop} {W : World} (hgd : o.guard = none) (s x : Operand) (ho : o.op = .call { callee := .builtin .append, args := #[s, x], argTypes := #[24, 24] })
    (base : Nat) (v : Value) (ls : List (List UInt8)) (n : Nat) (hn : ls.length = n) (DL : List Value) (g0 : Nat) (hs : a.eval s = v) (hx : a.eval x = .slice (some ⟨g0, 0, none⟩) 1 1) (hown : W.ownsRow base 23 32 v ls.length (ls.flatten.map B8)) (hr : W.heap[g0]? = some (.cells DL.toArray 23 (0, 0))) (hd : DL.length = 32) (h1 : ∀ u ∈ DL, u.oneCell' = true) (hl : n ≤ 1000) (hbase : base ≤ W.heap.size)
    (h : ∀ b cap w', w'.ownsRow base 23 32 (.slice (some ⟨b, 0, none⟩) (n + 1) cap) (n + 1) (ls.flatten.map B8 ++ DL) → W.grownBy w' v.ownBlock → (v.ownBlock = some b ∨ b = W.heap.size) → wpList Tryz.prog ops Q rest (a.put o.dst (.slice (some ⟨b, 0, none⟩) (n + 1) cap)) w') :
    wpList Tryz.prog ops Q (o :: rest) a W := by
  subst hn
  obtain ⟨i0, hi, hz0, hz1, hz2⟩ := info_parts infoDg
  refine wpList_append_lies _ hgd s x 24 ho base 23 i0 (.agg ((List.replicate 32 (0 : UInt8)).map B8).toArray) 32 32 Tryz.underlying24 hi hz0 hz1 hz2 (by simp [Value.cells]) (by decide) v _ _ hs hown ⟨g0, 0, none⟩ 1 1 DL hx (by rw [hd]) (fun j u hu => ?_) h1 (by decide) (by unfold maxLen; omega) (by omega) hbase W.heap.size rfl ?_
  · rw [add_none]
    exact MC.rangeAt_row hr j u hu
  intro b cap w' h1 h2 h3 h4
  exact h b cap w' h1 h2 h3
section
variable {w X Y : World} {og mb rg mm gb rm bb n : Nat} {i : Bool} {m : List UInt8} {D : List (List UInt8)} {L L' R R' : Lg} {rows rows' : Rws} {l1 l2 l' A : List UInt8}
theorem TM.rnode (h : TM w og mb rg i m D L R mm gb rm bb n l1 l2 rows X) (hll : R.length < 1000000) (k : Nat) (x y : List UInt8) (hk : k < 256) (hx : x.length = 32) (hy : y.length = 32) : Calls Tryz.prog 19 #[.pointer (some ⟨rg, 0, none⟩), .int .i64 (k : Int), .agg (x.map B8).toArray, .agg (y.map B8).toArray] X fun e Y => e = .returned (.agg ((nx2 i D R (qNode k x y)).1.map B8).toArray) ∧ TM w og mb rg i m D L (nx2 i D R (qNode k x y)).2 mm gb rm bb n l1 l2 rows Y :=
  (h.tb.rnode hll k x y hk hx hy).mono fun e Y ⟨h1, h2⟩ => ⟨h1, h.with h2⟩
theorem TM.rnone (h : TM w og mb rg i m D L R mm gb rm bb n l1 l2 rows X) (hll : R.length < 1000000) (p : Nat) (hp : p < 128) : Calls Tryz.prog 13 #[.pointer (some ⟨rg, 0, none⟩), .int .i64 (p : Int)] X fun e Y => e = .returned (.agg ((nx2 i D R (qNone p)).1.map B8).toArray) ∧ TM w og mb rg i m D L (nx2 i D R (qNone p)).2 mm gb rm bb n l1 l2 rows Y :=
  (h.tb.rnone hll p hp).mono fun e Y ⟨h1, h2⟩ => ⟨h1, h.with h2⟩
set_option maxHeartbeats 4000000 in
set_option maxRecDepth 100000 in
theorem TM.rup (h : TM w og mb rg i m D L R mm gb rm bb n l1 l2 rows X) (a p : Nat) (leaf : List UInt8) (hA : gL D R) (hw : witB n a = true) (hp : p < 128) (hl : leaf.length = 32) (hll : R.length < 900000) :
    Calls Tryz.prog 32 #[.pointer (some ⟨rg, 0, none⟩), .pointer (some ⟨rm, 0, none⟩), .int .u64 (a : Int), .int .i64 (p : Int), .agg (leaf.map B8).toArray] X fun e Y => ∃ g cap M, e = .returned (.slice (some ⟨g, 0, none⟩) 8 cap) ∧ RL (.slice (some ⟨g, 0, none⟩) 8 cap) g M (upS i D (nodeB l2 a) (128 + p) leaf R 7).1 ∧ TM w og mb rg i m D L (upS i D (nodeB l2 a) (128 + p) leaf R 7).2 mm gb rm bb n l1 l2 ((g, 23, M) :: rows) Y := by
  have hz := fun W => R5.zero_dig W
  obtain ⟨ZL, hZL⟩ : ∃ L, L = (List.replicate 32 (0 : UInt8)).map B8 := ⟨_, rfl⟩
  rw [← hZL] at hz
  have HZL : Hid (ZL.length = 32) := by show _ = _; rw [hZL]; simp
  obtain ⟨WS, hWS⟩ : ∃ f : Nat → List (List UInt8), f = fun k => (upS i D (nodeB l2 a) (128 + p) leaf R k).1 := ⟨_, rfl⟩
  obtain ⟨LS, hLS⟩ : ∃ f : Nat → Lg, f = fun k => (upS i D (nodeB l2 a) (128 + p) leaf R k).2 := ⟨_, rfl⟩
  obtain ⟨U, hU⟩ : ∃ f : Nat → Nat, f = fun k => (128 + p) / 2 ^ k := ⟨_, rfl⟩
  have hW7 : (upS i D (nodeB l2 a) (128 + p) leaf R 7).1 = WS 7 := by rw [hWS]
  have hL7 : (upS i D (nodeB l2 a) (128 + p) leaf R 7).2 = LS 7 := by rw [hLS]
  have HWE : Hid (∀ k, ∀ l ∈ WS k, l.length = 32) := by rw [hWS]; exact fun k => upS_each hA hl k
  have HWN : Hid (∀ k, (WS k).length = k + 1) := by rw [hWS]; exact fun k => upS_len k
  have HUB : Hid (∀ k, U k < 256) := by rw [hU]; exact fun k => way_bd p k hp
  have HUH : Hid (∀ k, U k / 2 = U (k + 1)) := by rw [hU]; exact fun k => (up_half p k).symm
  have HU0 : Hid (((128 + p : Nat) : Int) = (U 0 : Int)) := by show _ = _; rw [hU]; simp
  have HW0 : Hid (WS 0 = [leaf]) := by show _ = _; rw [hWS]; rfl
  have HL0 : Hid (R = LS 0) := by show _ = _; rw [hLS]; rfl
  have HSTEP : Hid (∀ k, k < 7 → ∃ (AD : List UInt8), AD.length = 32 ∧ WS (k + 1) = WS k ++ [AD] ∧ nx2 i D (LS k) (askUp (U k) ((WS k).getD k []) (nodeB l2 a (bes (U k)))) = (AD, LS (k + 1))) := by
    intro k hk
    refine ⟨(nx2 i D (LS k) (upQ i D (nodeB l2 a) (128 + p) leaf R k)).1, by rw [hLS]; exact (upS_good hA k).len _, by rw [hWS, hLS]; rfl, ?_⟩
    rw [hU, hWS, hLS]; rfl
  have HLG : Hid (∀ k, k ≤ 7 → (LS k).length < 1000000) := by
    intro k hk
    rw [hLS]; show (upS i D (nodeB l2 a) (128 + p) leaf R k).2.length < 1000000
    have := upS_log (i := i) (D := D) (nb := nodeB l2 a) (j := 128 + p) (leaf := leaf) (L := R) k; omega
  have HBES : Hid (∀ k, k < 7 → (besL p)[k]? = some (bes (U k) : Int)) := by rw [hU]; exact fun k hk => by unfold besL; rw [List.getElem?_map, List.getElem?_range hk]; rfl
  have HAT : Hid (∀ k rws W, TM w og mb rg i m D L (LS k) mm gb rm bb n l1 l2 rws W → Calls Tryz.prog 28 #[.pointer (some ⟨rm, 0, none⟩), .int .u64 (a : Int), .int .i64 (bes (U k) : Int)] W fun e Y => e = .returned (.agg ((nodeB l2 a (bes (U k))).map B8).toArray) ∧ TM w og mb rg i m D L (LS k) mm gb rm bb n l1 l2 rws Y) := fun k rws W hW => hW.rat a (bes (U k)) hw (bes_lt (HUB.out k))
  have HNBL : Hid (∀ k, (nodeB l2 a (bes (U k))).length = 32) := fun k => nodeB_len h.len2 hw (bes_lt (HUB.out k))
  have hbe := fun W => rbeside_any p hp W
  have hbl : (besL p).length = 7 := by simp [besL]
  have h128 : IntKind.i64.wrap (128 + (p : Int)) = ((128 + p : Nat) : Int) := by rw [IntKind.wrap_i64]; omega
  rw [HU0.out] at h128
  rw [hW7, hL7]
  rw [HL0.out] at h
  have HFL : Hid ((leaf.map B8).length = 32) := by show _ = _; simpa using hl
  have HRL0 : Hid (∀ g, RL (.slice (some ⟨g, 0, none⟩) 1 1) g (leaf.map B8) (WS 0)) := fun g => by rw [HW0.out]; exact RL.one g leaf hl
  obtain ⟨FL, hFL⟩ : ∃ L, leaf.map B8 = L := ⟨_, rfl⟩
  rw [hFL] at HFL HRL0 ⊢
  have HT0 : Hid _ := h.alloc X.heap.size rfl 23 FL
  generalize besL p = BS at *
  have HBL : Hid (BS.length = 7) := hbl
  have HBE : Hid (∀ W, Calls Tryz.prog 16 #[.int .i64 (p : Int)] W fun e w' => REnd W BS e w') := hbe
  clear hZL hWS hLS hU hW7 hL7 hl hp hll hA hw h hFL HL0 HW0 hbe hbl HU0
  go_enter Tryz.func32, Tryz.ntmps32
  go_upto_region 1 with fail
  generalize hb9 : X.heap.size = b9 at *
  clear hb9
  generalize World.alloc _ _ = X0 at *
  have hbs := bs_dig1 X0 FL HFL.out
  have HT1 : Hid _ := HT0.out.alloc X0.heap.size rfl 23 FL
  go_upto_region 2 with (first
    | (refine wpList_load_mid rfl 23 (.tmp 9) rfl b9 0 rfl FL _ (MC.rangeAt_row (HT0.out.at 0 rfl)) Tryz.underlying23 rfl (infoD FL HFL.out) ?_)
    | (refine R5.wpListZ_bslice rfl 24 1 _ rfl #[(0, .agg FL.toArray)] _ (by simp; first | done | rfl) hbs ?_))
  clear hbs HT0
  generalize hg0 : X0.heap.size = g0 at *
  clear hg0
  generalize World.alloc _ _ = X1 at *
  go_wp2_with fail
  refine Calls.mono (HBE.out X1) ?_
  rintro e X2 ⟨vb, rfl, hfi, hbel⟩
  obtain ⟨gi, MI, hT2, hHI⟩ := HT1.out.list hbel (by rw [HBL.out]; decide) hfi
  obtain ⟨pp, cap, rfl, hx⟩ := hfi.hi
  obtain ⟨bq, oq, rfl, _⟩ := hx 0 (bes (U 0) : Int) (HBES.out 0 (by decide))
  have HCI : Hid (∀ k, k < 7 → ∀ W : World, W.heap[gi]? = some (.cells MI.toArray 3 (0, 0)) → W.cell? ⟨bq, oq + k, none⟩ = some (.int .i64 (bes (U k) : Int))) := fun k hk W hW => by
    obtain ⟨p2, c2, e2, h2⟩ := hHI W hW
    obtain ⟨b3, o3, e3, h3⟩ := h2 k _ (HBES.out k hk)
    rw [e3] at e2
    simp only [Value.slice.injEq, Option.some.injEq, Addr.mk.injEq, and_true] at e2
    obtain ⟨⟨rfl, rfl⟩, _⟩ := e2
    exact h3
  have HT3 : Hid (TM w og mb rg i m D L (LS 0) mm gb rm bb n l1 l2 ((g0, 23, FL) :: (gi, 3, MI) :: (b9, 23, FL) :: rows) X2) := hT2.swap
  rw [HBL.out]
  clear hT2 hHI hx hfi hbel HT1 HBE HBES HBL
  go_wp2
  go_loopw [11, 13, 14] (fun v u t wr => ∃ (k g cp : Nat) (M : List Value), k ≤ 7 ∧ v = .slice (some ⟨g, 0, none⟩) (k + 1) cp ∧ u = .int .i64 (U k : Int) ∧ t = .int .i64 k ∧ RL (.slice (some ⟨g, 0, none⟩) (k + 1) cp) g M (WS k) ∧ TM w og mb rg i m D L (LS k) mm gb rm bb n l1 l2 ((g, 23, M) :: (gi, 3, MI) :: (b9, 23, FL) :: rows) wr) (fun _ _ t _ => 7 - (intOf t).toNat)
  case atStart => exact ⟨0, g0, 1, FL, by omega, rfl, rfl, rfl, HRL0.out g0, HT3.out⟩
  case round =>
    obtain ⟨k, g, cp, M, hk, rfl, rfl, rfl, hR, hT⟩ := hrel
    clear HT3 HRL0
    by_cases hlt : k < 7
    · have hkI : (k : Int) < 7 := by omega
      obtain ⟨AD, hAD, hws, hq⟩ := HSTEP.out k hlt
      have hRN := fun (x y : List UInt8) rws W (hx : x.length = 32) (hy : y.length = 32) (hW : TM w og mb rg i m D L (LS k) mm gb rm bb n l1 l2 rws W) => hW.rnode (HLG.out k hk) (U k / 2) x y (by have := HUB.out k; omega) hx hy
      have hg := getD_len (HWE.out k) k (by rw [HWN.out]; omega)
      have hob := HNBL.out k
      have hrg := fun (W : World) (hW : W.heap[g]? = some (.cells M.toArray 23 (0, 0))) => hR.range k (by rw [HWN.out]; omega) hW
      have hci := HCI.out k hlt wr (hT.at 1 rfl)
      have HAC : Hid _ := HAT.out k _ _ hT
      have HT : Hid _ := hT
      have HRL : Hid _ := hR
      have HWK : Hid ((WS k).length = k + 1) := HWN.out k
      have HWS : Hid (WS (k + 1) = WS k ++ [AD]) := hws
      have HK7 : Hid (k < 7) := hlt
      have hub := HUB.out k
      have hkI2 : (k : Int) < ((k + 1 : Nat) : Int) := by omega
      obtain ⟨u, hu⟩ : ∃ u, U k = u := ⟨_, rfl⟩
      obtain ⟨y, hy⟩ : ∃ y, u / 2 = y := ⟨_, rfl⟩
      have HY1 : Hid ((U (k + 1) : Nat) = y) := by show _ = _; rw [← HUH.out, hu, hy]
      obtain ⟨LK1, hLK1⟩ : ∃ l, LS (k + 1) = l := ⟨_, rfl⟩
      have HLK1 : Hid (LS (k + 1) = LK1) := hLK1
      obtain ⟨OB, hOB⟩ : ∃ o, nodeB l2 a (bes u) = o := ⟨_, rfl⟩
      obtain ⟨GD, hGD⟩ : ∃ o, (WS k).getD k [] = o := ⟨_, rfl⟩
      rw [hu, hGD, hOB, hLK1] at hq
      rw [hu, hOB] at hob HAC
      rw [hu, hy] at hRN
      rw [hGD] at hg hrg
      rw [hu] at hub hci ⊢
      have HADN : Hid (AD.length = 32) := hAD
      have HALN : Hid ((AD.map B8).length = 32) := by show _ = _; simpa using hAD
      have HAU : Hid (∀ v ∈ AD.map B8, v.oneCell' = true) := MC.B8_one _
      have HOL : Hid ((OB.map B8).length = 32) := by show _ = _; simpa using hob
      have HO1 : Hid _ := R5.B8_onea OB
      have HGL : Hid ((GD.map B8).length = 32) := by show _ = _; simpa using hg
      have HG1 : Hid _ := R5.B8_onea GD
      have HRG : Hid (∀ W : World, W.heap[g]? = some (.cells M.toArray 23 (0, 0)) → W.rangeAt g (k * 32) (GD.map B8)) := hrg
      have hq2 : IntKind.i64.wrap (y : Int) = (y : Int) := by rw [IntKind.wrap_i64]; omega
      have htd : ((u : Int).tdiv 2) = (y : Int) := by rw [← hy]; rfl
      generalize hbu : (bes u : Int) = zb at *
      by_cases hev : u % 2 = 1
      · have hm2 : ((u : Int) % 2 == 0) = false := by rw [beq_eq_false_iff_ne]; omega
        have HC : Hid (∀ rws W, TM w og mb rg i m D L (LS k) mm gb rm bb n l1 l2 rws W → Calls Tryz.prog 19 #[.pointer (some ⟨rg, 0, none⟩), .int .i64 (y : Int), .agg (OB.map B8).toArray, .agg (GD.map B8).toArray] W fun e Y => e = .returned (.agg (AD.map B8).toArray) ∧ TM w og mb rg i m D L LK1 mm gb rm bb n l1 l2 rws Y) := fun rws W hW => by
          have q := hRN OB GD rws W hob hg hW
          rw [show qNode y OB GD = askUp u GD OB by unfold askUp; rw [if_pos hev, hy], hq] at q
          exact q
        obtain ⟨AL, hAL⟩ : ∃ L, AD.map B8 = L := ⟨_, rfl⟩
        rw [hAL] at HALN HAU HC
        generalize OB.map B8 = OL at *
        generalize GD.map B8 = GL at *
        have HADE : Hid (AD.map B8 = AL) := hAL
        obtain ⟨WK, hWK⟩ : ∃ x, WS k = x := ⟨_, rfl⟩
        rw [hWK] at HWK HRL HWS
        clear hT hR hRN hg hob hrg hws hq hu hy hLK1 hOB hGD hAD hAL hWK hbu hev hub hlt hk HAT HSTEP HCI HNBL
        go_wp2_with fail
        refine Calls.mono HAC.out ?_
        rintro e W1 ⟨rfl, hT1⟩
        have HT1 : Hid _ := hT1.alloc W1.heap.size rfl 23 ZL
        clear hT1 HAC HT hci
        go_upto_region 8 with (refine wpList_store_dL rfl (.tmp 15) (.tmp 35) rfl W1.heap.size OL ZL rfl rfl (HT1.out.at 0 rfl) HOL.out HZL.out HO1.out ?_; intro W2 e2; have HT2 : Hid _ := HT1.out.put' 0 rfl OL; rw [← e2] at HT2; clear e2)
        generalize W1.heap.size = b15 at *
        have HT3 : Hid _ := HT2.out.alloc W2.heap.size rfl 23 ZL
        clear HT1
        go_upto_region 9 with (first
          | (refine wpList_load_mid rfl 23 (.tmp 38) rfl g (k * 32) rfl GL _ (HRG.out _ (HT2.out.at 1 rfl)) Tryz.underlying23 rfl (infoD GL HGL.out) ?_)
          | (refine wpList_store_dL rfl (.tmp 16) (.tmp 39) rfl W2.heap.size GL ZL rfl rfl (HT3.out.at 0 rfl) HGL.out HZL.out HG1.out ?_; intro W3 e3; have HT4 : Hid _ := HT3.out.put' 0 rfl GL; rw [← e3] at HT4; clear e3))
        generalize W2.heap.size = b16 at *
        clear HT2 HT3 hkI2
        go_wp2_with (first
          | (refine wpList_load_mid rfl 23 (.tmp 16) rfl b16 0 rfl GL _ (MC.rangeAt_row (HT4.out.at 0 rfl)) Tryz.underlying23 rfl (infoD GL HGL.out) ?_)
          | (refine wpList_load_mid rfl 23 (.tmp 15) rfl b15 0 rfl OL _ (MC.rangeAt_row (HT4.out.at 1 rfl)) Tryz.underlying23 rfl (infoD OL HOL.out) ?_))
        refine Calls.mono (HC.out _ _ HT4.out) ?_
        rintro e W5 ⟨rfl, hT5⟩
        have HT6 : Hid (TM w og mb rg i m D L LK1 mm gb rm bb n l1 l2 ((g, 23, M) :: (gi, 3, MI) :: (b9, 23, FL) :: rows) (W5.alloc (.cells AL.toArray 23 (0, 0)))) := (hT5.drop.drop).step ((Below.refl _ _).alloc (Nat.le_refl _) _)
        have hbs := bs_dig1 W5 AL HALN.out
        have HRA : Hid ((W5.alloc (.cells AL.toArray 23 (0, 0))).heap[W5.heap.size]? = some (.cells AL.toArray 23 (0, 0))) := heap_alloc_new _ _
        clear hT5 HT4 HC
        go_upto_region 12 with (first
          | (refine R5.wpListZ_bslice rfl 24 1 _ rfl #[(0, .agg AL.toArray)] _ (by simp; first | done | rfl) hbs ?_)
          | (at_builtin; refine wpList_appD rfl (.tmp 52) (.tmp 59) rfl w.heap.size (.slice (some ⟨g, 0, none⟩) (k + 1) cp) WK (k + 1) HWK.out AL W5.heap.size rfl rfl (by have q := HRL.out.own (HT6.out.lowAt 0 rfl) (HT6.out.at 0 rfl); rw [HWK.out] at q; rw [HWK.out]; exact q) HRA.out HALN.out HAU.out (by have := HK7.out; omega) HT6.out.tb.bel.size ?_; intro b5 cap5 w5 h51 h52 h53))
        have q := HT6.out.app (d := AD) (cap := cap5) HRL.out HADN.out (by rw [HWK.out, HADE.out]; exact h51) h52 h53
        rw [← HWS.out, HWK.out] at q
        obtain ⟨M5, hRL5, hT7⟩ := q
        have HT7 : Hid _ := hT7
        have HRL5 : Hid _ := hRL5
        clear h51 h52 h53 hT7 hRL5 HT6 HRA hbs
        go_wp2
        go_roundw
        case rel => exact ⟨k + 1, b5, cap5, M5, by have := HK7.out; omega, rfl, by rw [HY1.out], by go_num, HRL5.out, by rw [HLK1.out]; exact HT7.out⟩
        case measure => have := HK7.out; simp [intOf]; omega
      · have hm2 : ((u : Int) % 2 == 0) = true := by rw [beq_iff_eq]; omega
        have HC : Hid (∀ rws W, TM w og mb rg i m D L (LS k) mm gb rm bb n l1 l2 rws W → Calls Tryz.prog 19 #[.pointer (some ⟨rg, 0, none⟩), .int .i64 (y : Int), .agg (GD.map B8).toArray, .agg (OB.map B8).toArray] W fun e Y => e = .returned (.agg (AD.map B8).toArray) ∧ TM w og mb rg i m D L LK1 mm gb rm bb n l1 l2 rws Y) := fun rws W hW => by
          have q := hRN GD OB rws W hg hob hW
          rw [show qNode y GD OB = askUp u GD OB by unfold askUp; rw [if_neg hev, hy], hq] at q
          exact q
        obtain ⟨AL, hAL⟩ : ∃ L, AD.map B8 = L := ⟨_, rfl⟩
        rw [hAL] at HALN HAU HC
        generalize OB.map B8 = OL at *
        generalize GD.map B8 = GL at *
        have HADE : Hid (AD.map B8 = AL) := hAL
        obtain ⟨WK, hWK⟩ : ∃ x, WS k = x := ⟨_, rfl⟩
        rw [hWK] at HWK HRL HWS
        clear hT hR hRN hg hob hrg hws hq hu hy hLK1 hOB hGD hAD hAL hWK hbu hev hub hlt hk HAT HSTEP HCI HNBL
        go_wp2_with fail
        refine Calls.mono HAC.out ?_
        rintro e W1 ⟨rfl, hT1⟩
        have HT1 : Hid _ := hT1.alloc W1.heap.size rfl 23 ZL
        clear hT1 HAC HT hci
        go_upto_region 8 with (refine wpList_store_dL rfl (.tmp 15) (.tmp 35) rfl W1.heap.size OL ZL rfl rfl (HT1.out.at 0 rfl) HOL.out HZL.out HO1.out ?_; intro W2 e2; have HT2 : Hid _ := HT1.out.put' 0 rfl OL; rw [← e2] at HT2; clear e2)
        generalize W1.heap.size = b15 at *
        have HT3 : Hid _ := HT2.out.alloc W2.heap.size rfl 23 ZL
        clear HT1
        go_upto_region 9 with (first
          | (refine wpList_load_mid rfl 23 (.tmp 38) rfl g (k * 32) rfl GL _ (HRG.out _ (HT2.out.at 1 rfl)) Tryz.underlying23 rfl (infoD GL HGL.out) ?_)
          | (refine wpList_store_dL rfl (.tmp 16) (.tmp 39) rfl W2.heap.size GL ZL rfl rfl (HT3.out.at 0 rfl) HGL.out HZL.out HG1.out ?_; intro W3 e3; have HT4 : Hid _ := HT3.out.put' 0 rfl GL; rw [← e3] at HT4; clear e3))
        generalize W2.heap.size = b16 at *
        clear HT2 HT3 hkI2
        go_wp2_with (first
          | (refine wpList_load_mid rfl 23 (.tmp 16) rfl b16 0 rfl GL _ (MC.rangeAt_row (HT4.out.at 0 rfl)) Tryz.underlying23 rfl (infoD GL HGL.out) ?_)
          | (refine wpList_load_mid rfl 23 (.tmp 15) rfl b15 0 rfl OL _ (MC.rangeAt_row (HT4.out.at 1 rfl)) Tryz.underlying23 rfl (infoD OL HOL.out) ?_))
        refine Calls.mono (HC.out _ _ HT4.out) ?_
        rintro e W5 ⟨rfl, hT5⟩
        have HT6 : Hid (TM w og mb rg i m D L LK1 mm gb rm bb n l1 l2 ((g, 23, M) :: (gi, 3, MI) :: (b9, 23, FL) :: rows) (W5.alloc (.cells AL.toArray 23 (0, 0)))) := (hT5.drop.drop).step ((Below.refl _ _).alloc (Nat.le_refl _) _)
        have hbs := bs_dig1 W5 AL HALN.out
        have HRA : Hid ((W5.alloc (.cells AL.toArray 23 (0, 0))).heap[W5.heap.size]? = some (.cells AL.toArray 23 (0, 0))) := heap_alloc_new _ _
        clear hT5 HT4 HC
        go_upto_region 12 with (first
          | (refine R5.wpListZ_bslice rfl 24 1 _ rfl #[(0, .agg AL.toArray)] _ (by simp; first | done | rfl) hbs ?_)
          | (at_builtin; refine wpList_appD rfl (.tmp 43) (.tmp 50) rfl w.heap.size (.slice (some ⟨g, 0, none⟩) (k + 1) cp) WK (k + 1) HWK.out AL W5.heap.size rfl rfl (by have q := HRL.out.own (HT6.out.lowAt 0 rfl) (HT6.out.at 0 rfl); rw [HWK.out] at q; rw [HWK.out]; exact q) HRA.out HALN.out HAU.out (by have := HK7.out; omega) HT6.out.tb.bel.size ?_; intro b5 cap5 w5 h51 h52 h53))
        have q := HT6.out.app (d := AD) (cap := cap5) HRL.out HADN.out (by rw [HWK.out, HADE.out]; exact h51) h52 h53
        rw [← HWS.out, HWK.out] at q
        obtain ⟨M5, hRL5, hT7⟩ := q
        have HT7 : Hid _ := hT7
        have HRL5 : Hid _ := hRL5
        clear h51 h52 h53 hT7 hRL5 HT6 HRA hbs
        go_wp2
        go_roundw
        case rel => exact ⟨k + 1, b5, cap5, M5, by have := HK7.out; omega, rfl, by rw [HY1.out], by go_num, HRL5.out, by rw [HLK1.out]; exact HT7.out⟩
        case measure => have := HK7.out; simp [intOf]; omega
    · have hk7 : k = 7 := by omega
      subst hk7
      have HT : Hid _ := hT
      have HRL : Hid _ := hR
      clear hT hR hlt hk HSTEP HAT HNBL
      go_wp2
      go_ret
      exact ⟨g, cp, M, rfl, HRL.out, HT.out.swap.drop.swap.drop⟩
end
end Go.Proofs.YtnijjoankahddaaGreat.DC

/- tree: the document's Set over both sides. -/
namespace Go.Proofs.YtnijjoankahddaaGreat.DC
open Go.RowKit

section
variable {w X Y : World} {og mb rg mm gb rm bb n : Nat} {i : Bool} {m : List UInt8} {D : List (List UInt8)} {L L' R R' : Lg} {rows rows' : Rws} {l1 l2 l' A : List UInt8}
set_option maxHeartbeats 4000000 in
set_option maxRecDepth 100000 in
theorem TM.rset (h : TM w og mb rg i m D L R mm gb rm bb n l1 l2 rows X) (a p : Nat) (leaf : List UInt8) (hA : gL D R) (hw : witB n a = true) (hp : p < 128) (hl : leaf.length = 32) (hll : R.length < 900000) :
    Calls Tryz.prog 33 #[.pointer (some ⟨rg, 0, none⟩), .pointer (some ⟨rm, 0, none⟩), .int .u64 (a : Int), .int .i64 (p : Int), .agg (leaf.map B8).toArray] X fun e Y => e = .returned (.agg (((upS i D (nodeB l2 a) (128 + p) leaf R 7).1.getD 7 []).map B8).toArray) ∧ TM w og mb rg i m D L (upS i D (nodeB l2 a) (128 + p) leaf R 7).2 mm gb rm bb n l1 (layS l2 a (128 + p) (upS i D (nodeB l2 a) (128 + p) leaf R 7).1 7) rows Y := by
  have hz := fun W => R5.zero_dig W
  obtain ⟨ZL, hZL⟩ : ∃ L, L = (List.replicate 32 (0 : UInt8)).map B8 := ⟨_, rfl⟩
  rw [← hZL] at hz
  have HZL : Hid (ZL.length = 32) := by show _ = _; rw [hZL]; simp
  clear hZL
  have hws := upS_each (i := i) (D := D) (L := R) (nb := nodeB l2 a) (j := 128 + p) hA hl 7
  have hwn := upS_len (i := i) (D := D) (L := R) (nb := nodeB l2 a) (j := 128 + p) (leaf := leaf) 7
  have hup := fun rws W (hW : TM w og mb rg i m D L R mm gb rm bb n l1 l2 rws W) => hW.rup a p leaf hA hw hp hl hll
  generalize (upS i D (nodeB l2 a) (128 + p) leaf R 7).1 = WS at *
  generalize (upS i D (nodeB l2 a) (128 + p) leaf R 7).2 = R2 at *
  have HFL : Hid ((leaf.map B8).length = 32) := by show _ = _; simpa using hl
  generalize leaf.map B8 = FL at *
  have HUP : Hid (∀ rws W, TM w og mb rg i m D L R mm gb rm bb n l1 l2 rws W → Calls Tryz.prog 32 #[.pointer (some ⟨rg, 0, none⟩), .pointer (some ⟨rm, 0, none⟩), .int .u64 (a : Int), .int .i64 (p : Int), .agg FL.toArray] W fun e Y => ∃ g cap M, e = .returned (.slice (some ⟨g, 0, none⟩) 8 cap) ∧ RL (.slice (some ⟨g, 0, none⟩) 8 cap) g M WS ∧ TM w og mb rg i m D L R2 mm gb rm bb n l1 l2 ((g, 23, M) :: rws) Y) := hup
  have HGN : Hid (∀ k, k < 8 → (WS.getD k []).length = 32) := fun k hk => getD_len hws k (by omega)
  have HWN : Hid (WS.length = 8) := hwn
  obtain ⟨MS, hMS⟩ : ∃ f : Nat → List UInt8, f = layS l2 a (128 + p) WS := ⟨_, rfl⟩
  obtain ⟨U, hU⟩ : ∃ f : Nat → Nat, f = fun k => (128 + p) / 2 ^ k := ⟨_, rfl⟩
  have HM0 : Hid (l2 = MS 0) := by show _ = _; rw [hMS]; rfl
  have HMS : Hid (∀ k, MS (k + 1) = splice (MS k) (a + 32 * U k) (WS.getD k [])) := by rw [hMS, hU]; exact fun k => rfl
  have HUB : Hid (∀ k, U k < 256) := by rw [hU]; exact fun k => way_bd p k hp
  have hM7 : layS l2 a (128 + p) WS 7 = MS 7 := by rw [hMS]
  rw [hM7]
  have HWAY : Hid (∀ k, k < 8 → (wayL p)[k]? = some (U k : Int)) := by rw [hU]; exact fun k hk => by unfold wayL; rw [List.getElem?_map, List.getElem?_range hk]; rfl
  have hwy := fun W => rway_any p hp W
  have hwl : (wayL p).length = 8 := by simp [wayL]
  generalize wayL p = BS at *
  have HBL : Hid (BS.length = 8) := hwl
  have HWY : Hid (∀ W, Calls Tryz.prog 15 #[.int .i64 (p : Int)] W fun e w' => REnd W BS e w') := hwy
  have HW : Hid (witB n a = true) := hw
  obtain ⟨GE, hGE⟩ : ∃ G, (WS.getD 7 []).map B8 = G := ⟨_, rfl⟩
  have HGE : Hid ((WS.getD 7 []).map B8 = GE) := hGE
  have HGEL : Hid (GE.length = 32) := by show _ = _; rw [← hGE, List.length_map]; exact HGN.out 7 (by decide)
  have HGE1 : Hid (GE.toArray.all (·.oneCell') = true) := by show _ = _; rw [← hGE]; exact R5.B8_onea _
  rw [hGE]
  have HT0 : Hid _ := (h.alloc X.heap.size rfl 23 FL).alloc (X.heap.size + 1) (by simp) 23 ZL
  clear h hw hp hl hll hA hws hwn hup hMS hU hM7 hwy hwl hGE
  go_enter Tryz.func33, Tryz.ntmps33
  go_upto_region 1 with fail
  generalize hb9 : X.heap.size = b9 at *
  generalize hb10 : b9 + 1 = b10 at *
  clear hb9 hb10
  generalize World.alloc _ _ = X0 at *
  go_wp2_with (refine wpList_load_mid rfl 23 (.tmp 9) rfl b9 0 rfl FL _ (MC.rangeAt_row (HT0.out.at 1 rfl)) Tryz.underlying23 rfl (infoD FL HFL.out) ?_)
  refine Calls.mono (HUP.out _ _ HT0.out) ?_
  rintro e X1 ⟨g, cp, M, rfl, hR, hT1⟩
  have HRL : Hid _ := hR
  have HT1 : Hid _ := hT1
  clear hR hT1 HT0 HUP
  go_wp2_with fail
  refine Calls.mono (HWY.out X1) ?_
  rintro e X2 ⟨vb, rfl, hfi, hbel⟩
  obtain ⟨gi, MI, hT2, hHI⟩ := HT1.out.list hbel (by rw [HBL.out]; decide) hfi
  obtain ⟨pp, cap, rfl, hx⟩ := hfi.hi
  obtain ⟨bq, oq, rfl, _⟩ := hx 0 (U 0 : Int) (HWAY.out 0 (by decide))
  have HCI : Hid (∀ k, k < 8 → ∀ W : World, W.heap[gi]? = some (.cells MI.toArray 3 (0, 0)) → W.cell? ⟨bq, oq + k, none⟩ = some (.int .i64 (U k : Int))) := fun k hk W hW => by
    obtain ⟨p2, c2, e2, h2⟩ := hHI W hW
    obtain ⟨b3, o3, e3, h3⟩ := h2 k _ (HWAY.out k hk)
    rw [e3] at e2
    simp only [Value.slice.injEq, Option.some.injEq, Addr.mk.injEq, and_true] at e2
    obtain ⟨⟨rfl, rfl⟩, _⟩ := e2
    exact h3
  have HT3 : Hid _ := hT2
  rw [HBL.out]
  rw [HM0.out] at HT3
  clear hT2 hHI hx hfi hbel HT1 HWY HWAY HBL HM0
  go_wp2
  go_loopw [13] (fun t wr => ∃ k : Nat, k ≤ 7 ∧ t = .int .i64 k ∧ TM w og mb rg i m D L R2 mm gb rm bb n l1 (MS k) ((gi, 3, MI) :: (g, 23, M) :: (b10, 23, ZL) :: (b9, 23, FL) :: rows) wr) (fun t _ => 7 - (intOf t).toNat)
  case atStart => exact ⟨0, by omega, rfl, HT3.out⟩
  case round =>
    obtain ⟨k, hk, rfl, hT⟩ := hrel
    clear HT3
    by_cases hlt : k < 7
    · have hkI : (k : Int) < 7 := by omega
      have hkI1 : (k : Int) + 1 < 8 := by omega
      have HT : Hid _ := hT
      have HDL : Hid (((WS.getD k []).map B8).length = 32) := by show _ = _; rw [List.length_map]; exact HGN.out k (by omega)
      have HRG : Hid (∀ W : World, W.heap[g]? = some (.cells M.toArray 23 (0, 0)) → W.rangeAt g (k * 32) ((WS.getD k []).map B8)) := fun W hW => HRL.out.range k (by rw [HWN.out]; omega) hW
      have HPT : Hid (∀ rws W, TM w og mb rg i m D L R2 mm gb rm bb n l1 (MS k) rws W → Calls Tryz.prog 54 #[.pointer (some ⟨rm, 0, none⟩), .int .u64 (a : Int), .int .i64 (U k : Int), .agg ((WS.getD k []).map B8).toArray] W fun e Y => e = .returned (.tuple #[]) ∧ TM w og mb rg i m D L R2 mm gb rm bb n l1 (MS (k + 1)) rws Y) := fun rws W hW => by rw [HMS.out k]; exact hW.rlay a (U k) _ HW.out (HUB.out k) (HGN.out k (by omega))
      have HCK : Hid (∀ W : World, W.heap[gi]? = some (.cells MI.toArray 3 (0, 0)) → W.cell? ⟨bq, oq + k, none⟩ = some (.int .i64 (U k : Int))) := HCI.out k (by omega)
      generalize (WS.getD k []).map B8 = DL at *
      clear hT
      go_upto_region 6 with fail
      refine wp_region_held_drew (S := fun W => ∃ l, TM w og mb rg i m D L R2 mm gb rm bb n l1 l ((gi, 3, MI) :: (g, 23, M) :: (b10, 23, ZL) :: (b9, 23, FL) :: rows) W) (by kernel_rfl) ⟨_, HT.out.step (Below.refl _ _).drew⟩ (fun hHeld => ?_)
      have HT2 : Hid _ := HT.out.step (Below.refl _ _).drew
      clear HT
      generalize World.drew _ = V0 at *
      refine wpAnyH_take (i := 0) (oi := { dst := some 29, op := Go.Op.move (Go.Operand.tmp 1), type := 34, pos := _, after := #[], guard := none }) (v := .pointer (some ⟨rm, 0, none⟩)) rfl (by kernel_rfl) (by kernel_rfl) (by kernel_rfl) (fun _ _ _ h => h) (Or.inl ⟨by rfl, fun w' hw' => ?_⟩) hHeld ?_
      · first | (go_simp; done) | (go_simp; rfl)
      try simp only [Act.put, List.setIfInBounds_toArray, List.set_cons_zero, List.set_cons_succ]
      refine wpAnyH_take (i := 1) (oi := { dst := some 30, op := Go.Op.move (Go.Operand.tmp 2), type := 26, pos := _, after := #[], guard := none }) (v := .int .u64 (a : Int)) rfl (by kernel_rfl) (by kernel_rfl) (by kernel_rfl) (fun _ _ _ h => h) (Or.inl ⟨by rfl, fun w' hw' => ?_⟩) hHeld ?_
      · first | (go_simp; done) | (go_simp; rfl)
      try simp only [Act.put, List.setIfInBounds_toArray, List.set_cons_zero, List.set_cons_succ]
      refine wpAnyH_take (i := 2) (oi := { dst := some 31, op := Go.Op.move (Go.Operand.tmp 12), type := 40, pos := _, after := #[], guard := none }) (v := .slice (some ⟨bq, oq, none⟩) 8 cap) rfl (by kernel_rfl) (by kernel_rfl) (by kernel_rfl) (fun _ _ _ h => h) (Or.inl ⟨by rfl, fun w' hw' => ?_⟩) hHeld ?_
      · first | (go_simp; done) | (go_simp; rfl)
      try simp only [Act.put, List.setIfInBounds_toArray, List.set_cons_zero, List.set_cons_succ]
      refine wpAnyH_take (i := 3) (oi := { dst := some 32, op := Go.Op.move (Go.Operand.tmp 13), type := 3, pos := _, after := #[], guard := none }) (v := .int .i64 (k : Int)) rfl (by kernel_rfl) (by kernel_rfl) (by kernel_rfl) (fun _ _ _ h => h) (Or.inl ⟨by rfl, fun w' hw' => ?_⟩) hHeld ?_
      · first | (go_simp; done) | (go_simp; rfl)
      try simp only [Act.put, List.setIfInBounds_toArray, List.set_cons_zero, List.set_cons_succ]
      refine wpAnyH_take (i := 4) (oi := { dst := some 33, op := Go.Op.indexAddr 40 (Go.Operand.tmp 31) (Go.Operand.tmp 32), type := 0, pos := _, after := #[{ on := 2, ground := Go.Ground.data }, { on := 3, ground := Go.Ground.data }], guard := none }) (v := .pointer (some ⟨bq, oq + k, none⟩)) rfl (by kernel_rfl) (by kernel_rfl) (by kernel_rfl) (fun _ _ _ h => h) (Or.inl ⟨by rfl, fun w' hw' => ?_⟩) hHeld ?_
      · have h8I : ¬ (8 : Int) ≤ (k : Int) := (by omega); first | (go_simp; done) | (go_simp; rfl)
      try simp only [Act.put, List.setIfInBounds_toArray, List.set_cons_zero, List.set_cons_succ]
      refine wpAnyH_take (i := 5) (oi := { dst := some 34, op := Go.Op.load 3 (Go.Operand.tmp 33), type := 3, pos := _, after := #[{ on := 4, ground := Go.Ground.data }], guard := none }) (v := .int .i64 (U k : Int)) rfl (by kernel_rfl) (by kernel_rfl) (by kernel_rfl) (fun _ _ _ h => h) (Or.inl ⟨by rfl, fun w' hw' => ?_⟩) hHeld ?_
      · have hcc := (by obtain ⟨_, q⟩ := hw'; exact HCK.out w' (q.at 0 rfl) : w'.cell? ⟨bq, oq + k, none⟩ = some (.int .i64 (U k : Int))); first | (go_simp; done) | (go_simp; rfl)
      try simp only [Act.put, List.setIfInBounds_toArray, List.set_cons_zero, List.set_cons_succ]
      refine wpAnyH_take (i := 6) (oi := { dst := some 35, op := Go.Op.move (Go.Operand.tmp 11), type := 24, pos := _, after := #[], guard := none }) (v := .slice (some ⟨g, 0, none⟩) 8 cp) rfl (by kernel_rfl) (by kernel_rfl) (by kernel_rfl) (fun _ _ _ h => h) (Or.inl ⟨by rfl, fun w' hw' => ?_⟩) hHeld ?_
      · first | (go_simp; done) | (go_simp; rfl)
      try simp only [Act.put, List.setIfInBounds_toArray, List.set_cons_zero, List.set_cons_succ]
      refine wpAnyH_take (i := 7) (oi := { dst := some 36, op := Go.Op.move (Go.Operand.tmp 13), type := 3, pos := _, after := #[], guard := none }) (v := .int .i64 (k : Int)) rfl (by kernel_rfl) (by kernel_rfl) (by kernel_rfl) (fun _ _ _ h => h) (Or.inl ⟨by rfl, fun w' hw' => ?_⟩) hHeld ?_
      · first | (go_simp; done) | (go_simp; rfl)
      try simp only [Act.put, List.setIfInBounds_toArray, List.set_cons_zero, List.set_cons_succ]
      refine wpAnyH_take (i := 8) (oi := { dst := some 37, op := Go.Op.indexAddr 24 (Go.Operand.tmp 35) (Go.Operand.tmp 36), type := 0, pos := _, after := #[{ on := 6, ground := Go.Ground.data }, { on := 7, ground := Go.Ground.data }], guard := none }) (v := .pointer (some ⟨g, k * 32, none⟩)) rfl (by kernel_rfl) (by kernel_rfl) (by kernel_rfl) (fun _ _ _ h => h) (Or.inl ⟨by rfl, fun w' hw' => ?_⟩) hHeld ?_
      · have h8I : ¬ (8 : Int) ≤ (k : Int) := (by omega); first | (go_simp; done) | (go_simp; rfl)
      try simp only [Act.put, List.setIfInBounds_toArray, List.set_cons_zero, List.set_cons_succ]
      refine wpAnyH_take (i := 9) (oi := { dst := some 38, op := Go.Op.load 23 (Go.Operand.tmp 37), type := 23, pos := _, after := #[{ on := 8, ground := Go.Ground.data }], guard := none }) rfl (by kernel_rfl) (by kernel_rfl) (by kernel_rfl) (fun _ _ _ h => h) (yieldsIf_load_mid (by rfl) 23 (.tmp 37) rfl (g) ((k * 32)) rfl (DL) _ (fun _ h => (by obtain ⟨_, q⟩ := h; exact HRG.out _ (q.at 1 rfl))) Tryz.underlying23 rfl (infoD DL HDL.out)) hHeld ?_
      try simp only [Act.put, List.setIfInBounds_toArray, List.set_cons_zero, List.set_cons_succ]
      refine wpAnyH_ready (rs := [10]) (by kernel_rfl) (by simp) ?_
      refine AllReadyH.cons (o := { dst := some 39, op := Go.Op.call { callee := Go.Callee.value (Go.Operand.func 54), args := #[Go.Operand.tmp 29, Go.Operand.tmp 30, Go.Operand.tmp 34, Go.Operand.tmp 38], argTypes := #[34, 26, 3, 23] }, type := 0, pos := _, after := #[{ on := 0, ground := Go.Ground.data }, { on := 1, ground := Go.Ground.data }, { on := 5, ground := Go.Ground.data }, { on := 9, ground := Go.Ground.data }], guard := none }) rfl (fun K hK => ?_) AllReadyH.nil
      rw [if_pos (by rfl)]
      go_wp2_with fail
      refine Calls.mono (HPT.out _ _ HT2.out) ?_
      rintro e V1 ⟨rfl, hT3⟩
      have HT3 : Hid _ := hT3
      have hH3 : ∃ l, TM w og mb rg i m D L R2 mm gb rm bb n l1 l ((gi, 3, MI) :: (g, 23, M) :: (b10, 23, ZL) :: (b9, 23, FL) :: rows) V1 := ⟨_, hT3⟩
      clear hT3 hHeld HT2 HPT
      refine hK.out _ _ hH3 (fun _ => ?_)
      clear hK K
      try simp only [Act.put, List.setIfInBounds_toArray, List.set_cons_zero, List.set_cons_succ]
      refine wpAnyH_done (by kernel_rfl) ?_ _
      go_wp2
      go_roundw
      case rel => exact ⟨k + 1, by omega, by go_num, HT3.out⟩
      case measure => simp [intOf]; omega
    · have hk7 : k = 7 := by omega
      subst hk7
      have HT : Hid _ := hT
      have hrg := HRL.out.range 7 (by rw [HWN.out]; omega) (hT.at 1 rfl)
      rw [HGE.out] at hrg
      have HRG : Hid (wr.rangeAt g 224 GE) := hrg
      clear hrg hT hk hlt
      go_wp2_with (first
        | (refine wpList_load_mid rfl 23 (.tmp 44) rfl g 224 rfl GE _ HRG.out Tryz.underlying23 rfl (infoD GE HGEL.out) ?_)
        | (refine wpList_store_dL rfl (.tmp 10) (.tmp 45) rfl b10 GE ZL rfl rfl (HT.out.at 2 rfl) HGEL.out HZL.out HGE1.out ?_; intro X4 e4; subst e4))
      refine bodyPost_ret (v := .agg GE.toArray) ?_ rfl ⟨rfl, (HT.out.put' 2 rfl GE).drop.drop.drop.drop⟩
      exact results_cell_row Tryz.results33 _ _ b10 23 _ (0, 0) _ rfl (setRow_heap _ _ _ _ _ _ (HT.out.at 2 rfl)) Tryz.underlying23 rfl (infoDa GE HGEL.out)
end
end Go.Proofs.YtnijjoankahddaaGreat.DC
