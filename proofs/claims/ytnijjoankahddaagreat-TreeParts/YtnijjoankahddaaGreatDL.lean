/- tree: noneOf, nodeOf, None, Node of the program, where they may be. -/
import Derived.Test.YtnijjoankahddaaGreatDK
set_option linter.unusedVariables false
set_option linter.unusedSimpArgs false
namespace Go.Proofs.YtnijjoankahddaaGreat.DC
open Go.RowKit

def qNone (p : Nat) : R5.Qn := ⟨1, Z0, 6, W1.le 8 p⟩
def qNode (i : Nat) (a b : List UInt8) : R5.Qn := ⟨1, Z0, 5, W1.le 8 i ++ (a ++ b)⟩
/-- What a call that asked leaves, where own blocks made ahead of it are written behind it. -/
theorem pr_end {B og mb : Nat} {S : Nat → Prop} {w w2 w3 w4 : World} {o o' : R5.Pra} {dv ov v v' : Value} {e : Ending} (ho : R5.PO B og mb S w o dv ov) (hB : B ≤ w.heap.size) (hb2 : Below w.heap.size w w2) (h : PR B og mb S w2 o' dv v e w3) (h4 : R5.Fr (fun k => w.heap.size ≤ k ∧ k < w2.heap.size) w3 w4) : PR B og mb S w o' dv v' (.returned v') w4 := by
  obtain ⟨_, h2, h3⟩ := h
  exact ⟨rfl, pfin ho hB hb2 h2 h3 h4⟩
theorem pr_row {B og mb : Nat} {S : Nat → Prop} {w w2 w3 : World} {o o' : R5.Pra} {dv ov v : Value} {e : Ending} {k : Nat} {obj : Obj} (ho : R5.PO B og mb S w o dv ov) (hk : w.heap.size ≤ k) (hr : w2.heap[k]? = some obj) (h : PR B og mb S w2 o' dv v e w3) : w3.heap[k]? = some obj :=
  (h.2.1.block _ (MC.row_lt hr) (fun hS => by have := ho.top _ hS; omega)).trans hr
set_option maxHeartbeats 2000000 in
set_option maxRecDepth 100000 in
theorem noneOf_any (B og mb : Nat) (S : Nat → Prop) (dv ov : Value) (o : R5.Pra) (p : Nat) (w : World) (r : List UInt8 × R5.Pra) (hp : p < 128) (hB : B ≤ w.heap.size) (hll : o.log.length < 1000000) (ho : R5.PO B og mb S w o dv ov) (hr : nxP o (qNone p) = r) :
    Calls Tryz.prog 41 #[.pointer (some ⟨og, 0, none⟩), .int .i64 (p : Int)] w fun e w' => PR B og mb S w r.2 dv (R5.dV r.1) e w' := by
  have hAl := nxP_len ho (qNone p)
  rw [hr] at hAl
  have hz := fun W => R5.zero_dig W
  obtain ⟨ZL, hZL⟩ : ∃ L, L = (List.replicate 32 (0 : UInt8)).map B8 := ⟨_, rfl⟩
  rw [← hZL] at hz
  have HZS : Hid (ZL.toArray.size = 32) := by show _ = _; rw [hZL]; simp
  have HZ1 : Hid (ZL.toArray.all (·.oneCell') = true) := by show _ = _; rw [hZL]; exact R5.B8_onea _
  clear hZL
  obtain ⟨X0, hE0⟩ : ∃ X, X = w.alloc (.cells ZL.toArray 23 (0, 0)) := ⟨_, rfl⟩
  have hX0 : Below w.heap.size w X0 := by rw [hE0]; exact ((Below.refl _ _).alloc (Nat.le_refl _) _)
  have hR0 : X0.heap[w.heap.size]? = some (.cells ZL.toArray 23 (0, 0)) := by rw [hE0]; exact MC.heap_at _ _ _ (by simp)
  have HO : Hid (R5.PO B og mb S w o dv ov) := ho
  have HAS : Hid ((r.1.map B8).toArray.size = 32) := by show _ = _; simpa using hAl
  have HA1 : Hid _ := R5.B8_onea r.1
  have HDV : Hid (R5.dV r.1 = .agg (r.1.map B8).toArray) := rfl
  have HC : Hid (Calls Tryz.prog 63 #[.pointer (some ⟨og, 0, none⟩), .int .i64 6, .int .i64 (p : Int), .slice none 0 0] X0 fun e w' => PR B og mb S X0 r.2 dv (R5.dV r.1) e w') := asked_any B og mb S _ dv ov o 6 p [] X0 r (Nat.le_trans hB hX0.size) hll (ho.below hX0) (by omega) (R5.hp_nil X0) (by simp) (by simp) (by decide) (by simpa [qNone] using hr)
  rw [HDV.out] at HC ⊢
  have HBX : Hid (Below w.heap.size w X0) := hX0
  have HRX : Hid (X0.heap[w.heap.size]? = some (.cells ZL.toArray 23 (0, 0))) := hR0
  have HE0 : Hid (X0 = w.alloc (.cells ZL.toArray 23 (0, 0))) := hE0
  generalize r.1.map B8 = AL at *
  rw [hE0] at HC
  clear hX0 hR0 hE0 ho hAl hr HDV
  go_enter Tryz.func41, Tryz.ntmps41
  go_wp2_with fail
  refine Calls.mono HC.out ?_
  rw [← HE0.out]
  rintro e w3 hP
  have he : e = .returned (.agg AL.toArray) := hP.1
  subst he
  have HR3 : Hid (w3.heap[w.heap.size]? = some (.cells ZL.toArray 23 (0, 0))) := pr_row HO.out (by omega) HRX.out hP
  have HEND : Hid (PR B og mb S w r.2 dv (.agg AL.toArray) (.returned (.agg AL.toArray)) (w3.setRow (w.heap.size) AL.toArray)) := pr_end HO.out hB HBX.out hP ((R5.Fr.refl _ _).setRow _ _ (.inl ⟨by omega, MC.row_lt HRX.out⟩))
  clear hP
  go_wp2_with (refine wpList_store_row rfl 23 _ _ rfl (w.heap.size) AL.toArray rfl rfl 23 ZL.toArray HR3.out (R5.info32a _ HAS.out) (HZS.out.trans HAS.out.symm) HA1.out ?_)
  refine bodyPost_ret (v := (.agg AL.toArray)) ?_ rfl HEND.out
  exact results_cell_row Tryz.results41 _ _ (w.heap.size) 23 _ (0, 0) _ rfl (setRow_heap _ _ _ _ _ _ HR3.out) Tryz.underlying23 rfl (R5.info32a _ HAS.out)
set_option maxHeartbeats 2000000 in
set_option maxRecDepth 100000 in
theorem nodeOf_any (B og mb : Nat) (S : Nat → Prop) (dv ov : Value) (o : R5.Pra) (i : Nat) (a b : List UInt8) (w : World) (r : List UInt8 × R5.Pra) (hi : i < 256) (ha : a.length = 32) (hb : b.length = 32) (hB : B ≤ w.heap.size) (hll : o.log.length < 1000000) (ho : R5.PO B og mb S w o dv ov) (hr : nxP o (qNode i a b) = r) :
    Calls Tryz.prog 46 #[.pointer (some ⟨og, 0, none⟩), .int .i64 (i : Int), .agg (a.map B8).toArray, .agg (b.map B8).toArray] w fun e w' => PR B og mb S w r.2 dv (R5.dV r.1) e w' := by
  have hAl := nxP_len ho (qNode i a b)
  rw [hr] at hAl
  have hz := fun W => R5.zero_dig W
  obtain ⟨ZL, hZL⟩ : ∃ L, L = (List.replicate 32 (0 : UInt8)).map B8 := ⟨_, rfl⟩
  rw [← hZL] at hz
  have HZS : Hid (ZL.toArray.size = 32) := by show _ = _; rw [hZL]; simp
  have HZ1 : Hid (ZL.toArray.all (·.oneCell') = true) := by show _ = _; rw [hZL]; exact R5.B8_onea _
  clear hZL
  obtain ⟨X0, hE0⟩ : ∃ X, X = (((w.alloc (.cells (a.map B8).toArray 23 (0, 0))).alloc (.cells (b.map B8).toArray 23 (0, 0))).alloc (.cells ZL.toArray 23 (0, 0))).drew := ⟨_, rfl⟩
  have hX0 : Below w.heap.size w X0 := by rw [hE0]; exact ((((Below.refl _ _).alloc (Nat.le_refl _) _).alloc (by simp) _).alloc (by simp; omega) _).drew
  have hR0 : X0.heap[w.heap.size + 1 + 1]? = some (.cells ZL.toArray 23 (0, 0)) := by rw [hE0]; exact MC.heap_at _ _ _ (by simp)
  have HO : Hid (R5.PO B og mb S w o dv ov) := ho
  have HAS : Hid ((r.1.map B8).toArray.size = 32) := by show _ = _; simpa using hAl
  have HA1 : Hid _ := R5.B8_onea r.1
  have HDV : Hid (R5.dV r.1 = .agg (r.1.map B8).toArray) := rfl
  have hra : X0.heap[w.heap.size]? = some (.cells (a.map B8).toArray 23 (0, 0)) := by rw [hE0]; exact (heap_alloc_old _ _ (by simp; omega)).trans ((heap_alloc_old _ _ (by simp)).trans (heap_alloc_new _ _))
  have hrb : X0.heap[w.heap.size + 1]? = some (.cells (b.map B8).toArray 23 (0, 0)) := by rw [hE0]; exact (heap_alloc_old _ _ (by simp)).trans (MC.heap_at _ _ _ (by simp))
  have hha : HB X0 (.slice (some ⟨w.heap.size, 0, none⟩) 32 32) a := MC.hb_range ha.symm (by omega) (by decide) (MC.rangeAt_row hra)
  have hhb : HB X0 (.slice (some ⟨w.heap.size + 1, 0, none⟩) 32 32) b := MC.hb_range hb.symm (by omega) (by decide) (MC.rangeAt_row hrb)
  obtain ⟨X1, hE1⟩ : ∃ X, X = X0.alloc (.cells #[.slice (some ⟨w.heap.size, 0, none⟩) 32 32, .slice (some ⟨w.heap.size + 1, 0, none⟩) 32 32] 83 (0, 0)) := ⟨_, rfl⟩
  have hX1 : Below X0.heap.size X0 X1 := by rw [hE1]; exact (Below.refl _ _).alloc (Nat.le_refl _) _
  have hHP : R5.HP X1 (.slice (some ⟨X0.heap.size, 0, none⟩) 2 2) [a, b] := by rw [hE1]; exact hp_two X0 _ _ _ _ hha hhb
  have hs0 : X0.heap.size = w.heap.size + 1 + 1 + 1 := by rw [hE0]; simp
  have hX01 : Below w.heap.size w X1 := hX0.trans (hX1.mono hX0.size)
  have HC : Hid (Calls Tryz.prog 63 #[.pointer (some ⟨og, 0, none⟩), .int .i64 5, .int .i64 (i : Int), .slice (some ⟨X0.heap.size, 0, none⟩) 2 2] X1 fun e w' => PR B og mb S X1 r.2 dv (R5.dV r.1) e w') := asked_any B og mb S _ dv ov o 5 i [a, b] X1 r (Nat.le_trans hB hX01.size) hll (ho.below hX01) (by omega) hHP (by simp) (by simp; omega) (by decide) (by simpa [qNode] using hr)
  rw [HDV.out] at HC ⊢
  have HBX : Hid (Below w.heap.size w X1) := hX01
  have HRX : Hid (X1.heap[w.heap.size + 1 + 1]? = some (.cells ZL.toArray 23 (0, 0))) := (hX1.block _ (MC.row_lt hR0)).trans hR0
  have HE0 : Hid (X0 = (((w.alloc (.cells (a.map B8).toArray 23 (0, 0))).alloc (.cells (b.map B8).toArray 23 (0, 0))).alloc (.cells ZL.toArray 23 (0, 0))).drew) := hE0
  generalize r.1.map B8 = AL at *
  have HE1 : Hid (X1 = X0.alloc (.cells #[.slice (some ⟨w.heap.size, 0, none⟩) 32 32, .slice (some ⟨w.heap.size + 1, 0, none⟩) 32 32] 83 (0, 0))) := hE1
  rw [HE1.out] at HC
  have hsa := fun W => R5.sliceDig W w.heap.size 0
  have hsb := fun W => R5.sliceDig W (w.heap.size + 1) 0
  generalize (a.map B8).toArray = AA at *
  generalize (b.map B8).toArray = BB at *
  clear hX0 hR0 hE0 ho hAl hr HDV hra hrb hha hhb hE1 hX1 hHP hs0 hX01
  go_enter Tryz.func46, Tryz.ntmps46
  go_wp2_with fail
  refine wp_region_held_drew (S := fun _ => True) (by kernel_rfl) trivial (fun hHeld => ?_)
  rw [← HE0.out]
  refine wpAnyH_take (i := 0) (oi := { dst := some 9, op := Go.Op.move (Go.Operand.tmp 0), type := 31, pos := _, after := #[], guard := none }) (v := .pointer (some ⟨og, 0, none⟩)) rfl (by kernel_rfl) (by kernel_rfl) (by kernel_rfl) (fun _ _ _ h => h) (Or.inl ⟨by rfl, fun w' hw' => ?_⟩) hHeld ?_
  · first | (go_simp; done) | (go_simp; rfl)
  try simp only [Act.put, List.setIfInBounds_toArray, List.set_cons_zero, List.set_cons_succ]
  refine wpAnyH_take (i := 1) (oi := { dst := some 10, op := Go.Op.move (Go.Operand.tmp 1), type := 3, pos := _, after := #[], guard := none }) (v := .int .i64 (i : Int)) rfl (by kernel_rfl) (by kernel_rfl) (by kernel_rfl) (fun _ _ _ h => h) (Or.inl ⟨by rfl, fun w' hw' => ?_⟩) hHeld ?_
  · first | (go_simp; done) | (go_simp; rfl)
  try simp only [Act.put, List.setIfInBounds_toArray, List.set_cons_zero, List.set_cons_succ]
  refine wpAnyH_take (i := 2) (oi := { dst := some 11, op := Go.Op.slice 23 (Go.Operand.tmp 6) none none none, type := 83, pos := _, after := #[], guard := none }) (v := .slice (some ⟨w.heap.size, 0, none⟩) 32 32) rfl (by kernel_rfl) (by kernel_rfl) (by kernel_rfl) (fun _ _ _ h => h) (Or.inl ⟨by rfl, fun w' hw' => ?_⟩) hHeld ?_
  · first | (go_simp; done) | (go_simp; rfl)
  try simp only [Act.put, List.setIfInBounds_toArray, List.set_cons_zero, List.set_cons_succ]
  refine wpAnyH_take (i := 3) (oi := { dst := some 12, op := Go.Op.slice 23 (Go.Operand.tmp 7) none none none, type := 83, pos := _, after := #[], guard := none }) (v := .slice (some ⟨w.heap.size + 1, 0, none⟩) 32 32) rfl (by kernel_rfl) (by kernel_rfl) (by kernel_rfl) (fun _ _ _ h => h) (Or.inl ⟨by rfl, fun w' hw' => ?_⟩) hHeld ?_
  · first | (go_simp; done) | (go_simp; rfl)
  try simp only [Act.put, List.setIfInBounds_toArray, List.set_cons_zero, List.set_cons_succ]
  refine wpAnyH_ready (rs := [4]) (by kernel_rfl) (by simp) ?_
  refine AllReadyH.cons (o := { dst := some 13, op := Go.Op.buildSlice 87 2 #[(0, Go.Operand.tmp 11), (1, Go.Operand.tmp 12)], type := 87, pos := _, after := #[{ on := 2, ground := Go.Ground.data }, { on := 3, ground := Go.Ground.data }], guard := none }) rfl (fun K hK => ?_) AllReadyH.nil
  rw [if_pos (by rfl)]
  go_wp2_with fail
  refine hK.out _ _ trivial (fun _ => ?_)
  clear hK K
  try simp only [Act.put, List.setIfInBounds_toArray, List.set_cons_zero, List.set_cons_succ]
  refine wpAnyH_ready (rs := [5]) (by kernel_rfl) (by simp) ?_
  refine AllReadyH.cons (o := { dst := some 14, op := Go.Op.call { callee := Go.Callee.value (Go.Operand.func 63), args := #[Go.Operand.tmp 9, Go.Operand.const (Go.Value.int Go.IntKind.i64 5), Go.Operand.tmp 10, Go.Operand.tmp 13], argTypes := #[31, 82, 3, 87] }, type := 23, pos := _, after := #[{ on := 0, ground := Go.Ground.data }, { on := 1, ground := Go.Ground.data }, { on := 4, ground := Go.Ground.data }], guard := none }) rfl (fun K hK => ?_) AllReadyH.nil
  rw [if_pos (by rfl)]
  go_wp2_with fail
  refine Calls.mono HC.out ?_
  rw [← HE1.out]
  rintro e w3 hP
  have he : e = .returned (.agg AL.toArray) := hP.1
  subst he
  have HR3 : Hid (w3.heap[w.heap.size + 1 + 1]? = some (.cells ZL.toArray 23 (0, 0))) := pr_row HO.out (by omega) HRX.out hP
  have HEND : Hid (PR B og mb S w r.2 dv (.agg AL.toArray) (.returned (.agg AL.toArray)) (w3.setRow (w.heap.size + 1 + 1) AL.toArray)) := pr_end HO.out hB HBX.out hP ((R5.Fr.refl _ _).setRow _ _ (.inl ⟨by omega, MC.row_lt HRX.out⟩))
  clear hP
  refine hK.out _ _ trivial (fun _ => ?_)
  clear hK K
  try simp only [Act.put, List.setIfInBounds_toArray, List.set_cons_zero, List.set_cons_succ]
  refine wpAnyH_ready (rs := [6]) (by kernel_rfl) (by simp) ?_
  refine AllReadyH.cons (o := { dst := none, op := Go.Op.store 23 (Go.Operand.tmp 8) (Go.Operand.tmp 14), type := 0, pos := _, after := #[{ on := 5, ground := Go.Ground.data }, { on := 5, ground := Go.Ground.chain }, { on := 0, ground := Go.Ground.phase }, { on := 1, ground := Go.Ground.phase }, { on := 2, ground := Go.Ground.phase }, { on := 3, ground := Go.Ground.phase }, { on := 4, ground := Go.Ground.phase }, { on := 5, ground := Go.Ground.phase }], guard := none }) rfl (fun K hK => ?_) AllReadyH.nil
  rw [if_pos (by rfl)]
  refine wp_store_row 23 _ _ rfl (w.heap.size + 1 + 1) AL.toArray rfl rfl 23 ZL.toArray HR3.out (R5.info32a _ HAS.out) (HZS.out.trans HAS.out.symm) HA1.out ?_
  refine hK.out _ _ trivial (fun _ => ?_)
  clear hK K
  try simp only [Act.put, List.setIfInBounds_toArray, List.set_cons_zero, List.set_cons_succ]
  refine wpAnyH_done (by kernel_rfl) ?_ _
  go_wp2
  refine bodyPost_ret (v := (.agg AL.toArray)) ?_ rfl HEND.out
  exact results_cell_row Tryz.results46 _ _ (w.heap.size + 1 + 1) 23 _ (0, 0) _ rfl (setRow_heap _ _ _ _ _ _ HR3.out) Tryz.underlying23 rfl (R5.info32a _ HAS.out)
set_option maxHeartbeats 2000000 in
set_option maxRecDepth 100000 in
theorem none_ok (B og mb : Nat) (S : Nat → Prop) (dv ov : Value) (o : R5.Pra) (p : Nat) (w : World) (r : List UInt8 × R5.Pra) (hp : p < 128) (hB : B ≤ w.heap.size) (hll : o.log.length < 1000000) (ho : R5.PO B og mb S w o dv ov) (hr : nxP o (qNone p) = r) :
    Calls Tryz.prog 9 #[.pointer (some ⟨og, 0, none⟩), .int .i64 (p : Int)] w fun e w' => PR B og mb S w r.2 dv (R5.okV r.1) e w' := by
  have hAl := nxP_len ho (qNone p)
  rw [hr] at hAl
  have hz := fun W => R5.zero_dig W
  obtain ⟨ZL, hZL⟩ : ∃ L, L = (List.replicate 32 (0 : UInt8)).map B8 := ⟨_, rfl⟩
  rw [← hZL] at hz
  have HZS : Hid (ZL.toArray.size = 32) := by show _ = _; rw [hZL]; simp
  have HZ1 : Hid (ZL.toArray.all (·.oneCell') = true) := by show _ = _; rw [hZL]; exact R5.B8_onea _
  clear hZL
  obtain ⟨X0, hE0⟩ : ∃ X, X = w.alloc (.cells ZL.toArray 23 (0, 0)) := ⟨_, rfl⟩
  have hX0 : Below w.heap.size w X0 := by rw [hE0]; exact ((Below.refl _ _).alloc (Nat.le_refl _) _)
  have hR0 : X0.heap[w.heap.size]? = some (.cells ZL.toArray 23 (0, 0)) := by rw [hE0]; exact MC.heap_at _ _ _ (by simp)
  have HO : Hid (R5.PO B og mb S w o dv ov) := ho
  have HAS : Hid ((r.1.map B8).toArray.size = 32) := by show _ = _; simpa using hAl
  have HA1 : Hid _ := R5.B8_onea r.1
  have HDV : Hid (R5.dV r.1 = .agg (r.1.map B8).toArray) := rfl
  have HOK : Hid (R5.okV r.1 = .tuple #[.agg (r.1.map B8).toArray, .int .i64 0]) := rfl
  have HN : Hid (Calls Tryz.prog 39 #[.pointer (some ⟨og, 0, none⟩)] X0 fun e w' => e = .returned (.bool false) ∧ Below X0.heap.size X0 w') := noOracle_no og mb X0 ((hX0.cell (block_lt ho.cells.2.2.2.1)).trans ho.cells.2.2.2.1)
  have HPG : Hid (∀ W, Calls Tryz.prog 40 #[.int .i64 (p : Int)] W fun e w' => e = .returned (.bool true) ∧ w' = W) := fun W => by have q := isPage_any (p : Int) W; rw [show mayP (p : Int) = true from decide_eq_true (by omega)] at q; exact q
  have HC : Hid (∀ W, Below w.heap.size w W → Calls Tryz.prog 41 #[.pointer (some ⟨og, 0, none⟩), .int .i64 (p : Int)] W fun e w' => PR B og mb S W r.2 dv (R5.dV r.1) e w') := fun W hW => noneOf_any B og mb S dv ov o p W r hp (Nat.le_trans hB hW.size) hll (ho.below hW) hr
  rw [HDV.out] at HC
  rw [HOK.out]
  have HX0 : Hid (Below w.heap.size w X0) := hX0
  have HR0 : Hid (X0.heap[w.heap.size]? = some (.cells ZL.toArray 23 (0, 0))) := hR0
  have HE0 : Hid (X0 = w.alloc (.cells ZL.toArray 23 (0, 0))) := hE0
  generalize r.1.map B8 = AL at *
  rw [hE0] at HN
  clear hX0 hR0 hE0 ho hAl hr HDV HOK
  go_enter Tryz.func9, Tryz.ntmps9
  go_wp2_with fail
  refine Calls.mono HN.out ?_
  rintro e X1 ⟨rfl, hb1⟩
  rw [← HE0.out] at hb1
  have HBX : Hid (Below w.heap.size w X1) := HX0.out.trans (hb1.mono HX0.out.size)
  have HRX : Hid (X1.heap[w.heap.size]? = some (.cells ZL.toArray 23 (0, 0))) := (hb1.block _ (MC.row_lt HR0.out)).trans HR0.out
  clear hb1 HN HX0 HR0
  go_wp2_with fail
  refine Calls.mono (HPG.out X1) ?_
  rintro e X2 ⟨rfl, h2⟩
  rw [h2]
  clear h2 X2
  go_wp2_with fail
  refine Calls.mono (HC.out X1 HBX.out) ?_
  rintro e w3 hP
  have he : e = .returned (.agg AL.toArray) := hP.1
  subst he
  have HR3 : Hid (w3.heap[w.heap.size]? = some (.cells ZL.toArray 23 (0, 0))) := pr_row HO.out (by omega) HRX.out hP
  have HEND : Hid (PR B og mb S w r.2 dv (.tuple #[.agg AL.toArray, .int .i64 0]) (.returned (.tuple #[.agg AL.toArray, .int .i64 0])) (w3.setRow (w.heap.size) AL.toArray)) := pr_end HO.out hB HBX.out hP ((R5.Fr.refl _ _).setRow _ _ (.inl ⟨by omega, MC.row_lt HRX.out⟩))
  clear hP
  go_wp2_with (refine wpList_store_row rfl 23 _ _ rfl (w.heap.size) AL.toArray rfl rfl 23 ZL.toArray HR3.out (R5.info32a _ HAS.out) (HZS.out.trans HAS.out.symm) HA1.out ?_)
  refine bodyPost_ret (v := (.tuple #[.agg AL.toArray, .int .i64 0])) ?_ rfl HEND.out
  exact R5.results_dig2 Tryz.results9 _ _ (w.heap.size) 23 _ (0, 0) _ rfl rfl (setRow_heap _ _ _ _ _ _ HR3.out) (R5.info32a _ HAS.out)
set_option maxHeartbeats 2000000 in
set_option maxRecDepth 100000 in
theorem node_ok (B og mb : Nat) (S : Nat → Prop) (dv ov : Value) (o : R5.Pra) (i : Nat) (a b : List UInt8) (w : World) (r : List UInt8 × R5.Pra) (h1 : 1 ≤ i) (hi : i < 128) (ha : a.length = 32) (hb : b.length = 32) (hB : B ≤ w.heap.size) (hll : o.log.length < 1000000) (ho : R5.PO B og mb S w o dv ov) (hr : nxP o (qNode i a b) = r) :
    Calls Tryz.prog 18 #[.pointer (some ⟨og, 0, none⟩), .int .i64 (i : Int), .agg (a.map B8).toArray, .agg (b.map B8).toArray] w fun e w' => PR B og mb S w r.2 dv (R5.okV r.1) e w' := by
  have hAl := nxP_len ho (qNode i a b)
  rw [hr] at hAl
  have hz := fun W => R5.zero_dig W
  obtain ⟨ZL, hZL⟩ : ∃ L, L = (List.replicate 32 (0 : UInt8)).map B8 := ⟨_, rfl⟩
  rw [← hZL] at hz
  have HZS : Hid (ZL.toArray.size = 32) := by show _ = _; rw [hZL]; simp
  have HZ1 : Hid (ZL.toArray.all (·.oneCell') = true) := by show _ = _; rw [hZL]; exact R5.B8_onea _
  clear hZL
  obtain ⟨X0, hE0⟩ : ∃ X, X = ((w.alloc (.cells (a.map B8).toArray 23 (0, 0))).alloc (.cells (b.map B8).toArray 23 (0, 0))).alloc (.cells ZL.toArray 23 (0, 0)) := ⟨_, rfl⟩
  have hX0 : Below w.heap.size w X0 := by rw [hE0]; exact (((Below.refl _ _).alloc (Nat.le_refl _) _).alloc (by simp) _).alloc (by simp; omega) _
  have hR0 : X0.heap[w.heap.size + 1 + 1]? = some (.cells ZL.toArray 23 (0, 0)) := by rw [hE0]; exact MC.heap_at _ _ _ (by simp)
  have HO : Hid (R5.PO B og mb S w o dv ov) := ho
  have HAS : Hid ((r.1.map B8).toArray.size = 32) := by show _ = _; simpa using hAl
  have HA1 : Hid _ := R5.B8_onea r.1
  have HDV : Hid (R5.dV r.1 = .agg (r.1.map B8).toArray) := rfl
  have hra : X0.heap[w.heap.size]? = some (.cells (a.map B8).toArray 23 (0, 0)) := by rw [hE0]; exact (heap_alloc_old _ _ (by simp; omega)).trans ((heap_alloc_old _ _ (by simp)).trans (heap_alloc_new _ _))
  have hrb : X0.heap[w.heap.size + 1]? = some (.cells (b.map B8).toArray 23 (0, 0)) := by rw [hE0]; exact (heap_alloc_old _ _ (by simp)).trans (MC.heap_at _ _ _ (by simp))
  have HOK : Hid (R5.okV r.1 = .tuple #[.agg (r.1.map B8).toArray, .int .i64 0]) := rfl
  have HN : Hid (Calls Tryz.prog 39 #[.pointer (some ⟨og, 0, none⟩)] X0 fun e w' => e = .returned (.bool false) ∧ Below X0.heap.size X0 w') := noOracle_no og mb X0 ((hX0.cell (block_lt ho.cells.2.2.2.1)).trans ho.cells.2.2.2.1)
  have HC : Hid (∀ W, Below w.heap.size w W → Calls Tryz.prog 46 #[.pointer (some ⟨og, 0, none⟩), .int .i64 (i : Int), .agg (a.map B8).toArray, .agg (b.map B8).toArray] W fun e w' => PR B og mb S W r.2 dv (R5.dV r.1) e w') := fun W hW => nodeOf_any B og mb S dv ov o i a b W r (by omega) ha hb (Nat.le_trans hB hW.size) hll (ho.below hW) hr
  rw [HDV.out] at HC
  rw [HOK.out]
  have HX0 : Hid (Below w.heap.size w X0) := hX0
  have HR0 : Hid (X0.heap[w.heap.size + 1 + 1]? = some (.cells ZL.toArray 23 (0, 0))) := hR0
  have HRA : Hid (X0.rangeAt w.heap.size 0 (a.map B8)) := MC.rangeAt_row hra
  have HRB : Hid (X0.rangeAt (w.heap.size + 1) 0 (b.map B8)) := MC.rangeAt_row hrb
  have HAI : Hid _ := R5.info32 (a.map B8) (by simpa using ha)
  have HBI : Hid _ := R5.info32 (b.map B8) (by simpa using hb)
  have HE0 : Hid (X0 = ((w.alloc (.cells (a.map B8).toArray 23 (0, 0))).alloc (.cells (b.map B8).toArray 23 (0, 0))).alloc (.cells ZL.toArray 23 (0, 0))) := hE0
  have hi1 : ¬ (i : Int) < 1 := by omega
  have hi2 : ¬ (128 : Int) ≤ (i : Int) := by omega
  generalize r.1.map B8 = AL at *
  generalize a.map B8 = LA at *
  generalize b.map B8 = LB at *
  rw [hE0] at HN
  clear hX0 hR0 hE0 ho hAl hr HDV HOK hra hrb ha hb h1 hi
  go_enter Tryz.func18, Tryz.ntmps18
  go_wp2_with fail
  refine Calls.mono HN.out ?_
  rintro e X1 ⟨rfl, hb1⟩
  rw [← HE0.out] at hb1
  have HBX : Hid (Below w.heap.size w X1) := HX0.out.trans (hb1.mono HX0.out.size)
  have HRX : Hid (X1.heap[w.heap.size + 1 + 1]? = some (.cells ZL.toArray 23 (0, 0))) := (hb1.block _ (MC.row_lt HR0.out)).trans HR0.out
  have HRA1 : Hid (X1.rangeAt w.heap.size 0 LA) := MC.rangeAt_below HRA.out hb1
  have HRB1 : Hid (X1.rangeAt (w.heap.size + 1) 0 LB) := MC.rangeAt_below HRB.out hb1
  clear hb1 HN HX0 HR0 HRA HRB
  go_wp2_with (first
    | (refine wpList_load_mid rfl 23 (.tmp 6) rfl w.heap.size 0 rfl LA _ HRA1.out Tryz.underlying23 rfl HAI.out ?_)
    | (refine wpList_load_mid rfl 23 (.tmp 7) rfl (w.heap.size + 1) 0 rfl LB _ HRB1.out Tryz.underlying23 rfl HBI.out ?_))
  refine Calls.mono (HC.out X1 HBX.out) ?_
  rintro e w3 hP
  have he : e = .returned (.agg AL.toArray) := hP.1
  subst he
  have HR3 : Hid (w3.heap[w.heap.size + 1 + 1]? = some (.cells ZL.toArray 23 (0, 0))) := pr_row HO.out (by omega) HRX.out hP
  have HEND : Hid (PR B og mb S w r.2 dv (.tuple #[.agg AL.toArray, .int .i64 0]) (.returned (.tuple #[.agg AL.toArray, .int .i64 0])) (w3.setRow (w.heap.size + 1 + 1) AL.toArray)) := pr_end HO.out hB HBX.out hP ((R5.Fr.refl _ _).setRow _ _ (.inl ⟨by omega, MC.row_lt HRX.out⟩))
  clear hP
  go_wp2_with (refine wpList_store_row rfl 23 _ _ rfl (w.heap.size + 1 + 1) AL.toArray rfl rfl 23 ZL.toArray HR3.out (R5.info32a _ HAS.out) (HZS.out.trans HAS.out.symm) HA1.out ?_)
  refine bodyPost_ret (v := (.tuple #[.agg AL.toArray, .int .i64 0])) ?_ rfl HEND.out
  exact R5.results_dig2 Tryz.results18 _ _ (w.heap.size + 1 + 1) 23 _ (0, 0) _ rfl rfl (setRow_heap _ _ _ _ _ _ HR3.out) (R5.info32a _ HAS.out)
end Go.Proofs.YtnijjoankahddaaGreat.DC
