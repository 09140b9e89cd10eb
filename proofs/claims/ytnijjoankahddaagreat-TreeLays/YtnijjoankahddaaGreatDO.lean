/- tree: the document's None, Node. -/
import Derived.Test.YtnijjoankahddaaGreatDN
set_option linter.unusedVariables false
set_option linter.unusedSimpArgs false
namespace Go.Proofs.YtnijjoankahddaaGreat.DC
open Go.RowKit

theorem rword_any (n : Nat) (w : World) (hn : n < 1000000) : Calls Tryz.prog 45 #[.int .i64 (n : Int)] w fun e w' => ∃ v, e = .returned v ∧ FB w.heap.size w' v (W1.le 8 n) ∧ Below w.heap.size w w' := by
  have hu : IntKind.u64.wrap (n : Int) = (n : Int) := by rw [W1.wrap_u64]; omega
  have HP : Hid (Calls Tryz.prog 65 #[.int .u64 (n : Int), .int .i64 (8 : Int)] w fun e w' => ∃ v, e = .returned v ∧ FB w.heap.size w' v (W1.le 8 n) ∧ Below w.heap.size w w') := DP.refPut_any n 8 w (by omega) (by decide)
  go_enter Tryz.func45, Tryz.ntmps45
  go_wp2_with fail
  refine Calls.mono HP.out ?_
  rintro e w1 ⟨v, rfl, hf, hb⟩
  have HF : Hid (FB w.heap.size w1 v (W1.le 8 n)) := hf
  have HB : Hid (Below w.heap.size w w1) := hb
  clear hf hb
  go_wp2
  go_ret
  exact ⟨_, rfl, HF.out, HB.out⟩
section
variable {B og : Nat} {S : Nat → Prop} {dv lv : Value} {o : R5.Ora} {lds : List Value} {t : TypeId}
theorem rdigS {w W : World} {r : List UInt8 × R5.Ora} (d : Int) (v : Value) (l : List UInt8) (hll : o.log.length < 1000000) (hu : o.used < 1000000) (hl : l.length ≤ 1000000) (hB : B ≤ w.heap.size) (ho : R5.OR B og S w o dv lv lds t) (hb : Below w.heap.size w W) (hv : HB W v l) (hvb : l ≠ [] → ∀ k, v.ownBlock = some k → w.heap.size ≤ k) (hr : R5.rNx o ⟨1, Z0, d, l⟩ = r) :
    Calls Tryz.prog 44 #[.pointer (some ⟨og, 0, none⟩), .int .i64 d, v] W fun e w' => R5.QEnd B og S W r dv t e w' := by
  rw [← hr]
  exact R5.rdigG B og S v dv lv o lds t d l W hll hu (by omega) (Nat.le_trans hB hb.size) (ho.keep hb.size (fun k hk _ => hb.block k hk)) hv (fun hne e => by have := hvb hne og e; have := ho.top og ho.sog; omega)
set_option maxHeartbeats 2000000 in
set_option maxRecDepth 100000 in
theorem rnone_any (p : Nat) (w : World) (r : List UInt8 × R5.Ora) (hp : p < 128) (hll : o.log.length < 1000000) (hu : o.used < 1000000) (hB : B ≤ w.heap.size) (ho : R5.OR B og S w o dv lv lds t) (hr : R5.rNx o (qNone p) = r) :
    Calls Tryz.prog 13 #[.pointer (some ⟨og, 0, none⟩), .int .i64 (p : Int)] w fun e w' => R5.QEnd B og S w r dv t e w' := by
  have hAl := R5.rNx_len ho (qNone p)
  rw [hr] at hAl
  have hz := fun W => R5.zero_dig W
  obtain ⟨ZL, hZL⟩ : ∃ L, L = (List.replicate 32 (0 : UInt8)).map B8 := ⟨_, rfl⟩
  rw [← hZL] at hz
  have HZS : Hid (ZL.toArray.size = 32) := by show _ = _; rw [hZL]; simp
  have HZ1 : Hid (ZL.toArray.all (·.oneCell') = true) := by show _ = _; rw [hZL]; exact R5.B8_onea _
  clear hZL
  obtain ⟨X0, hE0⟩ : ∃ X, X = w.alloc (.cells ZL.toArray 23 (0, 0)) := ⟨_, rfl⟩
  have hX0 : Below w.heap.size w X0 := by rw [hE0]; exact (Below.refl _ _).alloc (Nat.le_refl _) _
  have hR0 : X0.heap[w.heap.size]? = some (.cells ZL.toArray 23 (0, 0)) := by rw [hE0]; exact heap_alloc_new _ _
  have HW : Hid (Calls Tryz.prog 45 #[.int .i64 (p : Int)] X0 fun e w' => ∃ v, e = .returned v ∧ FB X0.heap.size w' v (W1.le 8 p) ∧ Below X0.heap.size X0 w') := rword_any p X0 (by omega)
  have HDG : Hid (∀ W v, Below w.heap.size w W → HB W v (W1.le 8 p) → (∀ k, v.ownBlock = some k → w.heap.size ≤ k) → Calls Tryz.prog 44 #[.pointer (some ⟨og, 0, none⟩), .int .i64 6, v] W fun e w' => R5.QEnd B og S W r dv t e w') := fun W v hW hv hvb => rdigS 6 v _ hll hu (by simp [W1.le_length]) hB ho hW hv (fun _ => hvb) hr
  have HO : Hid (R5.OR B og S w o dv lv lds t) := ho
  have HAS : Hid ((r.1.map B8).toArray.size = 32) := by show _ = _; simpa using hAl
  have HA1 : Hid _ := R5.B8_onea r.1
  have HX0 : Hid (Below w.heap.size w X0) := hX0
  have HR0 : Hid (X0.heap[w.heap.size]? = some (.cells ZL.toArray 23 (0, 0))) := hR0
  have HE0 : Hid (X0 = w.alloc (.cells ZL.toArray 23 (0, 0))) := hE0
  generalize W1.le 8 p = LE at *
  rw [hE0] at HW
  clear hX0 hR0 hE0 ho hAl hr
  go_enter Tryz.func13, Tryz.ntmps13
  go_wp2_with fail
  refine Calls.mono HW.out ?_
  rintro e X1 ⟨v1, rfl, hf1, hb1⟩
  rw [← HE0.out] at hf1 hb1
  have HBX : Hid (Below w.heap.size w X1) := HX0.out.trans (hb1.mono HX0.out.size)
  have HRX : Hid (X1.heap[w.heap.size]? = some (.cells ZL.toArray 23 (0, 0))) := (hb1.block _ (MC.row_lt HR0.out)).trans HR0.out
  have hsz := HX0.out.size
  have HC : Hid (Calls Tryz.prog 44 #[.pointer (some ⟨og, 0, none⟩), .int .i64 6, v1] X1 fun e w' => R5.QEnd B og S X1 r dv t e w') := HDG.out X1 v1 HBX.out hf1.hb (fun k hk => by have := (DP.fb_ge hf1 k hk).1; omega)
  clear hf1 hb1 hsz HDG HW HX0 HR0
  go_wp2_with fail
  refine Calls.mono HC.out ?_
  rintro e w3 ⟨rfl, hfr, hor⟩
  have hl1 := MC.row_lt HRX.out
  have HR3 : Hid (w3.heap[w.heap.size]? = some (.cells ZL.toArray 23 (0, 0))) := (hfr.block _ hl1 (fun h => by have := HO.out.top _ h; omega)).trans HRX.out
  have HEND : Hid (R5.QEnd B og S w r dv t (.returned (.agg (r.1.map B8).toArray)) (w3.setRow w.heap.size (r.1.map B8).toArray)) := ⟨rfl, R5.rfin HO.out hB HBX.out hfr hor ((R5.Fr.refl _ _).setRow _ _ (.inl ⟨by omega, hl1⟩))⟩
  clear hfr hor hl1 HC
  go_wp2_with (refine wpList_store_row rfl 23 _ _ rfl w.heap.size (r.1.map B8).toArray rfl rfl 23 ZL.toArray HR3.out (R5.info32a _ HAS.out) (HZS.out.trans HAS.out.symm) HA1.out ?_)
  refine bodyPost_ret (v := .agg (r.1.map B8).toArray) ?_ rfl HEND.out
  exact results_cell_row Tryz.results13 _ _ w.heap.size 23 _ (0, 0) _ rfl (setRow_heap _ _ _ _ _ _ HR3.out) Tryz.underlying23 rfl (R5.info32a _ HAS.out)
theorem hl3 (X : World) (a b c : Value) (la lb lc : List UInt8) (ha : HB X a la) (hb : HB X b lb) (hc : HB X c lc) : DP.HL (X.alloc (.cells #[a, b, c] 83 (0, 0))) X.heap.size [la, lb, lc] := fun i hi => by
  have hbel : Below X.heap.size X (X.alloc (.cells #[a, b, c] 83 (0, 0))) := (Below.refl _ _).alloc (Nat.le_refl _) _
  have : i = 0 ∨ i = 1 ∨ i = 2 := by simp at hi; omega
  rcases this with rfl | rfl | rfl
  · exact ⟨a, by rw [cell_of_row _ _ 0 _ _ _ (heap_alloc_new _ _)]; rfl, ha.below hbel⟩
  · exact ⟨b, by rw [cell_of_row _ _ 1 _ _ _ (heap_alloc_new _ _)]; rfl, hb.below hbel⟩
  · exact ⟨c, by rw [cell_of_row _ _ 2 _ _ _ (heap_alloc_new _ _)]; rfl, hc.below hbel⟩
set_option maxHeartbeats 2000000 in
set_option maxRecDepth 100000 in
theorem rnode_any (i : Nat) (a b : List UInt8) (w : World) (r : List UInt8 × R5.Ora) (hi : i < 256) (ha : a.length = 32) (hb : b.length = 32) (hll : o.log.length < 1000000) (hu : o.used < 1000000) (hB : B ≤ w.heap.size) (ho : R5.OR B og S w o dv lv lds t) (hr : R5.rNx o (qNode i a b) = r) :
    Calls Tryz.prog 19 #[.pointer (some ⟨og, 0, none⟩), .int .i64 (i : Int), .agg (a.map B8).toArray, .agg (b.map B8).toArray] w fun e w' => R5.QEnd B og S w r dv t e w' := by
  have hAl := R5.rNx_len ho (qNode i a b)
  rw [hr] at hAl
  have hz := fun W => R5.zero_dig W
  obtain ⟨ZL, hZL⟩ : ∃ L, L = (List.replicate 32 (0 : UInt8)).map B8 := ⟨_, rfl⟩
  rw [← hZL] at hz
  have HZS : Hid (ZL.toArray.size = 32) := by show _ = _; rw [hZL]; simp
  have HZ1 : Hid (ZL.toArray.all (·.oneCell') = true) := by show _ = _; rw [hZL]; exact R5.B8_onea _
  clear hZL
  obtain ⟨X0, hE0⟩ : ∃ X, X = (((w.alloc (.cells (a.map B8).toArray 23 (0, 0))).alloc (.cells (b.map B8).toArray 23 (0, 0))).alloc (.cells ZL.toArray 23 (0, 0))).drew := ⟨_, rfl⟩
  have hX0 : Below w.heap.size w X0 := by rw [hE0]; exact ((((Below.refl _ _).alloc (Nat.le_refl _) _).alloc (by simp) _).alloc (by simp; omega) _).drew
  have hR0 : X0.heap[w.heap.size + 1 + 1]? = some (.cells ZL.toArray 23 (0, 0)) := by rw [hE0]; exact MC.heap_at _ _ _ (by simp)
  have hra : X0.heap[w.heap.size]? = some (.cells (a.map B8).toArray 23 (0, 0)) := by rw [hE0]; exact (heap_alloc_old _ _ (by simp; omega)).trans ((heap_alloc_old _ _ (by simp)).trans (heap_alloc_new _ _))
  have hrb : X0.heap[w.heap.size + 1]? = some (.cells (b.map B8).toArray 23 (0, 0)) := by rw [hE0]; exact (heap_alloc_old _ _ (by simp)).trans (MC.heap_at _ _ _ (by simp))
  have HW : Hid (Calls Tryz.prog 45 #[.int .i64 (i : Int)] X0 fun e w' => ∃ v, e = .returned v ∧ FB X0.heap.size w' v (W1.le 8 i) ∧ Below X0.heap.size X0 w') := rword_any i X0 (by omega)
  have HDG : Hid (∀ W v, Below w.heap.size w W → HB W v (W1.le 8 i ++ (a ++ b)) → (∀ k, v.ownBlock = some k → w.heap.size ≤ k) → Calls Tryz.prog 44 #[.pointer (some ⟨og, 0, none⟩), .int .i64 5, v] W fun e w' => R5.QEnd B og S W r dv t e w') := fun W v hW hv hvb => rdigS 5 v _ hll hu (by simp [W1.le_length, ha, hb]) hB ho hW hv (fun _ => hvb) hr
  have HJN : Hid (∀ X p1 n1 c1, HB X (.slice p1 n1 c1) (W1.le 8 i) → HB X (.slice (some ⟨w.heap.size, 0, none⟩) 32 32) a → HB X (.slice (some ⟨w.heap.size + 1, 0, none⟩) 32 32) b → Calls Tryz.prog 47 #[.slice (some ⟨X.heap.size, 0, none⟩) 3 3] (X.alloc (.cells #[.slice p1 n1 c1, .slice (some ⟨w.heap.size, 0, none⟩) 32 32, .slice (some ⟨w.heap.size + 1, 0, none⟩) 32 32] 83 (0, 0))) fun e w' => ∃ v, e = .returned v ∧ FB (X.alloc (.cells #[.slice p1 n1 c1, .slice (some ⟨w.heap.size, 0, none⟩) 32 32, .slice (some ⟨w.heap.size + 1, 0, none⟩) 32 32] 83 (0, 0))).heap.size w' v (W1.le 8 i ++ (a ++ b)) ∧ Below (X.alloc (.cells #[.slice p1 n1 c1, .slice (some ⟨w.heap.size, 0, none⟩) 32 32, .slice (some ⟨w.heap.size + 1, 0, none⟩) 32 32] 83 (0, 0))).heap.size (X.alloc (.cells #[.slice p1 n1 c1, .slice (some ⟨w.heap.size, 0, none⟩) 32 32, .slice (some ⟨w.heap.size + 1, 0, none⟩) 32 32] 83 (0, 0))) w') := fun X p1 n1 c1 h1 h2 h3 => by
    have q := DP.refJoin_any X.heap.size 3 [W1.le 8 i, a, b] _ (by simp) (by simp [W1.le_length, ha, hb]) (hl3 X _ _ _ _ _ _ h1 h2 h3)
    rw [show ([W1.le 8 i, a, b] : List (List UInt8)).flatten = W1.le 8 i ++ (a ++ b) by simp] at q
    exact q
  have HO : Hid (R5.OR B og S w o dv lv lds t) := ho
  have HAS : Hid ((r.1.map B8).toArray.size = 32) := by show _ = _; simpa using hAl
  have HA1 : Hid _ := R5.B8_onea r.1
  have HX0 : Hid (Below w.heap.size w X0) := hX0
  have HR0 : Hid (X0.heap[w.heap.size + 1 + 1]? = some (.cells ZL.toArray 23 (0, 0))) := hR0
  have HHA : Hid (HB X0 (.slice (some ⟨w.heap.size, 0, none⟩) 32 32) a) := MC.hb_range ha.symm (by omega) (by decide) (MC.rangeAt_row hra)
  have HHB : Hid (HB X0 (.slice (some ⟨w.heap.size + 1, 0, none⟩) 32 32) b) := MC.hb_range hb.symm (by omega) (by decide) (MC.rangeAt_row hrb)
  have HE0 : Hid (X0 = (((w.alloc (.cells (a.map B8).toArray 23 (0, 0))).alloc (.cells (b.map B8).toArray 23 (0, 0))).alloc (.cells ZL.toArray 23 (0, 0))).drew) := hE0
  have hsa := fun W => R5.sliceDig W w.heap.size 0
  have hsb := fun W => R5.sliceDig W (w.heap.size + 1) 0
  generalize W1.le 8 i ++ (a ++ b) = JL at *
  generalize hLE : W1.le 8 i = LE at *
  obtain ⟨AL, hAL⟩ : ∃ L, r.1.map B8 = L := ⟨_, rfl⟩
  have HAL : Hid (r.1.map B8 = AL) := hAL
  rw [hAL] at HAS HA1
  clear hAL
  generalize (a.map B8).toArray = AA at *
  generalize (b.map B8).toArray = BB at *
  clear hX0 hR0 hE0 ho hAl hr hra hrb hLE ha hb
  go_enter Tryz.func19, Tryz.ntmps19
  go_wp2_with fail
  refine wp_region_held_drew (S := fun _ => True) (by kernel_rfl) trivial (fun hHeld => ?_)
  rw [← HE0.out]
  refine wpAnyH_take (i := 0) (oi := { dst := some 9, op := Go.Op.move (Go.Operand.tmp 0), type := 33, pos := _, after := #[], guard := none }) (v := .pointer (some ⟨og, 0, none⟩)) rfl (by kernel_rfl) (by kernel_rfl) (by kernel_rfl) (fun _ _ _ h => h) (Or.inl ⟨by rfl, fun w' hw' => ?_⟩) hHeld ?_
  · first | (go_simp; done) | (go_simp; rfl)
  try simp only [Act.put, List.setIfInBounds_toArray, List.set_cons_zero, List.set_cons_succ]
  refine wpAnyH_take (i := 1) (oi := { dst := some 10, op := Go.Op.move (Go.Operand.tmp 1), type := 3, pos := _, after := #[], guard := none }) (v := .int .i64 (i : Int)) rfl (by kernel_rfl) (by kernel_rfl) (by kernel_rfl) (fun _ _ _ h => h) (Or.inl ⟨by rfl, fun w' hw' => ?_⟩) hHeld ?_
  · first | (go_simp; done) | (go_simp; rfl)
  try simp only [Act.put, List.setIfInBounds_toArray, List.set_cons_zero, List.set_cons_succ]
  refine wpAnyH_take (i := 3) (oi := { dst := some 12, op := Go.Op.slice 23 (Go.Operand.tmp 6) none none none, type := 83, pos := _, after := #[], guard := none }) (v := .slice (some ⟨w.heap.size, 0, none⟩) 32 32) rfl (by kernel_rfl) (by kernel_rfl) (by kernel_rfl) (fun _ _ _ h => h) (Or.inl ⟨by rfl, fun w' hw' => ?_⟩) hHeld ?_
  · first | (go_simp; done) | (go_simp; rfl)
  try simp only [Act.put, List.setIfInBounds_toArray, List.set_cons_zero, List.set_cons_succ]
  refine wpAnyH_take (i := 4) (oi := { dst := some 13, op := Go.Op.slice 23 (Go.Operand.tmp 7) none none none, type := 83, pos := _, after := #[], guard := none }) (v := .slice (some ⟨w.heap.size + 1, 0, none⟩) 32 32) rfl (by kernel_rfl) (by kernel_rfl) (by kernel_rfl) (fun _ _ _ h => h) (Or.inl ⟨by rfl, fun w' hw' => ?_⟩) hHeld ?_
  · first | (go_simp; done) | (go_simp; rfl)
  try simp only [Act.put, List.setIfInBounds_toArray, List.set_cons_zero, List.set_cons_succ]
  refine wpAnyH_ready (rs := [2]) (by kernel_rfl) (by simp) ?_
  refine AllReadyH.cons (o := { dst := some 11, op := Go.Op.call { callee := Go.Callee.value (Go.Operand.func 45), args := #[Go.Operand.tmp 10], argTypes := #[3] }, type := 83, pos := _, after := #[{ on := 1, ground := Go.Ground.data }], guard := none }) rfl (fun K hK => ?_) AllReadyH.nil
  rw [if_pos (by rfl)]
  go_wp2_with fail
  refine Calls.mono HW.out ?_
  rintro e X1 ⟨v1, rfl, hf1, hb1⟩
  obtain ⟨p1, c1, hv1⟩ := DP.fb_form hf1
  subst hv1
  have HBX : Hid (Below w.heap.size w X1) := HX0.out.trans (hb1.mono HX0.out.size)
  have HRX : Hid (X1.heap[w.heap.size + 1 + 1]? = some (.cells ZL.toArray 23 (0, 0))) := (hb1.block _ (MC.row_lt HR0.out)).trans HR0.out
  have HJ : Hid _ := HJN.out X1 p1 LE.length c1 hf1.hb (HHA.out.below hb1) (HHB.out.below hb1)
  clear hf1 hb1 HW HJN HHA HHB HX0 HR0
  refine hK.out _ _ trivial (fun _ => ?_)
  clear hK K
  try simp only [Act.put, List.setIfInBounds_toArray, List.set_cons_zero, List.set_cons_succ]
  refine wpAnyH_ready (rs := [5]) (by kernel_rfl) (by simp) ?_
  refine AllReadyH.cons (o := { dst := some 14, op := Go.Op.buildSlice 87 3 #[(0, Go.Operand.tmp 11), (1, Go.Operand.tmp 12), (2, Go.Operand.tmp 13)], type := 87, pos := _, after := #[{ on := 2, ground := Go.Ground.data }, { on := 3, ground := Go.Ground.data }, { on := 4, ground := Go.Ground.data }], guard := none }) rfl (fun K hK => ?_) AllReadyH.nil
  rw [if_pos (by rfl)]
  go_wp2_with fail
  refine hK.out _ _ trivial (fun _ => ?_)
  clear hK K
  try simp only [Act.put, List.setIfInBounds_toArray, List.set_cons_zero, List.set_cons_succ]
  refine wpAnyH_ready (rs := [6]) (by kernel_rfl) (by simp) ?_
  refine AllReadyH.cons (o := { dst := some 15, op := Go.Op.call { callee := Go.Callee.value (Go.Operand.func 47), args := #[Go.Operand.tmp 14], argTypes := #[87] }, type := 83, pos := _, after := #[{ on := 5, ground := Go.Ground.data }, { on := 2, ground := Go.Ground.chain }], guard := none }) rfl (fun K hK => ?_) AllReadyH.nil
  rw [if_pos (by rfl)]
  go_wp2_with fail
  refine Calls.mono HJ.out ?_
  rintro e X2 ⟨v2, rfl, hf2, hb2⟩
  have hba : Below X1.heap.size X1 (X1.alloc (.cells #[.slice p1 LE.length c1, .slice (some ⟨w.heap.size, 0, none⟩) 32 32, .slice (some ⟨w.heap.size + 1, 0, none⟩) 32 32] 83 (0, 0))) := (Below.refl _ _).alloc (Nat.le_refl _) _
  have hb12 : Below X1.heap.size X1 X2 := hba.trans (hb2.mono hba.size)
  have HBY : Hid (Below w.heap.size w X2) := HBX.out.trans (hb12.mono HBX.out.size)
  have HRY : Hid (X2.heap[w.heap.size + 1 + 1]? = some (.cells ZL.toArray 23 (0, 0))) := (hb12.block _ (MC.row_lt HRX.out)).trans HRX.out
  have hsz := HBX.out.size
  have hsa2 := hba.size
  have HC : Hid (Calls Tryz.prog 44 #[.pointer (some ⟨og, 0, none⟩), .int .i64 5, v2] X2 fun e w' => R5.QEnd B og S X2 r dv t e w') := HDG.out X2 v2 HBY.out hf2.hb (fun k hk => by have := (DP.fb_ge hf2 k hk).1; omega)
  clear hf2 hb2 hba hb12 hsz hsa2 HDG HBX HRX HJ
  refine hK.out _ _ trivial (fun _ => ?_)
  clear hK K
  try simp only [Act.put, List.setIfInBounds_toArray, List.set_cons_zero, List.set_cons_succ]
  refine wpAnyH_ready (rs := [7]) (by kernel_rfl) (by simp) ?_
  refine AllReadyH.cons (o := { dst := some 16, op := Go.Op.call { callee := Go.Callee.value (Go.Operand.func 44), args := #[Go.Operand.tmp 9, Go.Operand.const (Go.Value.int Go.IntKind.i64 5), Go.Operand.tmp 15], argTypes := #[33, 82, 83] }, type := 23, pos := _, after := #[{ on := 0, ground := Go.Ground.data }, { on := 6, ground := Go.Ground.data }, { on := 6, ground := Go.Ground.chain }], guard := none }) rfl (fun K hK => ?_) AllReadyH.nil
  rw [if_pos (by rfl)]
  go_wp2_with fail
  refine Calls.mono HC.out ?_
  rintro e w3 ⟨he, hfr, hor⟩
  rw [HAL.out] at he
  subst he
  have hl1 := MC.row_lt HRY.out
  have HR3 : Hid (w3.heap[w.heap.size + 1 + 1]? = some (.cells ZL.toArray 23 (0, 0))) := (hfr.block _ hl1 (fun h => by have := HO.out.top _ h; omega)).trans HRY.out
  have HEND : Hid (R5.QEnd B og S w r dv t (.returned (.agg AL.toArray)) (w3.setRow (w.heap.size + 1 + 1) AL.toArray)) := ⟨by rw [HAL.out], R5.rfin HO.out hB HBY.out hfr hor ((R5.Fr.refl _ _).setRow _ _ (.inl ⟨by omega, hl1⟩))⟩
  clear hfr hor hl1 HC
  refine hK.out _ _ trivial (fun _ => ?_)
  clear hK K
  try simp only [Act.put, List.setIfInBounds_toArray, List.set_cons_zero, List.set_cons_succ]
  refine wpAnyH_ready (rs := [8]) (by kernel_rfl) (by simp) ?_
  refine AllReadyH.cons (o := { dst := none, op := Go.Op.store 23 (Go.Operand.tmp 8) (Go.Operand.tmp 16), type := 0, pos := _, after := #[{ on := 7, ground := Go.Ground.data }, { on := 7, ground := Go.Ground.chain }, { on := 0, ground := Go.Ground.phase }, { on := 1, ground := Go.Ground.phase }, { on := 2, ground := Go.Ground.phase }, { on := 3, ground := Go.Ground.phase }, { on := 4, ground := Go.Ground.phase }, { on := 5, ground := Go.Ground.phase }, { on := 6, ground := Go.Ground.phase }, { on := 7, ground := Go.Ground.phase }], guard := none }) rfl (fun K hK => ?_) AllReadyH.nil
  rw [if_pos (by rfl)]
  refine wp_store_row 23 _ _ rfl (w.heap.size + 1 + 1) AL.toArray rfl rfl 23 ZL.toArray HR3.out (R5.info32a _ HAS.out) (HZS.out.trans HAS.out.symm) HA1.out ?_
  refine hK.out _ _ trivial (fun _ => ?_)
  clear hK K
  try simp only [Act.put, List.setIfInBounds_toArray, List.set_cons_zero, List.set_cons_succ]
  refine wpAnyH_done (by kernel_rfl) ?_ _
  go_wp2
  refine bodyPost_ret (v := .agg AL.toArray) ?_ rfl HEND.out
  exact results_cell_row Tryz.results19 _ _ (w.heap.size + 1 + 1) 23 _ (0, 0) _ rfl (setRow_heap _ _ _ _ _ _ HR3.out) Tryz.underlying23 rfl (R5.info32a _ HAS.out)
end
section
variable {w X Y : World} {og mb rg : Nat} {i : Bool} {m : List UInt8} {D : List (List UInt8)} {L R : Lg} {rows : Rws}
theorem TB.rnone (h : TB w og mb rg i m D L R rows X) (hll : R.length < 1000000) (p : Nat) (hp : p < 128) : Calls Tryz.prog 13 #[.pointer (some ⟨rg, 0, none⟩), .int .i64 (p : Int)] X fun e Y => e = .returned (.agg ((nx2 i D R (qNone p)).1.map B8).toArray) ∧ TB w og mb rg i m D L (nx2 i D R (qNone p)).2 rows Y :=
  h.rask fun T dr lv lds h1 => rnone_any p X _ hp hll (Nat.lt_of_le_of_lt (rrG_used i m D R) hll) h.bel.size h1 (rNx_nx2 i m D R _)
theorem TB.rnode (h : TB w og mb rg i m D L R rows X) (hll : R.length < 1000000) (k : Nat) (a b : List UInt8) (hk : k < 256) (ha : a.length = 32) (hb : b.length = 32) : Calls Tryz.prog 19 #[.pointer (some ⟨rg, 0, none⟩), .int .i64 (k : Int), .agg (a.map B8).toArray, .agg (b.map B8).toArray] X fun e Y => e = .returned (.agg ((nx2 i D R (qNode k a b)).1.map B8).toArray) ∧ TB w og mb rg i m D L (nx2 i D R (qNode k a b)).2 rows Y :=
  h.rask fun T dr lv lds h1 => rnode_any k a b X _ hk ha hb hll (Nat.lt_of_le_of_lt (rrG_used i m D R) hll) h.bel.size h1 (rNx_nx2 i m D R _)
end
end Go.Proofs.YtnijjoankahddaaGreat.DC
