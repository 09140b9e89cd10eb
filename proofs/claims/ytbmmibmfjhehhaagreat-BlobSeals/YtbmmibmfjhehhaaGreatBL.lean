/- blob: Leaf and None, in either mode. -/
import Derived.Test.YtbmmibmfjhehhaaGreatBD
set_option linter.unusedVariables false
set_option linter.unusedSimpArgs false
namespace Go.Proofs.YtbmmibmfjhehhaaGreat.BC
open Go.RowKit

def qLeaf (p c : Nat) (g : List UInt8) : R5.Qn := ⟨1, Z0, 4, W1.le 8 p ++ (W1.le 8 c ++ g)⟩
def qNone (p : Nat) : R5.Qn := ⟨1, Z0, 6, W1.le 8 p⟩
theorem hp_three {X : World} {u v z : Value} {a b c : List UInt8} (hu : HB X u a) (hv : HB X v b) (hz : HB X z c) : R5.HP (X.alloc (.cells #[u, v, z] 64 (0, 0))) (.slice (some ⟨X.heap.size, 0, none⟩) 3 3) [a, b, c] := by
  have hb : Below X.heap.size X (X.alloc (.cells #[u, v, z] 64 (0, 0))) := (Below.refl _ _).alloc (Nat.le_refl _) _
  refine ⟨_, 3, rfl, fun i hi => ?_⟩
  have hi2 : i = 0 ∨ i = 1 ∨ i = 2 := by simp at hi; omega
  rcases hi2 with rfl | rfl | rfl
  · exact ⟨X.heap.size, u, rfl, by rw [cell_of_row _ _ 0 _ _ _ (heap_alloc_new _ _)]; rfl, hu.below hb⟩
  · exact ⟨X.heap.size, v, rfl, by rw [cell_of_row _ _ 1 _ _ _ (heap_alloc_new _ _)]; rfl, hv.below hb⟩
  · exact ⟨X.heap.size, z, rfl, by rw [cell_of_row _ _ 2 _ _ _ (heap_alloc_new _ _)]; rfl, hz.below hb⟩
theorem hp_one {X : World} {u : Value} {a : List UInt8} (hu : HB X u a) : R5.HP (X.alloc (.cells #[u] 64 (0, 0))) (.slice (some ⟨X.heap.size, 0, none⟩) 1 1) [a] := by
  have hb : Below X.heap.size X (X.alloc (.cells #[u] 64 (0, 0))) := (Below.refl _ _).alloc (Nat.le_refl _) _
  refine ⟨_, 1, rfl, fun i hi => ?_⟩
  have hi2 : i = 0 := by simp at hi; omega
  subst hi2
  exact ⟨X.heap.size, u, rfl, by rw [cell_of_row _ _ 0 _ _ _ (heap_alloc_new _ _)]; rfl, hu.below hb⟩
theorem bs_three (w : World) (p1 p2 p3 : Option Addr) (n1 n2 n3 c1 c2 c3 : Nat) : (Instr.buildSlice 93 3 #[(0, .slice p1 n1 c1), (1, .slice p2 n2 c2), (2, .slice p3 n3 c3)]).run Tryz.prog w = .ok (.slice (some ⟨w.heap.size, 0, none⟩) 3 3) (w.alloc (.cells #[.slice p1 n1 c1, .slice p2 n2 c2, .slice p3 n3 c3] 64 (0, 0))) := by kernel_rfl
theorem sliceGr (w : World) (b : Nat) : (Instr.sliceAt 29 (.pointer (some ⟨b, 0, none⟩)) none none none).run Tryz.prog w = .ok (.slice (some ⟨b, 0, none⟩) 128 128) w := by kernel_rfl
theorem hb_rows {w : World} {b : Nat} {t : TypeId} (l : List UInt8) (h : w.heap[b]? = some (.cells (l.map B8).toArray t (0, 0))) (hl : l.length = 128) : HB w (.slice (some ⟨b, 0, none⟩) 128 128) l := by
  refine .inr ⟨b, 0, 128, by rw [hl], by omega, by decide, fun i hi => ?_⟩
  rw [Nat.zero_add, cell_of_row _ _ i _ _ _ h]
  simp [B8, List.getD, List.getElem?_eq_getElem hi]
set_option maxHeartbeats 4000000 in
set_option maxRecDepth 100000 in
theorem leaf1_any (B og mb : Nat) (S : Nat → Prop) (p1 p2 : Option Addr) (c1 c2 b1 b2 : Nat) (lp lc g : List UInt8) (r : List UInt8 × R5.Pra) (dv ov : Value) (o : R5.Pra) (w : World) (hg : g.length = 128) (hl1 : lp.length = 8) (hl2 : lc.length = 8) (hB : B ≤ w.heap.size) (hll : o.log.length < 1000000) (ho : R5.PO B og mb S w o dv ov)
    (hro : w.cell? ⟨b1, 0, none⟩ = some (.pointer (some ⟨og, 0, none⟩))) (hs1 : ¬ S b1) (hrg : w.heap[b2]? = some (.cells (g.map B8).toArray 29 (0, 0))) (hv1 : HB w (.slice p1 8 c1) lp) (hv2 : HB w (.slice p2 8 c2) lc) (hr : nxP o ⟨1, Z0, 4, lp ++ (lc ++ g)⟩ = r) :
    Calls Tryz.prog 29 #[.slice p1 8 c1, .slice p2 8 c2, .pointer (some ⟨b1, 0, none⟩), .pointer (some ⟨b2, 0, none⟩)] w fun e w' => PR B og mb S w r.2 dv (R5.okV r.1) e w' := by
  have hAl := nxP_len ho ⟨1, Z0, 4, lp ++ (lc ++ g)⟩
  rw [hr] at hAl
  have hz := fun W => R5.zero_dig W
  obtain ⟨ZL, hZL⟩ : ∃ L, L = (List.replicate 32 (0 : UInt8)).map B8 := ⟨_, rfl⟩
  rw [← hZL] at hz
  have HZS : Hid (ZL.toArray.size = 32) := by show _ = _; rw [hZL]; simp
  have HZ1 : Hid (ZL.toArray.all (·.oneCell') = true) := by show _ = _; rw [hZL]; exact R5.B8_onea _
  have HAS : Hid ((r.1.map B8).toArray.size = 32) := by show _ = _; simpa using hAl
  have HA1 : Hid _ := R5.B8_onea r.1
  have HOK : Hid (R5.okV r.1 = .tuple #[.agg (r.1.map B8).toArray, .int .i64 0]) := rfl
  have HO : Hid (R5.PO B og mb S w o dv ov) := ho
  have HS1 : Hid (¬ S b1) := hs1
  have HL1 : Hid (b1 < w.heap.size) := block_lt hro
  have HDG : Hid (∀ W v, Below w.heap.size w W → R5.HP W v [lp, lc, g] → Calls Tryz.prog 30 #[.pointer (some ⟨og, 0, none⟩), .int .i64 4, v] W fun e w' => R5.PAsk B og mb S W r dv e w') := fun W v hW hv => by
    have q := pdigG v 4 [lp, lc, g] (Nat.le_trans hB hW.size) hll (ho.below hW) hv (by simp) (by simp; omega) (by decide)
    rw [show ([lp, lc, g] : List (List UInt8)).flatten = lp ++ (lc ++ g) by simp, hr] at q
    exact q
  have HRO : Hid (∀ X, Below w.heap.size w X → X.cell? ⟨b1, 0, none⟩ = some (.pointer (some ⟨og, 0, none⟩))) := fun X hX => (hX.cell (block_lt hro)).trans hro
  have HVP : Hid (∀ X, Below w.heap.size w X → R5.HP (X.alloc (.cells #[.slice p1 8 c1, .slice p2 8 c2, .slice (some ⟨b2, 0, none⟩) 128 128] 64 (0, 0))) (.slice (some ⟨X.heap.size, 0, none⟩) 3 3) [lp, lc, g]) := fun X hX => hp_three (hv1.below hX) (hv2.below hX) (hb_rows g ((hX.block _ (R5.row_lt hrg)).trans hrg) hg)
  have hsl := fun W => sliceGr W b2
  have HT0 : Hid _ := (RS.start w).alloc w.heap.size rfl 23 ZL
  rw [HOK.out]
  clear hZL hro hs1 hrg hv1 hv2 hr ho hg hl1 hl2 hAl hll
  generalize hAA : (r.1.map B8) = AL at *
  have HAE : Hid (r.1.map B8 = AL) := hAA
  clear hAA
  go_enter Tryz.func29, Tryz.ntmps29
  go_upto_region 1 with fail
  generalize World.alloc _ _ = X0 at *
  have hHs : X0.drew.cell? ⟨b1, 0, none⟩ = some (.pointer (some ⟨og, 0, none⟩)) := HRO.out _ HT0.out.bel.drew
  refine wp_region_held_drew (S := fun X => X.cell? ⟨b1, 0, none⟩ = some (.pointer (some ⟨og, 0, none⟩))) (by kernel_rfl) hHs (fun hHeld => ?_)
  clear hHs
  have HT1 : Hid _ := HT0.out.step (Below.refl _ _).drew
  clear HT0
  generalize World.drew _ = Y0 at *
  refine wpAnyH_take (i := 0) (oi := { dst := some 8, op := Go.Op.load 31 (Go.Operand.tmp 2), type := 31, pos := _, after := #[], guard := none }) (v := .pointer (some ⟨og, 0, none⟩)) rfl (by kernel_rfl) (by kernel_rfl) (by kernel_rfl) (fun _ _ _ h => h) (Or.inl ⟨by rfl, fun w' hw' => ?_⟩) hHeld ?_
  · have hcc := hw'; first | (go_simp; done) | (go_simp; rfl)
  try simp only [Act.put, List.setIfInBounds_toArray, List.set_cons_zero, List.set_cons_succ]
  refine wpAnyH_take (i := 1) (oi := { dst := some 9, op := Go.Op.move (Go.Operand.tmp 0), type := 64, pos := _, after := #[], guard := none }) (v := .slice p1 8 c1) rfl (by kernel_rfl) (by kernel_rfl) (by kernel_rfl) (fun _ _ _ h => h) (Or.inl ⟨by rfl, fun w' hw' => ?_⟩) hHeld ?_
  · first | (go_simp; done) | (go_simp; rfl)
  try simp only [Act.put, List.setIfInBounds_toArray, List.set_cons_zero, List.set_cons_succ]
  refine wpAnyH_take (i := 2) (oi := { dst := some 10, op := Go.Op.move (Go.Operand.tmp 1), type := 64, pos := _, after := #[], guard := none }) (v := .slice p2 8 c2) rfl (by kernel_rfl) (by kernel_rfl) (by kernel_rfl) (fun _ _ _ h => h) (Or.inl ⟨by rfl, fun w' hw' => ?_⟩) hHeld ?_
  · first | (go_simp; done) | (go_simp; rfl)
  try simp only [Act.put, List.setIfInBounds_toArray, List.set_cons_zero, List.set_cons_succ]
  refine wpAnyH_take (i := 3) (oi := { dst := some 11, op := Go.Op.slice 29 (Go.Operand.tmp 3) none none none, type := 64, pos := _, after := #[], guard := none }) (v := .slice (some ⟨b2, 0, none⟩) 128 128) rfl (by kernel_rfl) (by kernel_rfl) (by kernel_rfl) (fun _ _ _ h => h) (Or.inl ⟨by rfl, fun w' hw' => ?_⟩) hHeld ?_
  · first | (go_simp; done) | (go_simp; rfl)
  try simp only [Act.put, List.setIfInBounds_toArray, List.set_cons_zero, List.set_cons_succ]
  refine wpAnyH_ready (rs := [4]) (by kernel_rfl) (by simp) ?_
  refine AllReadyH.cons (o := { dst := some 12, op := Go.Op.buildSlice 93 3 #[(0, Go.Operand.tmp 9), (1, Go.Operand.tmp 10), (2, Go.Operand.tmp 11)], type := 93, pos := _, after := #[{ on := 1, ground := Go.Ground.data }, { on := 2, ground := Go.Ground.data }, { on := 3, ground := Go.Ground.data }], guard := none }) rfl (fun K hK => ?_) AllReadyH.nil
  rw [if_pos (by rfl)]
  refine R5.wp_bslice 93 3 _ rfl _ _ (by simp; first | done | rfl | exact ⟨rfl, rfl, rfl⟩) (bs_three Y0 _ _ _ _ _ _ _ _ _) ?_
  have hp := HVP.out Y0 HT1.out.bel
  have h3 : Below Y0.heap.size Y0 (Y0.alloc (.cells #[.slice p1 8 c1, .slice p2 8 c2, .slice (some ⟨b2, 0, none⟩) 128 128] 64 (0, 0))) := (Below.refl _ _).alloc (Nat.le_refl _) _
  have HT2 : Hid _ := HT1.out.step h3
  clear h3 HT1 HVP
  generalize Y0.alloc (.cells #[.slice p1 8 c1, .slice p2 8 c2, .slice (some ⟨b2, 0, none⟩) 128 128] 64 (0, 0)) = Y1 at *
  generalize Y0.heap.size = n3 at *
  have hH1 := HRO.out Y1 HT2.out.bel
  refine hK.out _ _ hH1 (fun _ => ?_)
  clear hK K
  try simp only [Act.put, List.setIfInBounds_toArray, List.set_cons_zero, List.set_cons_succ]
  clear hHeld
  have hHeld := hH1
  clear hH1
  refine wpAnyH_ready (rs := [5]) (by kernel_rfl) (by simp) ?_
  refine AllReadyH.cons (o := { dst := some 13, op := Go.Op.call { callee := Go.Callee.value (Go.Operand.func 30), args := #[Go.Operand.tmp 8, Go.Operand.const (Go.Value.int Go.IntKind.i64 4), Go.Operand.tmp 12], argTypes := #[31, 61, 93] }, type := 47, pos := _, after := #[{ on := 0, ground := Go.Ground.data }, { on := 4, ground := Go.Ground.data }], guard := none }) rfl (fun K hK => ?_) AllReadyH.nil
  rw [if_pos (by rfl)]
  go_wp2_with fail
  refine Calls.mono (HDG.out Y1 _ HT2.out.bel hp) ?_
  rintro e Y2 ⟨he, hfr, hpo⟩
  rw [show R5.okV r.1 = .tuple #[.agg AL.toArray, .int .i64 0] by rw [← HAE.out]; rfl] at he
  subst he
  have hs1 := HT2.out.bel.size
  have hH1 : Y2.cell? ⟨b1, 0, none⟩ = some (.pointer (some ⟨og, 0, none⟩)) := (World.cell?_of_block (a := ⟨b1, 0, none⟩) (hfr.block b1 (by have := HL1.out; omega) HS1.out)).trans hHeld
  have hrow : Y2.heap[w.heap.size]? = some (.cells ZL.toArray 23 (0, 0)) := (hfr.block _ (R5.row_lt (HT2.out.at 0 rfl)) (fun h => by have := HO.out.top _ h; omega)).trans (HT2.out.at 0 rfl)
  have HEND : Hid (PR B og mb S w r.2 dv (.tuple #[.agg AL.toArray, .int .i64 0]) (.returned (.tuple #[.agg AL.toArray, .int .i64 0])) (Y2.setRow w.heap.size AL.toArray)) := ⟨rfl, pfin HO.out hB HT2.out.bel hfr hpo ((R5.Fr.refl _ _).setRow _ _ (.inl ⟨Nat.le_refl _, R5.row_lt (HT2.out.at 0 rfl)⟩))⟩
  refine hK.out _ _ hH1 (fun _ => ?_)
  clear hK K
  try simp only [Act.put, List.setIfInBounds_toArray, List.set_cons_zero, List.set_cons_succ]
  clear hHeld
  have hHeld := hH1
  clear hH1 hfr hpo
  refine wpAnyH_take (i := 6) (oi := { dst := some 14, op := Go.Op.extract (Go.Operand.tmp 13) 0, type := 23, pos := _, after := #[{ on := 5, ground := Go.Ground.data }], guard := none }) (v := .agg AL.toArray) rfl (by kernel_rfl) (by kernel_rfl) (by kernel_rfl) (fun _ _ _ h => h) (Or.inl ⟨by rfl, fun w' hw' => ?_⟩) hHeld ?_
  · first | (go_simp; done) | (go_simp; rfl)
  try simp only [Act.put, List.setIfInBounds_toArray, List.set_cons_zero, List.set_cons_succ]
  refine wpAnyH_take (i := 7) (oi := { dst := some 15, op := Go.Op.extract (Go.Operand.tmp 13) 1, type := 35, pos := _, after := #[{ on := 5, ground := Go.Ground.data }], guard := none }) (v := .int .i64 0) rfl (by kernel_rfl) (by kernel_rfl) (by kernel_rfl) (fun _ _ _ h => h) (Or.inl ⟨by rfl, fun w' hw' => ?_⟩) hHeld ?_
  · first | (go_simp; done) | (go_simp; rfl)
  try simp only [Act.put, List.setIfInBounds_toArray, List.set_cons_zero, List.set_cons_succ]
  refine wpAnyH_ready (rs := [8]) (by kernel_rfl) (by simp) ?_
  refine AllReadyH.cons (o := { dst := none, op := Go.Op.store 23 (Go.Operand.tmp 6) (Go.Operand.tmp 14), type := 0, pos := _, after := #[{ on := 6, ground := Go.Ground.data }, { on := 5, ground := Go.Ground.chain }, { on := 0, ground := Go.Ground.phase }, { on := 1, ground := Go.Ground.phase }, { on := 2, ground := Go.Ground.phase }, { on := 3, ground := Go.Ground.phase }, { on := 4, ground := Go.Ground.phase }, { on := 5, ground := Go.Ground.phase }, { on := 6, ground := Go.Ground.phase }, { on := 7, ground := Go.Ground.phase }], guard := none }) rfl (fun K hK => ?_) AllReadyH.nil
  rw [if_pos (by rfl)]
  refine wp_store_row 23 _ _ rfl w.heap.size AL.toArray rfl rfl 23 ZL.toArray hrow (R5.info32a _ HAS.out) (HZS.out.trans HAS.out.symm) HA1.out ?_
  have hH1 : (Y2.setRow w.heap.size AL.toArray).cell? ⟨b1, 0, none⟩ = some (.pointer (some ⟨og, 0, none⟩)) := (World.cell?_of_block (a := ⟨b1, 0, none⟩) (setRow_other _ _ _ _ (by show b1 ≠ _; have := HL1.out; omega))).trans hHeld
  have HRW : Hid ((Y2.setRow w.heap.size AL.toArray).heap[w.heap.size]? = some (.cells AL.toArray 23 (0, 0))) := setRow_heap _ _ _ _ _ _ hrow
  refine hK.out _ _ hH1 (fun _ => ?_)
  clear hK K
  try simp only [Act.put, List.setIfInBounds_toArray, List.set_cons_zero, List.set_cons_succ]
  clear hHeld
  have hHeld := hH1
  clear hH1 hrow
  refine wpAnyH_take (i := 9) (oi := { dst := some 7, op := Go.Op.assign (Go.Operand.tmp 15), type := 35, pos := _, after := #[{ on := 7, ground := Go.Ground.data }, { on := 8, ground := Go.Ground.chain }, { on := 0, ground := Go.Ground.phase }, { on := 1, ground := Go.Ground.phase }, { on := 2, ground := Go.Ground.phase }, { on := 3, ground := Go.Ground.phase }, { on := 4, ground := Go.Ground.phase }, { on := 5, ground := Go.Ground.phase }, { on := 6, ground := Go.Ground.phase }, { on := 7, ground := Go.Ground.phase }, { on := 8, ground := Go.Ground.phase }], guard := none }) (v := .int .i64 0) rfl (by kernel_rfl) (by kernel_rfl) (by kernel_rfl) (fun _ _ _ h => h) (Or.inl ⟨by rfl, fun w' hw' => ?_⟩) hHeld ?_
  · first | (go_simp; done) | (go_simp; rfl)
  try simp only [Act.put, List.setIfInBounds_toArray, List.set_cons_zero, List.set_cons_succ]
  refine wpAnyH_done (by kernel_rfl) ?_ _
  clear hHeld
  go_wp2_with fail
  refine bodyPost_ret (v := .tuple #[.agg AL.toArray, .int .i64 0]) ?_ rfl HEND.out
  exact R5.results_dig2 Tryz.results29 _ _ w.heap.size 23 _ (0, 0) _ rfl rfl HRW.out (R5.info32a _ HAS.out)
set_option maxHeartbeats 4000000 in
set_option maxRecDepth 100000 in
theorem none1_any (B og mb : Nat) (S : Nat → Prop) (p1 : Option Addr) (v2 : Value) (c1 b1 : Nat) (lp : List UInt8) (r : List UInt8 × R5.Pra) (dv ov : Value) (o : R5.Pra) (w : World) (hl1 : lp.length = 8) (hB : B ≤ w.heap.size) (hll : o.log.length < 1000000) (ho : R5.PO B og mb S w o dv ov)
    (hro : w.cell? ⟨b1, 0, none⟩ = some (.pointer (some ⟨og, 0, none⟩))) (hv1 : HB w (.slice p1 8 c1) lp) (hr : nxP o ⟨1, Z0, 6, lp⟩ = r) :
    Calls Tryz.prog 32 #[.slice p1 8 c1, v2, .pointer (some ⟨b1, 0, none⟩)] w fun e w' => PR B og mb S w r.2 dv (R5.okV r.1) e w' := by
  have hAl := nxP_len ho ⟨1, Z0, 6, lp⟩
  rw [hr] at hAl
  have hz := fun W => R5.zero_dig W
  obtain ⟨ZL, hZL⟩ : ∃ L, L = (List.replicate 32 (0 : UInt8)).map B8 := ⟨_, rfl⟩
  rw [← hZL] at hz
  have HZS : Hid (ZL.toArray.size = 32) := by show _ = _; rw [hZL]; simp
  have HZ1 : Hid (ZL.toArray.all (·.oneCell') = true) := by show _ = _; rw [hZL]; exact R5.B8_onea _
  have HAS : Hid ((r.1.map B8).toArray.size = 32) := by show _ = _; simpa using hAl
  have HA1 : Hid _ := R5.B8_onea r.1
  have HOK : Hid (R5.okV r.1 = .tuple #[.agg (r.1.map B8).toArray, .int .i64 0]) := rfl
  have HO : Hid (R5.PO B og mb S w o dv ov) := ho
  have HDG : Hid (∀ W v, Below w.heap.size w W → R5.HP W v [lp] → Calls Tryz.prog 30 #[.pointer (some ⟨og, 0, none⟩), .int .i64 6, v] W fun e w' => R5.PAsk B og mb S W r dv e w') := fun W v hW hv => by
    have q := pdigG v 6 [lp] (Nat.le_trans hB hW.size) hll (ho.below hW) hv (by simp) (by simp; omega) (by decide)
    rw [show ([lp] : List (List UInt8)).flatten = lp by simp, hr] at q
    exact q
  have HT0 : Hid _ := (RS.start w).alloc w.heap.size rfl 23 ZL
  have HVP : Hid (∀ X, Below w.heap.size w X → R5.HP (X.alloc (.cells #[.slice p1 8 c1] 64 (0, 0))) (.slice (some ⟨X.heap.size, 0, none⟩) 1 1) [lp]) := fun X hX => hp_one (hv1.below hX)
  have hcz : ∀ X, Below w.heap.size w X → X.cell? ⟨b1, 0, none⟩ = some (.pointer (some ⟨og, 0, none⟩)) := fun X hX => (hX.cell (block_lt hro)).trans hro
  have hbs := fun W => R5.bs_part W p1 8 c1
  rw [HOK.out]
  clear hZL hro hv1 hr ho hl1 hAl hll
  generalize hAA : (r.1.map B8) = AL at *
  have HAE : Hid (r.1.map B8 = AL) := hAA
  clear hAA
  go_enter Tryz.func32, Tryz.ntmps32
  go_upto_region 1 with fail
  generalize World.alloc _ _ = X0 at *
  have hc0 := hcz X0 HT0.out.bel
  clear hcz
  go_wp2_with fail
  have hp := HVP.out X0 HT0.out.bel
  have h3 : Below X0.heap.size X0 (X0.alloc (.cells #[.slice p1 8 c1] 64 (0, 0))) := (Below.refl _ _).alloc (Nat.le_refl _) _
  have HT2 : Hid _ := HT0.out.step h3
  refine Calls.mono (HDG.out _ _ HT2.out.bel hp) ?_
  rintro e Y2 ⟨he, hfr, hpo⟩
  rw [show R5.okV r.1 = .tuple #[.agg AL.toArray, .int .i64 0] by rw [← HAE.out]; rfl] at he
  subst he
  have hs1 := HT2.out.bel.size
  have hrow : Y2.heap[w.heap.size]? = some (.cells ZL.toArray 23 (0, 0)) := (hfr.block _ (R5.row_lt (HT2.out.at 0 rfl)) (fun h => by have := HO.out.top _ h; omega)).trans (HT2.out.at 0 rfl)
  have HEND : Hid (PR B og mb S w r.2 dv (.tuple #[.agg AL.toArray, .int .i64 0]) (.returned (.tuple #[.agg AL.toArray, .int .i64 0])) (Y2.setRow w.heap.size AL.toArray)) := ⟨rfl, pfin HO.out hB HT2.out.bel hfr hpo ((R5.Fr.refl _ _).setRow _ _ (.inl ⟨Nat.le_refl _, R5.row_lt (HT2.out.at 0 rfl)⟩))⟩
  have HRZ : Hid _ := hrow
  clear hrow hfr hpo hp h3 HT0 HT2 hc0 hs1
  go_wp2_with (refine wpList_store_row rfl 23 _ _ rfl w.heap.size AL.toArray rfl rfl 23 ZL.toArray HRZ.out (R5.info32a _ HAS.out) (HZS.out.trans HAS.out.symm) HA1.out ?_)
  refine bodyPost_ret (v := .tuple #[.agg AL.toArray, .int .i64 0]) ?_ rfl HEND.out
  exact R5.results_dig2 Tryz.results32 _ _ w.heap.size 23 _ (0, 0) _ rfl rfl (setRow_heap _ _ _ _ _ _ HRZ.out) (R5.info32a _ HAS.out)
end Go.Proofs.YtbmmibmfjhehhaaGreat.BC
