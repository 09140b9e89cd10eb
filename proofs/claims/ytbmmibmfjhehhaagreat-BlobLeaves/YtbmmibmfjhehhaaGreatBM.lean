/- blob: Leaf and None of the program, refused and answered. -/
import Derived.Test.YtbmmibmfjhehhaaGreatBD
set_option linter.unusedVariables false
set_option linter.unusedSimpArgs false
namespace Go.Proofs.YtbmmibmfjhehhaaGreat.BC
open Go.RowKit

def qLeaf (p c : Nat) (g : List UInt8) : R5.Qn := ⟨1, Z0, 4, W1.le 8 p ++ (W1.le 8 c ++ g)⟩
def qNone (p : Nat) : R5.Qn := ⟨1, Z0, 6, W1.le 8 p⟩
theorem hp_three {X : World} {u v z : Value} {a b c : List UInt8} (hu : HB X u a) (hv : HB X v b) (hz : HB X z c) : R5.HP (X.alloc (.cells #[u, v, z] 64 (0, 0))) (.slice (some ⟨X.heap.size, 0, none⟩) 3 3) [a, b, c] := by
  have hb : Below X.heap.size X (X.alloc (.cells #[u, v, z] 64 (0, 0))) := (Below.refl _ _).alloc (Nat.le_refl _) _
  refine ⟨_, 3, rfl, fun i hi => ?_⟩
  have hi2 : i = 0 ∨ i = 1 ∨ i = 2 := by simp at hi; omega
  rcases hi2 with rfl | rfl | rfl
  · exact ⟨X.heap.size, u, rfl, by rw [cell_of_row _ _ 0 _ _ _ (heap_alloc_new _ _)]; rfl, hu.below hb⟩
  · exact ⟨X.heap.size, v, rfl, by rw [cell_of_row _ _ 1 _ _ _ (heap_alloc_new _ _)]; rfl, hv.below hb⟩
  · exact ⟨X.heap.size, z, rfl, by rw [cell_of_row _ _ 2 _ _ _ (heap_alloc_new _ _)]; rfl, hz.below hb⟩
theorem hp_one {X : World} {u : Value} {a : List UInt8} (hu : HB X u a) : R5.HP (X.alloc (.cells #[u] 64 (0, 0))) (.slice (some ⟨X.heap.size, 0, none⟩) 1 1) [a] := by
  have hb : Below X.heap.size X (X.alloc (.cells #[u] 64 (0, 0))) := (Below.refl _ _).alloc (Nat.le_refl _) _
  refine ⟨_, 1, rfl, fun i hi => ?_⟩
  have hi2 : i = 0 := by simp at hi; omega
  subst hi2
  exact ⟨X.heap.size, u, rfl, by rw [cell_of_row _ _ 0 _ _ _ (heap_alloc_new _ _)]; rfl, hu.below hb⟩
theorem bs_three (w : World) (p1 p2 p3 : Option Addr) (n1 n2 n3 c1 c2 c3 : Nat) : (Instr.buildSlice 93 3 #[(0, .slice p1 n1 c1), (1, .slice p2 n2 c2), (2, .slice p3 n3 c3)]).run Tryz.prog w = .ok (.slice (some ⟨w.heap.size, 0, none⟩) 3 3) (w.alloc (.cells #[.slice p1 n1 c1, .slice p2 n2 c2, .slice p3 n3 c3] 64 (0, 0))) := by kernel_rfl
theorem sliceGr (w : World) (b : Nat) : (Instr.sliceAt 29 (.pointer (some ⟨b, 0, none⟩)) none none none).run Tryz.prog w = .ok (.slice (some ⟨b, 0, none⟩) 128 128) w := by kernel_rfl
theorem hb_rows {w : World} {b : Nat} {t : TypeId} (l : List UInt8) (h : w.heap[b]? = some (.cells (l.map B8).toArray t (0, 0))) (hl : l.length = 128) : HB w (.slice (some ⟨b, 0, none⟩) 128 128) l := by
  refine .inr ⟨b, 0, 128, by rw [hl], by omega, by decide, fun i hi => ?_⟩
  rw [Nat.zero_add, cell_of_row _ _ i _ _ _ h]
  simp [B8, List.getD, List.getElem?_eq_getElem hi]
set_option maxHeartbeats 4000000 in
set_option maxRecDepth 100000 in
theorem leaf1_any (B og mb : Nat) (S : Nat → Prop) (p1 p2 : Option Addr) (c1 c2 b1 b2 : Nat) (lp lc g : List UInt8) (r : List UInt8 × R5.Pra) (dv ov : Value) (o : R5.Pra) (w : World) (hg : g.length = 128) (hl1 : lp.length = 8) (hl2 : lc.length = 8) (hB : B ≤ w.heap.size) (hll : o.log.length < 1000000) (ho : R5.PO B og mb S w o dv ov)
    (hro : w.cell? ⟨b1, 0, none⟩ = some (.pointer (some ⟨og, 0, none⟩))) (hs1 : ¬ S b1) (hrg : w.heap[b2]? = some (.cells (g.map B8).toArray 29 (0, 0))) (hv1 : HB w (.slice p1 8 c1) lp) (hv2 : HB w (.slice p2 8 c2) lc) (hr : nxP o ⟨1, Z0, 4, lp ++ (lc ++ g)⟩ = r) :
    Calls Tryz.prog 29 #[.slice p1 8 c1, .slice p2 8 c2, .pointer (some ⟨b1, 0, none⟩), .pointer (some ⟨b2, 0, none⟩)] w fun e w' => PR B og mb S w r.2 dv (R5.okV r.1) e w' := by
  have hAl := nxP_len ho ⟨1, Z0, 4, lp ++ (lc ++ g)⟩
  rw [hr] at hAl
  have hz := fun W => R5.zero_dig W
  obtain ⟨ZL, hZL⟩ : ∃ L, L = (List.replicate 32 (0 : UInt8)).map B8 := ⟨_, rfl⟩
  rw [← hZL] at hz
  have HZS : Hid (ZL.toArray.size = 32) := by show _ = _; rw [hZL]; simp
  have HZ1 : Hid (ZL.toArray.all (·.oneCell') = true) := by show _ = _; rw [hZL]; exact R5.B8_onea _
  have HAS : Hid ((r.1.map B8).toArray.size = 32) := by show _ = _; simpa using hAl
  have HA1 : Hid _ := R5.B8_onea r.1
  have HOK : Hid (R5.okV r.1 = .tuple #[.agg (r.1.map B8).toArray, .int .i64 0]) := rfl
  have HO : Hid (R5.PO B og mb S w o dv ov) := ho
  have HS1 : Hid (¬ S b1) := hs1
  have HL1 : Hid (b1 < w.heap.size) := block_lt hro
  have HDG : Hid (∀ W v, Below w.heap.size w W → R5.HP W v [lp, lc, g] → Calls Tryz.prog 30 #[.pointer (some ⟨og, 0, none⟩), .int .i64 4, v] W fun e w' => R5.PAsk B og mb S W r dv e w') := fun W v hW hv => by
    have q := pdigG v 4 [lp, lc, g] (Nat.le_trans hB hW.size) hll (ho.below hW) hv (by simp) (by simp; omega) (by decide)
    rw [show ([lp, lc, g] : List (List UInt8)).flatten = lp ++ (lc ++ g) by simp, hr] at q
    exact q
  have HRO : Hid (∀ X, Below w.heap.size w X → X.cell? ⟨b1, 0, none⟩ = some (.pointer (some ⟨og, 0, none⟩))) := fun X hX => (hX.cell (block_lt hro)).trans hro
  have HVP : Hid (∀ X, Below w.heap.size w X → R5.HP (X.alloc (.cells #[.slice p1 8 c1, .slice p2 8 c2, .slice (some ⟨b2, 0, none⟩) 128 128] 64 (0, 0))) (.slice (some ⟨X.heap.size, 0, none⟩) 3 3) [lp, lc, g]) := fun X hX => hp_three (hv1.below hX) (hv2.below hX) (hb_rows g ((hX.block _ (R5.row_lt hrg)).trans hrg) hg)
  have hsl := fun W => sliceGr W b2
  have HT0 : Hid _ := (RS.start w).alloc w.heap.size rfl 23 ZL
  rw [HOK.out]
  clear hZL hro hs1 hrg hv1 hv2 hr ho hg hl1 hl2 hAl hll
  generalize hAA : (r.1.map B8) = AL at *
  have HAE : Hid (r.1.map B8 = AL) := hAA
  clear hAA
  go_enter Tryz.func29, Tryz.ntmps29
  go_upto_region 1 with fail
  generalize World.alloc _ _ = X0 at *
  have hHs : X0.drew.cell? ⟨b1, 0, none⟩ = some (.pointer (some ⟨og, 0, none⟩)) := HRO.out _ HT0.out.bel.drew
  refine wp_region_held_drew (S := fun X => X.cell? ⟨b1, 0, none⟩ = some (.pointer (some ⟨og, 0, none⟩))) (by kernel_rfl) hHs (fun hHeld => ?_)
  clear hHs
  have HT1 : Hid _ := HT0.out.step (Below.refl _ _).drew
  clear HT0
  generalize World.drew _ = Y0 at *
  refine wpAnyH_take (i := 0) (oi := ⟨some 8, .load 31 (.tmp 2), 31, _, #[], none⟩) (v := .pointer (some ⟨og, 0, none⟩)) rfl (by kernel_rfl) (by kernel_rfl) (by kernel_rfl) (fun _ _ _ h => h) (Or.inl ⟨by rfl, fun w' hw' => ?_⟩) hHeld ?_
  · have hcc := hw'; first | (go_simp; done) | (go_simp; rfl)
  try simp only [Act.put, qT, q0, qS]
  refine wpAnyH_take (i := 1) (oi := ⟨some 9, .move (.tmp 0), 64, _, #[], none⟩) (v := .slice p1 8 c1) rfl (by kernel_rfl) (by kernel_rfl) (by kernel_rfl) (fun _ _ _ h => h) (Or.inl ⟨by rfl, fun w' hw' => ?_⟩) hHeld ?_
  · first | (go_simp; done) | (go_simp; rfl)
  try simp only [Act.put, qT, q0, qS]
  refine wpAnyH_take (i := 2) (oi := ⟨some 10, .move (.tmp 1), 64, _, #[], none⟩) (v := .slice p2 8 c2) rfl (by kernel_rfl) (by kernel_rfl) (by kernel_rfl) (fun _ _ _ h => h) (Or.inl ⟨by rfl, fun w' hw' => ?_⟩) hHeld ?_
  · first | (go_simp; done) | (go_simp; rfl)
  try simp only [Act.put, qT, q0, qS]
  refine wpAnyH_take (i := 3) (oi := ⟨some 11, .slice 29 (.tmp 3) none none none, 64, _, #[], none⟩) (v := .slice (some ⟨b2, 0, none⟩) 128 128) rfl (by kernel_rfl) (by kernel_rfl) (by kernel_rfl) (fun _ _ _ h => h) (Or.inl ⟨by rfl, fun w' hw' => ?_⟩) hHeld ?_
  · first | (go_simp; done) | (go_simp; rfl)
  try simp only [Act.put, qT, q0, qS]
  refine wpAnyH_ready (rs := [4]) (by kernel_rfl) (by simp) ?_
  refine AllReadyH.cons (o := ⟨some 12, .buildSlice 93 3 #[(0, .tmp 9), (1, .tmp 10), (2, .tmp 11)], 93, _, #[⟨1, .data⟩, ⟨2, .data⟩, ⟨3, .data⟩], none⟩) rfl (fun K hK => ?_) AllReadyH.nil
  rw [if_pos (by rfl)]
  refine R5.wp_bslice 93 3 _ rfl _ _ (by simp; first | done | rfl | exact ⟨rfl, rfl, rfl⟩) (bs_three Y0 _ _ _ _ _ _ _ _ _) ?_
  have hp := HVP.out Y0 HT1.out.bel
  have h3 : Below Y0.heap.size Y0 (Y0.alloc (.cells #[.slice p1 8 c1, .slice p2 8 c2, .slice (some ⟨b2, 0, none⟩) 128 128] 64 (0, 0))) := (Below.refl _ _).alloc (Nat.le_refl _) _
  have HT2 : Hid _ := HT1.out.step h3
  clear h3 HT1 HVP
  generalize Y0.alloc (.cells #[.slice p1 8 c1, .slice p2 8 c2, .slice (some ⟨b2, 0, none⟩) 128 128] 64 (0, 0)) = Y1 at *
  generalize Y0.heap.size = n3 at *
  have hH1 := HRO.out Y1 HT2.out.bel
  refine hK.out _ _ hH1 (fun _ => ?_)
  clear hK K
  try simp only [Act.put, qT, q0, qS]
  clear hHeld
  have hHeld := hH1
  clear hH1
  refine wpAnyH_ready (rs := [5]) (by kernel_rfl) (by simp) ?_
  refine AllReadyH.cons (o := { dst := some 13, op := .call { callee := Go.Callee.value (.func 30), args := #[.tmp 8, .const (Go.Value.int Go.IntKind.i64 4), .tmp 12], argTypes := #[31, 61, 93] }, type := 47, pos := _, after := #[⟨0, .data⟩, ⟨4, .data⟩], guard := none }) rfl (fun K hK => ?_) AllReadyH.nil
  rw [if_pos (by rfl)]
  go_wp2_with fail
  refine Calls.mono (HDG.out Y1 _ HT2.out.bel hp) ?_
  rintro e Y2 ⟨he, hfr, hpo⟩
  rw [show R5.okV r.1 = .tuple #[.agg AL.toArray, .int .i64 0] by rw [← HAE.out]; rfl] at he
  subst he
  have hs1 := HT2.out.bel.size
  have hH1 : Y2.cell? ⟨b1, 0, none⟩ = some (.pointer (some ⟨og, 0, none⟩)) := (World.cell?_of_block (a := ⟨b1, 0, none⟩) (hfr.block b1 (by have := HL1.out; omega) HS1.out)).trans hHeld
  have hrow : Y2.heap[w.heap.size]? = some (.cells ZL.toArray 23 (0, 0)) := (hfr.block _ (R5.row_lt (HT2.out.at 0 rfl)) (fun h => by have := HO.out.top _ h; omega)).trans (HT2.out.at 0 rfl)
  have HEND : Hid (PR B og mb S w r.2 dv (.tuple #[.agg AL.toArray, .int .i64 0]) (.returned (.tuple #[.agg AL.toArray, .int .i64 0])) (Y2.setRow w.heap.size AL.toArray)) := ⟨rfl, pfin HO.out hB HT2.out.bel hfr hpo ((R5.Fr.refl _ _).setRow _ _ (.inl ⟨Nat.le_refl _, R5.row_lt (HT2.out.at 0 rfl)⟩))⟩
  refine hK.out _ _ hH1 (fun _ => ?_)
  clear hK K
  try simp only [Act.put, qT, q0, qS]
  clear hHeld
  have hHeld := hH1
  clear hH1 hfr hpo
  refine wpAnyH_take (i := 6) (oi := ⟨some 14, .extract (.tmp 13) 0, 23, _, #[⟨5, .data⟩], none⟩) (v := .agg AL.toArray) rfl (by kernel_rfl) (by kernel_rfl) (by kernel_rfl) (fun _ _ _ h => h) (Or.inl ⟨by rfl, fun w' hw' => ?_⟩) hHeld ?_
  · first | (go_simp; done) | (go_simp; rfl)
  try simp only [Act.put, qT, q0, qS]
  refine wpAnyH_take (i := 7) (oi := ⟨some 15, .extract (.tmp 13) 1, 35, _, #[⟨5, .data⟩], none⟩) (v := .int .i64 0) rfl (by kernel_rfl) (by kernel_rfl) (by kernel_rfl) (fun _ _ _ h => h) (Or.inl ⟨by rfl, fun w' hw' => ?_⟩) hHeld ?_
  · first | (go_simp; done) | (go_simp; rfl)
  try simp only [Act.put, qT, q0, qS]
  refine wpAnyH_ready (rs := [8]) (by kernel_rfl) (by simp) ?_
  refine AllReadyH.cons (o := ⟨none, .store 23 (.tmp 6) (.tmp 14), 0, _, #[⟨6, .data⟩, ⟨5, .chain⟩, ⟨0, .phase⟩, ⟨1, .phase⟩, ⟨2, .phase⟩, ⟨3, .phase⟩, ⟨4, .phase⟩, ⟨5, .phase⟩, ⟨6, .phase⟩, ⟨7, .phase⟩], none⟩) rfl (fun K hK => ?_) AllReadyH.nil
  rw [if_pos (by rfl)]
  refine wp_store_row 23 _ _ rfl w.heap.size AL.toArray rfl rfl 23 ZL.toArray hrow (R5.info32a _ HAS.out) (HZS.out.trans HAS.out.symm) HA1.out ?_
  have hH1 : (Y2.setRow w.heap.size AL.toArray).cell? ⟨b1, 0, none⟩ = some (.pointer (some ⟨og, 0, none⟩)) := (World.cell?_of_block (a := ⟨b1, 0, none⟩) (setRow_other _ _ _ _ (by show b1 ≠ _; have := HL1.out; omega))).trans hHeld
  have HRW : Hid ((Y2.setRow w.heap.size AL.toArray).heap[w.heap.size]? = some (.cells AL.toArray 23 (0, 0))) := setRow_heap _ _ _ _ _ _ hrow
  refine hK.out _ _ hH1 (fun _ => ?_)
  clear hK K
  try simp only [Act.put, qT, q0, qS]
  clear hHeld
  have hHeld := hH1
  clear hH1 hrow
  refine wpAnyH_take (i := 9) (oi := ⟨some 7, .assign (.tmp 15), 35, _, #[⟨7, .data⟩, ⟨8, .chain⟩, ⟨0, .phase⟩, ⟨1, .phase⟩, ⟨2, .phase⟩, ⟨3, .phase⟩, ⟨4, .phase⟩, ⟨5, .phase⟩, ⟨6, .phase⟩, ⟨7, .phase⟩, ⟨8, .phase⟩], none⟩) (v := .int .i64 0) rfl (by kernel_rfl) (by kernel_rfl) (by kernel_rfl) (fun _ _ _ h => h) (Or.inl ⟨by rfl, fun w' hw' => ?_⟩) hHeld ?_
  · first | (go_simp; done) | (go_simp; rfl)
  try simp only [Act.put, qT, q0, qS]
  refine wpAnyH_done (by kernel_rfl) ?_ _
  clear hHeld
  go_wp2_with fail
  refine bodyPost_ret (v := .tuple #[.agg AL.toArray, .int .i64 0]) ?_ rfl HEND.out
  exact R5.results_dig2 Tryz.results29 _ _ w.heap.size 23 _ (0, 0) _ rfl rfl HRW.out (R5.info32a _ HAS.out)
set_option maxHeartbeats 4000000 in
set_option maxRecDepth 100000 in
theorem none1_any (B og mb : Nat) (S : Nat → Prop) (p1 : Option Addr) (v2 : Value) (c1 b1 : Nat) (lp : List UInt8) (r : List UInt8 × R5.Pra) (dv ov : Value) (o : R5.Pra) (w : World) (hl1 : lp.length = 8) (hB : B ≤ w.heap.size) (hll : o.log.length < 1000000) (ho : R5.PO B og mb S w o dv ov)
    (hro : w.cell? ⟨b1, 0, none⟩ = some (.pointer (some ⟨og, 0, none⟩))) (hv1 : HB w (.slice p1 8 c1) lp) (hr : nxP o ⟨1, Z0, 6, lp⟩ = r) :
    Calls Tryz.prog 32 #[.slice p1 8 c1, v2, .pointer (some ⟨b1, 0, none⟩)] w fun e w' => PR B og mb S w r.2 dv (R5.okV r.1) e w' := by
  have hAl := nxP_len ho ⟨1, Z0, 6, lp⟩
  rw [hr] at hAl
  have hz := fun W => R5.zero_dig W
  obtain ⟨ZL, hZL⟩ : ∃ L, L = (List.replicate 32 (0 : UInt8)).map B8 := ⟨_, rfl⟩
  rw [← hZL] at hz
  have HZS : Hid (ZL.toArray.size = 32) := by show _ = _; rw [hZL]; simp
  have HZ1 : Hid (ZL.toArray.all (·.oneCell') = true) := by show _ = _; rw [hZL]; exact R5.B8_onea _
  have HAS : Hid ((r.1.map B8).toArray.size = 32) := by show _ = _; simpa using hAl
  have HA1 : Hid _ := R5.B8_onea r.1
  have HOK : Hid (R5.okV r.1 = .tuple #[.agg (r.1.map B8).toArray, .int .i64 0]) := rfl
  have HO : Hid (R5.PO B og mb S w o dv ov) := ho
  have HDG : Hid (∀ W v, Below w.heap.size w W → R5.HP W v [lp] → Calls Tryz.prog 30 #[.pointer (some ⟨og, 0, none⟩), .int .i64 6, v] W fun e w' => R5.PAsk B og mb S W r dv e w') := fun W v hW hv => by
    have q := pdigG v 6 [lp] (Nat.le_trans hB hW.size) hll (ho.below hW) hv (by simp) (by simp; omega) (by decide)
    rw [show ([lp] : List (List UInt8)).flatten = lp by simp, hr] at q
    exact q
  have HT0 : Hid _ := (RS.start w).alloc w.heap.size rfl 23 ZL
  have HVP : Hid (∀ X, Below w.heap.size w X → R5.HP (X.alloc (.cells #[.slice p1 8 c1] 64 (0, 0))) (.slice (some ⟨X.heap.size, 0, none⟩) 1 1) [lp]) := fun X hX => hp_one (hv1.below hX)
  have hcz : ∀ X, Below w.heap.size w X → X.cell? ⟨b1, 0, none⟩ = some (.pointer (some ⟨og, 0, none⟩)) := fun X hX => (hX.cell (block_lt hro)).trans hro
  have hbs := fun W => R5.bs_part W p1 8 c1
  rw [HOK.out]
  clear hZL hro hv1 hr ho hl1 hAl hll
  generalize hAA : (r.1.map B8) = AL at *
  have HAE : Hid (r.1.map B8 = AL) := hAA
  clear hAA
  go_enter Tryz.func32, Tryz.ntmps32
  go_upto_region 1 with fail
  generalize World.alloc _ _ = X0 at *
  have hc0 := hcz X0 HT0.out.bel
  clear hcz
  go_wp2_with fail
  have hp := HVP.out X0 HT0.out.bel
  have h3 : Below X0.heap.size X0 (X0.alloc (.cells #[.slice p1 8 c1] 64 (0, 0))) := (Below.refl _ _).alloc (Nat.le_refl _) _
  have HT2 : Hid _ := HT0.out.step h3
  refine Calls.mono (HDG.out _ _ HT2.out.bel hp) ?_
  rintro e Y2 ⟨he, hfr, hpo⟩
  rw [show R5.okV r.1 = .tuple #[.agg AL.toArray, .int .i64 0] by rw [← HAE.out]; rfl] at he
  subst he
  have hs1 := HT2.out.bel.size
  have hrow : Y2.heap[w.heap.size]? = some (.cells ZL.toArray 23 (0, 0)) := (hfr.block _ (R5.row_lt (HT2.out.at 0 rfl)) (fun h => by have := HO.out.top _ h; omega)).trans (HT2.out.at 0 rfl)
  have HEND : Hid (PR B og mb S w r.2 dv (.tuple #[.agg AL.toArray, .int .i64 0]) (.returned (.tuple #[.agg AL.toArray, .int .i64 0])) (Y2.setRow w.heap.size AL.toArray)) := ⟨rfl, pfin HO.out hB HT2.out.bel hfr hpo ((R5.Fr.refl _ _).setRow _ _ (.inl ⟨Nat.le_refl _, R5.row_lt (HT2.out.at 0 rfl)⟩))⟩
  have HRZ : Hid _ := hrow
  clear hrow hfr hpo hp h3 HT0 HT2 hc0 hs1
  go_wp2_with (refine wpList_store_row rfl 23 _ _ rfl w.heap.size AL.toArray rfl rfl 23 ZL.toArray HRZ.out (R5.info32a _ HAS.out) (HZS.out.trans HAS.out.symm) HA1.out ?_)
  refine bodyPost_ret (v := .tuple #[.agg AL.toArray, .int .i64 0]) ?_ rfl HEND.out
  exact R5.results_dig2 Tryz.results32 _ _ w.heap.size 23 _ (0, 0) _ rfl rfl (setRow_heap _ _ _ _ _ _ HRZ.out) (R5.info32a _ HAS.out)
end Go.Proofs.YtbmmibmfjhehhaaGreat.BC

namespace Go.Proofs.YtbmmibmfjhehhaaGreat.BC
open Go.RowKit

set_option maxHeartbeats 1000000 in
set_option maxRecDepth 100000 in
theorem askedD_no (pv fv : Value) (pg c x : Int) (w : World) (hx : x ≠ 0) (hF : ∀ W, Below w.heap.size w W → Calls Tryz.prog 44 #[pv, .int .i64 pg, .int .u64 c] W fun e w' => e = .returned (.int .i64 x) ∧ Below W.heap.size W w') :
    Calls Tryz.prog 28 #[pv, .int .i64 pg, .int .u64 c, fv] w fun e w' => e = .returned (R5.errV x) ∧ Below w.heap.size w w' := by
  have hz := fun W => R5.zero_dig W
  obtain ⟨ZL, hZL⟩ : ∃ L, L = (List.replicate 32 (0 : UInt8)).map B8 := ⟨_, rfl⟩
  rw [← hZL] at hz
  have HZS : Hid (ZL.toArray.size = 32) := by show _ = _; rw [hZL]; simp
  have HZ1 : Hid (ZL.toArray.all (·.oneCell') = true) := by show _ = _; rw [hZL]; exact R5.B8_onea _
  have hx2 : (x == 0) = false := by rw [beq_eq_false_iff_ne]; exact hx
  have HEV : Hid (R5.errV x = .tuple #[.agg ZL.toArray, .int .i64 x]) := by rw [hZL]; exact rfl
  have HT0 : Hid _ := (RS.start w).alloc w.heap.size rfl 23 ZL
  have HF : Hid (∀ W, Below w.heap.size w W → Calls Tryz.prog 44 #[pv, .int .i64 pg, .int .u64 c] W fun e w' => e = .returned (.int .i64 x) ∧ Below W.heap.size W w') := hF
  rw [HEV.out]
  clear hZL hx hF HEV
  go_enter Tryz.func28, Tryz.ntmps28
  go_upto_region 1 with fail
  generalize World.alloc _ _ = X0 at *
  go_wp2_with fail
  refine Calls.mono (HF.out X0 HT0.out.bel) ?_
  rintro e X1 ⟨rfl, hb⟩
  have HT1 : Hid _ := (HT0.out.step hb).alloc X1.heap.size rfl 23 ZL
  clear hb HT0 HF
  go_wp2_with (first
    | (refine wpList_load_mid rfl 23 (.tmp 11) rfl X1.heap.size 0 rfl ZL _ (rangeAt_row (HT1.out.at 0 rfl)) Tryz.underlying23 rfl (R5.info32 ZL (by simpa using HZS.out)) ?_)
    | (refine R5.wpList_store_rowL rfl 23 _ _ rfl w.heap.size ZL.toArray rfl rfl 23 ZL.toArray (HT1.out.at 1 rfl) (R5.info32a _ HZS.out) rfl HZ1.out ?_; intro X2 e2; have HT2 : Hid _ := HT1.out.put 1 rfl ZL; rw [← e2] at HT2; clear e2))
  refine bodyPost_ret (v := .tuple #[.agg ZL.toArray, .int .i64 x]) ?_ rfl ⟨rfl, HT2.out.bel⟩
  exact R5.results_dig2 Tryz.results28 _ _ w.heap.size 23 _ (0, 0) _ rfl rfl (HT2.out.at 1 rfl) (R5.info32a _ HZS.out)
set_option maxHeartbeats 1000000 in
set_option maxRecDepth 100000 in
theorem askedL_ok (B og mb : Nat) (S : Nat → Prop) (r : List UInt8 × R5.Pra) (dv ov : Value) (o : R5.Pra) (p c : Nat) (b1 b2 : Nat) (w : World) (hA : r.1.length = 32) (hp : p < 128) (hc : c ≤ 4294967296) (hB : B ≤ w.heap.size) (ho : R5.PO B og mb S w o dv ov)
    (hcl : ∀ W p1 c1 p2 c2, Below w.heap.size w W → HB W (.slice p1 8 c1) (W1.le 8 p) → HB W (.slice p2 8 c2) (W1.le 8 c) → Calls Tryz.prog 29 #[.slice p1 8 c1, .slice p2 8 c2, .pointer (some ⟨b1, 0, none⟩), .pointer (some ⟨b2, 0, none⟩)] W fun e w' => PR B og mb S W r.2 dv (R5.okV r.1) e w') :
    Calls Tryz.prog 28 #[.pointer (some ⟨og, 0, none⟩), .int .i64 (p : Int), .int .u64 (c : Int), .func (.func 29) #[] #[.pointer (some ⟨b1, 0, none⟩), .pointer (some ⟨b2, 0, none⟩)]] w fun e w' => PR B og mb S w r.2 dv (R5.okV r.1) e w' := by
  have hz := fun W => R5.zero_dig W
  obtain ⟨ZL, hZL⟩ : ∃ L, L = (List.replicate 32 (0 : UInt8)).map B8 := ⟨_, rfl⟩
  rw [← hZL] at hz
  have HZS : Hid (ZL.toArray.size = 32) := by show _ = _; rw [hZL]; simp
  have HZ1 : Hid (ZL.toArray.all (·.oneCell') = true) := by show _ = _; rw [hZL]; exact R5.B8_onea _
  have HAS : Hid ((r.1.map B8).toArray.size = 32) := by show _ = _; simpa using hA
  have HA1 : Hid _ := R5.B8_onea r.1
  have HOK : Hid (R5.okV r.1 = .tuple #[.agg (r.1.map B8).toArray, .int .i64 0]) := rfl
  have hm : mayB (p : Int) (c : Int) = true := decide_eq_true ⟨by omega, by omega, by omega⟩
  have HF : Hid (∀ W, Below w.heap.size w W → Calls Tryz.prog 44 #[.pointer (some ⟨og, 0, none⟩), .int .i64 (p : Int), .int .u64 (c : Int)] W fun e w' => e = .returned (.int .i64 0) ∧ Below W.heap.size W w') := fun W hW => by
    have q := fault_no og mb (p : Int) (c : Int) W ((hW.cell (block_lt ho.cells.2.2.2.1)).trans ho.cells.2.2.2.1)
    rw [hm] at q
    exact q
  have HPUT : Hid (∀ (n : Nat) W, n < 18446744073709551616 → Calls Tryz.prog 45 #[.int .u64 (n : Int), .int .i64 8] W fun e w' => e = .returned (.tuple #[.slice (some ⟨W.heap.size, 0, none⟩) 8 8, .int .i64 0]) ∧ FB W.heap.size w' (.slice (some ⟨W.heap.size, 0, none⟩) 8 8) (W1.le 8 n) ∧ Below W.heap.size W w') := fun n W hn => put_ok n 8 W (by decide) (by decide) hn (by omega)
  have hu : IntKind.u64.wrap (p : Int) = (p : Int) := by rw [W1.wrap_u64]; omega
  have HCL : Hid (∀ W p1 c1 p2 c2, Below w.heap.size w W → HB W (.slice p1 8 c1) (W1.le 8 p) → HB W (.slice p2 8 c2) (W1.le 8 c) → Calls Tryz.prog 29 #[.slice p1 8 c1, .slice p2 8 c2, .pointer (some ⟨b1, 0, none⟩), .pointer (some ⟨b2, 0, none⟩)] W fun e w' => PR B og mb S W r.2 dv (R5.okV r.1) e w') := hcl
  have HP : Hid (p < 18446744073709551616) := (by omega : p < 18446744073709551616)
  have HC : Hid (c < 18446744073709551616) := (by omega : c < 18446744073709551616)
  have HO : Hid (R5.PO B og mb S w o dv ov) := ho
  have HT0 : Hid _ := (RS.start w).alloc w.heap.size rfl 23 ZL
  rw [HOK.out] at HCL ⊢
  clear hZL hcl hp hc hm ho hA HOK
  generalize r.1.map B8 = AL at *
  go_enter Tryz.func28, Tryz.ntmps28
  go_upto_region 1 with fail
  generalize World.alloc _ _ = X0 at *
  go_wp2_with fail
  refine Calls.mono (HF.out X0 HT0.out.bel) ?_
  rintro e X1 ⟨rfl, hb⟩
  have HT1 : Hid _ := HT0.out.step hb
  clear hb HT0 HF
  go_wp2_with fail
  refine Calls.mono (HPUT.out p X1 HP.out) ?_
  rintro e X2 ⟨rfl, hf2, hb2⟩
  have HF2 : Hid (HB X2 (.slice (some ⟨X1.heap.size, 0, none⟩) 8 8) (W1.le 8 p)) := hf2.hb
  have HT2 : Hid _ := HT1.out.step hb2
  clear hf2 hb2 HT1
  generalize X1.heap.size = n1 at *
  go_wp2_with fail
  refine Calls.mono (HPUT.out c X2 HC.out) ?_
  rintro e X3 ⟨rfl, hf3, hb3⟩
  have HF3 : Hid (HB X3 (.slice (some ⟨X2.heap.size, 0, none⟩) 8 8) (W1.le 8 c)) := hf3.hb
  have HF2b : Hid (HB X3 (.slice (some ⟨n1, 0, none⟩) 8 8) (W1.le 8 p)) := HF2.out.below hb3
  have HT3 : Hid _ := HT2.out.step hb3
  clear hf3 hb3 HF2 HT2
  generalize X2.heap.size = n2 at *
  go_wp2_with fail
  refine Calls.mono (HCL.out X3 _ _ _ _ HT3.out.bel HF2b.out HF3.out) ?_
  intro e X4 hP
  have he : e = .returned (.tuple #[.agg AL.toArray, .int .i64 0]) := hP.1
  subst he
  have HR3 : Hid (X4.heap[w.heap.size]? = some (.cells ZL.toArray 23 (0, 0))) := pr_row HO.out (by omega) (HT3.out.at 0 rfl) hP
  have HEND : Hid (PR B og mb S w r.2 dv (.tuple #[.agg AL.toArray, .int .i64 0]) (.returned (.tuple #[.agg AL.toArray, .int .i64 0])) (X4.setRow w.heap.size AL.toArray)) := pr_end HO.out hB HT3.out.bel hP ((R5.Fr.refl _ _).setRow _ _ (.inl ⟨by omega, R5.row_lt (HT3.out.at 0 rfl)⟩))
  clear hP HT3 HF2b HF3
  go_wp2_with (refine wpList_store_row rfl 23 _ _ rfl w.heap.size AL.toArray rfl rfl 23 ZL.toArray HR3.out (R5.info32a _ HAS.out) (HZS.out.trans HAS.out.symm) HA1.out ?_)
  refine bodyPost_ret (v := .tuple #[.agg AL.toArray, .int .i64 0]) ?_ rfl HEND.out
  exact R5.results_dig2 Tryz.results28 _ _ w.heap.size 23 _ (0, 0) _ rfl rfl (setRow_heap _ _ _ _ _ _ HR3.out) (R5.info32a _ HAS.out)
set_option maxHeartbeats 1000000 in
set_option maxRecDepth 100000 in
theorem askedN_ok (B og mb : Nat) (S : Nat → Prop) (r : List UInt8 × R5.Pra) (dv ov : Value) (o : R5.Pra) (p c : Nat) (b1 : Nat) (w : World) (hA : r.1.length = 32) (hp : p < 128) (hc : c ≤ 4294967296) (hB : B ≤ w.heap.size) (ho : R5.PO B og mb S w o dv ov)
    (hcl : ∀ W p1 c1 p2 c2, Below w.heap.size w W → HB W (.slice p1 8 c1) (W1.le 8 p) → HB W (.slice p2 8 c2) (W1.le 8 c) → Calls Tryz.prog 32 #[.slice p1 8 c1, .slice p2 8 c2, .pointer (some ⟨b1, 0, none⟩)] W fun e w' => PR B og mb S W r.2 dv (R5.okV r.1) e w') :
    Calls Tryz.prog 28 #[.pointer (some ⟨og, 0, none⟩), .int .i64 (p : Int), .int .u64 (c : Int), .func (.func 32) #[] #[.pointer (some ⟨b1, 0, none⟩)]] w fun e w' => PR B og mb S w r.2 dv (R5.okV r.1) e w' := by
  have hz := fun W => R5.zero_dig W
  obtain ⟨ZL, hZL⟩ : ∃ L, L = (List.replicate 32 (0 : UInt8)).map B8 := ⟨_, rfl⟩
  rw [← hZL] at hz
  have HZS : Hid (ZL.toArray.size = 32) := by show _ = _; rw [hZL]; simp
  have HZ1 : Hid (ZL.toArray.all (·.oneCell') = true) := by show _ = _; rw [hZL]; exact R5.B8_onea _
  have HAS : Hid ((r.1.map B8).toArray.size = 32) := by show _ = _; simpa using hA
  have HA1 : Hid _ := R5.B8_onea r.1
  have HOK : Hid (R5.okV r.1 = .tuple #[.agg (r.1.map B8).toArray, .int .i64 0]) := rfl
  have hm : mayB (p : Int) (c : Int) = true := decide_eq_true ⟨by omega, by omega, by omega⟩
  have HF : Hid (∀ W, Below w.heap.size w W → Calls Tryz.prog 44 #[.pointer (some ⟨og, 0, none⟩), .int .i64 (p : Int), .int .u64 (c : Int)] W fun e w' => e = .returned (.int .i64 0) ∧ Below W.heap.size W w') := fun W hW => by
    have q := fault_no og mb (p : Int) (c : Int) W ((hW.cell (block_lt ho.cells.2.2.2.1)).trans ho.cells.2.2.2.1)
    rw [hm] at q
    exact q
  have HPUT : Hid (∀ (n : Nat) W, n < 18446744073709551616 → Calls Tryz.prog 45 #[.int .u64 (n : Int), .int .i64 8] W fun e w' => e = .returned (.tuple #[.slice (some ⟨W.heap.size, 0, none⟩) 8 8, .int .i64 0]) ∧ FB W.heap.size w' (.slice (some ⟨W.heap.size, 0, none⟩) 8 8) (W1.le 8 n) ∧ Below W.heap.size W w') := fun n W hn => put_ok n 8 W (by decide) (by decide) hn (by omega)
  have hu : IntKind.u64.wrap (p : Int) = (p : Int) := by rw [W1.wrap_u64]; omega
  have HCL : Hid (∀ W p1 c1 p2 c2, Below w.heap.size w W → HB W (.slice p1 8 c1) (W1.le 8 p) → HB W (.slice p2 8 c2) (W1.le 8 c) → Calls Tryz.prog 32 #[.slice p1 8 c1, .slice p2 8 c2, .pointer (some ⟨b1, 0, none⟩)] W fun e w' => PR B og mb S W r.2 dv (R5.okV r.1) e w') := hcl
  have HP : Hid (p < 18446744073709551616) := (by omega : p < 18446744073709551616)
  have HC : Hid (c < 18446744073709551616) := (by omega : c < 18446744073709551616)
  have HO : Hid (R5.PO B og mb S w o dv ov) := ho
  have HT0 : Hid _ := (RS.start w).alloc w.heap.size rfl 23 ZL
  rw [HOK.out] at HCL ⊢
  clear hZL hcl hp hc hm ho hA HOK
  generalize r.1.map B8 = AL at *
  go_enter Tryz.func28, Tryz.ntmps28
  go_upto_region 1 with fail
  generalize World.alloc _ _ = X0 at *
  go_wp2_with fail
  refine Calls.mono (HF.out X0 HT0.out.bel) ?_
  rintro e X1 ⟨rfl, hb⟩
  have HT1 : Hid _ := HT0.out.step hb
  clear hb HT0 HF
  go_wp2_with fail
  refine Calls.mono (HPUT.out p X1 HP.out) ?_
  rintro e X2 ⟨rfl, hf2, hb2⟩
  have HF2 : Hid (HB X2 (.slice (some ⟨X1.heap.size, 0, none⟩) 8 8) (W1.le 8 p)) := hf2.hb
  have HT2 : Hid _ := HT1.out.step hb2
  clear hf2 hb2 HT1
  generalize X1.heap.size = n1 at *
  go_wp2_with fail
  refine Calls.mono (HPUT.out c X2 HC.out) ?_
  rintro e X3 ⟨rfl, hf3, hb3⟩
  have HF3 : Hid (HB X3 (.slice (some ⟨X2.heap.size, 0, none⟩) 8 8) (W1.le 8 c)) := hf3.hb
  have HF2b : Hid (HB X3 (.slice (some ⟨n1, 0, none⟩) 8 8) (W1.le 8 p)) := HF2.out.below hb3
  have HT3 : Hid _ := HT2.out.step hb3
  clear hf3 hb3 HF2 HT2
  generalize X2.heap.size = n2 at *
  go_wp2_with fail
  refine Calls.mono (HCL.out X3 _ _ _ _ HT3.out.bel HF2b.out HF3.out) ?_
  intro e X4 hP
  have he : e = .returned (.tuple #[.agg AL.toArray, .int .i64 0]) := hP.1
  subst he
  have HR3 : Hid (X4.heap[w.heap.size]? = some (.cells ZL.toArray 23 (0, 0))) := pr_row HO.out (by omega) (HT3.out.at 0 rfl) hP
  have HEND : Hid (PR B og mb S w r.2 dv (.tuple #[.agg AL.toArray, .int .i64 0]) (.returned (.tuple #[.agg AL.toArray, .int .i64 0])) (X4.setRow w.heap.size AL.toArray)) := pr_end HO.out hB HT3.out.bel hP ((R5.Fr.refl _ _).setRow _ _ (.inl ⟨by omega, R5.row_lt (HT3.out.at 0 rfl)⟩))
  clear hP HT3 HF2b HF3
  go_wp2_with (refine wpList_store_row rfl 23 _ _ rfl w.heap.size AL.toArray rfl rfl 23 ZL.toArray HR3.out (R5.info32a _ HAS.out) (HZS.out.trans HAS.out.symm) HA1.out ?_)
  refine bodyPost_ret (v := .tuple #[.agg AL.toArray, .int .i64 0]) ?_ rfl HEND.out
  exact R5.results_dig2 Tryz.results28 _ _ w.heap.size 23 _ (0, 0) _ rfl rfl (setRow_heap _ _ _ _ _ _ HR3.out) (R5.info32a _ HAS.out)
set_option maxHeartbeats 1000000 in
set_option maxRecDepth 100000 in
theorem leaf_no (q : Option Addr) (g : List UInt8) (pg c x : Int) (w : World) (hx : x ≠ 0) (hF : ∀ W, Below w.heap.size w W → Calls Tryz.prog 44 #[.pointer q, .int .i64 pg, .int .u64 c] W fun e w' => e = .returned (.int .i64 x) ∧ Below W.heap.size W w') :
    Calls Tryz.prog 14 #[.pointer q, .int .i64 pg, .int .u64 c, .agg (g.map B8).toArray] w fun e w' => e = .returned (R5.errV x) ∧ Below w.heap.size w w' := by
  have hz := fun W => R5.zero_dig W
  obtain ⟨ZL, hZL⟩ : ∃ L, L = (List.replicate 32 (0 : UInt8)).map B8 := ⟨_, rfl⟩
  rw [← hZL] at hz
  have HZS : Hid (ZL.toArray.size = 32) := by show _ = _; rw [hZL]; simp
  have HZ1 : Hid (ZL.toArray.all (·.oneCell') = true) := by show _ = _; rw [hZL]; exact R5.B8_onea _
  have HEV : Hid (R5.errV x = .tuple #[.agg ZL.toArray, .int .i64 x]) := by rw [hZL]; exact rfl
  have HA : Hid (∀ W fv, Below w.heap.size w W → Calls Tryz.prog 28 #[.pointer q, .int .i64 pg, .int .u64 c, fv] W fun e w' => e = .returned (R5.errV x) ∧ Below W.heap.size W w') := fun W fv hW => askedD_no (.pointer q) fv pg c x W hx (fun X hX => hF X (hW.trans (hX.mono hW.size)))
  have HT0 : Hid _ := (((RS.start w).alloc w.heap.size rfl 31 [.pointer q]).alloc (w.heap.size + 1) (by simp) 29 (g.map B8)).alloc (w.heap.size + 1 + 1) (by simp) 23 ZL
  rw [HEV.out] at HA ⊢
  clear hZL hx hF HEV
  generalize g.map B8 = GL at *
  go_enter Tryz.func14, Tryz.ntmps14
  go_upto_region 1 with fail
  generalize World.alloc _ _ = X0 at *
  have hco := HT0.out.cell 2 rfl 0 rfl
  go_wp2_with fail
  refine Calls.mono (HA.out X0 _ HT0.out.bel) ?_
  rintro e X1 ⟨rfl, hb⟩
  have HT1 : Hid _ := HT0.out.step hb
  clear hb HT0 HA hco
  go_wp2_with (refine R5.wpList_store_rowL rfl 23 _ _ rfl (w.heap.size + 1 + 1) ZL.toArray rfl rfl 23 ZL.toArray (HT1.out.at 0 rfl) (R5.info32a _ HZS.out) rfl HZ1.out ?_; intro X2 e2; have HT2 : Hid _ := HT1.out.put 0 rfl ZL; rw [← e2] at HT2; clear e2)
  refine bodyPost_ret (v := .tuple #[.agg ZL.toArray, .int .i64 x]) ?_ rfl ⟨rfl, HT2.out.bel⟩
  exact R5.results_dig2 Tryz.results14 _ _ (w.heap.size + 1 + 1) 23 _ (0, 0) _ rfl rfl (HT2.out.at 0 rfl) (R5.info32a _ HZS.out)
set_option maxHeartbeats 1000000 in
set_option maxRecDepth 100000 in
theorem none_no (q : Option Addr) (pg x : Int) (w : World) (hx : x ≠ 0) (hF : ∀ W, Below w.heap.size w W → Calls Tryz.prog 44 #[.pointer q, .int .i64 pg, .int .u64 0] W fun e w' => e = .returned (.int .i64 x) ∧ Below W.heap.size W w') :
    Calls Tryz.prog 16 #[.pointer q, .int .i64 pg] w fun e w' => e = .returned (R5.errV x) ∧ Below w.heap.size w w' := by
  have hz := fun W => R5.zero_dig W
  obtain ⟨ZL, hZL⟩ : ∃ L, L = (List.replicate 32 (0 : UInt8)).map B8 := ⟨_, rfl⟩
  rw [← hZL] at hz
  have HZS : Hid (ZL.toArray.size = 32) := by show _ = _; rw [hZL]; simp
  have HZ1 : Hid (ZL.toArray.all (·.oneCell') = true) := by show _ = _; rw [hZL]; exact R5.B8_onea _
  have HEV : Hid (R5.errV x = .tuple #[.agg ZL.toArray, .int .i64 x]) := by rw [hZL]; exact rfl
  have HA : Hid (∀ W fv, Below w.heap.size w W → Calls Tryz.prog 28 #[.pointer q, .int .i64 pg, .int .u64 0, fv] W fun e w' => e = .returned (R5.errV x) ∧ Below W.heap.size W w') := fun W fv hW => askedD_no (.pointer q) fv pg 0 x W hx (fun X hX => hF X (hW.trans (hX.mono hW.size)))
  have HT0 : Hid _ := ((RS.start w).alloc w.heap.size rfl 31 [.pointer q]).alloc (w.heap.size + 1) (by simp) 23 ZL
  rw [HEV.out] at HA ⊢
  clear hZL hx hF HEV
  go_enter Tryz.func16, Tryz.ntmps16
  go_upto_region 1 with fail
  generalize World.alloc _ _ = X0 at *
  have hco := HT0.out.cell 1 rfl 0 rfl
  go_wp2_with fail
  refine Calls.mono (HA.out X0 _ HT0.out.bel) ?_
  rintro e X1 ⟨rfl, hb⟩
  have HT1 : Hid _ := HT0.out.step hb
  clear hb HT0 HA hco
  go_wp2_with (refine R5.wpList_store_rowL rfl 23 _ _ rfl (w.heap.size + 1) ZL.toArray rfl rfl 23 ZL.toArray (HT1.out.at 0 rfl) (R5.info32a _ HZS.out) rfl HZ1.out ?_; intro X2 e2; have HT2 : Hid _ := HT1.out.put 0 rfl ZL; rw [← e2] at HT2; clear e2)
  refine bodyPost_ret (v := .tuple #[.agg ZL.toArray, .int .i64 x]) ?_ rfl ⟨rfl, HT2.out.bel⟩
  exact R5.results_dig2 Tryz.results16 _ _ (w.heap.size + 1) 23 _ (0, 0) _ rfl rfl (HT2.out.at 0 rfl) (R5.info32a _ HZS.out)
set_option maxHeartbeats 2000000 in
set_option maxRecDepth 100000 in
theorem leaf_ok (B og mb : Nat) (S : Nat → Prop) (g : List UInt8) (p c : Nat) (r : List UInt8 × R5.Pra) (dv ov : Value) (o : R5.Pra) (w : World) (hg : g.length = 128) (hp : p < 128) (hc : c ≤ 4294967296) (hB : B ≤ w.heap.size) (hll : o.log.length < 1000000) (ho : R5.PO B og mb S w o dv ov) (hr : nxP o (qLeaf p c g) = r) :
    Calls Tryz.prog 14 #[.pointer (some ⟨og, 0, none⟩), .int .i64 (p : Int), .int .u64 (c : Int), .agg (g.map B8).toArray] w fun e w' => PR B og mb S w r.2 dv (R5.okV r.1) e w' := by
  have hA := nxP_len ho (qLeaf p c g)
  rw [hr] at hA
  have hz := fun W => R5.zero_dig W
  obtain ⟨ZL, hZL⟩ : ∃ L, L = (List.replicate 32 (0 : UInt8)).map B8 := ⟨_, rfl⟩
  rw [← hZL] at hz
  have HZS : Hid (ZL.toArray.size = 32) := by show _ = _; rw [hZL]; simp
  have HZ1 : Hid (ZL.toArray.all (·.oneCell') = true) := by show _ = _; rw [hZL]; exact R5.B8_onea _
  have HAS : Hid ((r.1.map B8).toArray.size = 32) := by show _ = _; simpa using hA
  have HA1 : Hid _ := R5.B8_onea r.1
  have HOK : Hid (R5.okV r.1 = .tuple #[.agg (r.1.map B8).toArray, .int .i64 0]) := rfl
  have HO : Hid (R5.PO B og mb S w o dv ov) := ho
  have HA : Hid (∀ W b1 b2, Below w.heap.size w W → W.cell? ⟨b1, 0, none⟩ = some (.pointer (some ⟨og, 0, none⟩)) → w.heap.size ≤ b1 → W.heap[b2]? = some (.cells (g.map B8).toArray 29 (0, 0)) → Calls Tryz.prog 28 #[.pointer (some ⟨og, 0, none⟩), .int .i64 (p : Int), .int .u64 (c : Int), .func (.func 29) #[] #[.pointer (some ⟨b1, 0, none⟩), .pointer (some ⟨b2, 0, none⟩)]] W fun e w' => PR B og mb S W r.2 dv (R5.okV r.1) e w') := fun W b1 b2 hW h1 hb1 h2 => by
    refine askedL_ok B og mb S r dv ov o p c b1 b2 W hA hp hc (Nat.le_trans hB hW.size) (ho.below hW) (fun W2 p1 c1 p2 c2 hW2 hv1 hv2 => ?_)
    have hs := hW.size
    exact leaf1_any B og mb S p1 p2 c1 c2 b1 b2 _ _ g r dv ov o W2 hg (W1.le_length 8 p) (W1.le_length 8 c) (by have := hW2.size; omega) hll ((ho.below hW).below hW2) ((hW2.cell (block_lt h1)).trans h1) (fun h => by have := ho.top _ h; omega) ((hW2.block _ (R5.row_lt h2)).trans h2) hv1 hv2 hr
  have HT0 : Hid _ := (((RS.start w).alloc w.heap.size rfl 31 [.pointer (some ⟨og, 0, none⟩)]).alloc (w.heap.size + 1) (by simp) 29 (g.map B8)).alloc (w.heap.size + 1 + 1) (by simp) 23 ZL
  rw [HOK.out] at HA ⊢
  clear hZL hp hc hll hr ho hA hg HOK
  generalize r.1.map B8 = AL at *
  generalize g.map B8 = GL at *
  go_enter Tryz.func14, Tryz.ntmps14
  go_upto_region 1 with fail
  generalize World.alloc _ _ = X0 at *
  have hco := HT0.out.cell 2 rfl 0 rfl
  go_wp2_with fail
  refine Calls.mono (HA.out X0 _ _ HT0.out.bel hco (Nat.le_refl _) (HT0.out.at 1 rfl)) ?_
  intro e X1 hP
  have he : e = .returned (.tuple #[.agg AL.toArray, .int .i64 0]) := hP.1
  subst he
  have HRZ : Hid (X1.heap[w.heap.size + 1 + 1]? = some (.cells ZL.toArray 23 (0, 0))) := pr_row HO.out (by omega) (HT0.out.at 0 rfl) hP
  have HEND : Hid (PR B og mb S w r.2 dv (.tuple #[.agg AL.toArray, .int .i64 0]) (.returned (.tuple #[.agg AL.toArray, .int .i64 0])) (X1.setRow (w.heap.size + 1 + 1) AL.toArray)) := pr_end HO.out hB HT0.out.bel hP ((R5.Fr.refl _ _).setRow _ _ (.inl ⟨by omega, R5.row_lt (HT0.out.at 0 rfl)⟩))
  clear hP HA HT0 hco
  go_wp2_with (refine wpList_store_row rfl 23 _ _ rfl (w.heap.size + 1 + 1) AL.toArray rfl rfl 23 ZL.toArray HRZ.out (R5.info32a _ HAS.out) (HZS.out.trans HAS.out.symm) HA1.out ?_)
  refine bodyPost_ret (v := .tuple #[.agg AL.toArray, .int .i64 0]) ?_ rfl HEND.out
  exact R5.results_dig2 Tryz.results14 _ _ (w.heap.size + 1 + 1) 23 _ (0, 0) _ rfl rfl (setRow_heap _ _ _ _ _ _ HRZ.out) (R5.info32a _ HAS.out)
set_option maxHeartbeats 2000000 in
set_option maxRecDepth 100000 in
theorem none_ok (B og mb : Nat) (S : Nat → Prop) (p : Nat) (r : List UInt8 × R5.Pra) (dv ov : Value) (o : R5.Pra) (w : World) (hp : p < 128) (hB : B ≤ w.heap.size) (hll : o.log.length < 1000000) (ho : R5.PO B og mb S w o dv ov) (hr : nxP o (qNone p) = r) :
    Calls Tryz.prog 16 #[.pointer (some ⟨og, 0, none⟩), .int .i64 (p : Int)] w fun e w' => PR B og mb S w r.2 dv (R5.okV r.1) e w' := by
  have hA := nxP_len ho (qNone p)
  rw [hr] at hA
  have hz := fun W => R5.zero_dig W
  obtain ⟨ZL, hZL⟩ : ∃ L, L = (List.replicate 32 (0 : UInt8)).map B8 := ⟨_, rfl⟩
  rw [← hZL] at hz
  have HZS : Hid (ZL.toArray.size = 32) := by show _ = _; rw [hZL]; simp
  have HZ1 : Hid (ZL.toArray.all (·.oneCell') = true) := by show _ = _; rw [hZL]; exact R5.B8_onea _
  have HAS : Hid ((r.1.map B8).toArray.size = 32) := by show _ = _; simpa using hA
  have HA1 : Hid _ := R5.B8_onea r.1
  have HOK : Hid (R5.okV r.1 = .tuple #[.agg (r.1.map B8).toArray, .int .i64 0]) := rfl
  have HO : Hid (R5.PO B og mb S w o dv ov) := ho
  have HA : Hid (∀ W b1, Below w.heap.size w W → W.cell? ⟨b1, 0, none⟩ = some (.pointer (some ⟨og, 0, none⟩)) → Calls Tryz.prog 28 #[.pointer (some ⟨og, 0, none⟩), .int .i64 (p : Int), .int .u64 0, .func (.func 32) #[] #[.pointer (some ⟨b1, 0, none⟩)]] W fun e w' => PR B og mb S W r.2 dv (R5.okV r.1) e w') := fun W b1 hW h1 => by
    refine askedN_ok B og mb S r dv ov o p 0 b1 W hA hp (by decide) (Nat.le_trans hB hW.size) (ho.below hW) (fun W2 p1 c1 p2 c2 hW2 hv1 hv2 => ?_)
    have hs := hW.size
    exact none1_any B og mb S p1 _ c1 b1 _ r dv ov o W2 (W1.le_length 8 p) (by have := hW2.size; omega) hll ((ho.below hW).below hW2) ((hW2.cell (block_lt h1)).trans h1) hv1 hr
  have HT0 : Hid _ := ((RS.start w).alloc w.heap.size rfl 31 [.pointer (some ⟨og, 0, none⟩)]).alloc (w.heap.size + 1) (by simp) 23 ZL
  rw [HOK.out] at HA ⊢
  clear hZL hp hll hr ho hA HOK
  generalize r.1.map B8 = AL at *
  go_enter Tryz.func16, Tryz.ntmps16
  go_upto_region 1 with fail
  generalize World.alloc _ _ = X0 at *
  have hco := HT0.out.cell 1 rfl 0 rfl
  go_wp2_with fail
  refine Calls.mono (HA.out X0 _ HT0.out.bel hco) ?_
  intro e X1 hP
  have he : e = .returned (.tuple #[.agg AL.toArray, .int .i64 0]) := hP.1
  subst he
  have HRZ : Hid (X1.heap[w.heap.size + 1]? = some (.cells ZL.toArray 23 (0, 0))) := pr_row HO.out (by omega) (HT0.out.at 0 rfl) hP
  have HEND : Hid (PR B og mb S w r.2 dv (.tuple #[.agg AL.toArray, .int .i64 0]) (.returned (.tuple #[.agg AL.toArray, .int .i64 0])) (X1.setRow (w.heap.size + 1) AL.toArray)) := pr_end HO.out hB HT0.out.bel hP ((R5.Fr.refl _ _).setRow _ _ (.inl ⟨by omega, R5.row_lt (HT0.out.at 0 rfl)⟩))
  clear hP HA HT0 hco
  go_wp2_with (refine wpList_store_row rfl 23 _ _ rfl (w.heap.size + 1) AL.toArray rfl rfl 23 ZL.toArray HRZ.out (R5.info32a _ HAS.out) (HZS.out.trans HAS.out.symm) HA1.out ?_)
  refine bodyPost_ret (v := .tuple #[.agg AL.toArray, .int .i64 0]) ?_ rfl HEND.out
  exact R5.results_dig2 Tryz.results16 _ _ (w.heap.size + 1) 23 _ (0, 0) _ rfl rfl (setRow_heap _ _ _ _ _ _ HRZ.out) (R5.info32a _ HAS.out)
end Go.Proofs.YtbmmibmfjhehhaaGreat.BC
