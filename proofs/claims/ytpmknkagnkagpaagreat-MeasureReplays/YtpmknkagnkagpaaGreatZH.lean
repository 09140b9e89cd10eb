/- measure: the closures by which records are measured. -/
import Derived.Test.YtpmknkagnkagpaaGreatZG
set_option linter.unusedVariables false
set_option linter.unusedSimpArgs false
namespace Go.Proofs.YtpmknkagnkagpaaGreat.ZC
open Go.RowKit

theorem hp3 (X : World) (a b c : Value) (la lb lc : List UInt8) (ha : HB X a la) (hb : HB X b lb) (hc : HB X c lc) : R5.HP (X.alloc (.cells #[a, b, c] 78 (0, 0))) (.slice (some ⟨X.heap.size, 0, none⟩) 3 3) [la, lb, lc] := by
  refine ⟨_, 3, rfl, fun i hi => ?_⟩
  have hbel : Below X.heap.size X (X.alloc (.cells #[a, b, c] 78 (0, 0))) := (Below.refl _ _).alloc (Nat.le_refl _) _
  have : i = 0 ∨ i = 1 ∨ i = 2 := by simp at hi; omega
  rcases this with rfl | rfl | rfl
  · exact ⟨_, a, rfl, by rw [cell_of_row _ _ 0 _ _ _ (heap_alloc_new _ _)]; rfl, ha.below hbel⟩
  · exact ⟨_, b, rfl, by rw [cell_of_row _ _ 1 _ _ _ (heap_alloc_new _ _)]; rfl, hb.below hbel⟩
  · exact ⟨_, c, rfl, by rw [cell_of_row _ _ 2 _ _ _ (heap_alloc_new _ _)]; rfl, hc.below hbel⟩
theorem hp2 (X : World) (a b : Value) (la lb : List UInt8) (ha : HB X a la) (hb : HB X b lb) : R5.HP (X.alloc (.cells #[a, b] 78 (0, 0))) (.slice (some ⟨X.heap.size, 0, none⟩) 2 2) [la, lb] := by
  refine ⟨_, 2, rfl, fun i hi => ?_⟩
  have hbel : Below X.heap.size X (X.alloc (.cells #[a, b] 78 (0, 0))) := (Below.refl _ _).alloc (Nat.le_refl _) _
  have : i = 0 ∨ i = 1 := by simp at hi; omega
  rcases this with rfl | rfl
  · exact ⟨_, a, rfl, by rw [cell_of_row _ _ 0 _ _ _ (heap_alloc_new _ _)]; rfl, ha.below hbel⟩
  · exact ⟨_, b, rfl, by rw [cell_of_row _ _ 1 _ _ _ (heap_alloc_new _ _)]; rfl, hb.below hbel⟩
theorem hp1 (X : World) (a : Value) (la : List UInt8) (ha : HB X a la) : R5.HP (X.alloc (.cells #[a] 78 (0, 0))) (.slice (some ⟨X.heap.size, 0, none⟩) 1 1) [la] := by
  refine ⟨_, 1, rfl, fun i hi => ?_⟩
  have hbel : Below X.heap.size X (X.alloc (.cells #[a] 78 (0, 0))) := (Below.refl _ _).alloc (Nat.le_refl _) _
  have : i = 0 := by simp at hi; omega
  subst this
  exact ⟨_, a, rfl, by rw [cell_of_row _ _ 0 _ _ _ (heap_alloc_new _ _)]; rfl, ha.below hbel⟩
theorem bs3 (w : World) (a b c : Value) (pa pb pc : Option Addr) (na nb nc ca cb cc : Nat) (ha : a = .slice pa na ca) (hb : b = .slice pb nb cb) (hc : c = .slice pc nc cc) : (Instr.buildSlice 97 3 #[(0, a), (1, b), (2, c)]).run Tryz.prog w = .ok (.slice (some ⟨w.heap.size, 0, none⟩) 3 3) (w.alloc (.cells #[a, b, c] 78 (0, 0))) := by
  subst ha hb hc; kernel_rfl
theorem bs2 (w : World) (a b : Value) (pa pb : Option Addr) (na nb ca cb : Nat) (ha : a = .slice pa na ca) (hb : b = .slice pb nb cb) : (Instr.buildSlice 97 2 #[(0, a), (1, b)]).run Tryz.prog w = .ok (.slice (some ⟨w.heap.size, 0, none⟩) 2 2) (w.alloc (.cells #[a, b] 78 (0, 0))) := by
  subst ha hb; kernel_rfl
theorem bs1 (w : World) (a : Value) (pa : Option Addr) (na ca : Nat) (ha : a = .slice pa na ca) : (Instr.buildSlice 97 1 #[(0, a)]).run Tryz.prog w = .ok (.slice (some ⟨w.heap.size, 0, none⟩) 1 1) (w.alloc (.cells #[a] 78 (0, 0))) := by
  subst ha; kernel_rfl
theorem wp_bslice {o : Oper} {a : Act} {K : Act → World → Prop} {Q : Exit → Act → World → Prop} {w w' : World} (t : TypeId) (n : Nat) (parts : Array (Nat × Operand)) (ho : o.op = .buildSlice t n parts) (vals : Array (Nat × Value)) (v : Value) (hp : (parts.map fun (i, x) => (i, a.eval x)) = vals)
    (hr : (Instr.buildSlice t n vals).run Tryz.prog w = .ok v w') (h : K (a.put o.dst v) w') : o.wp Tryz.prog a w K Q := by
  unfold Oper.wp execOp
  simp only [ho, Sem.run_bind, hp, hr, Result.andThen_ok]
  exact h
theorem alloc3 (w : World) (A B C : Array Value) (t u v : TypeId) (W : World) (hW : W = ((w.alloc (.cells A t (0, 0))).alloc (.cells B u (0, 0))).alloc (.cells C v (0, 0))) : Below w.heap.size w W ∧ W.heap.size = w.heap.size + 3 ∧ W.heap[w.heap.size]? = some (.cells A t (0, 0)) ∧ W.heap[w.heap.size + 1]? = some (.cells B u (0, 0)) ∧ W.heap[w.heap.size + 1 + 1]? = some (.cells C v (0, 0)) := by
  subst hW
  obtain ⟨h1, h2, h3⟩ := alloc2 w A B t u
  exact ⟨h1.alloc (by simp; omega) _, by simp, (heap_alloc_old _ _ (by simp; omega)).trans h2, (heap_alloc_old _ _ (by simp)).trans h3, PC.heap_at _ _ _ (by simp)⟩
structure SC (w : World) (b2 : Nat) (cv : Value) (ML RL : List Value) (X : World) : Prop where
  m : X.heap[w.heap.size]? = some (.cells ML.toArray 24 (0, 0))
  r : X.heap[w.heap.size + 1]? = some (.cells RL.toArray 33 (0, 0))
  z : ∃ Z, Z.size = 32 ∧ X.heap[w.heap.size + 1 + 1]? = some (.cells Z 24 (0, 0))
  c : X.heap[b2]? = some (.cells #[cv] 100 (0, 0))
theorem SC.keep {w : World} {b2 : Nat} {cv : Value} {ML RL : List Value} {X Y : World} (h : SC w b2 cv ML RL X) (hk : ∀ k, k = w.heap.size ∨ k = w.heap.size + 1 ∨ k = w.heap.size + 1 + 1 ∨ k = b2 → k < X.heap.size → Y.heap[k]? = X.heap[k]?) : SC w b2 cv ML RL Y := by
  obtain ⟨Z, hz1, hz2⟩ := h.z
  exact ⟨(hk _ (.inl rfl) (PC.row_lt h.m)).trans h.m, (hk _ (.inr (.inl rfl)) (PC.row_lt h.r)).trans h.r, ⟨Z, hz1, (hk _ (.inr (.inr (.inl rfl))) (PC.row_lt hz2)).trans hz2⟩, (hk _ (.inr (.inr (.inr rfl))) (PC.row_lt h.c)).trans h.c⟩
theorem SC.below {w : World} {b2 : Nat} {cv : Value} {ML RL : List Value} {X Y : World} (h : SC w b2 cv ML RL X) (hb : Below X.heap.size X Y) : SC w b2 cv ML RL Y := h.keep (fun k _ hl => hb.block k hl)
theorem SC.cell {w : World} {b2 : Nat} {cv : Value} {ML RL : List Value} {X : World} (h : SC w b2 cv ML RL X) : X.cell? ⟨b2, 0, none⟩ = some cv := by rw [cell_of_row _ _ 0 _ _ _ h.c]; rfl
theorem sliceGr (W : World) (b o : Nat) : (Instr.sliceAt 27 (.pointer (some ⟨b, o, none⟩)) none none none).run Tryz.prog W = .ok (.slice (some ⟨b, o, none⟩) 128 128) W := by
  have ha : Tryz.prog.arrayLen 27 = 128 := by kernel_rfl
  have hu : Tryz.prog.underlying 27 = some (.array (Tryz.prog.arrayLen 27) (Tryz.prog.elem 27)) := by kernel_rfl
  have he : Tryz.prog.elem 27 = 5 := by kernel_rfl
  rw [run_sliceAt_array_all W 27 _ hu, he, PC.size_u8, ha]
  have hadd : (⟨b, o, none⟩ : Addr).add (0 * 1) = ⟨b, o, none⟩ := by unfold Addr.add; split <;> simp_all
  simp [Result.andThen, slicedAt, hadd]
section
variable (B og mb b1 b2 mp : Nat) (S : Nat → Prop) (dv ov : Value) (o o' : R5.Pra) (m A : List UInt8) (r : Rd) (w : World)
set_option maxHeartbeats 400000 in
set_option maxRecDepth 100000 in
theorem c2_any (hB : B ≤ w.heap.size) (hll : o.log.length < 1000000) (ho : R5.PO B og mb S w o dv ov) (hz0 : MZ og b1 b2 mp w) (hn2 : ¬ S b2) (hm : m.length = 32) (hr : r.ok) (hA : A.length = 32) (hR : nxP o ⟨1, Z0, 1, r.value⟩ = (A, o')) :
    Calls Tryz.prog 48 #[.agg (m.map B8).toArray, .agg (rdL r).toArray, .pointer (some ⟨b2, 0, none⟩)] w fun e w' => PR B og mb S w o' dv (.agg (A.map B8).toArray) e w' := by
  have HDC2 : Hid (∀ (W : World) (pv : Value), Below w.heap.size w W → R5.HP W pv ([r.value]) → Calls Tryz.prog 46 #[.int .i64 1, pv, .pointer (some ⟨b1, 0, none⟩)] W fun e w' => PR B og mb S W o' dv (.agg (A.map B8).toArray) e w') := fun W pv hbW hpv => by
    have h := dcl_any B og mb b1 S pv dv ov o 1 ([r.value]) W (Nat.le_trans hB hbW.size) hll (ho.below hbW) hpv (by simp) (by simp [hr.v]) (by decide) ((hbW.block _ (PC.row_lt hz0.c1)).trans hz0.c1)
    have e : ([r.value]).flatten = (r.value) := by simp
    rw [e, hR] at h
    exact h
  have HAS : Hid ((A.map B8).toArray.size = 32) := by show _ = _; simpa using hA
  have HA1 : Hid _ := R5.B8_onea A
  clear hR hA
  generalize (A.map B8).toArray = AA at *
  have hz := fun W => R5.zero_dig W
  obtain ⟨ZL, hZL⟩ : ∃ L, L = (List.replicate 32 (0 : UInt8)).map B8 := ⟨_, rfl⟩
  rw [← hZL] at hz
  have HZS : Hid (ZL.toArray.size = 32) := by show _ = _; rw [hZL]; simp
  have HZ1 : Hid (ZL.toArray.all (·.oneCell') = true) := by show _ = _; rw [hZL]; exact R5.B8_onea _
  clear hZL
  obtain ⟨V1, hW1⟩ : ∃ V1, V1 = ((w.alloc (.cells (m.map B8).toArray 24 (0, 0))).alloc (.cells (rdL r).toArray 33 (0, 0))).alloc (.cells ZL.toArray 24 (0, 0)) := ⟨_, rfl⟩
  obtain ⟨hb1, hs1, hr0, hr1, hr2⟩ := alloc3 w _ _ _ _ _ _ V1 hW1
  have hbl := PC.row_lt hz0.c2
  have HSC : Hid (SC w b2 (clo 46 b1) (m.map B8) (rdL r) V1) := ⟨hr0, hr1, ⟨_, HZS.out, hr2⟩, (hb1.block _ hbl).trans hz0.c2⟩
  have HMZ : Hid (MZ og b1 b2 mp w) := hz0
  have HO : Hid (R5.PO B og mb S w o dv ov) := ho
  have HB1 : Hid (Below w.heap.size w V1) := hb1
  have HS1 : Hid (V1.heap.size = w.heap.size + 3) := hs1
  have HVAL : Hid (((rdL r).drop 1).take 32 = r.value.map B8) := by show _ = _; rw [List.drop_one]; exact rdL_val hr
  have HDAT : Hid (((rdL r).drop 34).take 128 = r.data.map B8) := rdL_dat hr
  have HREC : Hid (((rdL r).drop 162).take 10 = PC.rcL r.pc r.rs r.run) := rdL_rec hr
  have HC33 : Hid ((rdL r)[33]? = some (.int .i64 r.page)) := rdL_33 hr
  have HROK : Hid r.ok := hr
  have HML : Hid (m.length = 32) := hm
  obtain ⟨W2, hW2⟩ : ∃ W2, W2 = V1.drew := ⟨_, rfl⟩
  have HSD : Hid (SC w b2 (clo 46 b1) (m.map B8) (rdL r) V1.drew) := ⟨HSC.out.m, HSC.out.r, HSC.out.z, HSC.out.c⟩
  have HBX : Hid (Below w.heap.size w V1.drew) := HB1.out.drew
  have HSX : Hid (w.heap.size + 3 ≤ V1.drew.heap.size) := Nat.le_of_eq HS1.out.symm
  rw [hW1] at HSD HBX HSX
  clear hW2 hW1 hb1 hs1 hr0 hr1 hr2 ho hz0 hm hr hbl HSC HB1 HS1
  generalize rdL r = RL at *
  generalize hMLL : m.map B8 = MLL at *
  clear hMLL
  have hsl := fun W => R5.sliceDig W (w.heap.size + 1) 1
  go_enter Tryz.func48, Tryz.ntmps48
  go_wp2
  refine wp_region_held_drew (S := SC w b2 (clo 46 b1) MLL RL) (by kernel_rfl) HSD.out (fun hHeld => ?_)
  generalize (((w.alloc (.cells MLL.toArray 24 (0, 0))).alloc (.cells RL.toArray 33 (0, 0))).alloc (.cells ZL.toArray 24 (0, 0))).drew = X at *
  refine wpAnyH_take (i := 0) (oi := ⟨some 6, .load 100 (.tmp 2), 100, _, #[], none⟩) (v := .func (.func 46) #[] #[.pointer (some ⟨b1, 0, none⟩)]) rfl (by kernel_rfl) (by kernel_rfl) (by kernel_rfl) (fun _ _ _ h => h) (Or.inl ⟨by rfl, fun w' hw' => ?_⟩) hHeld ?_
  · have hcc := hw'.cell; unfold clo at hcc; first | (go_simp; done) | (go_simp; rfl)
  try simp only [Act.put, qT, q0, qS]
  refine wpAnyH_take (i := 1) (oi := ⟨some 7, .fieldAddr 33 (.tmp 4) 1, 0, _, #[], none⟩) (v := .pointer (some ⟨w.heap.size + 1, 1, none⟩)) rfl (by kernel_rfl) (by kernel_rfl) (by kernel_rfl) (fun _ _ _ h => h) (Or.inl ⟨by rfl, fun w' hw' => ?_⟩) hHeld ?_
  · first | (go_simp; done) | (go_simp; rfl)
  try simp only [Act.put, qT, q0, qS]
  refine wpAnyH_take (i := 2) (oi := ⟨some 8, .slice 24 (.tmp 7) none none none, 78, _, #[⟨1, .data⟩], none⟩) (v := .slice (some ⟨w.heap.size + 1, 1, none⟩) 32 32) rfl (by kernel_rfl) (by kernel_rfl) (by kernel_rfl) (fun _ _ _ h => h) (Or.inl ⟨by rfl, fun w' hw' => ?_⟩) hHeld ?_
  · first | (go_simp; done) | (go_simp; rfl)
  try simp only [Act.put, qT, q0, qS]
  refine wpAnyH_ready (rs := [3]) (by kernel_rfl) (by simp) ?_
  refine AllReadyH.cons (o := ⟨some 9, .buildSlice 97 1 #[(0, .tmp 8)], 97, _, #[⟨2, .data⟩], none⟩) rfl (fun K hK => ?_) AllReadyH.nil
  rw [if_pos (by rfl)]
  have hHB : HB X (.slice (some ⟨w.heap.size + 1, 1, none⟩) 32 32) r.value := PC.hb_range 32 HROK.out.v.symm (by rw [HROK.out.v]; decide) (by decide) (by have h3 := PC.rangeAt_part (PC.rangeAt_row hHeld.r) 1 32; rw [HVAL.out] at h3; exact h3)
  have hsX := HSX.out
  have HHP : Hid (R5.HP (X.alloc (.cells #[.slice (some ⟨w.heap.size + 1, 1, none⟩) 32 32] 78 (0, 0))) (.slice (some ⟨X.heap.size, 0, none⟩) 1 1) [r.value]) := hp1 X _ _ hHB
  have HBY : Hid (Below w.heap.size w (X.alloc (.cells #[.slice (some ⟨w.heap.size + 1, 1, none⟩) 32 32] 78 (0, 0)))) := HBX.out.alloc (by omega) _
  have HSY : Hid (w.heap.size + 3 ≤ (X.alloc (.cells #[.slice (some ⟨w.heap.size + 1, 1, none⟩) 32 32] 78 (0, 0))).heap.size) := by show _ ≤ _; simp; omega
  have hSY := hHeld.below ((Below.refl _ X).alloc (Nat.le_refl _) (.cells #[.slice (some ⟨w.heap.size + 1, 1, none⟩) 32 32] 78 (0, 0)))
  refine wp_bslice 97 1 _ rfl #[(0, .slice (some ⟨w.heap.size + 1, 1, none⟩) 32 32)] _ (by simp; first | done | rfl) (bs1 X _ _ _ _ rfl) ?_
  clear hHeld hHB
  refine hK.out _ _ hSY (fun _ => ?_)
  clear hK K
  try simp only [Act.put, qT, q0, qS]
  have HCL : Hid (Calls Tryz.prog 46 #[.int .i64 1, .slice (some ⟨X.heap.size, 0, none⟩) 1 1, .pointer (some ⟨b1, 0, none⟩)] (X.alloc (.cells #[.slice (some ⟨w.heap.size + 1, 1, none⟩) 32 32] 78 (0, 0))) fun e w' => PR B og mb S (X.alloc (.cells #[.slice (some ⟨w.heap.size + 1, 1, none⟩) 32 32] 78 (0, 0))) o' dv (.agg AA) e w') := HDC2.out _ _ HBY.out HHP.out
  generalize X.alloc (.cells #[.slice (some ⟨w.heap.size + 1, 1, none⟩) 32 32] 78 (0, 0)) = Y at *
  generalize X.heap.size = xs at *
  have hHeld := hSY
  clear hsX
  refine wpAnyH_ready (rs := [4]) (by kernel_rfl) (by simp) ?_
  refine AllReadyH.cons (o := { dst := some 10, op := .call { callee := Go.Callee.value (.tmp 6), args := #[.const (Go.Value.int Go.IntKind.i64 1), .tmp 9], argTypes := #[75, 97] }, type := 24, pos := _, after := #[⟨0, .data⟩, ⟨3, .data⟩], guard := none }) rfl (fun K hK => ?_) AllReadyH.nil
  rw [if_pos (by rfl)]
  go_wp2_with fail
  refine Calls.mono HCL.out ?_
  rintro e w5 ⟨rfl, hfr, hpo⟩
  have hY := HBY.out.size
  have hsY := HSY.out
  have hW5 := hfr.size
  have hkeep : ∀ k, k = w.heap.size ∨ k = w.heap.size + 1 ∨ k = w.heap.size + 1 + 1 ∨ k = b2 → k < Y.heap.size → w5.heap[k]? = Y.heap[k]? := fun k hk hl => hfr.block k hl (fun hS => by
    rcases hk with rfl | rfl | rfl | rfl
    · have := HO.out.top _ hS; omega
    · have := HO.out.top _ hS; omega
    · have := HO.out.top _ hS; omega
    · exact hn2 hS)
  have hS5 := hSY.keep hkeep
  obtain ⟨Z5, hz51, hz52⟩ := hS5.z
  have hr6 : (w5.setRow (w.heap.size + 1 + 1) AA).heap[w.heap.size + 1 + 1]? = some (.cells AA 24 (0, 0)) := setRow_heap _ _ _ _ _ _ hz52
  have hS6 : SC w b2 (clo 46 b1) MLL RL (w5.setRow (w.heap.size + 1 + 1) AA) := ⟨(setRow_other _ _ _ _ (by omega)).trans hS5.m, (setRow_other _ _ _ _ (by omega)).trans hS5.r, ⟨AA, HAS.out, hr6⟩, (setRow_other _ _ _ _ (by have := PC.row_lt HMZ.out.c2; omega)).trans hS5.c⟩
  have HEND : Hid (PR B og mb S w o' dv (.agg AA) (.returned (.agg AA)) (w5.setRow (w.heap.size + 1 + 1) AA)) := ⟨rfl, pfin HO.out hB HBY.out hfr hpo ((R5.Fr.refl _ _).setRow _ _ (.inl ⟨by omega, by omega⟩))⟩
  clear hfr hpo hkeep hsY
  clear hHeld
  refine hK.out _ _ hS5 (fun _ => ?_)
  clear hK K
  try simp only [Act.put, qT, q0, qS]
  have hHeld := hS5
  refine wpAnyH_ready (rs := [5]) (by kernel_rfl) (by simp) ?_
  refine AllReadyH.cons (o := ⟨none, .store 24 (.tmp 5) (.tmp 10), 0, _, #[⟨4, .data⟩, ⟨4, .chain⟩, ⟨0, .phase⟩, ⟨1, .phase⟩, ⟨2, .phase⟩, ⟨3, .phase⟩, ⟨4, .phase⟩], none⟩) rfl (fun K hK => ?_) AllReadyH.nil
  rw [if_pos (by rfl)]
  refine wp_store_row 24 _ _ rfl (w.heap.size + 1 + 1) AA rfl rfl 24 Z5 hz52 (R5.info32a _ HAS.out) (hz51.trans HAS.out.symm) HA1.out ?_
  refine hK.out _ _ hS6 (fun _ => ?_)
  clear hK K
  try simp only [Act.put, qT, q0, qS]
  refine wpAnyH_done (by kernel_rfl) ?_ _
  have HR6 : Hid _ := hr6
  clear hHeld hS5 hS6 hz51 hz52 hr6
  go_wp2
  refine bodyPost_ret (v := .agg AA) ?_ rfl HEND.out
  exact results_cell_row Tryz.results48 _ _ (w.heap.size + 1 + 1) 24 _ (0, 0) _ rfl HR6.out Tryz.underlying24 rfl (R5.info32a _ HAS.out)
end
end Go.Proofs.YtpmknkagnkagpaaGreat.ZC
