/- The document's Begin, Data, Rec. -/
import Derived.Test.YtpmknkagnkagpaaGreatZX
import Derived.Test.YtpmknkagnkagpaaGreatZL
import Derived.Test.YtpmknkagnkagpaaGreatWs
set_option linter.unusedVariables false
set_option linter.unusedSimpArgs false
namespace Go.Proofs.YtpmknkagnkagpaaGreat.ZC
open Go.RowKit

theorem hl2 (X : World) (a b : Value) (la lb : List UInt8) (ha : HB X a la) (hb : HB X b lb) : PC.HL (X.alloc (.cells #[a, b] 78 (0, 0))) X.heap.size [la, lb] := fun i hi => by
  have hbel : Below X.heap.size X (X.alloc (.cells #[a, b] 78 (0, 0))) := (Below.refl _ _).alloc (Nat.le_refl _) _
  have : i = 0 ∨ i = 1 := by simp at hi; omega
  rcases this with rfl | rfl
  · exact ⟨a, by rw [cell_of_row _ _ 0 _ _ _ (heap_alloc_new _ _)]; rfl, ha.below hbel⟩
  · exact ⟨b, by rw [cell_of_row _ _ 1 _ _ _ (heap_alloc_new _ _)]; rfl, hb.below hbel⟩
section
variable {B og : Nat} {S : Nat → Prop} {dv lv : Value} {o : R5.Ora} {lds : List Value} {t : TypeId}
theorem rdigS {w W : World} {r : List UInt8 × R5.Ora} (d : Int) (v : Value) (l : List UInt8) (hll : o.log.length < 1000000) (hu : o.used < 1000000) (hl : l.length ≤ 1000000) (hB : B ≤ w.heap.size) (ho : R5.OR B og S w o dv lv lds t) (hb : Below w.heap.size w W) (hv : HB W v l) (hvb : l ≠ [] → ∀ k, v.ownBlock = some k → w.heap.size ≤ k) (hr : R5.rNx o ⟨1, Z0, d, l⟩ = r) :
    Calls Tryz.prog 42 #[.pointer (some ⟨og, 0, none⟩), .int .i64 d, v] W fun e w' => R5.QEnd B og S W r dv t e w' := by
  rw [← hr]
  exact R5.rdigG B og S v dv lv o lds t d l W hll hu (by omega) (Nat.le_trans hB hb.size) (ho.keep hb.size (fun k hk _ => hb.block k hk)) hv (fun hne e => by have := hvb hne og e; have := ho.top og ho.sog; omega)
set_option maxHeartbeats 1000000 in
set_option maxRecDepth 100000 in
theorem rbegin_any (V : List UInt8) (w : World) (r : List UInt8 × R5.Ora) (hV : V.length = 32) (hll : o.log.length < 1000000) (hu : o.used < 1000000) (hB : B ≤ w.heap.size) (ho : R5.OR B og S w o dv lv lds t) (hr : R5.rNx o ⟨1, Z0, 1, V⟩ = r) :
    Calls Tryz.prog 39 #[.pointer (some ⟨og, 0, none⟩), .agg (V.map B8).toArray] w fun e w' => R5.QEnd B og S w r dv t e w' := by
  have hAl := R5.rNx_len ho ⟨1, Z0, 1, V⟩
  rw [hr] at hAl
  have hz := fun W => R5.zero_dig W
  obtain ⟨ZL, hZL⟩ : ∃ L, L = (List.replicate 32 (0 : UInt8)).map B8 := ⟨_, rfl⟩
  rw [← hZL] at hz
  have HZS : Hid (ZL.toArray.size = 32) := by show _ = _; rw [hZL]; simp
  have HZ1 : Hid (ZL.toArray.all (·.oneCell') = true) := by show _ = _; rw [hZL]; exact R5.B8_onea _
  obtain ⟨hb0, h0, h1⟩ := alloc2 w (V.map B8).toArray ZL.toArray 24 24
  obtain ⟨X1, hX1⟩ : ∃ X, X = (w.alloc (.cells (V.map B8).toArray 24 (0, 0))).alloc (.cells ZL.toArray 24 (0, 0)) := ⟨_, rfl⟩
  rw [← hX1] at hb0 h0 h1
  have HD : Hid (Calls Tryz.prog 42 #[.pointer (some ⟨og, 0, none⟩), .int .i64 1, .slice (some ⟨w.heap.size, 0, none⟩) 32 32] X1 fun e w' => R5.QEnd B og S X1 r dv t e w') := rdigS 1 _ V hll hu (by omega) hB ho hb0 (PC.hb_range 32 hV.symm (by rw [hV]; decide) (by decide) (PC.rangeAt_row h0)) (fun _ k e => by have e' : w.heap.size = k := (by simpa [Value.ownBlock] using e); omega) hr
  have HB0 : Hid (Below w.heap.size w X1) := hb0
  have H1 : Hid (X1.heap[w.heap.size + 1]? = some (.cells ZL.toArray 24 (0, 0))) := h1
  have HOR : Hid (R5.OR B og S w o dv lv lds t) := ho
  have HX1 : Hid (X1 = (w.alloc (.cells (V.map B8).toArray 24 (0, 0))).alloc (.cells ZL.toArray 24 (0, 0))) := hX1
  have HAS : Hid ((r.1.map B8).toArray.size = 32) := by show _ = _; simpa using hAl
  have HA1 : Hid _ := R5.B8_onea r.1
  have hsl := fun W => R5.sliceDig W w.heap.size 0
  rw [hX1] at HD
  clear hZL hb0 h0 h1 hX1 hV ho hAl hr
  generalize V.map B8 = VL at *
  go_enter Tryz.func39, Tryz.ntmps39
  go_wp2_with fail
  refine Calls.mono HD.out ?_
  rintro e w3 ⟨rfl, hfr, hor⟩
  rw [← HX1.out] at hfr hor
  have hl1 := PC.row_lt H1.out
  have HR3 : Hid (w3.heap[w.heap.size + 1]? = some (.cells ZL.toArray 24 (0, 0))) := (hfr.block _ hl1 (fun h => by have := HOR.out.top _ h; omega)).trans H1.out
  have HEND : Hid (R5.QEnd B og S w r dv t (.returned (.agg (r.1.map B8).toArray)) (w3.setRow (w.heap.size + 1) (r.1.map B8).toArray)) := ⟨rfl, R5.rfin HOR.out hB HB0.out hfr hor ((R5.Fr.refl _ _).setRow _ _ (.inl ⟨by omega, hl1⟩))⟩
  clear hfr hor hl1 HD
  go_wp2_with (refine wpList_store_row rfl 24 _ _ rfl (w.heap.size + 1) (r.1.map B8).toArray rfl rfl 24 ZL.toArray HR3.out (R5.info32a _ HAS.out) (HZS.out.trans HAS.out.symm) HA1.out ?_)
  refine bodyPost_ret (v := .agg (r.1.map B8).toArray) ?_ rfl HEND.out
  exact results_cell_row Tryz.results39 _ _ (w.heap.size + 1) 24 _ (0, 0) _ rfl (setRow_heap _ _ _ _ _ _ HR3.out) Tryz.underlying24 rfl (R5.info32a _ HAS.out)
set_option maxHeartbeats 1000000 in
set_option maxRecDepth 100000 in
theorem rdata_any (m : List UInt8) (pg : Nat) (g : List UInt8) (w : World) (r : List UInt8 × R5.Ora) (hm : m.length = 32) (hg : g.length = 128) (hpl : pg < 128) (hll : o.log.length < 1000000) (hu : o.used < 1000000) (hB : B ≤ w.heap.size) (ho : R5.OR B og S w o dv lv lds t) (hr : R5.rNx o ⟨1, Z0, 2, m ++ (W1.le 8 pg ++ g)⟩ = r) :
    Calls Tryz.prog 34 #[.pointer (some ⟨og, 0, none⟩), .agg (m.map B8).toArray, .int .i64 (pg : Int), .agg (g.map B8).toArray] w fun e w' => R5.QEnd B og S w r dv t e w' := by
  have hAl := R5.rNx_len ho ⟨1, Z0, 2, m ++ (W1.le 8 pg ++ g)⟩
  rw [hr] at hAl
  have hz := fun W => R5.zero_dig W
  obtain ⟨ZL, hZL⟩ : ∃ L, L = (List.replicate 32 (0 : UInt8)).map B8 := ⟨_, rfl⟩
  rw [← hZL] at hz
  have HZS : Hid (ZL.toArray.size = 32) := by show _ = _; rw [hZL]; simp
  have HZ1 : Hid (ZL.toArray.all (·.oneCell') = true) := by show _ = _; rw [hZL]; exact R5.B8_onea _
  obtain ⟨V1, hV1⟩ : ∃ W1, W1 = ((w.alloc (.cells (m.map B8).toArray 24 (0, 0))).alloc (.cells (g.map B8).toArray 27 (0, 0))).alloc (.cells ZL.toArray 24 (0, 0)) := ⟨_, rfl⟩
  obtain ⟨hb1, hs1, hr0, hr1, hr2⟩ := alloc3 w _ _ _ _ _ _ V1 hV1
  have HSW : Hid (SW w 27 (m.map B8) (g.map B8) V1) := ⟨hr0, hr1, ⟨_, HZS.out, hr2⟩⟩
  have HB1 : Hid (Below w.heap.size w V1) := hb1
  have HS1 : Hid (w.heap.size + 3 ≤ V1.heap.size) := Nat.le_of_eq hs1.symm
  have HOR : Hid (R5.OR B og S w o dv lv lds t) := ho
  have HAS : Hid ((r.1.map B8).toArray.size = 32) := by show _ = _; simpa using hAl
  have HA1 : Hid _ := R5.B8_onea r.1
  have HML : Hid (m.length = 32) := hm
  have HDIG : Hid (∀ (W : World) (v : Value), Below w.heap.size w W → HB W v (m ++ (W1.le 8 pg ++ g)) → (∀ k, v.ownBlock = some k → w.heap.size ≤ k) → Calls Tryz.prog 42 #[.pointer (some ⟨og, 0, none⟩), .int .i64 2, v] W fun e w' => R5.QEnd B og S W r dv t e w') := fun W v hW hv hvb => rdigS 2 v (m ++ (W1.le 8 pg ++ g)) hll hu (by simp [hm, W1.le_length, hg]) hB ho hW hv (fun _ => hvb) hr
  have HV1 : Hid (V1 = ((w.alloc (.cells (m.map B8).toArray 24 (0, 0))).alloc (.cells (g.map B8).toArray 27 (0, 0))).alloc (.cells ZL.toArray 24 (0, 0))) := hV1
  have HPUT : Hid (∀ W : World, Calls Tryz.prog 44 #[.int .u64 (pg : Int), .int .i64 (8 : Int)] W fun e w' => ∃ v, e = .returned v ∧ FB W.heap.size w' v (W1.le 8 pg) ∧ Below W.heap.size W w') := fun W => PC.refPut_any pg 8 W (by omega) (by decide)
  have HGL : Hid (g.length = 128) := hg
  have hwp2 : IntKind.u64.wrap (pg : Int) = (pg : Int) := by rw [W1.wrap_u64]; omega
  have HSD : Hid (SW w 27 (m.map B8) (g.map B8) V1.drew) := ⟨HSW.out.m, HSW.out.r, HSW.out.z⟩
  have HBD : Hid (Below w.heap.size w V1.drew) := HB1.out.drew
  have HSX0 : Hid (w.heap.size + 3 ≤ V1.drew.heap.size) := HS1.out
  rw [hV1] at HSD HBD HSX0
  clear hZL hb1 hs1 hr0 hr1 hr2 hm hg ho hAl hV1 HSW HB1 HS1 HV1 hr hpl
  have HME : Hid (∃ L, L = m.map B8) := ⟨_, rfl⟩
  obtain ⟨ML, hML⟩ : ∃ L, L = m.map B8 := ⟨_, rfl⟩
  obtain ⟨GL, hGL⟩ : ∃ L, L = g.map B8 := ⟨_, rfl⟩
  rw [← hML, ← hGL] at HSD HBD HSX0 ⊢
  have HMLE : Hid (ML = m.map B8) := hML
  have HGLE : Hid (GL = g.map B8) := hGL
  clear hML hGL HME
  have hsl := fun W => R5.sliceDig W w.heap.size 0
  have hsg := fun W => sliceGr W (w.heap.size + 1) 0
  go_enter Tryz.func34, Tryz.ntmps34
  go_wp2
  refine wp_region_held_drew (S := SW w 27 ML GL) (by kernel_rfl) HSD.out (fun hHeld => ?_)
  generalize (((w.alloc (.cells ML.toArray 24 (0, 0))).alloc (.cells GL.toArray 27 (0, 0))).alloc (.cells ZL.toArray 24 (0, 0))).drew = X0 at *
  refine wpAnyH_take (i := 0) (oi := ⟨some 9, .move (.tmp 0), 36, _, #[], none⟩) (v := .pointer (some ⟨og, 0, none⟩)) rfl (by kernel_rfl) (by kernel_rfl) (by kernel_rfl) (fun _ _ _ h => h) (Or.inl ⟨by rfl, fun w' hw' => ?_⟩) hHeld ?_
  · first | (go_simp; done) | (go_simp; rfl)
  try simp only [Act.put, qT, q0, qS]
  refine wpAnyH_take (i := 1) (oi := ⟨some 10, .slice 24 (.tmp 5) none none none, 78, _, #[], none⟩) (v := .slice (some ⟨w.heap.size, 0, none⟩) 32 32) rfl (by kernel_rfl) (by kernel_rfl) (by kernel_rfl) (fun _ _ _ h => h) (Or.inl ⟨by rfl, fun w' hw' => ?_⟩) hHeld ?_
  · first | (go_simp; done) | (go_simp; rfl)
  try simp only [Act.put, qT, q0, qS]
  refine wpAnyH_take (i := 2) (oi := ⟨some 11, .move (.tmp 2), 3, _, #[], none⟩) (v := .int .i64 (pg : Int)) rfl (by kernel_rfl) (by kernel_rfl) (by kernel_rfl) (fun _ _ _ h => h) (Or.inl ⟨by rfl, fun w' hw' => ?_⟩) hHeld ?_
  · first | (go_simp; done) | (go_simp; rfl)
  try simp only [Act.put, qT, q0, qS]
  refine wpAnyH_take (i := 3) (oi := ⟨some 12, .convert 3 28 (.tmp 11), 28, _, #[⟨2, .data⟩], none⟩) (v := .int .u64 (pg : Int)) rfl (by kernel_rfl) (by kernel_rfl) (by kernel_rfl) (fun _ _ _ h => h) (Or.inl ⟨by rfl, fun w' hw' => ?_⟩) hHeld ?_
  · first | (go_simp; done) | (go_simp; rfl)
  try simp only [Act.put, qT, q0, qS]
  refine wpAnyH_take (i := 5) (oi := ⟨some 14, .slice 27 (.tmp 7) none none none, 78, _, #[], none⟩) (v := .slice (some ⟨w.heap.size + 1, 0, none⟩) 128 128) rfl (by kernel_rfl) (by kernel_rfl) (by kernel_rfl) (fun _ _ _ h => h) (Or.inl ⟨by rfl, fun w' hw' => ?_⟩) hHeld ?_
  · first | (go_simp; done) | (go_simp; rfl)
  try simp only [Act.put, qT, q0, qS]
  refine wpAnyH_ready (rs := [4]) (by kernel_rfl) (by simp) ?_
  refine AllReadyH.cons (o := { dst := some 13, op := .call { callee := Go.Callee.value (.func 44), args := #[.tmp 12, .const (Go.Value.int Go.IntKind.i64 8)], argTypes := #[28, 3] }, type := 78, pos := _, after := #[⟨3, .data⟩], guard := none }) rfl (fun K hK => ?_) AllReadyH.nil
  rw [if_pos (by rfl)]
  go_wp2_with fail
  refine Calls.mono (HPUT.out X0) ?_
  rintro e X ⟨v4, rfl, hf4, hb4⟩
  have hSX := hHeld.keep (fun k _ hl => hb4.block k hl)
  have HBX : Hid (Below w.heap.size w X) := HBD.out.trans (hb4.mono HBD.out.size)
  have HSX : Hid (w.heap.size + 3 ≤ X.heap.size) := Nat.le_trans HSX0.out hb4.size
  obtain ⟨p4, c4, hv4⟩ := PC.fb_form hf4
  have HH4 : Hid (HB X v4 (W1.le 8 pg)) := hf4.hb
  subst hv4
  clear hHeld hb4 hf4
  refine hK.out _ _ hSX (fun _ => ?_)
  clear hK K
  try simp only [Act.put, qT, q0, qS]
  have hHeld := hSX
  refine wpAnyH_ready (rs := [6]) (by kernel_rfl) (by simp) ?_
  refine AllReadyH.cons (o := ⟨some 15, .buildSlice 97 3 #[(0, .tmp 10), (1, .tmp 13), (2, .tmp 14)], 97, _, #[⟨1, .data⟩, ⟨4, .data⟩, ⟨5, .data⟩], none⟩) rfl (fun K hK => ?_) AllReadyH.nil
  rw [if_pos (by rfl)]
  have hHBm : HB X (.slice (some ⟨w.heap.size, 0, none⟩) 32 32) m := PC.hb_range 32 HML.out.symm (by rw [HML.out]; decide) (by decide) (by have h3 := PC.rangeAt_row hHeld.m; rw [HMLE.out] at h3; exact h3)
  have hHBg : HB X (.slice (some ⟨w.heap.size + 1, 0, none⟩) 128 128) g := PC.hb_range 128 HGL.out.symm (by rw [HGL.out]; decide) (by decide) (by have h3 := PC.rangeAt_row hHeld.r; rw [HGLE.out] at h3; exact h3)
  obtain ⟨CA, hCA⟩ : ∃ C : Array Value, C = #[.slice (some ⟨w.heap.size, 0, none⟩) 32 32, .slice p4 (W1.le 8 pg).length c4, .slice (some ⟨w.heap.size + 1, 0, none⟩) 128 128] := ⟨_, rfl⟩
  have hHL : PC.HL (X.alloc (.cells CA 78 (0, 0))) X.heap.size [m, W1.le 8 pg, g] := by rw [hCA]; exact PC.hl3 X _ _ _ _ _ _ hHBm HH4.out hHBg
  have hsX := HSX.out
  have HHL : Hid (PC.HL (X.alloc (.cells CA 78 (0, 0))) X.heap.size ([m, W1.le 8 pg, g])) := hHL
  have HBY : Hid (Below w.heap.size w (X.alloc (.cells CA 78 (0, 0)))) := HBX.out.alloc (by omega) _
  have HSY : Hid (w.heap.size + 3 ≤ (X.alloc (.cells CA 78 (0, 0))).heap.size) := by show _ ≤ _; simp; omega
  have hSY := hHeld.keep (fun k _ hl => ((Below.refl _ X).alloc (Nat.le_refl _) (.cells CA 78 (0, 0))).block k hl)
  have HJN : Hid (Calls Tryz.prog 43 #[.slice (some ⟨X.heap.size, 0, none⟩) 3 3] (X.alloc (.cells CA 78 (0, 0))) fun e w' => ∃ v, e = .returned v ∧ FB (X.alloc (.cells CA 78 (0, 0))).heap.size w' v (m ++ (W1.le 8 pg ++ g)) ∧ Below (X.alloc (.cells CA 78 (0, 0))).heap.size (X.alloc (.cells CA 78 (0, 0))) w') := by
    have h := PC.refJoin_any X.heap.size 3 ([m, W1.le 8 pg, g]) (X.alloc (.cells CA 78 (0, 0))) (by simp) (by simp [HML.out, W1.le_length, HGL.out]) HHL.out
    have e : ([m, W1.le 8 pg, g]).flatten = (m ++ (W1.le 8 pg ++ g)) := by simp
    rw [e] at h
    exact h
  clear hHL hsX
  refine wp_bslice 97 3 _ rfl #[(0, .slice (some ⟨w.heap.size, 0, none⟩) 32 32), (1, .slice p4 (W1.le 8 pg).length c4), (2, .slice (some ⟨w.heap.size + 1, 0, none⟩) 128 128)] _ (by simp; first | done | exact ⟨rfl, rfl, rfl⟩) (bs3 X _ _ _ _ _ _ _ _ _ _ _ _ rfl rfl rfl) ?_
  rw [← hCA]
  clear hHBm hHBg hCA hSX
  refine hK.out _ _ hSY (fun _ => ?_)
  clear hK K
  try simp only [Act.put, qT, q0, qS]
  generalize X.alloc (.cells CA 78 (0, 0)) = Y at *
  generalize X.heap.size = xs at *
  have hHeld := hSY
  refine wpAnyH_ready (rs := [7]) (by kernel_rfl) (by simp) ?_
  refine AllReadyH.cons (o := { dst := some 16, op := .call { callee := Go.Callee.value (.func 43), args := #[.tmp 15], argTypes := #[97] }, type := 78, pos := _, after := #[⟨6, .data⟩, ⟨4, .chain⟩], guard := none }) rfl (fun K hK => ?_) AllReadyH.nil
  rw [if_pos (by rfl)]
  go_wp2_with fail
  refine Calls.mono HJN.out ?_
  rintro e Y2 ⟨v2, rfl, hf2, hbj⟩
  have hS2 := hSY.keep (fun k _ hl => hbj.block k hl)
  have HB2 : Hid (Below w.heap.size w Y2) := HBY.out.trans (hbj.mono HBY.out.size)
  have hjs := hbj.size
  have hys := HSY.out
  have HS2 : Hid (w.heap.size + 3 ≤ Y2.heap.size) := by show _ ≤ _; omega
  have HDG : Hid (Calls Tryz.prog 42 #[.pointer (some ⟨og, 0, none⟩), .int .i64 2, v2] Y2 fun e w' => R5.QEnd B og S Y2 r dv t e w') := HDIG.out Y2 v2 HB2.out hf2.hb (fun k e => by have := (PC.fb_ge hf2 k e).1; omega)
  clear hf2 hbj hSY hHeld hjs hys
  refine hK.out _ _ hS2 (fun _ => ?_)
  clear hK K
  try simp only [Act.put, qT, q0, qS]
  have hHeld := hS2
  refine wpAnyH_ready (rs := [8]) (by kernel_rfl) (by simp) ?_
  refine AllReadyH.cons (o := { dst := some 17, op := .call { callee := Go.Callee.value (.func 42), args := #[.tmp 9, .const (Go.Value.int Go.IntKind.i64 2), .tmp 16], argTypes := #[36, 75, 78] }, type := 24, pos := _, after := #[⟨0, .data⟩, ⟨7, .data⟩, ⟨7, .chain⟩], guard := none }) rfl (fun K hK => ?_) AllReadyH.nil
  rw [if_pos (by rfl)]
  go_wp2_with fail
  refine Calls.mono HDG.out ?_
  rintro e w5 ⟨rfl, hfr, hor⟩
  have hs2 := HS2.out
  have hS5 := hS2.keep (fun k h1 hl => hfr.block k hl (fun hS => by have := HOR.out.top _ hS; omega))
  obtain ⟨Z5, hz51, hz52⟩ := hS5.z
  have HEND : Hid (R5.QEnd B og S w r dv t (.returned (.agg (r.1.map B8).toArray)) (w5.setRow (w.heap.size + 1 + 1) (r.1.map B8).toArray)) := ⟨rfl, R5.rfin HOR.out hB HB2.out hfr hor ((R5.Fr.refl _ _).setRow _ _ (.inl ⟨by omega, by omega⟩))⟩
  clear hfr hor hs2 HDG hHeld
  generalize (r.1.map B8).toArray = AA at *
  have hr6 : (w5.setRow (w.heap.size + 1 + 1) AA).heap[w.heap.size + 1 + 1]? = some (.cells AA 24 (0, 0)) := setRow_heap _ _ _ _ _ _ hz52
  have hS6 : SW w 27 ML GL (w5.setRow (w.heap.size + 1 + 1) AA) := ⟨(setRow_other _ _ _ _ (by omega)).trans hS5.m, (setRow_other _ _ _ _ (by omega)).trans hS5.r, ⟨AA, HAS.out, hr6⟩⟩
  refine hK.out _ _ hS5 (fun _ => ?_)
  clear hK K
  try simp only [Act.put, qT, q0, qS]
  have hHeld := hS5
  refine wpAnyH_ready (rs := [9]) (by kernel_rfl) (by simp) ?_
  refine AllReadyH.cons (o := ⟨none, .store 24 (.tmp 8) (.tmp 17), 0, _, #[⟨8, .data⟩, ⟨8, .chain⟩, ⟨0, .phase⟩, ⟨1, .phase⟩, ⟨2, .phase⟩, ⟨3, .phase⟩, ⟨4, .phase⟩, ⟨5, .phase⟩, ⟨6, .phase⟩, ⟨7, .phase⟩, ⟨8, .phase⟩], none⟩) rfl (fun K hK => ?_) AllReadyH.nil
  rw [if_pos (by rfl)]
  refine wp_store_row 24 _ _ rfl (w.heap.size + 1 + 1) AA rfl rfl 24 Z5 hz52 (R5.info32a _ HAS.out) (hz51.trans HAS.out.symm) HA1.out ?_
  refine hK.out _ _ hS6 (fun _ => ?_)
  clear hK K
  try simp only [Act.put, qT, q0, qS]
  refine wpAnyH_done (by kernel_rfl) ?_ _
  have HR6 : Hid _ := hr6
  clear hHeld hS5 hS6 hz51 hz52 hr6 hS2
  go_wp2
  refine bodyPost_ret (v := .agg AA) ?_ rfl HEND.out
  exact results_cell_row Tryz.results34 _ _ (w.heap.size + 1 + 1) 24 _ (0, 0) _ rfl HR6.out Tryz.underlying24 rfl (R5.info32a _ HAS.out)
set_option maxHeartbeats 1000000 in
set_option maxRecDepth 100000 in
theorem rrec_any (m : List UInt8) (pc : Nat) (rs : List Nat) (run : Bool) (w : World) (r : List UInt8 × R5.Ora) (hm : m.length = 32) (hs : rs.length = 8) (hp : pc < 18446744073709551616) (hx : ∀ x ∈ rs, x < 18446744073709551616) (hll : o.log.length < 1000000) (hu : o.used < 1000000) (hB : B ≤ w.heap.size) (ho : R5.OR B og S w o dv lv lds t) (hr : R5.rNx o ⟨1, Z0, 3, m ++ PC.cbL pc rs run⟩ = r) :
    Calls Tryz.prog 35 #[.pointer (some ⟨og, 0, none⟩), .agg (m.map B8).toArray, .agg (PC.rcL pc rs run).toArray] w fun e w' => R5.QEnd B og S w r dv t e w' := by
  have hcl := PC.cbL_len pc rs run hs
  have hAl := R5.rNx_len ho ⟨1, Z0, 3, m ++ PC.cbL pc rs run⟩
  rw [hr] at hAl
  have hz := fun W => R5.zero_dig W
  obtain ⟨ZL, hZL⟩ : ∃ L, L = (List.replicate 32 (0 : UInt8)).map B8 := ⟨_, rfl⟩
  rw [← hZL] at hz
  have HZS : Hid (ZL.toArray.size = 32) := by show _ = _; rw [hZL]; simp
  have HZ1 : Hid (ZL.toArray.all (·.oneCell') = true) := by show _ = _; rw [hZL]; exact R5.B8_onea _
  obtain ⟨V1, hV1⟩ : ∃ W1, W1 = ((w.alloc (.cells (m.map B8).toArray 24 (0, 0))).alloc (.cells (PC.rcL pc rs run).toArray 31 (0, 0))).alloc (.cells ZL.toArray 24 (0, 0)) := ⟨_, rfl⟩
  obtain ⟨hb1, hs1, hr0, hr1, hr2⟩ := alloc3 w _ _ _ _ _ _ V1 hV1
  have HSW : Hid (SW w 31 (m.map B8) (PC.rcL pc rs run) V1) := ⟨hr0, hr1, ⟨_, HZS.out, hr2⟩⟩
  have HB1 : Hid (Below w.heap.size w V1) := hb1
  have HS1 : Hid (w.heap.size + 3 ≤ V1.heap.size) := Nat.le_of_eq hs1.symm
  have HOR : Hid (R5.OR B og S w o dv lv lds t) := ho
  have HAS : Hid ((r.1.map B8).toArray.size = 32) := by show _ = _; simpa using hAl
  have HA1 : Hid _ := R5.B8_onea r.1
  have HML : Hid (m.length = 32) := hm
  have HDIG : Hid (∀ (W : World) (v : Value), Below w.heap.size w W → HB W v (m ++ PC.cbL pc rs run) → (∀ k, v.ownBlock = some k → w.heap.size ≤ k) → Calls Tryz.prog 42 #[.pointer (some ⟨og, 0, none⟩), .int .i64 3, v] W fun e w' => R5.QEnd B og S W r dv t e w') := fun W v hW hv hvb => rdigS 3 v (m ++ PC.cbL pc rs run) hll hu (by simp [hm, hcl]) hB ho hW hv (fun _ => hvb) hr
  have HV1 : Hid (V1 = ((w.alloc (.cells (m.map B8).toArray 24 (0, 0))).alloc (.cells (PC.rcL pc rs run).toArray 31 (0, 0))).alloc (.cells ZL.toArray 24 (0, 0))) := hV1
  have HRB : Hid (∀ W : World, Calls Tryz.prog 45 #[.agg (PC.rcL pc rs run).toArray] W fun e w' => e = .returned (.agg ((PC.cbL pc rs run).map B8).toArray) ∧ Below W.heap.size W w') := fun W => PC.rcb_any pc rs run W hs hp hx
  have HR10 : Hid _ := PC.info10 (PC.rcL pc rs run) (PC.rcL_len _ _ _ hs)
  have HRR : Hid (V1.rangeAt (w.heap.size + 1) 0 (PC.rcL pc rs run)) := PC.rangeAt_row HSW.out.r
  have HCBL : Hid ((PC.cbL pc rs run).length = 128) := hcl
  have hzg := fun W => PC.zero_gr W
  obtain ⟨ZG, hZG⟩ : ∃ L, L = PC.Z128.map B8 := ⟨_, rfl⟩
  rw [← hZG] at hzg
  have HGZ : Hid (ZG.toArray.size = 128) := by show _ = _; rw [hZG]; simp [PC.z128_len]
  obtain ⟨BL, hBL⟩ : ∃ L, L = (PC.cbL pc rs run).map B8 := ⟨_, rfl⟩
  rw [← hBL] at HRB
  have HGS : Hid (BL.toArray.size = 128) := by show _ = _; rw [hBL]; simpa using hcl
  have HG1 : Hid (BL.toArray.all (·.oneCell') = true) := by show _ = _; rw [hBL]; exact PC.B8_onea _
  have HGA : Hid ((Tryz.prog.info? 27).map (·.size) = some BL.toArray.size) := PC.info128a _ HGS.out
  have HGE : Hid (ZG.toArray.size = BL.toArray.size) := HGZ.out.trans HGS.out.symm
  have HBLE : Hid (BL = (PC.cbL pc rs run).map B8) := hBL
  rw [hV1] at HRR
  clear hZL hb1 hs1 hr0 hr1 hr2 hm hs hp hx ho hAl hV1 hr hcl hZG hBL
  generalize PC.rcL pc rs run = GL at *
  generalize PC.cbL pc rs run = CB at *
  obtain ⟨ML, hML⟩ : ∃ L, L = m.map B8 := ⟨_, rfl⟩
  rw [← hML] at HSW HRR HV1 ⊢
  have HMLE : Hid (ML = m.map B8) := hML
  clear hML
  have hsl := fun W => R5.sliceDig W w.heap.size 0
  go_enter Tryz.func35, Tryz.ntmps35
  go_wp2_with (refine wpList_load_mid rfl 31 _ rfl (w.heap.size + 1) 0 rfl GL _ HRR.out Tryz.underlying31 rfl HR10.out ?_)
  refine Calls.mono (HRB.out _) ?_
  rintro e w2 ⟨rfl, hb2⟩
  rw [← HV1.out] at hb2
  have HZA : Hid ((w2.alloc (.cells ZG.toArray 27 (0, 0))).heap[w2.heap.size]? = some (.cells ZG.toArray 27 (0, 0))) := heap_alloc_new _ _
  have hb3 : Below w2.heap.size w2 ((w2.alloc (.cells ZG.toArray 27 (0, 0))).setRow w2.heap.size BL.toArray) := below_setRow ((Below.refl _ _).alloc (Nat.le_refl _) _) (Nat.le_refl _) _
  have hrg : ((w2.alloc (.cells ZG.toArray 27 (0, 0))).setRow w2.heap.size BL.toArray).heap[w2.heap.size]? = some (.cells BL.toArray 27 (0, 0)) := setRow_heap _ _ _ _ _ _ HZA.out
  have hb4 : Below V1.heap.size V1 ((w2.alloc (.cells ZG.toArray 27 (0, 0))).setRow w2.heap.size BL.toArray) := hb2.trans (hb3.mono hb2.size)
  have hsc := HSW.out.keep (fun k _ hl => hb4.block k hl)
  have hbw := HB1.out.trans (hb4.mono HB1.out.size)
  have hsz : w.heap.size + 3 ≤ ((w2.alloc (.cells ZG.toArray 27 (0, 0))).setRow w2.heap.size BL.toArray).heap.size := by have := hb4.size; have := HS1.out; omega
  have HSD : Hid (SW w 31 ML GL ((w2.alloc (.cells ZG.toArray 27 (0, 0))).setRow w2.heap.size BL.toArray).drew) := ⟨hsc.m, hsc.r, hsc.z⟩
  have HBX : Hid (Below w.heap.size w ((w2.alloc (.cells ZG.toArray 27 (0, 0))).setRow w2.heap.size BL.toArray).drew) := hbw.drew
  have HSX : Hid (w.heap.size + 3 ≤ ((w2.alloc (.cells ZG.toArray 27 (0, 0))).setRow w2.heap.size BL.toArray).drew.heap.size) := hsz
  have HRG : Hid (((w2.alloc (.cells ZG.toArray 27 (0, 0))).setRow w2.heap.size BL.toArray).drew.heap[w2.heap.size]? = some (.cells BL.toArray 27 (0, 0))) := hrg
  have hsg := fun W => sliceGr W w2.heap.size 0
  clear hb2 hb3 hb4 hrg hsc hbw hsz HRB HRR HV1 HSW HB1 HS1
  go_wp2_with (refine wpList_store_row rfl 27 _ _ rfl w2.heap.size BL.toArray rfl rfl 27 ZG.toArray HZA.out HGA.out HGE.out HG1.out ?_)
  refine wp_region_held_drew (S := SW w 31 ML GL) (by kernel_rfl) HSD.out (fun hHeld => ?_)
  generalize ((w2.alloc (.cells ZG.toArray 27 (0, 0))).setRow w2.heap.size BL.toArray).drew = X at *
  generalize w2.heap.size = vs at *
  refine wpAnyH_take (i := 0) (oi := ⟨some 10, .move (.tmp 0), 36, _, #[], none⟩) (v := .pointer (some ⟨og, 0, none⟩)) rfl (by kernel_rfl) (by kernel_rfl) (by kernel_rfl) (fun _ _ _ h => h) (Or.inl ⟨by rfl, fun w' hw' => ?_⟩) hHeld ?_
  · first | (go_simp; done) | (go_simp; rfl)
  try simp only [Act.put, qT, q0, qS]
  refine wpAnyH_take (i := 1) (oi := ⟨some 11, .slice 24 (.tmp 4) none none none, 78, _, #[], none⟩) (v := .slice (some ⟨w.heap.size, 0, none⟩) 32 32) rfl (by kernel_rfl) (by kernel_rfl) (by kernel_rfl) (fun _ _ _ h => h) (Or.inl ⟨by rfl, fun w' hw' => ?_⟩) hHeld ?_
  · first | (go_simp; done) | (go_simp; rfl)
  try simp only [Act.put, qT, q0, qS]
  refine wpAnyH_take (i := 2) (oi := ⟨some 12, .slice 27 (.tmp 7) none none none, 78, _, #[], none⟩) (v := .slice (some ⟨vs, 0, none⟩) 128 128) rfl (by kernel_rfl) (by kernel_rfl) (by kernel_rfl) (fun _ _ _ h => h) (Or.inl ⟨by rfl, fun w' hw' => ?_⟩) hHeld ?_
  · first | (go_simp; done) | (go_simp; rfl)
  try simp only [Act.put, qT, q0, qS]
  refine wpAnyH_ready (rs := [3]) (by kernel_rfl) (by simp) ?_
  refine AllReadyH.cons (o := ⟨some 13, .buildSlice 97 2 #[(0, .tmp 11), (1, .tmp 12)], 97, _, #[⟨1, .data⟩, ⟨2, .data⟩], none⟩) rfl (fun K hK => ?_) AllReadyH.nil
  rw [if_pos (by rfl)]
  have hHBm : HB X (.slice (some ⟨w.heap.size, 0, none⟩) 32 32) m := PC.hb_range 32 HML.out.symm (by rw [HML.out]; decide) (by decide) (by have h3 := PC.rangeAt_row hHeld.m; rw [HMLE.out] at h3; exact h3)
  have hHBd : HB X (.slice (some ⟨vs, 0, none⟩) 128 128) CB := PC.hb_range 128 HCBL.out.symm (by rw [HCBL.out]; decide) (by decide) (by have h3 := PC.rangeAt_row HRG.out; rw [HBLE.out] at h3; exact h3)
  obtain ⟨CA, hCA⟩ : ∃ C : Array Value, C = #[.slice (some ⟨w.heap.size, 0, none⟩) 32 32, .slice (some ⟨vs, 0, none⟩) 128 128] := ⟨_, rfl⟩
  have hHL : PC.HL (X.alloc (.cells CA 78 (0, 0))) X.heap.size [m, CB] := by rw [hCA]; exact hl2 X _ _ _ _ hHBm hHBd
  have hsX := HSX.out
  have HHL : Hid (PC.HL (X.alloc (.cells CA 78 (0, 0))) X.heap.size ([m, CB])) := hHL
  have HBY : Hid (Below w.heap.size w (X.alloc (.cells CA 78 (0, 0)))) := HBX.out.alloc (by omega) _
  have HSY : Hid (w.heap.size + 3 ≤ (X.alloc (.cells CA 78 (0, 0))).heap.size) := by show _ ≤ _; simp; omega
  have hSY := hHeld.keep (fun k _ hl => ((Below.refl _ X).alloc (Nat.le_refl _) (.cells CA 78 (0, 0))).block k hl)
  have HJN : Hid (Calls Tryz.prog 43 #[.slice (some ⟨X.heap.size, 0, none⟩) 2 2] (X.alloc (.cells CA 78 (0, 0))) fun e w' => ∃ v, e = .returned v ∧ FB (X.alloc (.cells CA 78 (0, 0))).heap.size w' v (m ++ CB) ∧ Below (X.alloc (.cells CA 78 (0, 0))).heap.size (X.alloc (.cells CA 78 (0, 0))) w') := by
    have h := PC.refJoin_any X.heap.size 2 ([m, CB]) (X.alloc (.cells CA 78 (0, 0))) (by simp) (by simp [HML.out, HCBL.out]) HHL.out
    have e : ([m, CB]).flatten = (m ++ CB) := by simp
    rw [e] at h
    exact h
  clear hHL hsX
  refine wp_bslice 97 2 _ rfl #[(0, .slice (some ⟨w.heap.size, 0, none⟩) 32 32), (1, .slice (some ⟨vs, 0, none⟩) 128 128)] _ (by simp; first | done | exact ⟨rfl, rfl⟩) (bs2 X _ _ _ _ _ _ _ _ rfl rfl) ?_
  rw [← hCA]
  clear hHBm hHBd hCA
  refine hK.out _ _ hSY (fun _ => ?_)
  clear hK K
  try simp only [Act.put, qT, q0, qS]
  generalize X.alloc (.cells CA 78 (0, 0)) = Y at *
  generalize X.heap.size = xs at *
  have hHeld := hSY
  refine wpAnyH_ready (rs := [4]) (by kernel_rfl) (by simp) ?_
  refine AllReadyH.cons (o := { dst := some 14, op := .call { callee := Go.Callee.value (.func 43), args := #[.tmp 13], argTypes := #[97] }, type := 78, pos := _, after := #[⟨3, .data⟩], guard := none }) rfl (fun K hK => ?_) AllReadyH.nil
  rw [if_pos (by rfl)]
  go_wp2_with fail
  refine Calls.mono HJN.out ?_
  rintro e Y2 ⟨v2, rfl, hf2, hbj⟩
  have hS2 := hSY.keep (fun k _ hl => hbj.block k hl)
  have HB2 : Hid (Below w.heap.size w Y2) := HBY.out.trans (hbj.mono HBY.out.size)
  have hjs := hbj.size
  have hys := HSY.out
  have HS2 : Hid (w.heap.size + 3 ≤ Y2.heap.size) := by show _ ≤ _; omega
  have HDG : Hid (Calls Tryz.prog 42 #[.pointer (some ⟨og, 0, none⟩), .int .i64 3, v2] Y2 fun e w' => R5.QEnd B og S Y2 r dv t e w') := HDIG.out Y2 v2 HB2.out hf2.hb (fun k e => by have := (PC.fb_ge hf2 k e).1; omega)
  clear hf2 hbj hSY hHeld hjs hys
  refine hK.out _ _ hS2 (fun _ => ?_)
  clear hK K
  try simp only [Act.put, qT, q0, qS]
  have hHeld := hS2
  refine wpAnyH_ready (rs := [5]) (by kernel_rfl) (by simp) ?_
  refine AllReadyH.cons (o := { dst := some 15, op := .call { callee := Go.Callee.value (.func 42), args := #[.tmp 10, .const (Go.Value.int Go.IntKind.i64 3), .tmp 14], argTypes := #[36, 75, 78] }, type := 24, pos := _, after := #[⟨0, .data⟩, ⟨4, .data⟩, ⟨4, .chain⟩], guard := none }) rfl (fun K hK => ?_) AllReadyH.nil
  rw [if_pos (by rfl)]
  go_wp2_with fail
  refine Calls.mono HDG.out ?_
  rintro e w5 ⟨rfl, hfr, hor⟩
  have hs2 := HS2.out
  have hS5 := hS2.keep (fun k h1 hl => hfr.block k hl (fun hS => by have := HOR.out.top _ hS; omega))
  obtain ⟨Z5, hz51, hz52⟩ := hS5.z
  have HEND : Hid (R5.QEnd B og S w r dv t (.returned (.agg (r.1.map B8).toArray)) (w5.setRow (w.heap.size + 1 + 1) (r.1.map B8).toArray)) := ⟨rfl, R5.rfin HOR.out hB HB2.out hfr hor ((R5.Fr.refl _ _).setRow _ _ (.inl ⟨by omega, by omega⟩))⟩
  clear hfr hor hs2 HDG hHeld
  generalize (r.1.map B8).toArray = AA at *
  have hr6 : (w5.setRow (w.heap.size + 1 + 1) AA).heap[w.heap.size + 1 + 1]? = some (.cells AA 24 (0, 0)) := setRow_heap _ _ _ _ _ _ hz52
  have hS6 : SW w 31 ML GL (w5.setRow (w.heap.size + 1 + 1) AA) := ⟨(setRow_other _ _ _ _ (by omega)).trans hS5.m, (setRow_other _ _ _ _ (by omega)).trans hS5.r, ⟨AA, HAS.out, hr6⟩⟩
  refine hK.out _ _ hS5 (fun _ => ?_)
  clear hK K
  try simp only [Act.put, qT, q0, qS]
  have hHeld := hS5
  refine wpAnyH_ready (rs := [6]) (by kernel_rfl) (by simp) ?_
  refine AllReadyH.cons (o := ⟨none, .store 24 (.tmp 6) (.tmp 15), 0, _, #[⟨5, .data⟩, ⟨5, .chain⟩, ⟨0, .phase⟩, ⟨1, .phase⟩, ⟨2, .phase⟩, ⟨3, .phase⟩, ⟨4, .phase⟩, ⟨5, .phase⟩], none⟩) rfl (fun K hK => ?_) AllReadyH.nil
  rw [if_pos (by rfl)]
  refine wp_store_row 24 _ _ rfl (w.heap.size + 1 + 1) AA rfl rfl 24 Z5 hz52 (R5.info32a _ HAS.out) (hz51.trans HAS.out.symm) HA1.out ?_
  refine hK.out _ _ hS6 (fun _ => ?_)
  clear hK K
  try simp only [Act.put, qT, q0, qS]
  refine wpAnyH_done (by kernel_rfl) ?_ _
  have HR6 : Hid _ := hr6
  clear hHeld hS5 hS6 hz51 hz52 hr6 hS2
  go_wp2
  refine bodyPost_ret (v := .agg AA) ?_ rfl HEND.out
  exact results_cell_row Tryz.results35 _ _ (w.heap.size + 1 + 1) 24 _ (0, 0) _ rfl HR6.out Tryz.underlying24 rfl (R5.info32a _ HAS.out)
end
end Go.Proofs.YtpmknkagnkagpaaGreat.ZC
