/- measure: the document's Next; a step of both for any record. -/
import Derived.Test.YtpmknkagnkagpaaGreatYW
set_option linter.unusedVariables false
set_option linter.unusedSimpArgs false
namespace Go.Proofs.YtpmknkagnkagpaaGreat.ZC
open Go.RowKit

section
variable {B og : Nat} {S : Nat → Prop} {dv lv : Value} {o : R5.Ora} {lds : List Value} {t : TypeId}
set_option maxHeartbeats 1000000 in
set_option maxRecDepth 100000 in
theorem rnext_2 (m : List UInt8) (r : Rd) (w : World) (R : List UInt8 × R5.Ora) (hm : m.length = 32) (hr : r.ok) (hmay : mayD r = true) (hk : r.kind = 2) (hll : o.log.length < 1000000) (hu : o.used < 1000000) (hB : B ≤ w.heap.size) (ho : R5.OR B og S w o dv lv lds t) (hR : R5.rNx o (qOf m r) = R) :
    Calls Tryz.prog 12 #[.pointer (some ⟨og, 0, none⟩), .agg (m.map B8).toArray, .agg (rdL r).toArray] w fun e w' => R5.QEnd B og S w R dv t e w' := by
  have hk2 : (r.kind == 2) = true := by simp [hk]
  have hAl := R5.rNx_len ho (qOf m r)
  rw [hR] at hAl
  have hz := fun W => R5.zero_dig W
  obtain ⟨ZL, hZL⟩ : ∃ L, L = (List.replicate 32 (0 : UInt8)).map B8 := ⟨_, rfl⟩
  rw [← hZL] at hz
  have HZS : Hid (ZL.toArray.size = 32) := by show _ = _; rw [hZL]; simp
  obtain ⟨X1, hX1⟩ : ∃ X, X = ((w.alloc (.cells (m.map B8).toArray 24 (0, 0))).alloc (.cells (rdL r).toArray 33 (0, 0))).alloc (.cells ZL.toArray 24 (0, 0)) := ⟨_, rfl⟩
  obtain ⟨hb0, hs0, h0, h1, h2⟩ := alloc3 w _ _ _ _ _ _ X1 hX1
  have hrow := PC.rangeAt_row h1
  have hc0 : X1.cell? ⟨w.heap.size + 1, 0, none⟩ = some (.int .i64 r.kind) := by have := hrow 0 _ (rdL_0 r); rwa [Nat.zero_add] at this
  have hc33 : X1.cell? ⟨w.heap.size + 1, 33, none⟩ = some (.int .i64 r.page) := by have := hrow 33 _ (rdL_33 hr); rwa [Nat.zero_add] at this
  have HLM : Hid (X1.rangeAt w.heap.size 0 (m.map B8)) := PC.rangeAt_row h0
  have HLD : Hid (X1.rangeAt (w.heap.size + 1) 34 (r.data.map B8)) := by have h3 := PC.rangeAt_part hrow 34 128; rw [rdL_dat hr] at h3; exact h3
  have HLC : Hid (X1.rangeAt (w.heap.size + 1) 162 (PC.rcL r.pc r.rs r.run)) := by have h3 := PC.rangeAt_part hrow 162 10; rw [rdL_rec hr] at h3; exact h3
  have HMI : Hid _ := R5.info32 (m.map B8) (by simpa using hm)
  have HD128 : Hid _ := PC.info128 (r.data.map B8) (by simpa using hr.d)
  have HR10 : Hid _ := PC.info10 (PC.rcL r.pc r.rs r.run) (PC.rcL_len _ _ _ hr.s)
  have HB0 : Hid (Below w.heap.size w X1) := hb0
  have H2 : Hid (X1.heap[w.heap.size + 1 + 1]? = some (.cells ZL.toArray 24 (0, 0))) := h2
  have HOR : Hid (R5.OR B og S w o dv lv lds t) := ho
  have hoX := ho.keep hb0.size (fun k hk _ => hb0.block k hk)
  have HX1 : Hid (X1 = ((w.alloc (.cells (m.map B8).toArray 24 (0, 0))).alloc (.cells (rdL r).toArray 33 (0, 0))).alloc (.cells ZL.toArray 24 (0, 0))) := hX1
  have HAS : Hid ((R.1.map B8).toArray.size = 32) := by show _ = _; simpa using hAl
  have HA1 : Hid _ := R5.B8_onea R.1
  have HD : Hid (Calls Tryz.prog 34 #[.pointer (some ⟨og, 0, none⟩), .agg (m.map B8).toArray, .int .i64 r.page, .agg (r.data.map B8).toArray] X1 fun e w' => R5.QEnd B og S X1 R dv t e w') := by
    have hp := mayD_page hmay hk
    have hpe : r.page = ((r.page.toNat : Nat) : Int) := by omega
    have e : qOf m r = ⟨1, Z0, 2, m ++ (W1.le 8 r.page.toNat ++ r.data)⟩ := by unfold qOf; rw [if_neg (by rw [hk]; decide), if_pos hk]
    rw [e] at hR
    have h := rdata_any m r.page.toNat r.data X1 R hm hr.d (by omega) hll hu (Nat.le_trans hB hb0.size) hoX hR
    rw [← hpe] at h
    exact h
  clear hk
  rw [hX1] at HD HLM HLD HLC hc0 hc33
  clear hZL hb0 hs0 h0 h1 h2 hX1 hm ho hAl hR hoX hrow hr hmay
  generalize m.map B8 = ML at *
  generalize rdL r = RL at *
  generalize r.data.map B8 = DL at *
  generalize PC.rcL r.pc r.rs r.run = CL at *
  go_enter Tryz.func12, Tryz.ntmps12
  go_wp2_with (first
    | (refine wpList_load_mid rfl 24 _ rfl w.heap.size 0 rfl ML _ HLM.out Tryz.underlying24 rfl HMI.out ?_)
    | (refine wpList_load_mid rfl 27 _ rfl (w.heap.size + 1) 34 rfl DL _ HLD.out Tryz.underlying27 rfl HD128.out ?_)
    | (refine wpList_load_mid rfl 31 _ rfl (w.heap.size + 1) 162 rfl CL _ HLC.out Tryz.underlying31 rfl HR10.out ?_))
  refine Calls.mono HD.out ?_
  rintro e w3 ⟨rfl, hfr, hor⟩
  rw [← HX1.out] at hfr hor
  have hl1 := PC.row_lt H2.out
  have HR3 : Hid (w3.heap[w.heap.size + 1 + 1]? = some (.cells ZL.toArray 24 (0, 0))) := (hfr.block _ hl1 (fun h => by have := HOR.out.top _ h; omega)).trans H2.out
  have HEND : Hid (R5.QEnd B og S w R dv t (.returned (.agg (R.1.map B8).toArray)) (w3.setRow (w.heap.size + 1 + 1) (R.1.map B8).toArray)) := ⟨rfl, R5.rfin HOR.out hB HB0.out hfr hor ((R5.Fr.refl _ _).setRow _ _ (.inl ⟨by omega, hl1⟩))⟩
  clear hfr hor hl1 HD
  go_wp2_with (refine wpList_store_row rfl 24 _ _ rfl (w.heap.size + 1 + 1) (R.1.map B8).toArray rfl rfl 24 ZL.toArray HR3.out (R5.info32a _ HAS.out) (HZS.out.trans HAS.out.symm) HA1.out ?_)
  refine bodyPost_ret (v := .agg (R.1.map B8).toArray) ?_ rfl HEND.out
  exact results_cell_row Tryz.results12 _ _ (w.heap.size + 1 + 1) 24 _ (0, 0) _ rfl (setRow_heap _ _ _ _ _ _ HR3.out) Tryz.underlying24 rfl (R5.info32a _ HAS.out)
set_option maxHeartbeats 1000000 in
set_option maxRecDepth 100000 in
theorem rnext_3 (m : List UInt8) (r : Rd) (w : World) (R : List UInt8 × R5.Ora) (hm : m.length = 32) (hr : r.ok) (hmay : mayD r = true) (hk : r.kind = 3) (hll : o.log.length < 1000000) (hu : o.used < 1000000) (hB : B ≤ w.heap.size) (ho : R5.OR B og S w o dv lv lds t) (hR : R5.rNx o (qOf m r) = R) :
    Calls Tryz.prog 12 #[.pointer (some ⟨og, 0, none⟩), .agg (m.map B8).toArray, .agg (rdL r).toArray] w fun e w' => R5.QEnd B og S w R dv t e w' := by
  have hk2 : (r.kind == 2) = false := by simp [hk]
  have hAl := R5.rNx_len ho (qOf m r)
  rw [hR] at hAl
  have hz := fun W => R5.zero_dig W
  obtain ⟨ZL, hZL⟩ : ∃ L, L = (List.replicate 32 (0 : UInt8)).map B8 := ⟨_, rfl⟩
  rw [← hZL] at hz
  have HZS : Hid (ZL.toArray.size = 32) := by show _ = _; rw [hZL]; simp
  obtain ⟨X1, hX1⟩ : ∃ X, X = ((w.alloc (.cells (m.map B8).toArray 24 (0, 0))).alloc (.cells (rdL r).toArray 33 (0, 0))).alloc (.cells ZL.toArray 24 (0, 0)) := ⟨_, rfl⟩
  obtain ⟨hb0, hs0, h0, h1, h2⟩ := alloc3 w _ _ _ _ _ _ X1 hX1
  have hrow := PC.rangeAt_row h1
  have hc0 : X1.cell? ⟨w.heap.size + 1, 0, none⟩ = some (.int .i64 r.kind) := by have := hrow 0 _ (rdL_0 r); rwa [Nat.zero_add] at this
  have hc33 : X1.cell? ⟨w.heap.size + 1, 33, none⟩ = some (.int .i64 r.page) := by have := hrow 33 _ (rdL_33 hr); rwa [Nat.zero_add] at this
  have HLM : Hid (X1.rangeAt w.heap.size 0 (m.map B8)) := PC.rangeAt_row h0
  have HLD : Hid (X1.rangeAt (w.heap.size + 1) 34 (r.data.map B8)) := by have h3 := PC.rangeAt_part hrow 34 128; rw [rdL_dat hr] at h3; exact h3
  have HLC : Hid (X1.rangeAt (w.heap.size + 1) 162 (PC.rcL r.pc r.rs r.run)) := by have h3 := PC.rangeAt_part hrow 162 10; rw [rdL_rec hr] at h3; exact h3
  have HMI : Hid _ := R5.info32 (m.map B8) (by simpa using hm)
  have HD128 : Hid _ := PC.info128 (r.data.map B8) (by simpa using hr.d)
  have HR10 : Hid _ := PC.info10 (PC.rcL r.pc r.rs r.run) (PC.rcL_len _ _ _ hr.s)
  have HB0 : Hid (Below w.heap.size w X1) := hb0
  have H2 : Hid (X1.heap[w.heap.size + 1 + 1]? = some (.cells ZL.toArray 24 (0, 0))) := h2
  have HOR : Hid (R5.OR B og S w o dv lv lds t) := ho
  have hoX := ho.keep hb0.size (fun k hk _ => hb0.block k hk)
  have HX1 : Hid (X1 = ((w.alloc (.cells (m.map B8).toArray 24 (0, 0))).alloc (.cells (rdL r).toArray 33 (0, 0))).alloc (.cells ZL.toArray 24 (0, 0))) := hX1
  have HAS : Hid ((R.1.map B8).toArray.size = 32) := by show _ = _; simpa using hAl
  have HA1 : Hid _ := R5.B8_onea R.1
  have HD : Hid (Calls Tryz.prog 35 #[.pointer (some ⟨og, 0, none⟩), .agg (m.map B8).toArray, .agg (PC.rcL r.pc r.rs r.run).toArray] X1 fun e w' => R5.QEnd B og S X1 R dv t e w') := by
    have e : qOf m r = ⟨1, Z0, 3, m ++ PC.cbL r.pc r.rs r.run⟩ := by unfold qOf; rw [if_neg (by rw [hk]; decide), if_neg (by rw [hk]; decide)]
    rw [e] at hR
    exact rrec_any m r.pc r.rs r.run X1 R hm hr.s hr.p hr.x hll hu (Nat.le_trans hB hb0.size) hoX hR
  clear hk
  rw [hX1] at HD HLM HLD HLC hc0 hc33
  clear hZL hb0 hs0 h0 h1 h2 hX1 hm ho hAl hR hoX hrow hr hmay
  generalize m.map B8 = ML at *
  generalize rdL r = RL at *
  generalize r.data.map B8 = DL at *
  generalize PC.rcL r.pc r.rs r.run = CL at *
  go_enter Tryz.func12, Tryz.ntmps12
  go_wp2_with (first
    | (refine wpList_load_mid rfl 24 _ rfl w.heap.size 0 rfl ML _ HLM.out Tryz.underlying24 rfl HMI.out ?_)
    | (refine wpList_load_mid rfl 27 _ rfl (w.heap.size + 1) 34 rfl DL _ HLD.out Tryz.underlying27 rfl HD128.out ?_)
    | (refine wpList_load_mid rfl 31 _ rfl (w.heap.size + 1) 162 rfl CL _ HLC.out Tryz.underlying31 rfl HR10.out ?_))
  refine Calls.mono HD.out ?_
  rintro e w3 ⟨rfl, hfr, hor⟩
  rw [← HX1.out] at hfr hor
  have hl1 := PC.row_lt H2.out
  have HR3 : Hid (w3.heap[w.heap.size + 1 + 1]? = some (.cells ZL.toArray 24 (0, 0))) := (hfr.block _ hl1 (fun h => by have := HOR.out.top _ h; omega)).trans H2.out
  have HEND : Hid (R5.QEnd B og S w R dv t (.returned (.agg (R.1.map B8).toArray)) (w3.setRow (w.heap.size + 1 + 1) (R.1.map B8).toArray)) := ⟨rfl, R5.rfin HOR.out hB HB0.out hfr hor ((R5.Fr.refl _ _).setRow _ _ (.inl ⟨by omega, hl1⟩))⟩
  clear hfr hor hl1 HD
  go_wp2_with (refine wpList_store_row rfl 24 _ _ rfl (w.heap.size + 1 + 1) (R.1.map B8).toArray rfl rfl 24 ZL.toArray HR3.out (R5.info32a _ HAS.out) (HZS.out.trans HAS.out.symm) HA1.out ?_)
  refine bodyPost_ret (v := .agg (R.1.map B8).toArray) ?_ rfl HEND.out
  exact results_cell_row Tryz.results12 _ _ (w.heap.size + 1 + 1) 24 _ (0, 0) _ rfl (setRow_heap _ _ _ _ _ _ HR3.out) Tryz.underlying24 rfl (R5.info32a _ HAS.out)
end
section
variable {w X : World} {og mb rg : Nat} {i : Bool} {m : List UInt8} {D : List (List UInt8)} {L R : Lg} {rows : Rws}
theorem TW.next (h : TW w og mb rg i m D L R rows X) (hll : L.length < 1000000) (M : List UInt8) (hm : M.length = 32) (r : Rd) (hr : r.ok) (hmay : mayD r = true) (hk : r.kind ≠ 1) :
    Calls Tryz.prog 7 #[.pointer (some ⟨og, 0, none⟩), .agg (M.map B8).toArray, .agg (rdL r).toArray] X fun e Y => e = .returned (R5.okV (nx2 i D L (qOf M r)).1) ∧ TW w og mb rg i m D (nx2 i D L (qOf M r)).2 R rows Y := by
  have hA := h.alen (qOf M r)
  obtain ⟨S, dv, ov, T, dr, lv, lds, h1, h2, h3, h4, h5, h6⟩ := h.ex
  exact (next_gen _ M r X _ hm hr hk (mc_ok h5.size hll h1 hm hr hmay hA (nxP_nx2 i m D L _))).mono fun e Y hE => TW.pcall h1 h2 h3 h4 h5 h6 (gend_ok h5.size h1 hE)
end
end Go.Proofs.YtpmknkagnkagpaaGreat.ZC
