/- measure: the chapter's rows (known). -/
import Derived.Test.YtpmknkagnkagpaaGreatZP
set_option linter.unusedVariables false
set_option linter.unusedSimpArgs false
namespace Go.Proofs.YtpmknkagnkagpaaGreat.ZC
open Go.RowKit

structure SK (w : World) (D1 D2 : List Value) (ab bb : Nat) (X : World) : Prop where
  b : Below w.heap.size w X
  x : X.heap[ab]? = some (.cells D1.toArray 24 (0, 0))
  y : X.heap[bb]? = some (.cells D2.toArray 24 (0, 0))
theorem SK.step {w : World} {D1 D2 : List Value} {ab bb : Nat} {X Y : World} (h : SK w D1 D2 ab bb X) (hb : Below X.heap.size X Y) : SK w D1 D2 ab bb Y := ⟨h.b.trans (hb.mono h.b.size), (hb.block _ (PC.row_lt h.x)).trans h.x, (hb.block _ (PC.row_lt h.y)).trans h.y⟩
theorem eq_d (w : World) (a : List UInt8) (h : a.length = 32) : (binOp .eql 24 (.agg (a.map B8).toArray) (.agg (a.map B8).toArray)).run Tryz.prog w = .ok (.bool true) w := by
  rw [show true = (a == a) by simp]
  exact run_eql_bytes (P := Tryz.prog) w 24 5 32 Tryz.underlying24 Tryz.underlying5 PC.size_u8 a a h h
set_option maxHeartbeats 4000000 in
set_option maxRecDepth 100000 in
theorem known_any (w : World) : Calls Tryz.prog 5 #[] w fun e w' => e = .returned (.bool true) ∧ Below w.heap.size w w' := by
  have hz := fun W => R5.zero_dig W
  obtain ⟨ZL, hZL⟩ : ∃ L, L = Z0.map B8 := ⟨_, rfl⟩
  have hZL' : ZL = (List.replicate 32 (0 : UInt8)).map B8 := hZL
  rw [← hZL'] at hz
  have HZS : Hid (ZL.toArray.size = 32) := by show _ = _; rw [hZL']; simp
  have HZ1 : Hid (ZL.toArray.all (·.oneCell') = true) := by show _ = _; rw [hZL]; exact R5.B8_onea _
  have HBD : Hid (∀ W : World, (Instr.build 24 #[]).run Tryz.prog W = .ok (.agg ZL.toArray) W) := fun W => by rw [hZL']; exact R5.build_dig W
  have HBP : Hid (∀ W : World, (Instr.build 62 #[]).run Tryz.prog W = .ok (.agg (PC.rpL PC.Z32 0).toArray) W) := PC.build_rp
  have HBG : Hid (∀ W : World, (Instr.build 27 #[]).run Tryz.prog W = .ok (.agg (PC.Z128.map B8).toArray) W) := PC.build_gr
  have HBR : Hid (∀ W : World, (Instr.build 33 #[(0, .int .i64 2)]).run Tryz.prog W = .ok (.agg (rdL (rec2 0 PC.Z128)).toArray) W) := build_r2
  have HBS : Hid (∀ W : World, (Instr.buildSlice 51 1 #[(0, .agg (rdL (rec2 0 PC.Z128)).toArray)]).run Tryz.prog W = .ok (.slice (some ⟨W.heap.size, 0, none⟩) 1 1) (W.alloc (.cells (rdL (rec2 0 PC.Z128)).toArray 33 (0, 0)))) := bs_r2
  have HB2 : Hid (∀ W : World, (Instr.buildSlice 22 2 #[(0, .agg (kD1.map B8).toArray), (1, .agg (kD2.map B8).toArray)]).run Tryz.prog W = .ok (.slice (some ⟨W.heap.size, 0, none⟩) 2 2) (W.alloc (.cells (kD1.map B8 ++ kD2.map B8).toArray 24 (0, 0)))) := fun W => fill_two W _ _ (by simp [kD1_len]) (by simp [kD2_len])
  have HNEW : Hid (∀ W : World, Calls Tryz.prog 20 #[.bool true, .agg ZL.toArray, .slice (some ⟨W.heap.size, 0, none⟩) 2 2] (W.alloc (.cells (kD1.map B8 ++ kD2.map B8).toArray 24 (0, 0))) fun e w' => R5.PNew (W.alloc (.cells (kD1.map B8 ++ kD2.map B8).toArray 24 (0, 0))) true Z0 [kD1, kD2] e w') := fun W => by rw [hZL]; exact R5.pnew_any true Z0 (some ⟨W.heap.size, 0, none⟩) 2 2 [kD1, kD2] _ z0_len (fun h => by cases h) (by simp) (hds_two _ _ _ kD1_len kD2_len W.heap.size _ (heap_alloc_new _ _))
  have HBEG : Hid (∀ (og mb : Nat) (X : World), KM w og mb kO0 [] X → Calls Tryz.prog 22 #[.pointer (some ⟨og, 0, none⟩), .agg (PC.rpL PC.Z32 0).toArray] X fun e Y => e = .returned (.tuple #[.agg (kD1.map B8).toArray, .int .i64 0]) ∧ KM w og mb kO1 [] Y) := fun og mb X h => h.begin (by decide) PC.Z32 0 PC.z32_len k1
  have HDAT : Hid (∀ (og mb : Nat) (rows : List (Nat × List UInt8)) (X : World), KM w og mb kO1 rows X → Calls Tryz.prog 23 #[.pointer (some ⟨og, 0, none⟩), .agg (kD1.map B8).toArray, .int .i64 3, .agg (PC.Z128.map B8).toArray] X fun e Y => e = .returned (.tuple #[.agg (kD2.map B8).toArray, .int .i64 0]) ∧ KM w og mb kO2 rows Y) := fun og mb rows X h => h.dataOk (by decide) kD1 kD1_len 3 PC.Z128 PC.z128_len (by decide) k2
  have HDBD : Hid (∀ (og mb : Nat) (rows : List (Nat × List UInt8)) (X : World), KM w og mb kO2 rows X → Calls Tryz.prog 23 #[.pointer (some ⟨og, 0, none⟩), .agg (kD1.map B8).toArray, .int .i64 128, .agg (PC.Z128.map B8).toArray] X fun e Y => e = .returned (.tuple #[.agg ZL.toArray, .int .i64 2]) ∧ KM w og mb kO2 rows Y) := fun og mb rows X h => by rw [hZL]; exact h.dataBad kD1 kD1_len 128 PC.Z128 PC.z128_len (by decide)
  have HRN : Hid (∀ (og mb : Nat) (rows : List (Nat × List UInt8)) (X : World), KM w og mb kO2 rows X → Calls Tryz.prog 14 #[.pointer (some ⟨og, 0, none⟩), .slice none 0 0] X fun e Y => e = .returned (.tuple #[.agg ZL.toArray, .int .i64 2]) ∧ KM w og mb kO2 rows Y) := fun og mb rows X h => by rw [hZL]; exact h.replayBad _ [] (hr_nil X) (by simp) mayL_nil
  have HR2 : Hid (∀ (og mb : Nat) (rows : List (Nat × List UInt8)) (X : World), KM w og mb kO2 rows X → Calls Tryz.prog 14 #[.pointer (some ⟨og, 0, none⟩), .slice (some ⟨X.heap.size, 0, none⟩) 1 1] (X.alloc (.cells (rdL (rec2 0 PC.Z128)).toArray 33 (0, 0))) fun e Y => e = .returned (.tuple #[.agg ZL.toArray, .int .i64 2]) ∧ KM w og mb kO2 rows Y) := fun og mb rows X h => by rw [hZL]; exact (h.step ((Below.refl _ _).alloc (Nat.le_refl _) _)).replayBad _ [rec2 0 PC.Z128] (hr_one _ _ (rec2_ok 0 PC.z128_len) X.heap.size (heap_alloc_new _ _)) (by simp) mayL_r2
  have HROW1 : Hid (∀ (og mb : Nat) (o : R5.Pra) (rows : List (Nat × List UInt8)) (X : World), KM w og mb o rows X → KM w og mb o ((X.heap.size, kD1) :: rows) ((X.alloc (.cells ZL.toArray 24 (0, 0))).setRow X.heap.size (kD1.map B8).toArray)) := fun og mb o rows X h => h.newrow kD1
  have HROW2 : Hid (∀ (og mb : Nat) (o : R5.Pra) (rows : List (Nat × List UInt8)) (X : World), KM w og mb o rows X → KM w og mb o ((X.heap.size, kD2) :: rows) ((X.alloc (.cells ZL.toArray 24 (0, 0))).setRow X.heap.size (kD2.map B8).toArray)) := fun og mb o rows X h => h.newrow kD2
  have HROWZ : Hid (∀ (og mb : Nat) (o : R5.Pra) (rows : List (Nat × List UInt8)) (X : World), KM w og mb o rows X → KM w og mb o ((X.heap.size, Z0) :: rows) ((X.alloc (.cells ZL.toArray 24 (0, 0))).setRow X.heap.size ZL.toArray)) := fun og mb o rows X h => by have := h.newrow (ZL := ZL) Z0; rw [← hZL] at this; exact this
  have HRG1 : Hid (∀ (og mb : Nat) (o : R5.Pra) (rows : List (Nat × List UInt8)) (X : World) (ab : Nat), KM w og mb o rows X → (ab, kD1) ∈ rows → X.rangeAt ab 0 (kD1.map B8)) := fun og mb o rows X ab h hm => PC.rangeAt_row (h.row hm)
  have HE1 : Hid (∀ W : World, (binOp .eql 24 (.agg (kD1.map B8).toArray) (.agg (kD1.map B8).toArray)).run Tryz.prog W = .ok (.bool true) W) := fun W => eq_d W kD1 kD1_len
  have HE2 : Hid (∀ W : World, (binOp .eql 24 (.agg (kD2.map B8).toArray) (.agg (kD2.map B8).toArray)).run Tryz.prog W = .ok (.bool true) W) := fun W => eq_d W kD2 kD2_len
  have HD1 : Hid (∀ W : World, Calls Tryz.prog 21 #[.int .u8 1] W fun e w' => e = .returned (.agg (kD1.map B8).toArray) ∧ Below W.heap.size W w') := draw1_any
  have HD2 : Hid (∀ W : World, Calls Tryz.prog 21 #[.int .u8 2] W fun e w' => e = .returned (.agg (kD2.map B8).toArray) ∧ Below W.heap.size W w') := draw2_any
  have HSK : Hid (∀ (og mb : Nat) (o : R5.Pra) (rows : List (Nat × List UInt8)) (X : World) (ab bb : Nat), KM w og mb o rows X → (ab, kD1) ∈ rows → (bb, kD2) ∈ rows → SK w (kD1.map B8) (kD2.map B8) ab bb X.drew) := fun og mb o rows X ab bb h h1 h2 => ⟨h.bel.drew, h.row h1, h.row h2⟩
  have HZM : Hid (ZL = Z0.map B8) := hZL
  have HK0 : Hid (kO0 = ⟨true, Z0, [kD1, kD2], []⟩) := rfl
  have H1S : Hid ((kD1.map B8).toArray.size = 32) := by show _ = _; simp [kD1_len]
  have H11 : Hid ((kD1.map B8).toArray.all (·.oneCell') = true) := R5.B8_onea _
  have H1I : Hid _ := R5.info32 (kD1.map B8) (by simp [kD1_len])
  have H2S : Hid ((kD2.map B8).toArray.size = 32) := by show _ = _; simp [kD2_len]
  have H21 : Hid ((kD2.map B8).toArray.all (·.oneCell') = true) := R5.B8_onea _
  have H2I : Hid _ := R5.info32 (kD2.map B8) (by simp [kD2_len])
  have HOFN : Hid (∀ (og mb : Nat) (dv : Value) (W V : World), Below w.heap.size w W → R5.PO W.heap.size og mb (fun k => k = og ∨ k = mb) V ⟨true, Z0, [kD1, kD2], []⟩ dv (.slice none 0 0) → Below W.heap.size W V → KM w og mb kO0 [] V) := fun og mb dv W V h1 h2 h3 => KM.ofNew h1 h2 h3
  clear hZL hZL'
  generalize kD1.map B8 = D1 at *
  generalize kD2.map B8 = D2 at *
  generalize PC.Z128.map B8 = GZ at *
  generalize PC.rpL PC.Z32 0 = RP at *
  generalize rdL (rec2 0 PC.Z128) = RZ at *
  generalize kO0 = o0 at *
  generalize kO1 = o1 at *
  generalize kO2 = o2 at *
  generalize kD1 = d1 at *
  generalize kD2 = d2 at *
  go_enter Tryz.func5, Tryz.ntmps5
  go_wp2_with (first | (refine PC.wpList_build rfl 24 _ rfl #[] (.agg ZL.toArray) (by simp) (HBD.out _) ?_) | (go_at_call 21; fail))
  refine Calls.mono (HD1.out _) ?_
  rintro e w1 ⟨rfl, hb1⟩
  go_wp2_with fail
  refine Calls.mono (HD2.out _) ?_
  rintro e w2 ⟨rfl, hb2⟩
  have HB : Hid (Below w.heap.size w (w2.alloc (.cells (D1 ++ D2).toArray 24 (0, 0)))) := (hb1.trans (hb2.mono hb1.size)).alloc (by have := hb1.size; have := hb2.size; omega) _
  clear hb1 hb2
  go_wp2_with (refine wpList_bslice rfl 22 2 _ rfl #[(0, .agg D1.toArray), (1, .agg D2.toArray)] _ (by simp; first | done | exact ⟨rfl, rfl⟩) (HB2.out _) ?_)
  refine Calls.mono (HNEW.out _) ?_
  rintro e w3 ⟨og, mb, dv, rfl, hpo, hb3, _⟩
  have HKM : Hid (KM w og mb o0 [] w3) := HOFN.out og mb dv _ w3 HB.out hpo hb3
  clear hpo hb3 HB HB2 HNEW HOFN
  go_wp2_with (first | (refine PC.wpList_build rfl 62 _ rfl #[] (.agg RP.toArray) (by simp) (HBP.out _) ?_) | (go_at_call 22; fail))
  refine Calls.mono (HBEG.out og mb w3 HKM.out) ?_
  rintro e X1 ⟨rfl, hk1⟩
  have HK1 : Hid (KM w og mb o1 ((X1.heap.size, d1) :: []) ((X1.alloc (.cells ZL.toArray 24 (0, 0))).setRow X1.heap.size D1.toArray)) := HROW1.out _ _ _ _ _ hk1
  have HL1 : Hid (((X1.alloc (.cells ZL.toArray 24 (0, 0))).setRow X1.heap.size D1.toArray).rangeAt X1.heap.size 0 D1) := HRG1.out _ _ _ _ _ _ HK1.out (by simp)
  have hcall := HDAT.out og mb _ _ HK1.out
  have HCALL : Hid (Calls Tryz.prog 23 #[.pointer (some ⟨og, 0, none⟩), .agg D1.toArray, .int .i64 3, .agg GZ.toArray] ((X1.alloc (.cells ZL.toArray 24 (0, 0))).setRow X1.heap.size D1.toArray) fun e Y => e = .returned (.tuple #[.agg D2.toArray, .int .i64 0]) ∧ KM w og mb o2 ((X1.heap.size, d1) :: []) Y) := hcall
  have HZA : Hid ((X1.alloc (.cells ZL.toArray 24 (0, 0))).heap[X1.heap.size]? = some (.cells ZL.toArray 24 (0, 0))) := heap_alloc_new _ _
  clear hk1 HKM HBEG hcall HDAT
  go_wp2_with (first
    | (refine wpList_store_row rfl 24 _ _ rfl X1.heap.size D1.toArray rfl rfl 24 ZL.toArray HZA.out (R5.info32a _ H1S.out) (HZS.out.trans H1S.out.symm) H11.out ?_)
    | (refine wpList_load_mid rfl 24 _ rfl X1.heap.size 0 rfl D1 _ HL1.out Tryz.underlying24 rfl H1I.out ?_)
    | (refine PC.wpList_build rfl 27 _ rfl #[] (.agg GZ.toArray) (by simp) (HBG.out _) ?_)
    | (go_at_call 23; fail))
  refine Calls.mono HCALL.out ?_
  rintro e X2 ⟨rfl, hk2⟩
  generalize X1.heap.size = ab at *
  have HK2 : Hid (KM w og mb o2 ((X2.heap.size, d2) :: (ab, d1) :: []) ((X2.alloc (.cells ZL.toArray 24 (0, 0))).setRow X2.heap.size D2.toArray)) := HROW2.out _ _ _ _ _ hk2
  have HL2 : Hid (((X2.alloc (.cells ZL.toArray 24 (0, 0))).setRow X2.heap.size D2.toArray).rangeAt ab 0 D1) := HRG1.out _ _ _ _ _ _ HK2.out (by simp)
  have HCALL2 : Hid (Calls Tryz.prog 23 #[.pointer (some ⟨og, 0, none⟩), .agg D1.toArray, .int .i64 128, .agg GZ.toArray] ((X2.alloc (.cells ZL.toArray 24 (0, 0))).setRow X2.heap.size D2.toArray) fun e Y => e = .returned (.tuple #[.agg ZL.toArray, .int .i64 2]) ∧ KM w og mb o2 ((X2.heap.size, d2) :: (ab, d1) :: []) Y) := HDBD.out og mb _ _ HK2.out
  clear HZA hk2 HCALL HK1 HL1
  have HZA : Hid ((X2.alloc (.cells ZL.toArray 24 (0, 0))).heap[X2.heap.size]? = some (.cells ZL.toArray 24 (0, 0))) := heap_alloc_new _ _
  go_wp2_with (first
    | (refine wpList_store_row rfl 24 _ _ rfl X2.heap.size D2.toArray rfl rfl 24 ZL.toArray HZA.out (R5.info32a _ H2S.out) (HZS.out.trans H2S.out.symm) H21.out ?_)
    | (refine wpList_load_mid rfl 24 _ rfl ab 0 rfl D1 _ HL2.out Tryz.underlying24 rfl H1I.out ?_)
    | (refine PC.wpList_build rfl 27 _ rfl #[] (.agg GZ.toArray) (by simp) (HBG.out _) ?_)
    | (go_at_call 23; fail))
  refine Calls.mono HCALL2.out ?_
  rintro e X3 ⟨rfl, hk3⟩
  generalize X2.heap.size = bb at *
  have HK3 : Hid (KM w og mb o2 ((X3.heap.size, Z0) :: (bb, d2) :: (ab, d1) :: []) ((X3.alloc (.cells ZL.toArray 24 (0, 0))).setRow X3.heap.size ZL.toArray)) := HROWZ.out _ _ _ _ _ hk3
  have HCALL3 : Hid (Calls Tryz.prog 14 #[.pointer (some ⟨og, 0, none⟩), .slice none 0 0] ((X3.alloc (.cells ZL.toArray 24 (0, 0))).setRow X3.heap.size ZL.toArray) fun e Y => e = .returned (.tuple #[.agg ZL.toArray, .int .i64 2]) ∧ KM w og mb o2 ((X3.heap.size, Z0) :: (bb, d2) :: (ab, d1) :: []) Y) := HRN.out og mb _ _ HK3.out
  clear HZA hk3 HCALL2 HK2 HL2 HDBD
  have HZA : Hid ((X3.alloc (.cells ZL.toArray 24 (0, 0))).heap[X3.heap.size]? = some (.cells ZL.toArray 24 (0, 0))) := heap_alloc_new _ _
  go_wp2_with (refine wpList_store_row rfl 24 _ _ rfl X3.heap.size ZL.toArray rfl rfl 24 ZL.toArray HZA.out (R5.info32a _ HZS.out) rfl HZ1.out ?_)
  refine Calls.mono HCALL3.out ?_
  rintro e X4 ⟨rfl, hk4⟩
  generalize X3.heap.size = cb at *
  have HK4 : Hid (KM w og mb o2 ((X4.heap.size, Z0) :: (cb, Z0) :: (bb, d2) :: (ab, d1) :: []) ((X4.alloc (.cells ZL.toArray 24 (0, 0))).setRow X4.heap.size ZL.toArray)) := HROWZ.out _ _ _ _ _ hk4
  clear HZA hk4 HCALL3 HK3 HRN
  have HZA : Hid ((X4.alloc (.cells ZL.toArray 24 (0, 0))).heap[X4.heap.size]? = some (.cells ZL.toArray 24 (0, 0))) := heap_alloc_new _ _
  obtain ⟨X5, hX5⟩ : ∃ X, X = (X4.alloc (.cells ZL.toArray 24 (0, 0))).setRow X4.heap.size ZL.toArray := ⟨_, rfl⟩
  have HX5 : Hid (X5 = (X4.alloc (.cells ZL.toArray 24 (0, 0))).setRow X4.heap.size ZL.toArray) := hX5
  have HCALL4 : Hid (Calls Tryz.prog 14 #[.pointer (some ⟨og, 0, none⟩), .slice (some ⟨X5.heap.size, 0, none⟩) 1 1] (X5.alloc (.cells RZ.toArray 33 (0, 0))) fun e Y => e = .returned (.tuple #[.agg ZL.toArray, .int .i64 2]) ∧ KM w og mb o2 ((X4.heap.size, Z0) :: (cb, Z0) :: (bb, d2) :: (ab, d1) :: []) Y) := HR2.out og mb _ _ (by rw [hX5]; exact HK4.out)
  clear hX5 HR2
  go_wp2_with (first
    | (refine wpList_store_row rfl 24 _ _ rfl X4.heap.size ZL.toArray rfl rfl 24 ZL.toArray HZA.out (R5.info32a _ HZS.out) rfl HZ1.out ?_; rw [← HX5.out])
    | (refine PC.wpList_build rfl 33 _ rfl #[(0, .int .i64 2)] (.agg RZ.toArray) (by simp; first | done | rfl) (HBR.out _) ?_)
    | (refine wpList_bslice rfl 51 1 _ rfl #[(0, .agg RZ.toArray)] _ (by simp; first | done | rfl) (HBS.out _) ?_))
  refine Calls.mono HCALL4.out ?_
  rintro e X6 ⟨rfl, hk6⟩
  generalize X4.heap.size = db at *
  have HK6 : Hid (KM w og mb o2 ((X6.heap.size, Z0) :: (db, Z0) :: (cb, Z0) :: (bb, d2) :: (ab, d1) :: []) ((X6.alloc (.cells ZL.toArray 24 (0, 0))).setRow X6.heap.size ZL.toArray)) := HROWZ.out _ _ _ _ _ hk6
  have HSD : Hid (SK w D1 D2 ab bb ((X6.alloc (.cells ZL.toArray 24 (0, 0))).setRow X6.heap.size ZL.toArray).drew) := HSK.out _ _ _ _ _ ab bb HK6.out (by simp) (by simp)
  clear HZA hk6 HCALL4 HK4 HX5
  have HZA : Hid ((X6.alloc (.cells ZL.toArray 24 (0, 0))).heap[X6.heap.size]? = some (.cells ZL.toArray 24 (0, 0))) := heap_alloc_new _ _
  go_wp2_with (refine wpList_store_row rfl 24 _ _ rfl X6.heap.size ZL.toArray rfl rfl 24 ZL.toArray HZA.out (R5.info32a _ HZS.out) rfl HZ1.out ?_)
  clear HK6 HZA HBD HBP HBG HBR HBS HROW1 HROW2 HROWZ HRG1 HSK
  refine wp_region_held_drew (S := SK w D1 D2 ab bb) (by kernel_rfl) HSD.out (fun hHeld => ?_)
  generalize ((X6.alloc (.cells ZL.toArray 24 (0, 0))).setRow X6.heap.size ZL.toArray).drew = X at *
  have he1 := HE1.out
  have he2 := HE2.out
  refine wpAnyH_take (i := 0) (oi := ⟨some 49, .load 24 (.tmp 2), 24, _, #[], none⟩) rfl (by kernel_rfl) (by kernel_rfl) (by kernel_rfl) (fun _ _ _ h => h) (yieldsIf_load_mid (by rfl) 24 (.tmp 2) rfl (ab) (0) rfl (D1) _ (fun _ h => PC.rangeAt_row h.x) Tryz.underlying24 rfl H1I.out) hHeld ?_
  try simp only [Act.put, qT, q0, qS]
  refine wpAnyH_ready (rs := [1]) (by kernel_rfl) (by simp) ?_
  refine AllReadyH.cons (o := { dst := some 50, op := .call { callee := Go.Callee.value (.func 21), args := #[.const (Go.Value.int Go.IntKind.u8 1)], argTypes := #[5] }, type := 24, pos := _, after := #[], guard := none }) rfl (fun K hK => ?_) AllReadyH.nil
  rw [if_pos (by rfl)]
  go_wp2_with fail
  refine Calls.mono (HD1.out _) ?_
  rintro e Y1 ⟨rfl, hb1⟩
  have hS1 := hHeld.step hb1
  clear hHeld hb1
  refine hK.out _ _ hS1 (fun _ => ?_)
  clear hK K
  try simp only [Act.put, qT, q0, qS]
  have hHeld := hS1
  refine wpAnyH_take (i := 2) (oi := ⟨some 51, .binOp .eql 24 (.tmp 49) (.tmp 50) 24, 4, _, #[⟨0, .data⟩, ⟨1, .data⟩], none⟩) (v := .bool true) rfl (by kernel_rfl) (by kernel_rfl) (by kernel_rfl) (fun _ _ _ h => h) (Or.inl ⟨by rfl, fun w' hw' => ?_⟩) hHeld ?_
  · first | (go_simp; done) | (go_simp; rfl)
  try simp only [Act.put, qT, q0, qS]
  refine wpAnyH_take (i := 3) (oi := ⟨some 52, .move (.tmp 51), 4, _, #[⟨2, .data⟩, ⟨1, .chain⟩], none⟩) (v := .bool true) rfl (by kernel_rfl) (by kernel_rfl) (by kernel_rfl) (fun _ _ _ h => h) (Or.inl ⟨by rfl, fun w' hw' => ?_⟩) hHeld ?_
  · first | (go_simp; done) | (go_simp; rfl)
  try simp only [Act.put, qT, q0, qS]
  refine wpAnyH_take (i := 4) (oi := ⟨some 53, .load 24 (.tmp 4), 24, _, #[⟨3, .guard⟩], some (3, true)⟩) rfl (by kernel_rfl) (by kernel_rfl) (by kernel_rfl) (fun _ _ _ h => h) (yieldsIf_load_mid (by rfl) 24 (.tmp 4) rfl (bb) (0) rfl (D2) _ (fun _ h => PC.rangeAt_row h.y) Tryz.underlying24 rfl H2I.out) hHeld ?_
  try simp only [Act.put, qT, q0, qS]
  refine wpAnyH_ready (rs := [5]) (by kernel_rfl) (by simp) ?_
  refine AllReadyH.cons (o := { dst := some 54, op := .call { callee := Go.Callee.value (.func 21), args := #[.const (Go.Value.int Go.IntKind.u8 2)], argTypes := #[5] }, type := 24, pos := _, after := #[⟨3, .chain⟩, ⟨3, .guard⟩], guard := some (3, true) }) rfl (fun K hK => ?_) AllReadyH.nil
  rw [if_pos (by rfl)]
  go_wp2_with fail
  refine Calls.mono (HD2.out _) ?_
  rintro e Y2 ⟨rfl, hb2⟩
  have hS2 := hS1.step hb2
  clear hHeld hb2 hS1
  refine hK.out _ _ hS2 (fun _ => ?_)
  clear hK K
  try simp only [Act.put, qT, q0, qS]
  have hHeld := hS2
  refine wpAnyH_take (i := 6) (oi := ⟨some 55, .binOp .eql 24 (.tmp 53) (.tmp 54) 24, 4, _, #[⟨4, .data⟩, ⟨5, .data⟩, ⟨3, .guard⟩], some (3, true)⟩) (v := .bool true) rfl (by kernel_rfl) (by kernel_rfl) (by kernel_rfl) (fun _ _ _ h => h) (Or.inl ⟨by rfl, fun w' hw' => ?_⟩) hHeld ?_
  · first | (go_simp; done) | (go_simp; rfl)
  try simp only [Act.put, qT, q0, qS]
  refine wpAnyH_take (i := 7) (oi := ⟨some 56, .pick (.tmp 52) (.tmp 55) (.const (Go.Value.bool false)), 4, _, #[⟨3, .data⟩, ⟨6, .data⟩], none⟩) (v := .bool true) rfl (by kernel_rfl) (by kernel_rfl) (by kernel_rfl) (fun _ _ _ h => h) (Or.inl ⟨by rfl, fun w' hw' => ?_⟩) hHeld ?_
  · first | (go_simp; done) | (go_simp; rfl)
  try simp only [Act.put, qT, q0, qS]
  refine wpAnyH_take (i := 8) (oi := ⟨some 57, .move (.tmp 56), 4, _, #[⟨7, .data⟩, ⟨5, .chain⟩], none⟩) (v := .bool true) rfl (by kernel_rfl) (by kernel_rfl) (by kernel_rfl) (fun _ _ _ h => h) (Or.inl ⟨by rfl, fun w' hw' => ?_⟩) hHeld ?_
  · first | (go_simp; done) | (go_simp; rfl)
  try simp only [Act.put, qT, q0, qS]
  refine wpAnyH_take (i := 9) (oi := ⟨some 58, .move (.tmp 3), 39, _, #[⟨8, .guard⟩], some (8, true)⟩) (v := .int .i64 0) rfl (by kernel_rfl) (by kernel_rfl) (by kernel_rfl) (fun _ _ _ h => h) (Or.inl ⟨by rfl, fun w' hw' => ?_⟩) hHeld ?_
  · first | (go_simp; done) | (go_simp; rfl)
  try simp only [Act.put, qT, q0, qS]
  refine wpAnyH_take (i := 11) (oi := ⟨some 60, .move (.tmp 5), 39, _, #[⟨8, .guard⟩], some (8, true)⟩) (v := .int .i64 0) rfl (by kernel_rfl) (by kernel_rfl) (by kernel_rfl) (fun _ _ _ h => h) (Or.inl ⟨by rfl, fun w' hw' => ?_⟩) hHeld ?_
  · first | (go_simp; done) | (go_simp; rfl)
  try simp only [Act.put, qT, q0, qS]
  refine wpAnyH_ready (rs := [10]) (by kernel_rfl) (by simp) ?_
  refine AllReadyH.cons (o := { dst := some 59, op := .call { callee := Go.Callee.value (.func 10), args := #[.tmp 58], argTypes := #[39] }, type := 3, pos := _, after := #[⟨9, .data⟩, ⟨8, .chain⟩, ⟨8, .guard⟩], guard := some (8, true) }) rfl (fun K hK => ?_) AllReadyH.nil
  rw [if_pos (by rfl)]
  go_wp2_with fail
  refine Calls.mono (num_any 0 Y2) ?_
  rintro e w' ⟨rfl, rfl⟩
  refine hK.out _ _ hS2 (fun _ => ?_)
  clear hK K
  try simp only [Act.put, qT, q0, qS]
  refine wpAnyH_ready (rs := [12]) (by kernel_rfl) (by simp) ?_
  refine AllReadyH.cons (o := { dst := some 61, op := .call { callee := Go.Callee.value (.func 10), args := #[.tmp 60], argTypes := #[39] }, type := 3, pos := _, after := #[⟨11, .data⟩, ⟨10, .chain⟩, ⟨8, .guard⟩], guard := some (8, true) }) rfl (fun K hK => ?_) AllReadyH.nil
  rw [if_pos (by rfl)]
  go_wp2_with fail
  refine Calls.mono (num_any 0 Y2) ?_
  rintro e w' ⟨rfl, rfl⟩
  refine hK.out _ _ hS2 (fun _ => ?_)
  clear hK K
  try simp only [Act.put, qT, q0, qS]
  refine wpAnyH_take (i := 13) (oi := ⟨some 62, .binOp .add 3 (.tmp 59) (.tmp 61) 3, 3, _, #[⟨10, .data⟩, ⟨12, .data⟩, ⟨8, .guard⟩], some (8, true)⟩) (v := .int .i64 0) rfl (by kernel_rfl) (by kernel_rfl) (by kernel_rfl) (fun _ _ _ h => h) (Or.inl ⟨by rfl, fun w' hw' => ?_⟩) hHeld ?_
  · first | (go_simp; done) | (go_simp; rfl)
  try simp only [Act.put, qT, q0, qS]
  refine wpAnyH_take (i := 14) (oi := ⟨some 63, .binOp .eql 3 (.tmp 62) (.const (Go.Value.int Go.IntKind.i64 0)) 3, 4, _, #[⟨13, .data⟩, ⟨8, .guard⟩], some (8, true)⟩) (v := .bool true) rfl (by kernel_rfl) (by kernel_rfl) (by kernel_rfl) (fun _ _ _ h => h) (Or.inl ⟨by rfl, fun w' hw' => ?_⟩) hHeld ?_
  · first | (go_simp; done) | (go_simp; rfl)
  try simp only [Act.put, qT, q0, qS]
  refine wpAnyH_take (i := 15) (oi := ⟨some 64, .pick (.tmp 57) (.tmp 63) (.const (Go.Value.bool false)), 4, _, #[⟨8, .data⟩, ⟨14, .data⟩], none⟩) (v := .bool true) rfl (by kernel_rfl) (by kernel_rfl) (by kernel_rfl) (fun _ _ _ h => h) (Or.inl ⟨by rfl, fun w' hw' => ?_⟩) hHeld ?_
  · first | (go_simp; done) | (go_simp; rfl)
  try simp only [Act.put, qT, q0, qS]
  refine wpAnyH_take (i := 16) (oi := ⟨some 65, .move (.tmp 64), 4, _, #[⟨15, .data⟩, ⟨12, .chain⟩], none⟩) (v := .bool true) rfl (by kernel_rfl) (by kernel_rfl) (by kernel_rfl) (fun _ _ _ h => h) (Or.inl ⟨by rfl, fun w' hw' => ?_⟩) hHeld ?_
  · first | (go_simp; done) | (go_simp; rfl)
  try simp only [Act.put, qT, q0, qS]
  refine wpAnyH_take (i := 17) (oi := ⟨some 66, .move (.tmp 7), 39, _, #[⟨16, .guard⟩], some (16, true)⟩) (v := .int .i64 2) rfl (by kernel_rfl) (by kernel_rfl) (by kernel_rfl) (fun _ _ _ h => h) (Or.inl ⟨by rfl, fun w' hw' => ?_⟩) hHeld ?_
  · first | (go_simp; done) | (go_simp; rfl)
  try simp only [Act.put, qT, q0, qS]
  refine wpAnyH_ready (rs := [18]) (by kernel_rfl) (by simp) ?_
  refine AllReadyH.cons (o := { dst := some 67, op := .call { callee := Go.Callee.value (.func 10), args := #[.tmp 66], argTypes := #[39] }, type := 3, pos := _, after := #[⟨17, .data⟩, ⟨16, .chain⟩, ⟨16, .guard⟩], guard := some (16, true) }) rfl (fun K hK => ?_) AllReadyH.nil
  rw [if_pos (by rfl)]
  go_wp2_with fail
  refine Calls.mono (num_any 2 Y2) ?_
  rintro e w' ⟨rfl, rfl⟩
  refine hK.out _ _ hS2 (fun _ => ?_)
  clear hK K
  try simp only [Act.put, qT, q0, qS]
  refine wpAnyH_take (i := 19) (oi := ⟨some 68, .binOp .eql 3 (.tmp 67) (.const (Go.Value.int Go.IntKind.i64 2)) 3, 4, _, #[⟨18, .data⟩, ⟨16, .guard⟩], some (16, true)⟩) (v := .bool true) rfl (by kernel_rfl) (by kernel_rfl) (by kernel_rfl) (fun _ _ _ h => h) (Or.inl ⟨by rfl, fun w' hw' => ?_⟩) hHeld ?_
  · first | (go_simp; done) | (go_simp; rfl)
  try simp only [Act.put, qT, q0, qS]
  refine wpAnyH_take (i := 20) (oi := ⟨some 69, .pick (.tmp 65) (.tmp 68) (.const (Go.Value.bool false)), 4, _, #[⟨16, .data⟩, ⟨19, .data⟩], none⟩) (v := .bool true) rfl (by kernel_rfl) (by kernel_rfl) (by kernel_rfl) (fun _ _ _ h => h) (Or.inl ⟨by rfl, fun w' hw' => ?_⟩) hHeld ?_
  · first | (go_simp; done) | (go_simp; rfl)
  try simp only [Act.put, qT, q0, qS]
  refine wpAnyH_take (i := 21) (oi := ⟨some 70, .move (.tmp 69), 4, _, #[⟨20, .data⟩, ⟨18, .chain⟩], none⟩) (v := .bool true) rfl (by kernel_rfl) (by kernel_rfl) (by kernel_rfl) (fun _ _ _ h => h) (Or.inl ⟨by rfl, fun w' hw' => ?_⟩) hHeld ?_
  · first | (go_simp; done) | (go_simp; rfl)
  try simp only [Act.put, qT, q0, qS]
  refine wpAnyH_take (i := 22) (oi := ⟨some 71, .move (.tmp 9), 39, _, #[⟨21, .guard⟩], some (21, true)⟩) (v := .int .i64 2) rfl (by kernel_rfl) (by kernel_rfl) (by kernel_rfl) (fun _ _ _ h => h) (Or.inl ⟨by rfl, fun w' hw' => ?_⟩) hHeld ?_
  · first | (go_simp; done) | (go_simp; rfl)
  try simp only [Act.put, qT, q0, qS]
  refine wpAnyH_ready (rs := [23]) (by kernel_rfl) (by simp) ?_
  refine AllReadyH.cons (o := { dst := some 72, op := .call { callee := Go.Callee.value (.func 10), args := #[.tmp 71], argTypes := #[39] }, type := 3, pos := _, after := #[⟨22, .data⟩, ⟨21, .chain⟩, ⟨21, .guard⟩], guard := some (21, true) }) rfl (fun K hK => ?_) AllReadyH.nil
  rw [if_pos (by rfl)]
  go_wp2_with fail
  refine Calls.mono (num_any 2 Y2) ?_
  rintro e w' ⟨rfl, rfl⟩
  refine hK.out _ _ hS2 (fun _ => ?_)
  clear hK K
  try simp only [Act.put, qT, q0, qS]
  refine wpAnyH_take (i := 24) (oi := ⟨some 73, .binOp .eql 3 (.tmp 72) (.const (Go.Value.int Go.IntKind.i64 2)) 3, 4, _, #[⟨23, .data⟩, ⟨21, .guard⟩], some (21, true)⟩) (v := .bool true) rfl (by kernel_rfl) (by kernel_rfl) (by kernel_rfl) (fun _ _ _ h => h) (Or.inl ⟨by rfl, fun w' hw' => ?_⟩) hHeld ?_
  · first | (go_simp; done) | (go_simp; rfl)
  try simp only [Act.put, qT, q0, qS]
  refine wpAnyH_take (i := 25) (oi := ⟨some 74, .pick (.tmp 70) (.tmp 73) (.const (Go.Value.bool false)), 4, _, #[⟨21, .data⟩, ⟨24, .data⟩], none⟩) (v := .bool true) rfl (by kernel_rfl) (by kernel_rfl) (by kernel_rfl) (fun _ _ _ h => h) (Or.inl ⟨by rfl, fun w' hw' => ?_⟩) hHeld ?_
  · first | (go_simp; done) | (go_simp; rfl)
  try simp only [Act.put, qT, q0, qS]
  refine wpAnyH_take (i := 26) (oi := ⟨some 75, .move (.tmp 74), 4, _, #[⟨25, .data⟩, ⟨23, .chain⟩], none⟩) (v := .bool true) rfl (by kernel_rfl) (by kernel_rfl) (by kernel_rfl) (fun _ _ _ h => h) (Or.inl ⟨by rfl, fun w' hw' => ?_⟩) hHeld ?_
  · first | (go_simp; done) | (go_simp; rfl)
  try simp only [Act.put, qT, q0, qS]
  refine wpAnyH_take (i := 27) (oi := ⟨some 76, .move (.tmp 11), 39, _, #[⟨26, .guard⟩], some (26, true)⟩) (v := .int .i64 2) rfl (by kernel_rfl) (by kernel_rfl) (by kernel_rfl) (fun _ _ _ h => h) (Or.inl ⟨by rfl, fun w' hw' => ?_⟩) hHeld ?_
  · first | (go_simp; done) | (go_simp; rfl)
  try simp only [Act.put, qT, q0, qS]
  refine wpAnyH_ready (rs := [28]) (by kernel_rfl) (by simp) ?_
  refine AllReadyH.cons (o := { dst := some 77, op := .call { callee := Go.Callee.value (.func 10), args := #[.tmp 76], argTypes := #[39] }, type := 3, pos := _, after := #[⟨27, .data⟩, ⟨26, .chain⟩, ⟨26, .guard⟩], guard := some (26, true) }) rfl (fun K hK => ?_) AllReadyH.nil
  rw [if_pos (by rfl)]
  go_wp2_with fail
  refine Calls.mono (num_any 2 Y2) ?_
  rintro e w' ⟨rfl, rfl⟩
  refine hK.out _ _ hS2 (fun _ => ?_)
  clear hK K
  try simp only [Act.put, qT, q0, qS]
  refine wpAnyH_take (i := 29) (oi := ⟨some 78, .binOp .eql 3 (.tmp 77) (.const (Go.Value.int Go.IntKind.i64 2)) 3, 4, _, #[⟨28, .data⟩, ⟨26, .guard⟩], some (26, true)⟩) (v := .bool true) rfl (by kernel_rfl) (by kernel_rfl) (by kernel_rfl) (fun _ _ _ h => h) (Or.inl ⟨by rfl, fun w' hw' => ?_⟩) hHeld ?_
  · first | (go_simp; done) | (go_simp; rfl)
  try simp only [Act.put, qT, q0, qS]
  refine wpAnyH_take (i := 30) (oi := ⟨some 79, .pick (.tmp 75) (.tmp 78) (.const (Go.Value.bool false)), 4, _, #[⟨26, .data⟩, ⟨29, .data⟩], none⟩) (v := .bool true) rfl (by kernel_rfl) (by kernel_rfl) (by kernel_rfl) (fun _ _ _ h => h) (Or.inl ⟨by rfl, fun w' hw' => ?_⟩) hHeld ?_
  · first | (go_simp; done) | (go_simp; rfl)
  try simp only [Act.put, qT, q0, qS]
  refine wpAnyH_take (i := 31) (oi := ⟨some 0, .assign (.tmp 79), 4, _, #[⟨30, .data⟩, ⟨28, .chain⟩, ⟨0, .phase⟩, ⟨1, .phase⟩, ⟨2, .phase⟩, ⟨3, .phase⟩, ⟨4, .phase⟩, ⟨5, .phase⟩, ⟨6, .phase⟩, ⟨7, .phase⟩, ⟨8, .phase⟩, ⟨9, .phase⟩, ⟨10, .phase⟩, ⟨11, .phase⟩, ⟨12, .phase⟩, ⟨13, .phase⟩, ⟨14, .phase⟩, ⟨15, .phase⟩, ⟨16, .phase⟩, ⟨17, .phase⟩, ⟨18, .phase⟩, ⟨19, .phase⟩, ⟨20, .phase⟩, ⟨21, .phase⟩, ⟨22, .phase⟩, ⟨23, .phase⟩, ⟨24, .phase⟩, ⟨25, .phase⟩, ⟨26, .phase⟩, ⟨27, .phase⟩, ⟨28, .phase⟩, ⟨29, .phase⟩, ⟨30, .phase⟩], none⟩) (v := .bool true) rfl (by kernel_rfl) (by kernel_rfl) (by kernel_rfl) (fun _ _ _ h => h) (Or.inl ⟨by rfl, fun w' hw' => ?_⟩) hHeld ?_
  · first | (go_simp; done) | (go_simp; rfl)
  try simp only [Act.put, qT, q0, qS]
  refine wpAnyH_done (by kernel_rfl) ?_ _
  have HB : Hid (Below w.heap.size w Y2) := hS2.b
  clear hHeld hS2 he1 he2
  go_wp2
  go_ret
  exact ⟨rfl, HB.out⟩
end Go.Proofs.YtpmknkagnkagpaaGreat.ZC
