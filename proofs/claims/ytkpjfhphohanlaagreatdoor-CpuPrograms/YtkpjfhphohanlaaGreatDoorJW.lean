/- cpu: Untext. -/
import Derived.Test.YtkpjfhphohanlaaGreatDoorJV
set_option linter.unusedVariables false
set_option linter.unusedSimpArgs false
namespace Go.Proofs.YtkpjfhphohanlaaGreatDoor.JC
open Go.RowKit
open Go.Proofs.YtkpjfhphohanlaaGreatDoor.EC (row_lt heap_at rangeAt_below rangeAt_row ret_bool ret_i64 beq_int)

theorem zeroI (W : World) : (zeroValue 41).run Tryz.prog W = .ok (.agg (iL ⟨0, 0, 0, 0, 0⟩).toArray) W := by kernel_rfl
theorem bldI0 (W : World) : (Instr.build 41 #[]).run Tryz.prog W = .ok (.agg (iL ⟨0, 0, 0, 0, 0⟩).toArray) W := by kernel_rfl
theorem iL_one (i : Ins) : (iL i).toArray.all (·.oneCell') = true := by simp [iL, Value.oneCell']
set_option maxHeartbeats 1000000 in
set_option maxRecDepth 100000 in
theorem untext_any (s : List UInt8) (hl : s.length ≤ 1000000) (w : World) (hG : GV w) : Calls Tryz.prog 15 #[sV s] w fun e w' => e = .returned (insRes (unt s)) ∧ Below w.heap.size w w' := by
  have HR : Hid (∀ W, GV W → Calls Tryz.prog 29 #[sV s] W fun e w' => e = .returned (iV (rd s)) ∧ Below W.heap.size W w') := fun W hW => read_any s hl W hW
  have HT : Hid (∀ W, GV W → Calls Tryz.prog 21 #[iV (rd s)] W fun e w' => e = .returned (txtRes (rd s)) ∧ Below W.heap.size W w') := fun W hW => text_any (rd s) (rd_wf s) W hW
  by_cases hu : may (rd s) = true ∧ txt (rd s) = s
  · have hU : insRes (unt s) = .tuple #[.agg (iL (rd s)).toArray, .int .i64 0] := by unfold unt; rw [if_pos hu]; rfl
    have hTR : txtRes (rd s) = .tuple #[sV s, .int .i64 0] := by unfold txtRes; rw [if_pos hu.1, hu.2]
    rw [hTR] at HT
    rw [hU]
    clear hU hTR hu
    have hzv := fun W => zeroI W
    obtain ⟨ZL, hZL⟩ : ∃ L, L = iL ⟨0, 0, 0, 0, 0⟩ := ⟨_, rfl⟩
    rw [← hZL] at hzv
    have HZI : Hid ((Tryz.prog.info? 41).map (·.size) = some ZL.length) := by rw [hZL]; exact ins_info _
    have HZI2 : Hid ((Tryz.prog.info? 41).map (·.size) = some ZL.toArray.size) := by rw [hZL]; exact ins_info _
    have HZ1 : Hid (ZL.toArray.all (·.oneCell') = true) := by show _ = _; rw [hZL]; exact iL_one _
    have HBZ : Hid (∀ W, (Instr.build 41 #[]).run Tryz.prog W = .ok (.agg ZL.toArray) W) := fun W => by rw [hZL]; exact bldI0 W
    obtain ⟨IL, hIL⟩ : ∃ L, L = iL (rd s) := ⟨_, rfl⟩
    have HII : Hid ((Tryz.prog.info? 41).map (·.size) = some IL.length) := by rw [hIL]; exact ins_info _
    have HII2 : Hid ((Tryz.prog.info? 41).map (·.size) = some IL.toArray.size) := by rw [hIL]; exact ins_info _
    have HI1 : Hid (IL.toArray.all (·.oneCell') = true) := by show _ = _; rw [hIL]; exact iL_one _
    have HSZ : Hid (ZL.toArray.size = IL.toArray.size) := by show _ = _; rw [hZL, hIL]; rfl
    have hIV : iV (rd s) = .agg (iL (rd s)).toArray := rfl
    rw [hIV, ← hIL] at HR HT
    have HIL : Hid _ := hIL
    have HZL : Hid _ := hZL
    have HG0 : Hid (GV (w.alloc (.cells ZL.toArray 41 (0, 0)))) := hG.below ((Below.refl _ _).alloc (Nat.le_refl _) _)
    have HY0 : Hid (∀ Y, Below (w.alloc (.cells ZL.toArray 41 (0, 0))).heap.size (w.alloc (.cells ZL.toArray 41 (0, 0))) Y → GV ((Y.alloc (.cells ZL.toArray 41 (0, 0))).setRow Y.heap.size IL.toArray) ∧ ∀ Z, Below ((Y.alloc (.cells ZL.toArray 41 (0, 0))).setRow Y.heap.size IL.toArray).heap.size ((Y.alloc (.cells ZL.toArray 41 (0, 0))).setRow Y.heap.size IL.toArray) Z → Below w.heap.size w Z ∧ Z.heap[w.heap.size]? = some (.cells ZL.toArray 41 (0, 0)) ∧ Z.heap[Y.heap.size]? = some (.cells IL.toArray 41 (0, 0))) := fun Y hb => by
      have h1 : Below w.heap.size w (w.alloc (.cells ZL.toArray 41 (0, 0))) := (Below.refl _ _).alloc (Nat.le_refl _) _
      have h2 := h1.trans (hb.mono h1.size)
      have h3 : Below Y.heap.size Y ((Y.alloc (.cells ZL.toArray 41 (0, 0))).setRow Y.heap.size IL.toArray) := below_setRow ((Below.refl _ _).alloc (Nat.le_refl _) _) (Nat.le_refl _) _
      have hq : ((Y.alloc (.cells ZL.toArray 41 (0, 0))).setRow Y.heap.size IL.toArray).heap[Y.heap.size]? = some (.cells IL.toArray 41 (0, 0)) := setRow_heap _ _ _ _ _ _ (heap_alloc_new _ _)
      have h4 := h2.trans (h3.mono h2.size)
      have hz : Y.heap[w.heap.size]? = some (.cells ZL.toArray 41 (0, 0)) := (hb.block _ (by simp)).trans (heap_alloc_new _ _)
      refine ⟨hG.below h4, fun Z hb5 => ⟨h4.trans (hb5.mono h4.size), ?_, ?_⟩⟩
      · exact (hb5.block _ (by have := row_lt hz; rw [setRow_size]; simp; omega)).trans ((h3.block _ (row_lt hz)).trans hz)
      · exact (hb5.block _ (row_lt hq)).trans hq
    clear hZL hIL hG
    rw [← HIL.out]
    unfold sV at *
    go_enter Tryz.func15, Tryz.ntmps15
    go_wp2_with fail
    refine Calls.mono (HR.out _ HG0.out) ?_
    rintro e Y ⟨rfl, hbY⟩
    obtain ⟨hGY, hNZ⟩ := HY0.out Y hbY
    have HGY : Hid _ := hGY
    have HNZ : Hid _ := hNZ
    clear hbY hGY hNZ HY0 HG0 HR
    have HYI : Hid (((Y.alloc (.cells ZL.toArray 41 (0, 0))).setRow Y.heap.size IL.toArray).heap[Y.heap.size]? = some (.cells IL.toArray 41 (0, 0))) := setRow_heap _ _ _ _ _ _ (heap_alloc_new _ _)
    have HYZ : Hid ((Y.alloc (.cells ZL.toArray 41 (0, 0))).heap[Y.heap.size]? = some (.cells ZL.toArray 41 (0, 0))) := heap_alloc_new _ _
    go_wp2_with (first
      | (refine wpList_store_row rfl 41 _ _ rfl Y.heap.size IL.toArray rfl rfl 41 ZL.toArray HYZ.out HII2.out HSZ.out HI1.out ?_)
      | (refine wpList_load_mid rfl 41 _ rfl Y.heap.size 0 rfl IL _ (rangeAt_row HYI.out) Tryz.underlying41 rfl HII.out ?_))
    refine Calls.mono (HT.out _ HGY.out) ?_
    rintro e Z ⟨rfl, hbZ⟩
    obtain ⟨hBZ, hZ1, hZ2⟩ := HNZ.out Z hbZ
    have HBW : Hid (Below w.heap.size w Z) := hBZ
    have HRZ : Hid (Z.heap[w.heap.size]? = some (.cells ZL.toArray 41 (0, 0))) := hZ1
    have HRI : Hid (Z.heap[Y.heap.size]? = some (.cells IL.toArray 41 (0, 0))) := hZ2
    clear hBZ hZ1 hZ2 hbZ HNZ HGY HYI HYZ HT
    go_wp2_with (first
      | (refine wpList_load_mid rfl 41 _ rfl Y.heap.size 0 rfl IL _ (rangeAt_row HRI.out) Tryz.underlying41 rfl HII.out ?_)
      | (refine wpList_store_row rfl 41 _ _ rfl w.heap.size IL.toArray rfl rfl 41 ZL.toArray HRZ.out HII2.out HSZ.out HI1.out ?_))
    refine bodyPost_ret (v := .tuple #[.agg IL.toArray, .int .i64 0]) (results2 Tryz.results15 _ _ w.heap.size 41 IL (0, 0) _ rfl rfl (setRow_heap _ _ _ _ _ _ HRZ.out) Tryz.underlying41 rfl HII.out) rfl ⟨rfl, below_setRow HBW.out (Nat.le_refl _) _⟩
  · have hU : insRes (unt s) = .tuple #[.agg (iL ⟨0, 0, 0, 0, 0⟩).toArray, .int .i64 4] := by unfold unt; rw [if_neg hu]; rfl
    rw [hU]
    cases hm : may (rd s)
    · have hTR : txtRes (rd s) = .tuple #[sV [], .int .i64 2] := by unfold txtRes; rw [hm]; rfl
      rw [hTR] at HT
      clear hU hTR hu hm
      have hzv := fun W => zeroI W
      obtain ⟨ZL, hZL⟩ : ∃ L, L = iL ⟨0, 0, 0, 0, 0⟩ := ⟨_, rfl⟩
      rw [← hZL] at hzv
      have HZI : Hid ((Tryz.prog.info? 41).map (·.size) = some ZL.length) := by rw [hZL]; exact ins_info _
      have HZI2 : Hid ((Tryz.prog.info? 41).map (·.size) = some ZL.toArray.size) := by rw [hZL]; exact ins_info _
      have HZ1 : Hid (ZL.toArray.all (·.oneCell') = true) := by show _ = _; rw [hZL]; exact iL_one _
      have HBZ : Hid (∀ W, (Instr.build 41 #[]).run Tryz.prog W = .ok (.agg ZL.toArray) W) := fun W => by rw [hZL]; exact bldI0 W
      obtain ⟨IL, hIL⟩ : ∃ L, L = iL (rd s) := ⟨_, rfl⟩
      have HII : Hid ((Tryz.prog.info? 41).map (·.size) = some IL.length) := by rw [hIL]; exact ins_info _
      have HII2 : Hid ((Tryz.prog.info? 41).map (·.size) = some IL.toArray.size) := by rw [hIL]; exact ins_info _
      have HI1 : Hid (IL.toArray.all (·.oneCell') = true) := by show _ = _; rw [hIL]; exact iL_one _
      have HSZ : Hid (ZL.toArray.size = IL.toArray.size) := by show _ = _; rw [hZL, hIL]; rfl
      have hIV : iV (rd s) = .agg (iL (rd s)).toArray := rfl
      rw [hIV, ← hIL] at HR HT
      have HIL : Hid _ := hIL
      have HZL : Hid _ := hZL
      have HG0 : Hid (GV (w.alloc (.cells ZL.toArray 41 (0, 0)))) := hG.below ((Below.refl _ _).alloc (Nat.le_refl _) _)
      have HY0 : Hid (∀ Y, Below (w.alloc (.cells ZL.toArray 41 (0, 0))).heap.size (w.alloc (.cells ZL.toArray 41 (0, 0))) Y → GV ((Y.alloc (.cells ZL.toArray 41 (0, 0))).setRow Y.heap.size IL.toArray) ∧ ∀ Z, Below ((Y.alloc (.cells ZL.toArray 41 (0, 0))).setRow Y.heap.size IL.toArray).heap.size ((Y.alloc (.cells ZL.toArray 41 (0, 0))).setRow Y.heap.size IL.toArray) Z → Below w.heap.size w Z ∧ Z.heap[w.heap.size]? = some (.cells ZL.toArray 41 (0, 0)) ∧ Z.heap[Y.heap.size]? = some (.cells IL.toArray 41 (0, 0))) := fun Y hb => by
        have h1 : Below w.heap.size w (w.alloc (.cells ZL.toArray 41 (0, 0))) := (Below.refl _ _).alloc (Nat.le_refl _) _
        have h2 := h1.trans (hb.mono h1.size)
        have h3 : Below Y.heap.size Y ((Y.alloc (.cells ZL.toArray 41 (0, 0))).setRow Y.heap.size IL.toArray) := below_setRow ((Below.refl _ _).alloc (Nat.le_refl _) _) (Nat.le_refl _) _
        have hq : ((Y.alloc (.cells ZL.toArray 41 (0, 0))).setRow Y.heap.size IL.toArray).heap[Y.heap.size]? = some (.cells IL.toArray 41 (0, 0)) := setRow_heap _ _ _ _ _ _ (heap_alloc_new _ _)
        have h4 := h2.trans (h3.mono h2.size)
        have hz : Y.heap[w.heap.size]? = some (.cells ZL.toArray 41 (0, 0)) := (hb.block _ (by simp)).trans (heap_alloc_new _ _)
        refine ⟨hG.below h4, fun Z hb5 => ⟨h4.trans (hb5.mono h4.size), ?_, ?_⟩⟩
        · exact (hb5.block _ (by have := row_lt hz; rw [setRow_size]; simp; omega)).trans ((h3.block _ (row_lt hz)).trans hz)
        · exact (hb5.block _ (row_lt hq)).trans hq
      clear hZL hIL hG
      rw [← HZL.out]
      unfold sV at *
      go_enter Tryz.func15, Tryz.ntmps15
      go_wp2_with fail
      refine Calls.mono (HR.out _ HG0.out) ?_
      rintro e Y ⟨rfl, hbY⟩
      obtain ⟨hGY, hNZ⟩ := HY0.out Y hbY
      have HGY : Hid _ := hGY
      have HNZ : Hid _ := hNZ
      clear hbY hGY hNZ HY0 HG0 HR
      have HYI : Hid (((Y.alloc (.cells ZL.toArray 41 (0, 0))).setRow Y.heap.size IL.toArray).heap[Y.heap.size]? = some (.cells IL.toArray 41 (0, 0))) := setRow_heap _ _ _ _ _ _ (heap_alloc_new _ _)
      have HYZ : Hid ((Y.alloc (.cells ZL.toArray 41 (0, 0))).heap[Y.heap.size]? = some (.cells ZL.toArray 41 (0, 0))) := heap_alloc_new _ _
      go_wp2_with (first
        | (refine wpList_store_row rfl 41 _ _ rfl Y.heap.size IL.toArray rfl rfl 41 ZL.toArray HYZ.out HII2.out HSZ.out HI1.out ?_)
        | (refine wpList_load_mid rfl 41 _ rfl Y.heap.size 0 rfl IL _ (rangeAt_row HYI.out) Tryz.underlying41 rfl HII.out ?_))
      refine Calls.mono (HT.out _ HGY.out) ?_
      rintro e Z ⟨rfl, hbZ⟩
      obtain ⟨hBZ, hZ1, hZ2⟩ := HNZ.out Z hbZ
      have HBW : Hid (Below w.heap.size w Z) := hBZ
      have HRZ : Hid (Z.heap[w.heap.size]? = some (.cells ZL.toArray 41 (0, 0))) := hZ1
      have HRI : Hid (Z.heap[Y.heap.size]? = some (.cells IL.toArray 41 (0, 0))) := hZ2
      clear hBZ hZ1 hZ2 hbZ HNZ HGY HYI HYZ HT
      go_wp2_with (first
        | (refine wpList_build rfl 41 #[] rfl #[] (.agg ZL.toArray) (by simp) (HBZ.out _) ?_)
        | (refine wpList_store_row rfl 41 _ _ rfl w.heap.size ZL.toArray rfl rfl 41 ZL.toArray HRZ.out HZI2.out rfl HZ1.out ?_))
      refine bodyPost_ret (v := .tuple #[.agg ZL.toArray, .int .i64 4]) (results2 Tryz.results15 _ _ w.heap.size 41 ZL (0, 0) _ rfl rfl (setRow_heap _ _ _ _ _ _ HRZ.out) Tryz.underlying41 rfl HZI.out) rfl ⟨rfl, below_setRow HBW.out (Nat.le_refl _) _⟩
    · have hne : ¬ txt (rd s) = s := fun e => hu ⟨hm, e⟩
      have hTR : txtRes (rd s) = .tuple #[sV (txt (rd s)), .int .i64 0] := by unfold txtRes; rw [hm]; rfl
      rw [hTR] at HT
      have hbn : (txt (rd s) == s) = false := by simpa using hne
      generalize txt (rd s) = TT at *
      clear hU hTR hu hm hne
      have hzv := fun W => zeroI W
      obtain ⟨ZL, hZL⟩ : ∃ L, L = iL ⟨0, 0, 0, 0, 0⟩ := ⟨_, rfl⟩
      rw [← hZL] at hzv
      have HZI : Hid ((Tryz.prog.info? 41).map (·.size) = some ZL.length) := by rw [hZL]; exact ins_info _
      have HZI2 : Hid ((Tryz.prog.info? 41).map (·.size) = some ZL.toArray.size) := by rw [hZL]; exact ins_info _
      have HZ1 : Hid (ZL.toArray.all (·.oneCell') = true) := by show _ = _; rw [hZL]; exact iL_one _
      have HBZ : Hid (∀ W, (Instr.build 41 #[]).run Tryz.prog W = .ok (.agg ZL.toArray) W) := fun W => by rw [hZL]; exact bldI0 W
      obtain ⟨IL, hIL⟩ : ∃ L, L = iL (rd s) := ⟨_, rfl⟩
      have HII : Hid ((Tryz.prog.info? 41).map (·.size) = some IL.length) := by rw [hIL]; exact ins_info _
      have HII2 : Hid ((Tryz.prog.info? 41).map (·.size) = some IL.toArray.size) := by rw [hIL]; exact ins_info _
      have HI1 : Hid (IL.toArray.all (·.oneCell') = true) := by show _ = _; rw [hIL]; exact iL_one _
      have HSZ : Hid (ZL.toArray.size = IL.toArray.size) := by show _ = _; rw [hZL, hIL]; rfl
      have hIV : iV (rd s) = .agg (iL (rd s)).toArray := rfl
      rw [hIV, ← hIL] at HR HT
      have HIL : Hid _ := hIL
      have HZL : Hid _ := hZL
      have HG0 : Hid (GV (w.alloc (.cells ZL.toArray 41 (0, 0)))) := hG.below ((Below.refl _ _).alloc (Nat.le_refl _) _)
      have HY0 : Hid (∀ Y, Below (w.alloc (.cells ZL.toArray 41 (0, 0))).heap.size (w.alloc (.cells ZL.toArray 41 (0, 0))) Y → GV ((Y.alloc (.cells ZL.toArray 41 (0, 0))).setRow Y.heap.size IL.toArray) ∧ ∀ Z, Below ((Y.alloc (.cells ZL.toArray 41 (0, 0))).setRow Y.heap.size IL.toArray).heap.size ((Y.alloc (.cells ZL.toArray 41 (0, 0))).setRow Y.heap.size IL.toArray) Z → Below w.heap.size w Z ∧ Z.heap[w.heap.size]? = some (.cells ZL.toArray 41 (0, 0)) ∧ Z.heap[Y.heap.size]? = some (.cells IL.toArray 41 (0, 0))) := fun Y hb => by
        have h1 : Below w.heap.size w (w.alloc (.cells ZL.toArray 41 (0, 0))) := (Below.refl _ _).alloc (Nat.le_refl _) _
        have h2 := h1.trans (hb.mono h1.size)
        have h3 : Below Y.heap.size Y ((Y.alloc (.cells ZL.toArray 41 (0, 0))).setRow Y.heap.size IL.toArray) := below_setRow ((Below.refl _ _).alloc (Nat.le_refl _) _) (Nat.le_refl _) _
        have hq : ((Y.alloc (.cells ZL.toArray 41 (0, 0))).setRow Y.heap.size IL.toArray).heap[Y.heap.size]? = some (.cells IL.toArray 41 (0, 0)) := setRow_heap _ _ _ _ _ _ (heap_alloc_new _ _)
        have h4 := h2.trans (h3.mono h2.size)
        have hz : Y.heap[w.heap.size]? = some (.cells ZL.toArray 41 (0, 0)) := (hb.block _ (by simp)).trans (heap_alloc_new _ _)
        refine ⟨hG.below h4, fun Z hb5 => ⟨h4.trans (hb5.mono h4.size), ?_, ?_⟩⟩
        · exact (hb5.block _ (by have := row_lt hz; rw [setRow_size]; simp; omega)).trans ((h3.block _ (row_lt hz)).trans hz)
        · exact (hb5.block _ (row_lt hq)).trans hq
      clear hZL hIL hG
      rw [← HZL.out]
      unfold sV at *
      go_enter Tryz.func15, Tryz.ntmps15
      go_wp2_with fail
      refine Calls.mono (HR.out _ HG0.out) ?_
      rintro e Y ⟨rfl, hbY⟩
      obtain ⟨hGY, hNZ⟩ := HY0.out Y hbY
      have HGY : Hid _ := hGY
      have HNZ : Hid _ := hNZ
      clear hbY hGY hNZ HY0 HG0 HR
      have HYI : Hid (((Y.alloc (.cells ZL.toArray 41 (0, 0))).setRow Y.heap.size IL.toArray).heap[Y.heap.size]? = some (.cells IL.toArray 41 (0, 0))) := setRow_heap _ _ _ _ _ _ (heap_alloc_new _ _)
      have HYZ : Hid ((Y.alloc (.cells ZL.toArray 41 (0, 0))).heap[Y.heap.size]? = some (.cells ZL.toArray 41 (0, 0))) := heap_alloc_new _ _
      go_wp2_with (first
        | (refine wpList_store_row rfl 41 _ _ rfl Y.heap.size IL.toArray rfl rfl 41 ZL.toArray HYZ.out HII2.out HSZ.out HI1.out ?_)
        | (refine wpList_load_mid rfl 41 _ rfl Y.heap.size 0 rfl IL _ (rangeAt_row HYI.out) Tryz.underlying41 rfl HII.out ?_))
      refine Calls.mono (HT.out _ HGY.out) ?_
      rintro e Z ⟨rfl, hbZ⟩
      obtain ⟨hBZ, hZ1, hZ2⟩ := HNZ.out Z hbZ
      have HBW : Hid (Below w.heap.size w Z) := hBZ
      have HRZ : Hid (Z.heap[w.heap.size]? = some (.cells ZL.toArray 41 (0, 0))) := hZ1
      have HRI : Hid (Z.heap[Y.heap.size]? = some (.cells IL.toArray 41 (0, 0))) := hZ2
      clear hBZ hZ1 hZ2 hbZ HNZ HGY HYI HYZ HT
      go_wp2_with (first
        | (refine wpList_build rfl 41 #[] rfl #[] (.agg ZL.toArray) (by simp) (HBZ.out _) ?_)
        | (refine wpList_store_row rfl 41 _ _ rfl w.heap.size ZL.toArray rfl rfl 41 ZL.toArray HRZ.out HZI2.out rfl HZ1.out ?_))
      refine bodyPost_ret (v := .tuple #[.agg ZL.toArray, .int .i64 4]) (results2 Tryz.results15 _ _ w.heap.size 41 ZL (0, 0) _ rfl rfl (setRow_heap _ _ _ _ _ _ HRZ.out) Tryz.underlying41 rfl HZI.out) rfl ⟨rfl, below_setRow HBW.out (Nat.le_refl _) _⟩
end Go.Proofs.YtkpjfhphohanlaaGreatDoor.JC
