/- cpu: the reference's registers, and which instructions may be. -/
import Derived.Test.YtkpjfhphohanlaaGreatDoorLB
set_option linter.unusedVariables false
set_option linter.unusedSimpArgs false
namespace Go.Proofs.YtkpjfhphohanlaaGreatDoor.JC
open Go.RowKit
open Go.Proofs.YtkpjfhphohanlaaGreatDoor.EC (row_lt heap_at rangeAt_below rangeAt_row ret_bool ret_i64 beq_int)

theorem reg_any (f : Bool) (x : Int) (w : World) : Calls Tryz.prog 74 #[.bool f, .int .i64 x] w fun e w' => e = .returned (.bool (rg f x)) ∧ w = w' := by
  have HV : Hid (rg f x = (decide (x = 0) || f && decide (0 ≤ x) && decide (x < 8))) := rfl
  generalize rg f x = V at *
  by_cases hx : x = 0
  · have HV2 : Hid (V = true) := by show _ = _; rw [HV.out, hx]; simp
    subst hx
    clear HV
    go_enter Tryz.func74, Tryz.ntmps74
    go_wp2
    go_ret
    exact ⟨ret_bool HV2.out.symm, rfl⟩
  · have hx' := beq_false_of_ne hx
    cases f
    · have HV2 : Hid (V = false) := by show _ = _; rw [HV.out, decide_eq_false hx]; rfl
      clear HV hx
      go_enter Tryz.func74, Tryz.ntmps74
      go_wp2
      go_ret
      exact ⟨ret_bool HV2.out.symm, rfl⟩
    · by_cases hp : 0 < x
      · have hg := decide_eq_true hp
        by_cases hl : x < 8
        · have HV2 : Hid (V = true) := by show _ = _; rw [HV.out, decide_eq_true hl, decide_eq_true (show 0 ≤ x by omega)]; simp
          have hl' := decide_eq_true hl
          clear HV hx
          go_enter Tryz.func74, Tryz.ntmps74
          go_wp2
          go_ret
          exact ⟨ret_bool HV2.out.symm, rfl⟩
        · have HV2 : Hid (V = false) := by show _ = _; rw [HV.out, decide_eq_false hl, decide_eq_false hx]; simp
          have hl' := decide_eq_false hl
          clear HV hx
          go_enter Tryz.func74, Tryz.ntmps74
          go_wp2
          go_ret
          exact ⟨ret_bool HV2.out.symm, rfl⟩
      · have HV2 : Hid (V = false) := by show _ = _; rw [HV.out, decide_eq_false hx, decide_eq_false (show ¬ 0 ≤ x by omega)]; simp
        have hg := decide_eq_false hp
        clear HV hx
        go_enter Tryz.func74, Tryz.ntmps74
        go_wp2
        go_ret
        exact ⟨ret_bool HV2.out.symm, rfl⟩
theorem nm_ne {op : Int} (h : isOp op = true) : nm op ≠ [] := by
  rcases isOp_cases h with rfl | rfl | rfl | rfl | rfl | rfl | rfl | rfl | rfl | rfl | rfl | rfl | rfl | rfl | rfl | rfl | rfl <;> decide
theorem nm_eq {op : Int} (h : isOp op = false) : nm op = [] := by
  have := of_none h
  unfold ofL fL at this
  simp only [List.cons.injEq] at this
  have h5 : sV (nm op) = sV [] := this.2.2.2.2.1
  unfold sV at h5
  injection h5 with h6
  injection h6 with h7
  simpa using h7
set_option maxHeartbeats 2000000 in
set_option maxRecDepth 100000 in
theorem rmay_any (i : Ins) (w : World) : Calls Tryz.prog 36 #[iV i] w fun e w' => e = .returned (.bool (may i)) ∧ Below w.heap.size w w' := by
  obtain ⟨ZL, hZL⟩ : ∃ L, L = zF := ⟨_, rfl⟩
  have hzv := fun W => zero5 W
  rw [← hZL] at hzv
  have HZN : Hid (ZL.length = 5) := by rw [hZL]; rfl
  have hiV : iV i = .agg (iL i).toArray := rfl
  rw [hiV]
  have HI0 : Hid ((iL i)[0]? = some (.int .i64 i.op)) := rfl
  have HI1 : Hid ((iL i)[1]? = some (.int .i64 i.d)) := rfl
  have HI2 : Hid ((iL i)[2]? = some (.int .i64 i.a)) := rfl
  have HI3 : Hid ((iL i)[3]? = some (.int .i64 i.b)) := rfl
  have HI4 : Hid ((iL i)[4]? = some (.int .i64 i.imm)) := rfl
  generalize iL i = IL at *
  have hO := fun W => of_any i.op W
  have HF0 : Hid ((ofL i.op)[0]? = some (.bool (fd i.op))) := rfl
  have HF1 : Hid ((ofL i.op)[1]? = some (.bool (fa i.op))) := rfl
  have HF2 : Hid ((ofL i.op)[2]? = some (.bool (fb i.op))) := rfl
  have HF3 : Hid ((ofL i.op)[3]? = some (.bool (fi i.op))) := rfl
  have HF4 : Hid ((ofL i.op)[4]? = some (.string ⟨(nm i.op).toArray⟩)) := rfl
  have HFN : Hid ((ofL i.op).length = 5) := rfl
  have HFO : Hid ((ofL i.op).toArray.all (·.oneCell') = true) := fL_one _ _ _ _ _
  generalize ofL i.op = FL at *
  clear hZL hiV
  have HV : Hid (may i = (isOp i.op && im i.op i.imm && rg (fd i.op) i.d && rg (fa i.op) i.a && rg (fb i.op) i.b)) := rfl
  have hr1 := fun W => reg_any (fd i.op) i.d W
  have hr2 := fun W => reg_any (fa i.op) i.a W
  have hr3 := fun W => reg_any (fb i.op) i.b W
  have HIM : Hid (im i.op i.imm = (decide (i.imm = 0) || fi i.op && decide (-2147483648 ≤ i.imm) && decide (i.imm ≤ 2147483647) && (!decide (i.op = 16) || decide (0 ≤ i.imm)))) := rfl
  have HNM : Hid ((isOp i.op = false → nm i.op = []) ∧ (isOp i.op = true → nm i.op ≠ [])) := ⟨nm_eq, nm_ne⟩
  have HFI : Hid (i.op = 16 → fi i.op = true) := fun e => by rw [e]; rfl
  generalize may i = V at *
  generalize im i.op i.imm = IM at *
  generalize rg (fd i.op) i.d = R1 at *
  generalize rg (fa i.op) i.a = R2 at *
  generalize rg (fb i.op) i.b = R3 at *
  generalize fd i.op = FD at *
  generalize fa i.op = FA at *
  generalize fb i.op = FB at *
  generalize fi i.op = FI at *
  generalize nm i.op = NM at *
  generalize isOp i.op = OK at *
  obtain ⟨op, d, a, b, imm⟩ := i
  simp only at *
  cases OK
  · have hNM := HNM.out.1 rfl
    subst hNM
    have HV2 : Hid (V = false) := by show _ = _; rw [HV.out]; rfl
    clear HV HIM HNM HFI
    have cz := (fields5 _ _ _ _ _ (heap_alloc_new w (.cells IL.toArray 41 (0, 0))) 0).trans ((List.getElem?_toArray ..).trans HI0.out)
    go_enter Tryz.func36, Tryz.ntmps36
    go_wp2_with fail
    refine Calls.mono (hO _) ?_
    rintro e Y ⟨rfl, hbY⟩
    obtain ⟨p, r⟩ := put_row Y ZL FL 88
    have HQ : Hid ((Y.alloc (.cells ZL.toArray 88 (0, 0))).heap[Y.heap.size]? = some (.cells ZL.toArray 88 (0, 0))) := heap_alloc_new _ _
    have hYi : ((Y.alloc (.cells ZL.toArray 88 (0, 0))).setRow Y.heap.size FL.toArray).heap[w.heap.size]? = some (.cells IL.toArray 41 (0, 0)) := (p.block _ (Nat.lt_of_lt_of_le (by simp) hbY.size)).trans ((hbY.block _ (by simp)).trans (heap_alloc_new _ _))
    have hb1 : Below w.heap.size w (w.alloc (.cells IL.toArray 41 (0, 0))) := (Below.refl _ _).alloc (Nat.le_refl _) _
    have hb2 := hb1.trans (hbY.mono hb1.size)
    have HB : Hid (Below w.heap.size w ((Y.alloc (.cells ZL.toArray 88 (0, 0))).setRow Y.heap.size FL.toArray)) := hb2.trans (p.mono hb2.size)
    have ci : ∀ k v, IL[k]? = some v → ((Y.alloc (.cells ZL.toArray 88 (0, 0))).setRow Y.heap.size FL.toArray).cell? ⟨w.heap.size, k, none⟩ = some v := fun k v hv => (fields5 _ _ _ _ _ hYi k).trans (by rw [List.getElem?_toArray]; exact hv)
    have cf : ∀ k v, FL[k]? = some v → ((Y.alloc (.cells ZL.toArray 88 (0, 0))).setRow Y.heap.size FL.toArray).cell? ⟨Y.heap.size, k, none⟩ = some v := fun k v hv => (fields5 _ _ _ _ _ r k).trans (by rw [List.getElem?_toArray]; exact hv)
    have c0 := ci 0 _ HI0.out
    have c1 := ci 1 _ HI1.out
    have c2 := ci 2 _ HI2.out
    have c3 := ci 3 _ HI3.out
    have c4 := ci 4 _ HI4.out
    have f0 := cf 0 _ HF0.out
    have f1 := cf 1 _ HF1.out
    have f2 := cf 2 _ HF2.out
    have f3 := cf 3 _ HF3.out
    have f4 := cf 4 _ HF4.out
    clear cz ci cf hb1 hb2 hYi p r hbY hO
    go_wp2_with (refine wpList_store_row rfl 88 _ _ rfl Y.heap.size FL.toArray rfl rfl 88 ZL.toArray HQ.out (info5a FL HFN.out) (by simp [HZN.out, HFN.out]) HFO.out ?_)
    go_ret
    exact ⟨ret_bool HV2.out.symm, HB.out⟩
  · have hNM := HNM.out.2 rfl
    have hNB : (NM == []) = false := by rw [beq_eq_false_iff_ne]; exact hNM
    cases R1
    · have HV2 : Hid (V = false) := by show _ = _; rw [HV.out]; simp
      clear HV HIM HNM HFI
      have cz := (fields5 _ _ _ _ _ (heap_alloc_new w (.cells IL.toArray 41 (0, 0))) 0).trans ((List.getElem?_toArray ..).trans HI0.out)
      go_enter Tryz.func36, Tryz.ntmps36
      go_wp2_with fail
      refine Calls.mono (hO _) ?_
      rintro e Y ⟨rfl, hbY⟩
      obtain ⟨p, r⟩ := put_row Y ZL FL 88
      have HQ : Hid ((Y.alloc (.cells ZL.toArray 88 (0, 0))).heap[Y.heap.size]? = some (.cells ZL.toArray 88 (0, 0))) := heap_alloc_new _ _
      have hYi : ((Y.alloc (.cells ZL.toArray 88 (0, 0))).setRow Y.heap.size FL.toArray).heap[w.heap.size]? = some (.cells IL.toArray 41 (0, 0)) := (p.block _ (Nat.lt_of_lt_of_le (by simp) hbY.size)).trans ((hbY.block _ (by simp)).trans (heap_alloc_new _ _))
      have hb1 : Below w.heap.size w (w.alloc (.cells IL.toArray 41 (0, 0))) := (Below.refl _ _).alloc (Nat.le_refl _) _
      have hb2 := hb1.trans (hbY.mono hb1.size)
      have HB : Hid (Below w.heap.size w ((Y.alloc (.cells ZL.toArray 88 (0, 0))).setRow Y.heap.size FL.toArray)) := hb2.trans (p.mono hb2.size)
      have ci : ∀ k v, IL[k]? = some v → ((Y.alloc (.cells ZL.toArray 88 (0, 0))).setRow Y.heap.size FL.toArray).cell? ⟨w.heap.size, k, none⟩ = some v := fun k v hv => (fields5 _ _ _ _ _ hYi k).trans (by rw [List.getElem?_toArray]; exact hv)
      have cf : ∀ k v, FL[k]? = some v → ((Y.alloc (.cells ZL.toArray 88 (0, 0))).setRow Y.heap.size FL.toArray).cell? ⟨Y.heap.size, k, none⟩ = some v := fun k v hv => (fields5 _ _ _ _ _ r k).trans (by rw [List.getElem?_toArray]; exact hv)
      have c0 := ci 0 _ HI0.out
      have c1 := ci 1 _ HI1.out
      have c2 := ci 2 _ HI2.out
      have c3 := ci 3 _ HI3.out
      have c4 := ci 4 _ HI4.out
      have f0 := cf 0 _ HF0.out
      have f1 := cf 1 _ HF1.out
      have f2 := cf 2 _ HF2.out
      have f3 := cf 3 _ HF3.out
      have f4 := cf 4 _ HF4.out
      clear cz ci cf hb1 hb2 hYi p r hbY hO
      go_wp2_with (refine wpList_store_row rfl 88 _ _ rfl Y.heap.size FL.toArray rfl rfl 88 ZL.toArray HQ.out (info5a FL HFN.out) (by simp [HZN.out, HFN.out]) HFO.out ?_)
      refine Calls.mono (hr1 _) ?_
      rintro e wq ⟨rfl, rfl⟩
      go_wp2_with fail
      go_ret
      exact ⟨ret_bool HV2.out.symm, HB.out⟩
    · cases R2
      · have HV2 : Hid (V = false) := by show _ = _; rw [HV.out]; simp
        clear HV HIM HNM HFI
        have cz := (fields5 _ _ _ _ _ (heap_alloc_new w (.cells IL.toArray 41 (0, 0))) 0).trans ((List.getElem?_toArray ..).trans HI0.out)
        go_enter Tryz.func36, Tryz.ntmps36
        go_wp2_with fail
        refine Calls.mono (hO _) ?_
        rintro e Y ⟨rfl, hbY⟩
        obtain ⟨p, r⟩ := put_row Y ZL FL 88
        have HQ : Hid ((Y.alloc (.cells ZL.toArray 88 (0, 0))).heap[Y.heap.size]? = some (.cells ZL.toArray 88 (0, 0))) := heap_alloc_new _ _
        have hYi : ((Y.alloc (.cells ZL.toArray 88 (0, 0))).setRow Y.heap.size FL.toArray).heap[w.heap.size]? = some (.cells IL.toArray 41 (0, 0)) := (p.block _ (Nat.lt_of_lt_of_le (by simp) hbY.size)).trans ((hbY.block _ (by simp)).trans (heap_alloc_new _ _))
        have hb1 : Below w.heap.size w (w.alloc (.cells IL.toArray 41 (0, 0))) := (Below.refl _ _).alloc (Nat.le_refl _) _
        have hb2 := hb1.trans (hbY.mono hb1.size)
        have HB : Hid (Below w.heap.size w ((Y.alloc (.cells ZL.toArray 88 (0, 0))).setRow Y.heap.size FL.toArray)) := hb2.trans (p.mono hb2.size)
        have ci : ∀ k v, IL[k]? = some v → ((Y.alloc (.cells ZL.toArray 88 (0, 0))).setRow Y.heap.size FL.toArray).cell? ⟨w.heap.size, k, none⟩ = some v := fun k v hv => (fields5 _ _ _ _ _ hYi k).trans (by rw [List.getElem?_toArray]; exact hv)
        have cf : ∀ k v, FL[k]? = some v → ((Y.alloc (.cells ZL.toArray 88 (0, 0))).setRow Y.heap.size FL.toArray).cell? ⟨Y.heap.size, k, none⟩ = some v := fun k v hv => (fields5 _ _ _ _ _ r k).trans (by rw [List.getElem?_toArray]; exact hv)
        have c0 := ci 0 _ HI0.out
        have c1 := ci 1 _ HI1.out
        have c2 := ci 2 _ HI2.out
        have c3 := ci 3 _ HI3.out
        have c4 := ci 4 _ HI4.out
        have f0 := cf 0 _ HF0.out
        have f1 := cf 1 _ HF1.out
        have f2 := cf 2 _ HF2.out
        have f3 := cf 3 _ HF3.out
        have f4 := cf 4 _ HF4.out
        clear cz ci cf hb1 hb2 hYi p r hbY hO
        go_wp2_with (refine wpList_store_row rfl 88 _ _ rfl Y.heap.size FL.toArray rfl rfl 88 ZL.toArray HQ.out (info5a FL HFN.out) (by simp [HZN.out, HFN.out]) HFO.out ?_)
        refine Calls.mono (hr1 _) ?_
        rintro e wq ⟨rfl, rfl⟩
        go_wp2_with fail
        refine Calls.mono (hr2 _) ?_
        rintro e wq ⟨rfl, rfl⟩
        go_wp2_with fail
        go_ret
        exact ⟨ret_bool HV2.out.symm, HB.out⟩
      · cases R3
        · have HV2 : Hid (V = false) := by show _ = _; rw [HV.out]; simp
          clear HV HIM HNM HFI
          have cz := (fields5 _ _ _ _ _ (heap_alloc_new w (.cells IL.toArray 41 (0, 0))) 0).trans ((List.getElem?_toArray ..).trans HI0.out)
          go_enter Tryz.func36, Tryz.ntmps36
          go_wp2_with fail
          refine Calls.mono (hO _) ?_
          rintro e Y ⟨rfl, hbY⟩
          obtain ⟨p, r⟩ := put_row Y ZL FL 88
          have HQ : Hid ((Y.alloc (.cells ZL.toArray 88 (0, 0))).heap[Y.heap.size]? = some (.cells ZL.toArray 88 (0, 0))) := heap_alloc_new _ _
          have hYi : ((Y.alloc (.cells ZL.toArray 88 (0, 0))).setRow Y.heap.size FL.toArray).heap[w.heap.size]? = some (.cells IL.toArray 41 (0, 0)) := (p.block _ (Nat.lt_of_lt_of_le (by simp) hbY.size)).trans ((hbY.block _ (by simp)).trans (heap_alloc_new _ _))
          have hb1 : Below w.heap.size w (w.alloc (.cells IL.toArray 41 (0, 0))) := (Below.refl _ _).alloc (Nat.le_refl _) _
          have hb2 := hb1.trans (hbY.mono hb1.size)
          have HB : Hid (Below w.heap.size w ((Y.alloc (.cells ZL.toArray 88 (0, 0))).setRow Y.heap.size FL.toArray)) := hb2.trans (p.mono hb2.size)
          have ci : ∀ k v, IL[k]? = some v → ((Y.alloc (.cells ZL.toArray 88 (0, 0))).setRow Y.heap.size FL.toArray).cell? ⟨w.heap.size, k, none⟩ = some v := fun k v hv => (fields5 _ _ _ _ _ hYi k).trans (by rw [List.getElem?_toArray]; exact hv)
          have cf : ∀ k v, FL[k]? = some v → ((Y.alloc (.cells ZL.toArray 88 (0, 0))).setRow Y.heap.size FL.toArray).cell? ⟨Y.heap.size, k, none⟩ = some v := fun k v hv => (fields5 _ _ _ _ _ r k).trans (by rw [List.getElem?_toArray]; exact hv)
          have c0 := ci 0 _ HI0.out
          have c1 := ci 1 _ HI1.out
          have c2 := ci 2 _ HI2.out
          have c3 := ci 3 _ HI3.out
          have c4 := ci 4 _ HI4.out
          have f0 := cf 0 _ HF0.out
          have f1 := cf 1 _ HF1.out
          have f2 := cf 2 _ HF2.out
          have f3 := cf 3 _ HF3.out
          have f4 := cf 4 _ HF4.out
          clear cz ci cf hb1 hb2 hYi p r hbY hO
          go_wp2_with (refine wpList_store_row rfl 88 _ _ rfl Y.heap.size FL.toArray rfl rfl 88 ZL.toArray HQ.out (info5a FL HFN.out) (by simp [HZN.out, HFN.out]) HFO.out ?_)
          refine Calls.mono (hr1 _) ?_
          rintro e wq ⟨rfl, rfl⟩
          go_wp2_with fail
          refine Calls.mono (hr2 _) ?_
          rintro e wq ⟨rfl, rfl⟩
          go_wp2_with fail
          refine Calls.mono (hr3 _) ?_
          rintro e wq ⟨rfl, rfl⟩
          go_wp2_with fail
          go_ret
          exact ⟨ret_bool HV2.out.symm, HB.out⟩
        · have HV1 : Hid (V = IM) := by show _ = _; rw [HV.out]; simp
          clear HV
          by_cases hz : imm = 0
          · have HV2 : Hid (V = true) := by show _ = _; rw [HV1.out, HIM.out, hz]; simp
            subst hz
            clear HV1 HIM HNM HFI
            cases FI
            · by_cases h16 : op = 16
              · subst h16
                have cz := (fields5 _ _ _ _ _ (heap_alloc_new w (.cells IL.toArray 41 (0, 0))) 0).trans ((List.getElem?_toArray ..).trans HI0.out)
                go_enter Tryz.func36, Tryz.ntmps36
                go_wp2_with fail
                refine Calls.mono (hO _) ?_
                rintro e Y ⟨rfl, hbY⟩
                obtain ⟨p, r⟩ := put_row Y ZL FL 88
                have HQ : Hid ((Y.alloc (.cells ZL.toArray 88 (0, 0))).heap[Y.heap.size]? = some (.cells ZL.toArray 88 (0, 0))) := heap_alloc_new _ _
                have hYi : ((Y.alloc (.cells ZL.toArray 88 (0, 0))).setRow Y.heap.size FL.toArray).heap[w.heap.size]? = some (.cells IL.toArray 41 (0, 0)) := (p.block _ (Nat.lt_of_lt_of_le (by simp) hbY.size)).trans ((hbY.block _ (by simp)).trans (heap_alloc_new _ _))
                have hb1 : Below w.heap.size w (w.alloc (.cells IL.toArray 41 (0, 0))) := (Below.refl _ _).alloc (Nat.le_refl _) _
                have hb2 := hb1.trans (hbY.mono hb1.size)
                have HB : Hid (Below w.heap.size w ((Y.alloc (.cells ZL.toArray 88 (0, 0))).setRow Y.heap.size FL.toArray)) := hb2.trans (p.mono hb2.size)
                have ci : ∀ k v, IL[k]? = some v → ((Y.alloc (.cells ZL.toArray 88 (0, 0))).setRow Y.heap.size FL.toArray).cell? ⟨w.heap.size, k, none⟩ = some v := fun k v hv => (fields5 _ _ _ _ _ hYi k).trans (by rw [List.getElem?_toArray]; exact hv)
                have cf : ∀ k v, FL[k]? = some v → ((Y.alloc (.cells ZL.toArray 88 (0, 0))).setRow Y.heap.size FL.toArray).cell? ⟨Y.heap.size, k, none⟩ = some v := fun k v hv => (fields5 _ _ _ _ _ r k).trans (by rw [List.getElem?_toArray]; exact hv)
                have c0 := ci 0 _ HI0.out
                have c1 := ci 1 _ HI1.out
                have c2 := ci 2 _ HI2.out
                have c3 := ci 3 _ HI3.out
                have c4 := ci 4 _ HI4.out
                have f0 := cf 0 _ HF0.out
                have f1 := cf 1 _ HF1.out
                have f2 := cf 2 _ HF2.out
                have f3 := cf 3 _ HF3.out
                have f4 := cf 4 _ HF4.out
                clear cz ci cf hb1 hb2 hYi p r hbY hO
                go_wp2_with (refine wpList_store_row rfl 88 _ _ rfl Y.heap.size FL.toArray rfl rfl 88 ZL.toArray HQ.out (info5a FL HFN.out) (by simp [HZN.out, HFN.out]) HFO.out ?_)
                refine Calls.mono (hr1 _) ?_
                rintro e wq ⟨rfl, rfl⟩
                go_wp2_with fail
                refine Calls.mono (hr2 _) ?_
                rintro e wq ⟨rfl, rfl⟩
                go_wp2_with fail
                refine Calls.mono (hr3 _) ?_
                rintro e wq ⟨rfl, rfl⟩
                go_wp2_with fail
                go_ret
                exact ⟨ret_bool HV2.out.symm, HB.out⟩
              · have h16' := beq_false_of_ne h16
                clear h16
                have cz := (fields5 _ _ _ _ _ (heap_alloc_new w (.cells IL.toArray 41 (0, 0))) 0).trans ((List.getElem?_toArray ..).trans HI0.out)
                go_enter Tryz.func36, Tryz.ntmps36
                go_wp2_with fail
                refine Calls.mono (hO _) ?_
                rintro e Y ⟨rfl, hbY⟩
                obtain ⟨p, r⟩ := put_row Y ZL FL 88
                have HQ : Hid ((Y.alloc (.cells ZL.toArray 88 (0, 0))).heap[Y.heap.size]? = some (.cells ZL.toArray 88 (0, 0))) := heap_alloc_new _ _
                have hYi : ((Y.alloc (.cells ZL.toArray 88 (0, 0))).setRow Y.heap.size FL.toArray).heap[w.heap.size]? = some (.cells IL.toArray 41 (0, 0)) := (p.block _ (Nat.lt_of_lt_of_le (by simp) hbY.size)).trans ((hbY.block _ (by simp)).trans (heap_alloc_new _ _))
                have hb1 : Below w.heap.size w (w.alloc (.cells IL.toArray 41 (0, 0))) := (Below.refl _ _).alloc (Nat.le_refl _) _
                have hb2 := hb1.trans (hbY.mono hb1.size)
                have HB : Hid (Below w.heap.size w ((Y.alloc (.cells ZL.toArray 88 (0, 0))).setRow Y.heap.size FL.toArray)) := hb2.trans (p.mono hb2.size)
                have ci : ∀ k v, IL[k]? = some v → ((Y.alloc (.cells ZL.toArray 88 (0, 0))).setRow Y.heap.size FL.toArray).cell? ⟨w.heap.size, k, none⟩ = some v := fun k v hv => (fields5 _ _ _ _ _ hYi k).trans (by rw [List.getElem?_toArray]; exact hv)
                have cf : ∀ k v, FL[k]? = some v → ((Y.alloc (.cells ZL.toArray 88 (0, 0))).setRow Y.heap.size FL.toArray).cell? ⟨Y.heap.size, k, none⟩ = some v := fun k v hv => (fields5 _ _ _ _ _ r k).trans (by rw [List.getElem?_toArray]; exact hv)
                have c0 := ci 0 _ HI0.out
                have c1 := ci 1 _ HI1.out
                have c2 := ci 2 _ HI2.out
                have c3 := ci 3 _ HI3.out
                have c4 := ci 4 _ HI4.out
                have f0 := cf 0 _ HF0.out
                have f1 := cf 1 _ HF1.out
                have f2 := cf 2 _ HF2.out
                have f3 := cf 3 _ HF3.out
                have f4 := cf 4 _ HF4.out
                clear cz ci cf hb1 hb2 hYi p r hbY hO
                go_wp2_with (refine wpList_store_row rfl 88 _ _ rfl Y.heap.size FL.toArray rfl rfl 88 ZL.toArray HQ.out (info5a FL HFN.out) (by simp [HZN.out, HFN.out]) HFO.out ?_)
                refine Calls.mono (hr1 _) ?_
                rintro e wq ⟨rfl, rfl⟩
                go_wp2_with fail
                refine Calls.mono (hr2 _) ?_
                rintro e wq ⟨rfl, rfl⟩
                go_wp2_with fail
                refine Calls.mono (hr3 _) ?_
                rintro e wq ⟨rfl, rfl⟩
                go_wp2_with fail
                go_ret
                exact ⟨ret_bool HV2.out.symm, HB.out⟩
            · by_cases h16 : op = 16
              · subst h16
                have cz := (fields5 _ _ _ _ _ (heap_alloc_new w (.cells IL.toArray 41 (0, 0))) 0).trans ((List.getElem?_toArray ..).trans HI0.out)
                go_enter Tryz.func36, Tryz.ntmps36
                go_wp2_with fail
                refine Calls.mono (hO _) ?_
                rintro e Y ⟨rfl, hbY⟩
                obtain ⟨p, r⟩ := put_row Y ZL FL 88
                have HQ : Hid ((Y.alloc (.cells ZL.toArray 88 (0, 0))).heap[Y.heap.size]? = some (.cells ZL.toArray 88 (0, 0))) := heap_alloc_new _ _
                have hYi : ((Y.alloc (.cells ZL.toArray 88 (0, 0))).setRow Y.heap.size FL.toArray).heap[w.heap.size]? = some (.cells IL.toArray 41 (0, 0)) := (p.block _ (Nat.lt_of_lt_of_le (by simp) hbY.size)).trans ((hbY.block _ (by simp)).trans (heap_alloc_new _ _))
                have hb1 : Below w.heap.size w (w.alloc (.cells IL.toArray 41 (0, 0))) := (Below.refl _ _).alloc (Nat.le_refl _) _
                have hb2 := hb1.trans (hbY.mono hb1.size)
                have HB : Hid (Below w.heap.size w ((Y.alloc (.cells ZL.toArray 88 (0, 0))).setRow Y.heap.size FL.toArray)) := hb2.trans (p.mono hb2.size)
                have ci : ∀ k v, IL[k]? = some v → ((Y.alloc (.cells ZL.toArray 88 (0, 0))).setRow Y.heap.size FL.toArray).cell? ⟨w.heap.size, k, none⟩ = some v := fun k v hv => (fields5 _ _ _ _ _ hYi k).trans (by rw [List.getElem?_toArray]; exact hv)
                have cf : ∀ k v, FL[k]? = some v → ((Y.alloc (.cells ZL.toArray 88 (0, 0))).setRow Y.heap.size FL.toArray).cell? ⟨Y.heap.size, k, none⟩ = some v := fun k v hv => (fields5 _ _ _ _ _ r k).trans (by rw [List.getElem?_toArray]; exact hv)
                have c0 := ci 0 _ HI0.out
                have c1 := ci 1 _ HI1.out
                have c2 := ci 2 _ HI2.out
                have c3 := ci 3 _ HI3.out
                have c4 := ci 4 _ HI4.out
                have f0 := cf 0 _ HF0.out
                have f1 := cf 1 _ HF1.out
                have f2 := cf 2 _ HF2.out
                have f3 := cf 3 _ HF3.out
                have f4 := cf 4 _ HF4.out
                clear cz ci cf hb1 hb2 hYi p r hbY hO
                go_wp2_with (refine wpList_store_row rfl 88 _ _ rfl Y.heap.size FL.toArray rfl rfl 88 ZL.toArray HQ.out (info5a FL HFN.out) (by simp [HZN.out, HFN.out]) HFO.out ?_)
                refine Calls.mono (hr1 _) ?_
                rintro e wq ⟨rfl, rfl⟩
                go_wp2_with fail
                refine Calls.mono (hr2 _) ?_
                rintro e wq ⟨rfl, rfl⟩
                go_wp2_with fail
                refine Calls.mono (hr3 _) ?_
                rintro e wq ⟨rfl, rfl⟩
                go_wp2_with fail
                go_ret
                exact ⟨ret_bool HV2.out.symm, HB.out⟩
              · have h16' := beq_false_of_ne h16
                clear h16
                have cz := (fields5 _ _ _ _ _ (heap_alloc_new w (.cells IL.toArray 41 (0, 0))) 0).trans ((List.getElem?_toArray ..).trans HI0.out)
                go_enter Tryz.func36, Tryz.ntmps36
                go_wp2_with fail
                refine Calls.mono (hO _) ?_
                rintro e Y ⟨rfl, hbY⟩
                obtain ⟨p, r⟩ := put_row Y ZL FL 88
                have HQ : Hid ((Y.alloc (.cells ZL.toArray 88 (0, 0))).heap[Y.heap.size]? = some (.cells ZL.toArray 88 (0, 0))) := heap_alloc_new _ _
                have hYi : ((Y.alloc (.cells ZL.toArray 88 (0, 0))).setRow Y.heap.size FL.toArray).heap[w.heap.size]? = some (.cells IL.toArray 41 (0, 0)) := (p.block _ (Nat.lt_of_lt_of_le (by simp) hbY.size)).trans ((hbY.block _ (by simp)).trans (heap_alloc_new _ _))
                have hb1 : Below w.heap.size w (w.alloc (.cells IL.toArray 41 (0, 0))) := (Below.refl _ _).alloc (Nat.le_refl _) _
                have hb2 := hb1.trans (hbY.mono hb1.size)
                have HB : Hid (Below w.heap.size w ((Y.alloc (.cells ZL.toArray 88 (0, 0))).setRow Y.heap.size FL.toArray)) := hb2.trans (p.mono hb2.size)
                have ci : ∀ k v, IL[k]? = some v → ((Y.alloc (.cells ZL.toArray 88 (0, 0))).setRow Y.heap.size FL.toArray).cell? ⟨w.heap.size, k, none⟩ = some v := fun k v hv => (fields5 _ _ _ _ _ hYi k).trans (by rw [List.getElem?_toArray]; exact hv)
                have cf : ∀ k v, FL[k]? = some v → ((Y.alloc (.cells ZL.toArray 88 (0, 0))).setRow Y.heap.size FL.toArray).cell? ⟨Y.heap.size, k, none⟩ = some v := fun k v hv => (fields5 _ _ _ _ _ r k).trans (by rw [List.getElem?_toArray]; exact hv)
                have c0 := ci 0 _ HI0.out
                have c1 := ci 1 _ HI1.out
                have c2 := ci 2 _ HI2.out
                have c3 := ci 3 _ HI3.out
                have c4 := ci 4 _ HI4.out
                have f0 := cf 0 _ HF0.out
                have f1 := cf 1 _ HF1.out
                have f2 := cf 2 _ HF2.out
                have f3 := cf 3 _ HF3.out
                have f4 := cf 4 _ HF4.out
                clear cz ci cf hb1 hb2 hYi p r hbY hO
                go_wp2_with (refine wpList_store_row rfl 88 _ _ rfl Y.heap.size FL.toArray rfl rfl 88 ZL.toArray HQ.out (info5a FL HFN.out) (by simp [HZN.out, HFN.out]) HFO.out ?_)
                refine Calls.mono (hr1 _) ?_
                rintro e wq ⟨rfl, rfl⟩
                go_wp2_with fail
                refine Calls.mono (hr2 _) ?_
                rintro e wq ⟨rfl, rfl⟩
                go_wp2_with fail
                refine Calls.mono (hr3 _) ?_
                rintro e wq ⟨rfl, rfl⟩
                go_wp2_with fail
                go_ret
                exact ⟨ret_bool HV2.out.symm, HB.out⟩
          · have hz' := beq_false_of_ne hz
            cases FI
            · have HV2 : Hid (V = false) := by show _ = _; rw [HV1.out, HIM.out, decide_eq_false hz]; simp
              clear HV1 HIM HNM HFI
              have cz := (fields5 _ _ _ _ _ (heap_alloc_new w (.cells IL.toArray 41 (0, 0))) 0).trans ((List.getElem?_toArray ..).trans HI0.out)
              go_enter Tryz.func36, Tryz.ntmps36
              go_wp2_with fail
              refine Calls.mono (hO _) ?_
              rintro e Y ⟨rfl, hbY⟩
              obtain ⟨p, r⟩ := put_row Y ZL FL 88
              have HQ : Hid ((Y.alloc (.cells ZL.toArray 88 (0, 0))).heap[Y.heap.size]? = some (.cells ZL.toArray 88 (0, 0))) := heap_alloc_new _ _
              have hYi : ((Y.alloc (.cells ZL.toArray 88 (0, 0))).setRow Y.heap.size FL.toArray).heap[w.heap.size]? = some (.cells IL.toArray 41 (0, 0)) := (p.block _ (Nat.lt_of_lt_of_le (by simp) hbY.size)).trans ((hbY.block _ (by simp)).trans (heap_alloc_new _ _))
              have hb1 : Below w.heap.size w (w.alloc (.cells IL.toArray 41 (0, 0))) := (Below.refl _ _).alloc (Nat.le_refl _) _
              have hb2 := hb1.trans (hbY.mono hb1.size)
              have HB : Hid (Below w.heap.size w ((Y.alloc (.cells ZL.toArray 88 (0, 0))).setRow Y.heap.size FL.toArray)) := hb2.trans (p.mono hb2.size)
              have ci : ∀ k v, IL[k]? = some v → ((Y.alloc (.cells ZL.toArray 88 (0, 0))).setRow Y.heap.size FL.toArray).cell? ⟨w.heap.size, k, none⟩ = some v := fun k v hv => (fields5 _ _ _ _ _ hYi k).trans (by rw [List.getElem?_toArray]; exact hv)
              have cf : ∀ k v, FL[k]? = some v → ((Y.alloc (.cells ZL.toArray 88 (0, 0))).setRow Y.heap.size FL.toArray).cell? ⟨Y.heap.size, k, none⟩ = some v := fun k v hv => (fields5 _ _ _ _ _ r k).trans (by rw [List.getElem?_toArray]; exact hv)
              have c0 := ci 0 _ HI0.out
              have c1 := ci 1 _ HI1.out
              have c2 := ci 2 _ HI2.out
              have c3 := ci 3 _ HI3.out
              have c4 := ci 4 _ HI4.out
              have f0 := cf 0 _ HF0.out
              have f1 := cf 1 _ HF1.out
              have f2 := cf 2 _ HF2.out
              have f3 := cf 3 _ HF3.out
              have f4 := cf 4 _ HF4.out
              clear cz ci cf hb1 hb2 hYi p r hbY hO
              go_wp2_with (refine wpList_store_row rfl 88 _ _ rfl Y.heap.size FL.toArray rfl rfl 88 ZL.toArray HQ.out (info5a FL HFN.out) (by simp [HZN.out, HFN.out]) HFO.out ?_)
              refine Calls.mono (hr1 _) ?_
              rintro e wq ⟨rfl, rfl⟩
              go_wp2_with fail
              refine Calls.mono (hr2 _) ?_
              rintro e wq ⟨rfl, rfl⟩
              go_wp2_with fail
              refine Calls.mono (hr3 _) ?_
              rintro e wq ⟨rfl, rfl⟩
              go_wp2_with fail
              go_ret
              exact ⟨ret_bool HV2.out.symm, HB.out⟩
            · have HV3 : Hid (V = (decide (-2147483648 ≤ imm) && decide (imm ≤ 2147483647) && (!decide (op = 16) || decide (0 ≤ imm)))) := by show _ = _; rw [HV1.out, HIM.out, decide_eq_false hz]; simp
              clear HV1 HIM HNM HFI
              by_cases h16 : op = 16
              · subst h16
                by_cases hn : imm < 0
                · have HV2 : Hid (V = false) := by show _ = _; rw [HV3.out, decide_eq_false (show ¬ 0 ≤ imm by omega)]; simp
                  have hn' := decide_eq_true hn
                  clear HV3
                  have cz := (fields5 _ _ _ _ _ (heap_alloc_new w (.cells IL.toArray 41 (0, 0))) 0).trans ((List.getElem?_toArray ..).trans HI0.out)
                  go_enter Tryz.func36, Tryz.ntmps36
                  go_wp2_with fail
                  refine Calls.mono (hO _) ?_
                  rintro e Y ⟨rfl, hbY⟩
                  obtain ⟨p, r⟩ := put_row Y ZL FL 88
                  have HQ : Hid ((Y.alloc (.cells ZL.toArray 88 (0, 0))).heap[Y.heap.size]? = some (.cells ZL.toArray 88 (0, 0))) := heap_alloc_new _ _
                  have hYi : ((Y.alloc (.cells ZL.toArray 88 (0, 0))).setRow Y.heap.size FL.toArray).heap[w.heap.size]? = some (.cells IL.toArray 41 (0, 0)) := (p.block _ (Nat.lt_of_lt_of_le (by simp) hbY.size)).trans ((hbY.block _ (by simp)).trans (heap_alloc_new _ _))
                  have hb1 : Below w.heap.size w (w.alloc (.cells IL.toArray 41 (0, 0))) := (Below.refl _ _).alloc (Nat.le_refl _) _
                  have hb2 := hb1.trans (hbY.mono hb1.size)
                  have HB : Hid (Below w.heap.size w ((Y.alloc (.cells ZL.toArray 88 (0, 0))).setRow Y.heap.size FL.toArray)) := hb2.trans (p.mono hb2.size)
                  have ci : ∀ k v, IL[k]? = some v → ((Y.alloc (.cells ZL.toArray 88 (0, 0))).setRow Y.heap.size FL.toArray).cell? ⟨w.heap.size, k, none⟩ = some v := fun k v hv => (fields5 _ _ _ _ _ hYi k).trans (by rw [List.getElem?_toArray]; exact hv)
                  have cf : ∀ k v, FL[k]? = some v → ((Y.alloc (.cells ZL.toArray 88 (0, 0))).setRow Y.heap.size FL.toArray).cell? ⟨Y.heap.size, k, none⟩ = some v := fun k v hv => (fields5 _ _ _ _ _ r k).trans (by rw [List.getElem?_toArray]; exact hv)
                  have c0 := ci 0 _ HI0.out
                  have c1 := ci 1 _ HI1.out
                  have c2 := ci 2 _ HI2.out
                  have c3 := ci 3 _ HI3.out
                  have c4 := ci 4 _ HI4.out
                  have f0 := cf 0 _ HF0.out
                  have f1 := cf 1 _ HF1.out
                  have f2 := cf 2 _ HF2.out
                  have f3 := cf 3 _ HF3.out
                  have f4 := cf 4 _ HF4.out
                  clear cz ci cf hb1 hb2 hYi p r hbY hO
                  go_wp2_with (refine wpList_store_row rfl 88 _ _ rfl Y.heap.size FL.toArray rfl rfl 88 ZL.toArray HQ.out (info5a FL HFN.out) (by simp [HZN.out, HFN.out]) HFO.out ?_)
                  refine Calls.mono (hr1 _) ?_
                  rintro e wq ⟨rfl, rfl⟩
                  go_wp2_with fail
                  refine Calls.mono (hr2 _) ?_
                  rintro e wq ⟨rfl, rfl⟩
                  go_wp2_with fail
                  refine Calls.mono (hr3 _) ?_
                  rintro e wq ⟨rfl, rfl⟩
                  go_wp2_with fail
                  go_ret
                  exact ⟨ret_bool HV2.out.symm, HB.out⟩
                · have hn' := decide_eq_false hn
                  have hlo : decide ((-2147483648 : Int) ≤ imm) = true := decide_eq_true (by omega)
                  have HV2 : Hid (V = decide (imm ≤ 2147483647)) := by show _ = _; rw [HV3.out, hlo, decide_eq_true (show 0 ≤ imm by omega)]; simp
                  clear HV3
                  have cz := (fields5 _ _ _ _ _ (heap_alloc_new w (.cells IL.toArray 41 (0, 0))) 0).trans ((List.getElem?_toArray ..).trans HI0.out)
                  go_enter Tryz.func36, Tryz.ntmps36
                  go_wp2_with fail
                  refine Calls.mono (hO _) ?_
                  rintro e Y ⟨rfl, hbY⟩
                  obtain ⟨p, r⟩ := put_row Y ZL FL 88
                  have HQ : Hid ((Y.alloc (.cells ZL.toArray 88 (0, 0))).heap[Y.heap.size]? = some (.cells ZL.toArray 88 (0, 0))) := heap_alloc_new _ _
                  have hYi : ((Y.alloc (.cells ZL.toArray 88 (0, 0))).setRow Y.heap.size FL.toArray).heap[w.heap.size]? = some (.cells IL.toArray 41 (0, 0)) := (p.block _ (Nat.lt_of_lt_of_le (by simp) hbY.size)).trans ((hbY.block _ (by simp)).trans (heap_alloc_new _ _))
                  have hb1 : Below w.heap.size w (w.alloc (.cells IL.toArray 41 (0, 0))) := (Below.refl _ _).alloc (Nat.le_refl _) _
                  have hb2 := hb1.trans (hbY.mono hb1.size)
                  have HB : Hid (Below w.heap.size w ((Y.alloc (.cells ZL.toArray 88 (0, 0))).setRow Y.heap.size FL.toArray)) := hb2.trans (p.mono hb2.size)
                  have ci : ∀ k v, IL[k]? = some v → ((Y.alloc (.cells ZL.toArray 88 (0, 0))).setRow Y.heap.size FL.toArray).cell? ⟨w.heap.size, k, none⟩ = some v := fun k v hv => (fields5 _ _ _ _ _ hYi k).trans (by rw [List.getElem?_toArray]; exact hv)
                  have cf : ∀ k v, FL[k]? = some v → ((Y.alloc (.cells ZL.toArray 88 (0, 0))).setRow Y.heap.size FL.toArray).cell? ⟨Y.heap.size, k, none⟩ = some v := fun k v hv => (fields5 _ _ _ _ _ r k).trans (by rw [List.getElem?_toArray]; exact hv)
                  have c0 := ci 0 _ HI0.out
                  have c1 := ci 1 _ HI1.out
                  have c2 := ci 2 _ HI2.out
                  have c3 := ci 3 _ HI3.out
                  have c4 := ci 4 _ HI4.out
                  have f0 := cf 0 _ HF0.out
                  have f1 := cf 1 _ HF1.out
                  have f2 := cf 2 _ HF2.out
                  have f3 := cf 3 _ HF3.out
                  have f4 := cf 4 _ HF4.out
                  clear cz ci cf hb1 hb2 hYi p r hbY hO
                  go_wp2_with (refine wpList_store_row rfl 88 _ _ rfl Y.heap.size FL.toArray rfl rfl 88 ZL.toArray HQ.out (info5a FL HFN.out) (by simp [HZN.out, HFN.out]) HFO.out ?_)
                  refine Calls.mono (hr1 _) ?_
                  rintro e wq ⟨rfl, rfl⟩
                  go_wp2_with fail
                  refine Calls.mono (hr2 _) ?_
                  rintro e wq ⟨rfl, rfl⟩
                  go_wp2_with fail
                  refine Calls.mono (hr3 _) ?_
                  rintro e wq ⟨rfl, rfl⟩
                  go_wp2_with fail
                  go_ret
                  exact ⟨ret_bool HV2.out.symm, HB.out⟩
              · have h16' := beq_false_of_ne h16
                by_cases hlo : -2147483648 ≤ imm
                · have hlo' := decide_eq_true hlo
                  have HV2 : Hid (V = decide (imm ≤ 2147483647)) := by show _ = _; rw [HV3.out, hlo', decide_eq_false h16]; simp
                  clear HV3 h16
                  have cz := (fields5 _ _ _ _ _ (heap_alloc_new w (.cells IL.toArray 41 (0, 0))) 0).trans ((List.getElem?_toArray ..).trans HI0.out)
                  go_enter Tryz.func36, Tryz.ntmps36
                  go_wp2_with fail
                  refine Calls.mono (hO _) ?_
                  rintro e Y ⟨rfl, hbY⟩
                  obtain ⟨p, r⟩ := put_row Y ZL FL 88
                  have HQ : Hid ((Y.alloc (.cells ZL.toArray 88 (0, 0))).heap[Y.heap.size]? = some (.cells ZL.toArray 88 (0, 0))) := heap_alloc_new _ _
                  have hYi : ((Y.alloc (.cells ZL.toArray 88 (0, 0))).setRow Y.heap.size FL.toArray).heap[w.heap.size]? = some (.cells IL.toArray 41 (0, 0)) := (p.block _ (Nat.lt_of_lt_of_le (by simp) hbY.size)).trans ((hbY.block _ (by simp)).trans (heap_alloc_new _ _))
                  have hb1 : Below w.heap.size w (w.alloc (.cells IL.toArray 41 (0, 0))) := (Below.refl _ _).alloc (Nat.le_refl _) _
                  have hb2 := hb1.trans (hbY.mono hb1.size)
                  have HB : Hid (Below w.heap.size w ((Y.alloc (.cells ZL.toArray 88 (0, 0))).setRow Y.heap.size FL.toArray)) := hb2.trans (p.mono hb2.size)
                  have ci : ∀ k v, IL[k]? = some v → ((Y.alloc (.cells ZL.toArray 88 (0, 0))).setRow Y.heap.size FL.toArray).cell? ⟨w.heap.size, k, none⟩ = some v := fun k v hv => (fields5 _ _ _ _ _ hYi k).trans (by rw [List.getElem?_toArray]; exact hv)
                  have cf : ∀ k v, FL[k]? = some v → ((Y.alloc (.cells ZL.toArray 88 (0, 0))).setRow Y.heap.size FL.toArray).cell? ⟨Y.heap.size, k, none⟩ = some v := fun k v hv => (fields5 _ _ _ _ _ r k).trans (by rw [List.getElem?_toArray]; exact hv)
                  have c0 := ci 0 _ HI0.out
                  have c1 := ci 1 _ HI1.out
                  have c2 := ci 2 _ HI2.out
                  have c3 := ci 3 _ HI3.out
                  have c4 := ci 4 _ HI4.out
                  have f0 := cf 0 _ HF0.out
                  have f1 := cf 1 _ HF1.out
                  have f2 := cf 2 _ HF2.out
                  have f3 := cf 3 _ HF3.out
                  have f4 := cf 4 _ HF4.out
                  clear cz ci cf hb1 hb2 hYi p r hbY hO
                  go_wp2_with (refine wpList_store_row rfl 88 _ _ rfl Y.heap.size FL.toArray rfl rfl 88 ZL.toArray HQ.out (info5a FL HFN.out) (by simp [HZN.out, HFN.out]) HFO.out ?_)
                  refine Calls.mono (hr1 _) ?_
                  rintro e wq ⟨rfl, rfl⟩
                  go_wp2_with fail
                  refine Calls.mono (hr2 _) ?_
                  rintro e wq ⟨rfl, rfl⟩
                  go_wp2_with fail
                  refine Calls.mono (hr3 _) ?_
                  rintro e wq ⟨rfl, rfl⟩
                  go_wp2_with fail
                  go_ret
                  exact ⟨ret_bool HV2.out.symm, HB.out⟩
                · have hlo' := decide_eq_false hlo
                  have HV2 : Hid (V = false) := by show _ = _; rw [HV3.out, hlo']; simp
                  clear HV3 h16
                  have cz := (fields5 _ _ _ _ _ (heap_alloc_new w (.cells IL.toArray 41 (0, 0))) 0).trans ((List.getElem?_toArray ..).trans HI0.out)
                  go_enter Tryz.func36, Tryz.ntmps36
                  go_wp2_with fail
                  refine Calls.mono (hO _) ?_
                  rintro e Y ⟨rfl, hbY⟩
                  obtain ⟨p, r⟩ := put_row Y ZL FL 88
                  have HQ : Hid ((Y.alloc (.cells ZL.toArray 88 (0, 0))).heap[Y.heap.size]? = some (.cells ZL.toArray 88 (0, 0))) := heap_alloc_new _ _
                  have hYi : ((Y.alloc (.cells ZL.toArray 88 (0, 0))).setRow Y.heap.size FL.toArray).heap[w.heap.size]? = some (.cells IL.toArray 41 (0, 0)) := (p.block _ (Nat.lt_of_lt_of_le (by simp) hbY.size)).trans ((hbY.block _ (by simp)).trans (heap_alloc_new _ _))
                  have hb1 : Below w.heap.size w (w.alloc (.cells IL.toArray 41 (0, 0))) := (Below.refl _ _).alloc (Nat.le_refl _) _
                  have hb2 := hb1.trans (hbY.mono hb1.size)
                  have HB : Hid (Below w.heap.size w ((Y.alloc (.cells ZL.toArray 88 (0, 0))).setRow Y.heap.size FL.toArray)) := hb2.trans (p.mono hb2.size)
                  have ci : ∀ k v, IL[k]? = some v → ((Y.alloc (.cells ZL.toArray 88 (0, 0))).setRow Y.heap.size FL.toArray).cell? ⟨w.heap.size, k, none⟩ = some v := fun k v hv => (fields5 _ _ _ _ _ hYi k).trans (by rw [List.getElem?_toArray]; exact hv)
                  have cf : ∀ k v, FL[k]? = some v → ((Y.alloc (.cells ZL.toArray 88 (0, 0))).setRow Y.heap.size FL.toArray).cell? ⟨Y.heap.size, k, none⟩ = some v := fun k v hv => (fields5 _ _ _ _ _ r k).trans (by rw [List.getElem?_toArray]; exact hv)
                  have c0 := ci 0 _ HI0.out
                  have c1 := ci 1 _ HI1.out
                  have c2 := ci 2 _ HI2.out
                  have c3 := ci 3 _ HI3.out
                  have c4 := ci 4 _ HI4.out
                  have f0 := cf 0 _ HF0.out
                  have f1 := cf 1 _ HF1.out
                  have f2 := cf 2 _ HF2.out
                  have f3 := cf 3 _ HF3.out
                  have f4 := cf 4 _ HF4.out
                  clear cz ci cf hb1 hb2 hYi p r hbY hO
                  go_wp2_with (refine wpList_store_row rfl 88 _ _ rfl Y.heap.size FL.toArray rfl rfl 88 ZL.toArray HQ.out (info5a FL HFN.out) (by simp [HZN.out, HFN.out]) HFO.out ?_)
                  refine Calls.mono (hr1 _) ?_
                  rintro e wq ⟨rfl, rfl⟩
                  go_wp2_with fail
                  refine Calls.mono (hr2 _) ?_
                  rintro e wq ⟨rfl, rfl⟩
                  go_wp2_with fail
                  refine Calls.mono (hr3 _) ?_
                  rintro e wq ⟨rfl, rfl⟩
                  go_wp2_with fail
                  go_ret
                  exact ⟨ret_bool HV2.out.symm, HB.out⟩
end Go.Proofs.YtkpjfhphohanlaaGreatDoor.JC
