/- cpu: the reference's words and texts. -/
import Derived.Test.YtkpjfhphohanlaaGreatDoorLC
set_option linter.unusedVariables false
set_option linter.unusedSimpArgs false
namespace Go.Proofs.YtkpjfhphohanlaaGreatDoor.JC
open Go.RowKit
open Go.Proofs.YtkpjfhphohanlaaGreatDoor.EC (row_lt heap_at rangeAt_below rangeAt_row ret_bool ret_i64 beq_int)

set_option maxHeartbeats 2000000 in
set_option maxRecDepth 100000 in
theorem renc_ok (i : Ins) (hm : may i = true) (w : World) : Calls Tryz.prog 20 #[iV i] w fun e w' => e = .returned (.int .u64 (wrd i)) ∧ Below w.heap.size w w' := by
  obtain ⟨h1, h2, h3, h4, h5, h6, h7, h8, h9, ha⟩ := may_bd hm
  have HW : Hid (wrd i = (i.op + i.d * 256 + i.a * 65536 + i.b * 16777216 + i.imm * 4294967296) % 18446744073709551616) := rfl
  generalize wrd i = V at *
  clear hm
  obtain ⟨op, d, a, b, imm⟩ := i
  unfold iV at *
  simp only at *
  have HB2 : Hid (Below w.heap.size w (w.alloc (.cells #[.int .i64 op, .int .i64 d, .int .i64 a, .int .i64 b, .int .i64 imm] 41 (0, 0)))) := (Below.refl _ _).alloc (Nat.le_refl _) _
  go_enter Tryz.func20, Tryz.ntmps20
  go_wp2
  go_ret
  refine ⟨?_, HB2.out⟩
  refine congrArg (fun x => Ending.returned (.int .u64 x)) ?_
  rw [HW.out]
  simp only [IntKind.wrap_u64]
  omega
/-- Which parts there are together. -/
theorem pat {op : Int} (h : isOp op = true) : ∃ D A B M, fd op = D ∧ fa op = A ∧ fb op = B ∧ fi op = M ∧ ((D, A, B, M) = (false, false, false, false) ∨ (D, A, B, M) = (true, false, false, true) ∨ (D, A, B, M) = (true, true, false, false) ∨ (D, A, B, M) = (true, true, true, false) ∨ (D, A, B, M) = (true, true, false, true) ∨ (D, A, B, M) = (false, true, true, true) ∨ (D, A, B, M) = (false, false, false, true) ∨ (D, A, B, M) = (false, true, false, true) ∨ (D, A, B, M) = (true, false, false, false)) := by
  refine ⟨_, _, _, _, rfl, rfl, rfl, rfl, ?_⟩
  rcases isOp_cases h with rfl | rfl | rfl | rfl | rfl | rfl | rfl | rfl | rfl | rfl | rfl | rfl | rfl | rfl | rfl | rfl | rfl <;> decide
set_option maxHeartbeats 4000000 in
set_option maxRecDepth 100000 in
theorem rtext_ok (i : Ins) (hm : may i = true) (w : World) (hG : GV w) : Calls Tryz.prog 25 #[iV i] w fun e w' => e = .returned (sV (txt i)) ∧ Below w.heap.size w w' := by
  obtain ⟨m1, m2, m3, m4, m5, m6, m7, m8, m9, m10⟩ := may_bd hm
  obtain ⟨m0, _⟩ := may_parts hm
  obtain ⟨dn, hdn⟩ : ∃ n : Nat, i.d = n := ⟨i.d.toNat, by omega⟩
  obtain ⟨an, han⟩ : ∃ n : Nat, i.a = n := ⟨i.a.toNat, by omega⟩
  obtain ⟨bn, hbn⟩ : ∃ n : Nat, i.b = n := ⟨i.b.toNat, by omega⟩
  have L0 := nm_len i.op
  have L1 := itoa_len i.d (by omega) (by omega)
  have L2 := itoa_len i.a (by omega) (by omega)
  have L3 := itoa_len i.b (by omega) (by omega)
  have L4 := itoa_len i.imm (by omega) (by omega)
  have HA1 : Hid (∀ X, Calls Tryz.prog 39 #[.int .i64 i.d] X fun e w' => e = .returned (sV (Lib.itoa i.d)) ∧ w' = X) := fun X => by rw [hdn]; exact itoa_small dn (by omega) X
  have HA2 : Hid (∀ X, Calls Tryz.prog 39 #[.int .i64 i.a] X fun e w' => e = .returned (sV (Lib.itoa i.a)) ∧ w' = X) := fun X => by rw [han]; exact itoa_small an (by omega) X
  have HA3 : Hid (∀ X, Calls Tryz.prog 39 #[.int .i64 i.b] X fun e w' => e = .returned (sV (Lib.itoa i.b)) ∧ w' = X) := fun X => by rw [hbn]; exact itoa_small bn (by omega) X
  have HA4 : Hid (∀ X, GV X → Calls Tryz.prog 40 #[.int .i64 i.imm, .int .i64 10] X fun e w' => e = .returned (sV (Lib.itoa i.imm)) ∧ Below X.heap.size X w') := fun X hX => fmt_any i.imm m9 m10 X hX
  have HG : Hid _ := hG
  have HT : Hid (txt i = nm i.op ++ (rw_ (fd i.op) i.d ++ (rw_ (fa i.op) i.a ++ (rw_ (fb i.op) i.b ++ iw (fi i.op) i.imm)))) := rfl
  obtain ⟨FD, FA, FB, FI, eD, eA, eB, eI, hpat⟩ := pat m0
  obtain ⟨ZL, hZL⟩ : ∃ L, L = zF := ⟨_, rfl⟩
  have hzv := fun W => zero5 W
  rw [← hZL] at hzv
  have HZN : Hid (ZL.length = 5) := by rw [hZL]; rfl
  have hiV : iV i = .agg (iL i).toArray := rfl
  rw [hiV]
  have HI0 : Hid ((iL i)[0]? = some (.int .i64 i.op)) := rfl
  have HI1 : Hid ((iL i)[1]? = some (.int .i64 i.d)) := rfl
  have HI2 : Hid ((iL i)[2]? = some (.int .i64 i.a)) := rfl
  have HI3 : Hid ((iL i)[3]? = some (.int .i64 i.b)) := rfl
  have HI4 : Hid ((iL i)[4]? = some (.int .i64 i.imm)) := rfl
  generalize iL i = IL at *
  have hO := fun W => of_any i.op W
  have HF0 : Hid ((ofL i.op)[0]? = some (.bool (fd i.op))) := rfl
  have HF1 : Hid ((ofL i.op)[1]? = some (.bool (fa i.op))) := rfl
  have HF2 : Hid ((ofL i.op)[2]? = some (.bool (fb i.op))) := rfl
  have HF3 : Hid ((ofL i.op)[3]? = some (.bool (fi i.op))) := rfl
  have HF4 : Hid ((ofL i.op)[4]? = some (.string ⟨(nm i.op).toArray⟩)) := rfl
  have HFN : Hid ((ofL i.op).length = 5) := rfl
  have HFO : Hid ((ofL i.op).toArray.all (·.oneCell') = true) := fL_one _ _ _ _ _
  generalize ofL i.op = FL at *
  clear hZL hiV
  rw [eD] at HF0 HT
  rw [eA] at HF1 HT
  rw [eB] at HF2 HT
  rw [eI] at HF3 HT
  unfold rw_ iw at HT
  generalize txt i = TX' at *
  generalize nm i.op = NM at *
  generalize Lib.itoa i.d = DL at *
  generalize Lib.itoa i.a = AL at *
  generalize Lib.itoa i.b = BL at *
  generalize Lib.itoa i.imm = ML at *
  clear eD eA eB eI hG m0 m1 m2 m3 m4 m5 m6 m7 m8 m9 m10 hdn han hbn hm
  obtain ⟨op, d, a, b, imm⟩ := i
  simp only at *
  unfold sV at *
  rcases hpat with h | h | h | h | h | h | h | h | h <;> simp only [Prod.mk.injEq] at h <;> obtain ⟨rfl, rfl, rfl, rfl⟩ := h
  · clear L0 L1 L2 L3 L4
    have cz := (fields5 _ _ _ _ _ (heap_alloc_new w (.cells IL.toArray 41 (0, 0))) 0).trans ((List.getElem?_toArray ..).trans HI0.out)
    go_enter Tryz.func25, Tryz.ntmps25
    go_wp2_with fail
    refine Calls.mono (hO _) ?_
    rintro e Y ⟨rfl, hbY⟩
    obtain ⟨p, r⟩ := put_row Y ZL FL 88
    have HQ : Hid ((Y.alloc (.cells ZL.toArray 88 (0, 0))).heap[Y.heap.size]? = some (.cells ZL.toArray 88 (0, 0))) := heap_alloc_new _ _
    have hYi : ((Y.alloc (.cells ZL.toArray 88 (0, 0))).setRow Y.heap.size FL.toArray).heap[w.heap.size]? = some (.cells IL.toArray 41 (0, 0)) := (p.block _ (Nat.lt_of_lt_of_le (by simp) hbY.size)).trans ((hbY.block _ (by simp)).trans (heap_alloc_new _ _))
    have hb1 : Below w.heap.size w (w.alloc (.cells IL.toArray 41 (0, 0))) := (Below.refl _ _).alloc (Nat.le_refl _) _
    have hb2 := hb1.trans (hbY.mono hb1.size)
    have HB : Hid (Below w.heap.size w ((Y.alloc (.cells ZL.toArray 88 (0, 0))).setRow Y.heap.size FL.toArray)) := hb2.trans (p.mono hb2.size)
    have ci : ∀ k v, IL[k]? = some v → ((Y.alloc (.cells ZL.toArray 88 (0, 0))).setRow Y.heap.size FL.toArray).cell? ⟨w.heap.size, k, none⟩ = some v := fun k v hv => (fields5 _ _ _ _ _ hYi k).trans (by rw [List.getElem?_toArray]; exact hv)
    have cf : ∀ k v, FL[k]? = some v → ((Y.alloc (.cells ZL.toArray 88 (0, 0))).setRow Y.heap.size FL.toArray).cell? ⟨Y.heap.size, k, none⟩ = some v := fun k v hv => (fields5 _ _ _ _ _ r k).trans (by rw [List.getElem?_toArray]; exact hv)
    have c0 := ci 0 _ HI0.out
    have c1 := ci 1 _ HI1.out
    have c2 := ci 2 _ HI2.out
    have c3 := ci 3 _ HI3.out
    have c4 := ci 4 _ HI4.out
    have f0 := cf 0 _ HF0.out
    have f1 := cf 1 _ HF1.out
    have f2 := cf 2 _ HF2.out
    have f3 := cf 3 _ HF3.out
    have f4 := cf 4 _ HF4.out
    clear cz ci cf hb1 hb2 hYi p r hbY hO
    go_wp2_with (refine wpList_store_row rfl 88 _ _ rfl Y.heap.size FL.toArray rfl rfl 88 ZL.toArray HQ.out (info5a FL HFN.out) (by simp [HZN.out, HFN.out]) HFO.out ?_)
    go_ret
    refine ⟨?_, HB.out⟩
    rw [HT.out]
    refine congrArg (fun x => Ending.returned (.string x)) ?_
    apply ByteArray.ext
    apply Array.ext'
    simp
  · have q0 : ¬9223372036854775807 < NM.length + 2 := by omega
    have q1 : ¬9223372036854775807 < NM.length + 2 + DL.length := by omega
    have q2 : ¬9223372036854775807 < NM.length + 2 + DL.length + 1 := by omega
    have q3 : ¬9223372036854775807 < NM.length + 2 + DL.length + 1 + ML.length := by omega
    clear L0 L1 L2 L3 L4
    have cz := (fields5 _ _ _ _ _ (heap_alloc_new w (.cells IL.toArray 41 (0, 0))) 0).trans ((List.getElem?_toArray ..).trans HI0.out)
    go_enter Tryz.func25, Tryz.ntmps25
    go_wp2_with fail
    refine Calls.mono (hO _) ?_
    rintro e Y ⟨rfl, hbY⟩
    obtain ⟨p, r⟩ := put_row Y ZL FL 88
    have HQ : Hid ((Y.alloc (.cells ZL.toArray 88 (0, 0))).heap[Y.heap.size]? = some (.cells ZL.toArray 88 (0, 0))) := heap_alloc_new _ _
    have hYi : ((Y.alloc (.cells ZL.toArray 88 (0, 0))).setRow Y.heap.size FL.toArray).heap[w.heap.size]? = some (.cells IL.toArray 41 (0, 0)) := (p.block _ (Nat.lt_of_lt_of_le (by simp) hbY.size)).trans ((hbY.block _ (by simp)).trans (heap_alloc_new _ _))
    have hb1 : Below w.heap.size w (w.alloc (.cells IL.toArray 41 (0, 0))) := (Below.refl _ _).alloc (Nat.le_refl _) _
    have hb2 := hb1.trans (hbY.mono hb1.size)
    have HB : Hid (Below w.heap.size w ((Y.alloc (.cells ZL.toArray 88 (0, 0))).setRow Y.heap.size FL.toArray)) := hb2.trans (p.mono hb2.size)
    have ci : ∀ k v, IL[k]? = some v → ((Y.alloc (.cells ZL.toArray 88 (0, 0))).setRow Y.heap.size FL.toArray).cell? ⟨w.heap.size, k, none⟩ = some v := fun k v hv => (fields5 _ _ _ _ _ hYi k).trans (by rw [List.getElem?_toArray]; exact hv)
    have cf : ∀ k v, FL[k]? = some v → ((Y.alloc (.cells ZL.toArray 88 (0, 0))).setRow Y.heap.size FL.toArray).cell? ⟨Y.heap.size, k, none⟩ = some v := fun k v hv => (fields5 _ _ _ _ _ r k).trans (by rw [List.getElem?_toArray]; exact hv)
    have c0 := ci 0 _ HI0.out
    have c1 := ci 1 _ HI1.out
    have c2 := ci 2 _ HI2.out
    have c3 := ci 3 _ HI3.out
    have c4 := ci 4 _ HI4.out
    have f0 := cf 0 _ HF0.out
    have f1 := cf 1 _ HF1.out
    have f2 := cf 2 _ HF2.out
    have f3 := cf 3 _ HF3.out
    have f4 := cf 4 _ HF4.out
    clear cz ci cf hb1 hb2 hYi p r hbY hO
    go_wp2_with (refine wpList_store_row rfl 88 _ _ rfl Y.heap.size FL.toArray rfl rfl 88 ZL.toArray HQ.out (info5a FL HFN.out) (by simp [HZN.out, HFN.out]) HFO.out ?_)
    refine Calls.mono (HA1.out _) ?_
    rintro e wq ⟨rfl, rfl⟩
    go_wp2_with fail
    refine Calls.mono (HA4.out _ (HG.out.below HB.out)) ?_
    rintro e wq ⟨rfl, hbq⟩
    go_wp2_with fail
    go_ret
    refine ⟨?_, HB.out.trans (hbq.mono HB.out.size)⟩
    rw [HT.out]
    refine congrArg (fun x => Ending.returned (.string x)) ?_
    apply ByteArray.ext
    apply Array.ext'
    simp
  · have q0 : ¬9223372036854775807 < NM.length + 2 := by omega
    have q1 : ¬9223372036854775807 < NM.length + 2 + DL.length := by omega
    have q2 : ¬9223372036854775807 < NM.length + 2 + DL.length + 2 := by omega
    have q3 : ¬9223372036854775807 < NM.length + 2 + DL.length + 2 + AL.length := by omega
    clear L0 L1 L2 L3 L4
    have cz := (fields5 _ _ _ _ _ (heap_alloc_new w (.cells IL.toArray 41 (0, 0))) 0).trans ((List.getElem?_toArray ..).trans HI0.out)
    go_enter Tryz.func25, Tryz.ntmps25
    go_wp2_with fail
    refine Calls.mono (hO _) ?_
    rintro e Y ⟨rfl, hbY⟩
    obtain ⟨p, r⟩ := put_row Y ZL FL 88
    have HQ : Hid ((Y.alloc (.cells ZL.toArray 88 (0, 0))).heap[Y.heap.size]? = some (.cells ZL.toArray 88 (0, 0))) := heap_alloc_new _ _
    have hYi : ((Y.alloc (.cells ZL.toArray 88 (0, 0))).setRow Y.heap.size FL.toArray).heap[w.heap.size]? = some (.cells IL.toArray 41 (0, 0)) := (p.block _ (Nat.lt_of_lt_of_le (by simp) hbY.size)).trans ((hbY.block _ (by simp)).trans (heap_alloc_new _ _))
    have hb1 : Below w.heap.size w (w.alloc (.cells IL.toArray 41 (0, 0))) := (Below.refl _ _).alloc (Nat.le_refl _) _
    have hb2 := hb1.trans (hbY.mono hb1.size)
    have HB : Hid (Below w.heap.size w ((Y.alloc (.cells ZL.toArray 88 (0, 0))).setRow Y.heap.size FL.toArray)) := hb2.trans (p.mono hb2.size)
    have ci : ∀ k v, IL[k]? = some v → ((Y.alloc (.cells ZL.toArray 88 (0, 0))).setRow Y.heap.size FL.toArray).cell? ⟨w.heap.size, k, none⟩ = some v := fun k v hv => (fields5 _ _ _ _ _ hYi k).trans (by rw [List.getElem?_toArray]; exact hv)
    have cf : ∀ k v, FL[k]? = some v → ((Y.alloc (.cells ZL.toArray 88 (0, 0))).setRow Y.heap.size FL.toArray).cell? ⟨Y.heap.size, k, none⟩ = some v := fun k v hv => (fields5 _ _ _ _ _ r k).trans (by rw [List.getElem?_toArray]; exact hv)
    have c0 := ci 0 _ HI0.out
    have c1 := ci 1 _ HI1.out
    have c2 := ci 2 _ HI2.out
    have c3 := ci 3 _ HI3.out
    have c4 := ci 4 _ HI4.out
    have f0 := cf 0 _ HF0.out
    have f1 := cf 1 _ HF1.out
    have f2 := cf 2 _ HF2.out
    have f3 := cf 3 _ HF3.out
    have f4 := cf 4 _ HF4.out
    clear cz ci cf hb1 hb2 hYi p r hbY hO
    go_wp2_with (refine wpList_store_row rfl 88 _ _ rfl Y.heap.size FL.toArray rfl rfl 88 ZL.toArray HQ.out (info5a FL HFN.out) (by simp [HZN.out, HFN.out]) HFO.out ?_)
    refine Calls.mono (HA1.out _) ?_
    rintro e wq ⟨rfl, rfl⟩
    go_wp2_with fail
    refine Calls.mono (HA2.out _) ?_
    rintro e wq ⟨rfl, rfl⟩
    go_wp2_with fail
    go_ret
    refine ⟨?_, HB.out⟩
    rw [HT.out]
    refine congrArg (fun x => Ending.returned (.string x)) ?_
    apply ByteArray.ext
    apply Array.ext'
    simp
  · have q0 : ¬9223372036854775807 < NM.length + 2 := by omega
    have q1 : ¬9223372036854775807 < NM.length + 2 + DL.length := by omega
    have q2 : ¬9223372036854775807 < NM.length + 2 + DL.length + 2 := by omega
    have q3 : ¬9223372036854775807 < NM.length + 2 + DL.length + 2 + AL.length := by omega
    have q4 : ¬9223372036854775807 < NM.length + 2 + DL.length + 2 + AL.length + 2 := by omega
    have q5 : ¬9223372036854775807 < NM.length + 2 + DL.length + 2 + AL.length + 2 + BL.length := by omega
    clear L0 L1 L2 L3 L4
    have cz := (fields5 _ _ _ _ _ (heap_alloc_new w (.cells IL.toArray 41 (0, 0))) 0).trans ((List.getElem?_toArray ..).trans HI0.out)
    go_enter Tryz.func25, Tryz.ntmps25
    go_wp2_with fail
    refine Calls.mono (hO _) ?_
    rintro e Y ⟨rfl, hbY⟩
    obtain ⟨p, r⟩ := put_row Y ZL FL 88
    have HQ : Hid ((Y.alloc (.cells ZL.toArray 88 (0, 0))).heap[Y.heap.size]? = some (.cells ZL.toArray 88 (0, 0))) := heap_alloc_new _ _
    have hYi : ((Y.alloc (.cells ZL.toArray 88 (0, 0))).setRow Y.heap.size FL.toArray).heap[w.heap.size]? = some (.cells IL.toArray 41 (0, 0)) := (p.block _ (Nat.lt_of_lt_of_le (by simp) hbY.size)).trans ((hbY.block _ (by simp)).trans (heap_alloc_new _ _))
    have hb1 : Below w.heap.size w (w.alloc (.cells IL.toArray 41 (0, 0))) := (Below.refl _ _).alloc (Nat.le_refl _) _
    have hb2 := hb1.trans (hbY.mono hb1.size)
    have HB : Hid (Below w.heap.size w ((Y.alloc (.cells ZL.toArray 88 (0, 0))).setRow Y.heap.size FL.toArray)) := hb2.trans (p.mono hb2.size)
    have ci : ∀ k v, IL[k]? = some v → ((Y.alloc (.cells ZL.toArray 88 (0, 0))).setRow Y.heap.size FL.toArray).cell? ⟨w.heap.size, k, none⟩ = some v := fun k v hv => (fields5 _ _ _ _ _ hYi k).trans (by rw [List.getElem?_toArray]; exact hv)
    have cf : ∀ k v, FL[k]? = some v → ((Y.alloc (.cells ZL.toArray 88 (0, 0))).setRow Y.heap.size FL.toArray).cell? ⟨Y.heap.size, k, none⟩ = some v := fun k v hv => (fields5 _ _ _ _ _ r k).trans (by rw [List.getElem?_toArray]; exact hv)
    have c0 := ci 0 _ HI0.out
    have c1 := ci 1 _ HI1.out
    have c2 := ci 2 _ HI2.out
    have c3 := ci 3 _ HI3.out
    have c4 := ci 4 _ HI4.out
    have f0 := cf 0 _ HF0.out
    have f1 := cf 1 _ HF1.out
    have f2 := cf 2 _ HF2.out
    have f3 := cf 3 _ HF3.out
    have f4 := cf 4 _ HF4.out
    clear cz ci cf hb1 hb2 hYi p r hbY hO
    go_wp2_with (refine wpList_store_row rfl 88 _ _ rfl Y.heap.size FL.toArray rfl rfl 88 ZL.toArray HQ.out (info5a FL HFN.out) (by simp [HZN.out, HFN.out]) HFO.out ?_)
    refine Calls.mono (HA1.out _) ?_
    rintro e wq ⟨rfl, rfl⟩
    go_wp2_with fail
    refine Calls.mono (HA2.out _) ?_
    rintro e wq ⟨rfl, rfl⟩
    go_wp2_with fail
    refine Calls.mono (HA3.out _) ?_
    rintro e wq ⟨rfl, rfl⟩
    go_wp2_with fail
    go_ret
    refine ⟨?_, HB.out⟩
    rw [HT.out]
    refine congrArg (fun x => Ending.returned (.string x)) ?_
    apply ByteArray.ext
    apply Array.ext'
    simp
  · have q0 : ¬9223372036854775807 < NM.length + 2 := by omega
    have q1 : ¬9223372036854775807 < NM.length + 2 + DL.length := by omega
    have q2 : ¬9223372036854775807 < NM.length + 2 + DL.length + 2 := by omega
    have q3 : ¬9223372036854775807 < NM.length + 2 + DL.length + 2 + AL.length := by omega
    have q4 : ¬9223372036854775807 < NM.length + 2 + DL.length + 2 + AL.length + 1 := by omega
    have q5 : ¬9223372036854775807 < NM.length + 2 + DL.length + 2 + AL.length + 1 + ML.length := by omega
    clear L0 L1 L2 L3 L4
    have cz := (fields5 _ _ _ _ _ (heap_alloc_new w (.cells IL.toArray 41 (0, 0))) 0).trans ((List.getElem?_toArray ..).trans HI0.out)
    go_enter Tryz.func25, Tryz.ntmps25
    go_wp2_with fail
    refine Calls.mono (hO _) ?_
    rintro e Y ⟨rfl, hbY⟩
    obtain ⟨p, r⟩ := put_row Y ZL FL 88
    have HQ : Hid ((Y.alloc (.cells ZL.toArray 88 (0, 0))).heap[Y.heap.size]? = some (.cells ZL.toArray 88 (0, 0))) := heap_alloc_new _ _
    have hYi : ((Y.alloc (.cells ZL.toArray 88 (0, 0))).setRow Y.heap.size FL.toArray).heap[w.heap.size]? = some (.cells IL.toArray 41 (0, 0)) := (p.block _ (Nat.lt_of_lt_of_le (by simp) hbY.size)).trans ((hbY.block _ (by simp)).trans (heap_alloc_new _ _))
    have hb1 : Below w.heap.size w (w.alloc (.cells IL.toArray 41 (0, 0))) := (Below.refl _ _).alloc (Nat.le_refl _) _
    have hb2 := hb1.trans (hbY.mono hb1.size)
    have HB : Hid (Below w.heap.size w ((Y.alloc (.cells ZL.toArray 88 (0, 0))).setRow Y.heap.size FL.toArray)) := hb2.trans (p.mono hb2.size)
    have ci : ∀ k v, IL[k]? = some v → ((Y.alloc (.cells ZL.toArray 88 (0, 0))).setRow Y.heap.size FL.toArray).cell? ⟨w.heap.size, k, none⟩ = some v := fun k v hv => (fields5 _ _ _ _ _ hYi k).trans (by rw [List.getElem?_toArray]; exact hv)
    have cf : ∀ k v, FL[k]? = some v → ((Y.alloc (.cells ZL.toArray 88 (0, 0))).setRow Y.heap.size FL.toArray).cell? ⟨Y.heap.size, k, none⟩ = some v := fun k v hv => (fields5 _ _ _ _ _ r k).trans (by rw [List.getElem?_toArray]; exact hv)
    have c0 := ci 0 _ HI0.out
    have c1 := ci 1 _ HI1.out
    have c2 := ci 2 _ HI2.out
    have c3 := ci 3 _ HI3.out
    have c4 := ci 4 _ HI4.out
    have f0 := cf 0 _ HF0.out
    have f1 := cf 1 _ HF1.out
    have f2 := cf 2 _ HF2.out
    have f3 := cf 3 _ HF3.out
    have f4 := cf 4 _ HF4.out
    clear cz ci cf hb1 hb2 hYi p r hbY hO
    go_wp2_with (refine wpList_store_row rfl 88 _ _ rfl Y.heap.size FL.toArray rfl rfl 88 ZL.toArray HQ.out (info5a FL HFN.out) (by simp [HZN.out, HFN.out]) HFO.out ?_)
    refine Calls.mono (HA1.out _) ?_
    rintro e wq ⟨rfl, rfl⟩
    go_wp2_with fail
    refine Calls.mono (HA2.out _) ?_
    rintro e wq ⟨rfl, rfl⟩
    go_wp2_with fail
    refine Calls.mono (HA4.out _ (HG.out.below HB.out)) ?_
    rintro e wq ⟨rfl, hbq⟩
    go_wp2_with fail
    go_ret
    refine ⟨?_, HB.out.trans (hbq.mono HB.out.size)⟩
    rw [HT.out]
    refine congrArg (fun x => Ending.returned (.string x)) ?_
    apply ByteArray.ext
    apply Array.ext'
    simp
  · have q0 : ¬9223372036854775807 < NM.length + 2 := by omega
    have q1 : ¬9223372036854775807 < NM.length + 2 + AL.length := by omega
    have q2 : ¬9223372036854775807 < NM.length + 2 + AL.length + 2 := by omega
    have q3 : ¬9223372036854775807 < NM.length + 2 + AL.length + 2 + BL.length := by omega
    have q4 : ¬9223372036854775807 < NM.length + 2 + AL.length + 2 + BL.length + 1 := by omega
    have q5 : ¬9223372036854775807 < NM.length + 2 + AL.length + 2 + BL.length + 1 + ML.length := by omega
    clear L0 L1 L2 L3 L4
    have cz := (fields5 _ _ _ _ _ (heap_alloc_new w (.cells IL.toArray 41 (0, 0))) 0).trans ((List.getElem?_toArray ..).trans HI0.out)
    go_enter Tryz.func25, Tryz.ntmps25
    go_wp2_with fail
    refine Calls.mono (hO _) ?_
    rintro e Y ⟨rfl, hbY⟩
    obtain ⟨p, r⟩ := put_row Y ZL FL 88
    have HQ : Hid ((Y.alloc (.cells ZL.toArray 88 (0, 0))).heap[Y.heap.size]? = some (.cells ZL.toArray 88 (0, 0))) := heap_alloc_new _ _
    have hYi : ((Y.alloc (.cells ZL.toArray 88 (0, 0))).setRow Y.heap.size FL.toArray).heap[w.heap.size]? = some (.cells IL.toArray 41 (0, 0)) := (p.block _ (Nat.lt_of_lt_of_le (by simp) hbY.size)).trans ((hbY.block _ (by simp)).trans (heap_alloc_new _ _))
    have hb1 : Below w.heap.size w (w.alloc (.cells IL.toArray 41 (0, 0))) := (Below.refl _ _).alloc (Nat.le_refl _) _
    have hb2 := hb1.trans (hbY.mono hb1.size)
    have HB : Hid (Below w.heap.size w ((Y.alloc (.cells ZL.toArray 88 (0, 0))).setRow Y.heap.size FL.toArray)) := hb2.trans (p.mono hb2.size)
    have ci : ∀ k v, IL[k]? = some v → ((Y.alloc (.cells ZL.toArray 88 (0, 0))).setRow Y.heap.size FL.toArray).cell? ⟨w.heap.size, k, none⟩ = some v := fun k v hv => (fields5 _ _ _ _ _ hYi k).trans (by rw [List.getElem?_toArray]; exact hv)
    have cf : ∀ k v, FL[k]? = some v → ((Y.alloc (.cells ZL.toArray 88 (0, 0))).setRow Y.heap.size FL.toArray).cell? ⟨Y.heap.size, k, none⟩ = some v := fun k v hv => (fields5 _ _ _ _ _ r k).trans (by rw [List.getElem?_toArray]; exact hv)
    have c0 := ci 0 _ HI0.out
    have c1 := ci 1 _ HI1.out
    have c2 := ci 2 _ HI2.out
    have c3 := ci 3 _ HI3.out
    have c4 := ci 4 _ HI4.out
    have f0 := cf 0 _ HF0.out
    have f1 := cf 1 _ HF1.out
    have f2 := cf 2 _ HF2.out
    have f3 := cf 3 _ HF3.out
    have f4 := cf 4 _ HF4.out
    clear cz ci cf hb1 hb2 hYi p r hbY hO
    go_wp2_with (refine wpList_store_row rfl 88 _ _ rfl Y.heap.size FL.toArray rfl rfl 88 ZL.toArray HQ.out (info5a FL HFN.out) (by simp [HZN.out, HFN.out]) HFO.out ?_)
    refine Calls.mono (HA2.out _) ?_
    rintro e wq ⟨rfl, rfl⟩
    go_wp2_with fail
    refine Calls.mono (HA3.out _) ?_
    rintro e wq ⟨rfl, rfl⟩
    go_wp2_with fail
    refine Calls.mono (HA4.out _ (HG.out.below HB.out)) ?_
    rintro e wq ⟨rfl, hbq⟩
    go_wp2_with fail
    go_ret
    refine ⟨?_, HB.out.trans (hbq.mono HB.out.size)⟩
    rw [HT.out]
    refine congrArg (fun x => Ending.returned (.string x)) ?_
    apply ByteArray.ext
    apply Array.ext'
    simp
  · have q0 : ¬9223372036854775807 < NM.length + 1 := by omega
    have q1 : ¬9223372036854775807 < NM.length + 1 + ML.length := by omega
    clear L0 L1 L2 L3 L4
    have cz := (fields5 _ _ _ _ _ (heap_alloc_new w (.cells IL.toArray 41 (0, 0))) 0).trans ((List.getElem?_toArray ..).trans HI0.out)
    go_enter Tryz.func25, Tryz.ntmps25
    go_wp2_with fail
    refine Calls.mono (hO _) ?_
    rintro e Y ⟨rfl, hbY⟩
    obtain ⟨p, r⟩ := put_row Y ZL FL 88
    have HQ : Hid ((Y.alloc (.cells ZL.toArray 88 (0, 0))).heap[Y.heap.size]? = some (.cells ZL.toArray 88 (0, 0))) := heap_alloc_new _ _
    have hYi : ((Y.alloc (.cells ZL.toArray 88 (0, 0))).setRow Y.heap.size FL.toArray).heap[w.heap.size]? = some (.cells IL.toArray 41 (0, 0)) := (p.block _ (Nat.lt_of_lt_of_le (by simp) hbY.size)).trans ((hbY.block _ (by simp)).trans (heap_alloc_new _ _))
    have hb1 : Below w.heap.size w (w.alloc (.cells IL.toArray 41 (0, 0))) := (Below.refl _ _).alloc (Nat.le_refl _) _
    have hb2 := hb1.trans (hbY.mono hb1.size)
    have HB : Hid (Below w.heap.size w ((Y.alloc (.cells ZL.toArray 88 (0, 0))).setRow Y.heap.size FL.toArray)) := hb2.trans (p.mono hb2.size)
    have ci : ∀ k v, IL[k]? = some v → ((Y.alloc (.cells ZL.toArray 88 (0, 0))).setRow Y.heap.size FL.toArray).cell? ⟨w.heap.size, k, none⟩ = some v := fun k v hv => (fields5 _ _ _ _ _ hYi k).trans (by rw [List.getElem?_toArray]; exact hv)
    have cf : ∀ k v, FL[k]? = some v → ((Y.alloc (.cells ZL.toArray 88 (0, 0))).setRow Y.heap.size FL.toArray).cell? ⟨Y.heap.size, k, none⟩ = some v := fun k v hv => (fields5 _ _ _ _ _ r k).trans (by rw [List.getElem?_toArray]; exact hv)
    have c0 := ci 0 _ HI0.out
    have c1 := ci 1 _ HI1.out
    have c2 := ci 2 _ HI2.out
    have c3 := ci 3 _ HI3.out
    have c4 := ci 4 _ HI4.out
    have f0 := cf 0 _ HF0.out
    have f1 := cf 1 _ HF1.out
    have f2 := cf 2 _ HF2.out
    have f3 := cf 3 _ HF3.out
    have f4 := cf 4 _ HF4.out
    clear cz ci cf hb1 hb2 hYi p r hbY hO
    go_wp2_with (refine wpList_store_row rfl 88 _ _ rfl Y.heap.size FL.toArray rfl rfl 88 ZL.toArray HQ.out (info5a FL HFN.out) (by simp [HZN.out, HFN.out]) HFO.out ?_)
    refine Calls.mono (HA4.out _ (HG.out.below HB.out)) ?_
    rintro e wq ⟨rfl, hbq⟩
    go_wp2_with fail
    go_ret
    refine ⟨?_, HB.out.trans (hbq.mono HB.out.size)⟩
    rw [HT.out]
    refine congrArg (fun x => Ending.returned (.string x)) ?_
    apply ByteArray.ext
    apply Array.ext'
    simp
  · have q0 : ¬9223372036854775807 < NM.length + 2 := by omega
    have q1 : ¬9223372036854775807 < NM.length + 2 + AL.length := by omega
    have q2 : ¬9223372036854775807 < NM.length + 2 + AL.length + 1 := by omega
    have q3 : ¬9223372036854775807 < NM.length + 2 + AL.length + 1 + ML.length := by omega
    clear L0 L1 L2 L3 L4
    have cz := (fields5 _ _ _ _ _ (heap_alloc_new w (.cells IL.toArray 41 (0, 0))) 0).trans ((List.getElem?_toArray ..).trans HI0.out)
    go_enter Tryz.func25, Tryz.ntmps25
    go_wp2_with fail
    refine Calls.mono (hO _) ?_
    rintro e Y ⟨rfl, hbY⟩
    obtain ⟨p, r⟩ := put_row Y ZL FL 88
    have HQ : Hid ((Y.alloc (.cells ZL.toArray 88 (0, 0))).heap[Y.heap.size]? = some (.cells ZL.toArray 88 (0, 0))) := heap_alloc_new _ _
    have hYi : ((Y.alloc (.cells ZL.toArray 88 (0, 0))).setRow Y.heap.size FL.toArray).heap[w.heap.size]? = some (.cells IL.toArray 41 (0, 0)) := (p.block _ (Nat.lt_of_lt_of_le (by simp) hbY.size)).trans ((hbY.block _ (by simp)).trans (heap_alloc_new _ _))
    have hb1 : Below w.heap.size w (w.alloc (.cells IL.toArray 41 (0, 0))) := (Below.refl _ _).alloc (Nat.le_refl _) _
    have hb2 := hb1.trans (hbY.mono hb1.size)
    have HB : Hid (Below w.heap.size w ((Y.alloc (.cells ZL.toArray 88 (0, 0))).setRow Y.heap.size FL.toArray)) := hb2.trans (p.mono hb2.size)
    have ci : ∀ k v, IL[k]? = some v → ((Y.alloc (.cells ZL.toArray 88 (0, 0))).setRow Y.heap.size FL.toArray).cell? ⟨w.heap.size, k, none⟩ = some v := fun k v hv => (fields5 _ _ _ _ _ hYi k).trans (by rw [List.getElem?_toArray]; exact hv)
    have cf : ∀ k v, FL[k]? = some v → ((Y.alloc (.cells ZL.toArray 88 (0, 0))).setRow Y.heap.size FL.toArray).cell? ⟨Y.heap.size, k, none⟩ = some v := fun k v hv => (fields5 _ _ _ _ _ r k).trans (by rw [List.getElem?_toArray]; exact hv)
    have c0 := ci 0 _ HI0.out
    have c1 := ci 1 _ HI1.out
    have c2 := ci 2 _ HI2.out
    have c3 := ci 3 _ HI3.out
    have c4 := ci 4 _ HI4.out
    have f0 := cf 0 _ HF0.out
    have f1 := cf 1 _ HF1.out
    have f2 := cf 2 _ HF2.out
    have f3 := cf 3 _ HF3.out
    have f4 := cf 4 _ HF4.out
    clear cz ci cf hb1 hb2 hYi p r hbY hO
    go_wp2_with (refine wpList_store_row rfl 88 _ _ rfl Y.heap.size FL.toArray rfl rfl 88 ZL.toArray HQ.out (info5a FL HFN.out) (by simp [HZN.out, HFN.out]) HFO.out ?_)
    refine Calls.mono (HA2.out _) ?_
    rintro e wq ⟨rfl, rfl⟩
    go_wp2_with fail
    refine Calls.mono (HA4.out _ (HG.out.below HB.out)) ?_
    rintro e wq ⟨rfl, hbq⟩
    go_wp2_with fail
    go_ret
    refine ⟨?_, HB.out.trans (hbq.mono HB.out.size)⟩
    rw [HT.out]
    refine congrArg (fun x => Ending.returned (.string x)) ?_
    apply ByteArray.ext
    apply Array.ext'
    simp
  · have q0 : ¬9223372036854775807 < NM.length + 2 := by omega
    have q1 : ¬9223372036854775807 < NM.length + 2 + DL.length := by omega
    clear L0 L1 L2 L3 L4
    have cz := (fields5 _ _ _ _ _ (heap_alloc_new w (.cells IL.toArray 41 (0, 0))) 0).trans ((List.getElem?_toArray ..).trans HI0.out)
    go_enter Tryz.func25, Tryz.ntmps25
    go_wp2_with fail
    refine Calls.mono (hO _) ?_
    rintro e Y ⟨rfl, hbY⟩
    obtain ⟨p, r⟩ := put_row Y ZL FL 88
    have HQ : Hid ((Y.alloc (.cells ZL.toArray 88 (0, 0))).heap[Y.heap.size]? = some (.cells ZL.toArray 88 (0, 0))) := heap_alloc_new _ _
    have hYi : ((Y.alloc (.cells ZL.toArray 88 (0, 0))).setRow Y.heap.size FL.toArray).heap[w.heap.size]? = some (.cells IL.toArray 41 (0, 0)) := (p.block _ (Nat.lt_of_lt_of_le (by simp) hbY.size)).trans ((hbY.block _ (by simp)).trans (heap_alloc_new _ _))
    have hb1 : Below w.heap.size w (w.alloc (.cells IL.toArray 41 (0, 0))) := (Below.refl _ _).alloc (Nat.le_refl _) _
    have hb2 := hb1.trans (hbY.mono hb1.size)
    have HB : Hid (Below w.heap.size w ((Y.alloc (.cells ZL.toArray 88 (0, 0))).setRow Y.heap.size FL.toArray)) := hb2.trans (p.mono hb2.size)
    have ci : ∀ k v, IL[k]? = some v → ((Y.alloc (.cells ZL.toArray 88 (0, 0))).setRow Y.heap.size FL.toArray).cell? ⟨w.heap.size, k, none⟩ = some v := fun k v hv => (fields5 _ _ _ _ _ hYi k).trans (by rw [List.getElem?_toArray]; exact hv)
    have cf : ∀ k v, FL[k]? = some v → ((Y.alloc (.cells ZL.toArray 88 (0, 0))).setRow Y.heap.size FL.toArray).cell? ⟨Y.heap.size, k, none⟩ = some v := fun k v hv => (fields5 _ _ _ _ _ r k).trans (by rw [List.getElem?_toArray]; exact hv)
    have c0 := ci 0 _ HI0.out
    have c1 := ci 1 _ HI1.out
    have c2 := ci 2 _ HI2.out
    have c3 := ci 3 _ HI3.out
    have c4 := ci 4 _ HI4.out
    have f0 := cf 0 _ HF0.out
    have f1 := cf 1 _ HF1.out
    have f2 := cf 2 _ HF2.out
    have f3 := cf 3 _ HF3.out
    have f4 := cf 4 _ HF4.out
    clear cz ci cf hb1 hb2 hYi p r hbY hO
    go_wp2_with (refine wpList_store_row rfl 88 _ _ rfl Y.heap.size FL.toArray rfl rfl 88 ZL.toArray HQ.out (info5a FL HFN.out) (by simp [HZN.out, HFN.out]) HFO.out ?_)
    refine Calls.mono (HA1.out _) ?_
    rintro e wq ⟨rfl, rfl⟩
    go_wp2_with fail
    go_ret
    refine ⟨?_, HB.out⟩
    rw [HT.out]
    refine congrArg (fun x => Ending.returned (.string x)) ?_
    apply ByteArray.ext
    apply Array.ext'
    simp
end Go.Proofs.YtkpjfhphohanlaaGreatDoor.JC
