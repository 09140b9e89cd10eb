/- Contract of the law's known: its walk. -/
import Derived.Test.YtojafgilpnnbiabD5
set_option linter.unusedVariables false
set_option linter.unusedSimpArgs false
namespace Go.Proofs.Ytojafgilpnnbiab
open Go.RowKit

theorem mk20 (W : World) : (Instr.makeSlice 22 (.int .i64 20) (.int .i64 20)).run Try.prog W = .ok (.slice (some ⟨W.heap.size, 0, none⟩) 20 20) (W.alloc (.cells ((bpart 20 K20 0).map B8).toArray 5)) := by
  obtain ⟨i0, hi, hz0, hz1, hz2⟩ := info_parts Try.infoU8
  rw [run_make W 22 5 i0 (.int .u8 0) Try.underlying22 hi hz0 .i64 .i64 _ _ (by omega) (by omega) (by rw [hz2]; omega) (by omega), hz1]
  have hZ : madeCells #[.int .u8 0] 20 = ((bpart 20 K20 0).map B8).toArray := by
    rw [← Array.toList_inj, toList_madeCells_one]; rfl
  have hZ' : madeCells (Value.int .u8 0).cells (Int.toNat 20 * 1) = ((bpart 20 K20 0).map B8).toArray := hZ
  rw [hZ']
  rfl

/-- A guarded load of a row, its guard met. -/
theorem load_guarded {ops : Array Oper} {rest : List Oper} {o : Oper} {a : Act} {w : World} {Q : Exit → Act → World → Prop} (hw : Region.wanted o (yielded ops a.tmps) = true) (x : Operand) (ho : o.op = .load 24 x)
    (g : Nat) (hx : a.eval x = .pointer (some ⟨g, 0, none⟩)) (t : TypeId) (cs : Array Value) (fr : Nat × Nat) (hg : w.heap[g]? = some (.cells cs t fr)) (hi : (Try.prog.info? 24).map (·.size) = some cs.size)
    (h : wpList Try.prog ops Q rest (a.put o.dst (.agg cs)) w) : wpList Try.prog ops Q (o :: rest) a w :=
  wpList_step fun K hK => by rw [if_pos hw]; exact wp_load_row 24 x ho g hx t cs fr _ hg Try.underlying24 rfl hi (hK _ _ h)

set_option maxHeartbeats 8000000 in
theorem known_any (w : World) : Calls Try.prog 8 #[] w fun e w' => e = .returned (.bool true) ∧ Below w.heap.size w w' := by
  have htag := fun kv bv W hk hb => tag_any kv bv K20 M8 W (by decide) (by decide) hk hb
  have hck := fun kv bv W hk hb => check_any kv bv K20 M8 (bad (macL K20 M8)) W (by decide) (by decide) (by rw [bad_len, macL_len]) hk hb
  rw [bad_ne] at hck
  have hw : ∀ c, c = txt (W1.hex (macL K20 M8)) → True := fun _ _ => trivial
  have hwant := want_mac
  have hTl : (macL K20 M8).length = 32 := macL_len _ _
  obtain ⟨T, hT⟩ : ∃ T, T = macL K20 M8 := ⟨_, rfl⟩
  rw [← hT] at htag hck hwant hTl
  have hBl : (bad T).length = 32 := by rw [bad_len, hTl]
  have hbs := bad_set T hTl
  have hde := fun W => derive_bad T ⟨#[]⟩ 0 W hTl (.inl rfl)
  have hke := fun W => keys_bad T ⟨#[97]⟩ 257 W (.inr (.inr (by decide)))
  have heq := fun W => equal_any T T W hTl hTl
  have hTT : (T == T) = true := by simp
  rw [hTT] at heq
  have hhx := fun g W hcc => hexr_some g 0 32 T W (by omega) hcc
  rw [hTl] at hhx
  have hcT : ∀ (W : World) (g : Nat), W.heap[g]? = some (.cells (T.map B8).toArray 24 (0, 0)) → ∀ i, i < 32 → W.cell? ⟨g, 0 + i, none⟩ = some (.int .u8 ((T.getD i 0).toNat : Int)) := fun W g hW i hi => by
    rw [Nat.zero_add, cell_of_row _ _ i _ _ _ hW]; exact row_get T 32 hTl i hi
  have h31 : ∀ (W : World) (g : Nat), W.heap[g]? = some (.cells (T.map B8).toArray 24 (0, 0)) → W.cell? ⟨g, 31, none⟩ = some (.int .u8 ((T.getD 31 0).toNat : Int)) := fun W g hW => by
    have := hcT W g hW 31 (by decide); simpa using this
  have hx := xor_u8 (T.getD 31 0) 1
  have hy : B8 (T.getD 31 0 ^^^ 1) = .int .u8 (((T.getD 31 0 ^^^ 1).toNat : Nat) : Int) := rfl
  rw [show (((1 : UInt8).toNat : Nat) : Int) = 1 from rfl] at hx
  obtain ⟨TA, hTA⟩ : ∃ TA, TA = (T.map B8).toArray := ⟨_, rfl⟩
  obtain ⟨BA, hBA⟩ : ∃ BA, BA = ((bad T).map B8).toArray := ⟨_, rfl⟩
  have hTs : TA.size = 32 := by rw [hTA]; simp [hTl]
  have hBs : BA.size = 32 := by rw [hBA]; simp [hBl]
  have HTI : Hid ((Try.prog.info? 24).map (·.size) = some TA.size) := by show _ = _; rw [hTs]; kernel_rfl
  have HBI : Hid ((Try.prog.info? 24).map (·.size) = some BA.size) := by show _ = _; rw [hBs]; kernel_rfl
  have HT1 : Hid (TA.all (·.oneCell') = true) := by show _ = _; rw [hTA]; exact B8_onea _
  have HTS : Hid ((32 : Nat) = TA.size) := hTs.symm
  generalize T.getD 31 0 ^^^ 1 = y at *
  generalize T.getD 31 0 = x at *
  rw [← hBA] at hck hbs
  rw [← hTA] at htag hbs hde hke heq
  simp only [← hTA] at hcT h31
  generalize txt (W1.hex T) = TX at *
  have hqq := congrArg ByteArray.toList hwant.symm
  simp only [] at hqq
  have hnum := fun n W => num_any n W
  have HCT : Hid _ := hcT
  have H31 : Hid _ := h31
  have HBS : Hid _ := hbs
  have HY : Hid _ := hy
  have HTA : Hid _ := hTA
  have HBA : Hid _ := hBA
  have hmk := fun W => mk20 W
  clear hwant hT hTA hBA hTT hcT h31 hbs hw hTl hBl hy
  go_enter Try.func8, Try.ntmps8
  go_wp2
  go_loopw [2] (fun i wr => ∃ k : Nat, k ≤ 20 ∧ i = .int .i64 k ∧ wr.heap[w.heap.size]? = some (.cells ((bpart 20 K20 k).map B8).toArray 5 (0, 0)) ∧ wr.heap.size = w.heap.size + 1 ∧ Below w.heap.size w wr) (fun i _ => 20 - (intOf i).toNat)
  case atStart => exact ⟨0, by omega, rfl, heap_alloc_new _ _, by simp, (Below.refl _ _).alloc (Nat.le_refl _) _⟩
  case round =>
    obtain ⟨k, hk, rfl, hR, hsz, hbel⟩ := hrel
    have HR : Hid _ := hR
    by_cases hlt : k < 20
    · have hset := bpart_set 20 K20 k rfl hlt
      obtain ⟨u, hu⟩ := bpart_cell 20 K20 k rfl hlt
      have hcu := cell_of_row _ _ k _ _ _ hR
      rw [hu] at hcu
      have hfu := frozen_of_row _ _ k _ _ hR
      have h11 : B8 (K20.getD k 0) = .int .u8 11 := by
        have h1 : K20.getD k 0 = 11 := by
          unfold K20
          rw [List.getD, List.getElem?_replicate, if_pos hlt]; rfl
        rw [h1]; rfl
      rw [h11] at hset
      have HSET : Hid _ := hset
      clear hset hu hR h11
      go_wp2
      go_roundw
      case rel =>
        refine ⟨k + 1, by omega, by go_num, ?_, by simpa using hsz, hbel.setCell (p := ⟨w.heap.size, k, none⟩) (by simp) _⟩
        rw [← HSET.out]; exact heap_setCell_same _ w.heap.size k _ 5 _ HR.out
      case measure => simp [intOf]; omega
    · have hk' : k = 20 := by omega
      rw [hk', bpart_all 20 K20 rfl] at hR
      have HKr : Hid _ := HB.ofRow 20 rfl (by decide) hR
      rw [show (k : Int) = 20 by omega]
      clear hR HR hlt hk hk'
      have hcv := conv_lit wr #[.int .u8 72, .int .u8 105, .int .u8 32, .int .u8 84, .int .u8 104, .int .u8 101, .int .u8 114, .int .u8 101] 8
      rw [hsz] at hcv
      go_wp2_with fail
      refine (htag _ _ _ (HB.alloc HKr.out _) (HB.newRowF wr _ 8 _ hsz.symm _ M8 rfl rfl (by decide))).mono ?_
      rintro e w1 ⟨rfl, hb1⟩
      have hs1 : w.heap.size + 2 ≤ w1.heap.size := by have := hb1.size; simp at this; omega
      have hbw1 : Below w.heap.size w w1 := (hbel.alloc (by omega) _).trans (hb1.mono (by simp; omega))
      have HK1 : Hid _ := HB.below (HB.alloc HKr.out _) hb1
      clear hb1 hcv
      go_wp2_with fail
      refine upon_store w1.heap.size TA Z32 24 (heap_alloc_new _ _) HTS.out HT1.out ?_
      intro wA HA hbA
      have hsA := row_lt HA.out
      have cA : Below w1.heap.size w1 wA := ((Below.refl _ _).alloc (Nat.le_refl _) _).trans hbA
      clear hbA
      go_wp2_with (refine wpList_load_row rfl 24 _ rfl (w1.heap.size) rfl 24 TA (0, 0) _ HA.out Try.underlying24 rfl HTI.out ?_)
      refine upon_store wA.heap.size TA Z32 24 (heap_alloc_new _ _) HTS.out HT1.out ?_
      intro wB HB' hbB
      have cB : Below wA.heap.size wA wB := ((Below.refl _ _).alloc (Nat.le_refl _) _).trans hbB
      clear hbB
      have hc31 := H31.out _ _ HB'.out
      have hf31 := frozen_of_row _ _ 31 _ _ HB'.out
      have hkf : KF w T (bad T) w1.heap.size wA.heap.size (wB.setCell ⟨wA.heap.size, 31, none⟩ (.int .u8 ((y.toNat : Nat) : Int))) := by
        have b1 : Below wA.heap.size wA (wB.setCell ⟨wA.heap.size, 31, none⟩ (.int .u8 ((y.toNat : Nat) : Int))) := cB.setCell (p := ⟨wA.heap.size, 31, none⟩) (by simp) _
        have b2 : Below w1.heap.size w1 (wB.setCell ⟨wA.heap.size, 31, none⟩ (.int .u8 ((y.toNat : Nat) : Int))) := cA.trans (b1.mono (by omega))
        refine ⟨HB.below HK1.out b2, ?_, ?_, hbw1.trans (b2.mono (by omega))⟩
        · rw [← HTA.out, b1.block _ hsA]; exact HA.out
        · rw [← HBA.out, ← HBS.out, HY.out]; exact heap_setCell_same _ wA.heap.size 31 _ 24 _ HB'.out
      have HKF : Hid _ := hkf
      have hl3 := hkf.2.1
      rw [← HTA.out] at hl3
      have HL3 : Hid _ := hl3
      clear hkf hl3 HK1 hbel cA cB HA HB'
      go_wp2_with (refine wpList_load_row rfl 24 _ rfl (w1.heap.size) rfl 24 TA (0, 0) _ HL3.out Try.underlying24 rfl HTI.out ?_)
      refine (hde _).mono ?_
      rintro e w2 ⟨rfl, hb2⟩
      have k2 := KF.below HKF.out hb2
      have HK2 : Hid _ := k2
      clear hb2 k2 HKF HL3 hde hc31 hf31
      obtain ⟨ZZ, hZZ⟩ : ∃ ZZ, ZZ = Z32 := ⟨_, rfl⟩
      rw [← hZZ]
      have hzs : ZZ.size = 32 := by rw [hZZ]; rfl
      have HZ1 : Hid (ZZ.all (·.oneCell') = true) := by show _ = _; rw [hZZ]; exact z32_one
      have HZS : Hid ((32 : Nat) = ZZ.size) := hzs.symm
      clear hZZ
      go_wp2_with fail
      refine upon_store w2.heap.size ZZ Z32 24 (heap_alloc_new _ _) HZS.out HZ1.out ?_
      intro wC HC hbC
      have k4 := KF.below HK2.out (((Below.refl w2.heap.size w2).alloc (Nat.le_refl _) _).trans hbC)
      have hl4 := k4.2.1
      rw [← HTA.out] at hl4
      have HL4 : Hid _ := hl4
      have HK4 : Hid _ := k4
      clear k4 hl4 hbC HK2 HC
      go_wp2_with (refine wpList_load_row rfl 24 _ rfl (w1.heap.size) rfl 24 TA (0, 0) _ HL4.out Try.underlying24 rfl HTI.out ?_)
      refine (hke _).mono ?_
      rintro e w3 ⟨rfl, hb3⟩
      have k3 := KF.below HK4.out hb3
      have HK3 : Hid _ := k3
      have hl3 := k3.2.1
      rw [← HTA.out] at hl3
      have HL3 : Hid _ := hl3
      have hsl := fun W => sliceDig W w1.heap.size
      clear hb3 k3 hl3 HK4 HL4 hke
      go_wp2_with fail
      refine (hhx _ _ (HCT.out _ _ HL3.out)).mono ?_
      rintro e w4 ⟨rfl, hb4⟩
      have k4 := KF.below HK3.out hb4
      have HK4 : Hid _ := k4
      have hl4 := k4.2.1
      rw [← HTA.out] at hl4
      have HL4 : Hid _ := hl4
      clear hb4 k4 hl4 HK3 HL3 hhx hsl
      go_wp2_with fail
      refine (hnum _ _).mono ?_
      rintro e wx ⟨rfl, rfl⟩
      go_wp2_with fail
      refine (hnum _ _).mono ?_
      rintro e wx ⟨rfl, rfl⟩
      go_wp2_with (refine load_guarded (by rfl) _ rfl w1.heap.size rfl 24 TA (0, 0) HL4.out HTI.out ?_)
      refine (heq _).mono ?_
      rintro e w5 ⟨rfl, hb5⟩
      have k5 := KF.below HK4.out hb5
      have HK5 : Hid _ := k5
      have hcv := conv_lit w5 #[.int .u8 72, .int .u8 105, .int .u8 32, .int .u8 84, .int .u8 104, .int .u8 101, .int .u8 114, .int .u8 101] 8
      have k6 := KF.alloc k5 (.cells #[.int .u8 72, .int .u8 105, .int .u8 32, .int .u8 84, .int .u8 104, .int .u8 101, .int .u8 114, .int .u8 101] 5 (8, 9))
      have hl6 := k6.2.2.1
      rw [← HBA.out] at hl6
      have HL6 : Hid _ := hl6
      have HK6 : Hid _ := k6
      clear hb5 k5 k6 hl6 HK4 HL4 heq
      go_wp2_with (refine load_guarded (by rfl) _ rfl wA.heap.size rfl 24 BA (0, 0) HL6.out HBI.out ?_)
      refine (hck _ _ _ HK6.out.1 (HB.newRowF w5 _ 8 _ rfl _ M8 rfl rfl (by decide))).mono ?_
      rintro e w7 ⟨rfl, hb7⟩
      have k7 := KF.below HK6.out hb7
      have HB7 : Hid _ := k7.2.2.2
      clear hb7 k7 HK6 HK5 hck hcv
      go_wp2
      go_ret
      exact ⟨rfl, HB7.out⟩

end Go.Proofs.Ytojafgilpnnbiab
