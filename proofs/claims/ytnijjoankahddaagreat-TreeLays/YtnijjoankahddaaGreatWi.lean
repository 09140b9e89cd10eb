/- Several texts in one. -/
import Derived.Test.YtnijjoankahddaaGreatFD
import Derived.Test.YtnijjoankahddaaGreatWz
set_option linter.unusedVariables false
set_option linter.unusedSimpArgs false
/- tree: the program's Lay over both sides. -/
namespace Go.Proofs.YtnijjoankahddaaGreat.DC
open Go.RowKit

theorem witness_lt' {n a : Nat} (hn : n ≤ 4096) (hw : witB n a = true) : a < 18446744073709551616 := by
  have := of_decide_eq_true hw
  omega
theorem info8k : (Tryz.prog.info? 89).map (·.size) = some 8192 := by kernel_rfl
set_option maxRecDepth 100000 in
theorem zero_all (W : World) : (zeroValue 89).run Tryz.prog W = .ok (.agg ((List.replicate 8192 (0 : UInt8)).map B8).toArray) W := by kernel_rfl
theorem size_dg (w : World) : (sizeOf 23).run Tryz.prog w = .ok 32 w := by kernel_rfl
theorem slice_all (W : World) (b o k : Nat) (h : k < 256) : (Instr.sliceAt 89 (.pointer (some ⟨b, o, none⟩)) (some (.int .i64 (k : Int))) none none).run Tryz.prog W = .ok (.slice (some ⟨b, o + k * 32, none⟩) (256 - k) (256 - k)) W := by
  have ha : Tryz.prog.arrayLen 89 = 256 := by kernel_rfl
  have hu : Tryz.prog.underlying 89 = some (.array (Tryz.prog.arrayLen 89) (Tryz.prog.elem 89)) := by kernel_rfl
  have he : Tryz.prog.elem 89 = 23 := by kernel_rfl
  rw [run_sliceAt_array_l W 89 _ hu .i64 _ (by omega) (by rw [ha]; omega), he, size_dg, ha]
  simp only [Result.andThen, slicedAt]
  rw [if_neg (by omega), add_none]
  simp
theorem slice_all2 (W : World) (b : Nat) : (Instr.sliceAt 89 (.pointer (some ⟨b, 0, none⟩)) (some (.int .i64 2)) none none).run Tryz.prog W = .ok (.slice (some ⟨b, 64, none⟩) 254 254) W := slice_all W b 0 2 (by decide)
/-- All nodes, as a row. -/
abbrev allR (b : Nat) (t : List UInt8) : Nat × TypeId × List Value := (b, 89, t.map B8)
theorem nodeB_0 (t : List UInt8) (j : Nat) : ((t.map B8).drop (j * 32)).take 32 = (nodeB t 0 j).map B8 := by
  unfold nodeB MC.rdB
  rw [List.map_take, List.map_drop, show 0 + 32 * j = j * 32 by omega]
theorem nodeB_0len (t : List UInt8) (j : Nat) (ht : t.length = 8192) (hj : j < 256) : (nodeB t 0 j).length = 32 := by
  unfold nodeB MC.rdB; rw [List.length_take, List.length_drop]; omega
theorem splice_0 (t d : List UInt8) (j : Nat) : splice (t.map B8) (j * 32) (d.map B8) = (splice t (0 + 32 * j) d).map B8 := by
  rw [MC.splice_map, show 0 + 32 * j = j * 32 by omega]
section
variable {w X Y : World} {og mb rg mm gb rm bb n : Nat} {i : Bool} {m : List UInt8} {D : List (List UInt8)} {L L' R R' : Lg} {rows rows' : Rws} {l1 l2 l' A : List UInt8}
set_option maxHeartbeats 4000000 in
set_option maxRecDepth 100000 in
theorem TM.play (h : TM w og mb rg i m D L R mm gb rm bb n l1 l2 rows X) (a : Nat) (hA : gL D L) (hw : witB n a = true) (hll : L.length < 900000) :
    Calls Tryz.prog 20 #[.pointer (some ⟨og, 0, none⟩), .pointer (some ⟨mm, 0, none⟩), .int .u64 (a : Int)] X fun e Y => ∃ z : List UInt8, z.length = 8192 ∧ e = .returned (R5.okV (nodeB (nodeM i D z 0 L 127).1 0 1)) ∧ TM w og mb rg i m D (nodeM i D z 0 L 127).2 R mm gb rm bb n (layN l1 a (nodeM i D z 0 L 127).1 254) l2 rows Y := by
  have hz := fun W => R5.zero_dig W
  obtain ⟨ZL, hZL⟩ : ∃ L, L = (List.replicate 32 (0 : UInt8)).map B8 := ⟨_, rfl⟩
  rw [← hZL] at hz
  have HZL : Hid (ZL.length = 32) := by show _ = _; rw [hZL]; simp
  have hz2 := fun W => zero_all W
  obtain ⟨z, hzz⟩ : ∃ z, z = List.replicate 8192 (0 : UInt8) := ⟨_, rfl⟩
  rw [← hzz] at hz2
  have hzl : z.length = 8192 := by rw [hzz]; simp
  have hz3 : 0 + 8192 ≤ z.length := by omega
  have ha : a < 18446744073709551616 := witness_lt' h.le hw
  have HTF : Hid (∀ rws W, TM w og mb rg i m D L R mm gb rm bb n l1 l2 rws W → Calls Tryz.prog 48 #[.pointer (some ⟨og, 0, none⟩), .pointer (some ⟨mm, 0, none⟩), .int .u64 (a : Int)] W fun e w' => e = .returned (.int .i64 0) ∧ Below W.heap.size W w') := fun rws W hW => by
    have q := tf_any hW.there a ha
    rw [show tfC n a = 0 by unfold tfC; rw [hw]; rfl] at q
    exact q
  have HLF : Hid (∀ k : Nat, k < 128 → ∀ W, Calls Tryz.prog 42 #[.int .i64 (k : Int)] W fun e w' => e = .returned (.int .i64 ((128 + k : Nat) : Int)) ∧ w' = W) := fun k hk W => leafOf_any k hk W
  obtain ⟨TA, hTA⟩ : ∃ f : Nat → List UInt8, f = fun k => (leafM i D z 0 L k).1 := ⟨_, rfl⟩
  obtain ⟨LA, hLA⟩ : ∃ f : Nat → Lg, f = fun k => (leafM i D z 0 L k).2 := ⟨_, rfl⟩
  obtain ⟨TB', hTB⟩ : ∃ f : Nat → List UInt8, f = fun k => (nodeM i D z 0 L k).1 := ⟨_, rfl⟩
  obtain ⟨LB, hLB⟩ : ∃ f : Nat → Lg, f = fun k => (nodeM i D z 0 L k).2 := ⟨_, rfl⟩
  have HTA0 : Hid (z = TA 0 ∧ L = LA 0) := by rw [hTA, hLA]; exact ⟨rfl, rfl⟩
  have HTB0 : Hid (TA 128 = TB' 0 ∧ LA 128 = LB 0) := by rw [hTA, hLA, hTB, hLB]; exact ⟨rfl, rfl⟩
  have HTAL : Hid (∀ k, k ≤ 128 → (TA k).length = 8192) := by rw [hTA]; exact fun k hk => (leafM_len hA hz3 k hk).trans hzl
  have HTBL : Hid (∀ k, k ≤ 127 → (TB' k).length = 8192) := by rw [hTB]; exact fun k hk => (nodeM_len hA hz3 k hk).trans hzl
  have HNS : Hid (∀ k, k < 128 → ∃ AD : List UInt8, AD.length = 32 ∧ TA (k + 1) = splice (TA k) (0 + 32 * (128 + k)) AD ∧ ∀ rws W, TM w og mb rg i m D (LA k) R mm gb rm bb n l1 l2 rws W → Calls Tryz.prog 41 #[.pointer (some ⟨og, 0, none⟩), .int .i64 (k : Int)] W fun e Y => e = .returned (.agg (AD.map B8).toArray) ∧ TM w og mb rg i m D (LA (k + 1)) R mm gb rm bb n l1 l2 rws Y) := by
    intro k hk
    refine ⟨(nx2 i D (LA k) (qNone k)).1, by rw [hLA]; exact (leafM_good hA k).len _, by rw [hTA, hLA]; rfl, fun rws W hW => ?_⟩
    have q := hW.pnoneOf (by rw [hLA]; show (leafM i D z 0 L k).2.length < 1000000; have := leafM_log (i := i) (D := D) (l := z) (a := 0) (L := L) k; omega) k hk
    have e : (nx2 i D (LA k) (qNone k)).2 = LA (k + 1) := by rw [hLA]; rfl
    rw [e] at q
    exact q
  have HNN : Hid (∀ k, k < 127 → ∃ AD : List UInt8, AD.length = 32 ∧ TB' (k + 1) = splice (TB' k) (0 + 32 * (127 - k)) AD ∧ ∀ rws W, TM w og mb rg i m D (LB k) R mm gb rm bb n l1 l2 rws W → Calls Tryz.prog 46 #[.pointer (some ⟨og, 0, none⟩), .int .i64 ((127 - k : Nat) : Int), .agg ((nodeB (TB' k) 0 (2 * (127 - k))).map B8).toArray, .agg ((nodeB (TB' k) 0 (2 * (127 - k) + 1)).map B8).toArray] W fun e Y => e = .returned (.agg (AD.map B8).toArray) ∧ TM w og mb rg i m D (LB (k + 1)) R mm gb rm bb n l1 l2 rws Y) := by
    intro k hk
    refine ⟨(nx2 i D (LB k) (qNode (127 - k) (nodeB (TB' k) 0 (2 * (127 - k))) (nodeB (TB' k) 0 (2 * (127 - k) + 1)))).1, by rw [hLB]; exact (nodeM_good hA k).len _, by rw [hTB, hLB]; rfl, fun rws W hW => ?_⟩
    have q := hW.pnodeOf (by rw [hLB]; show (nodeM i D z 0 L k).2.length < 1000000; have := nodeM_log (i := i) (D := D) (l := z) (a := 0) (L := L) k; omega) (127 - k) (nodeB (TB' k) 0 (2 * (127 - k))) (nodeB (TB' k) 0 (2 * (127 - k) + 1)) (by omega) (nodeB_0len _ _ (HTBL.out k (by omega)) (by omega)) (nodeB_0len _ _ (HTBL.out k (by omega)) (by omega))
    have e : (nx2 i D (LB k) (qNode (127 - k) (nodeB (TB' k) 0 (2 * (127 - k))) (nodeB (TB' k) 0 (2 * (127 - k) + 1)))).2 = LB (k + 1) := by rw [hLB, hTB]; rfl
    rw [e] at q
    exact q
  obtain ⟨MS, hMS⟩ : ∃ f : Nat → List UInt8, f = layN l1 a (TB' 127) := ⟨_, rfl⟩
  have HM0 : Hid (l1 = MS 0) := by show _ = _; rw [hMS]; rfl
  have HMS : Hid (∀ k, MS (k + 1) = splice (MS k) (a + 32 * (2 + k)) (nodeB (TB' 127) 0 (2 + k))) := by rw [hMS]; exact fun k => rfl
  have HW : Hid (witB n a = true) := hw
  have hT7 : (nodeM i D z 0 L 127).1 = TB' 127 := by rw [hTB]
  have hL7 : (nodeM i D z 0 L 127).2 = LB 127 := by rw [hLB]
  have hM7 : layN l1 a (TB' 127) 254 = MS 254 := by rw [hMS]
  suffices hs : Calls Tryz.prog 20 #[.pointer (some ⟨og, 0, none⟩), .pointer (some ⟨mm, 0, none⟩), .int .u64 (a : Int)] X fun e Y => e = .returned (R5.okV (nodeB (TB' 127) 0 1)) ∧ TM w og mb rg i m D (LB 127) R mm gb rm bb n (MS 254) l2 rows Y from hs.mono fun e Y ⟨h1, h2⟩ => ⟨z, hzl, by rw [hT7]; exact h1, by rw [hT7, hL7, hM7]; exact h2⟩
  have hok : R5.okV (nodeB (TB' 127) 0 1) = .tuple #[.agg ((nodeB (TB' 127) 0 1).map B8).toArray, .int .i64 0] := rfl
  rw [hok]
  have HRL : Hid (((nodeB (TB' 127) 0 1).map B8).length = 32) := by show _ = _; rw [List.length_map]; exact nodeB_0len _ _ (HTBL.out 127 (by decide)) (by decide)
  have HR1 : Hid _ := R5.B8_onea (nodeB (TB' 127) 0 1)
  have HRP : Hid _ := nodeB_0 (TB' 127) 1
  obtain ⟨RO, hRO⟩ : ∃ L, (nodeB (TB' 127) 0 1).map B8 = L := ⟨_, rfl⟩
  rw [hRO] at HRL HR1 HRP ⊢
  have HT0 : Hid _ := h.alloc X.heap.size rfl 23 ZL
  have hsl := fun W b => slice_all2 W b
  clear hZL hzz hzl hz3 ha hTA hLA hTB hLB hMS hT7 hL7 hM7 hok hRO hA hll h hw
  go_enter Tryz.func20, Tryz.ntmps20
  go_upto_region 1 with fail
  generalize hb6 : X.heap.size = b6 at *
  clear hb6
  generalize World.alloc _ _ = X0 at *
  go_wp2_with fail
  refine Calls.mono (HTF.out _ _ HT0.out) ?_
  rintro e X1 ⟨rfl, hb⟩
  have HT1 : Hid _ := HT0.out.step hb
  clear hb HT0 HTF
  go_upto_region 5 with fail
  have HT2 : Hid (TM w og mb rg i m D (LA 0) R mm gb rm bb n l1 l2 (allR X1.heap.size (TA 0) :: (b6, 23, ZL) :: rows) (X1.alloc (.cells (z.map B8).toArray 89 (0, 0)))) := by
    have q := HT1.out.alloc X1.heap.size rfl 89 (z.map B8)
    rw [HTA0.out.2] at q
    unfold allR
    rw [← HTA0.out.1]; exact q
  generalize hb9 : X1.heap.size = b9 at *
  clear hb9 HT1 HTA0
  generalize World.alloc _ _ = X2 at *
  go_wp2
  go_loopw [23] (fun t wr => ∃ k : Nat, k ≤ 128 ∧ t = .int .i64 k ∧ TM w og mb rg i m D (LA k) R mm gb rm bb n l1 l2 (allR b9 (TA k) :: (b6, 23, ZL) :: rows) wr) (fun t _ => 128 - (intOf t).toNat)
  case atStart => exact ⟨0, by omega, rfl, HT2.out⟩
  case round =>
    obtain ⟨k, hk, rfl, hT⟩ := hrel
    clear HT2
    by_cases hlt : k < 128
    · have hkI : (k : Int) < 128 := by omega
      obtain ⟨AD, hAD, hta, hc⟩ := HNS.out k hlt
      have HC : Hid _ := hc _ _ hT
      have HLK : Hid _ := HLF.out k hlt
      have hlf1 : ((128 + k : Nat) : Int) < 256 := by omega
      have hlf0 : (0 : Int) ≤ ((128 + k : Nat) : Int) := by omega
      have HALN : Hid ((AD.map B8).length = 32) := by show _ = _; simpa using hAD
      have HA1 : Hid _ := R5.B8_onea AD
      have HSP : Hid (splice ((TA k).map B8) ((128 + k) * 32) (AD.map B8) = (TA (k + 1)).map B8) := by show _ = _; rw [splice_0, ← hta]
      have HTL : Hid ((TA k).length = 8192) := HTAL.out k hk
      generalize AD.map B8 = AL at *
      clear hT hc hta hAD
      go_wp2_with fail
      refine Calls.mono (HLK.out wr) ?_
      rintro e Y0 ⟨rfl, hy⟩
      rw [hy]
      clear hy Y0
      go_wp2_with fail
      refine Calls.mono HC.out ?_
      rintro e X3 ⟨rfl, hT3⟩
      have HT3 : Hid _ := hT3
      clear hT3 HC
      go_wp2_with (refine wpList_store_segL rfl 23 (.tmp 31) (.tmp 30) rfl b9 ((128 + k) * 32) AL.toArray ((TA k).map B8) 89 rfl rfl (HT3.out.at 0 rfl) (infoDa AL HALN.out) (by rw [List.length_map, HTL.out, List.size_toArray, HALN.out]; omega) HA1.out ?_
                   intro X4 e4
                   have HT4 : Hid _ := HT3.out.put' 0 rfl (splice ((TA k).map B8) ((128 + k) * 32) AL)
                   rw [List.toList_toArray] at e4
                   rw [← e4, HSP.out] at HT4
                   clear e4)
      go_roundw
      case rel => exact ⟨k + 1, by omega, by go_num, HT4.out⟩
      case measure => simp [intOf]; omega
    · have hk8 : k = 128 := by omega
      subst hk8
      have HT5 : Hid (TM w og mb rg i m D (LB 0) R mm gb rm bb n l1 l2 (allR b9 (TB' 0) :: (b6, 23, ZL) :: rows) wr) := by rw [HTB0.out.1, HTB0.out.2] at hT; exact hT
      clear hT hlt hk HNS HTAL HLF HTB0
      go_wp2
      go_loopw [33] (fun t wr => ∃ k : Nat, k ≤ 127 ∧ t = .int .i64 k ∧ TM w og mb rg i m D (LB k) R mm gb rm bb n l1 l2 (allR b9 (TB' k) :: (b6, 23, ZL) :: rows) wr) (fun t _ => 127 - (intOf t).toNat)
      case atStart => exact ⟨0, by omega, rfl, HT5.out⟩
      case round =>
        obtain ⟨k, hk, rfl, hT⟩ := hrel
        clear HT5
        by_cases hlt : k < 127
        · have hkI : (k : Int) < 127 := by omega
          obtain ⟨AD, hAD, hta, hc⟩ := HNN.out k hlt
          have HTL : Hid ((TB' k).length = 8192) := HTBL.out k hk
          have hn1 := nodeB_0len (TB' k) (2 * (127 - k)) HTL.out (by omega)
          have hn2 := nodeB_0len (TB' k) (2 * (127 - k) + 1) HTL.out (by omega)
          have HP1 : Hid _ := nodeB_0 (TB' k) (2 * (127 - k))
          have HP2 : Hid _ := nodeB_0 (TB' k) (2 * (127 - k) + 1)
          obtain ⟨j, hj⟩ : ∃ j, 127 - k = j := ⟨_, rfl⟩
          rw [hj] at hta hn1 hn2 HP1 HP2
          have hc' : ∀ rws W, TM w og mb rg i m D (LB k) R mm gb rm bb n l1 l2 rws W → Calls Tryz.prog 46 #[.pointer (some ⟨og, 0, none⟩), .int .i64 (j : Int), .agg ((nodeB (TB' k) 0 (2 * j)).map B8).toArray, .agg ((nodeB (TB' k) 0 (2 * j + 1)).map B8).toArray] W fun e Y => e = .returned (.agg (AD.map B8).toArray) ∧ TM w og mb rg i m D (LB (k + 1)) R mm gb rm bb n l1 l2 rws Y := by rw [← hj]; exact hc
          have hw1 : IntKind.i64.wrap (127 - (k : Int)) = (j : Int) := by rw [IntKind.wrap_i64]; omega
          have hw2 : IntKind.i64.wrap (2 * (j : Int)) = ((2 * j : Nat) : Int) := by rw [IntKind.wrap_i64]; omega
          have hw3 : IntKind.i64.wrap (((2 * j : Nat) : Int) + 1) = ((2 * j + 1 : Nat) : Int) := by rw [IntKind.wrap_i64]; omega
          obtain ⟨j2, hj2⟩ : ∃ x, 2 * j = x := ⟨_, rfl⟩
          obtain ⟨j3, hj3⟩ : ∃ x, 2 * j + 1 = x := ⟨_, rfl⟩
          have HJB : Hid (j < 256 ∧ j2 < 256 ∧ j3 < 256) := by show _ ∧ _; omega
          rw [hj3] at hw3 hn2 HP2 hc'
          rw [hj2] at hw2 hw3 hn1 HP1 hc'
          have HNO : Hid _ := hc'
          have HAN : Hid (((nodeB (TB' k) 0 j2).map B8).length = 32) := by show _ = _; simpa using hn1
          have HBN : Hid (((nodeB (TB' k) 0 j3).map B8).length = 32) := by show _ = _; simpa using hn2
          have HALN : Hid ((AD.map B8).length = 32) := by show _ = _; simpa using hAD
          have HA1 : Hid _ := R5.B8_onea AD
          have HSP : Hid (splice ((TB' k).map B8) (j * 32) (AD.map B8) = (TB' (k + 1)).map B8) := by show _ = _; rw [splice_0, ← hta]
          have HT : Hid _ := hT
          obtain ⟨T1, hT1⟩ : ∃ x, TB' k = x := ⟨_, rfl⟩
          obtain ⟨T2, hT2⟩ : ∃ x, TB' (k + 1) = x := ⟨_, rfl⟩
          obtain ⟨L2, hL2⟩ : ∃ x, LB (k + 1) = x := ⟨_, rfl⟩
          have HE1 : Hid (LB (k + 1) = L2) := hL2
          have HE2 : Hid (TB' (k + 1) = T2) := hT2
          rw [hL2] at HNO
          rw [hT1] at HNO HAN HBN HSP HP1 HP2 HTL
          rw [hT2] at HSP
          have HTE : Hid (TM w og mb rg i m D (LB k) R mm gb rm bb n l1 l2 (allR b9 T1 :: (b6, 23, ZL) :: rows) wr) := by rw [hT1] at hT; exact hT
          generalize AD.map B8 = AL at *
          generalize (nodeB T1 0 j2).map B8 = XL at *
          generalize (nodeB T1 0 j3).map B8 = YL at *
          clear hT hc hc' hta hAD hn1 hn2 HT hT1 hT2 hL2 hj hj2 hj3 hk
          go_upto_region 14 with fail
          have HTD : Hid _ := HTE.out.step (Below.refl _ _).drew
          refine wp_region_held_drew (S := fun W => ∃ L' rw1, TM w og mb rg i m D L' R mm gb rm bb n l1 l2 rw1 W) (by kernel_rfl) ⟨_, _, HTD.out⟩ (fun hHeld => ?_)
          clear HTE
          generalize World.drew _ = V0 at *
          refine wpAnyH_take (i := 0) (oi := { dst := some 38, op := Go.Op.move (Go.Operand.tmp 12), type := 3, pos := _, after := #[], guard := none }) (v := .int .i64 (j : Int)) rfl (by kernel_rfl) (by kernel_rfl) (by kernel_rfl) (fun _ _ _ h => h) (Or.inl ⟨by rfl, fun w' hw' => ?_⟩) hHeld ?_
          · first | (go_simp; done) | (go_simp; rfl)
          try simp only [Act.put, List.setIfInBounds_toArray, List.set_cons_zero, List.set_cons_succ]
          refine wpAnyH_take (i := 1) (oi := { dst := some 39, op := Go.Op.move (Go.Operand.tmp 0), type := 31, pos := _, after := #[], guard := none }) (v := .pointer (some ⟨og, 0, none⟩)) rfl (by kernel_rfl) (by kernel_rfl) (by kernel_rfl) (fun _ _ _ h => h) (Or.inl ⟨by rfl, fun w' hw' => ?_⟩) hHeld ?_
          · first | (go_simp; done) | (go_simp; rfl)
          try simp only [Act.put, List.setIfInBounds_toArray, List.set_cons_zero, List.set_cons_succ]
          refine wpAnyH_take (i := 2) (oi := { dst := some 40, op := Go.Op.move (Go.Operand.tmp 12), type := 3, pos := _, after := #[], guard := none }) (v := .int .i64 (j : Int)) rfl (by kernel_rfl) (by kernel_rfl) (by kernel_rfl) (fun _ _ _ h => h) (Or.inl ⟨by rfl, fun w' hw' => ?_⟩) hHeld ?_
          · first | (go_simp; done) | (go_simp; rfl)
          try simp only [Act.put, List.setIfInBounds_toArray, List.set_cons_zero, List.set_cons_succ]
          refine wpAnyH_take (i := 3) (oi := { dst := some 41, op := Go.Op.move (Go.Operand.tmp 12), type := 3, pos := _, after := #[], guard := none }) (v := .int .i64 (j : Int)) rfl (by kernel_rfl) (by kernel_rfl) (by kernel_rfl) (fun _ _ _ h => h) (Or.inl ⟨by rfl, fun w' hw' => ?_⟩) hHeld ?_
          · first | (go_simp; done) | (go_simp; rfl)
          try simp only [Act.put, List.setIfInBounds_toArray, List.set_cons_zero, List.set_cons_succ]
          refine wpAnyH_take (i := 4) (oi := { dst := some 42, op := Go.Op.binOp Go.BinOp.mul 3 (Go.Operand.const (Go.Value.int Go.IntKind.i64 2)) (Go.Operand.tmp 41) 3, type := 3, pos := _, after := #[{ on := 3, ground := Go.Ground.data }], guard := none }) (v := .int .i64 (j2 : Int)) rfl (by kernel_rfl) (by kernel_rfl) (by kernel_rfl) (fun _ _ _ h => h) (Or.inl ⟨by rfl, fun w' hw' => ?_⟩) hHeld ?_
          · first | (go_simp; done) | (go_simp; rfl)
          try simp only [Act.put, List.setIfInBounds_toArray, List.set_cons_zero, List.set_cons_succ]
          refine wpAnyH_take (i := 5) (oi := { dst := some 43, op := Go.Op.indexAddr 89 (Go.Operand.tmp 9) (Go.Operand.tmp 42), type := 0, pos := _, after := #[{ on := 4, ground := Go.Ground.data }], guard := none }) (v := .pointer (some ⟨b9, j2 * 32, none⟩)) rfl (by kernel_rfl) (by kernel_rfl) (by kernel_rfl) (fun _ _ _ h => h) (Or.inl ⟨by rfl, fun w' hw' => ?_⟩) hHeld ?_
          · have h8I : ¬ (256 : Int) ≤ (j2 : Int) := (by have := HJB.out; omega); first | (go_simp; done) | (go_simp; rfl)
          try simp only [Act.put, List.setIfInBounds_toArray, List.set_cons_zero, List.set_cons_succ]
          refine wpAnyH_take (i := 7) (oi := { dst := some 45, op := Go.Op.move (Go.Operand.tmp 12), type := 3, pos := _, after := #[], guard := none }) (v := .int .i64 (j : Int)) rfl (by kernel_rfl) (by kernel_rfl) (by kernel_rfl) (fun _ _ _ h => h) (Or.inl ⟨by rfl, fun w' hw' => ?_⟩) hHeld ?_
          · first | (go_simp; done) | (go_simp; rfl)
          try simp only [Act.put, List.setIfInBounds_toArray, List.set_cons_zero, List.set_cons_succ]
          refine wpAnyH_take (i := 8) (oi := { dst := some 46, op := Go.Op.binOp Go.BinOp.mul 3 (Go.Operand.const (Go.Value.int Go.IntKind.i64 2)) (Go.Operand.tmp 45) 3, type := 3, pos := _, after := #[{ on := 7, ground := Go.Ground.data }], guard := none }) (v := .int .i64 (j2 : Int)) rfl (by kernel_rfl) (by kernel_rfl) (by kernel_rfl) (fun _ _ _ h => h) (Or.inl ⟨by rfl, fun w' hw' => ?_⟩) hHeld ?_
          · first | (go_simp; done) | (go_simp; rfl)
          try simp only [Act.put, List.setIfInBounds_toArray, List.set_cons_zero, List.set_cons_succ]
          refine wpAnyH_take (i := 9) (oi := { dst := some 47, op := Go.Op.binOp Go.BinOp.add 3 (Go.Operand.tmp 46) (Go.Operand.const (Go.Value.int Go.IntKind.i64 1)) 3, type := 3, pos := _, after := #[{ on := 8, ground := Go.Ground.data }], guard := none }) (v := .int .i64 (j3 : Int)) rfl (by kernel_rfl) (by kernel_rfl) (by kernel_rfl) (fun _ _ _ h => h) (Or.inl ⟨by rfl, fun w' hw' => ?_⟩) hHeld ?_
          · first | (go_simp; done) | (go_simp; rfl)
          try simp only [Act.put, List.setIfInBounds_toArray, List.set_cons_zero, List.set_cons_succ]
          refine wpAnyH_take (i := 10) (oi := { dst := some 48, op := Go.Op.indexAddr 89 (Go.Operand.tmp 9) (Go.Operand.tmp 47), type := 0, pos := _, after := #[{ on := 9, ground := Go.Ground.data }], guard := none }) (v := .pointer (some ⟨b9, j3 * 32, none⟩)) rfl (by kernel_rfl) (by kernel_rfl) (by kernel_rfl) (fun _ _ _ h => h) (Or.inl ⟨by rfl, fun w' hw' => ?_⟩) hHeld ?_
          · have h8I : ¬ (256 : Int) ≤ (j3 : Int) := (by have := HJB.out; omega); first | (go_simp; done) | (go_simp; rfl)
          try simp only [Act.put, List.setIfInBounds_toArray, List.set_cons_zero, List.set_cons_succ]
          refine wpAnyH_ready (rs := [6, 11]) (by kernel_rfl) (by simp) ?_
          refine AllReadyH.cons (o := { dst := some 44, op := Go.Op.load 23 (Go.Operand.tmp 43), type := 23, pos := _, after := #[{ on := 5, ground := Go.Ground.data }], guard := none }) rfl (fun K hK => ?_) (AllReadyH.cons (o := { dst := some 49, op := Go.Op.load 23 (Go.Operand.tmp 48), type := 23, pos := _, after := #[{ on := 10, ground := Go.Ground.data }], guard := none }) rfl (fun K hK => ?_) AllReadyH.nil)
          all_goals rw [if_pos (by rfl)]
          · skip
            refine wp_load_mid 23 (.tmp 43) rfl b9 (j2 * 32) rfl XL _ (by have r := MC.rangeAt_part (MC.rangeAt_row (HTD.out.at 0 rfl)) (j2 * 32) 32; rw [HP1.out, Nat.zero_add] at r; exact r) Tryz.underlying23 rfl (infoD XL HAN.out) ?_
            refine hK.out _ _ hHeld (fun _ => ?_)
            clear hK K
            try simp only [Act.put, List.setIfInBounds_toArray, List.set_cons_zero, List.set_cons_succ]
            refine wpAnyH_ready (rs := [11]) (by kernel_rfl) (by simp) ?_
            refine AllReadyH.cons (o := { dst := some 49, op := Go.Op.load 23 (Go.Operand.tmp 48), type := 23, pos := _, after := #[{ on := 10, ground := Go.Ground.data }], guard := none }) rfl (fun K hK => ?_) AllReadyH.nil
            rw [if_pos (by rfl)]
            refine wp_load_mid 23 (.tmp 48) rfl b9 (j3 * 32) rfl YL _ (by have r := MC.rangeAt_part (MC.rangeAt_row (HTD.out.at 0 rfl)) (j3 * 32) 32; rw [HP2.out, Nat.zero_add] at r; exact r) Tryz.underlying23 rfl (infoD YL HBN.out) ?_
            refine hK.out _ _ hHeld (fun _ => ?_)
            clear hK K
            try simp only [Act.put, List.setIfInBounds_toArray, List.set_cons_zero, List.set_cons_succ]
            refine wpAnyH_ready (rs := [12]) (by kernel_rfl) (by simp) ?_
            refine AllReadyH.cons (o := { dst := some 50, op := Go.Op.call { callee := Go.Callee.value (Go.Operand.func 46), args := #[Go.Operand.tmp 39, Go.Operand.tmp 40, Go.Operand.tmp 44, Go.Operand.tmp 49], argTypes := #[31, 3, 23, 23] }, type := 23, pos := _, after := #[{ on := 1, ground := Go.Ground.data }, { on := 2, ground := Go.Ground.data }, { on := 6, ground := Go.Ground.data }, { on := 11, ground := Go.Ground.data }], guard := none }) rfl (fun K hK => ?_) AllReadyH.nil
            rw [if_pos (by rfl)]
            go_wp2_with fail
            refine Calls.mono (HNO.out _ _ HTD.out) ?_
            rintro e V1 ⟨rfl, hT2⟩
            have HT2 : Hid _ := hT2
            clear hHeld HTD HNO
            have hHeld : ∃ L' rw1, TM w og mb rg i m D L' R mm gb rm bb n l1 l2 rw1 V1 := ⟨_, _, hT2⟩
            clear hT2
            refine hK.out _ _ hHeld (fun _ => ?_)
            clear hK K
            try simp only [Act.put, List.setIfInBounds_toArray, List.set_cons_zero, List.set_cons_succ]
            refine wpAnyH_take (i := 13) (oi := { dst := some 51, op := Go.Op.indexAddr 89 (Go.Operand.tmp 9) (Go.Operand.tmp 38), type := 0, pos := _, after := #[{ on := 0, ground := Go.Ground.data }, { on := 0, ground := Go.Ground.phase }, { on := 1, ground := Go.Ground.phase }, { on := 2, ground := Go.Ground.phase }, { on := 3, ground := Go.Ground.phase }, { on := 4, ground := Go.Ground.phase }, { on := 5, ground := Go.Ground.phase }, { on := 6, ground := Go.Ground.phase }, { on := 7, ground := Go.Ground.phase }, { on := 8, ground := Go.Ground.phase }, { on := 9, ground := Go.Ground.phase }, { on := 10, ground := Go.Ground.phase }, { on := 11, ground := Go.Ground.phase }, { on := 12, ground := Go.Ground.phase }], guard := none }) (v := .pointer (some ⟨b9, j * 32, none⟩)) rfl (by kernel_rfl) (by kernel_rfl) (by kernel_rfl) (fun _ _ _ h => h) (Or.inl ⟨by rfl, fun w' hw' => ?_⟩) hHeld ?_
            · have h8I : ¬ (256 : Int) ≤ (j : Int) := (by have := HJB.out; omega); first | (go_simp; done) | (go_simp; rfl)
            try simp only [Act.put, List.setIfInBounds_toArray, List.set_cons_zero, List.set_cons_succ]
            refine wpAnyH_ready (rs := [14]) (by kernel_rfl) (by simp) ?_
            refine AllReadyH.cons (o := { dst := none, op := Go.Op.store 23 (Go.Operand.tmp 51) (Go.Operand.tmp 50), type := 0, pos := _, after := #[{ on := 13, ground := Go.Ground.data }, { on := 12, ground := Go.Ground.data }, { on := 12, ground := Go.Ground.chain }, { on := 0, ground := Go.Ground.phase }, { on := 1, ground := Go.Ground.phase }, { on := 2, ground := Go.Ground.phase }, { on := 3, ground := Go.Ground.phase }, { on := 4, ground := Go.Ground.phase }, { on := 5, ground := Go.Ground.phase }, { on := 6, ground := Go.Ground.phase }, { on := 7, ground := Go.Ground.phase }, { on := 8, ground := Go.Ground.phase }, { on := 9, ground := Go.Ground.phase }, { on := 10, ground := Go.Ground.phase }, { on := 11, ground := Go.Ground.phase }, { on := 12, ground := Go.Ground.phase }], guard := none }) rfl (fun K hK => ?_) AllReadyH.nil
            rw [if_pos (by rfl)]
            refine MC.wp_store_seg 23 (.tmp 51) (.tmp 50) rfl b9 (j * 32) AL.toArray _ 89 rfl rfl (HT2.out.at 0 rfl) (infoDa AL HALN.out) (by have := HJB.out; rw [List.length_map, HTL.out, List.size_toArray, HALN.out]; omega) HA1.out ?_
            have HT3 : Hid _ := HT2.out.put' 0 rfl (splice (T1.map B8) (j * 32) AL)
            rw [HSP.out] at HT3
            rw [List.toList_toArray, HSP.out]
            clear hHeld
            have hHeld : ∃ L' rw1, TM w og mb rg i m D L' R mm gb rm bb n l1 l2 rw1 (V1.setRow b9 (T2.map B8).toArray) := ⟨_, _, HT3.out⟩
            refine hK.out _ _ hHeld (fun _ => ?_)
            clear hK K
            try simp only [Act.put, List.setIfInBounds_toArray, List.set_cons_zero, List.set_cons_succ]
            refine wpAnyH_done (by kernel_rfl) ?_ _
            clear hHeld HT2
            go_wp2
            go_roundw
            case rel => exact ⟨k + 1, by omega, by go_num, by rw [HE1.out, HE2.out]; exact HT3.out⟩
            case measure => simp [intOf]; omega
          · skip
            refine wp_load_mid 23 (.tmp 48) rfl b9 (j3 * 32) rfl YL _ (by have r := MC.rangeAt_part (MC.rangeAt_row (HTD.out.at 0 rfl)) (j3 * 32) 32; rw [HP2.out, Nat.zero_add] at r; exact r) Tryz.underlying23 rfl (infoD YL HBN.out) ?_
            refine hK.out _ _ hHeld (fun _ => ?_)
            clear hK K
            try simp only [Act.put, List.setIfInBounds_toArray, List.set_cons_zero, List.set_cons_succ]
            refine wpAnyH_ready (rs := [6]) (by kernel_rfl) (by simp) ?_
            refine AllReadyH.cons (o := { dst := some 44, op := Go.Op.load 23 (Go.Operand.tmp 43), type := 23, pos := _, after := #[{ on := 5, ground := Go.Ground.data }], guard := none }) rfl (fun K hK => ?_) AllReadyH.nil
            rw [if_pos (by rfl)]
            refine wp_load_mid 23 (.tmp 43) rfl b9 (j2 * 32) rfl XL _ (by have r := MC.rangeAt_part (MC.rangeAt_row (HTD.out.at 0 rfl)) (j2 * 32) 32; rw [HP1.out, Nat.zero_add] at r; exact r) Tryz.underlying23 rfl (infoD XL HAN.out) ?_
            refine hK.out _ _ hHeld (fun _ => ?_)
            clear hK K
            try simp only [Act.put, List.setIfInBounds_toArray, List.set_cons_zero, List.set_cons_succ]
            refine wpAnyH_ready (rs := [12]) (by kernel_rfl) (by simp) ?_
            refine AllReadyH.cons (o := { dst := some 50, op := Go.Op.call { callee := Go.Callee.value (Go.Operand.func 46), args := #[Go.Operand.tmp 39, Go.Operand.tmp 40, Go.Operand.tmp 44, Go.Operand.tmp 49], argTypes := #[31, 3, 23, 23] }, type := 23, pos := _, after := #[{ on := 1, ground := Go.Ground.data }, { on := 2, ground := Go.Ground.data }, { on := 6, ground := Go.Ground.data }, { on := 11, ground := Go.Ground.data }], guard := none }) rfl (fun K hK => ?_) AllReadyH.nil
            rw [if_pos (by rfl)]
            go_wp2_with fail
            refine Calls.mono (HNO.out _ _ HTD.out) ?_
            rintro e V1 ⟨rfl, hT2⟩
            have HT2 : Hid _ := hT2
            clear hHeld HTD HNO
            have hHeld : ∃ L' rw1, TM w og mb rg i m D L' R mm gb rm bb n l1 l2 rw1 V1 := ⟨_, _, hT2⟩
            clear hT2
            refine hK.out _ _ hHeld (fun _ => ?_)
            clear hK K
            try simp only [Act.put, List.setIfInBounds_toArray, List.set_cons_zero, List.set_cons_succ]
            refine wpAnyH_take (i := 13) (oi := { dst := some 51, op := Go.Op.indexAddr 89 (Go.Operand.tmp 9) (Go.Operand.tmp 38), type := 0, pos := _, after := #[{ on := 0, ground := Go.Ground.data }, { on := 0, ground := Go.Ground.phase }, { on := 1, ground := Go.Ground.phase }, { on := 2, ground := Go.Ground.phase }, { on := 3, ground := Go.Ground.phase }, { on := 4, ground := Go.Ground.phase }, { on := 5, ground := Go.Ground.phase }, { on := 6, ground := Go.Ground.phase }, { on := 7, ground := Go.Ground.phase }, { on := 8, ground := Go.Ground.phase }, { on := 9, ground := Go.Ground.phase }, { on := 10, ground := Go.Ground.phase }, { on := 11, ground := Go.Ground.phase }, { on := 12, ground := Go.Ground.phase }], guard := none }) (v := .pointer (some ⟨b9, j * 32, none⟩)) rfl (by kernel_rfl) (by kernel_rfl) (by kernel_rfl) (fun _ _ _ h => h) (Or.inl ⟨by rfl, fun w' hw' => ?_⟩) hHeld ?_
            · have h8I : ¬ (256 : Int) ≤ (j : Int) := (by have := HJB.out; omega); first | (go_simp; done) | (go_simp; rfl)
            try simp only [Act.put, List.setIfInBounds_toArray, List.set_cons_zero, List.set_cons_succ]
            refine wpAnyH_ready (rs := [14]) (by kernel_rfl) (by simp) ?_
            refine AllReadyH.cons (o := { dst := none, op := Go.Op.store 23 (Go.Operand.tmp 51) (Go.Operand.tmp 50), type := 0, pos := _, after := #[{ on := 13, ground := Go.Ground.data }, { on := 12, ground := Go.Ground.data }, { on := 12, ground := Go.Ground.chain }, { on := 0, ground := Go.Ground.phase }, { on := 1, ground := Go.Ground.phase }, { on := 2, ground := Go.Ground.phase }, { on := 3, ground := Go.Ground.phase }, { on := 4, ground := Go.Ground.phase }, { on := 5, ground := Go.Ground.phase }, { on := 6, ground := Go.Ground.phase }, { on := 7, ground := Go.Ground.phase }, { on := 8, ground := Go.Ground.phase }, { on := 9, ground := Go.Ground.phase }, { on := 10, ground := Go.Ground.phase }, { on := 11, ground := Go.Ground.phase }, { on := 12, ground := Go.Ground.phase }], guard := none }) rfl (fun K hK => ?_) AllReadyH.nil
            rw [if_pos (by rfl)]
            refine MC.wp_store_seg 23 (.tmp 51) (.tmp 50) rfl b9 (j * 32) AL.toArray _ 89 rfl rfl (HT2.out.at 0 rfl) (infoDa AL HALN.out) (by have := HJB.out; rw [List.length_map, HTL.out, List.size_toArray, HALN.out]; omega) HA1.out ?_
            have HT3 : Hid _ := HT2.out.put' 0 rfl (splice (T1.map B8) (j * 32) AL)
            rw [HSP.out] at HT3
            rw [List.toList_toArray, HSP.out]
            clear hHeld
            have hHeld : ∃ L' rw1, TM w og mb rg i m D L' R mm gb rm bb n l1 l2 rw1 (V1.setRow b9 (T2.map B8).toArray) := ⟨_, _, HT3.out⟩
            refine hK.out _ _ hHeld (fun _ => ?_)
            clear hK K
            try simp only [Act.put, List.setIfInBounds_toArray, List.set_cons_zero, List.set_cons_succ]
            refine wpAnyH_done (by kernel_rfl) ?_ _
            clear hHeld HT2
            go_wp2
            go_roundw
            case rel => exact ⟨k + 1, by omega, by go_num, by rw [HE1.out, HE2.out]; exact HT3.out⟩
            case measure => simp [intOf]; omega
        · have hk8 : k = 127 := by omega
          subst hk8
          have HT6 : Hid (TM w og mb rg i m D (LB 127) R mm gb rm bb n (MS 0) l2 (allR b9 (TB' 127) :: (b6, 23, ZL) :: rows) wr) := by rw [HM0.out] at hT; exact hT
          have HTL : Hid ((TB' 127).length = 8192) := HTBL.out 127 (by decide)
          have HGN : Hid (∀ q, q < 256 → (nodeB (TB' 127) 0 q).length = 32) := fun q hq => nodeB_0len _ _ HTL.out hq
          clear hT hlt hk HNN HM0 HTBL
          obtain ⟨T1, hT1⟩ : ∃ x, TB' 127 = x := ⟨_, rfl⟩
          obtain ⟨L2, hL2⟩ : ∃ x, LB 127 = x := ⟨_, rfl⟩
          have HE1 : Hid (LB 127 = L2) := hL2
          rw [hL2] at HT6
          rw [hT1] at HT6 HMS HRP HGN HTL
          clear hT1 hL2
          go_wp2
          go_loopw [55] (fun t wr => ∃ k : Nat, k ≤ 254 ∧ t = .int .i64 k ∧ TM w og mb rg i m D L2 R mm gb rm bb n (MS k) l2 (allR b9 T1 :: (b6, 23, ZL) :: rows) wr) (fun t _ => 254 - (intOf t).toNat)
          case atStart => exact ⟨0, by omega, rfl, HT6.out⟩
          case round =>
            obtain ⟨k, hk, rfl, hT⟩ := hrel
            clear HT6
            by_cases hlt : k < 254
            · have hkI : (k : Int) < 254 := by omega
              have hw1 : IntKind.i64.wrap (2 + (k : Int)) = ((2 + k : Nat) : Int) := by rw [IntKind.wrap_i64]; omega
              have r := MC.rangeAt_part (MC.rangeAt_row (hT.at 0 rfl)) ((2 + k) * 32) 32
              rw [nodeB_0, Nat.zero_add, show (2 + k) * 32 = 64 + k * 32 by omega] at r
              have hgn := HGN.out (2 + k) (by omega)
              have HLY : Hid (∀ rws W, TM w og mb rg i m D L2 R mm gb rm bb n (MS k) l2 rws W → Calls Tryz.prog 49 #[.pointer (some ⟨mm, 0, none⟩), .int .u64 (a : Int), .int .i64 ((2 + k : Nat) : Int), .agg ((nodeB T1 0 (2 + k)).map B8).toArray] W fun e Y => e = .returned (.tuple #[]) ∧ TM w og mb rg i m D L2 R mm gb rm bb n (MS (k + 1)) l2 rws Y) := fun rws W hW => by rw [HMS.out k]; exact hW.lay a (2 + k) _ HW.out (by omega) hgn
              have HDL : Hid (((nodeB T1 0 (2 + k)).map B8).length = 32) := by show _ = _; simpa using hgn
              have HD1 : Hid _ := R5.B8_onea (nodeB T1 0 (2 + k))
              have HRG : Hid (wr.rangeAt b9 (64 + k * 32) ((nodeB T1 0 (2 + k)).map B8)) := r
              have HTA : Hid _ := hT.alloc wr.heap.size rfl 23 ZL
              generalize (nodeB T1 0 (2 + k)).map B8 = DL at *
              generalize ((2 + k : Nat) : Int) = LI at *
              clear hT r hgn
              go_upto_region 19 with (first
                | (refine wpList_load_mid rfl 23 (.tmp 58) rfl b9 (64 + k * 32) rfl DL _ HRG.out Tryz.underlying23 rfl (infoD DL HDL.out) ?_)
                | (refine wpList_store_dL rfl (.tmp 14) (.tmp 59) rfl wr.heap.size DL ZL rfl rfl (HTA.out.at 0 rfl) HDL.out HZL.out HD1.out ?_; intro X7 e7; have HT7 : Hid _ := HTA.out.put' 0 rfl DL; rw [← e7] at HT7; clear e7))
              clear HTA HRG
              generalize wr.heap.size = b14 at *
              go_wp2_with (refine wpList_load_mid rfl 23 (.tmp 14) rfl b14 0 rfl DL _ (MC.rangeAt_row (HT7.out.at 0 rfl)) Tryz.underlying23 rfl (infoD DL HDL.out) ?_)
              refine Calls.mono (HLY.out _ _ HT7.out) ?_
              rintro e X8 ⟨rfl, hT8⟩
              have HT8 : Hid _ := hT8.drop
              clear hT8 HT7 HLY
              go_wp2
              go_roundw
              case rel => (repeat apply Exists.intro); exact ⟨⟨k + 1, by omega, by go_num, HT8.out⟩, rfl⟩
              case measure => simp [intOf]; omega
            · have hk8 : k = 254 := by omega
              subst hk8
              have HT : Hid _ := hT
              have r := MC.rangeAt_part (MC.rangeAt_row (hT.at 0 rfl)) (1 * 32) 32
              rw [HRP.out, Nat.zero_add] at r
              have HRG : Hid (wr.rangeAt b9 32 RO) := r
              clear hT r hlt hk HMS
              go_wp2_with (first
                | (refine wpList_load_mid rfl 23 (.tmp 67) rfl b9 32 rfl RO _ HRG.out Tryz.underlying23 rfl (infoD RO HRL.out) ?_)
                | (refine wpList_store_dL rfl (.tmp 6) (.tmp 68) rfl b6 RO ZL rfl rfl (HT.out.at 1 rfl) HRL.out HZL.out HR1.out ?_; intro X9 e9; subst e9))
              refine bodyPost_ret (v := .tuple #[.agg RO.toArray, .int .i64 0]) ?_ rfl ⟨rfl, by rw [HE1.out]; exact (HT.out.put' 1 rfl RO).drop.drop⟩
              exact R5.results_dig2 Tryz.results20 _ _ b6 23 _ (0, 0) _ rfl rfl (setRow_heap _ _ _ _ _ _ (HT.out.at 1 rfl)) (infoDa RO HRL.out)
end
end Go.Proofs.YtnijjoankahddaaGreat.DC

/- tree: the program's At where it may be; what is refused. -/
namespace Go.Proofs.YtnijjoankahddaaGreat.DC
open Go.RowKit

section
variable {w X Y : World} {og mb rg mm gb rm bb n : Nat} {i : Bool} {m : List UInt8} {D : List (List UInt8)} {L L' R R' : Lg} {rows rows' : Rws} {l1 l2 l' A : List UInt8}
theorem TM.play_no (h : TM w og mb rg i m D L R mm gb rm bb n l1 l2 rows X) (a : Nat) (ha : a < 18446744073709551616) (hw : witB n a = false) :
    Calls Tryz.prog 20 #[.pointer (some ⟨og, 0, none⟩), .pointer (some ⟨mm, 0, none⟩), .int .u64 (a : Int)] X fun e Y => e = .returned (R5.errV 2) ∧ TM w og mb rg i m D L R mm gb rm bb n l1 l2 rows Y :=
  (lay_no _ _ _ 2 X (by decide) (fun W hW => by have q := tf_any (h.there.step hW) a ha; rw [show tfC n a = 2 by unfold tfC; rw [hw]; rfl] at q; exact q)).mono fun e Y ⟨h1, h2⟩ => ⟨h1, h.step h2⟩
theorem TM.pat_no (h : TM w og mb rg i m D L R mm gb rm bb n l1 l2 rows X) (a : Nat) (ha : a < 18446744073709551616) (j : Int) (hw : j < 2 ∨ 255 < j ∨ witB n a = false) :
    Calls Tryz.prog 21 #[.pointer (some ⟨mm, 0, none⟩), .int .u64 (a : Int), .int .i64 j] X fun e Y => e = .returned (R5.errV 2) ∧ TM w og mb rg i m D L R mm gb rm bb n l1 l2 rows Y := by
  by_cases h1 : j < 2
  · exact (at_lo og mb mm n a j X h.there h1).mono fun e Y ⟨h1, h2⟩ => ⟨h1, h.step h2⟩
  · by_cases h2 : 255 < j
    · exact (at_hi og mb mm n a j X h.there h1 h2).mono fun e Y ⟨h1, h2⟩ => ⟨h1, h.step h2⟩
    · exact (at_wit og mb mm n a j X h.there ha h1 h2 (by rcases hw with hw | hw | hw; exact absurd hw h1; exact absurd hw h2; exact hw)).mono fun e Y ⟨h1, h2⟩ => ⟨h1, h.step h2⟩
set_option maxHeartbeats 2000000 in
set_option maxRecDepth 100000 in
theorem TM.pat (h : TM w og mb rg i m D L R mm gb rm bb n l1 l2 rows X) (a k : Nat) (hw : witB n a = true) (h2 : 2 ≤ k) (hk : k < 256) :
    Calls Tryz.prog 21 #[.pointer (some ⟨mm, 0, none⟩), .int .u64 (a : Int), .int .i64 (k : Int)] X fun e Y => e = .returned (R5.okV (nodeB l1 a k)) ∧ TM w og mb rg i m D L R mm gb rm bb n l1 l2 rows Y := by
  have hz := fun W => R5.zero_dig W
  obtain ⟨ZL, hZL⟩ : ∃ L, L = (List.replicate 32 (0 : UInt8)).map B8 := ⟨_, rfl⟩
  rw [← hZL] at hz
  have HZL : Hid (ZL.length = 32) := by show _ = _; rw [hZL]; simp
  have ha := witness_lt' h.le hw
  have HNO : Hid (∀ rws W, TM w og mb rg i m D L R mm gb rm bb n l1 l2 rws W → Calls Tryz.prog 50 #[.pointer (some ⟨mm, 0, none⟩)] W fun e w' => e = .returned (.bool false) ∧ w' = W) := fun rws W hW => hW.there.nom
  have HWI : Hid (∀ rws W, TM w og mb rg i m D L R mm gb rm bb n l1 l2 rws W → Calls Tryz.prog 23 #[.pointer (some ⟨mm, 0, none⟩), .int .u64 (a : Int)] W fun e w' => e = .returned (.bool true) ∧ w' = W) := fun rws W hW => by have q := hW.there.wit a ha; rw [hw] at q; exact q
  have HLI : Hid (∀ rws W, TM w og mb rg i m D L R mm gb rm bb n l1 l2 rws W → Calls Tryz.prog 51 #[.pointer (some ⟨mm, 0, none⟩), .int .u64 (a : Int), .int .i64 (k : Int)] W fun e Y => e = .returned (.agg ((nodeB l1 a k).map B8).toArray) ∧ TM w og mb rg i m D L R mm gb rm bb n l1 l2 rws Y) := fun rws W hW => hW.lies a k hw hk
  have hok : R5.okV (nodeB l1 a k) = .tuple #[.agg ((nodeB l1 a k).map B8).toArray, .int .i64 0] := rfl
  rw [hok]
  have HAL : Hid (((nodeB l1 a k).map B8).length = 32) := by show _ = _; rw [List.length_map]; exact nodeB_len h.len1 hw hk
  have HA1 : Hid _ := R5.B8_onea (nodeB l1 a k)
  generalize (nodeB l1 a k).map B8 = AL at *
  have hk1 : ¬ (k : Int) < 2 := by omega
  have hk2 : ¬ (255 : Int) < (k : Int) := by omega
  have HT0 : Hid _ := h.alloc X.heap.size rfl 23 ZL
  clear hZL ha hok h hw h2 hk
  go_enter Tryz.func21, Tryz.ntmps21
  go_upto_region 1 with fail
  generalize hb6 : X.heap.size = b6 at *
  clear hb6
  generalize World.alloc _ _ = X0 at *
  go_wp2_with fail
  refine Calls.mono (HNO.out _ _ HT0.out) ?_
  rintro e X1 ⟨rfl, hy⟩
  rw [hy]
  clear hy X1 HNO
  go_wp2_with fail
  refine Calls.mono (HWI.out _ _ HT0.out) ?_
  rintro e X1 ⟨rfl, hy⟩
  rw [hy]
  clear hy X1 HWI
  go_wp2_with fail
  refine Calls.mono (HLI.out _ _ HT0.out) ?_
  rintro e X2 ⟨rfl, hT2⟩
  have HT2 : Hid _ := hT2
  clear hT2 HT0 HLI
  go_wp2_with (refine wpList_store_dL rfl (.tmp 6) (.tmp 27) rfl b6 AL ZL rfl rfl (HT2.out.at 0 rfl) HAL.out HZL.out HA1.out ?_; intro X9 e9; subst e9)
  refine bodyPost_ret (v := .tuple #[.agg AL.toArray, .int .i64 0]) ?_ rfl ⟨rfl, (HT2.out.put' 0 rfl AL).drop⟩
  exact R5.results_dig2 Tryz.results21 _ _ b6 23 _ (0, 0) _ rfl rfl (setRow_heap _ _ _ _ _ _ (HT2.out.at 0 rfl)) (infoDa AL HAL.out)
theorem TM.pwit (h : TM w og mb rg i m D L R mm gb rm bb n l1 l2 rows X) (a : Nat) (ha : a < 18446744073709551616) : Calls Tryz.prog 23 #[.pointer (some ⟨mm, 0, none⟩), .int .u64 (a : Int)] X fun e w' => e = .returned (.bool (witB n a)) ∧ w' = X := h.there.wit a ha
end
end Go.Proofs.YtnijjoankahddaaGreat.DC

/- tree: the document's Lay over both sides. -/
namespace Go.Proofs.YtnijjoankahddaaGreat.DC
open Go.RowKit

section
variable {w X Y : World} {og mb rg mm gb rm bb n : Nat} {i : Bool} {m : List UInt8} {D : List (List UInt8)} {L L' R R' : Lg} {rows rows' : Rws} {l1 l2 l' A : List UInt8}
set_option maxHeartbeats 4000000 in
set_option maxRecDepth 100000 in
theorem TM.rplay (h : TM w og mb rg i m D L R mm gb rm bb n l1 l2 rows X) (a : Nat) (hA : gL D R) (hw : witB n a = true) (hll : R.length < 900000) :
    Calls Tryz.prog 25 #[.pointer (some ⟨rg, 0, none⟩), .pointer (some ⟨rm, 0, none⟩), .int .u64 (a : Int)] X fun e Y => e = .returned (.agg ((rootA i D l2 a R).map B8).toArray) ∧ TM w og mb rg i m D L (nodeM i D l2 a R 127).2 mm gb rm bb n l1 (nodeM i D l2 a R 126).1 rows Y := by
  have hz := fun W => R5.zero_dig W
  obtain ⟨ZL, hZL⟩ : ∃ L, L = (List.replicate 32 (0 : UInt8)).map B8 := ⟨_, rfl⟩
  rw [← hZL] at hz
  have HZL : Hid (ZL.length = 32) := by show _ = _; rw [hZL]; simp
  have HZ1 : Hid (ZL.toArray.all (·.oneCell') = true) := by show _ = _; rw [hZL]; exact R5.B8_onea _
  have HBD : Hid (∀ W : World, (Instr.build 23 #[]).run Tryz.prog W = .ok (.agg ZL.toArray) W) := fun W => by rw [hZL]; exact R5.build_dig W
  have hwd := of_decide_eq_true hw
  have hl3 : a + 8192 ≤ l2.length := by rw [h.len2]; omega
  obtain ⟨TA, hTA⟩ : ∃ f : Nat → List UInt8, f = fun k => (leafM i D l2 a R k).1 := ⟨_, rfl⟩
  obtain ⟨LA, hLA⟩ : ∃ f : Nat → Lg, f = fun k => (leafM i D l2 a R k).2 := ⟨_, rfl⟩
  obtain ⟨TB', hTB⟩ : ∃ f : Nat → List UInt8, f = fun k => (nodeM i D l2 a R (min k 126)).1 := ⟨_, rfl⟩
  obtain ⟨LB, hLB⟩ : ∃ f : Nat → Lg, f = fun k => (nodeM i D l2 a R k).2 := ⟨_, rfl⟩
  obtain ⟨RC, hRC⟩ : ∃ f : Nat → List Value, f = fun k => if k = 127 then (rootA i D l2 a R).map B8 else ZL := ⟨_, rfl⟩
  have HTA0 : Hid (l2 = TA 0 ∧ R = LA 0) := by rw [hTA, hLA]; exact ⟨rfl, rfl⟩
  have hm0 : min 0 126 = 0 := by decide
  have hm7 : min 127 126 = 126 := by decide
  have HTB0 : Hid (TA 128 = TB' 0 ∧ LA 128 = LB 0) := by rw [hTA, hLA, hTB, hLB]; exact ⟨by show _ = (nodeM i D l2 a R (min 0 126)).1; rw [hm0]; rfl, rfl⟩
  have HTBL : Hid (∀ k, k ≤ 127 → (TB' k).length = l2.length) := by rw [hTB]; exact fun k hk => nodeM_len hA hl3 (min k 126) (by omega)
  have HNS : Hid (∀ k : Nat, k < 128 → ∃ AD : List UInt8, AD.length = 32 ∧ (∀ rws W, TM w og mb rg i m D L (LA k) mm gb rm bb n l1 (TA k) rws W → Calls Tryz.prog 13 #[.pointer (some ⟨rg, 0, none⟩), .int .i64 (k : Int)] W fun e Y => e = .returned (.agg (AD.map B8).toArray) ∧ TM w og mb rg i m D L (LA (k + 1)) mm gb rm bb n l1 (TA k) rws Y) ∧ (∀ rws W, TM w og mb rg i m D L (LA (k + 1)) mm gb rm bb n l1 (TA k) rws W → Calls Tryz.prog 54 #[.pointer (some ⟨rm, 0, none⟩), .int .u64 (a : Int), .int .i64 ((128 + k : Nat) : Int), .agg (AD.map B8).toArray] W fun e Y => e = .returned (.tuple #[]) ∧ TM w og mb rg i m D L (LA (k + 1)) mm gb rm bb n l1 (TA (k + 1)) rws Y)) := by
    intro k hk
    have h32 : (nx2 i D (LA k) (qNone k)).1.length = 32 := by rw [hLA]; exact (leafM_good hA k).len _
    refine ⟨(nx2 i D (LA k) (qNone k)).1, h32, fun rws W hW => ?_, fun rws W hW => ?_⟩
    · have q := hW.rnone (by rw [hLA]; show (leafM i D l2 a R k).2.length < 1000000; have := leafM_log (i := i) (D := D) (l := l2) (a := a) (L := R) k; omega) k hk
      have e : (nx2 i D (LA k) (qNone k)).2 = LA (k + 1) := by rw [hLA]; rfl
      rw [e] at q
      exact q
    · have q := hW.rlay a (128 + k) (nx2 i D (LA k) (qNone k)).1 hw (by omega) h32
      have e : splice (TA k) (a + 32 * (128 + k)) (nx2 i D (LA k) (qNone k)).1 = TA (k + 1) := by rw [hTA, hLA]; rfl
      rw [e] at q
      exact q
  have HNN : Hid (∀ k : Nat, k < 127 → ∃ AD : List UInt8, AD.length = 32 ∧ (∀ rws W, TM w og mb rg i m D L (LB k) mm gb rm bb n l1 (TB' k) rws W → Calls Tryz.prog 19 #[.pointer (some ⟨rg, 0, none⟩), .int .i64 ((127 - k : Nat) : Int), .agg ((nodeB (TB' k) a (2 * (127 - k))).map B8).toArray, .agg ((nodeB (TB' k) a (2 * (127 - k) + 1)).map B8).toArray] W fun e Y => e = .returned (.agg (AD.map B8).toArray) ∧ TM w og mb rg i m D L (LB (k + 1)) mm gb rm bb n l1 (TB' k) rws Y) ∧ (k < 126 → (∀ rws W, TM w og mb rg i m D L (LB (k + 1)) mm gb rm bb n l1 (TB' k) rws W → Calls Tryz.prog 54 #[.pointer (some ⟨rm, 0, none⟩), .int .u64 (a : Int), .int .i64 ((127 - k : Nat) : Int), .agg (AD.map B8).toArray] W fun e Y => e = .returned (.tuple #[]) ∧ TM w og mb rg i m D L (LB (k + 1)) mm gb rm bb n l1 (TB' (k + 1)) rws Y) ∧ RC k = ZL ∧ RC (k + 1) = ZL) ∧ (k = 126 → RC k = ZL ∧ RC (k + 1) = AD.map B8 ∧ TB' (k + 1) = TB' k)) := by
    intro k hk
    have hm : min k 126 = k := by omega
    have h32 : (nx2 i D (LB k) (qNode (127 - k) (nodeB (TB' k) a (2 * (127 - k))) (nodeB (TB' k) a (2 * (127 - k) + 1)))).1.length = 32 := by rw [hLB]; exact (nodeM_good hA k).len _
    refine ⟨(nx2 i D (LB k) (qNode (127 - k) (nodeB (TB' k) a (2 * (127 - k))) (nodeB (TB' k) a (2 * (127 - k) + 1)))).1, h32, fun rws W hW => ?_, fun hk6 => ⟨fun rws W hW => ?_, ?_, ?_⟩, fun hk6 => ?_⟩
    · have q := hW.rnode (by rw [hLB]; show (nodeM i D l2 a R k).2.length < 1000000; have := nodeM_log (i := i) (D := D) (l := l2) (a := a) (L := R) k; omega) (127 - k) (nodeB (TB' k) a (2 * (127 - k))) (nodeB (TB' k) a (2 * (127 - k) + 1)) (by omega) (nodeB_len hW.len2 hw (by omega)) (nodeB_len hW.len2 hw (by omega))
      have e : (nx2 i D (LB k) (qNode (127 - k) (nodeB (TB' k) a (2 * (127 - k))) (nodeB (TB' k) a (2 * (127 - k) + 1)))).2 = LB (k + 1) := by rw [hLB, hTB]; show (nx2 i D _ (qNode _ (nodeB (nodeM i D l2 a R (min k 126)).1 a _) (nodeB (nodeM i D l2 a R (min k 126)).1 a _))).2 = _; rw [hm]; rfl
      rw [e] at q
      exact q
    · have q := hW.rlay a (127 - k) _ hw (by omega) h32
      have e : splice (TB' k) (a + 32 * (127 - k)) (nx2 i D (LB k) (qNode (127 - k) (nodeB (TB' k) a (2 * (127 - k))) (nodeB (TB' k) a (2 * (127 - k) + 1)))).1 = TB' (k + 1) := by
        rw [hTB, hLB]
        show splice (nodeM i D l2 a R (min k 126)).1 _ (nx2 i D _ (qNode _ (nodeB (nodeM i D l2 a R (min k 126)).1 a _) (nodeB (nodeM i D l2 a R (min k 126)).1 a _))).1 = (nodeM i D l2 a R (min (k + 1) 126)).1
        rw [hm, show min (k + 1) 126 = k + 1 by omega]; rfl
      rw [e] at q
      exact q
    · rw [hRC]; exact if_neg (by omega)
    · rw [hRC]; exact if_neg (by omega)
    · subst hk6
      refine ⟨by rw [hRC]; exact if_neg (by decide), ?_, by rw [hTB]; show (nodeM i D l2 a R (min 127 126)).1 = (nodeM i D l2 a R (min 126 126)).1; rw [hm7, hm]⟩
      rw [hRC, hTB, hLB]
      show (if 127 = 127 then (rootA i D l2 a R).map B8 else ZL) = ((nx2 i D (nodeM i D l2 a R 126).2 (qNode 1 (nodeB (nodeM i D l2 a R (min 126 126)).1 a 2) (nodeB (nodeM i D l2 a R (min 126 126)).1 a 3))).1).map B8
      rw [if_pos rfl, hm]; unfold rootA; rfl
  have HAT : Hid (∀ k j : Nat, k ≤ 127 → j < 256 → ∀ rws W, TM w og mb rg i m D L (LB k) mm gb rm bb n l1 (TB' k) rws W → Calls Tryz.prog 28 #[.pointer (some ⟨rm, 0, none⟩), .int .u64 (a : Int), .int .i64 (j : Int)] W fun e Y => e = .returned (.agg ((nodeB (TB' k) a j).map B8).toArray) ∧ TM w og mb rg i m D L (LB k) mm gb rm bb n l1 (TB' k) rws Y) := fun k j hk hj rws W hW => hW.rat a j hw hj
  have hRC0 : RC 0 = ZL := by rw [hRC]; exact if_neg (by decide)
  have hRC7 : (rootA i D l2 a R).map B8 = RC 127 := by rw [hRC]; exact (if_pos rfl).symm
  have HRL : Hid ((RC 127).length = 32) := by show _ = _; rw [← hRC7, List.length_map]; unfold rootA; exact (nodeM_good hA 126).len _
  have HR1 : Hid ((RC 127).toArray.all (·.oneCell') = true) := by show _ = _; rw [← hRC7]; exact R5.B8_onea _
  have hT7 : (nodeM i D l2 a R 126).1 = TB' 127 := by rw [hTB]; show _ = (nodeM i D l2 a R (min 127 126)).1; rw [hm7]
  have hL7 : (nodeM i D l2 a R 127).2 = LB 127 := by rw [hLB]
  rw [hRC7, hT7, hL7]
  have HRC0 : Hid (RC 0 = ZL) := hRC0
  have HT0 : Hid _ := h.alloc X.heap.size rfl 23 ZL
  clear hm0 hm7 hZL hwd hl3 hTA hLA hTB hLB hRC hT7 hL7 hRC0 hRC7 hA hll h hw
  go_enter Tryz.func25, Tryz.ntmps25
  go_upto_region 1 with fail
  generalize hb6 : X.heap.size = b6 at *
  clear hb6
  generalize World.alloc _ _ = X0 at *
  have HT1 : Hid (TM w og mb rg i m D L (LA 0) mm gb rm bb n l1 (TA 0) ((b6, 23, ZL) :: rows) X0) := by rw [← HTA0.out.1, ← HTA0.out.2]; exact HT0.out
  clear HT0 HTA0
  go_wp2
  go_loopw [7] (fun t wr => ∃ k : Nat, k ≤ 128 ∧ t = .int .i64 k ∧ TM w og mb rg i m D L (LA k) mm gb rm bb n l1 (TA k) ((b6, 23, ZL) :: rows) wr) (fun t _ => 128 - (intOf t).toNat)
  case atStart => exact ⟨0, by omega, rfl, HT1.out⟩
  case round =>
    obtain ⟨k, hk, rfl, hT⟩ := hrel
    clear HT1
    by_cases hlt : k < 128
    · have hkI : (k : Int) < 128 := by omega
      obtain ⟨AD, hAD, hc1, hc2⟩ := HNS.out k hlt
      have HC1 : Hid _ := hc1 _ _ hT
      have HC2 : Hid _ := hc2
      have hw1 : IntKind.i64.wrap (128 + (k : Int)) = ((128 + k : Nat) : Int) := by rw [IntKind.wrap_i64]; omega
      generalize AD.map B8 = AL at *
      generalize ((128 + k : Nat) : Int) = LI at *
      clear hT hc1 hc2 hAD
      go_wp2_with fail
      refine Calls.mono HC1.out ?_
      rintro e X3 ⟨rfl, hT3⟩
      go_wp2_with fail
      refine Calls.mono (HC2.out _ _ hT3) ?_
      rintro e X4 ⟨rfl, hT4⟩
      have HT4 : Hid _ := hT4
      clear hT3 hT4 HC1 HC2
      go_wp2
      go_roundw
      case rel => exact ⟨k + 1, by omega, by go_num, HT4.out⟩
      case measure => simp [intOf]; omega
    · have hk8 : k = 128 := by omega
      subst hk8
      have HT5 : Hid (TM w og mb rg i m D L (LB 0) mm gb rm bb n l1 (TB' 0) ((b6, 23, ZL) :: rows) wr) := by rw [HTB0.out.1, HTB0.out.2] at hT; exact hT
      clear hT hlt hk HNS HTB0
      have HTA : Hid _ := HT5.out.alloc wr.heap.size rfl 23 ZL
      go_upto_region 6 with (first
        | (refine R5.wpList_build rfl 23 #[] rfl #[] (.agg ZL.toArray) (by simp) (HBD.out _) ?_)
        | (refine wpList_store_dL rfl (.tmp 8) (.tmp 23) rfl wr.heap.size ZL ZL rfl rfl (HTA.out.at 0 rfl) HZL.out HZL.out HZ1.out ?_; intro X5 e5; have HT6 : Hid _ := HTA.out.put' 0 rfl ZL; rw [← e5] at HT6; clear e5))
      have HT6' : Hid (TM w og mb rg i m D L (LB 0) mm gb rm bb n l1 (TB' 0) ((wr.heap.size, 23, RC 0) :: (b6, 23, ZL) :: rows) X5) := by rw [HRC0.out]; exact HT6.out
      clear HTA HT5 HT6 HRC0
      generalize wr.heap.size = b8 at *
      go_wp2
      go_loopw [9] (fun t wr => ∃ k : Nat, k ≤ 127 ∧ t = .int .i64 ((127 - k : Nat) : Int) ∧ TM w og mb rg i m D L (LB k) mm gb rm bb n l1 (TB' k) ((b8, 23, RC k) :: (b6, 23, ZL) :: rows) wr) (fun t _ => (intOf t).toNat)
      case atStart => exact ⟨0, by omega, rfl, HT6'.out⟩
      case round =>
        obtain ⟨k, hk, rfl, hT⟩ := hrel
        clear HT6'
        by_cases hlt : k < 127
        · obtain ⟨AD, hAD, hc, hput, hlast⟩ := HNN.out k hlt
          have ha1 := HAT.out k (2 * (127 - k)) hk (by omega) _ _ hT
          have ha2 := HAT.out k (2 * (127 - k) + 1) hk (by omega)
          obtain ⟨j, hj⟩ : ∃ j, 127 - k = j := ⟨_, rfl⟩
          have hc' : ∀ rws W, TM w og mb rg i m D L (LB k) mm gb rm bb n l1 (TB' k) rws W → Calls Tryz.prog 19 #[.pointer (some ⟨rg, 0, none⟩), .int .i64 (j : Int), .agg ((nodeB (TB' k) a (2 * j)).map B8).toArray, .agg ((nodeB (TB' k) a (2 * j + 1)).map B8).toArray] W fun e Y => e = .returned (.agg (AD.map B8).toArray) ∧ TM w og mb rg i m D L (LB (k + 1)) mm gb rm bb n l1 (TB' k) rws Y := by rw [← hj]; exact hc
          have hput' : k < 126 → (∀ rws W, TM w og mb rg i m D L (LB (k + 1)) mm gb rm bb n l1 (TB' k) rws W → Calls Tryz.prog 54 #[.pointer (some ⟨rm, 0, none⟩), .int .u64 (a : Int), .int .i64 (j : Int), .agg (AD.map B8).toArray] W fun e Y => e = .returned (.tuple #[]) ∧ TM w og mb rg i m D L (LB (k + 1)) mm gb rm bb n l1 (TB' (k + 1)) rws Y) ∧ RC k = ZL ∧ RC (k + 1) = ZL := by rw [← hj]; exact hput
          rw [hj] at ha1 ha2 ⊢
          have hj1 : (1 : Int) ≤ (j : Int) := by omega
          have hw2 : IntKind.i64.wrap (2 * (j : Int)) = ((2 * j : Nat) : Int) := by rw [IntKind.wrap_i64]; omega
          have hw3 : IntKind.i64.wrap (((2 * j : Nat) : Int) + 1) = ((2 * j + 1 : Nat) : Int) := by rw [IntKind.wrap_i64]; omega
          have hw4 : IntKind.i64.wrap ((j : Int) - 1) = ((j - 1 : Nat) : Int) := by rw [IntKind.wrap_i64]; omega
          have HJ1 : Hid (j - 1 = 127 - (k + 1)) := by show _ = _; omega
          have HJM : Hid (j - 1 < j) := by show _ < _; omega
          obtain ⟨jm, hjm⟩ : ∃ x, j - 1 = x := ⟨_, rfl⟩
          rw [hjm] at hw4 HJ1 HJM
          have HALN : Hid ((AD.map B8).length = 32) := by show _ = _; simpa using hAD
          have HA1 : Hid _ := R5.B8_onea AD
          have HC1 : Hid _ := ha1
          have HC2 : Hid _ := ha2
          have HC3 : Hid _ := hc'
          generalize ((2 * j + 1 : Nat) : Int) = z3 at *
          generalize ((2 * j : Nat) : Int) = z2 at *
          by_cases h6 : k = 126
          · obtain ⟨r1, r2, r3⟩ := hlast h6
            have hje : ((j : Int) == 1) = true := by rw [beq_iff_eq]; omega
            have HR2 : Hid (RC (k + 1) = AD.map B8 ∧ TB' (k + 1) = TB' k) := ⟨r2, r3⟩
            have HRK : Hid (RC k = ZL) := r1
            obtain ⟨AL, hAL⟩ : ∃ x, AD.map B8 = x := ⟨_, rfl⟩
            rw [hAL] at HC3 HALN HA1 HR2
            generalize (nodeB (TB' k) a (2 * j)).map B8 = XL at *
            generalize (nodeB (TB' k) a (2 * j + 1)).map B8 = YL at *
            clear hT hc hc' hput hput' hlast hAD ha1 ha2 hj r1 r2 r3 h6 hjm hAL
            go_wp2_with fail
            refine Calls.mono HC1.out ?_
            rintro e X6 ⟨rfl, hT6⟩
            go_wp2_with fail
            refine Calls.mono (HC2.out _ _ hT6) ?_
            rintro e X7 ⟨rfl, hT7⟩
            clear hT6 HC1 HC2
            go_wp2_with fail
            refine Calls.mono (HC3.out _ _ hT7) ?_
            rintro e X8 ⟨rfl, hT8⟩
            have HTA : Hid _ := hT8.alloc X8.heap.size rfl 23 ZL
            clear hT7 hT8 HC3
            go_upto_region 10 with (refine wpList_store_dL rfl (.tmp 10) (.tmp 41) rfl X8.heap.size AL ZL rfl rfl (HTA.out.at 0 rfl) HALN.out HZL.out HA1.out ?_; intro X9 e9; have HT9 : Hid _ := HTA.out.put' 0 rfl AL; rw [← e9] at HT9; clear e9)
            clear HTA
            generalize X8.heap.size = b10 at *
            go_wp2_with (first
              | (refine wpList_load_mid rfl 23 (.tmp 10) rfl b10 0 rfl AL _ (MC.rangeAt_row (HT9.out.at 0 rfl)) Tryz.underlying23 rfl (infoD AL HALN.out) ?_)
              | (refine wpList_store_dL rfl (.tmp 8) (.tmp 44) rfl b8 AL (RC k) rfl rfl (HT9.out.at 1 rfl) HALN.out (by rw [HRK.out]; exact HZL.out) HA1.out ?_; intro XA eA; have HTB : Hid _ := HT9.out.put' 1 rfl AL; rw [← eA] at HTB; clear eA))
            go_roundw
            case rel => exact ⟨k + 1, by omega, by rw [HJ1.out], by rw [HR2.out.1, HR2.out.2]; exact HTB.out.drop⟩
            case measure => have := HJM.out; simp [intOf]; omega
          · obtain ⟨r0, r1, r2⟩ := hput' (by omega)
            have hje : ((j : Int) == 1) = false := by rw [beq_eq_false_iff_ne]; omega
            have HC4 : Hid _ := r0
            have HR2 : Hid (RC k = ZL ∧ RC (k + 1) = ZL) := ⟨r1, r2⟩
            obtain ⟨AL, hAL⟩ : ∃ x, AD.map B8 = x := ⟨_, rfl⟩
            rw [hAL] at HC3 HALN HA1 HC4
            generalize (nodeB (TB' k) a (2 * j)).map B8 = XL at *
            generalize (nodeB (TB' k) a (2 * j + 1)).map B8 = YL at *
            clear hT hc hc' hput hput' hlast hAD ha1 ha2 hj r0 r1 r2 h6 hjm hAL
            go_wp2_with fail
            refine Calls.mono HC1.out ?_
            rintro e X6 ⟨rfl, hT6⟩
            go_wp2_with fail
            refine Calls.mono (HC2.out _ _ hT6) ?_
            rintro e X7 ⟨rfl, hT7⟩
            clear hT6 HC1 HC2
            go_wp2_with fail
            refine Calls.mono (HC3.out _ _ hT7) ?_
            rintro e X8 ⟨rfl, hT8⟩
            have HTA : Hid _ := hT8.alloc X8.heap.size rfl 23 ZL
            clear hT7 hT8 HC3
            go_upto_region 10 with (refine wpList_store_dL rfl (.tmp 10) (.tmp 41) rfl X8.heap.size AL ZL rfl rfl (HTA.out.at 0 rfl) HALN.out HZL.out HA1.out ?_; intro X9 e9; have HT9 : Hid _ := HTA.out.put' 0 rfl AL; rw [← e9] at HT9; clear e9)
            clear HTA
            generalize X8.heap.size = b10 at *
            go_wp2_with (refine wpList_load_mid rfl 23 (.tmp 10) rfl b10 0 rfl AL _ (MC.rangeAt_row (HT9.out.at 0 rfl)) Tryz.underlying23 rfl (infoD AL HALN.out) ?_)
            refine Calls.mono (HC4.out _ _ HT9.out) ?_
            rintro e XA ⟨rfl, hTA⟩
            have HTB : Hid _ := hTA.drop
            clear hTA HT9 HC4
            go_wp2
            go_roundw
            case rel => exact ⟨k + 1, by omega, by rw [HJ1.out], by rw [HR2.out.2]; have q := HTB.out; rw [HR2.out.1] at q; exact q⟩
            case measure => have := HJM.out; simp [intOf]; omega
        · have hk8 : k = 127 := by omega
          subst hk8
          have HT : Hid _ := hT
          have HRX : Hid ((RC 127) = RC 127) := rfl
          obtain ⟨RO, hRO⟩ : ∃ x, RC 127 = x := ⟨_, rfl⟩
          have HRO : Hid (RC 127 = RO) := hRO
          have HTF : Hid (TM w og mb rg i m D L (LB 127) mm gb rm bb n l1 (TB' 127) ((b8, 23, RO) :: (b6, 23, ZL) :: rows) wr) := by rw [← hRO]; exact hT
          rw [hRO] at HRL HR1
          clear hT hlt hk HNN HAT hRO HT
          go_wp2_with (first
            | (refine wpList_load_mid rfl 23 (.tmp 8) rfl b8 0 rfl RO _ (MC.rangeAt_row (HTF.out.at 0 rfl)) Tryz.underlying23 rfl (infoD RO HRL.out) ?_)
            | (refine wpList_store_dL rfl (.tmp 6) (.tmp 50) rfl b6 RO ZL rfl rfl (HTF.out.at 1 rfl) HRL.out HZL.out HR1.out ?_; intro X9 e9; subst e9))
          refine bodyPost_ret (v := .agg RO.toArray) ?_ rfl ⟨by rw [HRO.out], (HTF.out.put' 1 rfl RO).drop.drop⟩
          exact results_cell_row Tryz.results25 _ _ b6 23 _ (0, 0) _ rfl (setRow_heap _ _ _ _ _ _ (HTF.out.at 1 rfl)) Tryz.underlying23 rfl (infoDa RO HRL.out)
end
end Go.Proofs.YtnijjoankahddaaGreat.DC
