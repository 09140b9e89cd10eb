/- tree: the program's Lay over both sides. -/
import Derived.Test.YtnijjoankahddaaFD
set_option linter.unusedVariables false
set_option linter.unusedSimpArgs false
namespace Go.Proofs.Ytnijjoankahddaa.DC
open Go.RowKit

theorem witness_lt' {n a : Nat} (hn : n ≤ 4096) (hw : witB n a = true) : a < 18446744073709551616 := by
  have := of_decide_eq_true hw
  omega
theorem info8k : (Try.prog.info? 71).map (·.size) = some 8192 := by kernel_rfl
set_option maxRecDepth 100000 in
theorem zero_all (W : World) : (zeroValue 71).run Try.prog W = .ok (.agg ((List.replicate 8192 (0 : UInt8)).map B8).toArray) W := by kernel_rfl
theorem size_dg (w : World) : (sizeOf 23).run Try.prog w = .ok 32 w := by kernel_rfl
theorem slice_all (W : World) (b o k : Nat) (h : k < 256) : (Instr.sliceAt 71 (.pointer (some ⟨b, o, none⟩)) (some (.int .i64 (k : Int))) none none).run Try.prog W = .ok (.slice (some ⟨b, o + k * 32, none⟩) (256 - k) (256 - k)) W := by
  have ha : Try.prog.arrayLen 71 = 256 := by kernel_rfl
  have hu : Try.prog.underlying 71 = some (.array (Try.prog.arrayLen 71) (Try.prog.elem 71)) := by kernel_rfl
  have he : Try.prog.elem 71 = 23 := by kernel_rfl
  rw [run_sliceAt_array_l W 71 _ hu .i64 _ (by omega) (by rw [ha]; omega), he, size_dg, ha]
  simp only [Result.andThen, slicedAt]
  rw [if_neg (by omega), add_none]
  simp
theorem slice_all2 (W : World) (b : Nat) : (Instr.sliceAt 71 (.pointer (some ⟨b, 0, none⟩)) (some (.int .i64 2)) none none).run Try.prog W = .ok (.slice (some ⟨b, 64, none⟩) 254 254) W := slice_all W b 0 2 (by decide)
/-- All nodes, as a row. -/
abbrev allR (b : Nat) (t : List UInt8) : Nat × TypeId × List Value := (b, 71, t.map B8)
theorem nodeB_0 (t : List UInt8) (j : Nat) : ((t.map B8).drop (j * 32)).take 32 = (nodeB t 0 j).map B8 := by
  unfold nodeB MC.rdB
  rw [List.map_take, List.map_drop, show 0 + 32 * j = j * 32 by omega]
theorem nodeB_0len (t : List UInt8) (j : Nat) (ht : t.length = 8192) (hj : j < 256) : (nodeB t 0 j).length = 32 := by
  unfold nodeB MC.rdB; rw [List.length_take, List.length_drop]; omega
theorem splice_0 (t d : List UInt8) (j : Nat) : splice (t.map B8) (j * 32) (d.map B8) = (splice t (0 + 32 * j) d).map B8 := by
  rw [MC.splice_map, show 0 + 32 * j = j * 32 by omega]
section
variable {w X Y : World} {og mb rg mm gb rm bb n : Nat} {i : Bool} {m : List UInt8} {D : List (List UInt8)} {L L' R R' : Lg} {rows rows' : Rws} {l1 l2 l' A : List UInt8}
set_option maxHeartbeats 4000000 in
set_option maxRecDepth 100000 in
theorem TM.play (h : TM w og mb rg i m D L R mm gb rm bb n l1 l2 rows X) (a : Nat) (hA : gL D L) (hw : witB n a = true) (hll : L.length < 900000) :
    Calls Try.prog 11 #[.pointer (some ⟨og, 0, none⟩), .pointer (some ⟨mm, 0, none⟩), .int .u64 (a : Int)] X fun e Y => ∃ z : List UInt8, z.length = 8192 ∧ e = .returned (R5.okV (nodeB (nodeM i D z 0 L 127).1 0 1)) ∧ TM w og mb rg i m D (nodeM i D z 0 L 127).2 R mm gb rm bb n (layN l1 a (nodeM i D z 0 L 127).1 254) l2 rows Y := by
  have hz := fun W => R5.zero_dig W
  obtain ⟨ZL, hZL⟩ : ∃ L, L = (List.replicate 32 (0 : UInt8)).map B8 := ⟨_, rfl⟩
  rw [← hZL] at hz
  have HZL : Hid (ZL.length = 32) := by show _ = _; rw [hZL]; simp
  have hz2 := fun W => zero_all W
  obtain ⟨z, hzz⟩ : ∃ z, z = List.replicate 8192 (0 : UInt8) := ⟨_, rfl⟩
  rw [← hzz] at hz2
  have hzl : z.length = 8192 := by rw [hzz]; simp
  have hz3 : 0 + 8192 ≤ z.length := by omega
  have ha : a < 18446744073709551616 := witness_lt' h.le hw
  have HTF : Hid (∀ rws W, TM w og mb rg i m D L R mm gb rm bb n l1 l2 rws W → Calls Try.prog 29 #[.pointer (some ⟨og, 0, none⟩), .pointer (some ⟨mm, 0, none⟩), .int .u64 (a : Int)] W fun e w' => e = .returned (.int .i64 0) ∧ Below W.heap.size W w') := fun rws W hW => by
    have q := tf_any hW.there a ha
    rw [show tfC n a = 0 by unfold tfC; rw [hw]; rfl] at q
    exact q
  have HLF : Hid (∀ k : Nat, k < 128 → ∀ W, Calls Try.prog 31 #[.int .i64 (k : Int)] W fun e w' => e = .returned (.int .i64 ((128 + k : Nat) : Int)) ∧ w' = W) := fun k hk W => leafOf_any k hk W
  obtain ⟨TA, hTA⟩ : ∃ f : Nat → List UInt8, f = fun k => (leafM i D z 0 L k).1 := ⟨_, rfl⟩
  obtain ⟨LA, hLA⟩ : ∃ f : Nat → Lg, f = fun k => (leafM i D z 0 L k).2 := ⟨_, rfl⟩
  obtain ⟨TB', hTB⟩ : ∃ f : Nat → List UInt8, f = fun k => (nodeM i D z 0 L k).1 := ⟨_, rfl⟩
  obtain ⟨LB, hLB⟩ : ∃ f : Nat → Lg, f = fun k => (nodeM i D z 0 L k).2 := ⟨_, rfl⟩
  have HTA0 : Hid (z = TA 0 ∧ L = LA 0) := by rw [hTA, hLA]; exact ⟨rfl, rfl⟩
  have HTB0 : Hid (TA 128 = TB' 0 ∧ LA 128 = LB 0) := by rw [hTA, hLA, hTB, hLB]; exact ⟨rfl, rfl⟩
  have HTAL : Hid (∀ k, k ≤ 128 → (TA k).length = 8192) := by rw [hTA]; exact fun k hk => (leafM_len hA hz3 k hk).trans hzl
  have HTBL : Hid (∀ k, k ≤ 127 → (TB' k).length = 8192) := by rw [hTB]; exact fun k hk => (nodeM_len hA hz3 k hk).trans hzl
  have HNS : Hid (∀ k, k < 128 → ∃ AD : List UInt8, AD.length = 32 ∧ TA (k + 1) = splice (TA k) (0 + 32 * (128 + k)) AD ∧ ∀ rws W, TM w og mb rg i m D (LA k) R mm gb rm bb n l1 l2 rws W → Calls Try.prog 30 #[.pointer (some ⟨og, 0, none⟩), .int .i64 (k : Int)] W fun e Y => e = .returned (.agg (AD.map B8).toArray) ∧ TM w og mb rg i m D (LA (k + 1)) R mm gb rm bb n l1 l2 rws Y) := by
    intro k hk
    refine ⟨(nx2 i D (LA k) (qNone k)).1, by rw [hLA]; exact (leafM_good hA k).len _, by rw [hTA, hLA]; rfl, fun rws W hW => ?_⟩
    have q := hW.pnoneOf (by rw [hLA]; show (leafM i D z 0 L k).2.length < 1000000; have := leafM_log (i := i) (D := D) (l := z) (a := 0) (L := L) k; omega) k hk
    have e : (nx2 i D (LA k) (qNone k)).2 = LA (k + 1) := by rw [hLA]; rfl
    rw [e] at q
    exact q
  have HNN : Hid (∀ k, k < 127 → ∃ AD : List UInt8, AD.length = 32 ∧ TB' (k + 1) = splice (TB' k) (0 + 32 * (127 - k)) AD ∧ ∀ rws W, TM w og mb rg i m D (LB k) R mm gb rm bb n l1 l2 rws W → Calls Try.prog 32 #[.pointer (some ⟨og, 0, none⟩), .int .i64 ((127 - k : Nat) : Int), .agg ((nodeB (TB' k) 0 (2 * (127 - k))).map B8).toArray, .agg ((nodeB (TB' k) 0 (2 * (127 - k) + 1)).map B8).toArray] W fun e Y => e = .returned (.agg (AD.map B8).toArray) ∧ TM w og mb rg i m D (LB (k + 1)) R mm gb rm bb n l1 l2 rws Y) := by
    intro k hk
    refine ⟨(nx2 i D (LB k) (qNode (127 - k) (nodeB (TB' k) 0 (2 * (127 - k))) (nodeB (TB' k) 0 (2 * (127 - k) + 1)))).1, by rw [hLB]; exact (nodeM_good hA k).len _, by rw [hTB, hLB]; rfl, fun rws W hW => ?_⟩
    have q := hW.pnodeOf (by rw [hLB]; show (nodeM i D z 0 L k).2.length < 1000000; have := nodeM_log (i := i) (D := D) (l := z) (a := 0) (L := L) k; omega) (127 - k) (nodeB (TB' k) 0 (2 * (127 - k))) (nodeB (TB' k) 0 (2 * (127 - k) + 1)) (by omega) (nodeB_0len _ _ (HTBL.out k (by omega)) (by omega)) (nodeB_0len _ _ (HTBL.out k (by omega)) (by omega))
    have e : (nx2 i D (LB k) (qNode (127 - k) (nodeB (TB' k) 0 (2 * (127 - k))) (nodeB (TB' k) 0 (2 * (127 - k) + 1)))).2 = LB (k + 1) := by rw [hLB, hTB]; rfl
    rw [e] at q
    exact q
  obtain ⟨MS, hMS⟩ : ∃ f : Nat → List UInt8, f = layN l1 a (TB' 127) := ⟨_, rfl⟩
  have HM0 : Hid (l1 = MS 0) := by show _ = _; rw [hMS]; rfl
  have HMS : Hid (∀ k, MS (k + 1) = splice (MS k) (a + 32 * (2 + k)) (nodeB (TB' 127) 0 (2 + k))) := by rw [hMS]; exact fun k => rfl
  have HW : Hid (witB n a = true) := hw
  have hT7 : (nodeM i D z 0 L 127).1 = TB' 127 := by rw [hTB]
  have hL7 : (nodeM i D z 0 L 127).2 = LB 127 := by rw [hLB]
  have hM7 : layN l1 a (TB' 127) 254 = MS 254 := by rw [hMS]
  suffices hs : Calls Try.prog 11 #[.pointer (some ⟨og, 0, none⟩), .pointer (some ⟨mm, 0, none⟩), .int .u64 (a : Int)] X fun e Y => e = .returned (R5.okV (nodeB (TB' 127) 0 1)) ∧ TM w og mb rg i m D (LB 127) R mm gb rm bb n (MS 254) l2 rows Y from hs.mono fun e Y ⟨h1, h2⟩ => ⟨z, hzl, by rw [hT7]; exact h1, by rw [hT7, hL7, hM7]; exact h2⟩
  have hok : R5.okV (nodeB (TB' 127) 0 1) = .tuple #[.agg ((nodeB (TB' 127) 0 1).map B8).toArray, .int .i64 0] := rfl
  rw [hok]
  have HRL : Hid (((nodeB (TB' 127) 0 1).map B8).length = 32) := by show _ = _; rw [List.length_map]; exact nodeB_0len _ _ (HTBL.out 127 (by decide)) (by decide)
  have HR1 : Hid _ := R5.B8_onea (nodeB (TB' 127) 0 1)
  have HRP : Hid _ := nodeB_0 (TB' 127) 1
  obtain ⟨RO, hRO⟩ : ∃ L, (nodeB (TB' 127) 0 1).map B8 = L := ⟨_, rfl⟩
  rw [hRO] at HRL HR1 HRP ⊢
  have HT0 : Hid _ := h.alloc X.heap.size rfl 23 ZL
  have hsl := fun W b => slice_all2 W b
  clear hZL hzz hzl hz3 ha hTA hLA hTB hLB hMS hT7 hL7 hM7 hok hRO hA hll h hw
  go_enter Try.func11, Try.ntmps11
  go_upto_region 1 with fail
  generalize hb6 : X.heap.size = b6 at *
  clear hb6
  generalize World.alloc _ _ = X0 at *
  go_wp2_with fail
  refine Calls.mono (HTF.out _ _ HT0.out) ?_
  rintro e X1 ⟨rfl, hb⟩
  have HT1 : Hid _ := HT0.out.step hb
  clear hb HT0 HTF
  go_upto_region 5 with fail
  have HT2 : Hid (TM w og mb rg i m D (LA 0) R mm gb rm bb n l1 l2 (allR X1.heap.size (TA 0) :: (b6, 23, ZL) :: rows) (X1.alloc (.cells (z.map B8).toArray 71 (0, 0)))) := by
    have q := HT1.out.alloc X1.heap.size rfl 71 (z.map B8)
    rw [HTA0.out.2] at q
    unfold allR
    rw [← HTA0.out.1]; exact q
  generalize hb9 : X1.heap.size = b9 at *
  clear hb9 HT1 HTA0
  generalize World.alloc _ _ = X2 at *
  go_wp2
  go_loopw [23] (fun t wr => ∃ k : Nat, k ≤ 128 ∧ t = .int .i64 k ∧ TM w og mb rg i m D (LA k) R mm gb rm bb n l1 l2 (allR b9 (TA k) :: (b6, 23, ZL) :: rows) wr) (fun t _ => 128 - (intOf t).toNat)
  case atStart => exact ⟨0, by omega, rfl, HT2.out⟩
  case round =>
    obtain ⟨k, hk, rfl, hT⟩ := hrel
    clear HT2
    by_cases hlt : k < 128
    · have hkI : (k : Int) < 128 := by omega
      obtain ⟨AD, hAD, hta, hc⟩ := HNS.out k hlt
      have HC : Hid _ := hc _ _ hT
      have HLK : Hid _ := HLF.out k hlt
      have hlf1 : ((128 + k : Nat) : Int) < 256 := by omega
      have hlf0 : (0 : Int) ≤ ((128 + k : Nat) : Int) := by omega
      have HALN : Hid ((AD.map B8).length = 32) := by show _ = _; simpa using hAD
      have HA1 : Hid _ := R5.B8_onea AD
      have HSP : Hid (splice ((TA k).map B8) ((128 + k) * 32) (AD.map B8) = (TA (k + 1)).map B8) := by show _ = _; rw [splice_0, ← hta]
      have HTL : Hid ((TA k).length = 8192) := HTAL.out k hk
      generalize AD.map B8 = AL at *
      clear hT hc hta hAD
      go_wp2_with fail
      refine Calls.mono (HLK.out wr) ?_
      rintro e Y0 ⟨rfl, hy⟩
      rw [hy]
      clear hy Y0
      go_wp2_with fail
      refine Calls.mono HC.out ?_
      rintro e X3 ⟨rfl, hT3⟩
      have HT3 : Hid _ := hT3
      clear hT3 HC
      go_wp2_with (refine wpList_store_segL rfl 23 (.tmp 31) (.tmp 30) rfl b9 ((128 + k) * 32) AL.toArray ((TA k).map B8) 71 rfl rfl (HT3.out.at 0 rfl) (infoDa AL HALN.out) (by rw [List.length_map, HTL.out, List.size_toArray, HALN.out]; omega) HA1.out ?_
                   intro X4 e4
                   have HT4 : Hid _ := HT3.out.put' 0 rfl (splice ((TA k).map B8) ((128 + k) * 32) AL)
                   rw [List.toList_toArray] at e4
                   rw [← e4, HSP.out] at HT4
                   clear e4)
      go_roundw
      case rel => exact ⟨k + 1, by omega, by go_num, HT4.out⟩
      case measure => simp [intOf]; omega
    · have hk8 : k = 128 := by omega
      subst hk8
      have HT5 : Hid (TM w og mb rg i m D (LB 0) R mm gb rm bb n l1 l2 (allR b9 (TB' 0) :: (b6, 23, ZL) :: rows) wr) := by rw [HTB0.out.1, HTB0.out.2] at hT; exact hT
      clear hT hlt hk HNS HTAL HLF HTB0
      go_wp2
      go_loopw [33] (fun t wr => ∃ k : Nat, k ≤ 127 ∧ t = .int .i64 k ∧ TM w og mb rg i m D (LB k) R mm gb rm bb n l1 l2 (allR b9 (TB' k) :: (b6, 23, ZL) :: rows) wr) (fun t _ => 127 - (intOf t).toNat)
      case atStart => exact ⟨0, by omega, rfl, HT5.out⟩
      case round =>
        obtain ⟨k, hk, rfl, hT⟩ := hrel
        clear HT5
        by_cases hlt : k < 127
        · have hkI : (k : Int) < 127 := by omega
          obtain ⟨AD, hAD, hta, hc⟩ := HNN.out k hlt
          have HTL : Hid ((TB' k).length = 8192) := HTBL.out k hk
          have hn1 := nodeB_0len (TB' k) (2 * (127 - k)) HTL.out (by omega)
          have hn2 := nodeB_0len (TB' k) (2 * (127 - k) + 1) HTL.out (by omega)
          have HP1 : Hid _ := nodeB_0 (TB' k) (2 * (127 - k))
          have HP2 : Hid _ := nodeB_0 (TB' k) (2 * (127 - k) + 1)
          obtain ⟨j, hj⟩ : ∃ j, 127 - k = j := ⟨_, rfl⟩
          rw [hj] at hta hn1 hn2 HP1 HP2
          have hc' : ∀ rws W, TM w og mb rg i m D (LB k) R mm gb rm bb n l1 l2 rws W → Calls Try.prog 32 #[.pointer (some ⟨og, 0, none⟩), .int .i64 (j : Int), .agg ((nodeB (TB' k) 0 (2 * j)).map B8).toArray, .agg ((nodeB (TB' k) 0 (2 * j + 1)).map B8).toArray] W fun e Y => e = .returned (.agg (AD.map B8).toArray) ∧ TM w og mb rg i m D (LB (k + 1)) R mm gb rm bb n l1 l2 rws Y := by rw [← hj]; exact hc
          have hw1 : IntKind.i64.wrap (127 - (k : Int)) = (j : Int) := by rw [IntKind.wrap_i64]; omega
          have hw2 : IntKind.i64.wrap (2 * (j : Int)) = ((2 * j : Nat) : Int) := by rw [IntKind.wrap_i64]; omega
          have hw3 : IntKind.i64.wrap (((2 * j : Nat) : Int) + 1) = ((2 * j + 1 : Nat) : Int) := by rw [IntKind.wrap_i64]; omega
          obtain ⟨j2, hj2⟩ : ∃ x, 2 * j = x := ⟨_, rfl⟩
          obtain ⟨j3, hj3⟩ : ∃ x, 2 * j + 1 = x := ⟨_, rfl⟩
          have HJB : Hid (j < 256 ∧ j2 < 256 ∧ j3 < 256) := by show _ ∧ _; omega
          rw [hj3] at hw3 hn2 HP2 hc'
          rw [hj2] at hw2 hw3 hn1 HP1 hc'
          have HNO : Hid _ := hc'
          have HAN : Hid (((nodeB (TB' k) 0 j2).map B8).length = 32) := by show _ = _; simpa using hn1
          have HBN : Hid (((nodeB (TB' k) 0 j3).map B8).length = 32) := by show _ = _; simpa using hn2
          have HALN : Hid ((AD.map B8).length = 32) := by show _ = _; simpa using hAD
          have HA1 : Hid _ := R5.B8_onea AD
          have HSP : Hid (splice ((TB' k).map B8) (j * 32) (AD.map B8) = (TB' (k + 1)).map B8) := by show _ = _; rw [splice_0, ← hta]
          have HT : Hid _ := hT
          obtain ⟨T1, hT1⟩ : ∃ x, TB' k = x := ⟨_, rfl⟩
          obtain ⟨T2, hT2⟩ : ∃ x, TB' (k + 1) = x := ⟨_, rfl⟩
          obtain ⟨L2, hL2⟩ : ∃ x, LB (k + 1) = x := ⟨_, rfl⟩
          have HE1 : Hid (LB (k + 1) = L2) := hL2
          have HE2 : Hid (TB' (k + 1) = T2) := hT2
          rw [hL2] at HNO
          rw [hT1] at HNO HAN HBN HSP HP1 HP2 HTL
          rw [hT2] at HSP
          have HTE : Hid (TM w og mb rg i m D (LB k) R mm gb rm bb n l1 l2 (allR b9 T1 :: (b6, 23, ZL) :: rows) wr) := by rw [hT1] at hT; exact hT
          generalize AD.map B8 = AL at *
          generalize (nodeB T1 0 j2).map B8 = XL at *
          generalize (nodeB T1 0 j3).map B8 = YL at *
          clear hT hc hc' hta hAD hn1 hn2 HT hT1 hT2 hL2 hj hj2 hj3 hk
          go_upto_region 14 with fail
          have HTD : Hid _ := HTE.out.step (Below.refl _ _).drew
          refine wp_region_held_drew (S := fun W => ∃ L' rw1, TM w og mb rg i m D L' R mm gb rm bb n l1 l2 rw1 W) (by kernel_rfl) ⟨_, _, HTD.out⟩ (fun hHeld => ?_)
          clear HTE
          generalize World.drew _ = V0 at *
          refine wpAnyH_take (i := 0) (oi := { dst := some 38, op := Go.Op.move (Go.Operand.tmp 12), type := 3, pos := _, after := #[], guard := none }) (v := .int .i64 (j : Int)) rfl (by kernel_rfl) (by kernel_rfl) (by kernel_rfl) (fun _ _ _ h => h) (Or.inl ⟨by rfl, fun w' hw' => ?_⟩) hHeld ?_
          · first | (go_simp; done) | (go_simp; rfl)
          try simp only [Act.put, List.setIfInBounds_toArray, List.set_cons_zero, List.set_cons_succ]
          refine wpAnyH_take (i := 1) (oi := { dst := some 39, op := Go.Op.move (Go.Operand.tmp 0), type := 34, pos := _, after := #[], guard := none }) (v := .pointer (some ⟨og, 0, none⟩)) rfl (by kernel_rfl) (by kernel_rfl) (by kernel_rfl) (fun _ _ _ h => h) (Or.inl ⟨by rfl, fun w' hw' => ?_⟩) hHeld ?_
          · first | (go_simp; done) | (go_simp; rfl)
          try simp only [Act.put, List.setIfInBounds_toArray, List.set_cons_zero, List.set_cons_succ]
          refine wpAnyH_take (i := 2) (oi := { dst := some 40, op := Go.Op.move (Go.Operand.tmp 12), type := 3, pos := _, after := #[], guard := none }) (v := .int .i64 (j : Int)) rfl (by kernel_rfl) (by kernel_rfl) (by kernel_rfl) (fun _ _ _ h => h) (Or.inl ⟨by rfl, fun w' hw' => ?_⟩) hHeld ?_
          · first | (go_simp; done) | (go_simp; rfl)
          try simp only [Act.put, List.setIfInBounds_toArray, List.set_cons_zero, List.set_cons_succ]
          refine wpAnyH_take (i := 3) (oi := { dst := some 41, op := Go.Op.move (Go.Operand.tmp 12), type := 3, pos := _, after := #[], guard := none }) (v := .int .i64 (j : Int)) rfl (by kernel_rfl) (by kernel_rfl) (by kernel_rfl) (fun _ _ _ h => h) (Or.inl ⟨by rfl, fun w' hw' => ?_⟩) hHeld ?_
          · first | (go_simp; done) | (go_simp; rfl)
          try simp only [Act.put, List.setIfInBounds_toArray, List.set_cons_zero, List.set_cons_succ]
          refine wpAnyH_take (i := 4) (oi := { dst := some 42, op := Go.Op.binOp Go.BinOp.mul 3 (Go.Operand.const (Go.Value.int Go.IntKind.i64 2)) (Go.Operand.tmp 41) 3, type := 3, pos := _, after := #[{ on := 3, ground := Go.Ground.data }], guard := none }) (v := .int .i64 (j2 : Int)) rfl (by kernel_rfl) (by kernel_rfl) (by kernel_rfl) (fun _ _ _ h => h) (Or.inl ⟨by rfl, fun w' hw' => ?_⟩) hHeld ?_
          · first | (go_simp; done) | (go_simp; rfl)
          try simp only [Act.put, List.setIfInBounds_toArray, List.set_cons_zero, List.set_cons_succ]
          refine wpAnyH_take (i := 5) (oi := { dst := some 43, op := Go.Op.indexAddr 71 (Go.Operand.tmp 9) (Go.Operand.tmp 42), type := 0, pos := _, after := #[{ on := 4, ground := Go.Ground.data }], guard := none }) (v := .pointer (some ⟨b9, j2 * 32, none⟩)) rfl (by kernel_rfl) (by kernel_rfl) (by kernel_rfl) (fun _ _ _ h => h) (Or.inl ⟨by rfl, fun w' hw' => ?_⟩) hHeld ?_
          · have h8I : ¬ (256 : Int) ≤ (j2 : Int) := (by have := HJB.out; omega); first | (go_simp; done) | (go_simp; rfl)
          try simp only [Act.put, List.setIfInBounds_toArray, List.set_cons_zero, List.set_cons_succ]
          refine wpAnyH_take (i := 7) (oi := { dst := some 45, op := Go.Op.move (Go.Operand.tmp 12), type := 3, pos := _, after := #[], guard := none }) (v := .int .i64 (j : Int)) rfl (by kernel_rfl) (by kernel_rfl) (by kernel_rfl) (fun _ _ _ h => h) (Or.inl ⟨by rfl, fun w' hw' => ?_⟩) hHeld ?_
          · first | (go_simp; done) | (go_simp; rfl)
          try simp only [Act.put, List.setIfInBounds_toArray, List.set_cons_zero, List.set_cons_succ]
          refine wpAnyH_take (i := 8) (oi := { dst := some 46, op := Go.Op.binOp Go.BinOp.mul 3 (Go.Operand.const (Go.Value.int Go.IntKind.i64 2)) (Go.Operand.tmp 45) 3, type := 3, pos := _, after := #[{ on := 7, ground := Go.Ground.data }], guard := none }) (v := .int .i64 (j2 : Int)) rfl (by kernel_rfl) (by kernel_rfl) (by kernel_rfl) (fun _ _ _ h => h) (Or.inl ⟨by rfl, fun w' hw' => ?_⟩) hHeld ?_
          · first | (go_simp; done) | (go_simp; rfl)
          try simp only [Act.put, List.setIfInBounds_toArray, List.set_cons_zero, List.set_cons_succ]
          refine wpAnyH_take (i := 9) (oi := { dst := some 47, op := Go.Op.binOp Go.BinOp.add 3 (Go.Operand.tmp 46) (Go.Operand.const (Go.Value.int Go.IntKind.i64 1)) 3, type := 3, pos := _, after := #[{ on := 8, ground := Go.Ground.data }], guard := none }) (v := .int .i64 (j3 : Int)) rfl (by kernel_rfl) (by kernel_rfl) (by kernel_rfl) (fun _ _ _ h => h) (Or.inl ⟨by rfl, fun w' hw' => ?_⟩) hHeld ?_
          · first | (go_simp; done) | (go_simp; rfl)
          try simp only [Act.put, List.setIfInBounds_toArray, List.set_cons_zero, List.set_cons_succ]
          refine wpAnyH_take (i := 10) (oi := { dst := some 48, op := Go.Op.indexAddr 71 (Go.Operand.tmp 9) (Go.Operand.tmp 47), type := 0, pos := _, after := #[{ on := 9, ground := Go.Ground.data }], guard := none }) (v := .pointer (some ⟨b9, j3 * 32, none⟩)) rfl (by kernel_rfl) (by kernel_rfl) (by kernel_rfl) (fun _ _ _ h => h) (Or.inl ⟨by rfl, fun w' hw' => ?_⟩) hHeld ?_
          · have h8I : ¬ (256 : Int) ≤ (j3 : Int) := (by have := HJB.out; omega); first | (go_simp; done) | (go_simp; rfl)
          try simp only [Act.put, List.setIfInBounds_toArray, List.set_cons_zero, List.set_cons_succ]
          refine wpAnyH_ready (rs := [6, 11]) (by kernel_rfl) (by simp) ?_
          refine AllReadyH.cons (o := { dst := some 44, op := Go.Op.load 23 (Go.Operand.tmp 43), type := 23, pos := _, after := #[{ on := 5, ground := Go.Ground.data }], guard := none }) rfl (fun K hK => ?_) (AllReadyH.cons (o := { dst := some 49, op := Go.Op.load 23 (Go.Operand.tmp 48), type := 23, pos := _, after := #[{ on := 10, ground := Go.Ground.data }], guard := none }) rfl (fun K hK => ?_) AllReadyH.nil)
          all_goals rw [if_pos (by rfl)]
          · skip
            refine wp_load_mid 23 (.tmp 43) rfl b9 (j2 * 32) rfl XL _ (by have r := MC.rangeAt_part (MC.rangeAt_row (HTD.out.at 0 rfl)) (j2 * 32) 32; rw [HP1.out, Nat.zero_add] at r; exact r) Try.underlying23 rfl (infoD XL HAN.out) ?_
            refine hK.out _ _ hHeld (fun _ => ?_)
            clear hK K
            try simp only [Act.put, List.setIfInBounds_toArray, List.set_cons_zero, List.set_cons_succ]
            refine wpAnyH_ready (rs := [11]) (by kernel_rfl) (by simp) ?_
            refine AllReadyH.cons (o := { dst := some 49, op := Go.Op.load 23 (Go.Operand.tmp 48), type := 23, pos := _, after := #[{ on := 10, ground := Go.Ground.data }], guard := none }) rfl (fun K hK => ?_) AllReadyH.nil
            rw [if_pos (by rfl)]
            refine wp_load_mid 23 (.tmp 48) rfl b9 (j3 * 32) rfl YL _ (by have r := MC.rangeAt_part (MC.rangeAt_row (HTD.out.at 0 rfl)) (j3 * 32) 32; rw [HP2.out, Nat.zero_add] at r; exact r) Try.underlying23 rfl (infoD YL HBN.out) ?_
            refine hK.out _ _ hHeld (fun _ => ?_)
            clear hK K
            try simp only [Act.put, List.setIfInBounds_toArray, List.set_cons_zero, List.set_cons_succ]
            refine wpAnyH_ready (rs := [12]) (by kernel_rfl) (by simp) ?_
            refine AllReadyH.cons (o := { dst := some 50, op := Go.Op.call { callee := Go.Callee.value (Go.Operand.func 32), args := #[Go.Operand.tmp 39, Go.Operand.tmp 40, Go.Operand.tmp 44, Go.Operand.tmp 49], argTypes := #[34, 3, 23, 23] }, type := 23, pos := _, after := #[{ on := 1, ground := Go.Ground.data }, { on := 2, ground := Go.Ground.data }, { on := 6, ground := Go.Ground.data }, { on := 11, ground := Go.Ground.data }], guard := none }) rfl (fun K hK => ?_) AllReadyH.nil
            rw [if_pos (by rfl)]
            go_wp2_with fail
            refine Calls.mono (HNO.out _ _ HTD.out) ?_
            rintro e V1 ⟨rfl, hT2⟩
            have HT2 : Hid _ := hT2
            clear hHeld HTD HNO
            have hHeld : ∃ L' rw1, TM w og mb rg i m D L' R mm gb rm bb n l1 l2 rw1 V1 := ⟨_, _, hT2⟩
            clear hT2
            refine hK.out _ _ hHeld (fun _ => ?_)
            clear hK K
            try simp only [Act.put, List.setIfInBounds_toArray, List.set_cons_zero, List.set_cons_succ]
            refine wpAnyH_take (i := 13) (oi := { dst := some 51, op := Go.Op.indexAddr 71 (Go.Operand.tmp 9) (Go.Operand.tmp 38), type := 0, pos := _, after := #[{ on := 0, ground := Go.Ground.data }, { on := 0, ground := Go.Ground.phase }, { on := 1, ground := Go.Ground.phase }, { on := 2, ground := Go.Ground.phase }, { on := 3, ground := Go.Ground.phase }, { on := 4, ground := Go.Ground.phase }, { on := 5, ground := Go.Ground.phase }, { on := 6, ground := Go.Ground.phase }, { on := 7, ground := Go.Ground.phase }, { on := 8, ground := Go.Ground.phase }, { on := 9, ground := Go.Ground.phase }, { on := 10, ground := Go.Ground.phase }, { on := 11, ground := Go.Ground.phase }, { on := 12, ground := Go.Ground.phase }], guard := none }) (v := .pointer (some ⟨b9, j * 32, none⟩)) rfl (by kernel_rfl) (by kernel_rfl) (by kernel_rfl) (fun _ _ _ h => h) (Or.inl ⟨by rfl, fun w' hw' => ?_⟩) hHeld ?_
            · have h8I : ¬ (256 : Int) ≤ (j : Int) := (by have := HJB.out; omega); first | (go_simp; done) | (go_simp; rfl)
            try simp only [Act.put, List.setIfInBounds_toArray, List.set_cons_zero, List.set_cons_succ]
            refine wpAnyH_ready (rs := [14]) (by kernel_rfl) (by simp) ?_
            refine AllReadyH.cons (o := { dst := none, op := Go.Op.store 23 (Go.Operand.tmp 51) (Go.Operand.tmp 50), type := 0, pos := _, after := #[{ on := 13, ground := Go.Ground.data }, { on := 12, ground := Go.Ground.data }, { on := 12, ground := Go.Ground.chain }, { on := 0, ground := Go.Ground.phase }, { on := 1, ground := Go.Ground.phase }, { on := 2, ground := Go.Ground.phase }, { on := 3, ground := Go.Ground.phase }, { on := 4, ground := Go.Ground.phase }, { on := 5, ground := Go.Ground.phase }, { on := 6, ground := Go.Ground.phase }, { on := 7, ground := Go.Ground.phase }, { on := 8, ground := Go.Ground.phase }, { on := 9, ground := Go.Ground.phase }, { on := 10, ground := Go.Ground.phase }, { on := 11, ground := Go.Ground.phase }, { on := 12, ground := Go.Ground.phase }], guard := none }) rfl (fun K hK => ?_) AllReadyH.nil
            rw [if_pos (by rfl)]
            refine MC.wp_store_seg 23 (.tmp 51) (.tmp 50) rfl b9 (j * 32) AL.toArray _ 71 rfl rfl (HT2.out.at 0 rfl) (infoDa AL HALN.out) (by have := HJB.out; rw [List.length_map, HTL.out, List.size_toArray, HALN.out]; omega) HA1.out ?_
            have HT3 : Hid _ := HT2.out.put' 0 rfl (splice (T1.map B8) (j * 32) AL)
            rw [HSP.out] at HT3
            rw [List.toList_toArray, HSP.out]
            clear hHeld
            have hHeld : ∃ L' rw1, TM w og mb rg i m D L' R mm gb rm bb n l1 l2 rw1 (V1.setRow b9 (T2.map B8).toArray) := ⟨_, _, HT3.out⟩
            refine hK.out _ _ hHeld (fun _ => ?_)
            clear hK K
            try simp only [Act.put, List.setIfInBounds_toArray, List.set_cons_zero, List.set_cons_succ]
            refine wpAnyH_done (by kernel_rfl) ?_ _
            clear hHeld HT2
            go_wp2
            go_roundw
            case rel => exact ⟨k + 1, by omega, by go_num, by rw [HE1.out, HE2.out]; exact HT3.out⟩
            case measure => simp [intOf]; omega
          · skip
            refine wp_load_mid 23 (.tmp 48) rfl b9 (j3 * 32) rfl YL _ (by have r := MC.rangeAt_part (MC.rangeAt_row (HTD.out.at 0 rfl)) (j3 * 32) 32; rw [HP2.out, Nat.zero_add] at r; exact r) Try.underlying23 rfl (infoD YL HBN.out) ?_
            refine hK.out _ _ hHeld (fun _ => ?_)
            clear hK K
            try simp only [Act.put, List.setIfInBounds_toArray, List.set_cons_zero, List.set_cons_succ]
            refine wpAnyH_ready (rs := [6]) (by kernel_rfl) (by simp) ?_
            refine AllReadyH.cons (o := { dst := some 44, op := Go.Op.load 23 (Go.Operand.tmp 43), type := 23, pos := _, after := #[{ on := 5, ground := Go.Ground.data }], guard := none }) rfl (fun K hK => ?_) AllReadyH.nil
            rw [if_pos (by rfl)]
            refine wp_load_mid 23 (.tmp 43) rfl b9 (j2 * 32) rfl XL _ (by have r := MC.rangeAt_part (MC.rangeAt_row (HTD.out.at 0 rfl)) (j2 * 32) 32; rw [HP1.out, Nat.zero_add] at r; exact r) Try.underlying23 rfl (infoD XL HAN.out) ?_
            refine hK.out _ _ hHeld (fun _ => ?_)
            clear hK K
            try simp only [Act.put, List.setIfInBounds_toArray, List.set_cons_zero, List.set_cons_succ]
            refine wpAnyH_ready (rs := [12]) (by kernel_rfl) (by simp) ?_
            refine AllReadyH.cons (o := { dst := some 50, op := Go.Op.call { callee := Go.Callee.value (Go.Operand.func 32), args := #[Go.Operand.tmp 39, Go.Operand.tmp 40, Go.Operand.tmp 44, Go.Operand.tmp 49], argTypes := #[34, 3, 23, 23] }, type := 23, pos := _, after := #[{ on := 1, ground := Go.Ground.data }, { on := 2, ground := Go.Ground.data }, { on := 6, ground := Go.Ground.data }, { on := 11, ground := Go.Ground.data }], guard := none }) rfl (fun K hK => ?_) AllReadyH.nil
            rw [if_pos (by rfl)]
            go_wp2_with fail
            refine Calls.mono (HNO.out _ _ HTD.out) ?_
            rintro e V1 ⟨rfl, hT2⟩
            have HT2 : Hid _ := hT2
            clear hHeld HTD HNO
            have hHeld : ∃ L' rw1, TM w og mb rg i m D L' R mm gb rm bb n l1 l2 rw1 V1 := ⟨_, _, hT2⟩
            clear hT2
            refine hK.out _ _ hHeld (fun _ => ?_)
            clear hK K
            try simp only [Act.put, List.setIfInBounds_toArray, List.set_cons_zero, List.set_cons_succ]
            refine wpAnyH_take (i := 13) (oi := { dst := some 51, op := Go.Op.indexAddr 71 (Go.Operand.tmp 9) (Go.Operand.tmp 38), type := 0, pos := _, after := #[{ on := 0, ground := Go.Ground.data }, { on := 0, ground := Go.Ground.phase }, { on := 1, ground := Go.Ground.phase }, { on := 2, ground := Go.Ground.phase }, { on := 3, ground := Go.Ground.phase }, { on := 4, ground := Go.Ground.phase }, { on := 5, ground := Go.Ground.phase }, { on := 6, ground := Go.Ground.phase }, { on := 7, ground := Go.Ground.phase }, { on := 8, ground := Go.Ground.phase }, { on := 9, ground := Go.Ground.phase }, { on := 10, ground := Go.Ground.phase }, { on := 11, ground := Go.Ground.phase }, { on := 12, ground := Go.Ground.phase }], guard := none }) (v := .pointer (some ⟨b9, j * 32, none⟩)) rfl (by kernel_rfl) (by kernel_rfl) (by kernel_rfl) (fun _ _ _ h => h) (Or.inl ⟨by rfl, fun w' hw' => ?_⟩) hHeld ?_
            · have h8I : ¬ (256 : Int) ≤ (j : Int) := (by have := HJB.out; omega); first | (go_simp; done) | (go_simp; rfl)
            try simp only [Act.put, List.setIfInBounds_toArray, List.set_cons_zero, List.set_cons_succ]
            refine wpAnyH_ready (rs := [14]) (by kernel_rfl) (by simp) ?_
            refine AllReadyH.cons (o := { dst := none, op := Go.Op.store 23 (Go.Operand.tmp 51) (Go.Operand.tmp 50), type := 0, pos := _, after := #[{ on := 13, ground := Go.Ground.data }, { on := 12, ground := Go.Ground.data }, { on := 12, ground := Go.Ground.chain }, { on := 0, ground := Go.Ground.phase }, { on := 1, ground := Go.Ground.phase }, { on := 2, ground := Go.Ground.phase }, { on := 3, ground := Go.Ground.phase }, { on := 4, ground := Go.Ground.phase }, { on := 5, ground := Go.Ground.phase }, { on := 6, ground := Go.Ground.phase }, { on := 7, ground := Go.Ground.phase }, { on := 8, ground := Go.Ground.phase }, { on := 9, ground := Go.Ground.phase }, { on := 10, ground := Go.Ground.phase }, { on := 11, ground := Go.Ground.phase }, { on := 12, ground := Go.Ground.phase }], guard := none }) rfl (fun K hK => ?_) AllReadyH.nil
            rw [if_pos (by rfl)]
            refine MC.wp_store_seg 23 (.tmp 51) (.tmp 50) rfl b9 (j * 32) AL.toArray _ 71 rfl rfl (HT2.out.at 0 rfl) (infoDa AL HALN.out) (by have := HJB.out; rw [List.length_map, HTL.out, List.size_toArray, HALN.out]; omega) HA1.out ?_
            have HT3 : Hid _ := HT2.out.put' 0 rfl (splice (T1.map B8) (j * 32) AL)
            rw [HSP.out] at HT3
            rw [List.toList_toArray, HSP.out]
            clear hHeld
            have hHeld : ∃ L' rw1, TM w og mb rg i m D L' R mm gb rm bb n l1 l2 rw1 (V1.setRow b9 (T2.map B8).toArray) := ⟨_, _, HT3.out⟩
            refine hK.out _ _ hHeld (fun _ => ?_)
            clear hK K
            try simp only [Act.put, List.setIfInBounds_toArray, List.set_cons_zero, List.set_cons_succ]
            refine wpAnyH_done (by kernel_rfl) ?_ _
            clear hHeld HT2
            go_wp2
            go_roundw
            case rel => exact ⟨k + 1, by omega, by go_num, by rw [HE1.out, HE2.out]; exact HT3.out⟩
            case measure => simp [intOf]; omega
        · have hk8 : k = 127 := by omega
          subst hk8
          have HT6 : Hid (TM w og mb rg i m D (LB 127) R mm gb rm bb n (MS 0) l2 (allR b9 (TB' 127) :: (b6, 23, ZL) :: rows) wr) := by rw [HM0.out] at hT; exact hT
          have HTL : Hid ((TB' 127).length = 8192) := HTBL.out 127 (by decide)
          have HGN : Hid (∀ q, q < 256 → (nodeB (TB' 127) 0 q).length = 32) := fun q hq => nodeB_0len _ _ HTL.out hq
          clear hT hlt hk HNN HM0 HTBL
          obtain ⟨T1, hT1⟩ : ∃ x, TB' 127 = x := ⟨_, rfl⟩
          obtain ⟨L2, hL2⟩ : ∃ x, LB 127 = x := ⟨_, rfl⟩
          have HE1 : Hid (LB 127 = L2) := hL2
          rw [hL2] at HT6
          rw [hT1] at HT6 HMS HRP HGN HTL
          clear hT1 hL2
          go_wp2
          go_loopw [55] (fun t wr => ∃ k : Nat, k ≤ 254 ∧ t = .int .i64 k ∧ TM w og mb rg i m D L2 R mm gb rm bb n (MS k) l2 (allR b9 T1 :: (b6, 23, ZL) :: rows) wr) (fun t _ => 254 - (intOf t).toNat)
          case atStart => exact ⟨0, by omega, rfl, HT6.out⟩
          case round =>
            obtain ⟨k, hk, rfl, hT⟩ := hrel
            clear HT6
            by_cases hlt : k < 254
            · have hkI : (k : Int) < 254 := by omega
              have hw1 : IntKind.i64.wrap (2 + (k : Int)) = ((2 + k : Nat) : Int) := by rw [IntKind.wrap_i64]; omega
              have r := MC.rangeAt_part (MC.rangeAt_row (hT.at 0 rfl)) ((2 + k) * 32) 32
              rw [nodeB_0, Nat.zero_add, show (2 + k) * 32 = 64 + k * 32 by omega] at r
              have hgn := HGN.out (2 + k) (by omega)
              have HLY : Hid (∀ rws W, TM w og mb rg i m D L2 R mm gb rm bb n (MS k) l2 rws W → Calls Try.prog 33 #[.pointer (some ⟨mm, 0, none⟩), .int .u64 (a : Int), .int .i64 ((2 + k : Nat) : Int), .agg ((nodeB T1 0 (2 + k)).map B8).toArray] W fun e Y => e = .returned (.tuple #[]) ∧ TM w og mb rg i m D L2 R mm gb rm bb n (MS (k + 1)) l2 rws Y) := fun rws W hW => by rw [HMS.out k]; exact hW.lay a (2 + k) _ HW.out (by omega) hgn
              have HDL : Hid (((nodeB T1 0 (2 + k)).map B8).length = 32) := by show _ = _; simpa using hgn
              have HD1 : Hid _ := R5.B8_onea (nodeB T1 0 (2 + k))
              have HRG : Hid (wr.rangeAt b9 (64 + k * 32) ((nodeB T1 0 (2 + k)).map B8)) := r
              have HTA : Hid _ := hT.alloc wr.heap.size rfl 23 ZL
              generalize (nodeB T1 0 (2 + k)).map B8 = DL at *
              generalize ((2 + k : Nat) : Int) = LI at *
              clear hT r hgn
              go_upto_region 19 with (first
                | (refine wpList_load_mid rfl 23 (.tmp 58) rfl b9 (64 + k * 32) rfl DL _ HRG.out Try.underlying23 rfl (infoD DL HDL.out) ?_)
                | (refine wpList_store_dL rfl (.tmp 14) (.tmp 59) rfl wr.heap.size DL ZL rfl rfl (HTA.out.at 0 rfl) HDL.out HZL.out HD1.out ?_; intro X7 e7; have HT7 : Hid _ := HTA.out.put' 0 rfl DL; rw [← e7] at HT7; clear e7))
              clear HTA HRG
              generalize wr.heap.size = b14 at *
              go_wp2_with (refine wpList_load_mid rfl 23 (.tmp 14) rfl b14 0 rfl DL _ (MC.rangeAt_row (HT7.out.at 0 rfl)) Try.underlying23 rfl (infoD DL HDL.out) ?_)
              refine Calls.mono (HLY.out _ _ HT7.out) ?_
              rintro e X8 ⟨rfl, hT8⟩
              have HT8 : Hid _ := hT8.drop
              clear hT8 HT7 HLY
              go_wp2
              go_roundw
              case rel => (repeat apply Exists.intro); exact ⟨⟨k + 1, by omega, by go_num, HT8.out⟩, rfl⟩
              case measure => simp [intOf]; omega
            · have hk8 : k = 254 := by omega
              subst hk8
              have HT : Hid _ := hT
              have r := MC.rangeAt_part (MC.rangeAt_row (hT.at 0 rfl)) (1 * 32) 32
              rw [HRP.out, Nat.zero_add] at r
              have HRG : Hid (wr.rangeAt b9 32 RO) := r
              clear hT r hlt hk HMS
              go_wp2_with (first
                | (refine wpList_load_mid rfl 23 (.tmp 67) rfl b9 32 rfl RO _ HRG.out Try.underlying23 rfl (infoD RO HRL.out) ?_)
                | (refine wpList_store_dL rfl (.tmp 6) (.tmp 68) rfl b6 RO ZL rfl rfl (HT.out.at 1 rfl) HRL.out HZL.out HR1.out ?_; intro X9 e9; subst e9))
              refine bodyPost_ret (v := .tuple #[.agg RO.toArray, .int .i64 0]) ?_ rfl ⟨rfl, by rw [HE1.out]; exact (HT.out.put' 1 rfl RO).drop.drop⟩
              exact R5.results_dig2 Try.results11 _ _ b6 23 _ (0, 0) _ rfl rfl (setRow_heap _ _ _ _ _ _ (HT.out.at 1 rfl)) (infoDa RO HRL.out)
end
end Go.Proofs.Ytnijjoankahddaa.DC
