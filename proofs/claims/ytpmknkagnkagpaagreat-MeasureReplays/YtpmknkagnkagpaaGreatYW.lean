/- measure: the document's May and Next. -/
import Derived.Test.YtpmknkagnkagpaaGreatYT
set_option linter.unusedVariables false
set_option linter.unusedSimpArgs false
namespace Go.Proofs.YtpmknkagnkagpaaGreat.ZC
open Go.RowKit

theorem rc_eql (w : World) (pc : Nat) (rs : List Nat) (run : Bool) (h : rs.length = 8) : (binOp .eql 31 (.agg (PC.rcL pc rs run).toArray) (.agg (PC.rcL 0 PC.Z8 false).toArray)).run Tryz.prog w = .ok (.bool (rcEq pc rs run 0 PC.Z8 false)) w := by
  have h2 : (Op.equalIn 10000 31 (.agg (PC.rcL pc rs run).toArray) (.agg (PC.rcL 0 PC.Z8 false).toArray)).run Tryz.prog w = .ok (rcEq pc rs run 0 PC.Z8 false) w := eq_rc w 9996 _ _ _ _ _ _ h PC.z8_len
  rw [run_eql_struct, h2]
  rfl
theorem gr_eql (w : World) (a b : List UInt8) (ha : a.length = 128) (hb : b.length = 128) : (binOp .eql 27 (.agg (a.map B8).toArray) (.agg (b.map B8).toArray)).run Tryz.prog w = .ok (.bool (a == b)) w :=
  run_eql_bytes (P := Tryz.prog) w 27 5 128 Tryz.underlying27 Tryz.underlying5 PC.size_u8 a b ha hb
theorem dg_eql (w : World) (a b : List UInt8) (ha : a.length = 32) (hb : b.length = 32) : (binOp .eql 24 (.agg (a.map B8).toArray) (.agg (b.map B8).toArray)).run Tryz.prog w = .ok (.bool (a == b)) w :=
  run_eql_bytes (P := Tryz.prog) w 24 5 32 Tryz.underlying24 Tryz.underlying5 PC.size_u8 a b ha hb
theorem bld_gr (w : World) : (Instr.build 27 #[]).run Tryz.prog w = .ok (.agg (PC.Z128.map B8).toArray) w := by kernel_rfl
theorem bld_rc (w : World) : (Instr.build 31 #[]).run Tryz.prog w = .ok (.agg (PC.rcL 0 PC.Z8 false).toArray) w := by kernel_rfl
theorem bld_dg (w : World) : (Instr.build 24 #[]).run Tryz.prog w = .ok (.agg (PC.Z32.map B8).toArray) w := by kernel_rfl
theorem mayB_1 {r : Rd} (h : r.kind = 1) : mayD r = (r.page == 0 && (r.data == PC.Z128 && rcEq r.pc r.rs r.run 0 PC.Z8 false)) := by
  unfold mayD; rw [if_pos h]
  show (r.kind == 1 && (r.value == r.value && (r.page == 0 && (r.data == PC.Z128 && rcEq r.pc r.rs r.run 0 PC.Z8 false)))) = _
  rw [h]; simp
theorem mayB_2 {r : Rd} (h : r.kind = 2) : mayD r = (r.value == PC.Z32 && (decide (0 ≤ r.page ∧ r.page < 128) && rcEq r.pc r.rs r.run 0 PC.Z8 false)) := by
  unfold mayD; rw [if_neg (by rw [h]; decide), if_pos h]
  show ((r.kind == 2 && (r.value == PC.Z32 && (r.page == r.page && (r.data == r.data && rcEq r.pc r.rs r.run 0 PC.Z8 false)))) && _) = _
  rw [h]
  cases r.value == PC.Z32 <;> cases decide (0 ≤ r.page ∧ r.page < 128) <;> cases rcEq r.pc r.rs r.run 0 PC.Z8 false <;> simp
theorem mayB_3 {r : Rd} (h : r.kind = 3) : mayD r = (r.value == PC.Z32 && (r.page == 0 && (r.data == PC.Z128 && PC.mayC r.pc))) := by
  unfold mayD; rw [if_neg (by rw [h]; decide), if_neg (by rw [h]; decide), if_pos h]
  show ((r.kind == 3 && (r.value == PC.Z32 && (r.page == 0 && (r.data == PC.Z128 && rcEq r.pc r.rs r.run r.pc r.rs r.run)))) && _) = _
  have hc : rcEq r.pc r.rs r.run r.pc r.rs r.run = true := by simp [rcEq]
  rw [h, hc]
  cases r.value == PC.Z32 <;> cases r.page == 0 <;> cases r.data == PC.Z128 <;> cases PC.mayC r.pc <;> simp
set_option maxHeartbeats 4000000 in
set_option maxRecDepth 100000 in
theorem rmay_1 (r : Rd) (w : World) (h : r.ok) (hk : r.kind = 1) : Calls Tryz.prog 9 #[.agg (rdL r).toArray] w fun e w' => e = .returned (.bool (mayD r)) ∧ Below w.heap.size w w' := by
  rw [mayB_1 hk]
  have hk1 : (r.kind == 1) = true := by simp [hk]
  have HB : Hid (Below w.heap.size w (w.alloc (.cells (rdL r).toArray 33 (0, 0)))) := (Below.refl _ _).alloc (Nat.le_refl _) _
  have hrow := PC.rangeAt_row (heap_alloc_new w (.cells (rdL r).toArray 33 (0, 0)))
  have hc0 : ((w.alloc (.cells (rdL r).toArray 33 (0, 0)))).cell? ⟨w.heap.size, 0, none⟩ = some (.int .i64 r.kind) := by have := hrow 0 _ (rdL_0 r); rwa [Nat.zero_add] at this
  have hc33 : ((w.alloc (.cells (rdL r).toArray 33 (0, 0)))).cell? ⟨w.heap.size, 33, none⟩ = some (.int .i64 r.page) := by have := hrow 33 _ (rdL_33 h); rwa [Nat.zero_add] at this
  have HLV : Hid ((w.alloc (.cells (rdL r).toArray 33 (0, 0))).rangeAt w.heap.size 1 (r.value.map B8)) := by have h3 := PC.rangeAt_part hrow 1 32; rw [List.drop_one, rdL_val h] at h3; exact h3
  have HLD : Hid ((w.alloc (.cells (rdL r).toArray 33 (0, 0))).rangeAt w.heap.size 34 (r.data.map B8)) := by have h3 := PC.rangeAt_part hrow 34 128; rw [rdL_dat h] at h3; exact h3
  have HLC : Hid ((w.alloc (.cells (rdL r).toArray 33 (0, 0))).rangeAt w.heap.size 162 (PC.rcL r.pc r.rs r.run)) := by have h3 := PC.rangeAt_part hrow 162 10; rw [rdL_rec h] at h3; exact h3
  have HV32 : Hid _ := R5.info32 (r.value.map B8) (by simpa using h.v)
  have HD128 : Hid _ := PC.info128 (r.data.map B8) (by simpa using h.d)
  have HR10 : Hid _ := PC.info10 (PC.rcL r.pc r.rs r.run) (PC.rcL_len _ _ _ h.s)
  have HBG : Hid (∀ W, (Instr.build 27 #[]).run Tryz.prog W = .ok (.agg (PC.Z128.map B8).toArray) W) := bld_gr
  have HBC : Hid (∀ W, (Instr.build 31 #[]).run Tryz.prog W = .ok (.agg (PC.rcL 0 PC.Z8 false).toArray) W) := bld_rc
  have HBV : Hid (∀ W, (Instr.build 24 #[]).run Tryz.prog W = .ok (.agg (PC.Z32.map B8).toArray) W) := bld_dg
  have hev := fun W => dg_eql W r.value PC.Z32 h.v PC.z32_len
  have heg := fun W => gr_eql W r.data PC.Z128 h.d PC.z128_len
  have hec := fun W => rc_eql W r.pc r.rs r.run h.s
  have HMP : Hid (∀ W, Calls Tryz.prog 30 #[.int .i64 r.page] W fun e w' => e = .returned (.bool (decide (0 ≤ r.page ∧ r.page < 128))) ∧ w' = W) := fun W => rpage_any r.page W
  have HMC : Hid (∀ W, Calls Tryz.prog 31 #[.agg (PC.rcL r.pc r.rs r.run).toArray] W fun e w' => e = .returned (.bool (PC.mayC r.pc)) ∧ Below W.heap.size W w') := fun W => PC.rmayC_any r.pc r.rs r.run W
  clear hrow h
  generalize hb1 : (r.value == PC.Z32) = b1 at *
  generalize hb2 : (r.data == PC.Z128) = b2 at *
  generalize hb3 : rcEq r.pc r.rs r.run 0 PC.Z8 false = b3 at *
  generalize hb4 : decide (0 ≤ r.page ∧ r.page < 128) = b4 at *
  generalize hb5 : PC.mayC r.pc = b5 at *
  generalize hb6 : (r.page == 0) = b6 at *
  clear hb1 hb2 hb3 hb4 hb5
  generalize PC.rcL 0 PC.Z8 false = ZC at *
  generalize PC.Z128.map B8 = ZG at *
  generalize PC.Z32.map B8 = ZV at *
  generalize PC.rcL r.pc r.rs r.run = CL at *
  generalize rdL r = RL at *
  generalize r.value.map B8 = VL at *
  generalize r.data.map B8 = DL at *
  clear hk
  cases b6 with
  | false =>
    go_enter Tryz.func9, Tryz.ntmps9
    go_wp2_with (first
      | (refine R5.load_mid_g (by rfl) 24 _ rfl w.heap.size 1 rfl VL _ HLV.out Tryz.underlying24 rfl HV32.out ?_)
      | (refine R5.load_mid_g (by rfl) 27 _ rfl w.heap.size 34 rfl DL _ HLD.out Tryz.underlying27 rfl HD128.out ?_)
      | (refine R5.load_mid_g (by rfl) 31 _ rfl w.heap.size 162 rfl CL _ HLC.out Tryz.underlying31 rfl HR10.out ?_)
      | (refine build_g (by rfl) 24 _ rfl #[] (.agg ZV.toArray) (by simp) (HBV.out _) ?_)
      | (refine build_g (by rfl) 27 _ rfl #[] (.agg ZG.toArray) (by simp) (HBG.out _) ?_)
      | (refine build_g (by rfl) 31 _ rfl #[] (.agg ZC.toArray) (by simp) (HBC.out _) ?_))
    go_ret
    exact ⟨rfl, HB.out⟩
  | true =>
    cases b2 with
    | false =>
      go_enter Tryz.func9, Tryz.ntmps9
      go_wp2_with (first
        | (refine R5.load_mid_g (by rfl) 24 _ rfl w.heap.size 1 rfl VL _ HLV.out Tryz.underlying24 rfl HV32.out ?_)
        | (refine R5.load_mid_g (by rfl) 27 _ rfl w.heap.size 34 rfl DL _ HLD.out Tryz.underlying27 rfl HD128.out ?_)
        | (refine R5.load_mid_g (by rfl) 31 _ rfl w.heap.size 162 rfl CL _ HLC.out Tryz.underlying31 rfl HR10.out ?_)
        | (refine build_g (by rfl) 24 _ rfl #[] (.agg ZV.toArray) (by simp) (HBV.out _) ?_)
        | (refine build_g (by rfl) 27 _ rfl #[] (.agg ZG.toArray) (by simp) (HBG.out _) ?_)
        | (refine build_g (by rfl) 31 _ rfl #[] (.agg ZC.toArray) (by simp) (HBC.out _) ?_))
      go_ret
      exact ⟨rfl, HB.out⟩
    | true =>
      go_enter Tryz.func9, Tryz.ntmps9
      go_wp2_with (first
        | (refine R5.load_mid_g (by rfl) 24 _ rfl w.heap.size 1 rfl VL _ HLV.out Tryz.underlying24 rfl HV32.out ?_)
        | (refine R5.load_mid_g (by rfl) 27 _ rfl w.heap.size 34 rfl DL _ HLD.out Tryz.underlying27 rfl HD128.out ?_)
        | (refine R5.load_mid_g (by rfl) 31 _ rfl w.heap.size 162 rfl CL _ HLC.out Tryz.underlying31 rfl HR10.out ?_)
        | (refine build_g (by rfl) 24 _ rfl #[] (.agg ZV.toArray) (by simp) (HBV.out _) ?_)
        | (refine build_g (by rfl) 27 _ rfl #[] (.agg ZG.toArray) (by simp) (HBG.out _) ?_)
        | (refine build_g (by rfl) 31 _ rfl #[] (.agg ZC.toArray) (by simp) (HBC.out _) ?_))
      go_ret
      exact ⟨rfl, HB.out⟩
set_option maxHeartbeats 4000000 in
set_option maxRecDepth 100000 in
theorem rmay_2 (r : Rd) (w : World) (h : r.ok) (hk : r.kind = 2) : Calls Tryz.prog 9 #[.agg (rdL r).toArray] w fun e w' => e = .returned (.bool (mayD r)) ∧ Below w.heap.size w w' := by
  rw [mayB_2 hk]
  have hk1 : (r.kind == 1) = false := by simp [hk]
  have hk2 : (r.kind == 2) = true := by simp [hk]
  have HB : Hid (Below w.heap.size w (w.alloc (.cells (rdL r).toArray 33 (0, 0)))) := (Below.refl _ _).alloc (Nat.le_refl _) _
  have hrow := PC.rangeAt_row (heap_alloc_new w (.cells (rdL r).toArray 33 (0, 0)))
  have hc0 : ((w.alloc (.cells (rdL r).toArray 33 (0, 0)))).cell? ⟨w.heap.size, 0, none⟩ = some (.int .i64 r.kind) := by have := hrow 0 _ (rdL_0 r); rwa [Nat.zero_add] at this
  have hc33 : ((w.alloc (.cells (rdL r).toArray 33 (0, 0)))).cell? ⟨w.heap.size, 33, none⟩ = some (.int .i64 r.page) := by have := hrow 33 _ (rdL_33 h); rwa [Nat.zero_add] at this
  have HLV : Hid ((w.alloc (.cells (rdL r).toArray 33 (0, 0))).rangeAt w.heap.size 1 (r.value.map B8)) := by have h3 := PC.rangeAt_part hrow 1 32; rw [List.drop_one, rdL_val h] at h3; exact h3
  have HLD : Hid ((w.alloc (.cells (rdL r).toArray 33 (0, 0))).rangeAt w.heap.size 34 (r.data.map B8)) := by have h3 := PC.rangeAt_part hrow 34 128; rw [rdL_dat h] at h3; exact h3
  have HLC : Hid ((w.alloc (.cells (rdL r).toArray 33 (0, 0))).rangeAt w.heap.size 162 (PC.rcL r.pc r.rs r.run)) := by have h3 := PC.rangeAt_part hrow 162 10; rw [rdL_rec h] at h3; exact h3
  have HV32 : Hid _ := R5.info32 (r.value.map B8) (by simpa using h.v)
  have HD128 : Hid _ := PC.info128 (r.data.map B8) (by simpa using h.d)
  have HR10 : Hid _ := PC.info10 (PC.rcL r.pc r.rs r.run) (PC.rcL_len _ _ _ h.s)
  have HBG : Hid (∀ W, (Instr.build 27 #[]).run Tryz.prog W = .ok (.agg (PC.Z128.map B8).toArray) W) := bld_gr
  have HBC : Hid (∀ W, (Instr.build 31 #[]).run Tryz.prog W = .ok (.agg (PC.rcL 0 PC.Z8 false).toArray) W) := bld_rc
  have HBV : Hid (∀ W, (Instr.build 24 #[]).run Tryz.prog W = .ok (.agg (PC.Z32.map B8).toArray) W) := bld_dg
  have hev := fun W => dg_eql W r.value PC.Z32 h.v PC.z32_len
  have heg := fun W => gr_eql W r.data PC.Z128 h.d PC.z128_len
  have hec := fun W => rc_eql W r.pc r.rs r.run h.s
  have HMP : Hid (∀ W, Calls Tryz.prog 30 #[.int .i64 r.page] W fun e w' => e = .returned (.bool (decide (0 ≤ r.page ∧ r.page < 128))) ∧ w' = W) := fun W => rpage_any r.page W
  have HMC : Hid (∀ W, Calls Tryz.prog 31 #[.agg (PC.rcL r.pc r.rs r.run).toArray] W fun e w' => e = .returned (.bool (PC.mayC r.pc)) ∧ Below W.heap.size W w') := fun W => PC.rmayC_any r.pc r.rs r.run W
  clear hrow h
  generalize hb1 : (r.value == PC.Z32) = b1 at *
  generalize hb2 : (r.data == PC.Z128) = b2 at *
  generalize hb3 : rcEq r.pc r.rs r.run 0 PC.Z8 false = b3 at *
  generalize hb4 : decide (0 ≤ r.page ∧ r.page < 128) = b4 at *
  generalize hb5 : PC.mayC r.pc = b5 at *
  generalize hb6 : (r.page == 0) = b6 at *
  clear hb1 hb2 hb3 hb4 hb5
  generalize PC.rcL 0 PC.Z8 false = ZC at *
  generalize PC.Z128.map B8 = ZG at *
  generalize PC.Z32.map B8 = ZV at *
  generalize PC.rcL r.pc r.rs r.run = CL at *
  generalize rdL r = RL at *
  generalize r.value.map B8 = VL at *
  generalize r.data.map B8 = DL at *
  clear hk
  cases b1 with
  | false =>
    go_enter Tryz.func9, Tryz.ntmps9
    go_wp2_with (first
      | (refine R5.load_mid_g (by rfl) 24 _ rfl w.heap.size 1 rfl VL _ HLV.out Tryz.underlying24 rfl HV32.out ?_)
      | (refine R5.load_mid_g (by rfl) 27 _ rfl w.heap.size 34 rfl DL _ HLD.out Tryz.underlying27 rfl HD128.out ?_)
      | (refine R5.load_mid_g (by rfl) 31 _ rfl w.heap.size 162 rfl CL _ HLC.out Tryz.underlying31 rfl HR10.out ?_)
      | (refine build_g (by rfl) 24 _ rfl #[] (.agg ZV.toArray) (by simp) (HBV.out _) ?_)
      | (refine build_g (by rfl) 27 _ rfl #[] (.agg ZG.toArray) (by simp) (HBG.out _) ?_)
      | (refine build_g (by rfl) 31 _ rfl #[] (.agg ZC.toArray) (by simp) (HBC.out _) ?_))
    go_ret
    exact ⟨rfl, HB.out⟩
  | true =>
    go_enter Tryz.func9, Tryz.ntmps9
    go_wp2_with (first
      | (refine R5.load_mid_g (by rfl) 24 _ rfl w.heap.size 1 rfl VL _ HLV.out Tryz.underlying24 rfl HV32.out ?_)
      | (refine R5.load_mid_g (by rfl) 27 _ rfl w.heap.size 34 rfl DL _ HLD.out Tryz.underlying27 rfl HD128.out ?_)
      | (refine R5.load_mid_g (by rfl) 31 _ rfl w.heap.size 162 rfl CL _ HLC.out Tryz.underlying31 rfl HR10.out ?_)
      | (refine build_g (by rfl) 24 _ rfl #[] (.agg ZV.toArray) (by simp) (HBV.out _) ?_)
      | (refine build_g (by rfl) 27 _ rfl #[] (.agg ZG.toArray) (by simp) (HBG.out _) ?_)
      | (refine build_g (by rfl) 31 _ rfl #[] (.agg ZC.toArray) (by simp) (HBC.out _) ?_))
    refine Calls.mono (HMP.out _) ?_
    rintro e w' ⟨rfl, rfl⟩
    cases b4 with
    | false =>
      go_wp2_with (first
        | (refine R5.load_mid_g (by rfl) 24 _ rfl w.heap.size 1 rfl VL _ HLV.out Tryz.underlying24 rfl HV32.out ?_)
        | (refine R5.load_mid_g (by rfl) 27 _ rfl w.heap.size 34 rfl DL _ HLD.out Tryz.underlying27 rfl HD128.out ?_)
        | (refine R5.load_mid_g (by rfl) 31 _ rfl w.heap.size 162 rfl CL _ HLC.out Tryz.underlying31 rfl HR10.out ?_)
        | (refine build_g (by rfl) 24 _ rfl #[] (.agg ZV.toArray) (by simp) (HBV.out _) ?_)
        | (refine build_g (by rfl) 27 _ rfl #[] (.agg ZG.toArray) (by simp) (HBG.out _) ?_)
        | (refine build_g (by rfl) 31 _ rfl #[] (.agg ZC.toArray) (by simp) (HBC.out _) ?_))
      go_ret
      exact ⟨rfl, HB.out⟩
    | true =>
      go_wp2_with (first
        | (refine R5.load_mid_g (by rfl) 24 _ rfl w.heap.size 1 rfl VL _ HLV.out Tryz.underlying24 rfl HV32.out ?_)
        | (refine R5.load_mid_g (by rfl) 27 _ rfl w.heap.size 34 rfl DL _ HLD.out Tryz.underlying27 rfl HD128.out ?_)
        | (refine R5.load_mid_g (by rfl) 31 _ rfl w.heap.size 162 rfl CL _ HLC.out Tryz.underlying31 rfl HR10.out ?_)
        | (refine build_g (by rfl) 24 _ rfl #[] (.agg ZV.toArray) (by simp) (HBV.out _) ?_)
        | (refine build_g (by rfl) 27 _ rfl #[] (.agg ZG.toArray) (by simp) (HBG.out _) ?_)
        | (refine build_g (by rfl) 31 _ rfl #[] (.agg ZC.toArray) (by simp) (HBC.out _) ?_))
      go_ret
      exact ⟨rfl, HB.out⟩
set_option maxHeartbeats 4000000 in
set_option maxRecDepth 100000 in
theorem rmay_3 (r : Rd) (w : World) (h : r.ok) (hk : r.kind = 3) : Calls Tryz.prog 9 #[.agg (rdL r).toArray] w fun e w' => e = .returned (.bool (mayD r)) ∧ Below w.heap.size w w' := by
  rw [mayB_3 hk]
  have hk1 : (r.kind == 1) = false := by simp [hk]
  have hk2 : (r.kind == 2) = false := by simp [hk]
  have hk3 : (r.kind == 3) = true := by simp [hk]
  have HB : Hid (Below w.heap.size w (w.alloc (.cells (rdL r).toArray 33 (0, 0)))) := (Below.refl _ _).alloc (Nat.le_refl _) _
  have hrow := PC.rangeAt_row (heap_alloc_new w (.cells (rdL r).toArray 33 (0, 0)))
  have hc0 : ((w.alloc (.cells (rdL r).toArray 33 (0, 0)))).cell? ⟨w.heap.size, 0, none⟩ = some (.int .i64 r.kind) := by have := hrow 0 _ (rdL_0 r); rwa [Nat.zero_add] at this
  have hc33 : ((w.alloc (.cells (rdL r).toArray 33 (0, 0)))).cell? ⟨w.heap.size, 33, none⟩ = some (.int .i64 r.page) := by have := hrow 33 _ (rdL_33 h); rwa [Nat.zero_add] at this
  have HLV : Hid ((w.alloc (.cells (rdL r).toArray 33 (0, 0))).rangeAt w.heap.size 1 (r.value.map B8)) := by have h3 := PC.rangeAt_part hrow 1 32; rw [List.drop_one, rdL_val h] at h3; exact h3
  have HLD : Hid ((w.alloc (.cells (rdL r).toArray 33 (0, 0))).rangeAt w.heap.size 34 (r.data.map B8)) := by have h3 := PC.rangeAt_part hrow 34 128; rw [rdL_dat h] at h3; exact h3
  have HLC : Hid ((w.alloc (.cells (rdL r).toArray 33 (0, 0))).rangeAt w.heap.size 162 (PC.rcL r.pc r.rs r.run)) := by have h3 := PC.rangeAt_part hrow 162 10; rw [rdL_rec h] at h3; exact h3
  have HV32 : Hid _ := R5.info32 (r.value.map B8) (by simpa using h.v)
  have HD128 : Hid _ := PC.info128 (r.data.map B8) (by simpa using h.d)
  have HR10 : Hid _ := PC.info10 (PC.rcL r.pc r.rs r.run) (PC.rcL_len _ _ _ h.s)
  have HBG : Hid (∀ W, (Instr.build 27 #[]).run Tryz.prog W = .ok (.agg (PC.Z128.map B8).toArray) W) := bld_gr
  have HBC : Hid (∀ W, (Instr.build 31 #[]).run Tryz.prog W = .ok (.agg (PC.rcL 0 PC.Z8 false).toArray) W) := bld_rc
  have HBV : Hid (∀ W, (Instr.build 24 #[]).run Tryz.prog W = .ok (.agg (PC.Z32.map B8).toArray) W) := bld_dg
  have hev := fun W => dg_eql W r.value PC.Z32 h.v PC.z32_len
  have heg := fun W => gr_eql W r.data PC.Z128 h.d PC.z128_len
  have hec := fun W => rc_eql W r.pc r.rs r.run h.s
  have HMP : Hid (∀ W, Calls Tryz.prog 30 #[.int .i64 r.page] W fun e w' => e = .returned (.bool (decide (0 ≤ r.page ∧ r.page < 128))) ∧ w' = W) := fun W => rpage_any r.page W
  have HMC : Hid (∀ W, Calls Tryz.prog 31 #[.agg (PC.rcL r.pc r.rs r.run).toArray] W fun e w' => e = .returned (.bool (PC.mayC r.pc)) ∧ Below W.heap.size W w') := fun W => PC.rmayC_any r.pc r.rs r.run W
  clear hrow h
  generalize hb1 : (r.value == PC.Z32) = b1 at *
  generalize hb2 : (r.data == PC.Z128) = b2 at *
  generalize hb3 : rcEq r.pc r.rs r.run 0 PC.Z8 false = b3 at *
  generalize hb4 : decide (0 ≤ r.page ∧ r.page < 128) = b4 at *
  generalize hb5 : PC.mayC r.pc = b5 at *
  generalize hb6 : (r.page == 0) = b6 at *
  clear hb1 hb2 hb3 hb4 hb5
  generalize PC.rcL 0 PC.Z8 false = ZC at *
  generalize PC.Z128.map B8 = ZG at *
  generalize PC.Z32.map B8 = ZV at *
  generalize PC.rcL r.pc r.rs r.run = CL at *
  generalize rdL r = RL at *
  generalize r.value.map B8 = VL at *
  generalize r.data.map B8 = DL at *
  clear hk
  cases b1 with
  | false =>
    go_enter Tryz.func9, Tryz.ntmps9
    go_wp2_with (first
      | (refine R5.load_mid_g (by rfl) 24 _ rfl w.heap.size 1 rfl VL _ HLV.out Tryz.underlying24 rfl HV32.out ?_)
      | (refine R5.load_mid_g (by rfl) 27 _ rfl w.heap.size 34 rfl DL _ HLD.out Tryz.underlying27 rfl HD128.out ?_)
      | (refine R5.load_mid_g (by rfl) 31 _ rfl w.heap.size 162 rfl CL _ HLC.out Tryz.underlying31 rfl HR10.out ?_)
      | (refine build_g (by rfl) 24 _ rfl #[] (.agg ZV.toArray) (by simp) (HBV.out _) ?_)
      | (refine build_g (by rfl) 27 _ rfl #[] (.agg ZG.toArray) (by simp) (HBG.out _) ?_)
      | (refine build_g (by rfl) 31 _ rfl #[] (.agg ZC.toArray) (by simp) (HBC.out _) ?_))
    go_ret
    exact ⟨rfl, HB.out⟩
  | true =>
    cases b6 with
    | false =>
      go_enter Tryz.func9, Tryz.ntmps9
      go_wp2_with (first
        | (refine R5.load_mid_g (by rfl) 24 _ rfl w.heap.size 1 rfl VL _ HLV.out Tryz.underlying24 rfl HV32.out ?_)
        | (refine R5.load_mid_g (by rfl) 27 _ rfl w.heap.size 34 rfl DL _ HLD.out Tryz.underlying27 rfl HD128.out ?_)
        | (refine R5.load_mid_g (by rfl) 31 _ rfl w.heap.size 162 rfl CL _ HLC.out Tryz.underlying31 rfl HR10.out ?_)
        | (refine build_g (by rfl) 24 _ rfl #[] (.agg ZV.toArray) (by simp) (HBV.out _) ?_)
        | (refine build_g (by rfl) 27 _ rfl #[] (.agg ZG.toArray) (by simp) (HBG.out _) ?_)
        | (refine build_g (by rfl) 31 _ rfl #[] (.agg ZC.toArray) (by simp) (HBC.out _) ?_))
      go_ret
      exact ⟨rfl, HB.out⟩
    | true =>
      cases b2 with
      | false =>
        go_enter Tryz.func9, Tryz.ntmps9
        go_wp2_with (first
          | (refine R5.load_mid_g (by rfl) 24 _ rfl w.heap.size 1 rfl VL _ HLV.out Tryz.underlying24 rfl HV32.out ?_)
          | (refine R5.load_mid_g (by rfl) 27 _ rfl w.heap.size 34 rfl DL _ HLD.out Tryz.underlying27 rfl HD128.out ?_)
          | (refine R5.load_mid_g (by rfl) 31 _ rfl w.heap.size 162 rfl CL _ HLC.out Tryz.underlying31 rfl HR10.out ?_)
          | (refine build_g (by rfl) 24 _ rfl #[] (.agg ZV.toArray) (by simp) (HBV.out _) ?_)
          | (refine build_g (by rfl) 27 _ rfl #[] (.agg ZG.toArray) (by simp) (HBG.out _) ?_)
          | (refine build_g (by rfl) 31 _ rfl #[] (.agg ZC.toArray) (by simp) (HBC.out _) ?_))
        go_ret
        exact ⟨rfl, HB.out⟩
      | true =>
        go_enter Tryz.func9, Tryz.ntmps9
        go_wp2_with (first
          | (refine R5.load_mid_g (by rfl) 24 _ rfl w.heap.size 1 rfl VL _ HLV.out Tryz.underlying24 rfl HV32.out ?_)
          | (refine R5.load_mid_g (by rfl) 27 _ rfl w.heap.size 34 rfl DL _ HLD.out Tryz.underlying27 rfl HD128.out ?_)
          | (refine R5.load_mid_g (by rfl) 31 _ rfl w.heap.size 162 rfl CL _ HLC.out Tryz.underlying31 rfl HR10.out ?_)
          | (refine build_g (by rfl) 24 _ rfl #[] (.agg ZV.toArray) (by simp) (HBV.out _) ?_)
          | (refine build_g (by rfl) 27 _ rfl #[] (.agg ZG.toArray) (by simp) (HBG.out _) ?_)
          | (refine build_g (by rfl) 31 _ rfl #[] (.agg ZC.toArray) (by simp) (HBC.out _) ?_))
        refine Calls.mono (HMC.out _) ?_
        rintro e X ⟨rfl, hbX⟩
        have HBX : Hid (Below w.heap.size w X) := HB.out.trans (hbX.mono HB.out.size)
        clear hbX
        go_wp2
        go_ret
        exact ⟨rfl, HBX.out⟩
theorem rmay_0 (r : Rd) (w : World) (h1 : r.kind ≠ 1) (h2 : r.kind ≠ 2) (h3 : r.kind ≠ 3) : Calls Tryz.prog 9 #[.agg (rdL r).toArray] w fun e w' => e = .returned (.bool false) ∧ Below w.heap.size w w' := by
  have hk1 : (r.kind == 1) = false := by simp [h1]
  have hk2 : (r.kind == 2) = false := by simp [h2]
  have hk3 : (r.kind == 3) = false := by simp [h3]
  have hc0 : ((w.alloc (.cells (rdL r).toArray 33 (0, 0)))).cell? ⟨w.heap.size, 0, none⟩ = some (.int .i64 r.kind) := by have := PC.rangeAt_row (heap_alloc_new w (.cells (rdL r).toArray 33 (0, 0))) 0 _ (rdL_0 r); rwa [Nat.zero_add] at this
  have HB : Hid (Below w.heap.size w (w.alloc (.cells (rdL r).toArray 33 (0, 0)))) := (Below.refl _ _).alloc (Nat.le_refl _) _
  generalize rdL r = RL at *
  clear h1 h2 h3
  go_enter Tryz.func9, Tryz.ntmps9
  go_wp2
  go_ret
  exact ⟨rfl, HB.out⟩
theorem rmay_any (r : Rd) (w : World) (h : r.ok) : Calls Tryz.prog 9 #[.agg (rdL r).toArray] w fun e w' => e = .returned (.bool (mayD r)) ∧ Below w.heap.size w w' := by
  by_cases h1 : r.kind = 1
  · exact rmay_1 r w h h1
  by_cases h2 : r.kind = 2
  · exact rmay_2 r w h h2
  by_cases h3 : r.kind = 3
  · exact rmay_3 r w h h3
  have e : mayD r = false := by unfold mayD; rw [if_neg h1, if_neg h2, if_neg h3]
  rw [e]
  exact rmay_0 r w h1 h2 h3
end Go.Proofs.YtpmknkagnkagpaaGreat.ZC
