/- ParamsReads: for any granule the statement's function answers true. No condition. -/
import Derived.Test.YtabnmhmlcoakkaaPU
import Derived.WalkKit
import Derived.Carry
set_option linter.unusedVariables false
set_option linter.unusedSimpArgs false
namespace Go.Proofs.Ytabnmhmlcoakkaa.PC
open Go.RowKit

set_option maxHeartbeats 1000000 in
theorem rkind_any (G : List UInt8) (w : World) (hG : G.length = 128) :
    Calls Try.prog 23 #[.agg (G.map B8).toArray] w fun e w' => e = .returned (.string (kS G)) ∧ Below w.heap.size w w' := by
  have hR := fun W => rrealm_any G W hG
  have hC := fun W => rrec_any G W hG
  have hrl := rRes_len G hG
  have hcl := cRes_len G
  have HR1 : Hid ((rRes G).toArray.all (·.oneCell') = true) := onea (rRes_one G)
  have HC1 : Hid ((cRes G).toArray.all (·.oneCell') = true) := onea (cRes_one G)
  generalize rRes G = RL at *
  generalize cRes G = CL at *
  have HRA : Hid _ := info33a RL.toArray (by simpa using hrl)
  have HCA : Hid _ := info10a CL.toArray (by simpa using hcl)
  have hzr := fun W => zero_rp W
  obtain ⟨RZ, hRZ⟩ : ∃ L, L = rpL Z32 0 := ⟨_, rfl⟩
  rw [← hRZ] at hzr
  have HRL : Hid (RZ.length = 33) := by show _ = _; rw [hRZ]; exact rpL_len _ _ z32_len
  clear hRZ
  have hzc := fun W => zero_rc W
  obtain ⟨CZ, hCZ⟩ : ∃ L, L = rcL 0 Z8 false := ⟨_, rfl⟩
  rw [← hCZ] at hzc
  have HCL : Hid (CZ.length = 10) := by show _ = _; rw [hCZ]; exact rcL_len _ _ _ z8_len
  clear hCZ
  have HRS : Hid (RZ.toArray.size = RL.toArray.size) := by show _ = _; simp [HRL.out, hrl]
  have HCS : Hid (CZ.toArray.size = CL.toArray.size) := by show _ = _; simp [HCL.out, hcl]
  have HGI : Hid ((Try.prog.info? 28).map (·.size) = some (G.map B8).length) := info128 _ (by simpa using hG)
  unfold kS
  generalize G.map B8 = GA at *
  have HW : Hid _ := BX.start w 28 GA
  have HG0 : Hid _ := rangeAt_row HW.out.gr
  clear hrl hcl hG
  generalize isR G = ra at *
  generalize isC G = ca at *
  cases ra
  · cases ca
    · go_enter Try.func23, Try.ntmps23
      go_wp2_with (refine wpList_load_mid rfl 28 _ rfl w.heap.size 0 rfl GA _ HG0.out Try.underlying28 rfl HGI.out ?_)
      refine Calls.mono (hR _) ?_
      rintro e w1 ⟨rfl, hb1⟩
      have HW1 : Hid _ := (HW.out.below hb1).below (below_new w1 (.cells RZ.toArray 26 (0, 0)) RL.toArray)
      have HN1 : Hid _ := heap_alloc_new w1 (.cells RZ.toArray 26 (0, 0))
      have HG1 : Hid _ := rangeAt_row HW1.out.gr
      clear hb1 HW HG0 hR
      go_wp2_with (first
        | (refine wpList_store_row rfl 26 _ _ rfl w1.heap.size RL.toArray rfl rfl 26 RZ.toArray HN1.out HRA.out HRS.out HR1.out ?_)
        | (refine wpList_load_mid rfl 28 _ rfl w.heap.size 0 rfl GA _ HG1.out Try.underlying28 rfl HGI.out ?_))
      refine Calls.mono (hC _) ?_
      rintro e w2 ⟨rfl, hb2⟩
      have HW2 : Hid _ := (HW1.out.below hb2).below (below_new w2 (.cells CZ.toArray 38 (0, 0)) CL.toArray)
      have HN2 : Hid _ := heap_alloc_new w2 (.cells CZ.toArray 38 (0, 0))
      clear hb2 HW1 HG1 hC
      go_wp2_with (refine wpList_store_row rfl 38 _ _ rfl w2.heap.size CL.toArray rfl rfl 38 CZ.toArray HN2.out HCA.out HCS.out HC1.out ?_)
      go_ret
      exact ⟨rfl, HW2.out.bel⟩
    · go_enter Try.func23, Try.ntmps23
      go_wp2_with (refine wpList_load_mid rfl 28 _ rfl w.heap.size 0 rfl GA _ HG0.out Try.underlying28 rfl HGI.out ?_)
      refine Calls.mono (hR _) ?_
      rintro e w1 ⟨rfl, hb1⟩
      have HW1 : Hid _ := (HW.out.below hb1).below (below_new w1 (.cells RZ.toArray 26 (0, 0)) RL.toArray)
      have HN1 : Hid _ := heap_alloc_new w1 (.cells RZ.toArray 26 (0, 0))
      have HG1 : Hid _ := rangeAt_row HW1.out.gr
      clear hb1 HW HG0 hR
      go_wp2_with (first
        | (refine wpList_store_row rfl 26 _ _ rfl w1.heap.size RL.toArray rfl rfl 26 RZ.toArray HN1.out HRA.out HRS.out HR1.out ?_)
        | (refine wpList_load_mid rfl 28 _ rfl w.heap.size 0 rfl GA _ HG1.out Try.underlying28 rfl HGI.out ?_))
      refine Calls.mono (hC _) ?_
      rintro e w2 ⟨rfl, hb2⟩
      have HW2 : Hid _ := (HW1.out.below hb2).below (below_new w2 (.cells CZ.toArray 38 (0, 0)) CL.toArray)
      have HN2 : Hid _ := heap_alloc_new w2 (.cells CZ.toArray 38 (0, 0))
      clear hb2 HW1 HG1 hC
      go_wp2_with (refine wpList_store_row rfl 38 _ _ rfl w2.heap.size CL.toArray rfl rfl 38 CZ.toArray HN2.out HCA.out HCS.out HC1.out ?_)
      go_ret
      exact ⟨rfl, HW2.out.bel⟩
  · go_enter Try.func23, Try.ntmps23
    go_wp2_with (refine wpList_load_mid rfl 28 _ rfl w.heap.size 0 rfl GA _ HG0.out Try.underlying28 rfl HGI.out ?_)
    refine Calls.mono (hR _) ?_
    rintro e w1 ⟨rfl, hb1⟩
    have HW1 : Hid _ := (HW.out.below hb1).below (below_new w1 (.cells RZ.toArray 26 (0, 0)) RL.toArray)
    have HN1 : Hid _ := heap_alloc_new w1 (.cells RZ.toArray 26 (0, 0))
    clear hb1 HW HG0 hR
    go_wp2_with (refine wpList_store_row rfl 26 _ _ rfl w1.heap.size RL.toArray rfl rfl 26 RZ.toArray HN1.out HRA.out HRS.out HR1.out ?_)
    go_ret
    exact ⟨rfl, HW1.out.bel⟩
/-- A granule, and one row; two rows. -/
structure RS1 (w : World) (tq : TypeId) (GA L : List Value) (b : Nat) (X : World) : Prop where
  bel : Below w.heap.size w X
  gr : X.heap[w.heap.size]? = some (.cells GA.toArray 28 (0, 0))
  c1 : X.heap[b]? = some (.cells L.toArray tq (0, 0))
structure RS (w : World) (tq : TypeId) (GA L : List Value) (b c : Nat) (X : World) : Prop where
  bel : Below w.heap.size w X
  gr : X.heap[w.heap.size]? = some (.cells GA.toArray 28 (0, 0))
  c1 : X.heap[b]? = some (.cells L.toArray tq (0, 0))
  c2 : X.heap[c]? = some (.cells L.toArray tq (0, 0))
theorem RS1.below {w : World} {tq : TypeId} {GA L : List Value} {b : Nat} {X Y : World} (h : RS1 w tq GA L b X) (hb : Below X.heap.size X Y) : RS1 w tq GA L b Y := by
  obtain ⟨h1, h2, h3⟩ := h
  exact ⟨h1.trans (hb.mono h1.size), (hb.block _ (row_lt h2)).trans h2, (hb.block _ (row_lt h3)).trans h3⟩
theorem RS.below {w : World} {tq : TypeId} {GA L : List Value} {b c : Nat} {X Y : World} (h : RS w tq GA L b c X) (hb : Below X.heap.size X Y) : RS w tq GA L b c Y := by
  obtain ⟨h1, h2, h3, h4⟩ := h
  exact ⟨h1.trans (hb.mono h1.size), (hb.block _ (row_lt h2)).trans h2, (hb.block _ (row_lt h3)).trans h3, (hb.block _ (row_lt h4)).trans h4⟩
theorem RS.bx {w : World} {tq : TypeId} {GA L : List Value} {b c : Nat} {X : World} (h : RS w tq GA L b c X) : BX w 28 GA X := ⟨h.bel, h.gr⟩
theorem BX.rs {w : World} {GA : List Value} {X : World} (h : BX w 28 GA X) (tq : TypeId) (Z L : List Value) : RS1 w tq GA L X.heap.size ((X.alloc (.cells Z.toArray tq (0, 0))).setRow X.heap.size L.toArray) := by
  have h2 := h.below (below_new X (.cells Z.toArray tq (0, 0)) L.toArray)
  exact ⟨h2.bel, h2.gr, setRow_heap _ _ _ _ _ _ (heap_alloc_new _ _)⟩
theorem RS1.rs {w : World} {tq : TypeId} {GA L : List Value} {b : Nat} {X : World} (h : RS1 w tq GA L b X) (Z : List Value) : RS w tq GA L b X.heap.size ((X.alloc (.cells Z.toArray tq (0, 0))).setRow X.heap.size L.toArray) := by
  have h2 := h.below (below_new X (.cells Z.toArray tq (0, 0)) L.toArray)
  exact ⟨h2.bel, h2.gr, h2.c1, setRow_heap _ _ _ _ _ _ (heap_alloc_new _ _)⟩
set_option maxHeartbeats 4000000 in
set_option maxRecDepth 100000 in
theorem reads_walk (G : List UInt8) (w : World) (hG : G.length = 128) :
    Calls Try.prog 5 #[.agg (G.map B8).toArray] w fun e w' => e = .returned (.bool true) ∧ Below w.heap.size w w' := by
  have hR := fun W => realm_any G W hG
  have hC := fun W => rec_any G W hG
  have hRR := fun W => rrealm_any G W hG
  have hRC := fun W => rrec_any G W hG
  have hKd := fun W => kind_any G W hG
  have hRK := fun W => rkind_any G W hG
  have hnum := fun e W => num_any e W
  have hkn := fun W => known_any W
  have hks : ((kS G).toList == (kS G).toList) = true := by simp
  have hrl := rRes_len G hG
  have hcl := cRes_len G
  have hER : ∀ W, (Op.equalIn 10000 26 (.agg (rRes G).toArray) (.agg (rRes G).toArray)).run Try.prog W = .ok true W := fun W => by
    unfold rRes
    split
    · exact eq_rp W _ _ (gV_len G hG)
    · exact eq_rp W _ _ z32_len
  have hEC : ∀ W, (Op.equalIn 10000 38 (.agg (cRes G).toArray) (.agg (cRes G).toArray)).run Try.prog W = .ok true W := fun W => by
    unfold cRes
    split
    · exact eq_rc W _ _ _ (gS_len G)
    · exact eq_rc W _ _ _ z8_len
  have HR1 : Hid ((rRes G).toArray.all (·.oneCell') = true) := onea (rRes_one G)
  have HC1 : Hid ((cRes G).toArray.all (·.oneCell') = true) := onea (cRes_one G)
  generalize rRes G = RL at *
  generalize cRes G = CL at *
  have HRA : Hid _ := info33a RL.toArray (by simpa using hrl)
  have HCA : Hid _ := info10a CL.toArray (by simpa using hcl)
  have HRI : Hid _ := info33 RL hrl
  have HCI : Hid _ := info10 CL hcl
  have hzr := fun W => zero_rp W
  obtain ⟨RZ, hRZ⟩ : ∃ L, L = rpL Z32 0 := ⟨_, rfl⟩
  rw [← hRZ] at hzr
  have HRL : Hid (RZ.length = 33) := by show _ = _; rw [hRZ]; exact rpL_len _ _ z32_len
  clear hRZ
  have hzc := fun W => zero_rc W
  obtain ⟨CZ, hCZ⟩ : ∃ L, L = rcL 0 Z8 false := ⟨_, rfl⟩
  rw [← hCZ] at hzc
  have HCL : Hid (CZ.length = 10) := by show _ = _; rw [hCZ]; exact rcL_len _ _ _ z8_len
  clear hCZ
  have HRS : Hid (RZ.toArray.size = RL.toArray.size) := by show _ = _; simp [HRL.out, hrl]
  have HCS : Hid (CZ.toArray.size = CL.toArray.size) := by show _ = _; simp [HCL.out, hcl]
  have HGI : Hid ((Try.prog.info? 28).map (·.size) = some (G.map B8).length) := info128 _ (by simpa using hG)
  unfold rErr at hR
  unfold cErr at hC
  generalize G.map B8 = GA at *
  generalize kS G = KS at *
  have HW : Hid _ := BX.start w 28 GA
  have HG0 : Hid _ := rangeAt_row HW.out.gr
  clear hrl hcl hG
  generalize isR G = ra at *
  generalize isC G = ca at *
  cases ra
  · rw [if_neg (by decide)] at hR
    cases ca
    · rw [if_neg (by decide)] at hC
      go_enter Try.func5, Try.ntmps5
      go_wp2_with (refine wpList_load_mid rfl 28 _ rfl w.heap.size 0 rfl GA _ HG0.out Try.underlying28 rfl HGI.out ?_)
      refine Calls.mono (hR _) ?_
      rintro e w1 ⟨rfl, hb1⟩
      have HN1 : Hid _ := heap_alloc_new w1 (.cells RZ.toArray 26 (0, 0))
      have HW1 : Hid _ := (HW.out.below hb1).rs 26 RZ RL
      have HG1 : Hid _ := rangeAt_row HW1.out.gr
      clear hb1 HW HG0 hR
      go_wp2_with (first
        | (refine wpList_store_row rfl 26 _ _ rfl w1.heap.size RL.toArray rfl rfl 26 RZ.toArray HN1.out HRA.out HRS.out HR1.out ?_)
        | (refine wpList_load_mid rfl 28 _ rfl w.heap.size 0 rfl GA _ HG1.out Try.underlying28 rfl HGI.out ?_))
      refine Calls.mono (hRR _) ?_
      rintro e w2 ⟨rfl, hb2⟩
      have HN2 : Hid _ := heap_alloc_new w2 (.cells RZ.toArray 26 (0, 0))
      have HW2 : Hid _ := (HW1.out.below hb2).rs RZ
      have HG2 : Hid _ := rangeAt_row HW2.out.gr
      have HA2 : Hid _ := rangeAt_row HW2.out.c1
      have HB2 : Hid _ := rangeAt_row HW2.out.c2
      clear hb2 HW1 HG1 hRR HN1
      go_wp2_with (first
        | (refine wpList_store_row rfl 26 _ _ rfl w2.heap.size RL.toArray rfl rfl 26 RZ.toArray HN2.out HRA.out HRS.out HR1.out ?_)
        | (refine wpList_load_mid rfl 26 _ rfl w1.heap.size 0 rfl RL _ HA2.out Try.underlying26 rfl HRI.out ?_)
        | (refine wpList_load_mid rfl 26 _ rfl w2.heap.size 0 rfl RL _ HB2.out Try.underlying26 rfl HRI.out ?_)
        | (go_at_call 11; refine Calls.mono (hnum _ _) ?_; rintro e w9 ⟨rfl, rfl⟩)
        | (refine wpList_load_mid rfl 28 _ rfl w.heap.size 0 rfl GA _ HG2.out Try.underlying28 rfl HGI.out ?_))
      refine Calls.mono (hC _) ?_
      rintro e w3 ⟨rfl, hb3⟩
      have HN3 : Hid _ := heap_alloc_new w3 (.cells CZ.toArray 38 (0, 0))
      have HW3 : Hid _ := (HW2.out.bx.below hb3).rs 38 CZ CL
      have HG3 : Hid _ := rangeAt_row HW3.out.gr
      clear hb3 HW2 HG2 HA2 HB2 hC HN2
      go_wp2_with (first
        | (refine wpList_store_row rfl 38 _ _ rfl w3.heap.size CL.toArray rfl rfl 38 CZ.toArray HN3.out HCA.out HCS.out HC1.out ?_)
        | (refine wpList_load_mid rfl 28 _ rfl w.heap.size 0 rfl GA _ HG3.out Try.underlying28 rfl HGI.out ?_))
      refine Calls.mono (hRC _) ?_
      rintro e w4 ⟨rfl, hb4⟩
      have HN4 : Hid _ := heap_alloc_new w4 (.cells CZ.toArray 38 (0, 0))
      have HW4 : Hid _ := ((HW3.out.below hb4).rs CZ).below (Below.refl _ _).drew
      clear hb4 HW3 HG3 hRC HN3
      go_wp2_with (refine wpList_store_row rfl 38 _ _ rfl w4.heap.size CL.toArray rfl rfl 38 CZ.toArray HN4.out HCA.out HCS.out HC1.out ?_)
      refine wp_region_held_drew (S := RS w 38 GA CL w3.heap.size w4.heap.size) (by kernel_rfl) HW4.out (fun hHeld => ?_)
      clear HW4
      refine wpAnyH_take (i := 0) (oi := { dst := some 50, op := Go.Op.load 38 (Go.Operand.tmp 7), type := 38, pos := _, after := #[], guard := none }) rfl (by kernel_rfl) (by kernel_rfl) (by kernel_rfl) (fun _ _ _ h => h) (yieldsIf_load_mid (by rfl) 38 (.tmp 7) rfl (w3.heap.size) (0) rfl (CL) _ (fun _ h => rangeAt_row h.c1) Try.underlying38 rfl HCI.out) hHeld ?_
      try simp only [Act.put, List.setIfInBounds_toArray, List.set_cons_zero, List.set_cons_succ]
      refine wpAnyH_take (i := 1) (oi := { dst := some 51, op := Go.Op.load 38 (Go.Operand.tmp 9), type := 38, pos := _, after := #[], guard := none }) rfl (by kernel_rfl) (by kernel_rfl) (by kernel_rfl) (fun _ _ _ h => h) (yieldsIf_load_mid (by rfl) 38 (.tmp 9) rfl (w4.heap.size) (0) rfl (CL) _ (fun _ h => rangeAt_row h.c2) Try.underlying38 rfl HCI.out) hHeld ?_
      try simp only [Act.put, List.setIfInBounds_toArray, List.set_cons_zero, List.set_cons_succ]
      refine wpAnyH_take (i := 2) (oi := { dst := some 52, op := Go.Op.binOp Go.BinOp.eql 38 (Go.Operand.tmp 50) (Go.Operand.tmp 51) 38, type := 4, pos := _, after := #[{ on := 0, ground := Go.Ground.data }, { on := 1, ground := Go.Ground.data }], guard := none }) (v := .bool true) rfl (by kernel_rfl) (by kernel_rfl) (by kernel_rfl) (fun _ _ _ h => h) (Or.inl ⟨by rfl, fun w' hw' => ?_⟩) hHeld ?_
      · first | (go_simp; done) | (go_simp; rfl)
      try simp only [Act.put, List.setIfInBounds_toArray, List.set_cons_zero, List.set_cons_succ]
      refine wpAnyH_take (i := 3) (oi := { dst := some 53, op := Go.Op.move (Go.Operand.tmp 52), type := 4, pos := _, after := #[{ on := 2, ground := Go.Ground.data }], guard := none }) (v := .bool true) rfl (by kernel_rfl) (by kernel_rfl) (by kernel_rfl) (fun _ _ _ h => h) (Or.inl ⟨by rfl, fun w' hw' => ?_⟩) hHeld ?_
      · first | (go_simp; done) | (go_simp; rfl)
      try simp only [Act.put, List.setIfInBounds_toArray, List.set_cons_zero, List.set_cons_succ]
      refine wpAnyH_take (i := 4) (oi := { dst := some 54, op := Go.Op.move (Go.Operand.tmp 8), type := 29, pos := _, after := #[{ on := 3, ground := Go.Ground.guard }], guard := some (3, true) }) (v := .int .i64 4) rfl (by kernel_rfl) (by kernel_rfl) (by kernel_rfl) (fun _ _ _ h => h) (Or.inl ⟨by rfl, fun w' hw' => ?_⟩) hHeld ?_
      · first | (go_simp; done) | (go_simp; rfl)
      try simp only [Act.put, List.setIfInBounds_toArray, List.set_cons_zero, List.set_cons_succ]
      refine wpAnyH_take (i := 7) (oi := { dst := some 57, op := Go.Op.move (Go.Operand.tmp 10), type := 4, pos := _, after := #[{ on := 3, ground := Go.Ground.guard }], guard := some (3, true) }) (v := .bool false) rfl (by kernel_rfl) (by kernel_rfl) (by kernel_rfl) (fun _ _ _ h => h) (Or.inl ⟨by rfl, fun w' hw' => ?_⟩) hHeld ?_
      · first | (go_simp; done) | (go_simp; rfl)
      try simp only [Act.put, List.setIfInBounds_toArray, List.set_cons_zero, List.set_cons_succ]
      refine wpAnyH_ready (rs := [5]) (by kernel_rfl) (by simp) ?_
      refine AllReadyH.cons (o := { dst := some 55, op := Go.Op.call { callee := Go.Callee.value (Go.Operand.func 11), args := #[Go.Operand.tmp 54], argTypes := #[29] }, type := 3, pos := _, after := #[{ on := 4, ground := Go.Ground.data }, { on := 3, ground := Go.Ground.chain }, { on := 3, ground := Go.Ground.guard }], guard := some (3, true) }) rfl (fun K hK => ?_) AllReadyH.nil
      rw [if_pos (by rfl)]
      go_wp2_with fail
      refine Calls.mono (hnum _ _) ?_
      rintro e w5 ⟨rfl, hw5⟩
      have hHeld5 : RS w 38 GA CL w3.heap.size w4.heap.size w5 := by rw [← hw5]; exact hHeld
      clear hHeld hw5
      refine hK.out _ _ hHeld5 (fun _ => ?_)
      clear hK K
      try simp only [Act.put, List.setIfInBounds_toArray, List.set_cons_zero, List.set_cons_succ]
      have hHeld := hHeld5
      refine wpAnyH_take (i := 6) (oi := { dst := some 56, op := Go.Op.binOp Go.BinOp.eql 3 (Go.Operand.tmp 55) (Go.Operand.const (Go.Value.int Go.IntKind.i64 0)) 3, type := 4, pos := _, after := #[{ on := 5, ground := Go.Ground.data }, { on := 3, ground := Go.Ground.guard }], guard := some (3, true) }) (v := .bool false) rfl (by kernel_rfl) (by kernel_rfl) (by kernel_rfl) (fun _ _ _ h => h) (Or.inl ⟨by rfl, fun w' hw' => ?_⟩) hHeld ?_
      · first | (go_simp; done) | (go_simp; rfl)
      try simp only [Act.put, List.setIfInBounds_toArray, List.set_cons_zero, List.set_cons_succ]
      refine wpAnyH_take (i := 8) (oi := { dst := some 58, op := Go.Op.binOp Go.BinOp.eql 4 (Go.Operand.tmp 56) (Go.Operand.tmp 57) 4, type := 4, pos := _, after := #[{ on := 6, ground := Go.Ground.data }, { on := 7, ground := Go.Ground.data }, { on := 3, ground := Go.Ground.guard }], guard := some (3, true) }) (v := .bool true) rfl (by kernel_rfl) (by kernel_rfl) (by kernel_rfl) (fun _ _ _ h => h) (Or.inl ⟨by rfl, fun w' hw' => ?_⟩) hHeld ?_
      · first | (go_simp; done) | (go_simp; rfl)
      try simp only [Act.put, List.setIfInBounds_toArray, List.set_cons_zero, List.set_cons_succ]
      refine wpAnyH_take (i := 9) (oi := { dst := some 59, op := Go.Op.pick (Go.Operand.tmp 53) (Go.Operand.tmp 58) (Go.Operand.const (Go.Value.bool false)), type := 4, pos := _, after := #[{ on := 3, ground := Go.Ground.data }, { on := 8, ground := Go.Ground.data }], guard := none }) (v := .bool true) rfl (by kernel_rfl) (by kernel_rfl) (by kernel_rfl) (fun _ _ _ h => h) (Or.inl ⟨by rfl, fun w' hw' => ?_⟩) hHeld ?_
      · first | (go_simp; done) | (go_simp; rfl)
      try simp only [Act.put, List.setIfInBounds_toArray, List.set_cons_zero, List.set_cons_succ]
      refine wpAnyH_take (i := 10) (oi := { dst := some 60, op := Go.Op.move (Go.Operand.tmp 59), type := 4, pos := _, after := #[{ on := 9, ground := Go.Ground.data }, { on := 5, ground := Go.Ground.chain }], guard := none }) (v := .bool true) rfl (by kernel_rfl) (by kernel_rfl) (by kernel_rfl) (fun _ _ _ h => h) (Or.inl ⟨by rfl, fun w' hw' => ?_⟩) hHeld ?_
      · first | (go_simp; done) | (go_simp; rfl)
      try simp only [Act.put, List.setIfInBounds_toArray, List.set_cons_zero, List.set_cons_succ]
      refine wpAnyH_take (i := 11) (oi := { dst := some 61, op := Go.Op.move (Go.Operand.tmp 10), type := 4, pos := _, after := #[{ on := 10, ground := Go.Ground.guard }], guard := some (10, true) }) (v := .bool false) rfl (by kernel_rfl) (by kernel_rfl) (by kernel_rfl) (fun _ _ _ h => h) (Or.inl ⟨by rfl, fun w' hw' => ?_⟩) hHeld ?_
      · first | (go_simp; done) | (go_simp; rfl)
      try simp only [Act.put, List.setIfInBounds_toArray, List.set_cons_zero, List.set_cons_succ]
      refine wpAnyH_take (i := 12) (oi := { dst := some 62, op := Go.Op.move (Go.Operand.tmp 61), type := 4, pos := _, after := #[{ on := 11, ground := Go.Ground.data }, { on := 10, ground := Go.Ground.chain }, { on := 10, ground := Go.Ground.guard }], guard := some (10, true) }) (v := .bool false) rfl (by kernel_rfl) (by kernel_rfl) (by kernel_rfl) (fun _ _ _ h => h) (Or.inl ⟨by rfl, fun w' hw' => ?_⟩) hHeld ?_
      · first | (go_simp; done) | (go_simp; rfl)
      try simp only [Act.put, List.setIfInBounds_toArray, List.set_cons_zero, List.set_cons_succ]
      refine wpAnyH_take (i := 13) (oi := { dst := some 63, op := Go.Op.move (Go.Operand.tmp 8), type := 29, pos := _, after := #[{ on := 12, ground := Go.Ground.guard }], guard := some (12, false) }) (v := .int .i64 4) rfl (by kernel_rfl) (by kernel_rfl) (by kernel_rfl) (fun _ _ _ h => h) (Or.inl ⟨by rfl, fun w' hw' => ?_⟩) hHeld ?_
      · first | (go_simp; done) | (go_simp; rfl)
      try simp only [Act.put, List.setIfInBounds_toArray, List.set_cons_zero, List.set_cons_succ]
      refine wpAnyH_ready (rs := [14]) (by kernel_rfl) (by simp) ?_
      refine AllReadyH.cons (o := { dst := some 64, op := Go.Op.call { callee := Go.Callee.value (Go.Operand.func 11), args := #[Go.Operand.tmp 63], argTypes := #[29] }, type := 3, pos := _, after := #[{ on := 13, ground := Go.Ground.data }, { on := 12, ground := Go.Ground.chain }, { on := 12, ground := Go.Ground.guard }], guard := some (12, false) }) rfl (fun K hK => ?_) AllReadyH.nil
      rw [if_pos (by rfl)]
      go_wp2_with fail
      refine Calls.mono (hnum _ _) ?_
      rintro e w9 ⟨rfl, hw9⟩
      have hHeld9 : RS w 38 GA CL w3.heap.size w4.heap.size w9 := by rw [← hw9]; exact hHeld5
      clear hHeld hHeld5 hw9
      refine hK.out _ _ hHeld9 (fun _ => ?_)
      clear hK K
      try simp only [Act.put, List.setIfInBounds_toArray, List.set_cons_zero, List.set_cons_succ]
      have hHeld := hHeld9
      clear hHeld9
      refine wpAnyH_take (i := 15) (oi := { dst := some 65, op := Go.Op.binOp Go.BinOp.eql 3 (Go.Operand.tmp 64) (Go.Operand.const (Go.Value.int Go.IntKind.i64 4)) 3, type := 4, pos := _, after := #[{ on := 14, ground := Go.Ground.data }, { on := 12, ground := Go.Ground.guard }], guard := some (12, false) }) (v := .bool true) rfl (by kernel_rfl) (by kernel_rfl) (by kernel_rfl) (fun _ _ _ h => h) (Or.inl ⟨by rfl, fun w' hw' => ?_⟩) hHeld ?_
      · first | (go_simp; done) | (go_simp; rfl)
      try simp only [Act.put, List.setIfInBounds_toArray, List.set_cons_zero, List.set_cons_succ]
      refine wpAnyH_take (i := 16) (oi := { dst := some 66, op := Go.Op.pick (Go.Operand.tmp 62) (Go.Operand.const (Go.Value.bool true)) (Go.Operand.tmp 65), type := 4, pos := _, after := #[{ on := 12, ground := Go.Ground.data }, { on := 15, ground := Go.Ground.data }, { on := 10, ground := Go.Ground.guard }], guard := some (10, true) }) (v := .bool true) rfl (by kernel_rfl) (by kernel_rfl) (by kernel_rfl) (fun _ _ _ h => h) (Or.inl ⟨by rfl, fun w' hw' => ?_⟩) hHeld ?_
      · first | (go_simp; done) | (go_simp; rfl)
      try simp only [Act.put, List.setIfInBounds_toArray, List.set_cons_zero, List.set_cons_succ]
      refine wpAnyH_take (i := 17) (oi := { dst := some 67, op := Go.Op.pick (Go.Operand.tmp 60) (Go.Operand.tmp 66) (Go.Operand.const (Go.Value.bool false)), type := 4, pos := _, after := #[{ on := 10, ground := Go.Ground.data }, { on := 16, ground := Go.Ground.data }], guard := none }) (v := .bool true) rfl (by kernel_rfl) (by kernel_rfl) (by kernel_rfl) (fun _ _ _ h => h) (Or.inl ⟨by rfl, fun w' hw' => ?_⟩) hHeld ?_
      · first | (go_simp; done) | (go_simp; rfl)
      try simp only [Act.put, List.setIfInBounds_toArray, List.set_cons_zero, List.set_cons_succ]
      refine wpAnyH_take (i := 18) (oi := { dst := some 68, op := Go.Op.move (Go.Operand.tmp 67), type := 4, pos := _, after := #[{ on := 17, ground := Go.Ground.data }, { on := 14, ground := Go.Ground.chain }], guard := none }) (v := .bool true) rfl (by kernel_rfl) (by kernel_rfl) (by kernel_rfl) (fun _ _ _ h => h) (Or.inl ⟨by rfl, fun w' hw' => ?_⟩) hHeld ?_
      · first | (go_simp; done) | (go_simp; rfl)
      try simp only [Act.put, List.setIfInBounds_toArray, List.set_cons_zero, List.set_cons_succ]
      refine wpAnyH_take (i := 19) (oi := { dst := some 69, op := Go.Op.load 28 (Go.Operand.tmp 1), type := 28, pos := _, after := #[{ on := 18, ground := Go.Ground.guard }], guard := some (18, true) }) rfl (by kernel_rfl) (by kernel_rfl) (by kernel_rfl) (fun _ _ _ h => h) (yieldsIf_load_mid (by rfl) 28 (.tmp 1) rfl (w.heap.size) (0) rfl (GA) _ (fun _ h => rangeAt_row h.gr) Try.underlying28 rfl HGI.out) hHeld ?_
      try simp only [Act.put, List.setIfInBounds_toArray, List.set_cons_zero, List.set_cons_succ]
      refine wpAnyH_take (i := 21) (oi := { dst := some 71, op := Go.Op.load 28 (Go.Operand.tmp 1), type := 28, pos := _, after := #[{ on := 18, ground := Go.Ground.guard }], guard := some (18, true) }) rfl (by kernel_rfl) (by kernel_rfl) (by kernel_rfl) (fun _ _ _ h => h) (yieldsIf_load_mid (by rfl) 28 (.tmp 1) rfl (w.heap.size) (0) rfl (GA) _ (fun _ h => rangeAt_row h.gr) Try.underlying28 rfl HGI.out) hHeld ?_
      try simp only [Act.put, List.setIfInBounds_toArray, List.set_cons_zero, List.set_cons_succ]
      refine wpAnyH_ready (rs := [20]) (by kernel_rfl) (by simp) ?_
      refine AllReadyH.cons (o := { dst := some 70, op := Go.Op.call { callee := Go.Callee.value (Go.Operand.func 22), args := #[Go.Operand.tmp 69], argTypes := #[28] }, type := 9, pos := _, after := #[{ on := 19, ground := Go.Ground.data }, { on := 18, ground := Go.Ground.chain }, { on := 18, ground := Go.Ground.guard }], guard := some (18, true) }) rfl (fun K hK => ?_) AllReadyH.nil
      rw [if_pos (by rfl)]
      go_wp2_with fail
      refine Calls.mono (hKd _) ?_
      rintro e w6 ⟨rfl, hb6⟩
      have hHeld6 := hHeld.below hb6
      clear hHeld hb6
      refine hK.out _ _ hHeld6 (fun _ => ?_)
      clear hK K
      try simp only [Act.put, List.setIfInBounds_toArray, List.set_cons_zero, List.set_cons_succ]
      refine wpAnyH_ready (rs := [22]) (by kernel_rfl) (by simp) ?_
      refine AllReadyH.cons (o := { dst := some 72, op := Go.Op.call { callee := Go.Callee.value (Go.Operand.func 23), args := #[Go.Operand.tmp 71], argTypes := #[28] }, type := 9, pos := _, after := #[{ on := 21, ground := Go.Ground.data }, { on := 20, ground := Go.Ground.chain }, { on := 18, ground := Go.Ground.guard }], guard := some (18, true) }) rfl (fun K hK => ?_) AllReadyH.nil
      rw [if_pos (by rfl)]
      go_wp2_with fail
      refine Calls.mono (hRK _) ?_
      rintro e w7 ⟨rfl, hb7⟩
      have hHeld7 := hHeld6.below hb7
      clear hHeld6 hb7
      refine hK.out _ _ hHeld7 (fun _ => ?_)
      clear hK K
      try simp only [Act.put, List.setIfInBounds_toArray, List.set_cons_zero, List.set_cons_succ]
      have hHeld := hHeld7
      refine wpAnyH_take (i := 23) (oi := { dst := some 73, op := Go.Op.binOp Go.BinOp.eql 9 (Go.Operand.tmp 70) (Go.Operand.tmp 72) 9, type := 4, pos := _, after := #[{ on := 20, ground := Go.Ground.data }, { on := 22, ground := Go.Ground.data }, { on := 18, ground := Go.Ground.guard }], guard := some (18, true) }) (v := .bool true) rfl (by kernel_rfl) (by kernel_rfl) (by kernel_rfl) (fun _ _ _ h => h) (Or.inl ⟨by rfl, fun w' hw' => ?_⟩) hHeld ?_
      · first | (go_simp; done) | (go_simp; rfl)
      try simp only [Act.put, List.setIfInBounds_toArray, List.set_cons_zero, List.set_cons_succ]
      refine wpAnyH_take (i := 24) (oi := { dst := some 74, op := Go.Op.pick (Go.Operand.tmp 68) (Go.Operand.tmp 73) (Go.Operand.const (Go.Value.bool false)), type := 4, pos := _, after := #[{ on := 18, ground := Go.Ground.data }, { on := 23, ground := Go.Ground.data }], guard := none }) (v := .bool true) rfl (by kernel_rfl) (by kernel_rfl) (by kernel_rfl) (fun _ _ _ h => h) (Or.inl ⟨by rfl, fun w' hw' => ?_⟩) hHeld ?_
      · first | (go_simp; done) | (go_simp; rfl)
      try simp only [Act.put, List.setIfInBounds_toArray, List.set_cons_zero, List.set_cons_succ]
      refine wpAnyH_take (i := 25) (oi := { dst := some 75, op := Go.Op.move (Go.Operand.tmp 74), type := 4, pos := _, after := #[{ on := 24, ground := Go.Ground.data }, { on := 22, ground := Go.Ground.chain }], guard := none }) (v := .bool true) rfl (by kernel_rfl) (by kernel_rfl) (by kernel_rfl) (fun _ _ _ h => h) (Or.inl ⟨by rfl, fun w' hw' => ?_⟩) hHeld ?_
      · first | (go_simp; done) | (go_simp; rfl)
      try simp only [Act.put, List.setIfInBounds_toArray, List.set_cons_zero, List.set_cons_succ]
      refine wpAnyH_ready (rs := [26]) (by kernel_rfl) (by simp) ?_
      refine AllReadyH.cons (o := { dst := some 76, op := Go.Op.call { callee := Go.Callee.value (Go.Operand.func 12), args := #[], argTypes := #[] }, type := 4, pos := _, after := #[{ on := 25, ground := Go.Ground.chain }, { on := 25, ground := Go.Ground.guard }], guard := some (25, true) }) rfl (fun K hK => ?_) AllReadyH.nil
      rw [if_pos (by rfl)]
      go_wp2_with fail
      refine Calls.mono (hkn _) ?_
      rintro e w8 ⟨rfl, hb8⟩
      have hHeld8 := hHeld7.below hb8
      clear hHeld hHeld7 hb8
      refine hK.out _ _ hHeld8 (fun _ => ?_)
      clear hK K
      try simp only [Act.put, List.setIfInBounds_toArray, List.set_cons_zero, List.set_cons_succ]
      have hHeld := hHeld8
      refine wpAnyH_take (i := 27) (oi := { dst := some 77, op := Go.Op.pick (Go.Operand.tmp 75) (Go.Operand.tmp 76) (Go.Operand.const (Go.Value.bool false)), type := 4, pos := _, after := #[{ on := 25, ground := Go.Ground.data }, { on := 26, ground := Go.Ground.data }], guard := none }) (v := .bool true) rfl (by kernel_rfl) (by kernel_rfl) (by kernel_rfl) (fun _ _ _ h => h) (Or.inl ⟨by rfl, fun w' hw' => ?_⟩) hHeld ?_
      · first | (go_simp; done) | (go_simp; rfl)
      try simp only [Act.put, List.setIfInBounds_toArray, List.set_cons_zero, List.set_cons_succ]
      refine wpAnyH_take (i := 28) (oi := { dst := some 2, op := Go.Op.assign (Go.Operand.tmp 77), type := 4, pos := _, after := #[{ on := 27, ground := Go.Ground.data }, { on := 26, ground := Go.Ground.chain }, { on := 0, ground := Go.Ground.phase }, { on := 1, ground := Go.Ground.phase }, { on := 2, ground := Go.Ground.phase }, { on := 3, ground := Go.Ground.phase }, { on := 4, ground := Go.Ground.phase }, { on := 5, ground := Go.Ground.phase }, { on := 6, ground := Go.Ground.phase }, { on := 7, ground := Go.Ground.phase }, { on := 8, ground := Go.Ground.phase }, { on := 9, ground := Go.Ground.phase }, { on := 10, ground := Go.Ground.phase }, { on := 11, ground := Go.Ground.phase }, { on := 12, ground := Go.Ground.phase }, { on := 13, ground := Go.Ground.phase }, { on := 14, ground := Go.Ground.phase }, { on := 15, ground := Go.Ground.phase }, { on := 16, ground := Go.Ground.phase }, { on := 17, ground := Go.Ground.phase }, { on := 18, ground := Go.Ground.phase }, { on := 19, ground := Go.Ground.phase }, { on := 20, ground := Go.Ground.phase }, { on := 21, ground := Go.Ground.phase }, { on := 22, ground := Go.Ground.phase }, { on := 23, ground := Go.Ground.phase }, { on := 24, ground := Go.Ground.phase }, { on := 25, ground := Go.Ground.phase }, { on := 26, ground := Go.Ground.phase }, { on := 27, ground := Go.Ground.phase }], guard := none }) (v := .bool true) rfl (by kernel_rfl) (by kernel_rfl) (by kernel_rfl) (fun _ _ _ h => h) (Or.inl ⟨by rfl, fun w' hw' => ?_⟩) hHeld ?_
      · first | (go_simp; done) | (go_simp; rfl)
      try simp only [Act.put, List.setIfInBounds_toArray, List.set_cons_zero, List.set_cons_succ]
      refine wpAnyH_done (by kernel_rfl) ?_ _
      have HB8 : Hid _ := hHeld8.bel
      clear hHeld hHeld8
      go_wp2
      go_ret
      exact ⟨rfl, HB8.out⟩
    · rw [if_pos rfl] at hC
      go_enter Try.func5, Try.ntmps5
      go_wp2_with (refine wpList_load_mid rfl 28 _ rfl w.heap.size 0 rfl GA _ HG0.out Try.underlying28 rfl HGI.out ?_)
      refine Calls.mono (hR _) ?_
      rintro e w1 ⟨rfl, hb1⟩
      have HN1 : Hid _ := heap_alloc_new w1 (.cells RZ.toArray 26 (0, 0))
      have HW1 : Hid _ := (HW.out.below hb1).rs 26 RZ RL
      have HG1 : Hid _ := rangeAt_row HW1.out.gr
      clear hb1 HW HG0 hR
      go_wp2_with (first
        | (refine wpList_store_row rfl 26 _ _ rfl w1.heap.size RL.toArray rfl rfl 26 RZ.toArray HN1.out HRA.out HRS.out HR1.out ?_)
        | (refine wpList_load_mid rfl 28 _ rfl w.heap.size 0 rfl GA _ HG1.out Try.underlying28 rfl HGI.out ?_))
      refine Calls.mono (hRR _) ?_
      rintro e w2 ⟨rfl, hb2⟩
      have HN2 : Hid _ := heap_alloc_new w2 (.cells RZ.toArray 26 (0, 0))
      have HW2 : Hid _ := (HW1.out.below hb2).rs RZ
      have HG2 : Hid _ := rangeAt_row HW2.out.gr
      have HA2 : Hid _ := rangeAt_row HW2.out.c1
      have HB2 : Hid _ := rangeAt_row HW2.out.c2
      clear hb2 HW1 HG1 hRR HN1
      go_wp2_with (first
        | (refine wpList_store_row rfl 26 _ _ rfl w2.heap.size RL.toArray rfl rfl 26 RZ.toArray HN2.out HRA.out HRS.out HR1.out ?_)
        | (refine wpList_load_mid rfl 26 _ rfl w1.heap.size 0 rfl RL _ HA2.out Try.underlying26 rfl HRI.out ?_)
        | (refine wpList_load_mid rfl 26 _ rfl w2.heap.size 0 rfl RL _ HB2.out Try.underlying26 rfl HRI.out ?_)
        | (go_at_call 11; refine Calls.mono (hnum _ _) ?_; rintro e w9 ⟨rfl, rfl⟩)
        | (refine wpList_load_mid rfl 28 _ rfl w.heap.size 0 rfl GA _ HG2.out Try.underlying28 rfl HGI.out ?_))
      refine Calls.mono (hC _) ?_
      rintro e w3 ⟨rfl, hb3⟩
      have HN3 : Hid _ := heap_alloc_new w3 (.cells CZ.toArray 38 (0, 0))
      have HW3 : Hid _ := (HW2.out.bx.below hb3).rs 38 CZ CL
      have HG3 : Hid _ := rangeAt_row HW3.out.gr
      clear hb3 HW2 HG2 HA2 HB2 hC HN2
      go_wp2_with (first
        | (refine wpList_store_row rfl 38 _ _ rfl w3.heap.size CL.toArray rfl rfl 38 CZ.toArray HN3.out HCA.out HCS.out HC1.out ?_)
        | (refine wpList_load_mid rfl 28 _ rfl w.heap.size 0 rfl GA _ HG3.out Try.underlying28 rfl HGI.out ?_))
      refine Calls.mono (hRC _) ?_
      rintro e w4 ⟨rfl, hb4⟩
      have HN4 : Hid _ := heap_alloc_new w4 (.cells CZ.toArray 38 (0, 0))
      have HW4 : Hid _ := ((HW3.out.below hb4).rs CZ).below (Below.refl _ _).drew
      clear hb4 HW3 HG3 hRC HN3
      go_wp2_with (refine wpList_store_row rfl 38 _ _ rfl w4.heap.size CL.toArray rfl rfl 38 CZ.toArray HN4.out HCA.out HCS.out HC1.out ?_)
      refine wp_region_held_drew (S := RS w 38 GA CL w3.heap.size w4.heap.size) (by kernel_rfl) HW4.out (fun hHeld => ?_)
      clear HW4
      refine wpAnyH_take (i := 0) (oi := { dst := some 50, op := Go.Op.load 38 (Go.Operand.tmp 7), type := 38, pos := _, after := #[], guard := none }) rfl (by kernel_rfl) (by kernel_rfl) (by kernel_rfl) (fun _ _ _ h => h) (yieldsIf_load_mid (by rfl) 38 (.tmp 7) rfl (w3.heap.size) (0) rfl (CL) _ (fun _ h => rangeAt_row h.c1) Try.underlying38 rfl HCI.out) hHeld ?_
      try simp only [Act.put, List.setIfInBounds_toArray, List.set_cons_zero, List.set_cons_succ]
      refine wpAnyH_take (i := 1) (oi := { dst := some 51, op := Go.Op.load 38 (Go.Operand.tmp 9), type := 38, pos := _, after := #[], guard := none }) rfl (by kernel_rfl) (by kernel_rfl) (by kernel_rfl) (fun _ _ _ h => h) (yieldsIf_load_mid (by rfl) 38 (.tmp 9) rfl (w4.heap.size) (0) rfl (CL) _ (fun _ h => rangeAt_row h.c2) Try.underlying38 rfl HCI.out) hHeld ?_
      try simp only [Act.put, List.setIfInBounds_toArray, List.set_cons_zero, List.set_cons_succ]
      refine wpAnyH_take (i := 2) (oi := { dst := some 52, op := Go.Op.binOp Go.BinOp.eql 38 (Go.Operand.tmp 50) (Go.Operand.tmp 51) 38, type := 4, pos := _, after := #[{ on := 0, ground := Go.Ground.data }, { on := 1, ground := Go.Ground.data }], guard := none }) (v := .bool true) rfl (by kernel_rfl) (by kernel_rfl) (by kernel_rfl) (fun _ _ _ h => h) (Or.inl ⟨by rfl, fun w' hw' => ?_⟩) hHeld ?_
      · first | (go_simp; done) | (go_simp; rfl)
      try simp only [Act.put, List.setIfInBounds_toArray, List.set_cons_zero, List.set_cons_succ]
      refine wpAnyH_take (i := 3) (oi := { dst := some 53, op := Go.Op.move (Go.Operand.tmp 52), type := 4, pos := _, after := #[{ on := 2, ground := Go.Ground.data }], guard := none }) (v := .bool true) rfl (by kernel_rfl) (by kernel_rfl) (by kernel_rfl) (fun _ _ _ h => h) (Or.inl ⟨by rfl, fun w' hw' => ?_⟩) hHeld ?_
      · first | (go_simp; done) | (go_simp; rfl)
      try simp only [Act.put, List.setIfInBounds_toArray, List.set_cons_zero, List.set_cons_succ]
      refine wpAnyH_take (i := 4) (oi := { dst := some 54, op := Go.Op.move (Go.Operand.tmp 8), type := 29, pos := _, after := #[{ on := 3, ground := Go.Ground.guard }], guard := some (3, true) }) (v := .int .i64 0) rfl (by kernel_rfl) (by kernel_rfl) (by kernel_rfl) (fun _ _ _ h => h) (Or.inl ⟨by rfl, fun w' hw' => ?_⟩) hHeld ?_
      · first | (go_simp; done) | (go_simp; rfl)
      try simp only [Act.put, List.setIfInBounds_toArray, List.set_cons_zero, List.set_cons_succ]
      refine wpAnyH_take (i := 7) (oi := { dst := some 57, op := Go.Op.move (Go.Operand.tmp 10), type := 4, pos := _, after := #[{ on := 3, ground := Go.Ground.guard }], guard := some (3, true) }) (v := .bool true) rfl (by kernel_rfl) (by kernel_rfl) (by kernel_rfl) (fun _ _ _ h => h) (Or.inl ⟨by rfl, fun w' hw' => ?_⟩) hHeld ?_
      · first | (go_simp; done) | (go_simp; rfl)
      try simp only [Act.put, List.setIfInBounds_toArray, List.set_cons_zero, List.set_cons_succ]
      refine wpAnyH_ready (rs := [5]) (by kernel_rfl) (by simp) ?_
      refine AllReadyH.cons (o := { dst := some 55, op := Go.Op.call { callee := Go.Callee.value (Go.Operand.func 11), args := #[Go.Operand.tmp 54], argTypes := #[29] }, type := 3, pos := _, after := #[{ on := 4, ground := Go.Ground.data }, { on := 3, ground := Go.Ground.chain }, { on := 3, ground := Go.Ground.guard }], guard := some (3, true) }) rfl (fun K hK => ?_) AllReadyH.nil
      rw [if_pos (by rfl)]
      go_wp2_with fail
      refine Calls.mono (hnum _ _) ?_
      rintro e w5 ⟨rfl, hw5⟩
      have hHeld5 : RS w 38 GA CL w3.heap.size w4.heap.size w5 := by rw [← hw5]; exact hHeld
      clear hHeld hw5
      refine hK.out _ _ hHeld5 (fun _ => ?_)
      clear hK K
      try simp only [Act.put, List.setIfInBounds_toArray, List.set_cons_zero, List.set_cons_succ]
      have hHeld := hHeld5
      refine wpAnyH_take (i := 6) (oi := { dst := some 56, op := Go.Op.binOp Go.BinOp.eql 3 (Go.Operand.tmp 55) (Go.Operand.const (Go.Value.int Go.IntKind.i64 0)) 3, type := 4, pos := _, after := #[{ on := 5, ground := Go.Ground.data }, { on := 3, ground := Go.Ground.guard }], guard := some (3, true) }) (v := .bool true) rfl (by kernel_rfl) (by kernel_rfl) (by kernel_rfl) (fun _ _ _ h => h) (Or.inl ⟨by rfl, fun w' hw' => ?_⟩) hHeld ?_
      · first | (go_simp; done) | (go_simp; rfl)
      try simp only [Act.put, List.setIfInBounds_toArray, List.set_cons_zero, List.set_cons_succ]
      refine wpAnyH_take (i := 8) (oi := { dst := some 58, op := Go.Op.binOp Go.BinOp.eql 4 (Go.Operand.tmp 56) (Go.Operand.tmp 57) 4, type := 4, pos := _, after := #[{ on := 6, ground := Go.Ground.data }, { on := 7, ground := Go.Ground.data }, { on := 3, ground := Go.Ground.guard }], guard := some (3, true) }) (v := .bool true) rfl (by kernel_rfl) (by kernel_rfl) (by kernel_rfl) (fun _ _ _ h => h) (Or.inl ⟨by rfl, fun w' hw' => ?_⟩) hHeld ?_
      · first | (go_simp; done) | (go_simp; rfl)
      try simp only [Act.put, List.setIfInBounds_toArray, List.set_cons_zero, List.set_cons_succ]
      refine wpAnyH_take (i := 9) (oi := { dst := some 59, op := Go.Op.pick (Go.Operand.tmp 53) (Go.Operand.tmp 58) (Go.Operand.const (Go.Value.bool false)), type := 4, pos := _, after := #[{ on := 3, ground := Go.Ground.data }, { on := 8, ground := Go.Ground.data }], guard := none }) (v := .bool true) rfl (by kernel_rfl) (by kernel_rfl) (by kernel_rfl) (fun _ _ _ h => h) (Or.inl ⟨by rfl, fun w' hw' => ?_⟩) hHeld ?_
      · first | (go_simp; done) | (go_simp; rfl)
      try simp only [Act.put, List.setIfInBounds_toArray, List.set_cons_zero, List.set_cons_succ]
      refine wpAnyH_take (i := 10) (oi := { dst := some 60, op := Go.Op.move (Go.Operand.tmp 59), type := 4, pos := _, after := #[{ on := 9, ground := Go.Ground.data }, { on := 5, ground := Go.Ground.chain }], guard := none }) (v := .bool true) rfl (by kernel_rfl) (by kernel_rfl) (by kernel_rfl) (fun _ _ _ h => h) (Or.inl ⟨by rfl, fun w' hw' => ?_⟩) hHeld ?_
      · first | (go_simp; done) | (go_simp; rfl)
      try simp only [Act.put, List.setIfInBounds_toArray, List.set_cons_zero, List.set_cons_succ]
      refine wpAnyH_take (i := 11) (oi := { dst := some 61, op := Go.Op.move (Go.Operand.tmp 10), type := 4, pos := _, after := #[{ on := 10, ground := Go.Ground.guard }], guard := some (10, true) }) (v := .bool true) rfl (by kernel_rfl) (by kernel_rfl) (by kernel_rfl) (fun _ _ _ h => h) (Or.inl ⟨by rfl, fun w' hw' => ?_⟩) hHeld ?_
      · first | (go_simp; done) | (go_simp; rfl)
      try simp only [Act.put, List.setIfInBounds_toArray, List.set_cons_zero, List.set_cons_succ]
      refine wpAnyH_take (i := 12) (oi := { dst := some 62, op := Go.Op.move (Go.Operand.tmp 61), type := 4, pos := _, after := #[{ on := 11, ground := Go.Ground.data }, { on := 10, ground := Go.Ground.chain }, { on := 10, ground := Go.Ground.guard }], guard := some (10, true) }) (v := .bool true) rfl (by kernel_rfl) (by kernel_rfl) (by kernel_rfl) (fun _ _ _ h => h) (Or.inl ⟨by rfl, fun w' hw' => ?_⟩) hHeld ?_
      · first | (go_simp; done) | (go_simp; rfl)
      try simp only [Act.put, List.setIfInBounds_toArray, List.set_cons_zero, List.set_cons_succ]
      refine wpAnyH_take (i := 13) (oi := { dst := some 63, op := Go.Op.move (Go.Operand.tmp 8), type := 29, pos := _, after := #[{ on := 12, ground := Go.Ground.guard }], guard := some (12, false) }) (v := undef) rfl (by kernel_rfl) (by kernel_rfl) (by kernel_rfl) (fun _ _ _ h => h) (Or.inr ⟨by rfl, rfl⟩) hHeld ?_
      try simp only [Act.put, List.setIfInBounds_toArray, List.set_cons_zero, List.set_cons_succ]
      refine wpAnyH_take (i := 14) (oi := { dst := some 64, op := Go.Op.call { callee := Go.Callee.value (Go.Operand.func 11), args := #[Go.Operand.tmp 63], argTypes := #[29] }, type := 3, pos := _, after := #[{ on := 13, ground := Go.Ground.data }, { on := 12, ground := Go.Ground.chain }, { on := 12, ground := Go.Ground.guard }], guard := some (12, false) }) (v := undef) rfl (by kernel_rfl) (by kernel_rfl) (by kernel_rfl) (fun _ _ _ h => h) (Or.inr ⟨by rfl, rfl⟩) hHeld ?_
      try simp only [Act.put, List.setIfInBounds_toArray, List.set_cons_zero, List.set_cons_succ]
      refine wpAnyH_take (i := 15) (oi := { dst := some 65, op := Go.Op.binOp Go.BinOp.eql 3 (Go.Operand.tmp 64) (Go.Operand.const (Go.Value.int Go.IntKind.i64 4)) 3, type := 4, pos := _, after := #[{ on := 14, ground := Go.Ground.data }, { on := 12, ground := Go.Ground.guard }], guard := some (12, false) }) (v := undef) rfl (by kernel_rfl) (by kernel_rfl) (by kernel_rfl) (fun _ _ _ h => h) (Or.inr ⟨by rfl, rfl⟩) hHeld ?_
      try simp only [Act.put, List.setIfInBounds_toArray, List.set_cons_zero, List.set_cons_succ]
      clear hHeld5
      refine wpAnyH_take (i := 16) (oi := { dst := some 66, op := Go.Op.pick (Go.Operand.tmp 62) (Go.Operand.const (Go.Value.bool true)) (Go.Operand.tmp 65), type := 4, pos := _, after := #[{ on := 12, ground := Go.Ground.data }, { on := 15, ground := Go.Ground.data }, { on := 10, ground := Go.Ground.guard }], guard := some (10, true) }) (v := .bool true) rfl (by kernel_rfl) (by kernel_rfl) (by kernel_rfl) (fun _ _ _ h => h) (Or.inl ⟨by rfl, fun w' hw' => ?_⟩) hHeld ?_
      · first | (go_simp; done) | (go_simp; rfl)
      try simp only [Act.put, List.setIfInBounds_toArray, List.set_cons_zero, List.set_cons_succ]
      refine wpAnyH_take (i := 17) (oi := { dst := some 67, op := Go.Op.pick (Go.Operand.tmp 60) (Go.Operand.tmp 66) (Go.Operand.const (Go.Value.bool false)), type := 4, pos := _, after := #[{ on := 10, ground := Go.Ground.data }, { on := 16, ground := Go.Ground.data }], guard := none }) (v := .bool true) rfl (by kernel_rfl) (by kernel_rfl) (by kernel_rfl) (fun _ _ _ h => h) (Or.inl ⟨by rfl, fun w' hw' => ?_⟩) hHeld ?_
      · first | (go_simp; done) | (go_simp; rfl)
      try simp only [Act.put, List.setIfInBounds_toArray, List.set_cons_zero, List.set_cons_succ]
      refine wpAnyH_take (i := 18) (oi := { dst := some 68, op := Go.Op.move (Go.Operand.tmp 67), type := 4, pos := _, after := #[{ on := 17, ground := Go.Ground.data }, { on := 14, ground := Go.Ground.chain }], guard := none }) (v := .bool true) rfl (by kernel_rfl) (by kernel_rfl) (by kernel_rfl) (fun _ _ _ h => h) (Or.inl ⟨by rfl, fun w' hw' => ?_⟩) hHeld ?_
      · first | (go_simp; done) | (go_simp; rfl)
      try simp only [Act.put, List.setIfInBounds_toArray, List.set_cons_zero, List.set_cons_succ]
      refine wpAnyH_take (i := 19) (oi := { dst := some 69, op := Go.Op.load 28 (Go.Operand.tmp 1), type := 28, pos := _, after := #[{ on := 18, ground := Go.Ground.guard }], guard := some (18, true) }) rfl (by kernel_rfl) (by kernel_rfl) (by kernel_rfl) (fun _ _ _ h => h) (yieldsIf_load_mid (by rfl) 28 (.tmp 1) rfl (w.heap.size) (0) rfl (GA) _ (fun _ h => rangeAt_row h.gr) Try.underlying28 rfl HGI.out) hHeld ?_
      try simp only [Act.put, List.setIfInBounds_toArray, List.set_cons_zero, List.set_cons_succ]
      refine wpAnyH_take (i := 21) (oi := { dst := some 71, op := Go.Op.load 28 (Go.Operand.tmp 1), type := 28, pos := _, after := #[{ on := 18, ground := Go.Ground.guard }], guard := some (18, true) }) rfl (by kernel_rfl) (by kernel_rfl) (by kernel_rfl) (fun _ _ _ h => h) (yieldsIf_load_mid (by rfl) 28 (.tmp 1) rfl (w.heap.size) (0) rfl (GA) _ (fun _ h => rangeAt_row h.gr) Try.underlying28 rfl HGI.out) hHeld ?_
      try simp only [Act.put, List.setIfInBounds_toArray, List.set_cons_zero, List.set_cons_succ]
      refine wpAnyH_ready (rs := [20]) (by kernel_rfl) (by simp) ?_
      refine AllReadyH.cons (o := { dst := some 70, op := Go.Op.call { callee := Go.Callee.value (Go.Operand.func 22), args := #[Go.Operand.tmp 69], argTypes := #[28] }, type := 9, pos := _, after := #[{ on := 19, ground := Go.Ground.data }, { on := 18, ground := Go.Ground.chain }, { on := 18, ground := Go.Ground.guard }], guard := some (18, true) }) rfl (fun K hK => ?_) AllReadyH.nil
      rw [if_pos (by rfl)]
      go_wp2_with fail
      refine Calls.mono (hKd _) ?_
      rintro e w6 ⟨rfl, hb6⟩
      have hHeld6 := hHeld.below hb6
      clear hHeld hb6
      refine hK.out _ _ hHeld6 (fun _ => ?_)
      clear hK K
      try simp only [Act.put, List.setIfInBounds_toArray, List.set_cons_zero, List.set_cons_succ]
      refine wpAnyH_ready (rs := [22]) (by kernel_rfl) (by simp) ?_
      refine AllReadyH.cons (o := { dst := some 72, op := Go.Op.call { callee := Go.Callee.value (Go.Operand.func 23), args := #[Go.Operand.tmp 71], argTypes := #[28] }, type := 9, pos := _, after := #[{ on := 21, ground := Go.Ground.data }, { on := 20, ground := Go.Ground.chain }, { on := 18, ground := Go.Ground.guard }], guard := some (18, true) }) rfl (fun K hK => ?_) AllReadyH.nil
      rw [if_pos (by rfl)]
      go_wp2_with fail
      refine Calls.mono (hRK _) ?_
      rintro e w7 ⟨rfl, hb7⟩
      have hHeld7 := hHeld6.below hb7
      clear hHeld6 hb7
      refine hK.out _ _ hHeld7 (fun _ => ?_)
      clear hK K
      try simp only [Act.put, List.setIfInBounds_toArray, List.set_cons_zero, List.set_cons_succ]
      have hHeld := hHeld7
      refine wpAnyH_take (i := 23) (oi := { dst := some 73, op := Go.Op.binOp Go.BinOp.eql 9 (Go.Operand.tmp 70) (Go.Operand.tmp 72) 9, type := 4, pos := _, after := #[{ on := 20, ground := Go.Ground.data }, { on := 22, ground := Go.Ground.data }, { on := 18, ground := Go.Ground.guard }], guard := some (18, true) }) (v := .bool true) rfl (by kernel_rfl) (by kernel_rfl) (by kernel_rfl) (fun _ _ _ h => h) (Or.inl ⟨by rfl, fun w' hw' => ?_⟩) hHeld ?_
      · first | (go_simp; done) | (go_simp; rfl)
      try simp only [Act.put, List.setIfInBounds_toArray, List.set_cons_zero, List.set_cons_succ]
      refine wpAnyH_take (i := 24) (oi := { dst := some 74, op := Go.Op.pick (Go.Operand.tmp 68) (Go.Operand.tmp 73) (Go.Operand.const (Go.Value.bool false)), type := 4, pos := _, after := #[{ on := 18, ground := Go.Ground.data }, { on := 23, ground := Go.Ground.data }], guard := none }) (v := .bool true) rfl (by kernel_rfl) (by kernel_rfl) (by kernel_rfl) (fun _ _ _ h => h) (Or.inl ⟨by rfl, fun w' hw' => ?_⟩) hHeld ?_
      · first | (go_simp; done) | (go_simp; rfl)
      try simp only [Act.put, List.setIfInBounds_toArray, List.set_cons_zero, List.set_cons_succ]
      refine wpAnyH_take (i := 25) (oi := { dst := some 75, op := Go.Op.move (Go.Operand.tmp 74), type := 4, pos := _, after := #[{ on := 24, ground := Go.Ground.data }, { on := 22, ground := Go.Ground.chain }], guard := none }) (v := .bool true) rfl (by kernel_rfl) (by kernel_rfl) (by kernel_rfl) (fun _ _ _ h => h) (Or.inl ⟨by rfl, fun w' hw' => ?_⟩) hHeld ?_
      · first | (go_simp; done) | (go_simp; rfl)
      try simp only [Act.put, List.setIfInBounds_toArray, List.set_cons_zero, List.set_cons_succ]
      refine wpAnyH_ready (rs := [26]) (by kernel_rfl) (by simp) ?_
      refine AllReadyH.cons (o := { dst := some 76, op := Go.Op.call { callee := Go.Callee.value (Go.Operand.func 12), args := #[], argTypes := #[] }, type := 4, pos := _, after := #[{ on := 25, ground := Go.Ground.chain }, { on := 25, ground := Go.Ground.guard }], guard := some (25, true) }) rfl (fun K hK => ?_) AllReadyH.nil
      rw [if_pos (by rfl)]
      go_wp2_with fail
      refine Calls.mono (hkn _) ?_
      rintro e w8 ⟨rfl, hb8⟩
      have hHeld8 := hHeld7.below hb8
      clear hHeld hHeld7 hb8
      refine hK.out _ _ hHeld8 (fun _ => ?_)
      clear hK K
      try simp only [Act.put, List.setIfInBounds_toArray, List.set_cons_zero, List.set_cons_succ]
      have hHeld := hHeld8
      refine wpAnyH_take (i := 27) (oi := { dst := some 77, op := Go.Op.pick (Go.Operand.tmp 75) (Go.Operand.tmp 76) (Go.Operand.const (Go.Value.bool false)), type := 4, pos := _, after := #[{ on := 25, ground := Go.Ground.data }, { on := 26, ground := Go.Ground.data }], guard := none }) (v := .bool true) rfl (by kernel_rfl) (by kernel_rfl) (by kernel_rfl) (fun _ _ _ h => h) (Or.inl ⟨by rfl, fun w' hw' => ?_⟩) hHeld ?_
      · first | (go_simp; done) | (go_simp; rfl)
      try simp only [Act.put, List.setIfInBounds_toArray, List.set_cons_zero, List.set_cons_succ]
      refine wpAnyH_take (i := 28) (oi := { dst := some 2, op := Go.Op.assign (Go.Operand.tmp 77), type := 4, pos := _, after := #[{ on := 27, ground := Go.Ground.data }, { on := 26, ground := Go.Ground.chain }, { on := 0, ground := Go.Ground.phase }, { on := 1, ground := Go.Ground.phase }, { on := 2, ground := Go.Ground.phase }, { on := 3, ground := Go.Ground.phase }, { on := 4, ground := Go.Ground.phase }, { on := 5, ground := Go.Ground.phase }, { on := 6, ground := Go.Ground.phase }, { on := 7, ground := Go.Ground.phase }, { on := 8, ground := Go.Ground.phase }, { on := 9, ground := Go.Ground.phase }, { on := 10, ground := Go.Ground.phase }, { on := 11, ground := Go.Ground.phase }, { on := 12, ground := Go.Ground.phase }, { on := 13, ground := Go.Ground.phase }, { on := 14, ground := Go.Ground.phase }, { on := 15, ground := Go.Ground.phase }, { on := 16, ground := Go.Ground.phase }, { on := 17, ground := Go.Ground.phase }, { on := 18, ground := Go.Ground.phase }, { on := 19, ground := Go.Ground.phase }, { on := 20, ground := Go.Ground.phase }, { on := 21, ground := Go.Ground.phase }, { on := 22, ground := Go.Ground.phase }, { on := 23, ground := Go.Ground.phase }, { on := 24, ground := Go.Ground.phase }, { on := 25, ground := Go.Ground.phase }, { on := 26, ground := Go.Ground.phase }, { on := 27, ground := Go.Ground.phase }], guard := none }) (v := .bool true) rfl (by kernel_rfl) (by kernel_rfl) (by kernel_rfl) (fun _ _ _ h => h) (Or.inl ⟨by rfl, fun w' hw' => ?_⟩) hHeld ?_
      · first | (go_simp; done) | (go_simp; rfl)
      try simp only [Act.put, List.setIfInBounds_toArray, List.set_cons_zero, List.set_cons_succ]
      refine wpAnyH_done (by kernel_rfl) ?_ _
      have HB8 : Hid _ := hHeld8.bel
      clear hHeld hHeld8
      go_wp2
      go_ret
      exact ⟨rfl, HB8.out⟩
  · rw [if_pos rfl] at hR
    cases ca
    · rw [if_neg (by decide)] at hC
      go_enter Try.func5, Try.ntmps5
      go_wp2_with (refine wpList_load_mid rfl 28 _ rfl w.heap.size 0 rfl GA _ HG0.out Try.underlying28 rfl HGI.out ?_)
      refine Calls.mono (hR _) ?_
      rintro e w1 ⟨rfl, hb1⟩
      have HN1 : Hid _ := heap_alloc_new w1 (.cells RZ.toArray 26 (0, 0))
      have HW1 : Hid _ := (HW.out.below hb1).rs 26 RZ RL
      have HG1 : Hid _ := rangeAt_row HW1.out.gr
      clear hb1 HW HG0 hR
      go_wp2_with (first
        | (refine wpList_store_row rfl 26 _ _ rfl w1.heap.size RL.toArray rfl rfl 26 RZ.toArray HN1.out HRA.out HRS.out HR1.out ?_)
        | (refine wpList_load_mid rfl 28 _ rfl w.heap.size 0 rfl GA _ HG1.out Try.underlying28 rfl HGI.out ?_))
      refine Calls.mono (hRR _) ?_
      rintro e w2 ⟨rfl, hb2⟩
      have HN2 : Hid _ := heap_alloc_new w2 (.cells RZ.toArray 26 (0, 0))
      have HW2 : Hid _ := (HW1.out.below hb2).rs RZ
      have HG2 : Hid _ := rangeAt_row HW2.out.gr
      have HA2 : Hid _ := rangeAt_row HW2.out.c1
      have HB2 : Hid _ := rangeAt_row HW2.out.c2
      clear hb2 HW1 HG1 hRR HN1
      go_wp2_with (first
        | (refine wpList_store_row rfl 26 _ _ rfl w2.heap.size RL.toArray rfl rfl 26 RZ.toArray HN2.out HRA.out HRS.out HR1.out ?_)
        | (refine wpList_load_mid rfl 26 _ rfl w1.heap.size 0 rfl RL _ HA2.out Try.underlying26 rfl HRI.out ?_)
        | (refine wpList_load_mid rfl 26 _ rfl w2.heap.size 0 rfl RL _ HB2.out Try.underlying26 rfl HRI.out ?_)
        | (go_at_call 11; refine Calls.mono (hnum _ _) ?_; rintro e w9 ⟨rfl, rfl⟩)
        | (refine wpList_load_mid rfl 28 _ rfl w.heap.size 0 rfl GA _ HG2.out Try.underlying28 rfl HGI.out ?_))
      refine Calls.mono (hC _) ?_
      rintro e w3 ⟨rfl, hb3⟩
      have HN3 : Hid _ := heap_alloc_new w3 (.cells CZ.toArray 38 (0, 0))
      have HW3 : Hid _ := (HW2.out.bx.below hb3).rs 38 CZ CL
      have HG3 : Hid _ := rangeAt_row HW3.out.gr
      clear hb3 HW2 HG2 HA2 HB2 hC HN2
      go_wp2_with (first
        | (refine wpList_store_row rfl 38 _ _ rfl w3.heap.size CL.toArray rfl rfl 38 CZ.toArray HN3.out HCA.out HCS.out HC1.out ?_)
        | (refine wpList_load_mid rfl 28 _ rfl w.heap.size 0 rfl GA _ HG3.out Try.underlying28 rfl HGI.out ?_))
      refine Calls.mono (hRC _) ?_
      rintro e w4 ⟨rfl, hb4⟩
      have HN4 : Hid _ := heap_alloc_new w4 (.cells CZ.toArray 38 (0, 0))
      have HW4 : Hid _ := ((HW3.out.below hb4).rs CZ).below (Below.refl _ _).drew
      clear hb4 HW3 HG3 hRC HN3
      go_wp2_with (refine wpList_store_row rfl 38 _ _ rfl w4.heap.size CL.toArray rfl rfl 38 CZ.toArray HN4.out HCA.out HCS.out HC1.out ?_)
      refine wp_region_held_drew (S := RS w 38 GA CL w3.heap.size w4.heap.size) (by kernel_rfl) HW4.out (fun hHeld => ?_)
      clear HW4
      refine wpAnyH_take (i := 0) (oi := { dst := some 50, op := Go.Op.load 38 (Go.Operand.tmp 7), type := 38, pos := _, after := #[], guard := none }) rfl (by kernel_rfl) (by kernel_rfl) (by kernel_rfl) (fun _ _ _ h => h) (yieldsIf_load_mid (by rfl) 38 (.tmp 7) rfl (w3.heap.size) (0) rfl (CL) _ (fun _ h => rangeAt_row h.c1) Try.underlying38 rfl HCI.out) hHeld ?_
      try simp only [Act.put, List.setIfInBounds_toArray, List.set_cons_zero, List.set_cons_succ]
      refine wpAnyH_take (i := 1) (oi := { dst := some 51, op := Go.Op.load 38 (Go.Operand.tmp 9), type := 38, pos := _, after := #[], guard := none }) rfl (by kernel_rfl) (by kernel_rfl) (by kernel_rfl) (fun _ _ _ h => h) (yieldsIf_load_mid (by rfl) 38 (.tmp 9) rfl (w4.heap.size) (0) rfl (CL) _ (fun _ h => rangeAt_row h.c2) Try.underlying38 rfl HCI.out) hHeld ?_
      try simp only [Act.put, List.setIfInBounds_toArray, List.set_cons_zero, List.set_cons_succ]
      refine wpAnyH_take (i := 2) (oi := { dst := some 52, op := Go.Op.binOp Go.BinOp.eql 38 (Go.Operand.tmp 50) (Go.Operand.tmp 51) 38, type := 4, pos := _, after := #[{ on := 0, ground := Go.Ground.data }, { on := 1, ground := Go.Ground.data }], guard := none }) (v := .bool true) rfl (by kernel_rfl) (by kernel_rfl) (by kernel_rfl) (fun _ _ _ h => h) (Or.inl ⟨by rfl, fun w' hw' => ?_⟩) hHeld ?_
      · first | (go_simp; done) | (go_simp; rfl)
      try simp only [Act.put, List.setIfInBounds_toArray, List.set_cons_zero, List.set_cons_succ]
      refine wpAnyH_take (i := 3) (oi := { dst := some 53, op := Go.Op.move (Go.Operand.tmp 52), type := 4, pos := _, after := #[{ on := 2, ground := Go.Ground.data }], guard := none }) (v := .bool true) rfl (by kernel_rfl) (by kernel_rfl) (by kernel_rfl) (fun _ _ _ h => h) (Or.inl ⟨by rfl, fun w' hw' => ?_⟩) hHeld ?_
      · first | (go_simp; done) | (go_simp; rfl)
      try simp only [Act.put, List.setIfInBounds_toArray, List.set_cons_zero, List.set_cons_succ]
      refine wpAnyH_take (i := 4) (oi := { dst := some 54, op := Go.Op.move (Go.Operand.tmp 8), type := 29, pos := _, after := #[{ on := 3, ground := Go.Ground.guard }], guard := some (3, true) }) (v := .int .i64 4) rfl (by kernel_rfl) (by kernel_rfl) (by kernel_rfl) (fun _ _ _ h => h) (Or.inl ⟨by rfl, fun w' hw' => ?_⟩) hHeld ?_
      · first | (go_simp; done) | (go_simp; rfl)
      try simp only [Act.put, List.setIfInBounds_toArray, List.set_cons_zero, List.set_cons_succ]
      refine wpAnyH_take (i := 7) (oi := { dst := some 57, op := Go.Op.move (Go.Operand.tmp 10), type := 4, pos := _, after := #[{ on := 3, ground := Go.Ground.guard }], guard := some (3, true) }) (v := .bool false) rfl (by kernel_rfl) (by kernel_rfl) (by kernel_rfl) (fun _ _ _ h => h) (Or.inl ⟨by rfl, fun w' hw' => ?_⟩) hHeld ?_
      · first | (go_simp; done) | (go_simp; rfl)
      try simp only [Act.put, List.setIfInBounds_toArray, List.set_cons_zero, List.set_cons_succ]
      refine wpAnyH_ready (rs := [5]) (by kernel_rfl) (by simp) ?_
      refine AllReadyH.cons (o := { dst := some 55, op := Go.Op.call { callee := Go.Callee.value (Go.Operand.func 11), args := #[Go.Operand.tmp 54], argTypes := #[29] }, type := 3, pos := _, after := #[{ on := 4, ground := Go.Ground.data }, { on := 3, ground := Go.Ground.chain }, { on := 3, ground := Go.Ground.guard }], guard := some (3, true) }) rfl (fun K hK => ?_) AllReadyH.nil
      rw [if_pos (by rfl)]
      go_wp2_with fail
      refine Calls.mono (hnum _ _) ?_
      rintro e w5 ⟨rfl, hw5⟩
      have hHeld5 : RS w 38 GA CL w3.heap.size w4.heap.size w5 := by rw [← hw5]; exact hHeld
      clear hHeld hw5
      refine hK.out _ _ hHeld5 (fun _ => ?_)
      clear hK K
      try simp only [Act.put, List.setIfInBounds_toArray, List.set_cons_zero, List.set_cons_succ]
      have hHeld := hHeld5
      refine wpAnyH_take (i := 6) (oi := { dst := some 56, op := Go.Op.binOp Go.BinOp.eql 3 (Go.Operand.tmp 55) (Go.Operand.const (Go.Value.int Go.IntKind.i64 0)) 3, type := 4, pos := _, after := #[{ on := 5, ground := Go.Ground.data }, { on := 3, ground := Go.Ground.guard }], guard := some (3, true) }) (v := .bool false) rfl (by kernel_rfl) (by kernel_rfl) (by kernel_rfl) (fun _ _ _ h => h) (Or.inl ⟨by rfl, fun w' hw' => ?_⟩) hHeld ?_
      · first | (go_simp; done) | (go_simp; rfl)
      try simp only [Act.put, List.setIfInBounds_toArray, List.set_cons_zero, List.set_cons_succ]
      refine wpAnyH_take (i := 8) (oi := { dst := some 58, op := Go.Op.binOp Go.BinOp.eql 4 (Go.Operand.tmp 56) (Go.Operand.tmp 57) 4, type := 4, pos := _, after := #[{ on := 6, ground := Go.Ground.data }, { on := 7, ground := Go.Ground.data }, { on := 3, ground := Go.Ground.guard }], guard := some (3, true) }) (v := .bool true) rfl (by kernel_rfl) (by kernel_rfl) (by kernel_rfl) (fun _ _ _ h => h) (Or.inl ⟨by rfl, fun w' hw' => ?_⟩) hHeld ?_
      · first | (go_simp; done) | (go_simp; rfl)
      try simp only [Act.put, List.setIfInBounds_toArray, List.set_cons_zero, List.set_cons_succ]
      refine wpAnyH_take (i := 9) (oi := { dst := some 59, op := Go.Op.pick (Go.Operand.tmp 53) (Go.Operand.tmp 58) (Go.Operand.const (Go.Value.bool false)), type := 4, pos := _, after := #[{ on := 3, ground := Go.Ground.data }, { on := 8, ground := Go.Ground.data }], guard := none }) (v := .bool true) rfl (by kernel_rfl) (by kernel_rfl) (by kernel_rfl) (fun _ _ _ h => h) (Or.inl ⟨by rfl, fun w' hw' => ?_⟩) hHeld ?_
      · first | (go_simp; done) | (go_simp; rfl)
      try simp only [Act.put, List.setIfInBounds_toArray, List.set_cons_zero, List.set_cons_succ]
      refine wpAnyH_take (i := 10) (oi := { dst := some 60, op := Go.Op.move (Go.Operand.tmp 59), type := 4, pos := _, after := #[{ on := 9, ground := Go.Ground.data }, { on := 5, ground := Go.Ground.chain }], guard := none }) (v := .bool true) rfl (by kernel_rfl) (by kernel_rfl) (by kernel_rfl) (fun _ _ _ h => h) (Or.inl ⟨by rfl, fun w' hw' => ?_⟩) hHeld ?_
      · first | (go_simp; done) | (go_simp; rfl)
      try simp only [Act.put, List.setIfInBounds_toArray, List.set_cons_zero, List.set_cons_succ]
      refine wpAnyH_take (i := 11) (oi := { dst := some 61, op := Go.Op.move (Go.Operand.tmp 10), type := 4, pos := _, after := #[{ on := 10, ground := Go.Ground.guard }], guard := some (10, true) }) (v := .bool false) rfl (by kernel_rfl) (by kernel_rfl) (by kernel_rfl) (fun _ _ _ h => h) (Or.inl ⟨by rfl, fun w' hw' => ?_⟩) hHeld ?_
      · first | (go_simp; done) | (go_simp; rfl)
      try simp only [Act.put, List.setIfInBounds_toArray, List.set_cons_zero, List.set_cons_succ]
      refine wpAnyH_take (i := 12) (oi := { dst := some 62, op := Go.Op.move (Go.Operand.tmp 61), type := 4, pos := _, after := #[{ on := 11, ground := Go.Ground.data }, { on := 10, ground := Go.Ground.chain }, { on := 10, ground := Go.Ground.guard }], guard := some (10, true) }) (v := .bool false) rfl (by kernel_rfl) (by kernel_rfl) (by kernel_rfl) (fun _ _ _ h => h) (Or.inl ⟨by rfl, fun w' hw' => ?_⟩) hHeld ?_
      · first | (go_simp; done) | (go_simp; rfl)
      try simp only [Act.put, List.setIfInBounds_toArray, List.set_cons_zero, List.set_cons_succ]
      refine wpAnyH_take (i := 13) (oi := { dst := some 63, op := Go.Op.move (Go.Operand.tmp 8), type := 29, pos := _, after := #[{ on := 12, ground := Go.Ground.guard }], guard := some (12, false) }) (v := .int .i64 4) rfl (by kernel_rfl) (by kernel_rfl) (by kernel_rfl) (fun _ _ _ h => h) (Or.inl ⟨by rfl, fun w' hw' => ?_⟩) hHeld ?_
      · first | (go_simp; done) | (go_simp; rfl)
      try simp only [Act.put, List.setIfInBounds_toArray, List.set_cons_zero, List.set_cons_succ]
      refine wpAnyH_ready (rs := [14]) (by kernel_rfl) (by simp) ?_
      refine AllReadyH.cons (o := { dst := some 64, op := Go.Op.call { callee := Go.Callee.value (Go.Operand.func 11), args := #[Go.Operand.tmp 63], argTypes := #[29] }, type := 3, pos := _, after := #[{ on := 13, ground := Go.Ground.data }, { on := 12, ground := Go.Ground.chain }, { on := 12, ground := Go.Ground.guard }], guard := some (12, false) }) rfl (fun K hK => ?_) AllReadyH.nil
      rw [if_pos (by rfl)]
      go_wp2_with fail
      refine Calls.mono (hnum _ _) ?_
      rintro e w9 ⟨rfl, hw9⟩
      have hHeld9 : RS w 38 GA CL w3.heap.size w4.heap.size w9 := by rw [← hw9]; exact hHeld5
      clear hHeld hHeld5 hw9
      refine hK.out _ _ hHeld9 (fun _ => ?_)
      clear hK K
      try simp only [Act.put, List.setIfInBounds_toArray, List.set_cons_zero, List.set_cons_succ]
      have hHeld := hHeld9
      clear hHeld9
      refine wpAnyH_take (i := 15) (oi := { dst := some 65, op := Go.Op.binOp Go.BinOp.eql 3 (Go.Operand.tmp 64) (Go.Operand.const (Go.Value.int Go.IntKind.i64 4)) 3, type := 4, pos := _, after := #[{ on := 14, ground := Go.Ground.data }, { on := 12, ground := Go.Ground.guard }], guard := some (12, false) }) (v := .bool true) rfl (by kernel_rfl) (by kernel_rfl) (by kernel_rfl) (fun _ _ _ h => h) (Or.inl ⟨by rfl, fun w' hw' => ?_⟩) hHeld ?_
      · first | (go_simp; done) | (go_simp; rfl)
      try simp only [Act.put, List.setIfInBounds_toArray, List.set_cons_zero, List.set_cons_succ]
      refine wpAnyH_take (i := 16) (oi := { dst := some 66, op := Go.Op.pick (Go.Operand.tmp 62) (Go.Operand.const (Go.Value.bool true)) (Go.Operand.tmp 65), type := 4, pos := _, after := #[{ on := 12, ground := Go.Ground.data }, { on := 15, ground := Go.Ground.data }, { on := 10, ground := Go.Ground.guard }], guard := some (10, true) }) (v := .bool true) rfl (by kernel_rfl) (by kernel_rfl) (by kernel_rfl) (fun _ _ _ h => h) (Or.inl ⟨by rfl, fun w' hw' => ?_⟩) hHeld ?_
      · first | (go_simp; done) | (go_simp; rfl)
      try simp only [Act.put, List.setIfInBounds_toArray, List.set_cons_zero, List.set_cons_succ]
      refine wpAnyH_take (i := 17) (oi := { dst := some 67, op := Go.Op.pick (Go.Operand.tmp 60) (Go.Operand.tmp 66) (Go.Operand.const (Go.Value.bool false)), type := 4, pos := _, after := #[{ on := 10, ground := Go.Ground.data }, { on := 16, ground := Go.Ground.data }], guard := none }) (v := .bool true) rfl (by kernel_rfl) (by kernel_rfl) (by kernel_rfl) (fun _ _ _ h => h) (Or.inl ⟨by rfl, fun w' hw' => ?_⟩) hHeld ?_
      · first | (go_simp; done) | (go_simp; rfl)
      try simp only [Act.put, List.setIfInBounds_toArray, List.set_cons_zero, List.set_cons_succ]
      refine wpAnyH_take (i := 18) (oi := { dst := some 68, op := Go.Op.move (Go.Operand.tmp 67), type := 4, pos := _, after := #[{ on := 17, ground := Go.Ground.data }, { on := 14, ground := Go.Ground.chain }], guard := none }) (v := .bool true) rfl (by kernel_rfl) (by kernel_rfl) (by kernel_rfl) (fun _ _ _ h => h) (Or.inl ⟨by rfl, fun w' hw' => ?_⟩) hHeld ?_
      · first | (go_simp; done) | (go_simp; rfl)
      try simp only [Act.put, List.setIfInBounds_toArray, List.set_cons_zero, List.set_cons_succ]
      refine wpAnyH_take (i := 19) (oi := { dst := some 69, op := Go.Op.load 28 (Go.Operand.tmp 1), type := 28, pos := _, after := #[{ on := 18, ground := Go.Ground.guard }], guard := some (18, true) }) rfl (by kernel_rfl) (by kernel_rfl) (by kernel_rfl) (fun _ _ _ h => h) (yieldsIf_load_mid (by rfl) 28 (.tmp 1) rfl (w.heap.size) (0) rfl (GA) _ (fun _ h => rangeAt_row h.gr) Try.underlying28 rfl HGI.out) hHeld ?_
      try simp only [Act.put, List.setIfInBounds_toArray, List.set_cons_zero, List.set_cons_succ]
      refine wpAnyH_take (i := 21) (oi := { dst := some 71, op := Go.Op.load 28 (Go.Operand.tmp 1), type := 28, pos := _, after := #[{ on := 18, ground := Go.Ground.guard }], guard := some (18, true) }) rfl (by kernel_rfl) (by kernel_rfl) (by kernel_rfl) (fun _ _ _ h => h) (yieldsIf_load_mid (by rfl) 28 (.tmp 1) rfl (w.heap.size) (0) rfl (GA) _ (fun _ h => rangeAt_row h.gr) Try.underlying28 rfl HGI.out) hHeld ?_
      try simp only [Act.put, List.setIfInBounds_toArray, List.set_cons_zero, List.set_cons_succ]
      refine wpAnyH_ready (rs := [20]) (by kernel_rfl) (by simp) ?_
      refine AllReadyH.cons (o := { dst := some 70, op := Go.Op.call { callee := Go.Callee.value (Go.Operand.func 22), args := #[Go.Operand.tmp 69], argTypes := #[28] }, type := 9, pos := _, after := #[{ on := 19, ground := Go.Ground.data }, { on := 18, ground := Go.Ground.chain }, { on := 18, ground := Go.Ground.guard }], guard := some (18, true) }) rfl (fun K hK => ?_) AllReadyH.nil
      rw [if_pos (by rfl)]
      go_wp2_with fail
      refine Calls.mono (hKd _) ?_
      rintro e w6 ⟨rfl, hb6⟩
      have hHeld6 := hHeld.below hb6
      clear hHeld hb6
      refine hK.out _ _ hHeld6 (fun _ => ?_)
      clear hK K
      try simp only [Act.put, List.setIfInBounds_toArray, List.set_cons_zero, List.set_cons_succ]
      refine wpAnyH_ready (rs := [22]) (by kernel_rfl) (by simp) ?_
      refine AllReadyH.cons (o := { dst := some 72, op := Go.Op.call { callee := Go.Callee.value (Go.Operand.func 23), args := #[Go.Operand.tmp 71], argTypes := #[28] }, type := 9, pos := _, after := #[{ on := 21, ground := Go.Ground.data }, { on := 20, ground := Go.Ground.chain }, { on := 18, ground := Go.Ground.guard }], guard := some (18, true) }) rfl (fun K hK => ?_) AllReadyH.nil
      rw [if_pos (by rfl)]
      go_wp2_with fail
      refine Calls.mono (hRK _) ?_
      rintro e w7 ⟨rfl, hb7⟩
      have hHeld7 := hHeld6.below hb7
      clear hHeld6 hb7
      refine hK.out _ _ hHeld7 (fun _ => ?_)
      clear hK K
      try simp only [Act.put, List.setIfInBounds_toArray, List.set_cons_zero, List.set_cons_succ]
      have hHeld := hHeld7
      refine wpAnyH_take (i := 23) (oi := { dst := some 73, op := Go.Op.binOp Go.BinOp.eql 9 (Go.Operand.tmp 70) (Go.Operand.tmp 72) 9, type := 4, pos := _, after := #[{ on := 20, ground := Go.Ground.data }, { on := 22, ground := Go.Ground.data }, { on := 18, ground := Go.Ground.guard }], guard := some (18, true) }) (v := .bool true) rfl (by kernel_rfl) (by kernel_rfl) (by kernel_rfl) (fun _ _ _ h => h) (Or.inl ⟨by rfl, fun w' hw' => ?_⟩) hHeld ?_
      · first | (go_simp; done) | (go_simp; rfl)
      try simp only [Act.put, List.setIfInBounds_toArray, List.set_cons_zero, List.set_cons_succ]
      refine wpAnyH_take (i := 24) (oi := { dst := some 74, op := Go.Op.pick (Go.Operand.tmp 68) (Go.Operand.tmp 73) (Go.Operand.const (Go.Value.bool false)), type := 4, pos := _, after := #[{ on := 18, ground := Go.Ground.data }, { on := 23, ground := Go.Ground.data }], guard := none }) (v := .bool true) rfl (by kernel_rfl) (by kernel_rfl) (by kernel_rfl) (fun _ _ _ h => h) (Or.inl ⟨by rfl, fun w' hw' => ?_⟩) hHeld ?_
      · first | (go_simp; done) | (go_simp; rfl)
      try simp only [Act.put, List.setIfInBounds_toArray, List.set_cons_zero, List.set_cons_succ]
      refine wpAnyH_take (i := 25) (oi := { dst := some 75, op := Go.Op.move (Go.Operand.tmp 74), type := 4, pos := _, after := #[{ on := 24, ground := Go.Ground.data }, { on := 22, ground := Go.Ground.chain }], guard := none }) (v := .bool true) rfl (by kernel_rfl) (by kernel_rfl) (by kernel_rfl) (fun _ _ _ h => h) (Or.inl ⟨by rfl, fun w' hw' => ?_⟩) hHeld ?_
      · first | (go_simp; done) | (go_simp; rfl)
      try simp only [Act.put, List.setIfInBounds_toArray, List.set_cons_zero, List.set_cons_succ]
      refine wpAnyH_ready (rs := [26]) (by kernel_rfl) (by simp) ?_
      refine AllReadyH.cons (o := { dst := some 76, op := Go.Op.call { callee := Go.Callee.value (Go.Operand.func 12), args := #[], argTypes := #[] }, type := 4, pos := _, after := #[{ on := 25, ground := Go.Ground.chain }, { on := 25, ground := Go.Ground.guard }], guard := some (25, true) }) rfl (fun K hK => ?_) AllReadyH.nil
      rw [if_pos (by rfl)]
      go_wp2_with fail
      refine Calls.mono (hkn _) ?_
      rintro e w8 ⟨rfl, hb8⟩
      have hHeld8 := hHeld7.below hb8
      clear hHeld hHeld7 hb8
      refine hK.out _ _ hHeld8 (fun _ => ?_)
      clear hK K
      try simp only [Act.put, List.setIfInBounds_toArray, List.set_cons_zero, List.set_cons_succ]
      have hHeld := hHeld8
      refine wpAnyH_take (i := 27) (oi := { dst := some 77, op := Go.Op.pick (Go.Operand.tmp 75) (Go.Operand.tmp 76) (Go.Operand.const (Go.Value.bool false)), type := 4, pos := _, after := #[{ on := 25, ground := Go.Ground.data }, { on := 26, ground := Go.Ground.data }], guard := none }) (v := .bool true) rfl (by kernel_rfl) (by kernel_rfl) (by kernel_rfl) (fun _ _ _ h => h) (Or.inl ⟨by rfl, fun w' hw' => ?_⟩) hHeld ?_
      · first | (go_simp; done) | (go_simp; rfl)
      try simp only [Act.put, List.setIfInBounds_toArray, List.set_cons_zero, List.set_cons_succ]
      refine wpAnyH_take (i := 28) (oi := { dst := some 2, op := Go.Op.assign (Go.Operand.tmp 77), type := 4, pos := _, after := #[{ on := 27, ground := Go.Ground.data }, { on := 26, ground := Go.Ground.chain }, { on := 0, ground := Go.Ground.phase }, { on := 1, ground := Go.Ground.phase }, { on := 2, ground := Go.Ground.phase }, { on := 3, ground := Go.Ground.phase }, { on := 4, ground := Go.Ground.phase }, { on := 5, ground := Go.Ground.phase }, { on := 6, ground := Go.Ground.phase }, { on := 7, ground := Go.Ground.phase }, { on := 8, ground := Go.Ground.phase }, { on := 9, ground := Go.Ground.phase }, { on := 10, ground := Go.Ground.phase }, { on := 11, ground := Go.Ground.phase }, { on := 12, ground := Go.Ground.phase }, { on := 13, ground := Go.Ground.phase }, { on := 14, ground := Go.Ground.phase }, { on := 15, ground := Go.Ground.phase }, { on := 16, ground := Go.Ground.phase }, { on := 17, ground := Go.Ground.phase }, { on := 18, ground := Go.Ground.phase }, { on := 19, ground := Go.Ground.phase }, { on := 20, ground := Go.Ground.phase }, { on := 21, ground := Go.Ground.phase }, { on := 22, ground := Go.Ground.phase }, { on := 23, ground := Go.Ground.phase }, { on := 24, ground := Go.Ground.phase }, { on := 25, ground := Go.Ground.phase }, { on := 26, ground := Go.Ground.phase }, { on := 27, ground := Go.Ground.phase }], guard := none }) (v := .bool true) rfl (by kernel_rfl) (by kernel_rfl) (by kernel_rfl) (fun _ _ _ h => h) (Or.inl ⟨by rfl, fun w' hw' => ?_⟩) hHeld ?_
      · first | (go_simp; done) | (go_simp; rfl)
      try simp only [Act.put, List.setIfInBounds_toArray, List.set_cons_zero, List.set_cons_succ]
      refine wpAnyH_done (by kernel_rfl) ?_ _
      have HB8 : Hid _ := hHeld8.bel
      clear hHeld hHeld8
      go_wp2
      go_ret
      exact ⟨rfl, HB8.out⟩
    · rw [if_pos rfl] at hC
      go_enter Try.func5, Try.ntmps5
      go_wp2_with (refine wpList_load_mid rfl 28 _ rfl w.heap.size 0 rfl GA _ HG0.out Try.underlying28 rfl HGI.out ?_)
      refine Calls.mono (hR _) ?_
      rintro e w1 ⟨rfl, hb1⟩
      have HN1 : Hid _ := heap_alloc_new w1 (.cells RZ.toArray 26 (0, 0))
      have HW1 : Hid _ := (HW.out.below hb1).rs 26 RZ RL
      have HG1 : Hid _ := rangeAt_row HW1.out.gr
      clear hb1 HW HG0 hR
      go_wp2_with (first
        | (refine wpList_store_row rfl 26 _ _ rfl w1.heap.size RL.toArray rfl rfl 26 RZ.toArray HN1.out HRA.out HRS.out HR1.out ?_)
        | (refine wpList_load_mid rfl 28 _ rfl w.heap.size 0 rfl GA _ HG1.out Try.underlying28 rfl HGI.out ?_))
      refine Calls.mono (hRR _) ?_
      rintro e w2 ⟨rfl, hb2⟩
      have HN2 : Hid _ := heap_alloc_new w2 (.cells RZ.toArray 26 (0, 0))
      have HW2 : Hid _ := (HW1.out.below hb2).rs RZ
      have HG2 : Hid _ := rangeAt_row HW2.out.gr
      have HA2 : Hid _ := rangeAt_row HW2.out.c1
      have HB2 : Hid _ := rangeAt_row HW2.out.c2
      clear hb2 HW1 HG1 hRR HN1
      go_wp2_with (first
        | (refine wpList_store_row rfl 26 _ _ rfl w2.heap.size RL.toArray rfl rfl 26 RZ.toArray HN2.out HRA.out HRS.out HR1.out ?_)
        | (refine wpList_load_mid rfl 26 _ rfl w1.heap.size 0 rfl RL _ HA2.out Try.underlying26 rfl HRI.out ?_)
        | (refine wpList_load_mid rfl 26 _ rfl w2.heap.size 0 rfl RL _ HB2.out Try.underlying26 rfl HRI.out ?_)
        | (go_at_call 11; refine Calls.mono (hnum _ _) ?_; rintro e w9 ⟨rfl, rfl⟩)
        | (refine wpList_load_mid rfl 28 _ rfl w.heap.size 0 rfl GA _ HG2.out Try.underlying28 rfl HGI.out ?_))
      refine Calls.mono (hC _) ?_
      rintro e w3 ⟨rfl, hb3⟩
      have HN3 : Hid _ := heap_alloc_new w3 (.cells CZ.toArray 38 (0, 0))
      have HW3 : Hid _ := (HW2.out.bx.below hb3).rs 38 CZ CL
      have HG3 : Hid _ := rangeAt_row HW3.out.gr
      clear hb3 HW2 HG2 HA2 HB2 hC HN2
      go_wp2_with (first
        | (refine wpList_store_row rfl 38 _ _ rfl w3.heap.size CL.toArray rfl rfl 38 CZ.toArray HN3.out HCA.out HCS.out HC1.out ?_)
        | (refine wpList_load_mid rfl 28 _ rfl w.heap.size 0 rfl GA _ HG3.out Try.underlying28 rfl HGI.out ?_))
      refine Calls.mono (hRC _) ?_
      rintro e w4 ⟨rfl, hb4⟩
      have HN4 : Hid _ := heap_alloc_new w4 (.cells CZ.toArray 38 (0, 0))
      have HW4 : Hid _ := ((HW3.out.below hb4).rs CZ).below (Below.refl _ _).drew
      clear hb4 HW3 HG3 hRC HN3
      go_wp2_with (refine wpList_store_row rfl 38 _ _ rfl w4.heap.size CL.toArray rfl rfl 38 CZ.toArray HN4.out HCA.out HCS.out HC1.out ?_)
      refine wp_region_held_drew (S := RS w 38 GA CL w3.heap.size w4.heap.size) (by kernel_rfl) HW4.out (fun hHeld => ?_)
      clear HW4
      refine wpAnyH_take (i := 0) (oi := { dst := some 50, op := Go.Op.load 38 (Go.Operand.tmp 7), type := 38, pos := _, after := #[], guard := none }) rfl (by kernel_rfl) (by kernel_rfl) (by kernel_rfl) (fun _ _ _ h => h) (yieldsIf_load_mid (by rfl) 38 (.tmp 7) rfl (w3.heap.size) (0) rfl (CL) _ (fun _ h => rangeAt_row h.c1) Try.underlying38 rfl HCI.out) hHeld ?_
      try simp only [Act.put, List.setIfInBounds_toArray, List.set_cons_zero, List.set_cons_succ]
      refine wpAnyH_take (i := 1) (oi := { dst := some 51, op := Go.Op.load 38 (Go.Operand.tmp 9), type := 38, pos := _, after := #[], guard := none }) rfl (by kernel_rfl) (by kernel_rfl) (by kernel_rfl) (fun _ _ _ h => h) (yieldsIf_load_mid (by rfl) 38 (.tmp 9) rfl (w4.heap.size) (0) rfl (CL) _ (fun _ h => rangeAt_row h.c2) Try.underlying38 rfl HCI.out) hHeld ?_
      try simp only [Act.put, List.setIfInBounds_toArray, List.set_cons_zero, List.set_cons_succ]
      refine wpAnyH_take (i := 2) (oi := { dst := some 52, op := Go.Op.binOp Go.BinOp.eql 38 (Go.Operand.tmp 50) (Go.Operand.tmp 51) 38, type := 4, pos := _, after := #[{ on := 0, ground := Go.Ground.data }, { on := 1, ground := Go.Ground.data }], guard := none }) (v := .bool true) rfl (by kernel_rfl) (by kernel_rfl) (by kernel_rfl) (fun _ _ _ h => h) (Or.inl ⟨by rfl, fun w' hw' => ?_⟩) hHeld ?_
      · first | (go_simp; done) | (go_simp; rfl)
      try simp only [Act.put, List.setIfInBounds_toArray, List.set_cons_zero, List.set_cons_succ]
      refine wpAnyH_take (i := 3) (oi := { dst := some 53, op := Go.Op.move (Go.Operand.tmp 52), type := 4, pos := _, after := #[{ on := 2, ground := Go.Ground.data }], guard := none }) (v := .bool true) rfl (by kernel_rfl) (by kernel_rfl) (by kernel_rfl) (fun _ _ _ h => h) (Or.inl ⟨by rfl, fun w' hw' => ?_⟩) hHeld ?_
      · first | (go_simp; done) | (go_simp; rfl)
      try simp only [Act.put, List.setIfInBounds_toArray, List.set_cons_zero, List.set_cons_succ]
      refine wpAnyH_take (i := 4) (oi := { dst := some 54, op := Go.Op.move (Go.Operand.tmp 8), type := 29, pos := _, after := #[{ on := 3, ground := Go.Ground.guard }], guard := some (3, true) }) (v := .int .i64 0) rfl (by kernel_rfl) (by kernel_rfl) (by kernel_rfl) (fun _ _ _ h => h) (Or.inl ⟨by rfl, fun w' hw' => ?_⟩) hHeld ?_
      · first | (go_simp; done) | (go_simp; rfl)
      try simp only [Act.put, List.setIfInBounds_toArray, List.set_cons_zero, List.set_cons_succ]
      refine wpAnyH_take (i := 7) (oi := { dst := some 57, op := Go.Op.move (Go.Operand.tmp 10), type := 4, pos := _, after := #[{ on := 3, ground := Go.Ground.guard }], guard := some (3, true) }) (v := .bool true) rfl (by kernel_rfl) (by kernel_rfl) (by kernel_rfl) (fun _ _ _ h => h) (Or.inl ⟨by rfl, fun w' hw' => ?_⟩) hHeld ?_
      · first | (go_simp; done) | (go_simp; rfl)
      try simp only [Act.put, List.setIfInBounds_toArray, List.set_cons_zero, List.set_cons_succ]
      refine wpAnyH_ready (rs := [5]) (by kernel_rfl) (by simp) ?_
      refine AllReadyH.cons (o := { dst := some 55, op := Go.Op.call { callee := Go.Callee.value (Go.Operand.func 11), args := #[Go.Operand.tmp 54], argTypes := #[29] }, type := 3, pos := _, after := #[{ on := 4, ground := Go.Ground.data }, { on := 3, ground := Go.Ground.chain }, { on := 3, ground := Go.Ground.guard }], guard := some (3, true) }) rfl (fun K hK => ?_) AllReadyH.nil
      rw [if_pos (by rfl)]
      go_wp2_with fail
      refine Calls.mono (hnum _ _) ?_
      rintro e w5 ⟨rfl, hw5⟩
      have hHeld5 : RS w 38 GA CL w3.heap.size w4.heap.size w5 := by rw [← hw5]; exact hHeld
      clear hHeld hw5
      refine hK.out _ _ hHeld5 (fun _ => ?_)
      clear hK K
      try simp only [Act.put, List.setIfInBounds_toArray, List.set_cons_zero, List.set_cons_succ]
      have hHeld := hHeld5
      refine wpAnyH_take (i := 6) (oi := { dst := some 56, op := Go.Op.binOp Go.BinOp.eql 3 (Go.Operand.tmp 55) (Go.Operand.const (Go.Value.int Go.IntKind.i64 0)) 3, type := 4, pos := _, after := #[{ on := 5, ground := Go.Ground.data }, { on := 3, ground := Go.Ground.guard }], guard := some (3, true) }) (v := .bool true) rfl (by kernel_rfl) (by kernel_rfl) (by kernel_rfl) (fun _ _ _ h => h) (Or.inl ⟨by rfl, fun w' hw' => ?_⟩) hHeld ?_
      · first | (go_simp; done) | (go_simp; rfl)
      try simp only [Act.put, List.setIfInBounds_toArray, List.set_cons_zero, List.set_cons_succ]
      refine wpAnyH_take (i := 8) (oi := { dst := some 58, op := Go.Op.binOp Go.BinOp.eql 4 (Go.Operand.tmp 56) (Go.Operand.tmp 57) 4, type := 4, pos := _, after := #[{ on := 6, ground := Go.Ground.data }, { on := 7, ground := Go.Ground.data }, { on := 3, ground := Go.Ground.guard }], guard := some (3, true) }) (v := .bool true) rfl (by kernel_rfl) (by kernel_rfl) (by kernel_rfl) (fun _ _ _ h => h) (Or.inl ⟨by rfl, fun w' hw' => ?_⟩) hHeld ?_
      · first | (go_simp; done) | (go_simp; rfl)
      try simp only [Act.put, List.setIfInBounds_toArray, List.set_cons_zero, List.set_cons_succ]
      refine wpAnyH_take (i := 9) (oi := { dst := some 59, op := Go.Op.pick (Go.Operand.tmp 53) (Go.Operand.tmp 58) (Go.Operand.const (Go.Value.bool false)), type := 4, pos := _, after := #[{ on := 3, ground := Go.Ground.data }, { on := 8, ground := Go.Ground.data }], guard := none }) (v := .bool true) rfl (by kernel_rfl) (by kernel_rfl) (by kernel_rfl) (fun _ _ _ h => h) (Or.inl ⟨by rfl, fun w' hw' => ?_⟩) hHeld ?_
      · first | (go_simp; done) | (go_simp; rfl)
      try simp only [Act.put, List.setIfInBounds_toArray, List.set_cons_zero, List.set_cons_succ]
      refine wpAnyH_take (i := 10) (oi := { dst := some 60, op := Go.Op.move (Go.Operand.tmp 59), type := 4, pos := _, after := #[{ on := 9, ground := Go.Ground.data }, { on := 5, ground := Go.Ground.chain }], guard := none }) (v := .bool true) rfl (by kernel_rfl) (by kernel_rfl) (by kernel_rfl) (fun _ _ _ h => h) (Or.inl ⟨by rfl, fun w' hw' => ?_⟩) hHeld ?_
      · first | (go_simp; done) | (go_simp; rfl)
      try simp only [Act.put, List.setIfInBounds_toArray, List.set_cons_zero, List.set_cons_succ]
      refine wpAnyH_take (i := 11) (oi := { dst := some 61, op := Go.Op.move (Go.Operand.tmp 10), type := 4, pos := _, after := #[{ on := 10, ground := Go.Ground.guard }], guard := some (10, true) }) (v := .bool true) rfl (by kernel_rfl) (by kernel_rfl) (by kernel_rfl) (fun _ _ _ h => h) (Or.inl ⟨by rfl, fun w' hw' => ?_⟩) hHeld ?_
      · first | (go_simp; done) | (go_simp; rfl)
      try simp only [Act.put, List.setIfInBounds_toArray, List.set_cons_zero, List.set_cons_succ]
      refine wpAnyH_take (i := 12) (oi := { dst := some 62, op := Go.Op.move (Go.Operand.tmp 61), type := 4, pos := _, after := #[{ on := 11, ground := Go.Ground.data }, { on := 10, ground := Go.Ground.chain }, { on := 10, ground := Go.Ground.guard }], guard := some (10, true) }) (v := .bool true) rfl (by kernel_rfl) (by kernel_rfl) (by kernel_rfl) (fun _ _ _ h => h) (Or.inl ⟨by rfl, fun w' hw' => ?_⟩) hHeld ?_
      · first | (go_simp; done) | (go_simp; rfl)
      try simp only [Act.put, List.setIfInBounds_toArray, List.set_cons_zero, List.set_cons_succ]
      refine wpAnyH_take (i := 13) (oi := { dst := some 63, op := Go.Op.move (Go.Operand.tmp 8), type := 29, pos := _, after := #[{ on := 12, ground := Go.Ground.guard }], guard := some (12, false) }) (v := undef) rfl (by kernel_rfl) (by kernel_rfl) (by kernel_rfl) (fun _ _ _ h => h) (Or.inr ⟨by rfl, rfl⟩) hHeld ?_
      try simp only [Act.put, List.setIfInBounds_toArray, List.set_cons_zero, List.set_cons_succ]
      refine wpAnyH_take (i := 14) (oi := { dst := some 64, op := Go.Op.call { callee := Go.Callee.value (Go.Operand.func 11), args := #[Go.Operand.tmp 63], argTypes := #[29] }, type := 3, pos := _, after := #[{ on := 13, ground := Go.Ground.data }, { on := 12, ground := Go.Ground.chain }, { on := 12, ground := Go.Ground.guard }], guard := some (12, false) }) (v := undef) rfl (by kernel_rfl) (by kernel_rfl) (by kernel_rfl) (fun _ _ _ h => h) (Or.inr ⟨by rfl, rfl⟩) hHeld ?_
      try simp only [Act.put, List.setIfInBounds_toArray, List.set_cons_zero, List.set_cons_succ]
      refine wpAnyH_take (i := 15) (oi := { dst := some 65, op := Go.Op.binOp Go.BinOp.eql 3 (Go.Operand.tmp 64) (Go.Operand.const (Go.Value.int Go.IntKind.i64 4)) 3, type := 4, pos := _, after := #[{ on := 14, ground := Go.Ground.data }, { on := 12, ground := Go.Ground.guard }], guard := some (12, false) }) (v := undef) rfl (by kernel_rfl) (by kernel_rfl) (by kernel_rfl) (fun _ _ _ h => h) (Or.inr ⟨by rfl, rfl⟩) hHeld ?_
      try simp only [Act.put, List.setIfInBounds_toArray, List.set_cons_zero, List.set_cons_succ]
      clear hHeld5
      refine wpAnyH_take (i := 16) (oi := { dst := some 66, op := Go.Op.pick (Go.Operand.tmp 62) (Go.Operand.const (Go.Value.bool true)) (Go.Operand.tmp 65), type := 4, pos := _, after := #[{ on := 12, ground := Go.Ground.data }, { on := 15, ground := Go.Ground.data }, { on := 10, ground := Go.Ground.guard }], guard := some (10, true) }) (v := .bool true) rfl (by kernel_rfl) (by kernel_rfl) (by kernel_rfl) (fun _ _ _ h => h) (Or.inl ⟨by rfl, fun w' hw' => ?_⟩) hHeld ?_
      · first | (go_simp; done) | (go_simp; rfl)
      try simp only [Act.put, List.setIfInBounds_toArray, List.set_cons_zero, List.set_cons_succ]
      refine wpAnyH_take (i := 17) (oi := { dst := some 67, op := Go.Op.pick (Go.Operand.tmp 60) (Go.Operand.tmp 66) (Go.Operand.const (Go.Value.bool false)), type := 4, pos := _, after := #[{ on := 10, ground := Go.Ground.data }, { on := 16, ground := Go.Ground.data }], guard := none }) (v := .bool true) rfl (by kernel_rfl) (by kernel_rfl) (by kernel_rfl) (fun _ _ _ h => h) (Or.inl ⟨by rfl, fun w' hw' => ?_⟩) hHeld ?_
      · first | (go_simp; done) | (go_simp; rfl)
      try simp only [Act.put, List.setIfInBounds_toArray, List.set_cons_zero, List.set_cons_succ]
      refine wpAnyH_take (i := 18) (oi := { dst := some 68, op := Go.Op.move (Go.Operand.tmp 67), type := 4, pos := _, after := #[{ on := 17, ground := Go.Ground.data }, { on := 14, ground := Go.Ground.chain }], guard := none }) (v := .bool true) rfl (by kernel_rfl) (by kernel_rfl) (by kernel_rfl) (fun _ _ _ h => h) (Or.inl ⟨by rfl, fun w' hw' => ?_⟩) hHeld ?_
      · first | (go_simp; done) | (go_simp; rfl)
      try simp only [Act.put, List.setIfInBounds_toArray, List.set_cons_zero, List.set_cons_succ]
      refine wpAnyH_take (i := 19) (oi := { dst := some 69, op := Go.Op.load 28 (Go.Operand.tmp 1), type := 28, pos := _, after := #[{ on := 18, ground := Go.Ground.guard }], guard := some (18, true) }) rfl (by kernel_rfl) (by kernel_rfl) (by kernel_rfl) (fun _ _ _ h => h) (yieldsIf_load_mid (by rfl) 28 (.tmp 1) rfl (w.heap.size) (0) rfl (GA) _ (fun _ h => rangeAt_row h.gr) Try.underlying28 rfl HGI.out) hHeld ?_
      try simp only [Act.put, List.setIfInBounds_toArray, List.set_cons_zero, List.set_cons_succ]
      refine wpAnyH_take (i := 21) (oi := { dst := some 71, op := Go.Op.load 28 (Go.Operand.tmp 1), type := 28, pos := _, after := #[{ on := 18, ground := Go.Ground.guard }], guard := some (18, true) }) rfl (by kernel_rfl) (by kernel_rfl) (by kernel_rfl) (fun _ _ _ h => h) (yieldsIf_load_mid (by rfl) 28 (.tmp 1) rfl (w.heap.size) (0) rfl (GA) _ (fun _ h => rangeAt_row h.gr) Try.underlying28 rfl HGI.out) hHeld ?_
      try simp only [Act.put, List.setIfInBounds_toArray, List.set_cons_zero, List.set_cons_succ]
      refine wpAnyH_ready (rs := [20]) (by kernel_rfl) (by simp) ?_
      refine AllReadyH.cons (o := { dst := some 70, op := Go.Op.call { callee := Go.Callee.value (Go.Operand.func 22), args := #[Go.Operand.tmp 69], argTypes := #[28] }, type := 9, pos := _, after := #[{ on := 19, ground := Go.Ground.data }, { on := 18, ground := Go.Ground.chain }, { on := 18, ground := Go.Ground.guard }], guard := some (18, true) }) rfl (fun K hK => ?_) AllReadyH.nil
      rw [if_pos (by rfl)]
      go_wp2_with fail
      refine Calls.mono (hKd _) ?_
      rintro e w6 ⟨rfl, hb6⟩
      have hHeld6 := hHeld.below hb6
      clear hHeld hb6
      refine hK.out _ _ hHeld6 (fun _ => ?_)
      clear hK K
      try simp only [Act.put, List.setIfInBounds_toArray, List.set_cons_zero, List.set_cons_succ]
      refine wpAnyH_ready (rs := [22]) (by kernel_rfl) (by simp) ?_
      refine AllReadyH.cons (o := { dst := some 72, op := Go.Op.call { callee := Go.Callee.value (Go.Operand.func 23), args := #[Go.Operand.tmp 71], argTypes := #[28] }, type := 9, pos := _, after := #[{ on := 21, ground := Go.Ground.data }, { on := 20, ground := Go.Ground.chain }, { on := 18, ground := Go.Ground.guard }], guard := some (18, true) }) rfl (fun K hK => ?_) AllReadyH.nil
      rw [if_pos (by rfl)]
      go_wp2_with fail
      refine Calls.mono (hRK _) ?_
      rintro e w7 ⟨rfl, hb7⟩
      have hHeld7 := hHeld6.below hb7
      clear hHeld6 hb7
      refine hK.out _ _ hHeld7 (fun _ => ?_)
      clear hK K
      try simp only [Act.put, List.setIfInBounds_toArray, List.set_cons_zero, List.set_cons_succ]
      have hHeld := hHeld7
      refine wpAnyH_take (i := 23) (oi := { dst := some 73, op := Go.Op.binOp Go.BinOp.eql 9 (Go.Operand.tmp 70) (Go.Operand.tmp 72) 9, type := 4, pos := _, after := #[{ on := 20, ground := Go.Ground.data }, { on := 22, ground := Go.Ground.data }, { on := 18, ground := Go.Ground.guard }], guard := some (18, true) }) (v := .bool true) rfl (by kernel_rfl) (by kernel_rfl) (by kernel_rfl) (fun _ _ _ h => h) (Or.inl ⟨by rfl, fun w' hw' => ?_⟩) hHeld ?_
      · first | (go_simp; done) | (go_simp; rfl)
      try simp only [Act.put, List.setIfInBounds_toArray, List.set_cons_zero, List.set_cons_succ]
      refine wpAnyH_take (i := 24) (oi := { dst := some 74, op := Go.Op.pick (Go.Operand.tmp 68) (Go.Operand.tmp 73) (Go.Operand.const (Go.Value.bool false)), type := 4, pos := _, after := #[{ on := 18, ground := Go.Ground.data }, { on := 23, ground := Go.Ground.data }], guard := none }) (v := .bool true) rfl (by kernel_rfl) (by kernel_rfl) (by kernel_rfl) (fun _ _ _ h => h) (Or.inl ⟨by rfl, fun w' hw' => ?_⟩) hHeld ?_
      · first | (go_simp; done) | (go_simp; rfl)
      try simp only [Act.put, List.setIfInBounds_toArray, List.set_cons_zero, List.set_cons_succ]
      refine wpAnyH_take (i := 25) (oi := { dst := some 75, op := Go.Op.move (Go.Operand.tmp 74), type := 4, pos := _, after := #[{ on := 24, ground := Go.Ground.data }, { on := 22, ground := Go.Ground.chain }], guard := none }) (v := .bool true) rfl (by kernel_rfl) (by kernel_rfl) (by kernel_rfl) (fun _ _ _ h => h) (Or.inl ⟨by rfl, fun w' hw' => ?_⟩) hHeld ?_
      · first | (go_simp; done) | (go_simp; rfl)
      try simp only [Act.put, List.setIfInBounds_toArray, List.set_cons_zero, List.set_cons_succ]
      refine wpAnyH_ready (rs := [26]) (by kernel_rfl) (by simp) ?_
      refine AllReadyH.cons (o := { dst := some 76, op := Go.Op.call { callee := Go.Callee.value (Go.Operand.func 12), args := #[], argTypes := #[] }, type := 4, pos := _, after := #[{ on := 25, ground := Go.Ground.chain }, { on := 25, ground := Go.Ground.guard }], guard := some (25, true) }) rfl (fun K hK => ?_) AllReadyH.nil
      rw [if_pos (by rfl)]
      go_wp2_with fail
      refine Calls.mono (hkn _) ?_
      rintro e w8 ⟨rfl, hb8⟩
      have hHeld8 := hHeld7.below hb8
      clear hHeld hHeld7 hb8
      refine hK.out _ _ hHeld8 (fun _ => ?_)
      clear hK K
      try simp only [Act.put, List.setIfInBounds_toArray, List.set_cons_zero, List.set_cons_succ]
      have hHeld := hHeld8
      refine wpAnyH_take (i := 27) (oi := { dst := some 77, op := Go.Op.pick (Go.Operand.tmp 75) (Go.Operand.tmp 76) (Go.Operand.const (Go.Value.bool false)), type := 4, pos := _, after := #[{ on := 25, ground := Go.Ground.data }, { on := 26, ground := Go.Ground.data }], guard := none }) (v := .bool true) rfl (by kernel_rfl) (by kernel_rfl) (by kernel_rfl) (fun _ _ _ h => h) (Or.inl ⟨by rfl, fun w' hw' => ?_⟩) hHeld ?_
      · first | (go_simp; done) | (go_simp; rfl)
      try simp only [Act.put, List.setIfInBounds_toArray, List.set_cons_zero, List.set_cons_succ]
      refine wpAnyH_take (i := 28) (oi := { dst := some 2, op := Go.Op.assign (Go.Operand.tmp 77), type := 4, pos := _, after := #[{ on := 27, ground := Go.Ground.data }, { on := 26, ground := Go.Ground.chain }, { on := 0, ground := Go.Ground.phase }, { on := 1, ground := Go.Ground.phase }, { on := 2, ground := Go.Ground.phase }, { on := 3, ground := Go.Ground.phase }, { on := 4, ground := Go.Ground.phase }, { on := 5, ground := Go.Ground.phase }, { on := 6, ground := Go.Ground.phase }, { on := 7, ground := Go.Ground.phase }, { on := 8, ground := Go.Ground.phase }, { on := 9, ground := Go.Ground.phase }, { on := 10, ground := Go.Ground.phase }, { on := 11, ground := Go.Ground.phase }, { on := 12, ground := Go.Ground.phase }, { on := 13, ground := Go.Ground.phase }, { on := 14, ground := Go.Ground.phase }, { on := 15, ground := Go.Ground.phase }, { on := 16, ground := Go.Ground.phase }, { on := 17, ground := Go.Ground.phase }, { on := 18, ground := Go.Ground.phase }, { on := 19, ground := Go.Ground.phase }, { on := 20, ground := Go.Ground.phase }, { on := 21, ground := Go.Ground.phase }, { on := 22, ground := Go.Ground.phase }, { on := 23, ground := Go.Ground.phase }, { on := 24, ground := Go.Ground.phase }, { on := 25, ground := Go.Ground.phase }, { on := 26, ground := Go.Ground.phase }, { on := 27, ground := Go.Ground.phase }], guard := none }) (v := .bool true) rfl (by kernel_rfl) (by kernel_rfl) (by kernel_rfl) (fun _ _ _ h => h) (Or.inl ⟨by rfl, fun w' hw' => ?_⟩) hHeld ?_
      · first | (go_simp; done) | (go_simp; rfl)
      try simp only [Act.put, List.setIfInBounds_toArray, List.set_cons_zero, List.set_cons_succ]
      refine wpAnyH_done (by kernel_rfl) ?_ _
      have HB8 : Hid _ := hHeld8.bel
      clear hHeld hHeld8
      go_wp2
      go_ret
      exact ⟨rfl, HB8.out⟩
end Go.Proofs.Ytabnmhmlcoakkaa.PC
namespace Go.Proofs.Ytabnmhmlcoakkaa.paramsReads
open Go.ChangeShapes Go.WideShapes Go.ChangeAt Go.RowKit

theorem own : ownKnob Try.prog.godebug = none := by kernel_rfl
theorem laidOut : laidOutB Try.prog = true := by kernel_rfl
theorem open_octets {H : Type} {enc : TypeId × Value → H} {W : World} {r : Reach} {b0 base : Nat} {held : Bool} {k : TypeId} {n : Nat} {v : Value} {d : DataW H} {ps : List MemPlace} (hu : Try.prog.underlying k = some (.array n 5)) (hk : Try.prog.cellsOf k = n)
    (ho : Value.okWide Try.prog W r b0 k v) (hd : DataW.Trod enc Try.prog W base (fun _ => true) held k v d ps) : ∃ bs : List UInt8, v = .agg (bs.map B8).toArray ∧ bs.length = n := by
  simp only [Value.okWide, hu] at ho
  obtain ⟨cs, h1, _⟩ := ho
  subst h1
  obtain ⟨fuel, hf⟩ := hd
  obtain ⟨l1, p1⟩ := PC.open_arr hu Try.underlying5 hk (by kernel_rfl) hf
  obtain ⟨bs, hb⟩ := PC.cells_u8 _ p1
  have e : cs.toList = bs.map B8 := hb
  refine ⟨bs, by rw [← e], ?_⟩
  have e2 : cs.toList.length = n := l1
  rw [e, List.length_map] at e2
  exact e2
theorem walk (G : List UInt8) (w : World) (hG : G.length = 128) :
    Calls Try.prog 5 #[.agg (G.map B8).toArray] w fun e w' => e = .returned (.bool true) ∧ Below w.heap.size w w' := PC.reads_walk G w hG
set_option maxRecDepth 100000 in
theorem lifted (os : Os) (started : os.Started) (H : Type) (enc : TypeId × Value → H) :
    ReturnsInHanded {} Try.checked os 5 .any (Rows.paramsReadsSpec.pre6 enc Try.prog Try.f5 Rows.paramsReadsRow.domain false) (Rows.paramsReadsSpec.post enc Try.prog Try.f5 false true false false) := by
  refine returnsInHanded_of_change (C := Try.checked) own started (by kernel_rfl) Try.func5
    (ChangeSpec.witness6 (enc := enc) (C := Try.checked) false ⟨#[], #[.agg (Array.replicate 128 (.int .u8 0))], []⟩ 8 (by kernel_rfl) (by kernel_rfl) (by kernel_rfl) (by kernel_rfl)) ?_
  intro W base args ds gs before hval0 hW hcnd _
  have hval : ∀ (j : Nat) t v, Try.f5.params[j]? = some t → args[j]? = some v → Value.okWide Try.prog W .any base t v := hval0
  have hW' := hW
  obtain ⟨p, q, hA0, hV, rfl, hfz, hnd⟩ := hW
  have hA : DataW.TrodAll enc Try.prog W 0 (fun _ => true) true Try.f5.params.toList args.toList ds p := hA0
  rw [Try.params5] at hA hval
  obtain ⟨v0, vs0, d0, ds0, p0, q0, hargs, rfl, rfl, h0, r0⟩ := trodAll_cons hA
  obtain ⟨rfl, rfl, rfl⟩ := trodAll_nil r0
  obtain rfl : args = #[v0] := by cases args; simp_all
  obtain ⟨rfl, rfl⟩ := trodVars_none hV
  have k0 := h0
  have lt0 : ∀ x ∈ p0, x.block < W.heap.size := by obtain ⟨m, hm⟩ := k0; exact DataW.trod_lt m _ _ _ hm
  obtain ⟨l0, rfl, hl0⟩ := open_octets Try.underlying28 (by kernel_rfl) (hval 0 28 v0 rfl rfl) h0
  clear hA0 hval0
  refine (walk l0 W hl0).mono fun e W' ⟨he, bel⟩ => ?_
  subst he
  exact ⟨_, rfl, _, _, _, [], _, [], hW', trodAll_mk1 (shut_bool Try.underlying4 _), (trodAll_cons_mk (Below.trod laidOut (by kernel_rfl) (of_decide_eq_true (by kernel_rfl)) k0 bel lt0) trodAll_mk0), rfl, bel.frame _, fun h => by cases h⟩

theorem over : Rows.paramsReadsRow.holds Try.pinned (OpenSpec.ofChange Rows.paramsReadsSpec) :=
  OpenClaim.holds_of_wide 5 Try.f5 rfl rfl rfl rfl rfl rfl rfl ⟨rfl, rfl, rfl, rfl, rfl⟩ rfl rfl rfl rfl rfl (by kernel_rfl) Try.func5 (by kernel_rfl)
    (of_decide_eq_true (by kernel_rfl)) (by unfold Func.isWrapper; first | (rw [if_pos (by decide +kernel)]; kernel_rfl) | (rw [if_neg (by decide +kernel)]; exact ⟨rfl, rfl⟩))
    (fun os started H enc _ => lifted os started H enc)

end Go.Proofs.Ytabnmhmlcoakkaa.paramsReads
namespace Go.Proofs.Ytabnmhmlcoakkaa
theorem paramsReads_holds : Rows.ParamsReadsSaid := paramsReads.over
#print axioms paramsReads_holds
end Go.Proofs.Ytabnmhmlcoakkaa
