/- report: a report's bytes, as the document joins them. -/
import Derived.Test.YtpklboicgjpmeaaDoorTh
set_option linter.unusedVariables false
set_option linter.unusedSimpArgs false
namespace Go.Proofs.YtpklboicgjpmeaaDoor.RB
open Go.RowKit

theorem wp_bslice {op : Oper} {a : Act} {w w' : World} {K : Act → World → Prop} {Q : Exit → Act → World → Prop} (t : TypeId) (n : Nat) (parts : Array (Nat × Operand)) (ho : op.op = .buildSlice t n parts) (vals : Array (Nat × Value)) (v : Value) (hp : (parts.map fun (i, x) => (i, a.eval x)) = vals)
    (hr : (Instr.buildSlice t n vals).run Tryd.prog w = .ok v w') (h : K (a.put op.dst v) w') : op.wp Tryd.prog a w K Q := by
  unfold Oper.wp execOp
  simp only [ho, Sem.run_bind, hp, hr, Result.andThen_ok]
  exact h
theorem bs_four (w : World) (p1 p2 p3 p4 : Option Addr) (n1 n2 n3 n4 c1 c2 c3 c4 : Nat) : (Instr.buildSlice 51 4 #[(0, .slice p1 n1 c1), (1, .slice p2 n2 c2), (2, .slice p3 n3 c3), (3, .slice p4 n4 c4)]).run Tryd.prog w = .ok (.slice (some ⟨w.heap.size, 0, none⟩) 4 4) (w.alloc (.cells #[.slice p1 n1 c1, .slice p2 n2 c2, .slice p3 n3 c3, .slice p4 n4 c4] 28 (0, 0))) := by kernel_rfl
theorem bs_name (w : World) : (Instr.buildSlice 28 8 #[(0, .int .u8 114), (1, .int .u8 101), (2, .int .u8 112), (3, .int .u8 111), (4, .int .u8 114), (5, .int .u8 116), (6, .int .u8 0), (7, .int .u8 0)]).run Tryd.prog w = .ok (.slice (some ⟨w.heap.size, 0, none⟩) 8 8) (w.alloc (.cells (nameB.map B8).toArray 5 (0, 0))) := by kernel_rfl
theorem hl_four {X : World} {a b c d : Value} {l1 l2 l3 l4 : List UInt8} (h1 : HB X a l1) (h2 : HB X b l2) (h3 : HB X c l3) (h4 : HB X d l4) : HL (X.alloc (.cells #[a, b, c, d] 28 (0, 0))) X.heap.size [l1, l2, l3, l4] := by
  have hb : Below X.heap.size X (X.alloc (.cells #[a, b, c, d] 28 (0, 0))) := (Below.refl _ _).alloc (Nat.le_refl _) _
  have hr := heap_alloc_new X (.cells #[a, b, c, d] 28 (0, 0))
  intro i hi
  have hi4 : i = 0 ∨ i = 1 ∨ i = 2 ∨ i = 3 := by simp at hi; omega
  rcases hi4 with rfl | rfl | rfl | rfl
  · exact ⟨a, fields5 _ _ _ _ _ hr 0, h1.below hb⟩
  · exact ⟨b, fields5 _ _ _ _ _ hr 1, h2.below hb⟩
  · exact ⟨c, fields5 _ _ _ _ _ hr 2, h3.below hb⟩
  · exact ⟨d, fields5 _ _ _ _ _ hr 3, h4.below hb⟩
set_option maxHeartbeats 400000 in
set_option maxRecDepth 100000 in
theorem rbytes_any (r : Rp) (h : r.ok) (w : World) : Calls Tryd.prog 10 #[rV r] w fun e w' => ∃ v, e = .returned v ∧ HB w' v (byt r) ∧ Below w.heap.size w w' := by
  have HPT : Hid (∀ W, Calls Tryd.prog 25 #[.int .u64 (r.inst : Int), .int .i64 (8 : Int)] W fun e w' => ∃ v, e = .returned v ∧ FB W.heap.size w' v (W1.le 8 r.inst) ∧ Below W.heap.size W w') := fun W => refPut_any r.inst 8 W h.i (by decide)
  have HLN : Hid ((W1.le 8 r.inst).length = 8) := W1.le_length _ _
  have HFE : Hid ([nameB, W1.le 8 r.inst, r.ms, r.ch].flatten = byt r) := by show _ = _; simp [byt]
  have HFL : [nameB, W1.le 8 r.inst, r.ms, r.ch].flatten.length ≤ 1099511627776 := by rw [HFE.out, byt_len h]; decide
  have HJN : Hid (∀ W g c, HL W g [nameB, W1.le 8 r.inst, r.ms, r.ch] → Calls Tryd.prog 24 #[.slice (some ⟨g, 0, none⟩) 4 c] W fun e w' => ∃ v, e = .returned v ∧ HB w' v (byt r) ∧ Below W.heap.size W w') := fun W g c hl => by
    refine Calls.mono (refJoin_any g c [nameB, W1.le 8 r.inst, r.ms, r.ch] W (by simp) HFL hl) ?_
    rintro e w' ⟨v, rfl, hf, hb⟩
    exact ⟨v, rfl, by have h := hf.hb; rw [HFE.out] at h; exact h, hb⟩
  clear HFL HFE
  have HR0 : (rL r)[0]? = some (.int .u64 (r.inst : Int)) := rfl
  have HRM : Hid (∀ W b, W.rangeAt b 0 (rL r) → HB W (.slice (some ⟨b, 1, none⟩) 32 32) r.ms) := fun W b hr => hb_range 32 h.m.symm (by rw [h.m]; decide) (by decide) (digs_m h hr)
  have HRC : Hid (∀ W b, W.rangeAt b 0 (rL r) → HB W (.slice (some ⟨b, 33, none⟩) 32 32) r.ch) := fun W b hr => hb_range 32 h.c.symm (by rw [h.c]; decide) (by decide) (digs_c h hr)
  have hsd1 := fun W => slice_dg W w.heap.size 1
  have hsd2 := fun W => slice_dg W w.heap.size 33
  have HIN : Hid _ := infRA h
  have HI2 : Hid _ := rL_one r
  clear h
  unfold rV
  go_enter Tryd.func10, Tryd.ntmps10
  go_wp2_with fail
  refine wp_region_held_drew (S := fun X => RS w [(w.heap.size, 26, rL r)] X) (by kernel_rfl) (((RS.start w).alloc w.heap.size rfl 26 (rL r)).step (Below.refl _ _).drew) (fun hHeld => ?_)
  generalize World.drew _ = V0 at *
  refine wpAnyH_take (i := 1) (oi := { dst := some 4, op := Go.Op.fieldAddr 26 (Go.Operand.tmp 1) 0, type := 0, pos := _, after := #[], guard := none }) (v := .pointer (some ⟨w.heap.size, 0, none⟩)) rfl (by kernel_rfl) (by kernel_rfl) (by kernel_rfl) (fun _ _ _ h => h) (Or.inl ⟨by rfl, fun w' hw' => ?_⟩) hHeld ?_
  · first | (go_simp; done) | (go_simp; rfl)
  try simp only [Act.put, List.setIfInBounds_toArray, List.set_cons_zero, List.set_cons_succ]
  refine wpAnyH_take (i := 2) (oi := { dst := some 5, op := Go.Op.load 22 (Go.Operand.tmp 4), type := 22, pos := _, after := #[{ on := 1, ground := Go.Ground.data }], guard := none }) (v := .int .u64 (r.inst : Int)) rfl (by kernel_rfl) (by kernel_rfl) (by kernel_rfl) (fun _ _ _ h => h) (Or.inl ⟨by rfl, fun w' hw' => ?_⟩) hHeld ?_
  · have hcc := RS.cell hw' 0 rfl 0 HR0; first | (go_simp; done) | (go_simp; rfl)
  try simp only [Act.put, List.setIfInBounds_toArray, List.set_cons_zero, List.set_cons_succ]
  refine wpAnyH_take (i := 4) (oi := { dst := some 7, op := Go.Op.fieldAddr 26 (Go.Operand.tmp 1) 1, type := 0, pos := _, after := #[], guard := none }) (v := .pointer (some ⟨w.heap.size, 1, none⟩)) rfl (by kernel_rfl) (by kernel_rfl) (by kernel_rfl) (fun _ _ _ h => h) (Or.inl ⟨by rfl, fun w' hw' => ?_⟩) hHeld ?_
  · first | (go_simp; done) | (go_simp; rfl)
  try simp only [Act.put, List.setIfInBounds_toArray, List.set_cons_zero, List.set_cons_succ]
  refine wpAnyH_take (i := 5) (oi := { dst := some 8, op := Go.Op.slice 24 (Go.Operand.tmp 7) none none none, type := 28, pos := _, after := #[{ on := 4, ground := Go.Ground.data }], guard := none }) (v := .slice (some ⟨w.heap.size, 1, none⟩) 32 32) rfl (by kernel_rfl) (by kernel_rfl) (by kernel_rfl) (fun _ _ _ h => h) (Or.inl ⟨by rfl, fun w' hw' => ?_⟩) hHeld ?_
  · first | (go_simp; done) | (go_simp; rfl)
  try simp only [Act.put, List.setIfInBounds_toArray, List.set_cons_zero, List.set_cons_succ]
  refine wpAnyH_take (i := 6) (oi := { dst := some 9, op := Go.Op.fieldAddr 26 (Go.Operand.tmp 1) 2, type := 0, pos := _, after := #[], guard := none }) (v := .pointer (some ⟨w.heap.size, 33, none⟩)) rfl (by kernel_rfl) (by kernel_rfl) (by kernel_rfl) (fun _ _ _ h => h) (Or.inl ⟨by rfl, fun w' hw' => ?_⟩) hHeld ?_
  · first | (go_simp; done) | (go_simp; rfl)
  try simp only [Act.put, List.setIfInBounds_toArray, List.set_cons_zero, List.set_cons_succ]
  refine wpAnyH_take (i := 7) (oi := { dst := some 10, op := Go.Op.slice 24 (Go.Operand.tmp 9) none none none, type := 28, pos := _, after := #[{ on := 6, ground := Go.Ground.data }], guard := none }) (v := .slice (some ⟨w.heap.size, 33, none⟩) 32 32) rfl (by kernel_rfl) (by kernel_rfl) (by kernel_rfl) (fun _ _ _ h => h) (Or.inl ⟨by rfl, fun w' hw' => ?_⟩) hHeld ?_
  · first | (go_simp; done) | (go_simp; rfl)
  try simp only [Act.put, List.setIfInBounds_toArray, List.set_cons_zero, List.set_cons_succ]
  refine wpAnyH_ready (rs := [0, 3]) (by kernel_rfl) (by simp) ?_
  refine AllReadyH.cons (o := { dst := some 3, op := Go.Op.buildSlice 28 8 #[(0, Go.Operand.const (Go.Value.int Go.IntKind.u8 114)), (1, Go.Operand.const (Go.Value.int Go.IntKind.u8 101)), (2, Go.Operand.const (Go.Value.int Go.IntKind.u8 112)), (3, Go.Operand.const (Go.Value.int Go.IntKind.u8 111)), (4, Go.Operand.const (Go.Value.int Go.IntKind.u8 114)), (5, Go.Operand.const (Go.Value.int Go.IntKind.u8 116)), (6, Go.Operand.const (Go.Value.int Go.IntKind.u8 0)), (7, Go.Operand.const (Go.Value.int Go.IntKind.u8 0))], type := 28, pos := _, after := #[], guard := none }) rfl (fun K hK => ?_) (AllReadyH.cons (o := { dst := some 6, op := Go.Op.call { callee := Go.Callee.value (Go.Operand.func 25), args := #[Go.Operand.tmp 5, Go.Operand.const (Go.Value.int Go.IntKind.i64 8)], argTypes := #[22, 3] }, type := 28, pos := _, after := #[{ on := 2, ground := Go.Ground.data }], guard := none }) rfl (fun K hK => ?_) AllReadyH.nil)
  all_goals rw [if_pos (by rfl)]
  · skip
    refine wp_bslice 28 8 _ rfl _ _ (by simp [Act.eval]) (bs_name V0) ?_
    have h3 : Below V0.heap.size V0 (V0.alloc (.cells (nameB.map B8).toArray 5 (0, 0))) := (Below.refl _ _).alloc (Nat.le_refl _) _
    have hn : HB (V0.alloc (.cells (nameB.map B8).toArray 5 (0, 0))) (.slice (some ⟨V0.heap.size, 0, none⟩) 8 8) nameB := hb_range 8 rfl (by decide) (by decide) (rangeAt_row (heap_alloc_new _ _))
    replace hHeld := RS.step hHeld h3
    clear h3
    generalize V0.alloc (.cells (nameB.map B8).toArray 5 (0, 0)) = V1 at *
    generalize V0.heap.size = n0 at *
    refine hK.out _ _ hHeld (fun _ => ?_)
    clear hK K
    try simp only [Act.put, List.setIfInBounds_toArray, List.set_cons_zero, List.set_cons_succ]
    refine wpAnyH_ready (rs := [3]) (by kernel_rfl) (by simp) ?_
    refine AllReadyH.cons (o := { dst := some 6, op := Go.Op.call { callee := Go.Callee.value (Go.Operand.func 25), args := #[Go.Operand.tmp 5, Go.Operand.const (Go.Value.int Go.IntKind.i64 8)], argTypes := #[22, 3] }, type := 28, pos := _, after := #[{ on := 2, ground := Go.Ground.data }], guard := none }) rfl (fun K hK => ?_) AllReadyH.nil
    rw [if_pos (by rfl)]
    go_wp2_with fail
    refine Calls.mono (HPT.out V1) ?_
    rintro e V2 ⟨vq, rfl, hf, hb⟩
    obtain ⟨pq, cq, evq⟩ := fb_form hf
    rw [HLN.out] at evq
    have hq := hf.hb
    subst evq
    replace hHeld := RS.step hHeld hb
    replace hn := hn.below hb
    clear hf hb
    refine hK.out _ _ hHeld (fun _ => ?_)
    clear hK K
    try simp only [Act.put, List.setIfInBounds_toArray, List.set_cons_zero, List.set_cons_succ]
    refine wpAnyH_ready (rs := [8]) (by kernel_rfl) (by simp) ?_
    refine AllReadyH.cons (o := { dst := some 11, op := Go.Op.buildSlice 51 4 #[(0, Go.Operand.tmp 3), (1, Go.Operand.tmp 6), (2, Go.Operand.tmp 8), (3, Go.Operand.tmp 10)], type := 51, pos := _, after := #[{ on := 0, ground := Go.Ground.data }, { on := 3, ground := Go.Ground.data }, { on := 5, ground := Go.Ground.data }, { on := 7, ground := Go.Ground.data }], guard := none }) rfl (fun K hK => ?_) AllReadyH.nil
    rw [if_pos (by rfl)]
    refine wp_bslice 51 4 _ rfl _ _ (by simp; exact ⟨rfl, rfl, rfl, rfl⟩) (bs_four V2 _ _ _ _ _ _ _ _ _ _ _ _) ?_
    have hl := hl_four hn hq (HRM.out _ _ (rangeAt_row (hHeld.at 0 rfl))) (HRC.out _ _ (rangeAt_row (hHeld.at 0 rfl)))
    replace hHeld := RS.step hHeld ((Below.refl V2.heap.size V2).alloc (Nat.le_refl _) (.cells #[.slice (some ⟨n0, 0, none⟩) 8 8, .slice pq 8 cq, .slice (some ⟨w.heap.size, 1, none⟩) 32 32, .slice (some ⟨w.heap.size, 33, none⟩) 32 32] 28 (0, 0)))
    clear hn hq
    generalize V2.alloc (.cells #[.slice (some ⟨n0, 0, none⟩) 8 8, .slice pq 8 cq, .slice (some ⟨w.heap.size, 1, none⟩) 32 32, .slice (some ⟨w.heap.size, 33, none⟩) 32 32] 28 (0, 0)) = V3 at *
    generalize V2.heap.size = n8 at *
    refine hK.out _ _ hHeld (fun _ => ?_)
    clear hK K
    try simp only [Act.put, List.setIfInBounds_toArray, List.set_cons_zero, List.set_cons_succ]
    refine wpAnyH_ready (rs := [9]) (by kernel_rfl) (by simp) ?_
    refine AllReadyH.cons (o := { dst := some 12, op := Go.Op.call { callee := Go.Callee.value (Go.Operand.func 24), args := #[Go.Operand.tmp 11], argTypes := #[51] }, type := 28, pos := _, after := #[{ on := 8, ground := Go.Ground.data }, { on := 3, ground := Go.Ground.chain }], guard := none }) rfl (fun K hK => ?_) AllReadyH.nil
    rw [if_pos (by rfl)]
    go_wp2_with fail
    refine Calls.mono (HJN.out V3 n8 4 hl) ?_
    rintro e V4 ⟨vj, rfl, hf, hb⟩
    have HF : Hid _ := hf
    replace hHeld := RS.step hHeld hb
    clear hf hb hl
    refine hK.out _ _ hHeld (fun _ => ?_)
    clear hK K
    try simp only [Act.put, List.setIfInBounds_toArray, List.set_cons_zero, List.set_cons_succ]
    refine wpAnyH_take (i := 10) (oi := { dst := some 2, op := Go.Op.assign (Go.Operand.tmp 12), type := 28, pos := _, after := #[{ on := 9, ground := Go.Ground.data }, { on := 9, ground := Go.Ground.chain }, { on := 0, ground := Go.Ground.phase }, { on := 1, ground := Go.Ground.phase }, { on := 2, ground := Go.Ground.phase }, { on := 3, ground := Go.Ground.phase }, { on := 4, ground := Go.Ground.phase }, { on := 5, ground := Go.Ground.phase }, { on := 6, ground := Go.Ground.phase }, { on := 7, ground := Go.Ground.phase }, { on := 8, ground := Go.Ground.phase }, { on := 9, ground := Go.Ground.phase }], guard := none }) (v := vj) rfl (by kernel_rfl) (by kernel_rfl) (by kernel_rfl) (fun _ _ _ h => h) (Or.inl ⟨by rfl, fun w' hw' => ?_⟩) hHeld ?_
    · first | (go_simp; done) | (go_simp; rfl)
    try simp only [Act.put, List.setIfInBounds_toArray, List.set_cons_zero, List.set_cons_succ]
    refine wpAnyH_done (by kernel_rfl) ?_ _
    go_wp2
    go_ret
    exact ⟨_, rfl, HF.out, hHeld.bel⟩
  · skip
    go_wp2_with fail
    refine Calls.mono (HPT.out V0) ?_
    rintro e V1 ⟨vq, rfl, hf, hb⟩
    obtain ⟨pq, cq, evq⟩ := fb_form hf
    rw [HLN.out] at evq
    have hq := hf.hb
    subst evq
    replace hHeld := RS.step hHeld hb
    clear hf hb
    refine hK.out _ _ hHeld (fun _ => ?_)
    clear hK K
    try simp only [Act.put, List.setIfInBounds_toArray, List.set_cons_zero, List.set_cons_succ]
    refine wpAnyH_ready (rs := [0]) (by kernel_rfl) (by simp) ?_
    refine AllReadyH.cons (o := { dst := some 3, op := Go.Op.buildSlice 28 8 #[(0, Go.Operand.const (Go.Value.int Go.IntKind.u8 114)), (1, Go.Operand.const (Go.Value.int Go.IntKind.u8 101)), (2, Go.Operand.const (Go.Value.int Go.IntKind.u8 112)), (3, Go.Operand.const (Go.Value.int Go.IntKind.u8 111)), (4, Go.Operand.const (Go.Value.int Go.IntKind.u8 114)), (5, Go.Operand.const (Go.Value.int Go.IntKind.u8 116)), (6, Go.Operand.const (Go.Value.int Go.IntKind.u8 0)), (7, Go.Operand.const (Go.Value.int Go.IntKind.u8 0))], type := 28, pos := _, after := #[], guard := none }) rfl (fun K hK => ?_) AllReadyH.nil
    rw [if_pos (by rfl)]
    refine wp_bslice 28 8 _ rfl _ _ (by simp [Act.eval]) (bs_name V1) ?_
    have h3 : Below V1.heap.size V1 (V1.alloc (.cells (nameB.map B8).toArray 5 (0, 0))) := (Below.refl _ _).alloc (Nat.le_refl _) _
    have hn : HB (V1.alloc (.cells (nameB.map B8).toArray 5 (0, 0))) (.slice (some ⟨V1.heap.size, 0, none⟩) 8 8) nameB := hb_range 8 rfl (by decide) (by decide) (rangeAt_row (heap_alloc_new _ _))
    replace hHeld := RS.step hHeld h3
    replace hq := hq.below h3
    clear h3
    generalize V1.alloc (.cells (nameB.map B8).toArray 5 (0, 0)) = V2 at *
    generalize V1.heap.size = n0 at *
    refine hK.out _ _ hHeld (fun _ => ?_)
    clear hK K
    try simp only [Act.put, List.setIfInBounds_toArray, List.set_cons_zero, List.set_cons_succ]
    refine wpAnyH_ready (rs := [8]) (by kernel_rfl) (by simp) ?_
    refine AllReadyH.cons (o := { dst := some 11, op := Go.Op.buildSlice 51 4 #[(0, Go.Operand.tmp 3), (1, Go.Operand.tmp 6), (2, Go.Operand.tmp 8), (3, Go.Operand.tmp 10)], type := 51, pos := _, after := #[{ on := 0, ground := Go.Ground.data }, { on := 3, ground := Go.Ground.data }, { on := 5, ground := Go.Ground.data }, { on := 7, ground := Go.Ground.data }], guard := none }) rfl (fun K hK => ?_) AllReadyH.nil
    rw [if_pos (by rfl)]
    refine wp_bslice 51 4 _ rfl _ _ (by simp; exact ⟨rfl, rfl, rfl, rfl⟩) (bs_four V2 _ _ _ _ _ _ _ _ _ _ _ _) ?_
    have hl := hl_four hn hq (HRM.out _ _ (rangeAt_row (hHeld.at 0 rfl))) (HRC.out _ _ (rangeAt_row (hHeld.at 0 rfl)))
    replace hHeld := RS.step hHeld ((Below.refl V2.heap.size V2).alloc (Nat.le_refl _) (.cells #[.slice (some ⟨n0, 0, none⟩) 8 8, .slice pq 8 cq, .slice (some ⟨w.heap.size, 1, none⟩) 32 32, .slice (some ⟨w.heap.size, 33, none⟩) 32 32] 28 (0, 0)))
    clear hn hq
    generalize V2.alloc (.cells #[.slice (some ⟨n0, 0, none⟩) 8 8, .slice pq 8 cq, .slice (some ⟨w.heap.size, 1, none⟩) 32 32, .slice (some ⟨w.heap.size, 33, none⟩) 32 32] 28 (0, 0)) = V3 at *
    generalize V2.heap.size = n8 at *
    refine hK.out _ _ hHeld (fun _ => ?_)
    clear hK K
    try simp only [Act.put, List.setIfInBounds_toArray, List.set_cons_zero, List.set_cons_succ]
    refine wpAnyH_ready (rs := [9]) (by kernel_rfl) (by simp) ?_
    refine AllReadyH.cons (o := { dst := some 12, op := Go.Op.call { callee := Go.Callee.value (Go.Operand.func 24), args := #[Go.Operand.tmp 11], argTypes := #[51] }, type := 28, pos := _, after := #[{ on := 8, ground := Go.Ground.data }, { on := 3, ground := Go.Ground.chain }], guard := none }) rfl (fun K hK => ?_) AllReadyH.nil
    rw [if_pos (by rfl)]
    go_wp2_with fail
    refine Calls.mono (HJN.out V3 n8 4 hl) ?_
    rintro e V4 ⟨vj, rfl, hf, hb⟩
    have HF : Hid _ := hf
    replace hHeld := RS.step hHeld hb
    clear hf hb hl
    refine hK.out _ _ hHeld (fun _ => ?_)
    clear hK K
    try simp only [Act.put, List.setIfInBounds_toArray, List.set_cons_zero, List.set_cons_succ]
    refine wpAnyH_take (i := 10) (oi := { dst := some 2, op := Go.Op.assign (Go.Operand.tmp 12), type := 28, pos := _, after := #[{ on := 9, ground := Go.Ground.data }, { on := 9, ground := Go.Ground.chain }, { on := 0, ground := Go.Ground.phase }, { on := 1, ground := Go.Ground.phase }, { on := 2, ground := Go.Ground.phase }, { on := 3, ground := Go.Ground.phase }, { on := 4, ground := Go.Ground.phase }, { on := 5, ground := Go.Ground.phase }, { on := 6, ground := Go.Ground.phase }, { on := 7, ground := Go.Ground.phase }, { on := 8, ground := Go.Ground.phase }, { on := 9, ground := Go.Ground.phase }], guard := none }) (v := vj) rfl (by kernel_rfl) (by kernel_rfl) (by kernel_rfl) (fun _ _ _ h => h) (Or.inl ⟨by rfl, fun w' hw' => ?_⟩) hHeld ?_
    · first | (go_simp; done) | (go_simp; rfl)
    try simp only [Act.put, List.setIfInBounds_toArray, List.set_cons_zero, List.set_cons_succ]
    refine wpAnyH_done (by kernel_rfl) ?_ _
    go_wp2
    go_ret
    exact ⟨_, rfl, HF.out, hHeld.bel⟩
end Go.Proofs.YtpklboicgjpmeaaDoor.RB
