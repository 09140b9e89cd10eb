/- Contract of the program's Text. -/
import Derived.Test.YtefhjjjjbkkedaaGreatQI
set_option linter.unusedVariables false
set_option linter.unusedSimpArgs false
namespace Go.Proofs.YtefhjjjjbkkedaaGreat.R5
open scoped Classical
open Go.RowKit

theorem wp_bslice {op : Oper} {a : Act} {w w' : World} {K : Act → World → Prop} {Q : Exit → Act → World → Prop} (t : TypeId) (n : Nat) (parts : Array (Nat × Operand)) (ho : op.op = .buildSlice t n parts) (vals : Array (Nat × Value)) (v : Value) (hp : (parts.map fun (i, x) => (i, a.eval x)) = vals)
    (hr : (Instr.buildSlice t n vals).run Tryz.prog w = .ok v w') (h : K (a.put op.dst v) w') : op.wp Tryz.prog a w K Q := by
  unfold Oper.wp execOp
  simp only [ho, Sem.run_bind, hp, hr, Result.andThen_ok]
  exact h
theorem bs_byte1 (w : World) (c : Int) : (Instr.buildSlice 37 1 #[(0, .int .u8 c)]).run Tryz.prog w = .ok (.slice (some ⟨w.heap.size, 0, none⟩) 1 1) (w.alloc (.cells #[.int .u8 c] 5 (0, 0))) := by kernel_rfl
theorem bs_four (w : World) (p1 p2 p3 p4 : Option Addr) (n1 n2 n3 n4 c1 c2 c3 c4 : Nat) : (Instr.buildSlice 83 4 #[(0, .slice p1 n1 c1), (1, .slice p2 n2 c2), (2, .slice p3 n3 c3), (3, .slice p4 n4 c4)]).run Tryz.prog w = .ok (.slice (some ⟨w.heap.size, 0, none⟩) 4 4) (w.alloc (.cells #[.slice p1 n1 c1, .slice p2 n2 c2, .slice p3 n3 c3, .slice p4 n4 c4] 37 (0, 0))) := by kernel_rfl
theorem hp_four (U : World) (a b c d : Value) (l1 l2 l3 l4 : List UInt8) (h1 : HB U a l1) (h2 : HB U b l2) (h3 : HB U c l3) (h4 : HB U d l4) : HP (U.alloc (.cells #[a, b, c, d] 37 (0, 0))) (.slice (some ⟨U.heap.size, 0, none⟩) 4 4) [l1, l2, l3, l4] := by
  have hr := heap_alloc_new U (.cells #[a, b, c, d] 37 (0, 0))
  refine ⟨_, 4, rfl, fun i hi => ?_⟩
  have hi' : i < 4 := by simpa using hi
  match i, hi' with
  | 0, _ => exact ⟨U.heap.size, a, rfl, by rw [cell_of_row _ _ 0 _ _ _ hr]; rfl, hb_alloc h1 _⟩
  | 1, _ => exact ⟨U.heap.size, b, rfl, by rw [cell_of_row _ _ 1 _ _ _ hr]; rfl, hb_alloc h2 _⟩
  | 2, _ => exact ⟨U.heap.size, c, rfl, by rw [cell_of_row _ _ 2 _ _ _ hr]; rfl, hb_alloc h3 _⟩
  | 3, _ => exact ⟨U.heap.size, d, rfl, by rw [cell_of_row _ _ 3 _ _ _ hr]; rfl, hb_alloc h4 _⟩
/-- While Text runs. -/
structure STx (w : World) (PA : Array Value) (X : World) : Prop where
  b : Below w.heap.size w X
  q : X.heap[w.heap.size]? = some (.cells PA 39 (0, 0))
theorem STx.step {w : World} {PA : Array Value} {X Y : World} (h : STx w PA X) (hb : Below X.heap.size X Y) : STx w PA Y := ⟨h.b.trans (hb.mono h.b.size), (hb.block _ (row_lt h.q)).trans h.q⟩
theorem STx.alloc {w : World} {PA : Array Value} {X : World} (h : STx w PA X) (ob : Obj) : STx w PA (X.alloc ob) := h.step ((Below.refl _ _).alloc (Nat.le_refl _) _)

set_option maxHeartbeats 4000000 in
set_option maxRecDepth 100000 in
theorem ptext_any (v : Value) (q : Qn) (w : World) (hl : q.data.length ≤ 1099511000000) (h : HQ w v q) : Calls Tryz.prog 52 #[v] w fun e w' => ∃ u, e = .returned u ∧ FB w.heap.size w' u (textQ q) ∧ Below w.heap.size w w' := by
  obtain ⟨hk, dv, rfl, hd⟩ := h
  obtain ⟨PA, hPA⟩ : ∃ A, A = (qL q dv).toArray := ⟨_, rfl⟩
  have HR : Hid (∀ W : World, W.heap[w.heap.size]? = some (.cells PA 39 (0, 0)) → W.cell? ⟨w.heap.size, 0, none⟩ = some (.int .i64 q.kind) ∧ W.rangeAt w.heap.size 1 (q.key.map B8) ∧ W.cell? ⟨w.heap.size, 33, none⟩ = some (.int .i64 q.dom) ∧ W.cell? ⟨w.heap.size, 34, none⟩ = some dv) := fun W hW => by
    rw [hPA] at hW; exact q_facts' hk hW
  have HT : Hid (textQ q = [lowB q.kind] ++ q.key ++ [lowB q.dom] ++ q.data) := rfl
  rw [← hPA]
  have HS : Hid (STx w PA (w.alloc (.cells PA 39 (0, 0))).drew) := ⟨((Below.refl _ _).alloc (Nat.le_refl _) _).drew, heap_at _ _ _ rfl⟩
  have HKL : Hid _ := hk
  have hm1 := lowB_nat q.kind
  have hm2 := lowB_nat q.dom
  obtain ⟨T, hT⟩ : ∃ T, T = textQ q := ⟨_, rfl⟩
  rw [← hT] at HT ⊢
  obtain ⟨kd, ky, dm, da⟩ := q
  simp only at *
  generalize hc1 : lowB kd = c1 at *
  generalize hc2 : lowB dm = c2 at *
  have m1 : IntKind.u8.wrap kd = (c1.toNat : Int) := by rw [IntKind.wrap_u8]; omega
  have m2 : IntKind.u8.wrap dm = (c2.toNat : Int) := by rw [IntKind.wrap_u8]; omega
  have hsl := fun W => sliceDig W w.heap.size 1
  obtain ⟨pd, cd, hdv, _⟩ := hb_cells hd
  subst hdv
  have HDB : Hid (∀ W, Below w.heap.size w W → HB W (.slice pd da.length cd) da) := fun W hW => hd.below hW
  clear hPA hd hk hT hc1 hc2 hm1 hm2
  go_enter Tryz.func52, Tryz.ntmps52
  go_wp2
  refine wp_region_held_drew (S := STx w PA) (by kernel_rfl) HS.out (fun hHeld => ?_)
  generalize (w.alloc (.cells PA 39 (0, 0))).drew = W at *
  refine wpAnyH_take (i := 0) (oi := { dst := some 3, op := Go.Op.fieldAddr 39 (Go.Operand.tmp 1) 0, type := 0, pos := _, after := #[], guard := none }) (v := .pointer (some ⟨w.heap.size, 0, none⟩)) rfl (by kernel_rfl) (by kernel_rfl) (by kernel_rfl) (fun _ _ _ h => h) (Or.inl ⟨by rfl, fun w' hw' => ?_⟩) hHeld ?_
  · first | (go_simp; done) | (go_simp; rfl)
  try simp only [Act.put, List.setIfInBounds_toArray, List.set_cons_zero, List.set_cons_succ]
  refine wpAnyH_take (i := 1) (oi := { dst := some 4, op := Go.Op.load 35 (Go.Operand.tmp 3), type := 35, pos := _, after := #[{ on := 0, ground := Go.Ground.data }], guard := none }) (v := .int .i64 kd) rfl (by kernel_rfl) (by kernel_rfl) (by kernel_rfl) (fun _ _ _ h => h) (Or.inl ⟨by rfl, fun w' hw' => ?_⟩) hHeld ?_
  · have hcc := (HR.out w' hw'.q).1; first | (go_simp; done) | (go_simp; rfl)
  try simp only [Act.put, List.setIfInBounds_toArray, List.set_cons_zero, List.set_cons_succ]
  refine wpAnyH_take (i := 2) (oi := { dst := some 5, op := Go.Op.convert 35 5 (Go.Operand.tmp 4), type := 5, pos := _, after := #[{ on := 1, ground := Go.Ground.data }], guard := none }) (v := .int .u8 (c1.toNat : Int)) rfl (by kernel_rfl) (by kernel_rfl) (by kernel_rfl) (fun _ _ _ h => h) (Or.inl ⟨by rfl, fun w' hw' => ?_⟩) hHeld ?_
  · first | (go_simp; done) | (go_simp; rfl)
  try simp only [Act.put, List.setIfInBounds_toArray, List.set_cons_zero, List.set_cons_succ]
  refine wpAnyH_take (i := 4) (oi := { dst := some 7, op := Go.Op.fieldAddr 39 (Go.Operand.tmp 1) 1, type := 0, pos := _, after := #[], guard := none }) (v := .pointer (some ⟨w.heap.size, 1, none⟩)) rfl (by kernel_rfl) (by kernel_rfl) (by kernel_rfl) (fun _ _ _ h => h) (Or.inl ⟨by rfl, fun w' hw' => ?_⟩) hHeld ?_
  · first | (go_simp; done) | (go_simp; rfl)
  try simp only [Act.put, List.setIfInBounds_toArray, List.set_cons_zero, List.set_cons_succ]
  refine wpAnyH_take (i := 5) (oi := { dst := some 8, op := Go.Op.slice 29 (Go.Operand.tmp 7) none none none, type := 37, pos := _, after := #[{ on := 4, ground := Go.Ground.data }], guard := none }) (v := .slice (some ⟨w.heap.size, 1, none⟩) 32 32) rfl (by kernel_rfl) (by kernel_rfl) (by kernel_rfl) (fun _ _ _ h => h) (Or.inl ⟨by rfl, fun w' hw' => ?_⟩) hHeld ?_
  · first | (go_simp; done) | (go_simp; rfl)
  try simp only [Act.put, List.setIfInBounds_toArray, List.set_cons_zero, List.set_cons_succ]
  refine wpAnyH_take (i := 6) (oi := { dst := some 9, op := Go.Op.fieldAddr 39 (Go.Operand.tmp 1) 2, type := 0, pos := _, after := #[], guard := none }) (v := .pointer (some ⟨w.heap.size, 33, none⟩)) rfl (by kernel_rfl) (by kernel_rfl) (by kernel_rfl) (fun _ _ _ h => h) (Or.inl ⟨by rfl, fun w' hw' => ?_⟩) hHeld ?_
  · first | (go_simp; done) | (go_simp; rfl)
  try simp only [Act.put, List.setIfInBounds_toArray, List.set_cons_zero, List.set_cons_succ]
  refine wpAnyH_take (i := 7) (oi := { dst := some 10, op := Go.Op.load 36 (Go.Operand.tmp 9), type := 36, pos := _, after := #[{ on := 6, ground := Go.Ground.data }], guard := none }) (v := .int .i64 dm) rfl (by kernel_rfl) (by kernel_rfl) (by kernel_rfl) (fun _ _ _ h => h) (Or.inl ⟨by rfl, fun w' hw' => ?_⟩) hHeld ?_
  · have hcc := (HR.out w' hw'.q).2.2.1; first | (go_simp; done) | (go_simp; rfl)
  try simp only [Act.put, List.setIfInBounds_toArray, List.set_cons_zero, List.set_cons_succ]
  refine wpAnyH_take (i := 8) (oi := { dst := some 11, op := Go.Op.convert 36 5 (Go.Operand.tmp 10), type := 5, pos := _, after := #[{ on := 7, ground := Go.Ground.data }], guard := none }) (v := .int .u8 (c2.toNat : Int)) rfl (by kernel_rfl) (by kernel_rfl) (by kernel_rfl) (fun _ _ _ h => h) (Or.inl ⟨by rfl, fun w' hw' => ?_⟩) hHeld ?_
  · first | (go_simp; done) | (go_simp; rfl)
  try simp only [Act.put, List.setIfInBounds_toArray, List.set_cons_zero, List.set_cons_succ]
  refine wpAnyH_take (i := 10) (oi := { dst := some 13, op := Go.Op.fieldAddr 39 (Go.Operand.tmp 1) 3, type := 0, pos := _, after := #[], guard := none }) (v := .pointer (some ⟨w.heap.size, 34, none⟩)) rfl (by kernel_rfl) (by kernel_rfl) (by kernel_rfl) (fun _ _ _ h => h) (Or.inl ⟨by rfl, fun w' hw' => ?_⟩) hHeld ?_
  · first | (go_simp; done) | (go_simp; rfl)
  try simp only [Act.put, List.setIfInBounds_toArray, List.set_cons_zero, List.set_cons_succ]
  refine wpAnyH_take (i := 11) (oi := { dst := some 14, op := Go.Op.load 37 (Go.Operand.tmp 13), type := 37, pos := _, after := #[{ on := 10, ground := Go.Ground.data }], guard := none }) (v := .slice pd da.length cd) rfl (by kernel_rfl) (by kernel_rfl) (by kernel_rfl) (fun _ _ _ h => h) (Or.inl ⟨by rfl, fun w' hw' => ?_⟩) hHeld ?_
  · have hcc := (HR.out w' hw'.q).2.2.2; first | (go_simp; done) | (go_simp; rfl)
  try simp only [Act.put, List.setIfInBounds_toArray, List.set_cons_zero, List.set_cons_succ]
  refine wpAnyH_ready (rs := [3, 9]) (by kernel_rfl) (by simp) ?_
  refine AllReadyH.cons (o := { dst := some 6, op := Go.Op.buildSlice 37 1 #[(0, Go.Operand.tmp 5)], type := 37, pos := _, after := #[{ on := 2, ground := Go.Ground.data }], guard := none }) rfl (fun K hK => ?_) (AllReadyH.cons (o := { dst := some 12, op := Go.Op.buildSlice 37 1 #[(0, Go.Operand.tmp 11)], type := 37, pos := _, after := #[{ on := 8, ground := Go.Ground.data }], guard := none }) rfl (fun K hK => ?_) AllReadyH.nil)
  all_goals rw [if_pos (by rfl)]
  · refine wp_bslice 37 1 _ rfl _ _ (by simp; first | done | rfl) (bs_byte1 W c1.toNat) ?_
    have hH1 := hHeld.alloc (.cells #[.int .u8 (c1.toNat : Int)] 5 (0, 0))
    have hg1 := hb_new W _ rfl (.int .u8 (c1.toNat : Int)) c1 rfl
    clear hHeld
    refine hK.out _ _ hH1 (fun _ => ?_)
    clear hK K
    try simp only [Act.put, List.setIfInBounds_toArray, List.set_cons_zero, List.set_cons_succ]
    have hHeld := hH1
    refine wpAnyH_ready (rs := [9]) (by kernel_rfl) (by simp) ?_
    refine AllReadyH.cons (o := { dst := some 12, op := Go.Op.buildSlice 37 1 #[(0, Go.Operand.tmp 11)], type := 37, pos := _, after := #[{ on := 8, ground := Go.Ground.data }], guard := none }) rfl (fun K hK => ?_) AllReadyH.nil
    rw [if_pos (by rfl)]
    refine wp_bslice 37 1 _ rfl _ _ (by simp; first | done | rfl) (bs_byte1 _ c2.toNat) ?_
    have hH2 := hH1.alloc (.cells #[.int .u8 (c2.toNat : Int)] 5 (0, 0))
    have HG2 : Hid _ := hb_new (W.alloc (.cells #[.int .u8 (c1.toNat : Int)] 5 (0, 0))) _ rfl (.int .u8 (c2.toNat : Int)) c2 rfl
    have HG1 : Hid _ := hb_alloc hg1 (.cells #[.int .u8 (c2.toNat : Int)] 5 (0, 0))
    clear hHeld hH1 hg1
    refine hK.out _ _ hH2 (fun _ => ?_)
    clear hK K
    try simp only [Act.put, List.setIfInBounds_toArray, List.set_cons_zero, List.set_cons_succ]
    have hHeld := hH2
    clear hH2
    generalize (W.alloc (.cells #[.int .u8 (c1.toNat : Int)] 5 (0, 0))).alloc (.cells #[.int .u8 (c2.toNat : Int)] 5 (0, 0)) = U at *
    generalize (W.alloc (.cells #[.int .u8 (c1.toNat : Int)] 5 (0, 0))).heap.size = g2 at *
    generalize W.heap.size = g1 at *
    refine wpAnyH_ready (rs := [12]) (by kernel_rfl) (by simp) ?_
    refine AllReadyH.cons (o := { dst := some 15, op := Go.Op.buildSlice 83 4 #[(0, Go.Operand.tmp 6), (1, Go.Operand.tmp 8), (2, Go.Operand.tmp 12), (3, Go.Operand.tmp 14)], type := 83, pos := _, after := #[{ on := 3, ground := Go.Ground.data }, { on := 5, ground := Go.Ground.data }, { on := 9, ground := Go.Ground.data }, { on := 11, ground := Go.Ground.data }], guard := none }) rfl (fun K hK => ?_) AllReadyH.nil
    rw [if_pos (by rfl)]
    refine wp_bslice 83 4 _ rfl _ _ (by simp; exact ⟨rfl, rfl, rfl, rfl⟩) (bs_four U _ _ _ _ _ _ _ _ _ _ _ _) ?_
    have hHU := hHeld.alloc (.cells #[.slice (some ⟨g1, 0, none⟩) 1 1, .slice (some ⟨w.heap.size, 1, none⟩) 32 32, .slice (some ⟨g2, 0, none⟩) 1 1, .slice pd da.length cd] 37 (0, 0))
    have hHP := hp_four U _ _ _ _ [c1] ky [c2] da HG1.out (hb_range 32 HKL.out.symm (by rw [HKL.out]; decide) (HR.out U hHeld.q).2.1) HG2.out (HDB.out U hHeld.b)
    clear hHeld
    refine hK.out _ _ hHU (fun _ => ?_)
    clear hK K
    try simp only [Act.put, List.setIfInBounds_toArray, List.set_cons_zero, List.set_cons_succ]
    have hHeld := hHU
    refine wpAnyH_ready (rs := [13]) (by kernel_rfl) (by simp) ?_
    refine AllReadyH.cons (o := { dst := some 16, op := Go.Op.call { callee := Go.Callee.value (Go.Operand.func 38), args := #[Go.Operand.tmp 15], argTypes := #[83] }, type := 37, pos := _, after := #[{ on := 12, ground := Go.Ground.data }], guard := none }) rfl (fun K hK => ?_) AllReadyH.nil
    rw [if_pos (by rfl)]
    go_wp2_with fail
    refine (pjoin_any _ [[c1], ky, [c2], da] _ (by simp) (by simp [HKL.out]; omega) hHP).mono ?_
    rintro e w4 ⟨v4, rfl, hf4, hb4⟩
    have hH4 := hHU.step hb4
    refine hK.out _ _ hH4 (fun _ => ?_)
    clear hK K
    try simp only [Act.put, List.setIfInBounds_toArray, List.set_cons_zero, List.set_cons_succ]
    have hHeld := hH4
    refine wpAnyH_ready (rs := [14]) (by kernel_rfl) (by simp) ?_
    refine AllReadyH.cons (o := { dst := some 2, op := Go.Op.assign (Go.Operand.tmp 16), type := 37, pos := _, after := #[{ on := 13, ground := Go.Ground.data }, { on := 13, ground := Go.Ground.chain }, { on := 0, ground := Go.Ground.phase }, { on := 1, ground := Go.Ground.phase }, { on := 2, ground := Go.Ground.phase }, { on := 3, ground := Go.Ground.phase }, { on := 4, ground := Go.Ground.phase }, { on := 5, ground := Go.Ground.phase }, { on := 6, ground := Go.Ground.phase }, { on := 7, ground := Go.Ground.phase }, { on := 8, ground := Go.Ground.phase }, { on := 9, ground := Go.Ground.phase }, { on := 10, ground := Go.Ground.phase }, { on := 11, ground := Go.Ground.phase }, { on := 12, ground := Go.Ground.phase }, { on := 13, ground := Go.Ground.phase }], guard := none }) rfl (fun K hK => ?_) AllReadyH.nil
    rw [if_pos (by rfl)]
    go_wp2_with fail
    refine hK.out _ _ hH4 (fun _ => ?_)
    clear hK K
    try simp only [Act.put, List.setIfInBounds_toArray, List.set_cons_zero, List.set_cons_succ]
    refine wpAnyH_done (by kernel_rfl) ?_ _
    have HF4 : Hid (FB w.heap.size w4 v4 T) := by
      rw [HT.out]
      have := fb_lower hf4 hHU.b.size
      show FB w.heap.size w4 v4 _
      simpa using this
    have HB4 : Hid _ := hH4.b
    clear hHeld hH4 hHU hHP hf4 hb4
    go_wp2
    go_ret
    exact ⟨_, rfl, HF4.out, HB4.out⟩
  · refine wp_bslice 37 1 _ rfl _ _ (by simp; first | done | rfl) (bs_byte1 W c2.toNat) ?_
    have hH1 := hHeld.alloc (.cells #[.int .u8 (c2.toNat : Int)] 5 (0, 0))
    have hg1 := hb_new W _ rfl (.int .u8 (c2.toNat : Int)) c2 rfl
    clear hHeld
    refine hK.out _ _ hH1 (fun _ => ?_)
    clear hK K
    try simp only [Act.put, List.setIfInBounds_toArray, List.set_cons_zero, List.set_cons_succ]
    have hHeld := hH1
    refine wpAnyH_ready (rs := [3]) (by kernel_rfl) (by simp) ?_
    refine AllReadyH.cons (o := { dst := some 6, op := Go.Op.buildSlice 37 1 #[(0, Go.Operand.tmp 5)], type := 37, pos := _, after := #[{ on := 2, ground := Go.Ground.data }], guard := none }) rfl (fun K hK => ?_) AllReadyH.nil
    rw [if_pos (by rfl)]
    refine wp_bslice 37 1 _ rfl _ _ (by simp; first | done | rfl) (bs_byte1 _ c1.toNat) ?_
    have hH2 := hH1.alloc (.cells #[.int .u8 (c1.toNat : Int)] 5 (0, 0))
    have HG1 : Hid _ := hb_new (W.alloc (.cells #[.int .u8 (c2.toNat : Int)] 5 (0, 0))) _ rfl (.int .u8 (c1.toNat : Int)) c1 rfl
    have HG2 : Hid _ := hb_alloc hg1 (.cells #[.int .u8 (c1.toNat : Int)] 5 (0, 0))
    clear hHeld hH1 hg1
    refine hK.out _ _ hH2 (fun _ => ?_)
    clear hK K
    try simp only [Act.put, List.setIfInBounds_toArray, List.set_cons_zero, List.set_cons_succ]
    have hHeld := hH2
    clear hH2
    generalize (W.alloc (.cells #[.int .u8 (c2.toNat : Int)] 5 (0, 0))).alloc (.cells #[.int .u8 (c1.toNat : Int)] 5 (0, 0)) = U at *
    generalize (W.alloc (.cells #[.int .u8 (c2.toNat : Int)] 5 (0, 0))).heap.size = g1 at *
    generalize W.heap.size = g2 at *
    refine wpAnyH_ready (rs := [12]) (by kernel_rfl) (by simp) ?_
    refine AllReadyH.cons (o := { dst := some 15, op := Go.Op.buildSlice 83 4 #[(0, Go.Operand.tmp 6), (1, Go.Operand.tmp 8), (2, Go.Operand.tmp 12), (3, Go.Operand.tmp 14)], type := 83, pos := _, after := #[{ on := 3, ground := Go.Ground.data }, { on := 5, ground := Go.Ground.data }, { on := 9, ground := Go.Ground.data }, { on := 11, ground := Go.Ground.data }], guard := none }) rfl (fun K hK => ?_) AllReadyH.nil
    rw [if_pos (by rfl)]
    refine wp_bslice 83 4 _ rfl _ _ (by simp; exact ⟨rfl, rfl, rfl, rfl⟩) (bs_four U _ _ _ _ _ _ _ _ _ _ _ _) ?_
    have hHU := hHeld.alloc (.cells #[.slice (some ⟨g1, 0, none⟩) 1 1, .slice (some ⟨w.heap.size, 1, none⟩) 32 32, .slice (some ⟨g2, 0, none⟩) 1 1, .slice pd da.length cd] 37 (0, 0))
    have hHP := hp_four U _ _ _ _ [c1] ky [c2] da HG1.out (hb_range 32 HKL.out.symm (by rw [HKL.out]; decide) (HR.out U hHeld.q).2.1) HG2.out (HDB.out U hHeld.b)
    clear hHeld
    refine hK.out _ _ hHU (fun _ => ?_)
    clear hK K
    try simp only [Act.put, List.setIfInBounds_toArray, List.set_cons_zero, List.set_cons_succ]
    have hHeld := hHU
    refine wpAnyH_ready (rs := [13]) (by kernel_rfl) (by simp) ?_
    refine AllReadyH.cons (o := { dst := some 16, op := Go.Op.call { callee := Go.Callee.value (Go.Operand.func 38), args := #[Go.Operand.tmp 15], argTypes := #[83] }, type := 37, pos := _, after := #[{ on := 12, ground := Go.Ground.data }], guard := none }) rfl (fun K hK => ?_) AllReadyH.nil
    rw [if_pos (by rfl)]
    go_wp2_with fail
    refine (pjoin_any _ [[c1], ky, [c2], da] _ (by simp) (by simp [HKL.out]; omega) hHP).mono ?_
    rintro e w4 ⟨v4, rfl, hf4, hb4⟩
    have hH4 := hHU.step hb4
    refine hK.out _ _ hH4 (fun _ => ?_)
    clear hK K
    try simp only [Act.put, List.setIfInBounds_toArray, List.set_cons_zero, List.set_cons_succ]
    have hHeld := hH4
    refine wpAnyH_ready (rs := [14]) (by kernel_rfl) (by simp) ?_
    refine AllReadyH.cons (o := { dst := some 2, op := Go.Op.assign (Go.Operand.tmp 16), type := 37, pos := _, after := #[{ on := 13, ground := Go.Ground.data }, { on := 13, ground := Go.Ground.chain }, { on := 0, ground := Go.Ground.phase }, { on := 1, ground := Go.Ground.phase }, { on := 2, ground := Go.Ground.phase }, { on := 3, ground := Go.Ground.phase }, { on := 4, ground := Go.Ground.phase }, { on := 5, ground := Go.Ground.phase }, { on := 6, ground := Go.Ground.phase }, { on := 7, ground := Go.Ground.phase }, { on := 8, ground := Go.Ground.phase }, { on := 9, ground := Go.Ground.phase }, { on := 10, ground := Go.Ground.phase }, { on := 11, ground := Go.Ground.phase }, { on := 12, ground := Go.Ground.phase }, { on := 13, ground := Go.Ground.phase }], guard := none }) rfl (fun K hK => ?_) AllReadyH.nil
    rw [if_pos (by rfl)]
    go_wp2_with fail
    refine hK.out _ _ hH4 (fun _ => ?_)
    clear hK K
    try simp only [Act.put, List.setIfInBounds_toArray, List.set_cons_zero, List.set_cons_succ]
    refine wpAnyH_done (by kernel_rfl) ?_ _
    have HF4 : Hid (FB w.heap.size w4 v4 T) := by
      rw [HT.out]
      have := fb_lower hf4 hHU.b.size
      show FB w.heap.size w4 v4 _
      simpa using this
    have HB4 : Hid _ := hH4.b
    clear hHeld hH4 hHU hHP hf4 hb4
    go_wp2
    go_ret
    exact ⟨_, rfl, HF4.out, HB4.out⟩
end Go.Proofs.YtefhjjjjbkkedaaGreat.R5
