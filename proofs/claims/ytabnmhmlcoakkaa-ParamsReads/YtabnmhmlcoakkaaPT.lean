/- params: the reference's Realm. -/
import Derived.Test.YtabnmhmlcoakkaaPS
set_option linter.unusedVariables false
set_option linter.unusedSimpArgs false
namespace Go.Proofs.Ytabnmhmlcoakkaa.PC
open Go.RowKit

/-- What stays while the reference reads: the granule, what is handed back, what was read. -/
structure QS (w : World) (tq : TypeId) (GA ZL QL : List Value) (qb : Nat) (X : World) : Prop where
  bel : Below w.heap.size w X
  gr : X.heap[w.heap.size]? = some (.cells GA.toArray 28 (0, 0))
  res : X.heap[w.heap.size + 1]? = some (.cells ZL.toArray tq (0, 0))
  q : X.heap[qb]? = some (.cells QL.toArray tq (0, 0))
  o : w.heap.size + 1 < qb
/-- The same, ahead of what was read. -/
structure QS0 (w : World) (tq : TypeId) (GA ZL : List Value) (X : World) : Prop where
  bel : Below w.heap.size w X
  gr : X.heap[w.heap.size]? = some (.cells GA.toArray 28 (0, 0))
  res : X.heap[w.heap.size + 1]? = some (.cells ZL.toArray tq (0, 0))
theorem QS0.start (w : World) (tq : TypeId) (GA ZL : List Value) : QS0 w tq GA ZL ((w.alloc (.cells GA.toArray 28 (0, 0))).alloc (.cells ZL.toArray tq (0, 0))) :=
  ⟨((Below.refl _ _).alloc (Nat.le_refl _) _).alloc (by simp) _, (Below.heap_alloc _ _ _ (by simp)).trans (heap_alloc_new _ _), heap_at _ _ _ (by simp)⟩
theorem QS0.below {w : World} {tq : TypeId} {GA ZL : List Value} {X Y : World} (h : QS0 w tq GA ZL X) (hb : Below X.heap.size X Y) : QS0 w tq GA ZL Y := by
  obtain ⟨h1, h2, h3⟩ := h
  exact ⟨h1.trans (hb.mono h1.size), (hb.block _ (row_lt h2)).trans h2, (hb.block _ (row_lt h3)).trans h3⟩
theorem QS.below {w : World} {tq : TypeId} {GA ZL QL : List Value} {qb : Nat} {X Y : World} (h : QS w tq GA ZL QL qb X) (hb : Below X.heap.size X Y) : QS w tq GA ZL QL qb Y := by
  obtain ⟨h1, h2, h3, h4, h5⟩ := h
  exact ⟨h1.trans (hb.mono h1.size), (hb.block _ (row_lt h2)).trans h2, (hb.block _ (row_lt h3)).trans h3, (hb.block _ (row_lt h4)).trans h4, h5⟩
theorem QS0.new {w : World} {tq : TypeId} {GA ZL : List Value} {X : World} (h : QS0 w tq GA ZL X) (QL : List Value) : QS w tq GA ZL QL X.heap.size ((X.alloc (.cells ZL.toArray tq (0, 0))).setRow X.heap.size QL.toArray) := by
  have hb := below_new X (.cells ZL.toArray tq (0, 0)) QL.toArray
  have h2 := h.below hb
  exact ⟨h2.bel, h2.gr, h2.res, setRow_heap _ _ _ _ _ _ (heap_alloc_new _ _), row_lt h.res⟩
theorem QS.row {w : World} {tq : TypeId} {GA ZL QL : List Value} {qb : Nat} {X : World} (h : QS w tq GA ZL QL qb X) (L : List Value) : QS w tq GA ZL L qb (X.setRow qb L.toArray) := by
  obtain ⟨h1, h2, h3, h4, h5⟩ := h
  exact ⟨below_setRow h1 (by omega) _, (setRow_other _ _ _ _ (by omega)).trans h2, (setRow_other _ _ _ _ (by omega)).trans h3, setRow_heap _ _ _ _ _ _ h4, h5⟩
theorem QS.set {w : World} {tq : TypeId} {GA ZL QL : List Value} {qb : Nat} {X : World} (h : QS w tq GA ZL QL qb X) (i : Nat) (x : Value) (L : List Value) (hL : QL.set i x = L) : QS w tq GA ZL L qb (X.setCell ⟨qb, i, none⟩ x) := by
  obtain ⟨h1, h2, h3, h4, h5⟩ := h
  have kp : ∀ j, j ≠ qb → (X.setCell ⟨qb, i, none⟩ x).heap[j]? = X.heap[j]? := fun j hj => heap_setCell_other _ _ _ _ (by show j ≠ qb; exact hj)
  refine ⟨h1.setCell (p := ⟨qb, i, none⟩) (by show w.heap.size ≤ qb; omega) _, (kp _ (by omega)).trans h2, (kp _ (by omega)).trans h3, ?_, h5⟩
  rw [← hL, ← List.setIfInBounds_toArray]
  exact heap_setCell_same _ _ i _ _ _ h4
theorem rp_copy2 (V : List UInt8) (n : Nat) (h : V.length = 32) : splice (rpL Z32 n) 0 (V.map B8) = rpL V n := by
  unfold splice rpL
  rw [List.take_zero, List.nil_append, List.drop_append, List.drop_of_length_le (by simp [h, Z32])]
  simp [h, Z32]
theorem slice_v (X : World) (b : Nat) : (Instr.sliceAt 28 (.pointer (some ⟨b, 0, none⟩)) (some (.int .i64 8)) (some (.int .i64 40)) none).run Try.prog X = .ok (.slice (some ⟨b, 8, none⟩) 32 120) X := slice_grLH X b 8 32 40 (by decide) (by decide) (by decide)
set_option maxHeartbeats 2000000 in
set_option maxRecDepth 100000 in
theorem rrealm_any (G : List UInt8) (w : World) (hG : G.length = 128) :
    Calls Try.prog 19 #[.agg (G.map B8).toArray] w fun e w' => e = .returned (.tuple #[.agg (rRes G).toArray, .bool (isR G)]) ∧ Below w.heap.size w w' := by
  have hzr := fun W => zero_rp W
  obtain ⟨RZ, hRZ⟩ : ∃ L, L = rpL Z32 0 := ⟨_, rfl⟩
  rw [← hRZ] at hzr
  have HBR : Hid (∀ W, (Instr.build 26 #[]).run Try.prog W = .ok (.agg RZ.toArray) W) := fun W => by rw [hRZ]; exact build_rp W
  have hrzl : RZ.length = 33 := by rw [hRZ]; exact rpL_len _ _ z32_len
  have HRL : Hid _ := hrzl
  have HRZ : Hid _ := hRZ
  clear hRZ hrzl
  have hvl := gV_len G hG
  have hM := fun W => rmayR_any (gV G) (gN G) W hvl (gN_lt G)
  have hRB := fun W => rrb_any (gV G) (gN G) W hvl (gN_lt G)
  have hbl := rbL_len (gV G) (gN G) hvl
  have HC : Hid ((mayR (gN G) = false ∧ rRes G = RZ ∧ isR G = false) ∨ (mayR (gN G) = true ∧ (∀ W, (Op.equalIn 10000 28 (.agg ((rbL (gV G) (gN G)).map B8).toArray) (.agg (G.map B8).toArray)).run Try.prog W = .ok false W) ∧ rRes G = RZ ∧ isR G = false) ∨ (mayR (gN G) = true ∧ (∀ W, (Op.equalIn 10000 28 (.agg ((rbL (gV G) (gN G)).map B8).toArray) (.agg (G.map B8).toArray)).run Try.prog W = .ok true W) ∧ rRes G = rpL (gV G) (gN G) ∧ isR G = true)) := by
    have hq := fun W b hb => eq_gr W (rbL (gV G) (gN G)) G hbl hG b hb
    show _ ∨ _
    unfold rRes isR
    rw [HRZ.out]
    cases hm : mayR (gN G)
    · exact .inl ⟨rfl, by simp, by simp⟩
    · cases he : (rbL (gV G) (gN G) == G)
      · exact .inr (.inl ⟨rfl, fun W => hq W false he, by simp, by simp⟩)
      · exact .inr (.inr ⟨rfl, fun W => hq W true he, by simp, by simp⟩)
  have HTL : Hid (((rbL (gV G) (gN G)).map B8).length = 128) := by show _ = _; rw [List.length_map]; exact hbl
  have hrl := rRes_len G hG
  have HO1 : Hid ((rRes G).toArray.all (·.oneCell') = true) := onea (rRes_one G)
  generalize rRes G = RL at *
  generalize isR G = ok at *
  generalize mayR (gN G) = mm at *
  generalize (rbL (gV G) (gN G)).map B8 = TL at *
  have HLI : Hid _ := info33 RL hrl
  have HLA : Hid _ := info33a RL.toArray (by simpa using hrl)
  have HLS : Hid (RZ.toArray.size = RL.toArray.size) := by show _ = _; simp [HRL.out, hrl]
  have HGI : Hid ((Try.prog.info? 28).map (·.size) = some (G.map B8).length) := info128 _ (by simpa using hG)
  have HW : Hid _ := QS0.start w 26 (G.map B8) RZ
  have HWD : Hid _ := rword_any w.heap.size 5 5 G _ rfl hG (by decide) (rangeAt_row HW.out.gr)
  have HVP : Hid (((G.map B8).drop 8).take 32 = (gV G).map B8) := by show _ = _; rw [← List.map_drop, ← List.map_take]; rfl
  have hsg := fun X => slice_gr X w.heap.size
  have hsv := fun X => slice_v X w.heap.size
  have HBN : Hid (∀ W, (Instr.build 26 #[(1, .int .u64 (gN G : Int))]).run Try.prog W = .ok (.agg (rpL Z32 (gN G)).toArray) W) := fun W => build_k2 (gN G) W
  have HQZ : Hid ((rpL Z32 (gN G)).length = 33) := rpL_len _ _ z32_len
  have HCP : Hid (splice (rpL Z32 (gN G)) 0 ((gV G).map B8) = rpL (gV G) (gN G)) := rp_copy2 _ _ hvl
  have HQN : Hid ((rpL (gV G) (gN G)).length = 33) := rpL_len _ _ hvl
  have hQ1 : (rpL Z32 (gN G)).toArray.all (·.oneCell') = true := onea (rpL_one _ _)
  have HVL : Hid (((gV G).map B8).length = 32) := by show _ = _; rw [List.length_map]; exact hvl
  have HV1 : Hid _ := B8_one (gV G)
  change Hid (Calls _ _ _ _ fun e w' => e = .returned (.int .u64 (gN G : Int)) ∧ _ = w') at HWD
  generalize rpL Z32 (gN G) = Q0 at *
  generalize rpL (gV G) (gN G) = QL at *
  generalize (gV G).map B8 = VL at *
  generalize gN G = n at *
  have HQI : Hid _ := info33 QL HQN.out
  have HZA : Hid _ := info33a Q0.toArray (by simpa using HQZ.out)
  have HZS : Hid (RZ.toArray.size = Q0.toArray.size) := by show _ = _; simp [HRL.out, HQZ.out]
  have HQ1 : Hid (Q0.toArray.all (·.oneCell') = true) := hQ1
  obtain ⟨GA, hGA⟩ : ∃ L, L = G.map B8 := ⟨_, rfl⟩
  rw [← hGA] at HW HGI HC HVP HWD ⊢
  clear hGA hG hvl hrl hbl hQ1
  go_enter Try.func19, Try.ntmps19
  go_wp2_with fail
  refine Calls.mono HWD.out ?_
  rintro e w2 ⟨rfl, hw2⟩
  rw [hw2] at HW
  clear HWD hw2
  have HN2 : Hid _ := heap_alloc_new w2 (.cells RZ.toArray 26 (0, 0))
  have HW2 : Hid _ := (HW.out.new Q0).below (Below.refl _ _).drew
  have hsd := fun W => slice_dg W w2.heap.size 0
  clear HW
  go_wp2_with (first
    | (refine wpList_build rfl 26 #[(1, .tmp 6)] rfl #[(1, .int .u64 (n : Int))] (.agg Q0.toArray) (by simp; first | done | rfl) (HBN.out _) ?_)
    | (refine wpList_store_row rfl 26 _ _ rfl w2.heap.size Q0.toArray rfl rfl 26 RZ.toArray HN2.out HZA.out HZS.out HQ1.out ?_))
  refine wp_region_held_drew (S := fun _ => True) (by kernel_rfl) trivial (fun hHeld => ?_)
  refine wpAnyH_take (i := 0) (oi := { dst := some 8, op := Go.Op.fieldAddr 26 (Go.Operand.tmp 4) 0, type := 0, pos := _, after := #[], guard := none }) (v := .pointer (some ⟨w2.heap.size, 0, none⟩)) rfl (by kernel_rfl) (by kernel_rfl) (by kernel_rfl) (fun _ _ _ h => h) (Or.inl ⟨by rfl, fun w' hw' => ?_⟩) hHeld ?_
  · first | (go_simp; done) | (go_simp; rfl)
  try simp only [Act.put, List.setIfInBounds_toArray, List.set_cons_zero, List.set_cons_succ]
  refine wpAnyH_take (i := 1) (oi := { dst := some 9, op := Go.Op.slice 23 (Go.Operand.tmp 8) none none none, type := 56, pos := _, after := #[{ on := 0, ground := Go.Ground.data }], guard := none }) (v := .slice (some ⟨w2.heap.size, 0, none⟩) 32 32) rfl (by kernel_rfl) (by kernel_rfl) (by kernel_rfl) (fun _ _ _ h => h) (Or.inl ⟨by rfl, fun w' hw' => ?_⟩) hHeld ?_
  · first | (go_simp; done) | (go_simp; rfl)
  try simp only [Act.put, List.setIfInBounds_toArray, List.set_cons_zero, List.set_cons_succ]
  refine wpAnyH_take (i := 2) (oi := { dst := some 10, op := Go.Op.slice 28 (Go.Operand.tmp 1) (some (Go.Operand.const (Go.Value.int Go.IntKind.i64 8))) (some (Go.Operand.const (Go.Value.int Go.IntKind.i64 40))) none, type := 56, pos := _, after := #[], guard := none }) (v := .slice (some ⟨w.heap.size, 8, none⟩) 32 120) rfl (by kernel_rfl) (by kernel_rfl) (by kernel_rfl) (fun _ _ _ h => h) (Or.inl ⟨by rfl, fun w' hw' => ?_⟩) hHeld ?_
  · first | (go_simp; done) | (go_simp; rfl)
  try simp only [Act.put, List.setIfInBounds_toArray, List.set_cons_zero, List.set_cons_succ]
  refine wpAnyH_ready (rs := [3]) (by kernel_rfl) (by simp) ?_
  refine AllReadyH.cons (o := { dst := some 11, op := Go.Op.call { callee := Go.Callee.builtin Go.Builtin.copy, args := #[Go.Operand.tmp 9, Go.Operand.tmp 10], argTypes := #[56, 56] }, type := 3, pos := _, after := #[{ on := 1, ground := Go.Ground.data }, { on := 2, ground := Go.Ground.data }], guard := none }) rfl (fun K hK => ?_) AllReadyH.nil
  rw [if_pos (by rfl)]
  have hra := rangeAt_part (rangeAt_row HW2.out.gr) 8 32
  rw [HVP.out, Nat.zero_add] at hra
  refine wp_copy_seg (.tmp 9) (.tmp 10) rfl w2.heap.size 0 32 32 (some ⟨w.heap.size, 8, none⟩) 32 120 rfl rfl Q0 26 HW2.out.q VL ?_ (fun _ => ⟨_, rfl, fun j u hu => by rw [add_none]; exact hra j u hu⟩) ?_ HV1.out ?_
  · rw [HVL.out]; rfl
  · rw [HVL.out, HQZ.out]; decide
  rw [HCP.out]
  have hw4 := HW2.out.row QL
  have HW4 : Hid _ := hw4
  generalize ((w2.alloc (.cells RZ.toArray 26 (0, 0))).setRow w2.heap.size Q0.toArray).drew.setRow w2.heap.size QL.toArray = w4 at *
  refine hK.out _ _ trivial (fun _ => ?_)
  clear hK K
  try simp only [Act.put, List.setIfInBounds_toArray, List.set_cons_zero, List.set_cons_succ]
  refine wpAnyH_done (by kernel_rfl) ?_ _
  clear hHeld hra hw4 HW2 HN2 HCP
  have HW5 : Hid _ := HW4.out.below (Below.refl _ _).drew
  go_wp2
  refine wp_region_held_drew (S := QS w 26 GA RZ QL w2.heap.size) (by kernel_rfl) HW5.out (fun hHeld => ?_)
  refine wpAnyH_take (i := 0) (oi := { dst := some 12, op := Go.Op.load 26 (Go.Operand.tmp 4), type := 26, pos := _, after := #[], guard := none }) rfl (by kernel_rfl) (by kernel_rfl) (by kernel_rfl) (fun _ _ _ h => h) (yieldsIf_load_mid (by rfl) 26 (.tmp 4) rfl (w2.heap.size) (0) rfl (QL) _ (fun _ h => rangeAt_row h.q) Try.underlying26 rfl HQI.out) hHeld ?_
  try simp only [Act.put, List.setIfInBounds_toArray, List.set_cons_zero, List.set_cons_succ]
  refine wpAnyH_ready (rs := [1]) (by kernel_rfl) (by simp) ?_
  refine AllReadyH.cons (o := { dst := some 13, op := Go.Op.call { callee := Go.Callee.value (Go.Operand.func 10), args := #[Go.Operand.tmp 12], argTypes := #[26] }, type := 4, pos := _, after := #[{ on := 0, ground := Go.Ground.data }], guard := none }) rfl (fun K hK => ?_) AllReadyH.nil
  rw [if_pos (by rfl)]
  go_wp2_with fail
  refine Calls.mono (hM _) ?_
  rintro e w5 ⟨rfl, hb5⟩
  have hHeld5 := hHeld.below hb5
  clear hb5 hHeld HW4 HW5
  refine hK.out _ _ hHeld5 (fun _ => ?_)
  clear hK K
  try simp only [Act.put, List.setIfInBounds_toArray, List.set_cons_zero, List.set_cons_succ]
  have hHeld := hHeld5
  rcases HC.out with ⟨he, hRL, hok⟩ | ⟨he, heq, hRL, hok⟩ | ⟨he, heq, hRL, hok⟩
  · subst he hok
    refine wpAnyH_take (i := 2) (oi := { dst := some 14, op := Go.Op.unOp Go.UnOp.not 4 (Go.Operand.tmp 13), type := 4, pos := _, after := #[{ on := 1, ground := Go.Ground.data }], guard := none }) (v := .bool true) rfl (by kernel_rfl) (by kernel_rfl) (by kernel_rfl) (fun _ _ _ h => h) (Or.inl ⟨by rfl, fun w' hw' => ?_⟩) hHeld ?_
    · first | (go_simp; done) | (go_simp; rfl)
    try simp only [Act.put, List.setIfInBounds_toArray, List.set_cons_zero, List.set_cons_succ]
    refine wpAnyH_take (i := 3) (oi := { dst := some 15, op := Go.Op.move (Go.Operand.tmp 14), type := 4, pos := _, after := #[{ on := 2, ground := Go.Ground.data }, { on := 1, ground := Go.Ground.chain }], guard := none }) (v := .bool true) rfl (by kernel_rfl) (by kernel_rfl) (by kernel_rfl) (fun _ _ _ h => h) (Or.inl ⟨by rfl, fun w' hw' => ?_⟩) hHeld ?_
    · first | (go_simp; done) | (go_simp; rfl)
    try simp only [Act.put, List.setIfInBounds_toArray, List.set_cons_zero, List.set_cons_succ]
    refine wpAnyH_take (i := 4) (oi := { dst := some 16, op := Go.Op.load 26 (Go.Operand.tmp 4), type := 26, pos := _, after := #[{ on := 3, ground := Go.Ground.guard }], guard := some (3, false) }) (v := undef) rfl (by kernel_rfl) (by kernel_rfl) (by kernel_rfl) (fun _ _ _ h => h) (Or.inr ⟨by rfl, rfl⟩) hHeld ?_
    try simp only [Act.put, List.setIfInBounds_toArray, List.set_cons_zero, List.set_cons_succ]
    refine wpAnyH_take (i := 5) (oi := { dst := some 17, op := Go.Op.call { callee := Go.Callee.value (Go.Operand.func 13), args := #[Go.Operand.tmp 16], argTypes := #[26] }, type := 28, pos := _, after := #[{ on := 4, ground := Go.Ground.data }, { on := 3, ground := Go.Ground.chain }, { on := 3, ground := Go.Ground.guard }], guard := some (3, false) }) (v := undef) rfl (by kernel_rfl) (by kernel_rfl) (by kernel_rfl) (fun _ _ _ h => h) (Or.inr ⟨by rfl, rfl⟩) hHeld ?_
    try simp only [Act.put, List.setIfInBounds_toArray, List.set_cons_zero, List.set_cons_succ]
    refine wpAnyH_take (i := 6) (oi := { dst := some 18, op := Go.Op.load 28 (Go.Operand.tmp 1), type := 28, pos := _, after := #[{ on := 3, ground := Go.Ground.guard }], guard := some (3, false) }) (v := undef) rfl (by kernel_rfl) (by kernel_rfl) (by kernel_rfl) (fun _ _ _ h => h) (Or.inr ⟨by rfl, rfl⟩) hHeld ?_
    try simp only [Act.put, List.setIfInBounds_toArray, List.set_cons_zero, List.set_cons_succ]
    refine wpAnyH_take (i := 7) (oi := { dst := some 19, op := Go.Op.binOp Go.BinOp.neq 28 (Go.Operand.tmp 17) (Go.Operand.tmp 18) 28, type := 4, pos := _, after := #[{ on := 5, ground := Go.Ground.data }, { on := 6, ground := Go.Ground.data }, { on := 3, ground := Go.Ground.guard }], guard := some (3, false) }) (v := undef) rfl (by kernel_rfl) (by kernel_rfl) (by kernel_rfl) (fun _ _ _ h => h) (Or.inr ⟨by rfl, rfl⟩) hHeld ?_
    try simp only [Act.put, List.setIfInBounds_toArray, List.set_cons_zero, List.set_cons_succ]
    refine wpAnyH_take (i := 8) (oi := { dst := some 20, op := Go.Op.pick (Go.Operand.tmp 15) (Go.Operand.const (Go.Value.bool true)) (Go.Operand.tmp 19), type := 4, pos := _, after := #[{ on := 3, ground := Go.Ground.data }, { on := 7, ground := Go.Ground.data }], guard := none }) (v := .bool true) rfl (by kernel_rfl) (by kernel_rfl) (by kernel_rfl) (fun _ _ _ h => h) (Or.inl ⟨by rfl, fun w' hw' => ?_⟩) hHeld ?_
    · first | (go_simp; done) | (go_simp; rfl)
    try simp only [Act.put, List.setIfInBounds_toArray, List.set_cons_zero, List.set_cons_succ]
    refine wpAnyH_done (by kernel_rfl) ?_ _
    have HR8 : Hid _ := hHeld5.res
    have HB8 : Hid _ := hHeld5.bel
    rw [← hRL] at HBR
    clear hHeld hHeld5 HC hRL
    go_wp2_with (first
      | (refine wpList_build rfl 26 #[] rfl #[] (.agg RL.toArray) (by simp) (HBR.out _) ?_)
      | (refine wpList_load_mid rfl 26 _ rfl w2.heap.size 0 rfl RL _ HQ8.out Try.underlying26 rfl HLI.out ?_)
      | (refine wpList_store_row rfl 26 _ _ rfl (w.heap.size + 1) RL.toArray rfl rfl 26 RZ.toArray HR8.out HLA.out HLS.out HO1.out ?_))
    refine bodyPost_ret (v := .tuple #[.agg RL.toArray, .bool false]) (results2 Try.results19 _ _ (w.heap.size + 1) 26 RL (0, 0) _ rfl rfl (setRow_heap _ _ _ _ _ _ HR8.out) Try.underlying26 rfl HLI.out) rfl ⟨rfl, below_setRow HB8.out (by omega) _⟩
  · subst he hok
    refine wpAnyH_take (i := 2) (oi := { dst := some 14, op := Go.Op.unOp Go.UnOp.not 4 (Go.Operand.tmp 13), type := 4, pos := _, after := #[{ on := 1, ground := Go.Ground.data }], guard := none }) (v := .bool false) rfl (by kernel_rfl) (by kernel_rfl) (by kernel_rfl) (fun _ _ _ h => h) (Or.inl ⟨by rfl, fun w' hw' => ?_⟩) hHeld ?_
    · first | (go_simp; done) | (go_simp; rfl)
    try simp only [Act.put, List.setIfInBounds_toArray, List.set_cons_zero, List.set_cons_succ]
    refine wpAnyH_take (i := 3) (oi := { dst := some 15, op := Go.Op.move (Go.Operand.tmp 14), type := 4, pos := _, after := #[{ on := 2, ground := Go.Ground.data }, { on := 1, ground := Go.Ground.chain }], guard := none }) (v := .bool false) rfl (by kernel_rfl) (by kernel_rfl) (by kernel_rfl) (fun _ _ _ h => h) (Or.inl ⟨by rfl, fun w' hw' => ?_⟩) hHeld ?_
    · first | (go_simp; done) | (go_simp; rfl)
    try simp only [Act.put, List.setIfInBounds_toArray, List.set_cons_zero, List.set_cons_succ]
    refine wpAnyH_take (i := 4) (oi := { dst := some 16, op := Go.Op.load 26 (Go.Operand.tmp 4), type := 26, pos := _, after := #[{ on := 3, ground := Go.Ground.guard }], guard := some (3, false) }) rfl (by kernel_rfl) (by kernel_rfl) (by kernel_rfl) (fun _ _ _ h => h) (yieldsIf_load_mid (by rfl) 26 (.tmp 4) rfl (w2.heap.size) (0) rfl (QL) _ (fun _ h => rangeAt_row h.q) Try.underlying26 rfl HQI.out) hHeld ?_
    try simp only [Act.put, List.setIfInBounds_toArray, List.set_cons_zero, List.set_cons_succ]
    refine wpAnyH_take (i := 6) (oi := { dst := some 18, op := Go.Op.load 28 (Go.Operand.tmp 1), type := 28, pos := _, after := #[{ on := 3, ground := Go.Ground.guard }], guard := some (3, false) }) rfl (by kernel_rfl) (by kernel_rfl) (by kernel_rfl) (fun _ _ _ h => h) (yieldsIf_load_mid (by rfl) 28 (.tmp 1) rfl (w.heap.size) (0) rfl (GA) _ (fun _ h => rangeAt_row h.gr) Try.underlying28 rfl HGI.out) hHeld ?_
    try simp only [Act.put, List.setIfInBounds_toArray, List.set_cons_zero, List.set_cons_succ]
    refine wpAnyH_ready (rs := [5]) (by kernel_rfl) (by simp) ?_
    refine AllReadyH.cons (o := { dst := some 17, op := Go.Op.call { callee := Go.Callee.value (Go.Operand.func 13), args := #[Go.Operand.tmp 16], argTypes := #[26] }, type := 28, pos := _, after := #[{ on := 4, ground := Go.Ground.data }, { on := 3, ground := Go.Ground.chain }, { on := 3, ground := Go.Ground.guard }], guard := some (3, false) }) rfl (fun K hK => ?_) AllReadyH.nil
    rw [if_pos (by rfl)]
    go_wp2_with fail
    refine Calls.mono (hRB _) ?_
    rintro e w6 ⟨rfl, hb6⟩
    have hHeld6 := hHeld5.below hb6
    clear hb6 hHeld hHeld5
    refine hK.out _ _ hHeld6 (fun _ => ?_)
    clear hK K
    try simp only [Act.put, List.setIfInBounds_toArray, List.set_cons_zero, List.set_cons_succ]
    have hHeld := hHeld6
    refine wpAnyH_take (i := 7) (oi := { dst := some 19, op := Go.Op.binOp Go.BinOp.neq 28 (Go.Operand.tmp 17) (Go.Operand.tmp 18) 28, type := 4, pos := _, after := #[{ on := 5, ground := Go.Ground.data }, { on := 6, ground := Go.Ground.data }, { on := 3, ground := Go.Ground.guard }], guard := some (3, false) }) (v := .bool true) rfl (by kernel_rfl) (by kernel_rfl) (by kernel_rfl) (fun _ _ _ h => h) (Or.inl ⟨by rfl, fun w' hw' => ?_⟩) hHeld ?_
    · first | (go_simp; done) | (go_simp; rfl)
    try simp only [Act.put, List.setIfInBounds_toArray, List.set_cons_zero, List.set_cons_succ]
    refine wpAnyH_take (i := 8) (oi := { dst := some 20, op := Go.Op.pick (Go.Operand.tmp 15) (Go.Operand.const (Go.Value.bool true)) (Go.Operand.tmp 19), type := 4, pos := _, after := #[{ on := 3, ground := Go.Ground.data }, { on := 7, ground := Go.Ground.data }], guard := none }) (v := .bool true) rfl (by kernel_rfl) (by kernel_rfl) (by kernel_rfl) (fun _ _ _ h => h) (Or.inl ⟨by rfl, fun w' hw' => ?_⟩) hHeld ?_
    · first | (go_simp; done) | (go_simp; rfl)
    try simp only [Act.put, List.setIfInBounds_toArray, List.set_cons_zero, List.set_cons_succ]
    refine wpAnyH_done (by kernel_rfl) ?_ _
    have HR8 : Hid _ := hHeld6.res
    have HB8 : Hid _ := hHeld6.bel
    rw [← hRL] at HBR
    clear hHeld hHeld6 HC hRL
    go_wp2_with (first
      | (refine wpList_build rfl 26 #[] rfl #[] (.agg RL.toArray) (by simp) (HBR.out _) ?_)
      | (refine wpList_load_mid rfl 26 _ rfl w2.heap.size 0 rfl RL _ HQ8.out Try.underlying26 rfl HLI.out ?_)
      | (refine wpList_store_row rfl 26 _ _ rfl (w.heap.size + 1) RL.toArray rfl rfl 26 RZ.toArray HR8.out HLA.out HLS.out HO1.out ?_))
    refine bodyPost_ret (v := .tuple #[.agg RL.toArray, .bool false]) (results2 Try.results19 _ _ (w.heap.size + 1) 26 RL (0, 0) _ rfl rfl (setRow_heap _ _ _ _ _ _ HR8.out) Try.underlying26 rfl HLI.out) rfl ⟨rfl, below_setRow HB8.out (by omega) _⟩
  · subst he hok
    refine wpAnyH_take (i := 2) (oi := { dst := some 14, op := Go.Op.unOp Go.UnOp.not 4 (Go.Operand.tmp 13), type := 4, pos := _, after := #[{ on := 1, ground := Go.Ground.data }], guard := none }) (v := .bool false) rfl (by kernel_rfl) (by kernel_rfl) (by kernel_rfl) (fun _ _ _ h => h) (Or.inl ⟨by rfl, fun w' hw' => ?_⟩) hHeld ?_
    · first | (go_simp; done) | (go_simp; rfl)
    try simp only [Act.put, List.setIfInBounds_toArray, List.set_cons_zero, List.set_cons_succ]
    refine wpAnyH_take (i := 3) (oi := { dst := some 15, op := Go.Op.move (Go.Operand.tmp 14), type := 4, pos := _, after := #[{ on := 2, ground := Go.Ground.data }, { on := 1, ground := Go.Ground.chain }], guard := none }) (v := .bool false) rfl (by kernel_rfl) (by kernel_rfl) (by kernel_rfl) (fun _ _ _ h => h) (Or.inl ⟨by rfl, fun w' hw' => ?_⟩) hHeld ?_
    · first | (go_simp; done) | (go_simp; rfl)
    try simp only [Act.put, List.setIfInBounds_toArray, List.set_cons_zero, List.set_cons_succ]
    refine wpAnyH_take (i := 4) (oi := { dst := some 16, op := Go.Op.load 26 (Go.Operand.tmp 4), type := 26, pos := _, after := #[{ on := 3, ground := Go.Ground.guard }], guard := some (3, false) }) rfl (by kernel_rfl) (by kernel_rfl) (by kernel_rfl) (fun _ _ _ h => h) (yieldsIf_load_mid (by rfl) 26 (.tmp 4) rfl (w2.heap.size) (0) rfl (QL) _ (fun _ h => rangeAt_row h.q) Try.underlying26 rfl HQI.out) hHeld ?_
    try simp only [Act.put, List.setIfInBounds_toArray, List.set_cons_zero, List.set_cons_succ]
    refine wpAnyH_take (i := 6) (oi := { dst := some 18, op := Go.Op.load 28 (Go.Operand.tmp 1), type := 28, pos := _, after := #[{ on := 3, ground := Go.Ground.guard }], guard := some (3, false) }) rfl (by kernel_rfl) (by kernel_rfl) (by kernel_rfl) (fun _ _ _ h => h) (yieldsIf_load_mid (by rfl) 28 (.tmp 1) rfl (w.heap.size) (0) rfl (GA) _ (fun _ h => rangeAt_row h.gr) Try.underlying28 rfl HGI.out) hHeld ?_
    try simp only [Act.put, List.setIfInBounds_toArray, List.set_cons_zero, List.set_cons_succ]
    refine wpAnyH_ready (rs := [5]) (by kernel_rfl) (by simp) ?_
    refine AllReadyH.cons (o := { dst := some 17, op := Go.Op.call { callee := Go.Callee.value (Go.Operand.func 13), args := #[Go.Operand.tmp 16], argTypes := #[26] }, type := 28, pos := _, after := #[{ on := 4, ground := Go.Ground.data }, { on := 3, ground := Go.Ground.chain }, { on := 3, ground := Go.Ground.guard }], guard := some (3, false) }) rfl (fun K hK => ?_) AllReadyH.nil
    rw [if_pos (by rfl)]
    go_wp2_with fail
    refine Calls.mono (hRB _) ?_
    rintro e w6 ⟨rfl, hb6⟩
    have hHeld6 := hHeld5.below hb6
    clear hb6 hHeld hHeld5
    refine hK.out _ _ hHeld6 (fun _ => ?_)
    clear hK K
    try simp only [Act.put, List.setIfInBounds_toArray, List.set_cons_zero, List.set_cons_succ]
    have hHeld := hHeld6
    refine wpAnyH_take (i := 7) (oi := { dst := some 19, op := Go.Op.binOp Go.BinOp.neq 28 (Go.Operand.tmp 17) (Go.Operand.tmp 18) 28, type := 4, pos := _, after := #[{ on := 5, ground := Go.Ground.data }, { on := 6, ground := Go.Ground.data }, { on := 3, ground := Go.Ground.guard }], guard := some (3, false) }) (v := .bool false) rfl (by kernel_rfl) (by kernel_rfl) (by kernel_rfl) (fun _ _ _ h => h) (Or.inl ⟨by rfl, fun w' hw' => ?_⟩) hHeld ?_
    · first | (go_simp; done) | (go_simp; rfl)
    try simp only [Act.put, List.setIfInBounds_toArray, List.set_cons_zero, List.set_cons_succ]
    refine wpAnyH_take (i := 8) (oi := { dst := some 20, op := Go.Op.pick (Go.Operand.tmp 15) (Go.Operand.const (Go.Value.bool true)) (Go.Operand.tmp 19), type := 4, pos := _, after := #[{ on := 3, ground := Go.Ground.data }, { on := 7, ground := Go.Ground.data }], guard := none }) (v := .bool false) rfl (by kernel_rfl) (by kernel_rfl) (by kernel_rfl) (fun _ _ _ h => h) (Or.inl ⟨by rfl, fun w' hw' => ?_⟩) hHeld ?_
    · first | (go_simp; done) | (go_simp; rfl)
    try simp only [Act.put, List.setIfInBounds_toArray, List.set_cons_zero, List.set_cons_succ]
    refine wpAnyH_done (by kernel_rfl) ?_ _
    have HR8 : Hid _ := hHeld6.res
    have HB8 : Hid _ := hHeld6.bel
    have HQ8 : Hid (w6.rangeAt w2.heap.size 0 RL) := by rw [hRL]; exact rangeAt_row hHeld6.q
    clear hHeld hHeld6 HC hRL
    go_wp2_with (first
      | (refine wpList_build rfl 26 #[] rfl #[] (.agg RL.toArray) (by simp) (HBR.out _) ?_)
      | (refine wpList_load_mid rfl 26 _ rfl w2.heap.size 0 rfl RL _ HQ8.out Try.underlying26 rfl HLI.out ?_)
      | (refine wpList_store_row rfl 26 _ _ rfl (w.heap.size + 1) RL.toArray rfl rfl 26 RZ.toArray HR8.out HLA.out HLS.out HO1.out ?_))
    refine bodyPost_ret (v := .tuple #[.agg RL.toArray, .bool true]) (results2 Try.results19 _ _ (w.heap.size + 1) 26 RL (0, 0) _ rfl rfl (setRow_heap _ _ _ _ _ _ HR8.out) Try.underlying26 rfl HLI.out) rfl ⟨rfl, below_setRow HB8.out (by omega) _⟩
end Go.Proofs.Ytabnmhmlcoakkaa.PC
