/- realm: do: one act of the statements', by both: the walk. -/
import Derived.Test.YtekbppfocnbhbaaGreatRi
import Derived.Deep.CutRange
set_option linter.unusedVariables false
set_option linter.unusedSimpArgs false
namespace Go.Proofs.YtekbppfocnbhbaaGreat.XC
open Go.RowKit

section
variable {c : Cx} {rb tn last last' : Nat} {L R R' L' : Lg} {C C2 I J : Nat → Prop} {X Y Y' Z W : World} {rl rl' l l' : List En} {av av' : Value} {a : Ac} {s s' : Am} {k : Int} {N p q : Nat}
def DoE (c : Cx) (rb : Nat) (s : Am) (k : Int) (C : Nat → Prop) (X : World) (e : Ending) (Y : World) : Prop := e = .returned (.bool true) ∧ ∃ s', AT c k s s' ∧ JA c rb s' C Y ∧ ∀ k, C k → Y.heap[k]? = X.heap[k]?
set_option maxHeartbeats 2000000 in
set_option maxRecDepth 100000 in
theorem do_act5 (h : JA c rb s C X) (hB : Bd N s) (hN : N ≤ 1000) (ha : a.ok) (hk : a.kind = 5) :
    Calls Tryz.prog 10 #[.agg (prL c rb).toArray, .agg (acL a).toArray] X fun e Y => DoE c rb s a.kind C X e Y := by
  obtain ⟨X1, hX1⟩ : ∃ X1, X1 = (X.alloc (.cells (prL c rb).toArray 29 (0, 0))).alloc (.cells (acL a).toArray 43 (0, 0)) := ⟨_, rfl⟩
  have hb1 : Below X.heap.size X X1 := by rw [hX1]; exact ((Below.refl _ _).alloc (Nat.le_refl _) _).alloc (by simp) _
  have hs1 : X1.heap.size = X.heap.size + 1 + 1 := by rw [hX1]; simp
  have hsb : SB c rb X.heap.size (X.heap.size + 1) a X1 := ⟨by rw [hX1]; exact (heap_alloc_old _ _ (by simp)).trans (heap_alloc_new _ _), by rw [hX1]; exact R5.heap_at _ _ _ (by simp)⟩
  have HJ : Hid (JA c rb s (fun k => C k ∨ (X.heap.size ≤ k ∧ k < X1.heap.size)) X1) := h.new hb1
  have HFX : Hid (∀ k, C k → X1.heap[k]? = X.heap[k]?) := fun k hk => hb1.block k (h.lt hk)
  have HSB : Hid (∀ W, (∀ k, (C k ∨ (X.heap.size ≤ k ∧ k < X1.heap.size)) → W.heap[k]? = X1.heap[k]?) → SB c rb X.heap.size (X.heap.size + 1) a W) := fun W hW => hsb.keep (fun k hk => hW k (.inr (by omega)))
  have HAO : Hid a.ok := ha
  have HS1 : Hid (SB c rb X.heap.size (X.heap.size + 1) a X1) := hsb
  have HX1 : Hid _ := hX1
  have hk0 := hsb.k0
  have HTI : Hid _ := R5.info32 (a.tree.map B8) (by simpa using ha.t)
  have HGI : Hid _ := PC.info128 (a.g.map B8) (by simpa using ha.g)
  have HPI : Hid _ := PC.info33 (PC.rpL a.V a.nodes) (PC.rpL_len _ _ ha.V)
  have HRI : Hid _ := PC.info10 (PC.rcL a.pc a.rs a.run) (PC.rcL_len _ _ _ ha.rs)
  rw [hX1] at hk0
  clear h hb1 hs1 hsb hX1
  have HB : Hid (Bd N s) := hB
  have HN : Hid (N ≤ 1000) := hN
  have HRD : Hid (iOk a.rd) := ha.rd
  rw [hk] at hk0 ⊢
  clear hB hN ha
  go_enter Tryz.func10, Tryz.ntmps10
  go_upto_region 13 with fail
  rw [← HX1.out]
  clear hk0 HX1
  have hbD : Below X1.heap.size X1 X1.drew := (Below.refl _ _).drew
  obtain ⟨I, l, rl, av, tn, hjb⟩ := HJ.out.below hbD
  have HCO : Hid _ := (do_act (k := 5) hjb HB.out HN.out HRD.out)
  clear hjb
  refine wp_region_held_drew (S := SB c rb X.heap.size (X.heap.size + 1) a) (by kernel_rfl) (HSB.out X1.drew (fun k _ => rfl)) (fun hHeld => ?_)
  have HD : Hid (∀ k, (C k ∨ (X.heap.size ≤ k ∧ k < X1.heap.size)) → X1.drew.heap[k]? = X1.heap[k]?) := fun k _ => rfl
  generalize X1.drew = U at *
  refine wpAnyH_take (i := 0) (oi := ⟨some 106, .fieldAddr 29 (.tmp 2) 1, 0, _, #[], none⟩) (v := .pointer (some ⟨X.heap.size, 1, none⟩)) rfl (by kernel_rfl) (by kernel_rfl) (by kernel_rfl) (fun _ _ _ h => h) (Or.inl ⟨by rfl, fun w' hw' => ?_⟩) hHeld ?_
  · first | (go_simp; done) | (go_simp; rfl)
  try simp only [Act.put, qT, q0, qS]
  refine wpAnyH_take (i := 1) (oi := ⟨some 107, .load 26 (.tmp 106), 26, _, #[⟨0, .data⟩], none⟩) (v := .pointer (some ⟨c.xb, 0, none⟩)) rfl (by kernel_rfl) (by kernel_rfl) (by kernel_rfl) (fun _ _ _ h => h) (Or.inl ⟨by rfl, fun w' hw' => ?_⟩) hHeld ?_
  · have hcc := hw'.c1; first | (go_simp; done) | (go_simp; rfl)
  try simp only [Act.put, qT, q0, qS]
  refine wpAnyH_take (i := 2) (oi := ⟨some 108, .fieldAddr 43 (.tmp 3) 1, 0, _, #[], none⟩) (v := .pointer (some ⟨X.heap.size + 1, 1, none⟩)) rfl (by kernel_rfl) (by kernel_rfl) (by kernel_rfl) (fun _ _ _ h => h) (Or.inl ⟨by rfl, fun w' hw' => ?_⟩) hHeld ?_
  · first | (go_simp; done) | (go_simp; rfl)
  try simp only [Act.put, qT, q0, qS]
  refine wpAnyH_take (i := 3) (oi := ⟨some 109, .load 3 (.tmp 108), 3, _, #[⟨2, .data⟩], none⟩) (v := .int .i64 a.rd) rfl (by kernel_rfl) (by kernel_rfl) (by kernel_rfl) (fun _ _ _ h => h) (Or.inl ⟨by rfl, fun w' hw' => ?_⟩) hHeld ?_
  · have hcc := hw'.k1; first | (go_simp; done) | (go_simp; rfl)
  try simp only [Act.put, qT, q0, qS]
  refine wpAnyH_take (i := 5) (oi := ⟨some 111, .fieldAddr 29 (.tmp 2) 2, 0, _, #[], none⟩) (v := .pointer (some ⟨X.heap.size, 2, none⟩)) rfl (by kernel_rfl) (by kernel_rfl) (by kernel_rfl) (fun _ _ _ h => h) (Or.inl ⟨by rfl, fun w' hw' => ?_⟩) hHeld ?_
  · first | (go_simp; done) | (go_simp; rfl)
  try simp only [Act.put, qT, q0, qS]
  refine wpAnyH_take (i := 6) (oi := ⟨some 112, .load 27 (.tmp 111), 27, _, #[⟨5, .data⟩], none⟩) (v := .pointer (some ⟨rb, 0, none⟩)) rfl (by kernel_rfl) (by kernel_rfl) (by kernel_rfl) (fun _ _ _ h => h) (Or.inl ⟨by rfl, fun w' hw' => ?_⟩) hHeld ?_
  · have hcc := hw'.c2; first | (go_simp; done) | (go_simp; rfl)
  try simp only [Act.put, qT, q0, qS]
  refine wpAnyH_take (i := 7) (oi := ⟨some 113, .fieldAddr 43 (.tmp 3) 1, 0, _, #[], none⟩) (v := .pointer (some ⟨X.heap.size + 1, 1, none⟩)) rfl (by kernel_rfl) (by kernel_rfl) (by kernel_rfl) (fun _ _ _ h => h) (Or.inl ⟨by rfl, fun w' hw' => ?_⟩) hHeld ?_
  · first | (go_simp; done) | (go_simp; rfl)
  try simp only [Act.put, qT, q0, qS]
  refine wpAnyH_take (i := 8) (oi := ⟨some 114, .load 3 (.tmp 113), 3, _, #[⟨7, .data⟩], none⟩) (v := .int .i64 a.rd) rfl (by kernel_rfl) (by kernel_rfl) (by kernel_rfl) (fun _ _ _ h => h) (Or.inl ⟨by rfl, fun w' hw' => ?_⟩) hHeld ?_
  · have hcc := hw'.k1; first | (go_simp; done) | (go_simp; rfl)
  try simp only [Act.put, qT, q0, qS]
  refine wpAnyH_ready (rs := [4]) (by kernel_rfl) (by simp) ?_
  refine AllReadyH.cons (o := { dst := some 110, op := .call { callee := Go.Callee.value (.func 28), args := #[.tmp 107, .tmp 109], argTypes := #[26, 3] }, type := 48, pos := _, after := #[⟨1, .data⟩, ⟨3, .data⟩], guard := none }) rfl (fun K hK => ?_) AllReadyH.nil
  rw [if_pos (by rfl)]
  go_wp2_with fail
  refine Calls.mono HCO.out ?_
  rintro e W1 ⟨v, s', ⟨E, rfl⟩, rfl, hAT, hfr, href⟩
  have hfr1 : ∀ k, (C k ∨ (X.heap.size ≤ k ∧ k < X1.heap.size)) → W1.heap[k]? = X1.heap[k]? := fun k hk => (hfr k hk).trans (HD.out k hk)
  have HAT : Hid _ := hAT
  have HRF : Hid _ := href W1 (Below.refl _ _)
  clear hAT hfr href hHeld HCO
  have HF1 : Hid _ := hfr1
  have hHeld := HSB.out W1 hfr1
  clear hfr1
  refine hK.out _ _ hHeld (fun _ => ?_)
  clear hK K
  try simp only [Act.put, qT, q0, qS]
  refine wpAnyH_ready (rs := [9]) (by kernel_rfl) (by simp) ?_
  refine AllReadyH.cons (o := { dst := some 115, op := .call { callee := Go.Callee.value (.func 37), args := #[.tmp 112, .tmp 114], argTypes := #[27, 3] }, type := 3, pos := _, after := #[⟨6, .data⟩, ⟨8, .data⟩, ⟨4, .chain⟩], guard := none }) rfl (fun K hK => ?_) AllReadyH.nil
  rw [if_pos (by rfl)]
  go_wp2_with fail
  refine Calls.mono HRF.out ?_
  rintro e W2 ⟨rfl, hJA, hfr2⟩
  have hfr3 : ∀ k, (C k ∨ (X.heap.size ≤ k ∧ k < X1.heap.size)) → W2.heap[k]? = X1.heap[k]? := fun k hk => (hfr2 k hk).trans (HF1.out k hk)
  have HEND : Hid (DoE c rb s 5 C X (.returned (.bool true)) W2) := ⟨rfl, s', HAT.out, hJA.sub (fun k hk => .inl hk), fun k hk => (hfr3 k (.inl hk)).trans (HFX.out k hk)⟩
  clear hJA hfr2 hHeld HRF HAT HF1
  have hHeld := HSB.out W2 hfr3
  clear hfr3
  refine hK.out _ _ hHeld (fun _ => ?_)
  clear hK K
  try simp only [Act.put, qT, q0, qS]
  refine wpAnyH_take (i := 10) (oi := ⟨some 116, .binOp .eql 3 (.tmp 110) (.tmp 115) 3, 4, _, #[⟨4, .data⟩, ⟨9, .data⟩], none⟩) (v := .bool true) rfl (by kernel_rfl) (by kernel_rfl) (by kernel_rfl) (fun _ _ _ h => h) (Or.inl ⟨by rfl, fun w' hw' => ?_⟩) hHeld ?_
  · first | (go_simp; done) | (go_simp; rfl)
  try simp only [Act.put, qT, q0, qS]
  refine wpAnyH_take (i := 11) (oi := ⟨some 4, .assign (.tmp 116), 4, _, #[⟨10, .data⟩, ⟨9, .chain⟩, ⟨0, .phase⟩, ⟨1, .phase⟩, ⟨2, .phase⟩, ⟨3, .phase⟩, ⟨4, .phase⟩, ⟨5, .phase⟩, ⟨6, .phase⟩, ⟨7, .phase⟩, ⟨8, .phase⟩, ⟨9, .phase⟩, ⟨10, .phase⟩], none⟩) (v := .bool true) rfl (by kernel_rfl) (by kernel_rfl) (by kernel_rfl) (fun _ _ _ h => h) (Or.inl ⟨by rfl, fun w' hw' => ?_⟩) hHeld ?_
  · first | (go_simp; done) | (go_simp; rfl)
  try simp only [Act.put, qT, q0, qS]
  refine wpAnyH_done (by kernel_rfl) ?_ _
  clear hHeld
  go_wp2
  go_ret
  exact HEND.out
set_option maxHeartbeats 2000000 in
set_option maxRecDepth 100000 in
theorem do_drp4 (h : JA c rb s C X) (hB : Bd N s) (hN : N ≤ 1000) (ha : a.ok) (hk : a.kind = 4) :
    Calls Tryz.prog 10 #[.agg (prL c rb).toArray, .agg (acL a).toArray] X fun e Y => DoE c rb s a.kind C X e Y := by
  obtain ⟨X1, hX1⟩ : ∃ X1, X1 = (X.alloc (.cells (prL c rb).toArray 29 (0, 0))).alloc (.cells (acL a).toArray 43 (0, 0)) := ⟨_, rfl⟩
  have hb1 : Below X.heap.size X X1 := by rw [hX1]; exact ((Below.refl _ _).alloc (Nat.le_refl _) _).alloc (by simp) _
  have hs1 : X1.heap.size = X.heap.size + 1 + 1 := by rw [hX1]; simp
  have hsb : SB c rb X.heap.size (X.heap.size + 1) a X1 := ⟨by rw [hX1]; exact (heap_alloc_old _ _ (by simp)).trans (heap_alloc_new _ _), by rw [hX1]; exact R5.heap_at _ _ _ (by simp)⟩
  have HJ : Hid (JA c rb s (fun k => C k ∨ (X.heap.size ≤ k ∧ k < X1.heap.size)) X1) := h.new hb1
  have HFX : Hid (∀ k, C k → X1.heap[k]? = X.heap[k]?) := fun k hk => hb1.block k (h.lt hk)
  have HSB : Hid (∀ W, (∀ k, (C k ∨ (X.heap.size ≤ k ∧ k < X1.heap.size)) → W.heap[k]? = X1.heap[k]?) → SB c rb X.heap.size (X.heap.size + 1) a W) := fun W hW => hsb.keep (fun k hk => hW k (.inr (by omega)))
  have HAO : Hid a.ok := ha
  have HS1 : Hid (SB c rb X.heap.size (X.heap.size + 1) a X1) := hsb
  have HX1 : Hid _ := hX1
  have hk0 := hsb.k0
  have HTI : Hid _ := R5.info32 (a.tree.map B8) (by simpa using ha.t)
  have HGI : Hid _ := PC.info128 (a.g.map B8) (by simpa using ha.g)
  have HPI : Hid _ := PC.info33 (PC.rpL a.V a.nodes) (PC.rpL_len _ _ ha.V)
  have HRI : Hid _ := PC.info10 (PC.rcL a.pc a.rs a.run) (PC.rcL_len _ _ _ ha.rs)
  rw [hX1] at hk0
  clear h hb1 hs1 hsb hX1
  have HB : Hid (Bd N s) := hB
  have HN : Hid (N ≤ 1000) := hN
  have HRD : Hid (iOk a.rd) := ha.rd
  rw [hk] at hk0 ⊢
  clear hB hN ha
  go_enter Tryz.func10, Tryz.ntmps10
  go_upto_region 11 with fail
  rw [← HX1.out]
  clear hk0 HX1
  have hbD : Below X1.heap.size X1 X1.drew := (Below.refl _ _).drew
  obtain ⟨I, l, rl, av, tn, hjb⟩ := HJ.out.below hbD
  have HCO : Hid _ := (do_drp (k := 4) hjb HB.out HN.out HRD.out)
  clear hjb
  refine wp_region_held_drew (S := SB c rb X.heap.size (X.heap.size + 1) a) (by kernel_rfl) (HSB.out X1.drew (fun k _ => rfl)) (fun hHeld => ?_)
  have HD : Hid (∀ k, (C k ∨ (X.heap.size ≤ k ∧ k < X1.heap.size)) → X1.drew.heap[k]? = X1.heap[k]?) := fun k _ => rfl
  generalize X1.drew = U at *
  refine wpAnyH_take (i := 0) (oi := ⟨some 93, .fieldAddr 29 (.tmp 2) 1, 0, _, #[], none⟩) (v := .pointer (some ⟨X.heap.size, 1, none⟩)) rfl (by kernel_rfl) (by kernel_rfl) (by kernel_rfl) (fun _ _ _ h => h) (Or.inl ⟨by rfl, fun w' hw' => ?_⟩) hHeld ?_
  · first | (go_simp; done) | (go_simp; rfl)
  try simp only [Act.put, qT, q0, qS]
  refine wpAnyH_take (i := 1) (oi := ⟨some 94, .load 26 (.tmp 93), 26, _, #[⟨0, .data⟩], none⟩) (v := .pointer (some ⟨c.xb, 0, none⟩)) rfl (by kernel_rfl) (by kernel_rfl) (by kernel_rfl) (fun _ _ _ h => h) (Or.inl ⟨by rfl, fun w' hw' => ?_⟩) hHeld ?_
  · have hcc := hw'.c1; first | (go_simp; done) | (go_simp; rfl)
  try simp only [Act.put, qT, q0, qS]
  refine wpAnyH_take (i := 2) (oi := ⟨some 95, .fieldAddr 43 (.tmp 3) 1, 0, _, #[], none⟩) (v := .pointer (some ⟨X.heap.size + 1, 1, none⟩)) rfl (by kernel_rfl) (by kernel_rfl) (by kernel_rfl) (fun _ _ _ h => h) (Or.inl ⟨by rfl, fun w' hw' => ?_⟩) hHeld ?_
  · first | (go_simp; done) | (go_simp; rfl)
  try simp only [Act.put, qT, q0, qS]
  refine wpAnyH_take (i := 3) (oi := ⟨some 96, .load 3 (.tmp 95), 3, _, #[⟨2, .data⟩], none⟩) (v := .int .i64 a.rd) rfl (by kernel_rfl) (by kernel_rfl) (by kernel_rfl) (fun _ _ _ h => h) (Or.inl ⟨by rfl, fun w' hw' => ?_⟩) hHeld ?_
  · have hcc := hw'.k1; first | (go_simp; done) | (go_simp; rfl)
  try simp only [Act.put, qT, q0, qS]
  refine wpAnyH_take (i := 5) (oi := ⟨some 98, .fieldAddr 29 (.tmp 2) 2, 0, _, #[], none⟩) (v := .pointer (some ⟨X.heap.size, 2, none⟩)) rfl (by kernel_rfl) (by kernel_rfl) (by kernel_rfl) (fun _ _ _ h => h) (Or.inl ⟨by rfl, fun w' hw' => ?_⟩) hHeld ?_
  · first | (go_simp; done) | (go_simp; rfl)
  try simp only [Act.put, qT, q0, qS]
  refine wpAnyH_take (i := 6) (oi := ⟨some 99, .load 27 (.tmp 98), 27, _, #[⟨5, .data⟩], none⟩) (v := .pointer (some ⟨rb, 0, none⟩)) rfl (by kernel_rfl) (by kernel_rfl) (by kernel_rfl) (fun _ _ _ h => h) (Or.inl ⟨by rfl, fun w' hw' => ?_⟩) hHeld ?_
  · have hcc := hw'.c2; first | (go_simp; done) | (go_simp; rfl)
  try simp only [Act.put, qT, q0, qS]
  refine wpAnyH_take (i := 7) (oi := ⟨some 100, .fieldAddr 43 (.tmp 3) 1, 0, _, #[], none⟩) (v := .pointer (some ⟨X.heap.size + 1, 1, none⟩)) rfl (by kernel_rfl) (by kernel_rfl) (by kernel_rfl) (fun _ _ _ h => h) (Or.inl ⟨by rfl, fun w' hw' => ?_⟩) hHeld ?_
  · first | (go_simp; done) | (go_simp; rfl)
  try simp only [Act.put, qT, q0, qS]
  refine wpAnyH_take (i := 8) (oi := ⟨some 101, .load 3 (.tmp 100), 3, _, #[⟨7, .data⟩], none⟩) (v := .int .i64 a.rd) rfl (by kernel_rfl) (by kernel_rfl) (by kernel_rfl) (fun _ _ _ h => h) (Or.inl ⟨by rfl, fun w' hw' => ?_⟩) hHeld ?_
  · have hcc := hw'.k1; first | (go_simp; done) | (go_simp; rfl)
  try simp only [Act.put, qT, q0, qS]
  refine wpAnyH_ready (rs := [4]) (by kernel_rfl) (by simp) ?_
  refine AllReadyH.cons (o := { dst := some 97, op := .call { callee := Go.Callee.value (.func 27), args := #[.tmp 94, .tmp 96], argTypes := #[26, 3] }, type := 48, pos := _, after := #[⟨1, .data⟩, ⟨3, .data⟩], guard := none }) rfl (fun K hK => ?_) AllReadyH.nil
  rw [if_pos (by rfl)]
  go_wp2_with fail
  refine Calls.mono HCO.out ?_
  rintro e W1 ⟨v, s', ⟨E, rfl⟩, rfl, hAT, hfr, href⟩
  have hfr1 : ∀ k, (C k ∨ (X.heap.size ≤ k ∧ k < X1.heap.size)) → W1.heap[k]? = X1.heap[k]? := fun k hk => (hfr k hk).trans (HD.out k hk)
  have HAT : Hid _ := hAT
  have HRF : Hid _ := href W1 (Below.refl _ _)
  clear hAT hfr href hHeld HCO
  have HF1 : Hid _ := hfr1
  have hHeld := HSB.out W1 hfr1
  clear hfr1
  refine hK.out _ _ hHeld (fun _ => ?_)
  clear hK K
  try simp only [Act.put, qT, q0, qS]
  refine wpAnyH_ready (rs := [9]) (by kernel_rfl) (by simp) ?_
  refine AllReadyH.cons (o := { dst := some 102, op := .call { callee := Go.Callee.value (.func 36), args := #[.tmp 99, .tmp 101], argTypes := #[27, 3] }, type := 3, pos := _, after := #[⟨6, .data⟩, ⟨8, .data⟩, ⟨4, .chain⟩], guard := none }) rfl (fun K hK => ?_) AllReadyH.nil
  rw [if_pos (by rfl)]
  go_wp2_with fail
  refine Calls.mono HRF.out ?_
  rintro e W2 ⟨rfl, hJA, hfr2⟩
  have hfr3 : ∀ k, (C k ∨ (X.heap.size ≤ k ∧ k < X1.heap.size)) → W2.heap[k]? = X1.heap[k]? := fun k hk => (hfr2 k hk).trans (HF1.out k hk)
  have HEND : Hid (DoE c rb s 4 C X (.returned (.bool true)) W2) := ⟨rfl, s', HAT.out, hJA.sub (fun k hk => .inl hk), fun k hk => (hfr3 k (.inl hk)).trans (HFX.out k hk)⟩
  clear hJA hfr2 hHeld HRF HAT HF1
  have hHeld := HSB.out W2 hfr3
  clear hfr3
  refine hK.out _ _ hHeld (fun _ => ?_)
  clear hK K
  try simp only [Act.put, qT, q0, qS]
  refine wpAnyH_take (i := 10) (oi := ⟨some 103, .binOp .eql 3 (.tmp 97) (.tmp 102) 3, 4, _, #[⟨4, .data⟩, ⟨9, .data⟩], none⟩) (v := .bool true) rfl (by kernel_rfl) (by kernel_rfl) (by kernel_rfl) (fun _ _ _ h => h) (Or.inl ⟨by rfl, fun w' hw' => ?_⟩) hHeld ?_
  · first | (go_simp; done) | (go_simp; rfl)
  try simp only [Act.put, qT, q0, qS]
  refine wpAnyH_take (i := 11) (oi := ⟨some 4, .assign (.tmp 103), 4, _, #[⟨10, .data⟩, ⟨9, .chain⟩, ⟨0, .phase⟩, ⟨1, .phase⟩, ⟨2, .phase⟩, ⟨3, .phase⟩, ⟨4, .phase⟩, ⟨5, .phase⟩, ⟨6, .phase⟩, ⟨7, .phase⟩, ⟨8, .phase⟩, ⟨9, .phase⟩, ⟨10, .phase⟩], none⟩) (v := .bool true) rfl (by kernel_rfl) (by kernel_rfl) (by kernel_rfl) (fun _ _ _ h => h) (Or.inl ⟨by rfl, fun w' hw' => ?_⟩) hHeld ?_
  · first | (go_simp; done) | (go_simp; rfl)
  try simp only [Act.put, qT, q0, qS]
  refine wpAnyH_done (by kernel_rfl) ?_ _
  clear hHeld
  go_wp2
  go_ret
  exact HEND.out
set_option maxHeartbeats 2000000 in
set_option maxRecDepth 100000 in
theorem do_kil6 (h : JA c rb s C X) (hB : Bd N s) (hN : N ≤ 1000) (ha : a.ok) (hk : a.kind = 6) :
    Calls Tryz.prog 10 #[.agg (prL c rb).toArray, .agg (acL a).toArray] X fun e Y => DoE c rb s a.kind C X e Y := by
  obtain ⟨X1, hX1⟩ : ∃ X1, X1 = (X.alloc (.cells (prL c rb).toArray 29 (0, 0))).alloc (.cells (acL a).toArray 43 (0, 0)) := ⟨_, rfl⟩
  have hb1 : Below X.heap.size X X1 := by rw [hX1]; exact ((Below.refl _ _).alloc (Nat.le_refl _) _).alloc (by simp) _
  have hs1 : X1.heap.size = X.heap.size + 1 + 1 := by rw [hX1]; simp
  have hsb : SB c rb X.heap.size (X.heap.size + 1) a X1 := ⟨by rw [hX1]; exact (heap_alloc_old _ _ (by simp)).trans (heap_alloc_new _ _), by rw [hX1]; exact R5.heap_at _ _ _ (by simp)⟩
  have HJ : Hid (JA c rb s (fun k => C k ∨ (X.heap.size ≤ k ∧ k < X1.heap.size)) X1) := h.new hb1
  have HFX : Hid (∀ k, C k → X1.heap[k]? = X.heap[k]?) := fun k hk => hb1.block k (h.lt hk)
  have HSB : Hid (∀ W, (∀ k, (C k ∨ (X.heap.size ≤ k ∧ k < X1.heap.size)) → W.heap[k]? = X1.heap[k]?) → SB c rb X.heap.size (X.heap.size + 1) a W) := fun W hW => hsb.keep (fun k hk => hW k (.inr (by omega)))
  have HAO : Hid a.ok := ha
  have HS1 : Hid (SB c rb X.heap.size (X.heap.size + 1) a X1) := hsb
  have HX1 : Hid _ := hX1
  have hk0 := hsb.k0
  have HTI : Hid _ := R5.info32 (a.tree.map B8) (by simpa using ha.t)
  have HGI : Hid _ := PC.info128 (a.g.map B8) (by simpa using ha.g)
  have HPI : Hid _ := PC.info33 (PC.rpL a.V a.nodes) (PC.rpL_len _ _ ha.V)
  have HRI : Hid _ := PC.info10 (PC.rcL a.pc a.rs a.run) (PC.rcL_len _ _ _ ha.rs)
  rw [hX1] at hk0
  clear h hb1 hs1 hsb hX1
  have HB : Hid (Bd N s) := hB
  have HN : Hid (N ≤ 1000) := hN
  have HRD : Hid (iOk a.rd) := ha.rd
  rw [hk] at hk0 ⊢
  clear hB hN ha
  go_enter Tryz.func10, Tryz.ntmps10
  go_upto_region 15 with fail
  rw [← HX1.out]
  clear hk0 HX1
  have hbD : Below X1.heap.size X1 X1.drew := (Below.refl _ _).drew
  obtain ⟨I, l, rl, av, tn, hjb⟩ := HJ.out.below hbD
  have HCO : Hid _ := (do_kil (k := 6) hjb HB.out HN.out HRD.out)
  clear hjb
  refine wp_region_held_drew (S := SB c rb X.heap.size (X.heap.size + 1) a) (by kernel_rfl) (HSB.out X1.drew (fun k _ => rfl)) (fun hHeld => ?_)
  have HD : Hid (∀ k, (C k ∨ (X.heap.size ≤ k ∧ k < X1.heap.size)) → X1.drew.heap[k]? = X1.heap[k]?) := fun k _ => rfl
  generalize X1.drew = U at *
  refine wpAnyH_take (i := 0) (oi := ⟨some 119, .fieldAddr 29 (.tmp 2) 1, 0, _, #[], none⟩) (v := .pointer (some ⟨X.heap.size, 1, none⟩)) rfl (by kernel_rfl) (by kernel_rfl) (by kernel_rfl) (fun _ _ _ h => h) (Or.inl ⟨by rfl, fun w' hw' => ?_⟩) hHeld ?_
  · first | (go_simp; done) | (go_simp; rfl)
  try simp only [Act.put, qT, q0, qS]
  refine wpAnyH_take (i := 1) (oi := ⟨some 120, .load 26 (.tmp 119), 26, _, #[⟨0, .data⟩], none⟩) (v := .pointer (some ⟨c.xb, 0, none⟩)) rfl (by kernel_rfl) (by kernel_rfl) (by kernel_rfl) (fun _ _ _ h => h) (Or.inl ⟨by rfl, fun w' hw' => ?_⟩) hHeld ?_
  · have hcc := hw'.c1; first | (go_simp; done) | (go_simp; rfl)
  try simp only [Act.put, qT, q0, qS]
  refine wpAnyH_take (i := 2) (oi := ⟨some 121, .fieldAddr 43 (.tmp 3) 1, 0, _, #[], none⟩) (v := .pointer (some ⟨X.heap.size + 1, 1, none⟩)) rfl (by kernel_rfl) (by kernel_rfl) (by kernel_rfl) (fun _ _ _ h => h) (Or.inl ⟨by rfl, fun w' hw' => ?_⟩) hHeld ?_
  · first | (go_simp; done) | (go_simp; rfl)
  try simp only [Act.put, qT, q0, qS]
  refine wpAnyH_take (i := 3) (oi := ⟨some 122, .load 3 (.tmp 121), 3, _, #[⟨2, .data⟩], none⟩) (v := .int .i64 a.rd) rfl (by kernel_rfl) (by kernel_rfl) (by kernel_rfl) (fun _ _ _ h => h) (Or.inl ⟨by rfl, fun w' hw' => ?_⟩) hHeld ?_
  · have hcc := hw'.k1; first | (go_simp; done) | (go_simp; rfl)
  try simp only [Act.put, qT, q0, qS]
  refine wpAnyH_take (i := 5) (oi := ⟨some 124, .fieldAddr 29 (.tmp 2) 2, 0, _, #[], none⟩) (v := .pointer (some ⟨X.heap.size, 2, none⟩)) rfl (by kernel_rfl) (by kernel_rfl) (by kernel_rfl) (fun _ _ _ h => h) (Or.inl ⟨by rfl, fun w' hw' => ?_⟩) hHeld ?_
  · first | (go_simp; done) | (go_simp; rfl)
  try simp only [Act.put, qT, q0, qS]
  refine wpAnyH_take (i := 6) (oi := ⟨some 125, .load 27 (.tmp 124), 27, _, #[⟨5, .data⟩], none⟩) (v := .pointer (some ⟨rb, 0, none⟩)) rfl (by kernel_rfl) (by kernel_rfl) (by kernel_rfl) (fun _ _ _ h => h) (Or.inl ⟨by rfl, fun w' hw' => ?_⟩) hHeld ?_
  · have hcc := hw'.c2; first | (go_simp; done) | (go_simp; rfl)
  try simp only [Act.put, qT, q0, qS]
  refine wpAnyH_take (i := 7) (oi := ⟨some 126, .fieldAddr 43 (.tmp 3) 1, 0, _, #[], none⟩) (v := .pointer (some ⟨X.heap.size + 1, 1, none⟩)) rfl (by kernel_rfl) (by kernel_rfl) (by kernel_rfl) (fun _ _ _ h => h) (Or.inl ⟨by rfl, fun w' hw' => ?_⟩) hHeld ?_
  · first | (go_simp; done) | (go_simp; rfl)
  try simp only [Act.put, qT, q0, qS]
  refine wpAnyH_take (i := 8) (oi := ⟨some 127, .load 3 (.tmp 126), 3, _, #[⟨7, .data⟩], none⟩) (v := .int .i64 a.rd) rfl (by kernel_rfl) (by kernel_rfl) (by kernel_rfl) (fun _ _ _ h => h) (Or.inl ⟨by rfl, fun w' hw' => ?_⟩) hHeld ?_
  · have hcc := hw'.k1; first | (go_simp; done) | (go_simp; rfl)
  try simp only [Act.put, qT, q0, qS]
  refine wpAnyH_ready (rs := [4]) (by kernel_rfl) (by simp) ?_
  refine AllReadyH.cons (o := { dst := some 123, op := .call { callee := Go.Callee.value (.func 29), args := #[.tmp 120, .tmp 122], argTypes := #[26, 3] }, type := 48, pos := _, after := #[⟨1, .data⟩, ⟨3, .data⟩], guard := none }) rfl (fun K hK => ?_) AllReadyH.nil
  rw [if_pos (by rfl)]
  go_wp2_with fail
  refine Calls.mono HCO.out ?_
  rintro e W1 ⟨v, s', ⟨E, rfl⟩, rfl, hAT, hfr, href⟩
  have hfr1 : ∀ k, (C k ∨ (X.heap.size ≤ k ∧ k < X1.heap.size)) → W1.heap[k]? = X1.heap[k]? := fun k hk => (hfr k hk).trans (HD.out k hk)
  have HAT : Hid _ := hAT
  have HRF : Hid _ := href W1 (Below.refl _ _)
  clear hAT hfr href hHeld HCO
  have HF1 : Hid _ := hfr1
  have hHeld := HSB.out W1 hfr1
  clear hfr1
  refine hK.out _ _ hHeld (fun _ => ?_)
  clear hK K
  try simp only [Act.put, qT, q0, qS]
  refine wpAnyH_ready (rs := [9]) (by kernel_rfl) (by simp) ?_
  refine AllReadyH.cons (o := { dst := some 128, op := .call { callee := Go.Callee.value (.func 38), args := #[.tmp 125, .tmp 127], argTypes := #[27, 3] }, type := 3, pos := _, after := #[⟨6, .data⟩, ⟨8, .data⟩, ⟨4, .chain⟩], guard := none }) rfl (fun K hK => ?_) AllReadyH.nil
  rw [if_pos (by rfl)]
  go_wp2_with fail
  refine Calls.mono HRF.out ?_
  rintro e W2 ⟨rfl, hJA, hfr2⟩
  have hfr3 : ∀ k, (C k ∨ (X.heap.size ≤ k ∧ k < X1.heap.size)) → W2.heap[k]? = X1.heap[k]? := fun k hk => (hfr2 k hk).trans (HF1.out k hk)
  have HEND : Hid (DoE c rb s 6 C X (.returned (.bool true)) W2) := ⟨rfl, s', HAT.out, hJA.sub (fun k hk => .inl hk), fun k hk => (hfr3 k (.inl hk)).trans (HFX.out k hk)⟩
  clear hJA hfr2 hHeld HRF HAT HF1
  have hHeld := HSB.out W2 hfr3
  clear hfr3
  refine hK.out _ _ hHeld (fun _ => ?_)
  clear hK K
  try simp only [Act.put, qT, q0, qS]
  refine wpAnyH_take (i := 10) (oi := ⟨some 129, .binOp .eql 3 (.tmp 123) (.tmp 128) 3, 4, _, #[⟨4, .data⟩, ⟨9, .data⟩], none⟩) (v := .bool true) rfl (by kernel_rfl) (by kernel_rfl) (by kernel_rfl) (fun _ _ _ h => h) (Or.inl ⟨by rfl, fun w' hw' => ?_⟩) hHeld ?_
  · first | (go_simp; done) | (go_simp; rfl)
  try simp only [Act.put, qT, q0, qS]
  refine wpAnyH_take (i := 11) (oi := ⟨some 4, .assign (.tmp 129), 4, _, #[⟨10, .data⟩, ⟨9, .chain⟩, ⟨0, .phase⟩, ⟨1, .phase⟩, ⟨2, .phase⟩, ⟨3, .phase⟩, ⟨4, .phase⟩, ⟨5, .phase⟩, ⟨6, .phase⟩, ⟨7, .phase⟩, ⟨8, .phase⟩, ⟨9, .phase⟩, ⟨10, .phase⟩], none⟩) (v := .bool true) rfl (by kernel_rfl) (by kernel_rfl) (by kernel_rfl) (fun _ _ _ h => h) (Or.inl ⟨by rfl, fun w' hw' => ?_⟩) hHeld ?_
  · first | (go_simp; done) | (go_simp; rfl)
  try simp only [Act.put, qT, q0, qS]
  refine wpAnyH_done (by kernel_rfl) ?_ _
  clear hHeld
  go_wp2
  go_ret
  exact HEND.out
set_option maxHeartbeats 2000000 in
set_option maxRecDepth 100000 in
theorem do_del9 (h : JA c rb s C X) (hB : Bd N s) (hN : N ≤ 1000) (ha : a.ok) (hk : a.kind = 9) :
    Calls Tryz.prog 10 #[.agg (prL c rb).toArray, .agg (acL a).toArray] X fun e Y => DoE c rb s a.kind C X e Y := by
  obtain ⟨X1, hX1⟩ : ∃ X1, X1 = (X.alloc (.cells (prL c rb).toArray 29 (0, 0))).alloc (.cells (acL a).toArray 43 (0, 0)) := ⟨_, rfl⟩
  have hb1 : Below X.heap.size X X1 := by rw [hX1]; exact ((Below.refl _ _).alloc (Nat.le_refl _) _).alloc (by simp) _
  have hs1 : X1.heap.size = X.heap.size + 1 + 1 := by rw [hX1]; simp
  have hsb : SB c rb X.heap.size (X.heap.size + 1) a X1 := ⟨by rw [hX1]; exact (heap_alloc_old _ _ (by simp)).trans (heap_alloc_new _ _), by rw [hX1]; exact R5.heap_at _ _ _ (by simp)⟩
  have HJ : Hid (JA c rb s (fun k => C k ∨ (X.heap.size ≤ k ∧ k < X1.heap.size)) X1) := h.new hb1
  have HFX : Hid (∀ k, C k → X1.heap[k]? = X.heap[k]?) := fun k hk => hb1.block k (h.lt hk)
  have HSB : Hid (∀ W, (∀ k, (C k ∨ (X.heap.size ≤ k ∧ k < X1.heap.size)) → W.heap[k]? = X1.heap[k]?) → SB c rb X.heap.size (X.heap.size + 1) a W) := fun W hW => hsb.keep (fun k hk => hW k (.inr (by omega)))
  have HAO : Hid a.ok := ha
  have HS1 : Hid (SB c rb X.heap.size (X.heap.size + 1) a X1) := hsb
  have HX1 : Hid _ := hX1
  have hk0 := hsb.k0
  have HTI : Hid _ := R5.info32 (a.tree.map B8) (by simpa using ha.t)
  have HGI : Hid _ := PC.info128 (a.g.map B8) (by simpa using ha.g)
  have HPI : Hid _ := PC.info33 (PC.rpL a.V a.nodes) (PC.rpL_len _ _ ha.V)
  have HRI : Hid _ := PC.info10 (PC.rcL a.pc a.rs a.run) (PC.rcL_len _ _ _ ha.rs)
  rw [hX1] at hk0
  clear h hb1 hs1 hsb hX1
  have HB : Hid (Bd N s) := hB
  have HN : Hid (N ≤ 1000) := hN
  have HRD : Hid (iOk a.rd) := ha.rd
  rw [hk] at hk0 ⊢
  clear hB hN ha
  go_enter Tryz.func10, Tryz.ntmps10
  go_upto_region 23 with fail
  rw [← HX1.out]
  clear hk0 HX1
  have hbD : Below X1.heap.size X1 X1.drew := (Below.refl _ _).drew
  obtain ⟨I, l, rl, av, tn, hjb⟩ := HJ.out.below hbD
  have HCO : Hid _ := (do_del (k := 9) hjb HB.out HN.out HRD.out)
  clear hjb
  refine wp_region_held_drew (S := SB c rb X.heap.size (X.heap.size + 1) a) (by kernel_rfl) (HSB.out X1.drew (fun k _ => rfl)) (fun hHeld => ?_)
  have HD : Hid (∀ k, (C k ∨ (X.heap.size ≤ k ∧ k < X1.heap.size)) → X1.drew.heap[k]? = X1.heap[k]?) := fun k _ => rfl
  generalize X1.drew = U at *
  refine wpAnyH_take (i := 0) (oi := ⟨some 175, .fieldAddr 29 (.tmp 2) 1, 0, _, #[], none⟩) (v := .pointer (some ⟨X.heap.size, 1, none⟩)) rfl (by kernel_rfl) (by kernel_rfl) (by kernel_rfl) (fun _ _ _ h => h) (Or.inl ⟨by rfl, fun w' hw' => ?_⟩) hHeld ?_
  · first | (go_simp; done) | (go_simp; rfl)
  try simp only [Act.put, qT, q0, qS]
  refine wpAnyH_take (i := 1) (oi := ⟨some 176, .load 26 (.tmp 175), 26, _, #[⟨0, .data⟩], none⟩) (v := .pointer (some ⟨c.xb, 0, none⟩)) rfl (by kernel_rfl) (by kernel_rfl) (by kernel_rfl) (fun _ _ _ h => h) (Or.inl ⟨by rfl, fun w' hw' => ?_⟩) hHeld ?_
  · have hcc := hw'.c1; first | (go_simp; done) | (go_simp; rfl)
  try simp only [Act.put, qT, q0, qS]
  refine wpAnyH_take (i := 2) (oi := ⟨some 177, .fieldAddr 43 (.tmp 3) 1, 0, _, #[], none⟩) (v := .pointer (some ⟨X.heap.size + 1, 1, none⟩)) rfl (by kernel_rfl) (by kernel_rfl) (by kernel_rfl) (fun _ _ _ h => h) (Or.inl ⟨by rfl, fun w' hw' => ?_⟩) hHeld ?_
  · first | (go_simp; done) | (go_simp; rfl)
  try simp only [Act.put, qT, q0, qS]
  refine wpAnyH_take (i := 3) (oi := ⟨some 178, .load 3 (.tmp 177), 3, _, #[⟨2, .data⟩], none⟩) (v := .int .i64 a.rd) rfl (by kernel_rfl) (by kernel_rfl) (by kernel_rfl) (fun _ _ _ h => h) (Or.inl ⟨by rfl, fun w' hw' => ?_⟩) hHeld ?_
  · have hcc := hw'.k1; first | (go_simp; done) | (go_simp; rfl)
  try simp only [Act.put, qT, q0, qS]
  refine wpAnyH_take (i := 5) (oi := ⟨some 180, .fieldAddr 29 (.tmp 2) 2, 0, _, #[], none⟩) (v := .pointer (some ⟨X.heap.size, 2, none⟩)) rfl (by kernel_rfl) (by kernel_rfl) (by kernel_rfl) (fun _ _ _ h => h) (Or.inl ⟨by rfl, fun w' hw' => ?_⟩) hHeld ?_
  · first | (go_simp; done) | (go_simp; rfl)
  try simp only [Act.put, qT, q0, qS]
  refine wpAnyH_take (i := 6) (oi := ⟨some 181, .load 27 (.tmp 180), 27, _, #[⟨5, .data⟩], none⟩) (v := .pointer (some ⟨rb, 0, none⟩)) rfl (by kernel_rfl) (by kernel_rfl) (by kernel_rfl) (fun _ _ _ h => h) (Or.inl ⟨by rfl, fun w' hw' => ?_⟩) hHeld ?_
  · have hcc := hw'.c2; first | (go_simp; done) | (go_simp; rfl)
  try simp only [Act.put, qT, q0, qS]
  refine wpAnyH_take (i := 7) (oi := ⟨some 182, .fieldAddr 43 (.tmp 3) 1, 0, _, #[], none⟩) (v := .pointer (some ⟨X.heap.size + 1, 1, none⟩)) rfl (by kernel_rfl) (by kernel_rfl) (by kernel_rfl) (fun _ _ _ h => h) (Or.inl ⟨by rfl, fun w' hw' => ?_⟩) hHeld ?_
  · first | (go_simp; done) | (go_simp; rfl)
  try simp only [Act.put, qT, q0, qS]
  refine wpAnyH_take (i := 8) (oi := ⟨some 183, .load 3 (.tmp 182), 3, _, #[⟨7, .data⟩], none⟩) (v := .int .i64 a.rd) rfl (by kernel_rfl) (by kernel_rfl) (by kernel_rfl) (fun _ _ _ h => h) (Or.inl ⟨by rfl, fun w' hw' => ?_⟩) hHeld ?_
  · have hcc := hw'.k1; first | (go_simp; done) | (go_simp; rfl)
  try simp only [Act.put, qT, q0, qS]
  refine wpAnyH_ready (rs := [4]) (by kernel_rfl) (by simp) ?_
  refine AllReadyH.cons (o := { dst := some 179, op := .call { callee := Go.Callee.value (.func 31), args := #[.tmp 176, .tmp 178], argTypes := #[26, 3] }, type := 48, pos := _, after := #[⟨1, .data⟩, ⟨3, .data⟩], guard := none }) rfl (fun K hK => ?_) AllReadyH.nil
  rw [if_pos (by rfl)]
  go_wp2_with fail
  refine Calls.mono HCO.out ?_
  rintro e W1 ⟨v, s', ⟨E, rfl⟩, rfl, hAT, hfr, href⟩
  have hfr1 : ∀ k, (C k ∨ (X.heap.size ≤ k ∧ k < X1.heap.size)) → W1.heap[k]? = X1.heap[k]? := fun k hk => (hfr k hk).trans (HD.out k hk)
  have HAT : Hid _ := hAT
  have HRF : Hid _ := href W1 (Below.refl _ _)
  clear hAT hfr href hHeld HCO
  have HF1 : Hid _ := hfr1
  have hHeld := HSB.out W1 hfr1
  clear hfr1
  refine hK.out _ _ hHeld (fun _ => ?_)
  clear hK K
  try simp only [Act.put, qT, q0, qS]
  refine wpAnyH_ready (rs := [9]) (by kernel_rfl) (by simp) ?_
  refine AllReadyH.cons (o := { dst := some 184, op := .call { callee := Go.Callee.value (.func 40), args := #[.tmp 181, .tmp 183], argTypes := #[27, 3] }, type := 3, pos := _, after := #[⟨6, .data⟩, ⟨8, .data⟩, ⟨4, .chain⟩], guard := none }) rfl (fun K hK => ?_) AllReadyH.nil
  rw [if_pos (by rfl)]
  go_wp2_with fail
  refine Calls.mono HRF.out ?_
  rintro e W2 ⟨rfl, hJA, hfr2⟩
  have hfr3 : ∀ k, (C k ∨ (X.heap.size ≤ k ∧ k < X1.heap.size)) → W2.heap[k]? = X1.heap[k]? := fun k hk => (hfr2 k hk).trans (HF1.out k hk)
  have HEND : Hid (DoE c rb s 9 C X (.returned (.bool true)) W2) := ⟨rfl, s', HAT.out, hJA.sub (fun k hk => .inl hk), fun k hk => (hfr3 k (.inl hk)).trans (HFX.out k hk)⟩
  clear hJA hfr2 hHeld HRF HAT HF1
  have hHeld := HSB.out W2 hfr3
  clear hfr3
  refine hK.out _ _ hHeld (fun _ => ?_)
  clear hK K
  try simp only [Act.put, qT, q0, qS]
  refine wpAnyH_take (i := 10) (oi := ⟨some 185, .binOp .eql 3 (.tmp 179) (.tmp 184) 3, 4, _, #[⟨4, .data⟩, ⟨9, .data⟩], none⟩) (v := .bool true) rfl (by kernel_rfl) (by kernel_rfl) (by kernel_rfl) (fun _ _ _ h => h) (Or.inl ⟨by rfl, fun w' hw' => ?_⟩) hHeld ?_
  · first | (go_simp; done) | (go_simp; rfl)
  try simp only [Act.put, qT, q0, qS]
  refine wpAnyH_take (i := 11) (oi := ⟨some 4, .assign (.tmp 185), 4, _, #[⟨10, .data⟩, ⟨9, .chain⟩, ⟨0, .phase⟩, ⟨1, .phase⟩, ⟨2, .phase⟩, ⟨3, .phase⟩, ⟨4, .phase⟩, ⟨5, .phase⟩, ⟨6, .phase⟩, ⟨7, .phase⟩, ⟨8, .phase⟩, ⟨9, .phase⟩, ⟨10, .phase⟩], none⟩) (v := .bool true) rfl (by kernel_rfl) (by kernel_rfl) (by kernel_rfl) (fun _ _ _ h => h) (Or.inl ⟨by rfl, fun w' hw' => ?_⟩) hHeld ?_
  · first | (go_simp; done) | (go_simp; rfl)
  try simp only [Act.put, qT, q0, qS]
  refine wpAnyH_done (by kernel_rfl) ?_ _
  clear hHeld
  go_wp2
  go_ret
  exact HEND.out
end
end Go.Proofs.YtekbppfocnbhbaaGreat.XC
