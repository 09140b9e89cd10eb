import Derived.Test.YtekbppfocnbhbaaGreatRi
import Derived.Deep.CutRange
set_option linter.unusedVariables false
set_option linter.unusedSimpArgs false
set_option maxHeartbeats 16000000
set_option maxRecDepth 100000
namespace Go.Proofs.YtekbppfocnbhbaaGreat.XC
open Go.RowKit
section
variable {c : Cx} {rb tn last last' : Nat} {L R R' L' : Lg} {C C2 I J : Nat → Prop} {X Y Y' Z W : World} {rl rl' l l' : List En} {av av' : Value} {a : Ac} {s s' : Am} {k : Int} {N p q : Nat}
def DoE (c : Cx) (rb : Nat) (s : Am) (k : Int) (C : Nat → Prop) (X : World) (e : Ending) (Y : World) : Prop := e = .returned (.bool true) ∧ ∃ s', AT c k s s' ∧ JA c rb s' C Y ∧ ∀ k, C k → Y.heap[k]? = X.heap[k]?
theorem do_act5 (h : JA c rb s C X) (hB : Bd N s) (hN : N ≤ 1000) (ha : a.ok) (hk : a.kind = 5) :
    Calls Tryz.prog 10 #[.agg (prL c rb).toArray, .agg (acL a).toArray] X fun e Y => DoE c rb s a.kind C X e Y := by
  obtain ⟨X1, hX1⟩ : ∃ X1, X1 = (X.alloc (.cells (prL c rb).toArray 29 (0, 0))).alloc (.cells (acL a).toArray 43 (0, 0)) := ⟨_, rfl⟩
  have hb1 : Below X.heap.size X X1 := by rw [hX1]; exact ((Below.refl _ _).alloc (Nat.le_refl _) _).alloc (by simp) _
  have hs1 : X1.heap.size = X.heap.size + 1 + 1 := by rw [hX1]; simp
  have hsb : SB c rb X.heap.size (X.heap.size + 1) a X1 := ⟨by rw [hX1]; exact (heap_alloc_old _ _ (by simp)).trans (heap_alloc_new _ _), by rw [hX1]; exact R5.heap_at _ _ _ (by simp)⟩
  have HJ : Hid (JA c rb s (fun k => C k ∨ (X.heap.size ≤ k ∧ k < X1.heap.size)) X1) := h.new hb1
  have HFX : Hid (∀ k, C k → X1.heap[k]? = X.heap[k]?) := fun k hk => hb1.block k (h.lt hk)
  have HSB : Hid (∀ W, (∀ k, (C k ∨ (X.heap.size ≤ k ∧ k < X1.heap.size)) → W.heap[k]? = X1.heap[k]?) → SB c rb X.heap.size (X.heap.size + 1) a W) := fun W hW => hsb.keep (fun k hk => hW k (.inr (by omega)))
  have HAO : Hid a.ok := ha
  have HS1 : Hid (SB c rb X.heap.size (X.heap.size + 1) a X1) := hsb
  have HX1 : Hid _ := hX1
  have hk0 := hsb.k0
  have HTI : Hid _ := R5.info32 (a.tree.map B8) (by simpa using ha.t)
  have HGI : Hid _ := PC.info128 (a.g.map B8) (by simpa using ha.g)
  have HPI : Hid _ := PC.info33 (PC.rpL a.V a.nodes) (PC.rpL_len _ _ ha.V)
  have HRI : Hid _ := PC.info10 (PC.rcL a.pc a.rs a.run) (PC.rcL_len _ _ _ ha.rs)
  rw [hX1] at hk0
  clear h hb1 hs1 hsb hX1
  have HB : Hid (Bd N s) := hB
  have HN : Hid (N ≤ 1000) := hN
  have HRD : Hid (iOk a.rd) := ha.rd
  rw [hk] at hk0 ⊢
  clear hB hN ha
  go_enter Tryz.func10, Tryz.ntmps10
  go_upto_region 13 with fail
  rw [← HX1.out]
  clear hk0 HX1
  have hbD : Below X1.heap.size X1 X1.drew := (Below.refl _ _).drew
  obtain ⟨I, l, rl, av, tn, hjb⟩ := HJ.out.below hbD
  have HCO : Hid _ := (do_act (k := 5) hjb HB.out HN.out HRD.out)
  clear hjb
  refine wp_region_held_drew (S := SB c rb X.heap.size (X.heap.size + 1) a) (by kernel_rfl) (HSB.out X1.drew (fun k _ => rfl)) (fun hHeld => ?_)
  have HD : Hid (∀ k, (C k ∨ (X.heap.size ≤ k ∧ k < X1.heap.size)) → X1.drew.heap[k]? = X1.heap[k]?) := fun k _ => rfl
  generalize X1.drew = U at *
  refine qzI 0 ⟨some 106, .fieldAddr 29 (.tmp 2) 1, 0, _, #[], none⟩ (.pointer (some ⟨X.heap.size, 1, none⟩)) rfl (by kernel_rfl) (fun _ _ _ h => h) (by rfl) (fun w' hw' => ?_) hHeld ?_
  · go_simp <;> rfl
  try simp only [Act.put, qT, q0, qS]
  refine qzI 1 ⟨some 107, .load 26 (.tmp 106), 26, _, #[⟨0, .data⟩], none⟩ (.pointer (some ⟨c.xb, 0, none⟩)) rfl (by kernel_rfl) (fun _ _ _ h => h) (by rfl) (fun w' hw' => ?_) hHeld ?_
  · have hcc := hw'.c1; go_simp <;> rfl
  try simp only [Act.put, qT, q0, qS]
  refine qzI 2 ⟨some 108, .fieldAddr 43 (.tmp 3) 1, 0, _, #[], none⟩ (.pointer (some ⟨X.heap.size + 1, 1, none⟩)) rfl (by kernel_rfl) (fun _ _ _ h => h) (by rfl) (fun w' hw' => ?_) hHeld ?_
  · go_simp <;> rfl
  try simp only [Act.put, qT, q0, qS]
  refine qzI 3 ⟨some 109, .load 3 (.tmp 108), 3, _, #[⟨2, .data⟩], none⟩ (.int .i64 a.rd) rfl (by kernel_rfl) (fun _ _ _ h => h) (by rfl) (fun w' hw' => ?_) hHeld ?_
  · have hcc := hw'.k1; go_simp <;> rfl
  try simp only [Act.put, qT, q0, qS]
  refine qzI 5 ⟨some 111, .fieldAddr 29 (.tmp 2) 2, 0, _, #[], none⟩ (.pointer (some ⟨X.heap.size, 2, none⟩)) rfl (by kernel_rfl) (fun _ _ _ h => h) (by rfl) (fun w' hw' => ?_) hHeld ?_
  · go_simp <;> rfl
  try simp only [Act.put, qT, q0, qS]
  refine qzI 6 ⟨some 112, .load 27 (.tmp 111), 27, _, #[⟨5, .data⟩], none⟩ (.pointer (some ⟨rb, 0, none⟩)) rfl (by kernel_rfl) (fun _ _ _ h => h) (by rfl) (fun w' hw' => ?_) hHeld ?_
  · have hcc := hw'.c2; go_simp <;> rfl
  try simp only [Act.put, qT, q0, qS]
  refine qzI 7 ⟨some 113, .fieldAddr 43 (.tmp 3) 1, 0, _, #[], none⟩ (.pointer (some ⟨X.heap.size + 1, 1, none⟩)) rfl (by kernel_rfl) (fun _ _ _ h => h) (by rfl) (fun w' hw' => ?_) hHeld ?_
  · go_simp <;> rfl
  try simp only [Act.put, qT, q0, qS]
  refine qzI 8 ⟨some 114, .load 3 (.tmp 113), 3, _, #[⟨7, .data⟩], none⟩ (.int .i64 a.rd) rfl (by kernel_rfl) (fun _ _ _ h => h) (by rfl) (fun w' hw' => ?_) hHeld ?_
  · have hcc := hw'.k1; go_simp <;> rfl
  try simp only [Act.put, qT, q0, qS]
  refine qzR 4 ⟨some 110, .call ⟨.value (.func 28), #[.tmp 107, .tmp 109], #[26, 3]⟩, 48, _, #[⟨1, .data⟩, ⟨3, .data⟩], none⟩ (by kernel_rfl) rfl (by rfl) (fun K hK => ?_)
  go_wp2_with fail
  refine Calls.mono HCO.out ?_
  rintro e W1 ⟨v, s', ⟨E, rfl⟩, rfl, hAT, hfr, href⟩
  have hfr1 : ∀ k, (C k ∨ (X.heap.size ≤ k ∧ k < X1.heap.size)) → W1.heap[k]? = X1.heap[k]? := fun k hk => (hfr k hk).trans (HD.out k hk)
  have HAT : Hid _ := hAT
  have HRF : Hid _ := href W1 (Below.refl _ _)
  clear hAT hfr href hHeld HCO
  have HF1 : Hid _ := hfr1
  have hHeld := HSB.out W1 hfr1
  clear hfr1
  refine hK.out _ _ hHeld (fun _ => ?_)
  clear hK K
  try simp only [Act.put, qT, q0, qS]
  refine qzR 9 ⟨some 115, .call ⟨.value (.func 37), #[.tmp 112, .tmp 114], #[27, 3]⟩, 3, _, #[⟨6, .data⟩, ⟨8, .data⟩, ⟨4, .chain⟩], none⟩ (by kernel_rfl) rfl (by rfl) (fun K hK => ?_)
  go_wp2_with fail
  refine Calls.mono HRF.out ?_
  rintro e W2 ⟨rfl, hJA, hfr2⟩
  have hfr3 : ∀ k, (C k ∨ (X.heap.size ≤ k ∧ k < X1.heap.size)) → W2.heap[k]? = X1.heap[k]? := fun k hk => (hfr2 k hk).trans (HF1.out k hk)
  have HEND : Hid (DoE c rb s 5 C X (.returned (.bool true)) W2) := ⟨rfl, s', HAT.out, hJA.sub (fun k hk => .inl hk), fun k hk => (hfr3 k (.inl hk)).trans (HFX.out k hk)⟩
  clear hJA hfr2 hHeld HRF HAT HF1
  have hHeld := HSB.out W2 hfr3
  clear hfr3
  refine hK.out _ _ hHeld (fun _ => ?_)
  clear hK K
  try simp only [Act.put, qT, q0, qS]
  refine qzI 10 ⟨some 116, .binOp .eql 3 (.tmp 110) (.tmp 115) 3, 4, _, #[⟨4, .data⟩, ⟨9, .data⟩], none⟩ (.bool true) rfl (by kernel_rfl) (fun _ _ _ h => h) (by rfl) (fun w' hw' => ?_) hHeld ?_
  · go_simp <;> rfl
  try simp only [Act.put, qT, q0, qS]
  refine qzI 11 ⟨some 4, .assign (.tmp 116), 4, _, #[⟨10, .data⟩, ⟨9, .chain⟩, ⟨0, .phase⟩, ⟨1, .phase⟩, ⟨2, .phase⟩, ⟨3, .phase⟩, ⟨4, .phase⟩, ⟨5, .phase⟩, ⟨6, .phase⟩, ⟨7, .phase⟩, ⟨8, .phase⟩, ⟨9, .phase⟩, ⟨10, .phase⟩], none⟩ (.bool true) rfl (by kernel_rfl) (fun _ _ _ h => h) (by rfl) (fun w' hw' => ?_) hHeld ?_
  · go_simp <;> rfl
  try simp only [Act.put, qT, q0, qS]
  refine wpAnyH_done (by kernel_rfl) ?_ _
  clear hHeld
  go_wp2
  go_ret
  exact HEND.out
theorem do_drp4 (h : JA c rb s C X) (hB : Bd N s) (hN : N ≤ 1000) (ha : a.ok) (hk : a.kind = 4) :
    Calls Tryz.prog 10 #[.agg (prL c rb).toArray, .agg (acL a).toArray] X fun e Y => DoE c rb s a.kind C X e Y := by
  obtain ⟨X1, hX1⟩ : ∃ X1, X1 = (X.alloc (.cells (prL c rb).toArray 29 (0, 0))).alloc (.cells (acL a).toArray 43 (0, 0)) := ⟨_, rfl⟩
  have hb1 : Below X.heap.size X X1 := by rw [hX1]; exact ((Below.refl _ _).alloc (Nat.le_refl _) _).alloc (by simp) _
  have hs1 : X1.heap.size = X.heap.size + 1 + 1 := by rw [hX1]; simp
  have hsb : SB c rb X.heap.size (X.heap.size + 1) a X1 := ⟨by rw [hX1]; exact (heap_alloc_old _ _ (by simp)).trans (heap_alloc_new _ _), by rw [hX1]; exact R5.heap_at _ _ _ (by simp)⟩
  have HJ : Hid (JA c rb s (fun k => C k ∨ (X.heap.size ≤ k ∧ k < X1.heap.size)) X1) := h.new hb1
  have HFX : Hid (∀ k, C k → X1.heap[k]? = X.heap[k]?) := fun k hk => hb1.block k (h.lt hk)
  have HSB : Hid (∀ W, (∀ k, (C k ∨ (X.heap.size ≤ k ∧ k < X1.heap.size)) → W.heap[k]? = X1.heap[k]?) → SB c rb X.heap.size (X.heap.size + 1) a W) := fun W hW => hsb.keep (fun k hk => hW k (.inr (by omega)))
  have HAO : Hid a.ok := ha
  have HS1 : Hid (SB c rb X.heap.size (X.heap.size + 1) a X1) := hsb
  have HX1 : Hid _ := hX1
  have hk0 := hsb.k0
  have HTI : Hid _ := R5.info32 (a.tree.map B8) (by simpa using ha.t)
  have HGI : Hid _ := PC.info128 (a.g.map B8) (by simpa using ha.g)
  have HPI : Hid _ := PC.info33 (PC.rpL a.V a.nodes) (PC.rpL_len _ _ ha.V)
  have HRI : Hid _ := PC.info10 (PC.rcL a.pc a.rs a.run) (PC.rcL_len _ _ _ ha.rs)
  rw [hX1] at hk0
  clear h hb1 hs1 hsb hX1
  have HB : Hid (Bd N s) := hB
  have HN : Hid (N ≤ 1000) := hN
  have HRD : Hid (iOk a.rd) := ha.rd
  rw [hk] at hk0 ⊢
  clear hB hN ha
  go_enter Tryz.func10, Tryz.ntmps10
  go_upto_region 11 with fail
  rw [← HX1.out]
  clear hk0 HX1
  have hbD : Below X1.heap.size X1 X1.drew := (Below.refl _ _).drew
  obtain ⟨I, l, rl, av, tn, hjb⟩ := HJ.out.below hbD
  have HCO : Hid _ := (do_drp (k := 4) hjb HB.out HN.out HRD.out)
  clear hjb
  refine wp_region_held_drew (S := SB c rb X.heap.size (X.heap.size + 1) a) (by kernel_rfl) (HSB.out X1.drew (fun k _ => rfl)) (fun hHeld => ?_)
  have HD : Hid (∀ k, (C k ∨ (X.heap.size ≤ k ∧ k < X1.heap.size)) → X1.drew.heap[k]? = X1.heap[k]?) := fun k _ => rfl
  generalize X1.drew = U at *
  refine qzI 0 ⟨some 93, .fieldAddr 29 (.tmp 2) 1, 0, _, #[], none⟩ (.pointer (some ⟨X.heap.size, 1, none⟩)) rfl (by kernel_rfl) (fun _ _ _ h => h) (by rfl) (fun w' hw' => ?_) hHeld ?_
  · go_simp <;> rfl
  try simp only [Act.put, qT, q0, qS]
  refine qzI 1 ⟨some 94, .load 26 (.tmp 93), 26, _, #[⟨0, .data⟩], none⟩ (.pointer (some ⟨c.xb, 0, none⟩)) rfl (by kernel_rfl) (fun _ _ _ h => h) (by rfl) (fun w' hw' => ?_) hHeld ?_
  · have hcc := hw'.c1; go_simp <;> rfl
  try simp only [Act.put, qT, q0, qS]
  refine qzI 2 ⟨some 95, .fieldAddr 43 (.tmp 3) 1, 0, _, #[], none⟩ (.pointer (some ⟨X.heap.size + 1, 1, none⟩)) rfl (by kernel_rfl) (fun _ _ _ h => h) (by rfl) (fun w' hw' => ?_) hHeld ?_
  · go_simp <;> rfl
  try simp only [Act.put, qT, q0, qS]
  refine qzI 3 ⟨some 96, .load 3 (.tmp 95), 3, _, #[⟨2, .data⟩], none⟩ (.int .i64 a.rd) rfl (by kernel_rfl) (fun _ _ _ h => h) (by rfl) (fun w' hw' => ?_) hHeld ?_
  · have hcc := hw'.k1; go_simp <;> rfl
  try simp only [Act.put, qT, q0, qS]
  refine qzI 5 ⟨some 98, .fieldAddr 29 (.tmp 2) 2, 0, _, #[], none⟩ (.pointer (some ⟨X.heap.size, 2, none⟩)) rfl (by kernel_rfl) (fun _ _ _ h => h) (by rfl) (fun w' hw' => ?_) hHeld ?_
  · go_simp <;> rfl
  try simp only [Act.put, qT, q0, qS]
  refine qzI 6 ⟨some 99, .load 27 (.tmp 98), 27, _, #[⟨5, .data⟩], none⟩ (.pointer (some ⟨rb, 0, none⟩)) rfl (by kernel_rfl) (fun _ _ _ h => h) (by rfl) (fun w' hw' => ?_) hHeld ?_
  · have hcc := hw'.c2; go_simp <;> rfl
  try simp only [Act.put, qT, q0, qS]
  refine qzI 7 ⟨some 100, .fieldAddr 43 (.tmp 3) 1, 0, _, #[], none⟩ (.pointer (some ⟨X.heap.size + 1, 1, none⟩)) rfl (by kernel_rfl) (fun _ _ _ h => h) (by rfl) (fun w' hw' => ?_) hHeld ?_
  · go_simp <;> rfl
  try simp only [Act.put, qT, q0, qS]
  refine qzI 8 ⟨some 101, .load 3 (.tmp 100), 3, _, #[⟨7, .data⟩], none⟩ (.int .i64 a.rd) rfl (by kernel_rfl) (fun _ _ _ h => h) (by rfl) (fun w' hw' => ?_) hHeld ?_
  · have hcc := hw'.k1; go_simp <;> rfl
  try simp only [Act.put, qT, q0, qS]
  refine qzR 4 ⟨some 97, .call ⟨.value (.func 27), #[.tmp 94, .tmp 96], #[26, 3]⟩, 48, _, #[⟨1, .data⟩, ⟨3, .data⟩], none⟩ (by kernel_rfl) rfl (by rfl) (fun K hK => ?_)
  go_wp2_with fail
  refine Calls.mono HCO.out ?_
  rintro e W1 ⟨v, s', ⟨E, rfl⟩, rfl, hAT, hfr, href⟩
  have hfr1 : ∀ k, (C k ∨ (X.heap.size ≤ k ∧ k < X1.heap.size)) → W1.heap[k]? = X1.heap[k]? := fun k hk => (hfr k hk).trans (HD.out k hk)
  have HAT : Hid _ := hAT
  have HRF : Hid _ := href W1 (Below.refl _ _)
  clear hAT hfr href hHeld HCO
  have HF1 : Hid _ := hfr1
  have hHeld := HSB.out W1 hfr1
  clear hfr1
  refine hK.out _ _ hHeld (fun _ => ?_)
  clear hK K
  try simp only [Act.put, qT, q0, qS]
  refine qzR 9 ⟨some 102, .call ⟨.value (.func 36), #[.tmp 99, .tmp 101], #[27, 3]⟩, 3, _, #[⟨6, .data⟩, ⟨8, .data⟩, ⟨4, .chain⟩], none⟩ (by kernel_rfl) rfl (by rfl) (fun K hK => ?_)
  go_wp2_with fail
  refine Calls.mono HRF.out ?_
  rintro e W2 ⟨rfl, hJA, hfr2⟩
  have hfr3 : ∀ k, (C k ∨ (X.heap.size ≤ k ∧ k < X1.heap.size)) → W2.heap[k]? = X1.heap[k]? := fun k hk => (hfr2 k hk).trans (HF1.out k hk)
  have HEND : Hid (DoE c rb s 4 C X (.returned (.bool true)) W2) := ⟨rfl, s', HAT.out, hJA.sub (fun k hk => .inl hk), fun k hk => (hfr3 k (.inl hk)).trans (HFX.out k hk)⟩
  clear hJA hfr2 hHeld HRF HAT HF1
  have hHeld := HSB.out W2 hfr3
  clear hfr3
  refine hK.out _ _ hHeld (fun _ => ?_)
  clear hK K
  try simp only [Act.put, qT, q0, qS]
  refine qzI 10 ⟨some 103, .binOp .eql 3 (.tmp 97) (.tmp 102) 3, 4, _, #[⟨4, .data⟩, ⟨9, .data⟩], none⟩ (.bool true) rfl (by kernel_rfl) (fun _ _ _ h => h) (by rfl) (fun w' hw' => ?_) hHeld ?_
  · go_simp <;> rfl
  try simp only [Act.put, qT, q0, qS]
  refine qzI 11 ⟨some 4, .assign (.tmp 103), 4, _, #[⟨10, .data⟩, ⟨9, .chain⟩, ⟨0, .phase⟩, ⟨1, .phase⟩, ⟨2, .phase⟩, ⟨3, .phase⟩, ⟨4, .phase⟩, ⟨5, .phase⟩, ⟨6, .phase⟩, ⟨7, .phase⟩, ⟨8, .phase⟩, ⟨9, .phase⟩, ⟨10, .phase⟩], none⟩ (.bool true) rfl (by kernel_rfl) (fun _ _ _ h => h) (by rfl) (fun w' hw' => ?_) hHeld ?_
  · go_simp <;> rfl
  try simp only [Act.put, qT, q0, qS]
  refine wpAnyH_done (by kernel_rfl) ?_ _
  clear hHeld
  go_wp2
  go_ret
  exact HEND.out
theorem do_kil6 (h : JA c rb s C X) (hB : Bd N s) (hN : N ≤ 1000) (ha : a.ok) (hk : a.kind = 6) :
    Calls Tryz.prog 10 #[.agg (prL c rb).toArray, .agg (acL a).toArray] X fun e Y => DoE c rb s a.kind C X e Y := by
  obtain ⟨X1, hX1⟩ : ∃ X1, X1 = (X.alloc (.cells (prL c rb).toArray 29 (0, 0))).alloc (.cells (acL a).toArray 43 (0, 0)) := ⟨_, rfl⟩
  have hb1 : Below X.heap.size X X1 := by rw [hX1]; exact ((Below.refl _ _).alloc (Nat.le_refl _) _).alloc (by simp) _
  have hs1 : X1.heap.size = X.heap.size + 1 + 1 := by rw [hX1]; simp
  have hsb : SB c rb X.heap.size (X.heap.size + 1) a X1 := ⟨by rw [hX1]; exact (heap_alloc_old _ _ (by simp)).trans (heap_alloc_new _ _), by rw [hX1]; exact R5.heap_at _ _ _ (by simp)⟩
  have HJ : Hid (JA c rb s (fun k => C k ∨ (X.heap.size ≤ k ∧ k < X1.heap.size)) X1) := h.new hb1
  have HFX : Hid (∀ k, C k → X1.heap[k]? = X.heap[k]?) := fun k hk => hb1.block k (h.lt hk)
  have HSB : Hid (∀ W, (∀ k, (C k ∨ (X.heap.size ≤ k ∧ k < X1.heap.size)) → W.heap[k]? = X1.heap[k]?) → SB c rb X.heap.size (X.heap.size + 1) a W) := fun W hW => hsb.keep (fun k hk => hW k (.inr (by omega)))
  have HAO : Hid a.ok := ha
  have HS1 : Hid (SB c rb X.heap.size (X.heap.size + 1) a X1) := hsb
  have HX1 : Hid _ := hX1
  have hk0 := hsb.k0
  have HTI : Hid _ := R5.info32 (a.tree.map B8) (by simpa using ha.t)
  have HGI : Hid _ := PC.info128 (a.g.map B8) (by simpa using ha.g)
  have HPI : Hid _ := PC.info33 (PC.rpL a.V a.nodes) (PC.rpL_len _ _ ha.V)
  have HRI : Hid _ := PC.info10 (PC.rcL a.pc a.rs a.run) (PC.rcL_len _ _ _ ha.rs)
  rw [hX1] at hk0
  clear h hb1 hs1 hsb hX1
  have HB : Hid (Bd N s) := hB
  have HN : Hid (N ≤ 1000) := hN
  have HRD : Hid (iOk a.rd) := ha.rd
  rw [hk] at hk0 ⊢
  clear hB hN ha
  go_enter Tryz.func10, Tryz.ntmps10
  go_upto_region 15 with fail
  rw [← HX1.out]
  clear hk0 HX1
  have hbD : Below X1.heap.size X1 X1.drew := (Below.refl _ _).drew
  obtain ⟨I, l, rl, av, tn, hjb⟩ := HJ.out.below hbD
  have HCO : Hid _ := (do_kil (k := 6) hjb HB.out HN.out HRD.out)
  clear hjb
  refine wp_region_held_drew (S := SB c rb X.heap.size (X.heap.size + 1) a) (by kernel_rfl) (HSB.out X1.drew (fun k _ => rfl)) (fun hHeld => ?_)
  have HD : Hid (∀ k, (C k ∨ (X.heap.size ≤ k ∧ k < X1.heap.size)) → X1.drew.heap[k]? = X1.heap[k]?) := fun k _ => rfl
  generalize X1.drew = U at *
  refine qzI 0 ⟨some 119, .fieldAddr 29 (.tmp 2) 1, 0, _, #[], none⟩ (.pointer (some ⟨X.heap.size, 1, none⟩)) rfl (by kernel_rfl) (fun _ _ _ h => h) (by rfl) (fun w' hw' => ?_) hHeld ?_
  · go_simp <;> rfl
  try simp only [Act.put, qT, q0, qS]
  refine qzI 1 ⟨some 120, .load 26 (.tmp 119), 26, _, #[⟨0, .data⟩], none⟩ (.pointer (some ⟨c.xb, 0, none⟩)) rfl (by kernel_rfl) (fun _ _ _ h => h) (by rfl) (fun w' hw' => ?_) hHeld ?_
  · have hcc := hw'.c1; go_simp <;> rfl
  try simp only [Act.put, qT, q0, qS]
  refine qzI 2 ⟨some 121, .fieldAddr 43 (.tmp 3) 1, 0, _, #[], none⟩ (.pointer (some ⟨X.heap.size + 1, 1, none⟩)) rfl (by kernel_rfl) (fun _ _ _ h => h) (by rfl) (fun w' hw' => ?_) hHeld ?_
  · go_simp <;> rfl
  try simp only [Act.put, qT, q0, qS]
  refine qzI 3 ⟨some 122, .load 3 (.tmp 121), 3, _, #[⟨2, .data⟩], none⟩ (.int .i64 a.rd) rfl (by kernel_rfl) (fun _ _ _ h => h) (by rfl) (fun w' hw' => ?_) hHeld ?_
  · have hcc := hw'.k1; go_simp <;> rfl
  try simp only [Act.put, qT, q0, qS]
  refine qzI 5 ⟨some 124, .fieldAddr 29 (.tmp 2) 2, 0, _, #[], none⟩ (.pointer (some ⟨X.heap.size, 2, none⟩)) rfl (by kernel_rfl) (fun _ _ _ h => h) (by rfl) (fun w' hw' => ?_) hHeld ?_
  · go_simp <;> rfl
  try simp only [Act.put, qT, q0, qS]
  refine qzI 6 ⟨some 125, .load 27 (.tmp 124), 27, _, #[⟨5, .data⟩], none⟩ (.pointer (some ⟨rb, 0, none⟩)) rfl (by kernel_rfl) (fun _ _ _ h => h) (by rfl) (fun w' hw' => ?_) hHeld ?_
  · have hcc := hw'.c2; go_simp <;> rfl
  try simp only [Act.put, qT, q0, qS]
  refine qzI 7 ⟨some 126, .fieldAddr 43 (.tmp 3) 1, 0, _, #[], none⟩ (.pointer (some ⟨X.heap.size + 1, 1, none⟩)) rfl (by kernel_rfl) (fun _ _ _ h => h) (by rfl) (fun w' hw' => ?_) hHeld ?_
  · go_simp <;> rfl
  try simp only [Act.put, qT, q0, qS]
  refine qzI 8 ⟨some 127, .load 3 (.tmp 126), 3, _, #[⟨7, .data⟩], none⟩ (.int .i64 a.rd) rfl (by kernel_rfl) (fun _ _ _ h => h) (by rfl) (fun w' hw' => ?_) hHeld ?_
  · have hcc := hw'.k1; go_simp <;> rfl
  try simp only [Act.put, qT, q0, qS]
  refine qzR 4 ⟨some 123, .call ⟨.value (.func 29), #[.tmp 120, .tmp 122], #[26, 3]⟩, 48, _, #[⟨1, .data⟩, ⟨3, .data⟩], none⟩ (by kernel_rfl) rfl (by rfl) (fun K hK => ?_)
  go_wp2_with fail
  refine Calls.mono HCO.out ?_
  rintro e W1 ⟨v, s', ⟨E, rfl⟩, rfl, hAT, hfr, href⟩
  have hfr1 : ∀ k, (C k ∨ (X.heap.size ≤ k ∧ k < X1.heap.size)) → W1.heap[k]? = X1.heap[k]? := fun k hk => (hfr k hk).trans (HD.out k hk)
  have HAT : Hid _ := hAT
  have HRF : Hid _ := href W1 (Below.refl _ _)
  clear hAT hfr href hHeld HCO
  have HF1 : Hid _ := hfr1
  have hHeld := HSB.out W1 hfr1
  clear hfr1
  refine hK.out _ _ hHeld (fun _ => ?_)
  clear hK K
  try simp only [Act.put, qT, q0, qS]
  refine qzR 9 ⟨some 128, .call ⟨.value (.func 38), #[.tmp 125, .tmp 127], #[27, 3]⟩, 3, _, #[⟨6, .data⟩, ⟨8, .data⟩, ⟨4, .chain⟩], none⟩ (by kernel_rfl) rfl (by rfl) (fun K hK => ?_)
  go_wp2_with fail
  refine Calls.mono HRF.out ?_
  rintro e W2 ⟨rfl, hJA, hfr2⟩
  have hfr3 : ∀ k, (C k ∨ (X.heap.size ≤ k ∧ k < X1.heap.size)) → W2.heap[k]? = X1.heap[k]? := fun k hk => (hfr2 k hk).trans (HF1.out k hk)
  have HEND : Hid (DoE c rb s 6 C X (.returned (.bool true)) W2) := ⟨rfl, s', HAT.out, hJA.sub (fun k hk => .inl hk), fun k hk => (hfr3 k (.inl hk)).trans (HFX.out k hk)⟩
  clear hJA hfr2 hHeld HRF HAT HF1
  have hHeld := HSB.out W2 hfr3
  clear hfr3
  refine hK.out _ _ hHeld (fun _ => ?_)
  clear hK K
  try simp only [Act.put, qT, q0, qS]
  refine qzI 10 ⟨some 129, .binOp .eql 3 (.tmp 123) (.tmp 128) 3, 4, _, #[⟨4, .data⟩, ⟨9, .data⟩], none⟩ (.bool true) rfl (by kernel_rfl) (fun _ _ _ h => h) (by rfl) (fun w' hw' => ?_) hHeld ?_
  · go_simp <;> rfl
  try simp only [Act.put, qT, q0, qS]
  refine qzI 11 ⟨some 4, .assign (.tmp 129), 4, _, #[⟨10, .data⟩, ⟨9, .chain⟩, ⟨0, .phase⟩, ⟨1, .phase⟩, ⟨2, .phase⟩, ⟨3, .phase⟩, ⟨4, .phase⟩, ⟨5, .phase⟩, ⟨6, .phase⟩, ⟨7, .phase⟩, ⟨8, .phase⟩, ⟨9, .phase⟩, ⟨10, .phase⟩], none⟩ (.bool true) rfl (by kernel_rfl) (fun _ _ _ h => h) (by rfl) (fun w' hw' => ?_) hHeld ?_
  · go_simp <;> rfl
  try simp only [Act.put, qT, q0, qS]
  refine wpAnyH_done (by kernel_rfl) ?_ _
  clear hHeld
  go_wp2
  go_ret
  exact HEND.out
theorem do_del9 (h : JA c rb s C X) (hB : Bd N s) (hN : N ≤ 1000) (ha : a.ok) (hk : a.kind = 9) :
    Calls Tryz.prog 10 #[.agg (prL c rb).toArray, .agg (acL a).toArray] X fun e Y => DoE c rb s a.kind C X e Y := by
  obtain ⟨X1, hX1⟩ : ∃ X1, X1 = (X.alloc (.cells (prL c rb).toArray 29 (0, 0))).alloc (.cells (acL a).toArray 43 (0, 0)) := ⟨_, rfl⟩
  have hb1 : Below X.heap.size X X1 := by rw [hX1]; exact ((Below.refl _ _).alloc (Nat.le_refl _) _).alloc (by simp) _
  have hs1 : X1.heap.size = X.heap.size + 1 + 1 := by rw [hX1]; simp
  have hsb : SB c rb X.heap.size (X.heap.size + 1) a X1 := ⟨by rw [hX1]; exact (heap_alloc_old _ _ (by simp)).trans (heap_alloc_new _ _), by rw [hX1]; exact R5.heap_at _ _ _ (by simp)⟩
  have HJ : Hid (JA c rb s (fun k => C k ∨ (X.heap.size ≤ k ∧ k < X1.heap.size)) X1) := h.new hb1
  have HFX : Hid (∀ k, C k → X1.heap[k]? = X.heap[k]?) := fun k hk => hb1.block k (h.lt hk)
  have HSB : Hid (∀ W, (∀ k, (C k ∨ (X.heap.size ≤ k ∧ k < X1.heap.size)) → W.heap[k]? = X1.heap[k]?) → SB c rb X.heap.size (X.heap.size + 1) a W) := fun W hW => hsb.keep (fun k hk => hW k (.inr (by omega)))
  have HAO : Hid a.ok := ha
  have HS1 : Hid (SB c rb X.heap.size (X.heap.size + 1) a X1) := hsb
  have HX1 : Hid _ := hX1
  have hk0 := hsb.k0
  have HTI : Hid _ := R5.info32 (a.tree.map B8) (by simpa using ha.t)
  have HGI : Hid _ := PC.info128 (a.g.map B8) (by simpa using ha.g)
  have HPI : Hid _ := PC.info33 (PC.rpL a.V a.nodes) (PC.rpL_len _ _ ha.V)
  have HRI : Hid _ := PC.info10 (PC.rcL a.pc a.rs a.run) (PC.rcL_len _ _ _ ha.rs)
  rw [hX1] at hk0
  clear h hb1 hs1 hsb hX1
  have HB : Hid (Bd N s) := hB
  have HN : Hid (N ≤ 1000) := hN
  have HRD : Hid (iOk a.rd) := ha.rd
  rw [hk] at hk0 ⊢
  clear hB hN ha
  go_enter Tryz.func10, Tryz.ntmps10
  go_upto_region 23 with fail
  rw [← HX1.out]
  clear hk0 HX1
  have hbD : Below X1.heap.size X1 X1.drew := (Below.refl _ _).drew
  obtain ⟨I, l, rl, av, tn, hjb⟩ := HJ.out.below hbD
  have HCO : Hid _ := (do_del (k := 9) hjb HB.out HN.out HRD.out)
  clear hjb
  refine wp_region_held_drew (S := SB c rb X.heap.size (X.heap.size + 1) a) (by kernel_rfl) (HSB.out X1.drew (fun k _ => rfl)) (fun hHeld => ?_)
  have HD : Hid (∀ k, (C k ∨ (X.heap.size ≤ k ∧ k < X1.heap.size)) → X1.drew.heap[k]? = X1.heap[k]?) := fun k _ => rfl
  generalize X1.drew = U at *
  refine qzI 0 ⟨some 175, .fieldAddr 29 (.tmp 2) 1, 0, _, #[], none⟩ (.pointer (some ⟨X.heap.size, 1, none⟩)) rfl (by kernel_rfl) (fun _ _ _ h => h) (by rfl) (fun w' hw' => ?_) hHeld ?_
  · go_simp <;> rfl
  try simp only [Act.put, qT, q0, qS]
  refine qzI 1 ⟨some 176, .load 26 (.tmp 175), 26, _, #[⟨0, .data⟩], none⟩ (.pointer (some ⟨c.xb, 0, none⟩)) rfl (by kernel_rfl) (fun _ _ _ h => h) (by rfl) (fun w' hw' => ?_) hHeld ?_
  · have hcc := hw'.c1; go_simp <;> rfl
  try simp only [Act.put, qT, q0, qS]
  refine qzI 2 ⟨some 177, .fieldAddr 43 (.tmp 3) 1, 0, _, #[], none⟩ (.pointer (some ⟨X.heap.size + 1, 1, none⟩)) rfl (by kernel_rfl) (fun _ _ _ h => h) (by rfl) (fun w' hw' => ?_) hHeld ?_
  · go_simp <;> rfl
  try simp only [Act.put, qT, q0, qS]
  refine qzI 3 ⟨some 178, .load 3 (.tmp 177), 3, _, #[⟨2, .data⟩], none⟩ (.int .i64 a.rd) rfl (by kernel_rfl) (fun _ _ _ h => h) (by rfl) (fun w' hw' => ?_) hHeld ?_
  · have hcc := hw'.k1; go_simp <;> rfl
  try simp only [Act.put, qT, q0, qS]
  refine qzI 5 ⟨some 180, .fieldAddr 29 (.tmp 2) 2, 0, _, #[], none⟩ (.pointer (some ⟨X.heap.size, 2, none⟩)) rfl (by kernel_rfl) (fun _ _ _ h => h) (by rfl) (fun w' hw' => ?_) hHeld ?_
  · go_simp <;> rfl
  try simp only [Act.put, qT, q0, qS]
  refine qzI 6 ⟨some 181, .load 27 (.tmp 180), 27, _, #[⟨5, .data⟩], none⟩ (.pointer (some ⟨rb, 0, none⟩)) rfl (by kernel_rfl) (fun _ _ _ h => h) (by rfl) (fun w' hw' => ?_) hHeld ?_
  · have hcc := hw'.c2; go_simp <;> rfl
  try simp only [Act.put, qT, q0, qS]
  refine qzI 7 ⟨some 182, .fieldAddr 43 (.tmp 3) 1, 0, _, #[], none⟩ (.pointer (some ⟨X.heap.size + 1, 1, none⟩)) rfl (by kernel_rfl) (fun _ _ _ h => h) (by rfl) (fun w' hw' => ?_) hHeld ?_
  · go_simp <;> rfl
  try simp only [Act.put, qT, q0, qS]
  refine qzI 8 ⟨some 183, .load 3 (.tmp 182), 3, _, #[⟨7, .data⟩], none⟩ (.int .i64 a.rd) rfl (by kernel_rfl) (fun _ _ _ h => h) (by rfl) (fun w' hw' => ?_) hHeld ?_
  · have hcc := hw'.k1; go_simp <;> rfl
  try simp only [Act.put, qT, q0, qS]
  refine qzR 4 ⟨some 179, .call ⟨.value (.func 31), #[.tmp 176, .tmp 178], #[26, 3]⟩, 48, _, #[⟨1, .data⟩, ⟨3, .data⟩], none⟩ (by kernel_rfl) rfl (by rfl) (fun K hK => ?_)
  go_wp2_with fail
  refine Calls.mono HCO.out ?_
  rintro e W1 ⟨v, s', ⟨E, rfl⟩, rfl, hAT, hfr, href⟩
  have hfr1 : ∀ k, (C k ∨ (X.heap.size ≤ k ∧ k < X1.heap.size)) → W1.heap[k]? = X1.heap[k]? := fun k hk => (hfr k hk).trans (HD.out k hk)
  have HAT : Hid _ := hAT
  have HRF : Hid _ := href W1 (Below.refl _ _)
  clear hAT hfr href hHeld HCO
  have HF1 : Hid _ := hfr1
  have hHeld := HSB.out W1 hfr1
  clear hfr1
  refine hK.out _ _ hHeld (fun _ => ?_)
  clear hK K
  try simp only [Act.put, qT, q0, qS]
  refine qzR 9 ⟨some 184, .call ⟨.value (.func 40), #[.tmp 181, .tmp 183], #[27, 3]⟩, 3, _, #[⟨6, .data⟩, ⟨8, .data⟩, ⟨4, .chain⟩], none⟩ (by kernel_rfl) rfl (by rfl) (fun K hK => ?_)
  go_wp2_with fail
  refine Calls.mono HRF.out ?_
  rintro e W2 ⟨rfl, hJA, hfr2⟩
  have hfr3 : ∀ k, (C k ∨ (X.heap.size ≤ k ∧ k < X1.heap.size)) → W2.heap[k]? = X1.heap[k]? := fun k hk => (hfr2 k hk).trans (HF1.out k hk)
  have HEND : Hid (DoE c rb s 9 C X (.returned (.bool true)) W2) := ⟨rfl, s', HAT.out, hJA.sub (fun k hk => .inl hk), fun k hk => (hfr3 k (.inl hk)).trans (HFX.out k hk)⟩
  clear hJA hfr2 hHeld HRF HAT HF1
  have hHeld := HSB.out W2 hfr3
  clear hfr3
  refine hK.out _ _ hHeld (fun _ => ?_)
  clear hK K
  try simp only [Act.put, qT, q0, qS]
  refine qzI 10 ⟨some 185, .binOp .eql 3 (.tmp 179) (.tmp 184) 3, 4, _, #[⟨4, .data⟩, ⟨9, .data⟩], none⟩ (.bool true) rfl (by kernel_rfl) (fun _ _ _ h => h) (by rfl) (fun w' hw' => ?_) hHeld ?_
  · go_simp <;> rfl
  try simp only [Act.put, qT, q0, qS]
  refine qzI 11 ⟨some 4, .assign (.tmp 185), 4, _, #[⟨10, .data⟩, ⟨9, .chain⟩, ⟨0, .phase⟩, ⟨1, .phase⟩, ⟨2, .phase⟩, ⟨3, .phase⟩, ⟨4, .phase⟩, ⟨5, .phase⟩, ⟨6, .phase⟩, ⟨7, .phase⟩, ⟨8, .phase⟩, ⟨9, .phase⟩, ⟨10, .phase⟩], none⟩ (.bool true) rfl (by kernel_rfl) (fun _ _ _ h => h) (by rfl) (fun w' hw' => ?_) hHeld ?_
  · go_simp <;> rfl
  try simp only [Act.put, qT, q0, qS]
  refine wpAnyH_done (by kernel_rfl) ?_ _
  clear hHeld
  go_wp2
  go_ret
  exact HEND.out
end
end Go.Proofs.YtekbppfocnbhbaaGreat.XC
