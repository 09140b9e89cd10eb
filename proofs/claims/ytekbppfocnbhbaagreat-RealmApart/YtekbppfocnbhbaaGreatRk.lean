import Derived.Test.YtekbppfocnbhbaaGreatRj
set_option linter.unusedVariables false
set_option linter.unusedSimpArgs false
set_option maxHeartbeats 16000000
set_option maxRecDepth 100000
namespace Go.Proofs.YtekbppfocnbhbaaGreat.XC
open Go.RowKit
section
variable {c : Cx} {rb tn last last' : Nat} {L R R' L' : Lg} {C C2 I J : Nat → Prop} {X Y Y' Z W : World} {rl rl' l l' : List En} {av av' : Value} {a : Ac} {s s' : Am} {k : Int} {N p q : Nat}
theorem do_str8 (h : JA c rb s C X) (hB : Bd N s) (hN : N ≤ 1000) (ha : a.ok) (hk : a.kind = 8) :
    Calls Tryz.prog 10 #[.agg (prL c rb).toArray, .agg (acL a).toArray] X fun e Y => DoE c rb s a.kind C X e Y := by
  obtain ⟨X1, hX1⟩ : ∃ X1, X1 = (X.alloc (.cells (prL c rb).toArray 29 (0, 0))).alloc (.cells (acL a).toArray 43 (0, 0)) := ⟨_, rfl⟩
  have hb1 : Below X.heap.size X X1 := by rw [hX1]; exact ((Below.refl _ _).alloc (Nat.le_refl _) _).alloc (by simp) _
  have hs1 : X1.heap.size = X.heap.size + 1 + 1 := by rw [hX1]; simp
  have hsb : SB c rb X.heap.size (X.heap.size + 1) a X1 := ⟨by rw [hX1]; exact (heap_alloc_old _ _ (by simp)).trans (heap_alloc_new _ _), by rw [hX1]; exact R5.heap_at _ _ _ (by simp)⟩
  have HJ : Hid (JA c rb s (fun k => C k ∨ (X.heap.size ≤ k ∧ k < X1.heap.size)) X1) := h.new hb1
  have HFX : Hid (∀ k, C k → X1.heap[k]? = X.heap[k]?) := fun k hk => hb1.block k (h.lt hk)
  have HSB : Hid (∀ W, (∀ k, (C k ∨ (X.heap.size ≤ k ∧ k < X1.heap.size)) → W.heap[k]? = X1.heap[k]?) → SB c rb X.heap.size (X.heap.size + 1) a W) := fun W hW => hsb.keep (fun k hk => hW k (.inr (by omega)))
  have HAO : Hid a.ok := ha
  have HS1 : Hid (SB c rb X.heap.size (X.heap.size + 1) a X1) := hsb
  have HX1 : Hid _ := hX1
  have hk0 := hsb.k0
  have HTI : Hid _ := R5.info32 (a.tree.map B8) (by simpa using ha.t)
  have HGI : Hid _ := PC.info128 (a.g.map B8) (by simpa using ha.g)
  have HPI : Hid _ := PC.info33 (PC.rpL a.V a.nodes) (PC.rpL_len _ _ ha.V)
  have HRI : Hid _ := PC.info10 (PC.rcL a.pc a.rs a.run) (PC.rcL_len _ _ _ ha.rs)
  rw [hX1] at hk0
  clear h hb1 hs1 hsb hX1
  have HB : Hid (Bd N s) := hB
  have HN : Hid (N ≤ 1000) := hN
  have HRD : Hid (iOk a.rd) := ha.rd
  rw [hk] at hk0 ⊢
  clear hB hN ha
  go_enter Tryz.func10, Tryz.ntmps10
  go_upto_region 21 with fail
  rw [← HX1.out]
  clear hk0 HX1
  have hbD : Below X1.heap.size X1 X1.drew := (Below.refl _ _).drew
  obtain ⟨I, l, rl, av, tn, hjb⟩ := HJ.out.below hbD
  have HCO : Hid _ := (do_str (k := 8) hjb HB.out HN.out HRD.out a.tree HAO.out.t)
  clear hjb
  refine wp_region_held_drew (S := SB c rb X.heap.size (X.heap.size + 1) a) (by kernel_rfl) (HSB.out X1.drew (fun k _ => rfl)) (fun hHeld => ?_)
  have HD : Hid (∀ k, (C k ∨ (X.heap.size ≤ k ∧ k < X1.heap.size)) → X1.drew.heap[k]? = X1.heap[k]?) := fun k _ => rfl
  generalize X1.drew = U at *
  refine qzI 0 ⟨some 158, .fieldAddr 29 (.tmp 2) 1, 0, _, #[], none⟩ (.pointer (some ⟨X.heap.size, 1, none⟩)) rfl (by kernel_rfl) (fun _ _ _ h => h) (by rfl) (fun w' hw' => ?_) hHeld ?_
  · go_simp <;> rfl
  try simp only [Act.put, qT, q0, qS]
  refine qzI 1 ⟨some 159, .load 26 (.tmp 158), 26, _, #[⟨0, .data⟩], none⟩ (.pointer (some ⟨c.xb, 0, none⟩)) rfl (by kernel_rfl) (fun _ _ _ h => h) (by rfl) (fun w' hw' => ?_) hHeld ?_
  · have hcc := hw'.c1; go_simp <;> rfl
  try simp only [Act.put, qT, q0, qS]
  refine qzI 2 ⟨some 160, .fieldAddr 43 (.tmp 3) 1, 0, _, #[], none⟩ (.pointer (some ⟨X.heap.size + 1, 1, none⟩)) rfl (by kernel_rfl) (fun _ _ _ h => h) (by rfl) (fun w' hw' => ?_) hHeld ?_
  · go_simp <;> rfl
  try simp only [Act.put, qT, q0, qS]
  refine qzI 3 ⟨some 161, .load 3 (.tmp 160), 3, _, #[⟨2, .data⟩], none⟩ (.int .i64 a.rd) rfl (by kernel_rfl) (fun _ _ _ h => h) (by rfl) (fun w' hw' => ?_) hHeld ?_
  · have hcc := hw'.k1; go_simp <;> rfl
  try simp only [Act.put, qT, q0, qS]
  refine qzI 4 ⟨some 162, .fieldAddr 43 (.tmp 3) 5, 0, _, #[], none⟩ (.pointer (some ⟨X.heap.size + 1, 37, none⟩)) rfl (by kernel_rfl) (fun _ _ _ h => h) (by rfl) (fun w' hw' => ?_) hHeld ?_
  · go_simp <;> rfl
  try simp only [Act.put, qT, q0, qS]
  refine qzK 5 ⟨some 163, .load 33 (.tmp 162), 33, _, #[⟨4, .data⟩], none⟩ _ rfl (by kernel_rfl) (fun _ _ _ h => h) (yieldsIf_load_mid (by rfl) 33 (.tmp 162) rfl (X.heap.size + 1) (37) rfl (a.tree.map B8) _ (fun _ h => h.rt HAO.out) Tryz.underlying33 rfl HTI.out) hHeld ?_
  try simp only [Act.put, qT, q0, qS]
  refine qzI 7 ⟨some 165, .fieldAddr 29 (.tmp 2) 2, 0, _, #[], none⟩ (.pointer (some ⟨X.heap.size, 2, none⟩)) rfl (by kernel_rfl) (fun _ _ _ h => h) (by rfl) (fun w' hw' => ?_) hHeld ?_
  · go_simp <;> rfl
  try simp only [Act.put, qT, q0, qS]
  refine qzI 8 ⟨some 166, .load 27 (.tmp 165), 27, _, #[⟨7, .data⟩], none⟩ (.pointer (some ⟨rb, 0, none⟩)) rfl (by kernel_rfl) (fun _ _ _ h => h) (by rfl) (fun w' hw' => ?_) hHeld ?_
  · have hcc := hw'.c2; go_simp <;> rfl
  try simp only [Act.put, qT, q0, qS]
  refine qzI 9 ⟨some 167, .fieldAddr 43 (.tmp 3) 1, 0, _, #[], none⟩ (.pointer (some ⟨X.heap.size + 1, 1, none⟩)) rfl (by kernel_rfl) (fun _ _ _ h => h) (by rfl) (fun w' hw' => ?_) hHeld ?_
  · go_simp <;> rfl
  try simp only [Act.put, qT, q0, qS]
  refine qzI 10 ⟨some 168, .load 3 (.tmp 167), 3, _, #[⟨9, .data⟩], none⟩ (.int .i64 a.rd) rfl (by kernel_rfl) (fun _ _ _ h => h) (by rfl) (fun w' hw' => ?_) hHeld ?_
  · have hcc := hw'.k1; go_simp <;> rfl
  try simp only [Act.put, qT, q0, qS]
  refine qzI 11 ⟨some 169, .fieldAddr 43 (.tmp 3) 5, 0, _, #[], none⟩ (.pointer (some ⟨X.heap.size + 1, 37, none⟩)) rfl (by kernel_rfl) (fun _ _ _ h => h) (by rfl) (fun w' hw' => ?_) hHeld ?_
  · go_simp <;> rfl
  try simp only [Act.put, qT, q0, qS]
  refine qzK 12 ⟨some 170, .load 33 (.tmp 169), 33, _, #[⟨11, .data⟩], none⟩ _ rfl (by kernel_rfl) (fun _ _ _ h => h) (yieldsIf_load_mid (by rfl) 33 (.tmp 169) rfl (X.heap.size + 1) (37) rfl (a.tree.map B8) _ (fun _ h => h.rt HAO.out) Tryz.underlying33 rfl HTI.out) hHeld ?_
  try simp only [Act.put, qT, q0, qS]
  refine qzR 6 ⟨some 164, .call ⟨.value (.func 30), #[.tmp 159, .tmp 161, .tmp 163], #[26, 3, 33]⟩, 48, _, #[⟨1, .data⟩, ⟨3, .data⟩, ⟨5, .data⟩], none⟩ (by kernel_rfl) rfl (by rfl) (fun K hK => ?_)
  go_wp2_with fail
  refine Calls.mono HCO.out ?_
  rintro e W1 ⟨v, s', ⟨E, rfl⟩, rfl, hAT, hfr, href⟩
  have hfr1 : ∀ k, (C k ∨ (X.heap.size ≤ k ∧ k < X1.heap.size)) → W1.heap[k]? = X1.heap[k]? := fun k hk => (hfr k hk).trans (HD.out k hk)
  have HAT : Hid _ := hAT
  have HRF : Hid _ := href W1 (Below.refl _ _)
  clear hAT hfr href hHeld HCO
  have HF1 : Hid _ := hfr1
  have hHeld := HSB.out W1 hfr1
  clear hfr1
  refine hK.out _ _ hHeld (fun _ => ?_)
  clear hK K
  try simp only [Act.put, qT, q0, qS]
  refine qzR 13 ⟨some 171, .call ⟨.value (.func 39), #[.tmp 166, .tmp 168, .tmp 170], #[27, 3, 33]⟩, 3, _, #[⟨8, .data⟩, ⟨10, .data⟩, ⟨12, .data⟩, ⟨6, .chain⟩], none⟩ (by kernel_rfl) rfl (by rfl) (fun K hK => ?_)
  go_wp2_with fail
  refine Calls.mono HRF.out ?_
  rintro e W2 ⟨rfl, hJA, hfr2⟩
  have hfr3 : ∀ k, (C k ∨ (X.heap.size ≤ k ∧ k < X1.heap.size)) → W2.heap[k]? = X1.heap[k]? := fun k hk => (hfr2 k hk).trans (HF1.out k hk)
  have HEND : Hid (DoE c rb s 8 C X (.returned (.bool true)) W2) := ⟨rfl, s', HAT.out, hJA.sub (fun k hk => .inl hk), fun k hk => (hfr3 k (.inl hk)).trans (HFX.out k hk)⟩
  clear hJA hfr2 hHeld HRF HAT HF1
  have hHeld := HSB.out W2 hfr3
  clear hfr3
  refine hK.out _ _ hHeld (fun _ => ?_)
  clear hK K
  try simp only [Act.put, qT, q0, qS]
  refine qzI 14 ⟨some 172, .binOp .eql 3 (.tmp 164) (.tmp 171) 3, 4, _, #[⟨6, .data⟩, ⟨13, .data⟩], none⟩ (.bool true) rfl (by kernel_rfl) (fun _ _ _ h => h) (by rfl) (fun w' hw' => ?_) hHeld ?_
  · go_simp <;> rfl
  try simp only [Act.put, qT, q0, qS]
  refine qzI 15 ⟨some 4, .assign (.tmp 172), 4, _, #[⟨14, .data⟩, ⟨13, .chain⟩, ⟨0, .phase⟩, ⟨1, .phase⟩, ⟨2, .phase⟩, ⟨3, .phase⟩, ⟨4, .phase⟩, ⟨5, .phase⟩, ⟨6, .phase⟩, ⟨7, .phase⟩, ⟨8, .phase⟩, ⟨9, .phase⟩, ⟨10, .phase⟩, ⟨11, .phase⟩, ⟨12, .phase⟩, ⟨13, .phase⟩, ⟨14, .phase⟩], none⟩ (.bool true) rfl (by kernel_rfl) (fun _ _ _ h => h) (by rfl) (fun w' hw' => ?_) hHeld ?_
  · go_simp <;> rfl
  try simp only [Act.put, qT, q0, qS]
  refine wpAnyH_done (by kernel_rfl) ?_ _
  clear hHeld
  go_wp2
  go_ret
  exact HEND.out
theorem do_add3 (h : JA c rb s C X) (hB : Bd N s) (hN : N ≤ 1000) (ha : a.ok) (hk : a.kind = 3) :
    Calls Tryz.prog 10 #[.agg (prL c rb).toArray, .agg (acL a).toArray] X fun e Y => DoE c rb s a.kind C X e Y := by
  obtain ⟨X1, hX1⟩ : ∃ X1, X1 = (X.alloc (.cells (prL c rb).toArray 29 (0, 0))).alloc (.cells (acL a).toArray 43 (0, 0)) := ⟨_, rfl⟩
  have hb1 : Below X.heap.size X X1 := by rw [hX1]; exact ((Below.refl _ _).alloc (Nat.le_refl _) _).alloc (by simp) _
  have hs1 : X1.heap.size = X.heap.size + 1 + 1 := by rw [hX1]; simp
  have hsb : SB c rb X.heap.size (X.heap.size + 1) a X1 := ⟨by rw [hX1]; exact (heap_alloc_old _ _ (by simp)).trans (heap_alloc_new _ _), by rw [hX1]; exact R5.heap_at _ _ _ (by simp)⟩
  have HJ : Hid (JA c rb s (fun k => C k ∨ (X.heap.size ≤ k ∧ k < X1.heap.size)) X1) := h.new hb1
  have HFX : Hid (∀ k, C k → X1.heap[k]? = X.heap[k]?) := fun k hk => hb1.block k (h.lt hk)
  have HSB : Hid (∀ W, (∀ k, (C k ∨ (X.heap.size ≤ k ∧ k < X1.heap.size)) → W.heap[k]? = X1.heap[k]?) → SB c rb X.heap.size (X.heap.size + 1) a W) := fun W hW => hsb.keep (fun k hk => hW k (.inr (by omega)))
  have HAO : Hid a.ok := ha
  have HS1 : Hid (SB c rb X.heap.size (X.heap.size + 1) a X1) := hsb
  have HX1 : Hid _ := hX1
  have hk0 := hsb.k0
  have HTI : Hid _ := R5.info32 (a.tree.map B8) (by simpa using ha.t)
  have HGI : Hid _ := PC.info128 (a.g.map B8) (by simpa using ha.g)
  have HPI : Hid _ := PC.info33 (PC.rpL a.V a.nodes) (PC.rpL_len _ _ ha.V)
  have HRI : Hid _ := PC.info10 (PC.rcL a.pc a.rs a.run) (PC.rcL_len _ _ _ ha.rs)
  rw [hX1] at hk0
  clear h hb1 hs1 hsb hX1
  have HB : Hid (Bd N s) := hB
  have HN : Hid (N ≤ 1000) := hN
  have HRD : Hid (iOk a.rd) := ha.rd
  rw [hk] at hk0 ⊢
  clear hB hN ha
  go_enter Tryz.func10, Tryz.ntmps10
  go_upto_region 9 with fail
  rw [← HX1.out]
  clear hk0 HX1
  have hbD : Below X1.heap.size X1 X1.drew := (Below.refl _ _).drew
  obtain ⟨I, l, rl, av, tn, hjb⟩ := HJ.out.below hbD
  have HCO : Hid _ := (do_add (k := 3) hjb HB.out HN.out HRD.out a.pc a.rs a.run HAO.out.rs HAO.out.pc HAO.out.rx)
  clear hjb
  refine wp_region_held_drew (S := SB c rb X.heap.size (X.heap.size + 1) a) (by kernel_rfl) (HSB.out X1.drew (fun k _ => rfl)) (fun hHeld => ?_)
  have HD : Hid (∀ k, (C k ∨ (X.heap.size ≤ k ∧ k < X1.heap.size)) → X1.drew.heap[k]? = X1.heap[k]?) := fun k _ => rfl
  generalize X1.drew = U at *
  refine qzI 0 ⟨some 76, .fieldAddr 29 (.tmp 2) 1, 0, _, #[], none⟩ (.pointer (some ⟨X.heap.size, 1, none⟩)) rfl (by kernel_rfl) (fun _ _ _ h => h) (by rfl) (fun w' hw' => ?_) hHeld ?_
  · go_simp <;> rfl
  try simp only [Act.put, qT, q0, qS]
  refine qzI 1 ⟨some 77, .load 26 (.tmp 76), 26, _, #[⟨0, .data⟩], none⟩ (.pointer (some ⟨c.xb, 0, none⟩)) rfl (by kernel_rfl) (fun _ _ _ h => h) (by rfl) (fun w' hw' => ?_) hHeld ?_
  · have hcc := hw'.c1; go_simp <;> rfl
  try simp only [Act.put, qT, q0, qS]
  refine qzI 2 ⟨some 78, .fieldAddr 43 (.tmp 3) 1, 0, _, #[], none⟩ (.pointer (some ⟨X.heap.size + 1, 1, none⟩)) rfl (by kernel_rfl) (fun _ _ _ h => h) (by rfl) (fun w' hw' => ?_) hHeld ?_
  · go_simp <;> rfl
  try simp only [Act.put, qT, q0, qS]
  refine qzI 3 ⟨some 79, .load 3 (.tmp 78), 3, _, #[⟨2, .data⟩], none⟩ (.int .i64 a.rd) rfl (by kernel_rfl) (fun _ _ _ h => h) (by rfl) (fun w' hw' => ?_) hHeld ?_
  · have hcc := hw'.k1; go_simp <;> rfl
  try simp only [Act.put, qT, q0, qS]
  refine qzI 4 ⟨some 80, .fieldAddr 43 (.tmp 3) 7, 0, _, #[], none⟩ (.pointer (some ⟨X.heap.size + 1, 197, none⟩)) rfl (by kernel_rfl) (fun _ _ _ h => h) (by rfl) (fun w' hw' => ?_) hHeld ?_
  · go_simp <;> rfl
  try simp only [Act.put, qT, q0, qS]
  refine qzK 5 ⟨some 81, .load 41 (.tmp 80), 41, _, #[⟨4, .data⟩], none⟩ _ rfl (by kernel_rfl) (fun _ _ _ h => h) (yieldsIf_load_mid (by rfl) 41 (.tmp 80) rfl (X.heap.size + 1) (197) rfl (PC.rcL a.pc a.rs a.run) _ (fun _ h => h.rr HAO.out) Tryz.underlying41 rfl HRI.out) hHeld ?_
  try simp only [Act.put, qT, q0, qS]
  refine qzI 7 ⟨some 83, .fieldAddr 29 (.tmp 2) 2, 0, _, #[], none⟩ (.pointer (some ⟨X.heap.size, 2, none⟩)) rfl (by kernel_rfl) (fun _ _ _ h => h) (by rfl) (fun w' hw' => ?_) hHeld ?_
  · go_simp <;> rfl
  try simp only [Act.put, qT, q0, qS]
  refine qzI 8 ⟨some 84, .load 27 (.tmp 83), 27, _, #[⟨7, .data⟩], none⟩ (.pointer (some ⟨rb, 0, none⟩)) rfl (by kernel_rfl) (fun _ _ _ h => h) (by rfl) (fun w' hw' => ?_) hHeld ?_
  · have hcc := hw'.c2; go_simp <;> rfl
  try simp only [Act.put, qT, q0, qS]
  refine qzI 9 ⟨some 85, .fieldAddr 43 (.tmp 3) 1, 0, _, #[], none⟩ (.pointer (some ⟨X.heap.size + 1, 1, none⟩)) rfl (by kernel_rfl) (fun _ _ _ h => h) (by rfl) (fun w' hw' => ?_) hHeld ?_
  · go_simp <;> rfl
  try simp only [Act.put, qT, q0, qS]
  refine qzI 10 ⟨some 86, .load 3 (.tmp 85), 3, _, #[⟨9, .data⟩], none⟩ (.int .i64 a.rd) rfl (by kernel_rfl) (fun _ _ _ h => h) (by rfl) (fun w' hw' => ?_) hHeld ?_
  · have hcc := hw'.k1; go_simp <;> rfl
  try simp only [Act.put, qT, q0, qS]
  refine qzI 11 ⟨some 87, .fieldAddr 43 (.tmp 3) 7, 0, _, #[], none⟩ (.pointer (some ⟨X.heap.size + 1, 197, none⟩)) rfl (by kernel_rfl) (fun _ _ _ h => h) (by rfl) (fun w' hw' => ?_) hHeld ?_
  · go_simp <;> rfl
  try simp only [Act.put, qT, q0, qS]
  refine qzK 12 ⟨some 88, .load 41 (.tmp 87), 41, _, #[⟨11, .data⟩], none⟩ _ rfl (by kernel_rfl) (fun _ _ _ h => h) (yieldsIf_load_mid (by rfl) 41 (.tmp 87) rfl (X.heap.size + 1) (197) rfl (PC.rcL a.pc a.rs a.run) _ (fun _ h => h.rr HAO.out) Tryz.underlying41 rfl HRI.out) hHeld ?_
  try simp only [Act.put, qT, q0, qS]
  refine qzR 6 ⟨some 82, .call ⟨.value (.func 26), #[.tmp 77, .tmp 79, .tmp 81], #[26, 3, 41]⟩, 48, _, #[⟨1, .data⟩, ⟨3, .data⟩, ⟨5, .data⟩], none⟩ (by kernel_rfl) rfl (by rfl) (fun K hK => ?_)
  go_wp2_with fail
  refine Calls.mono HCO.out ?_
  rintro e W1 ⟨v, s', ⟨E, rfl⟩, rfl, hAT, hfr, href⟩
  have hfr1 : ∀ k, (C k ∨ (X.heap.size ≤ k ∧ k < X1.heap.size)) → W1.heap[k]? = X1.heap[k]? := fun k hk => (hfr k hk).trans (HD.out k hk)
  have HAT : Hid _ := hAT
  have HRF : Hid _ := href W1 (Below.refl _ _)
  clear hAT hfr href hHeld HCO
  have HF1 : Hid _ := hfr1
  have hHeld := HSB.out W1 hfr1
  clear hfr1
  refine hK.out _ _ hHeld (fun _ => ?_)
  clear hK K
  try simp only [Act.put, qT, q0, qS]
  refine qzR 13 ⟨some 89, .call ⟨.value (.func 35), #[.tmp 84, .tmp 86, .tmp 88], #[27, 3, 41]⟩, 3, _, #[⟨8, .data⟩, ⟨10, .data⟩, ⟨12, .data⟩, ⟨6, .chain⟩], none⟩ (by kernel_rfl) rfl (by rfl) (fun K hK => ?_)
  go_wp2_with fail
  refine Calls.mono HRF.out ?_
  rintro e W2 ⟨rfl, hJA, hfr2⟩
  have hfr3 : ∀ k, (C k ∨ (X.heap.size ≤ k ∧ k < X1.heap.size)) → W2.heap[k]? = X1.heap[k]? := fun k hk => (hfr2 k hk).trans (HF1.out k hk)
  have HEND : Hid (DoE c rb s 3 C X (.returned (.bool true)) W2) := ⟨rfl, s', HAT.out, hJA.sub (fun k hk => .inl hk), fun k hk => (hfr3 k (.inl hk)).trans (HFX.out k hk)⟩
  clear hJA hfr2 hHeld HRF HAT HF1
  have hHeld := HSB.out W2 hfr3
  clear hfr3
  refine hK.out _ _ hHeld (fun _ => ?_)
  clear hK K
  try simp only [Act.put, qT, q0, qS]
  refine qzI 14 ⟨some 90, .binOp .eql 3 (.tmp 82) (.tmp 89) 3, 4, _, #[⟨6, .data⟩, ⟨13, .data⟩], none⟩ (.bool true) rfl (by kernel_rfl) (fun _ _ _ h => h) (by rfl) (fun w' hw' => ?_) hHeld ?_
  · go_simp <;> rfl
  try simp only [Act.put, qT, q0, qS]
  refine qzI 15 ⟨some 4, .assign (.tmp 90), 4, _, #[⟨14, .data⟩, ⟨13, .chain⟩, ⟨0, .phase⟩, ⟨1, .phase⟩, ⟨2, .phase⟩, ⟨3, .phase⟩, ⟨4, .phase⟩, ⟨5, .phase⟩, ⟨6, .phase⟩, ⟨7, .phase⟩, ⟨8, .phase⟩, ⟨9, .phase⟩, ⟨10, .phase⟩, ⟨11, .phase⟩, ⟨12, .phase⟩, ⟨13, .phase⟩, ⟨14, .phase⟩], none⟩ (.bool true) rfl (by kernel_rfl) (fun _ _ _ h => h) (by rfl) (fun w' hw' => ?_) hHeld ?_
  · go_simp <;> rfl
  try simp only [Act.put, qT, q0, qS]
  refine wpAnyH_done (by kernel_rfl) ?_ _
  clear hHeld
  go_wp2
  go_ret
  exact HEND.out
theorem do_data2 (h : JA c rb s C X) (hB : Bd N s) (hN : N ≤ 1000) (ha : a.ok) (hk : a.kind = 2) :
    Calls Tryz.prog 10 #[.agg (prL c rb).toArray, .agg (acL a).toArray] X fun e Y => DoE c rb s a.kind C X e Y := by
  obtain ⟨X1, hX1⟩ : ∃ X1, X1 = (X.alloc (.cells (prL c rb).toArray 29 (0, 0))).alloc (.cells (acL a).toArray 43 (0, 0)) := ⟨_, rfl⟩
  have hb1 : Below X.heap.size X X1 := by rw [hX1]; exact ((Below.refl _ _).alloc (Nat.le_refl _) _).alloc (by simp) _
  have hs1 : X1.heap.size = X.heap.size + 1 + 1 := by rw [hX1]; simp
  have hsb : SB c rb X.heap.size (X.heap.size + 1) a X1 := ⟨by rw [hX1]; exact (heap_alloc_old _ _ (by simp)).trans (heap_alloc_new _ _), by rw [hX1]; exact R5.heap_at _ _ _ (by simp)⟩
  have HJ : Hid (JA c rb s (fun k => C k ∨ (X.heap.size ≤ k ∧ k < X1.heap.size)) X1) := h.new hb1
  have HFX : Hid (∀ k, C k → X1.heap[k]? = X.heap[k]?) := fun k hk => hb1.block k (h.lt hk)
  have HSB : Hid (∀ W, (∀ k, (C k ∨ (X.heap.size ≤ k ∧ k < X1.heap.size)) → W.heap[k]? = X1.heap[k]?) → SB c rb X.heap.size (X.heap.size + 1) a W) := fun W hW => hsb.keep (fun k hk => hW k (.inr (by omega)))
  have HAO : Hid a.ok := ha
  have HS1 : Hid (SB c rb X.heap.size (X.heap.size + 1) a X1) := hsb
  have HX1 : Hid _ := hX1
  have hk0 := hsb.k0
  have HTI : Hid _ := R5.info32 (a.tree.map B8) (by simpa using ha.t)
  have HGI : Hid _ := PC.info128 (a.g.map B8) (by simpa using ha.g)
  have HPI : Hid _ := PC.info33 (PC.rpL a.V a.nodes) (PC.rpL_len _ _ ha.V)
  have HRI : Hid _ := PC.info10 (PC.rcL a.pc a.rs a.run) (PC.rcL_len _ _ _ ha.rs)
  rw [hX1] at hk0
  clear h hb1 hs1 hsb hX1
  have HB : Hid (Bd N s) := hB
  have HN : Hid (N ≤ 1000) := hN
  have HRD : Hid (iOk a.rd) := ha.rd
  rw [hk] at hk0 ⊢
  clear hB hN ha
  go_enter Tryz.func10, Tryz.ntmps10
  go_upto_region 7 with fail
  rw [← HX1.out]
  clear hk0 HX1
  have hbD : Below X1.heap.size X1 X1.drew := (Below.refl _ _).drew
  obtain ⟨I, l, rl, av, tn, hjb⟩ := HJ.out.below hbD
  have HCO : Hid _ := (do_data (k := 2) hjb HB.out HN.out HRD.out a.page a.g HAO.out.g)
  clear hjb
  refine wp_region_held_drew (S := SB c rb X.heap.size (X.heap.size + 1) a) (by kernel_rfl) (HSB.out X1.drew (fun k _ => rfl)) (fun hHeld => ?_)
  have HD : Hid (∀ k, (C k ∨ (X.heap.size ≤ k ∧ k < X1.heap.size)) → X1.drew.heap[k]? = X1.heap[k]?) := fun k _ => rfl
  generalize X1.drew = U at *
  refine qzI 0 ⟨some 55, .fieldAddr 29 (.tmp 2) 1, 0, _, #[], none⟩ (.pointer (some ⟨X.heap.size, 1, none⟩)) rfl (by kernel_rfl) (fun _ _ _ h => h) (by rfl) (fun w' hw' => ?_) hHeld ?_
  · go_simp <;> rfl
  try simp only [Act.put, qT, q0, qS]
  refine qzI 1 ⟨some 56, .load 26 (.tmp 55), 26, _, #[⟨0, .data⟩], none⟩ (.pointer (some ⟨c.xb, 0, none⟩)) rfl (by kernel_rfl) (fun _ _ _ h => h) (by rfl) (fun w' hw' => ?_) hHeld ?_
  · have hcc := hw'.c1; go_simp <;> rfl
  try simp only [Act.put, qT, q0, qS]
  refine qzI 2 ⟨some 57, .fieldAddr 43 (.tmp 3) 1, 0, _, #[], none⟩ (.pointer (some ⟨X.heap.size + 1, 1, none⟩)) rfl (by kernel_rfl) (fun _ _ _ h => h) (by rfl) (fun w' hw' => ?_) hHeld ?_
  · go_simp <;> rfl
  try simp only [Act.put, qT, q0, qS]
  refine qzI 3 ⟨some 58, .load 3 (.tmp 57), 3, _, #[⟨2, .data⟩], none⟩ (.int .i64 a.rd) rfl (by kernel_rfl) (fun _ _ _ h => h) (by rfl) (fun w' hw' => ?_) hHeld ?_
  · have hcc := hw'.k1; go_simp <;> rfl
  try simp only [Act.put, qT, q0, qS]
  refine qzI 4 ⟨some 59, .fieldAddr 43 (.tmp 3) 3, 0, _, #[], none⟩ (.pointer (some ⟨X.heap.size + 1, 3, none⟩)) rfl (by kernel_rfl) (fun _ _ _ h => h) (by rfl) (fun w' hw' => ?_) hHeld ?_
  · go_simp <;> rfl
  try simp only [Act.put, qT, q0, qS]
  refine qzI 5 ⟨some 60, .load 3 (.tmp 59), 3, _, #[⟨4, .data⟩], none⟩ (.int .i64 a.page) rfl (by kernel_rfl) (fun _ _ _ h => h) (by rfl) (fun w' hw' => ?_) hHeld ?_
  · have hcc := hw'.k3; go_simp <;> rfl
  try simp only [Act.put, qT, q0, qS]
  refine qzI 6 ⟨some 61, .fieldAddr 43 (.tmp 3) 6, 0, _, #[], none⟩ (.pointer (some ⟨X.heap.size + 1, 69, none⟩)) rfl (by kernel_rfl) (fun _ _ _ h => h) (by rfl) (fun w' hw' => ?_) hHeld ?_
  · go_simp <;> rfl
  try simp only [Act.put, qT, q0, qS]
  refine qzK 7 ⟨some 62, .load 38 (.tmp 61), 38, _, #[⟨6, .data⟩], none⟩ _ rfl (by kernel_rfl) (fun _ _ _ h => h) (yieldsIf_load_mid (by rfl) 38 (.tmp 61) rfl (X.heap.size + 1) (69) rfl (a.g.map B8) _ (fun _ h => h.rg HAO.out) Tryz.underlying38 rfl HGI.out) hHeld ?_
  try simp only [Act.put, qT, q0, qS]
  refine qzI 9 ⟨some 64, .fieldAddr 29 (.tmp 2) 2, 0, _, #[], none⟩ (.pointer (some ⟨X.heap.size, 2, none⟩)) rfl (by kernel_rfl) (fun _ _ _ h => h) (by rfl) (fun w' hw' => ?_) hHeld ?_
  · go_simp <;> rfl
  try simp only [Act.put, qT, q0, qS]
  refine qzI 10 ⟨some 65, .load 27 (.tmp 64), 27, _, #[⟨9, .data⟩], none⟩ (.pointer (some ⟨rb, 0, none⟩)) rfl (by kernel_rfl) (fun _ _ _ h => h) (by rfl) (fun w' hw' => ?_) hHeld ?_
  · have hcc := hw'.c2; go_simp <;> rfl
  try simp only [Act.put, qT, q0, qS]
  refine qzI 11 ⟨some 66, .fieldAddr 43 (.tmp 3) 1, 0, _, #[], none⟩ (.pointer (some ⟨X.heap.size + 1, 1, none⟩)) rfl (by kernel_rfl) (fun _ _ _ h => h) (by rfl) (fun w' hw' => ?_) hHeld ?_
  · go_simp <;> rfl
  try simp only [Act.put, qT, q0, qS]
  refine qzI 12 ⟨some 67, .load 3 (.tmp 66), 3, _, #[⟨11, .data⟩], none⟩ (.int .i64 a.rd) rfl (by kernel_rfl) (fun _ _ _ h => h) (by rfl) (fun w' hw' => ?_) hHeld ?_
  · have hcc := hw'.k1; go_simp <;> rfl
  try simp only [Act.put, qT, q0, qS]
  refine qzI 13 ⟨some 68, .fieldAddr 43 (.tmp 3) 3, 0, _, #[], none⟩ (.pointer (some ⟨X.heap.size + 1, 3, none⟩)) rfl (by kernel_rfl) (fun _ _ _ h => h) (by rfl) (fun w' hw' => ?_) hHeld ?_
  · go_simp <;> rfl
  try simp only [Act.put, qT, q0, qS]
  refine qzI 14 ⟨some 69, .load 3 (.tmp 68), 3, _, #[⟨13, .data⟩], none⟩ (.int .i64 a.page) rfl (by kernel_rfl) (fun _ _ _ h => h) (by rfl) (fun w' hw' => ?_) hHeld ?_
  · have hcc := hw'.k3; go_simp <;> rfl
  try simp only [Act.put, qT, q0, qS]
  refine qzI 15 ⟨some 70, .fieldAddr 43 (.tmp 3) 6, 0, _, #[], none⟩ (.pointer (some ⟨X.heap.size + 1, 69, none⟩)) rfl (by kernel_rfl) (fun _ _ _ h => h) (by rfl) (fun w' hw' => ?_) hHeld ?_
  · go_simp <;> rfl
  try simp only [Act.put, qT, q0, qS]
  refine qzK 16 ⟨some 71, .load 38 (.tmp 70), 38, _, #[⟨15, .data⟩], none⟩ _ rfl (by kernel_rfl) (fun _ _ _ h => h) (yieldsIf_load_mid (by rfl) 38 (.tmp 70) rfl (X.heap.size + 1) (69) rfl (a.g.map B8) _ (fun _ h => h.rg HAO.out) Tryz.underlying38 rfl HGI.out) hHeld ?_
  try simp only [Act.put, qT, q0, qS]
  refine qzR 8 ⟨some 63, .call ⟨.value (.func 25), #[.tmp 56, .tmp 58, .tmp 60, .tmp 62], #[26, 3, 3, 38]⟩, 48, _, #[⟨1, .data⟩, ⟨3, .data⟩, ⟨5, .data⟩, ⟨7, .data⟩], none⟩ (by kernel_rfl) rfl (by rfl) (fun K hK => ?_)
  go_wp2_with fail
  refine Calls.mono HCO.out ?_
  rintro e W1 ⟨v, s', ⟨E, rfl⟩, rfl, hAT, hfr, href⟩
  have hfr1 : ∀ k, (C k ∨ (X.heap.size ≤ k ∧ k < X1.heap.size)) → W1.heap[k]? = X1.heap[k]? := fun k hk => (hfr k hk).trans (HD.out k hk)
  have HAT : Hid _ := hAT
  have HRF : Hid _ := href W1 (Below.refl _ _)
  clear hAT hfr href hHeld HCO
  have HF1 : Hid _ := hfr1
  have hHeld := HSB.out W1 hfr1
  clear hfr1
  refine hK.out _ _ hHeld (fun _ => ?_)
  clear hK K
  try simp only [Act.put, qT, q0, qS]
  refine qzR 17 ⟨some 72, .call ⟨.value (.func 34), #[.tmp 65, .tmp 67, .tmp 69, .tmp 71], #[27, 3, 3, 38]⟩, 3, _, #[⟨10, .data⟩, ⟨12, .data⟩, ⟨14, .data⟩, ⟨16, .data⟩, ⟨8, .chain⟩], none⟩ (by kernel_rfl) rfl (by rfl) (fun K hK => ?_)
  go_wp2_with fail
  refine Calls.mono HRF.out ?_
  rintro e W2 ⟨rfl, hJA, hfr2⟩
  have hfr3 : ∀ k, (C k ∨ (X.heap.size ≤ k ∧ k < X1.heap.size)) → W2.heap[k]? = X1.heap[k]? := fun k hk => (hfr2 k hk).trans (HF1.out k hk)
  have HEND : Hid (DoE c rb s 2 C X (.returned (.bool true)) W2) := ⟨rfl, s', HAT.out, hJA.sub (fun k hk => .inl hk), fun k hk => (hfr3 k (.inl hk)).trans (HFX.out k hk)⟩
  clear hJA hfr2 hHeld HRF HAT HF1
  have hHeld := HSB.out W2 hfr3
  clear hfr3
  refine hK.out _ _ hHeld (fun _ => ?_)
  clear hK K
  try simp only [Act.put, qT, q0, qS]
  refine qzI 18 ⟨some 73, .binOp .eql 3 (.tmp 63) (.tmp 72) 3, 4, _, #[⟨8, .data⟩, ⟨17, .data⟩], none⟩ (.bool true) rfl (by kernel_rfl) (fun _ _ _ h => h) (by rfl) (fun w' hw' => ?_) hHeld ?_
  · go_simp <;> rfl
  try simp only [Act.put, qT, q0, qS]
  refine qzI 19 ⟨some 4, .assign (.tmp 73), 4, _, #[⟨18, .data⟩, ⟨17, .chain⟩, ⟨0, .phase⟩, ⟨1, .phase⟩, ⟨2, .phase⟩, ⟨3, .phase⟩, ⟨4, .phase⟩, ⟨5, .phase⟩, ⟨6, .phase⟩, ⟨7, .phase⟩, ⟨8, .phase⟩, ⟨9, .phase⟩, ⟨10, .phase⟩, ⟨11, .phase⟩, ⟨12, .phase⟩, ⟨13, .phase⟩, ⟨14, .phase⟩, ⟨15, .phase⟩, ⟨16, .phase⟩, ⟨17, .phase⟩, ⟨18, .phase⟩], none⟩ (.bool true) rfl (by kernel_rfl) (fun _ _ _ h => h) (by rfl) (fun w' hw' => ?_) hHeld ?_
  · go_simp <;> rfl
  try simp only [Act.put, qT, q0, qS]
  refine wpAnyH_done (by kernel_rfl) ?_ _
  clear hHeld
  go_wp2
  go_ret
  exact HEND.out
theorem do_nxt7 (h : JA c rb s C X) (hB : Bd N s) (hN : N ≤ 1000) (ha : a.ok) (hk : a.kind = 7) :
    Calls Tryz.prog 10 #[.agg (prL c rb).toArray, .agg (acL a).toArray] X fun e Y => DoE c rb s a.kind C X e Y := by
  obtain ⟨X1, hX1⟩ : ∃ X1, X1 = (X.alloc (.cells (prL c rb).toArray 29 (0, 0))).alloc (.cells (acL a).toArray 43 (0, 0)) := ⟨_, rfl⟩
  have hb1 : Below X.heap.size X X1 := by rw [hX1]; exact ((Below.refl _ _).alloc (Nat.le_refl _) _).alloc (by simp) _
  have hs1 : X1.heap.size = X.heap.size + 1 + 1 := by rw [hX1]; simp
  have hsb : SB c rb X.heap.size (X.heap.size + 1) a X1 := ⟨by rw [hX1]; exact (heap_alloc_old _ _ (by simp)).trans (heap_alloc_new _ _), by rw [hX1]; exact R5.heap_at _ _ _ (by simp)⟩
  have HJ : Hid (JA c rb s (fun k => C k ∨ (X.heap.size ≤ k ∧ k < X1.heap.size)) X1) := h.new hb1
  have HFX : Hid (∀ k, C k → X1.heap[k]? = X.heap[k]?) := fun k hk => hb1.block k (h.lt hk)
  have HSB : Hid (∀ W, (∀ k, (C k ∨ (X.heap.size ≤ k ∧ k < X1.heap.size)) → W.heap[k]? = X1.heap[k]?) → SB c rb X.heap.size (X.heap.size + 1) a W) := fun W hW => hsb.keep (fun k hk => hW k (.inr (by omega)))
  have HAO : Hid a.ok := ha
  have HS1 : Hid (SB c rb X.heap.size (X.heap.size + 1) a X1) := hsb
  have HX1 : Hid _ := hX1
  have hk0 := hsb.k0
  have HTI : Hid _ := R5.info32 (a.tree.map B8) (by simpa using ha.t)
  have HGI : Hid _ := PC.info128 (a.g.map B8) (by simpa using ha.g)
  have HPI : Hid _ := PC.info33 (PC.rpL a.V a.nodes) (PC.rpL_len _ _ ha.V)
  have HRI : Hid _ := PC.info10 (PC.rcL a.pc a.rs a.run) (PC.rcL_len _ _ _ ha.rs)
  rw [hX1] at hk0
  clear h hb1 hs1 hsb hX1
  have HB : Hid (Bd N s) := hB
  have HN : Hid (N ≤ 1000) := hN
  have HRD : Hid (iOk a.rd) := ha.rd
  rw [hk] at hk0 ⊢
  clear hB hN ha
  go_enter Tryz.func10, Tryz.ntmps10
  go_upto_region 17 with fail
  rw [← HX1.out]
  clear hk0 HX1
  obtain ⟨I, l, rl, av, tn, hjb⟩ := HJ.out
  have HCO : Hid _ := do_nxt hjb HB.out HN.out HRD.out
  clear hjb
  have hc1 := HS1.out.c1
  have hk1 := HS1.out.k1
  go_wp2_with fail
  refine Calls.mono HCO.out ?_
  rintro e W1 ⟨v, s', ⟨n, E, rfl⟩, rfl, hAT, hfr, href⟩
  have HF1 : Hid _ := hfr
  have HAT : Hid _ := hAT
  have HRF : Hid _ := href
  have hb1 := HSB.out W1 hfr
  have hc2 := hb1.c2
  have hk2 := hb1.k1
  clear hfr hAT href hb1 HCO hc1 hk1
  go_wp2_with fail
  refine Calls.mono (HRF.out W1 (Below.refl _ _)) ?_
  rintro e W2 ⟨rfl, hJA, hfr2⟩
  have HEND : Hid (DoE c rb s 7 C X (.returned (.bool true)) W2) := ⟨rfl, s', HAT.out, hJA.sub (fun k hk => .inl hk), fun k hk => ((hfr2 k (.inl hk)).trans (HF1.out k (.inl hk))).trans (HFX.out k hk)⟩
  clear hJA hfr2 hc2 hk2 HRF
  go_wp2
  go_ret
  exact HEND.out
theorem do_other (h : JA c rb s C X) (ha : a.ok) (hk : ¬ (1 ≤ a.kind ∧ a.kind ≤ 9)) :
    Calls Tryz.prog 10 #[.agg (prL c rb).toArray, .agg (acL a).toArray] X fun e Y => DoE c rb s a.kind C X e Y := by
  obtain ⟨X1, hX1⟩ : ∃ X1, X1 = (X.alloc (.cells (prL c rb).toArray 29 (0, 0))).alloc (.cells (acL a).toArray 43 (0, 0)) := ⟨_, rfl⟩
  have hb1 : Below X.heap.size X X1 := by rw [hX1]; exact ((Below.refl _ _).alloc (Nat.le_refl _) _).alloc (by simp) _
  have hs1 : X1.heap.size = X.heap.size + 1 + 1 := by rw [hX1]; simp
  have hsb : SB c rb X.heap.size (X.heap.size + 1) a X1 := ⟨by rw [hX1]; exact (heap_alloc_old _ _ (by simp)).trans (heap_alloc_new _ _), by rw [hX1]; exact R5.heap_at _ _ _ (by simp)⟩
  have HJ : Hid (JA c rb s (fun k => C k ∨ (X.heap.size ≤ k ∧ k < X1.heap.size)) X1) := h.new hb1
  have HFX : Hid (∀ k, C k → X1.heap[k]? = X.heap[k]?) := fun k hk => hb1.block k (h.lt hk)
  have HSB : Hid (∀ W, (∀ k, (C k ∨ (X.heap.size ≤ k ∧ k < X1.heap.size)) → W.heap[k]? = X1.heap[k]?) → SB c rb X.heap.size (X.heap.size + 1) a W) := fun W hW => hsb.keep (fun k hk => hW k (.inr (by omega)))
  have HAO : Hid a.ok := ha
  have HS1 : Hid (SB c rb X.heap.size (X.heap.size + 1) a X1) := hsb
  have HX1 : Hid _ := hX1
  have hk0 := hsb.k0
  have HTI : Hid _ := R5.info32 (a.tree.map B8) (by simpa using ha.t)
  have HGI : Hid _ := PC.info128 (a.g.map B8) (by simpa using ha.g)
  have HPI : Hid _ := PC.info33 (PC.rpL a.V a.nodes) (PC.rpL_len _ _ ha.V)
  have HRI : Hid _ := PC.info10 (PC.rcL a.pc a.rs a.run) (PC.rcL_len _ _ _ ha.rs)
  rw [hX1] at hk0
  clear h hb1 hs1 hsb hX1
  have HEND : Hid (DoE c rb s a.kind C X (.returned (.bool true)) X1) := ⟨rfl, s, AT.same _, HJ.out.sub (fun k hk => .inl hk), HFX.out⟩
  obtain ⟨K, hK⟩ : ∃ K, K = a.kind := ⟨_, rfl⟩
  rw [← hK] at hk0 hk HEND ⊢
  clear hK ha
  have e1 : (K == 1) = false := by rw [beq_eq_false_iff_ne]; omega
  have e2 : (K == 2) = false := by rw [beq_eq_false_iff_ne]; omega
  have e3 : (K == 3) = false := by rw [beq_eq_false_iff_ne]; omega
  have e4 : (K == 4) = false := by rw [beq_eq_false_iff_ne]; omega
  have e5 : (K == 5) = false := by rw [beq_eq_false_iff_ne]; omega
  have e6 : (K == 6) = false := by rw [beq_eq_false_iff_ne]; omega
  have e7 : (K == 7) = false := by rw [beq_eq_false_iff_ne]; omega
  have e8 : (K == 8) = false := by rw [beq_eq_false_iff_ne]; omega
  have e9 : (K == 9) = false := by rw [beq_eq_false_iff_ne]; omega
  clear hk
  go_enter Tryz.func10, Tryz.ntmps10
  go_wp2
  go_ret
  rw [← HX1.out]
  exact HEND.out
end
end Go.Proofs.YtekbppfocnbhbaaGreat.XC
