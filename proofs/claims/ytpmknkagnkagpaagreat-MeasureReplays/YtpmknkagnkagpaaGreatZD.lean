/- measure: May of any record; noOracle; MayAll. -/
import Derived.Test.YtpmknkagnkagpaaGreatZB
set_option linter.unusedVariables false
set_option linter.unusedSimpArgs false
namespace Go.Proofs.YtpmknkagnkagpaaGreat.ZC
open Go.RowKit

set_option maxHeartbeats 1000000 in
set_option maxRecDepth 100000 in
theorem may_3f (r : Rd) (w : World) (h : r.ok) (hk : r.kind = 3) (hb : rdEq r (rec3 r.pc r.rs r.run) = false) : Calls Tryz.prog 8 #[.agg (rdL r).toArray] w fun e w' => e = .returned (.bool false) ∧ Below w.heap.size w w' := by
  have hk1 : (r.kind == 1) = false := by simp [hk]
  have hk2 : (r.kind == 2) = false := by simp [hk]
  have hk3 : (r.kind == 3) = true := by simp [hk]
  have HC : Hid (∀ W, Calls Tryz.prog 28 #[.agg (PC.rcL r.pc r.rs r.run).toArray] W fun e w' => e = .returned (.agg (rdL (rec3 r.pc r.rs r.run)).toArray) ∧ Below W.heap.size W w') := fun W => ofRec_any r.pc r.rs r.run W h.s h.p h.x
  have HM : Hid (∀ W, Calls Tryz.prog 29 #[.agg (PC.rcL r.pc r.rs r.run).toArray] W fun e w' => e = .returned (.bool (PC.mayC r.pc)) ∧ Below W.heap.size W w') := fun W => PC.pmayC_any r.pc r.rs r.run W
  have HE : Hid (∀ W, (binOp .eql 33 (.agg (rdL r).toArray) (.agg (rdL (rec3 r.pc r.rs r.run)).toArray)).run Tryz.prog W = .ok (.bool false) W) := fun W => by rw [← hb]; exact eql_rd W r _ h (rec3_ok r.run h.s h.p h.x)
  have HRI : Hid _ := info172 (rdL r) (rdL_len h)
  have hc0 : ((w.alloc (.cells (rdL r).toArray 33 (0, 0)))).cell? ⟨w.heap.size, 0, none⟩ = some (.int .i64 r.kind) := by have := PC.rangeAt_row (heap_alloc_new w (.cells (rdL r).toArray 33 (0, 0))) 0 _ (rdL_0 r); rwa [Nat.zero_add] at this
  have HREC : Hid (((rdL r).drop 162).take 10 = PC.rcL r.pc r.rs r.run) := rdL_rec h
  have HSB : Hid (SB w (rdL r) (w.alloc (.cells (rdL r).toArray 33 (0, 0))).drew) := ⟨((Below.refl _ _).alloc (Nat.le_refl _) _).drew, heap_alloc_new _ _⟩
  have HR10 : Hid _ := PC.info10 (PC.rcL r.pc r.rs r.run) (PC.rcL_len _ _ _ h.s)
  generalize rdL r = RL at *
  generalize rdL (rec3 r.pc r.rs r.run) = QL at *
  generalize PC.rcL r.pc r.rs r.run = CL at *
  clear h hk hb
  go_enter Tryz.func8, Tryz.ntmps8
  go_wp2
  refine wp_region_held_drew (S := SB w RL) (by kernel_rfl) HSB.out (fun hHeld => ?_)
  generalize (w.alloc (.cells RL.toArray 33 (0, 0))).drew = X at *
  refine wpAnyH_take (i := 0) (oi := ⟨some 33, .load 33 (.tmp 1), 33, _, #[], none⟩) rfl (by kernel_rfl) (by kernel_rfl) (by kernel_rfl) (fun _ _ _ h => h) (yieldsIf_load_mid (by rfl) 33 (.tmp 1) rfl (w.heap.size) (0) rfl (RL) _ (fun _ h => PC.rangeAt_row h.r) Tryz.underlying33 rfl HRI.out) hHeld ?_
  try simp only [Act.put, qT, q0, qS]
  refine wpAnyH_take (i := 1) (oi := ⟨some 34, .fieldAddr 33 (.tmp 1) 4, 0, _, #[], none⟩) (v := .pointer (some ⟨w.heap.size, 162, none⟩)) rfl (by kernel_rfl) (by kernel_rfl) (by kernel_rfl) (fun _ _ _ h => h) (Or.inl ⟨by rfl, fun w' hw' => ?_⟩) hHeld ?_
  · first | (go_simp; done) | (go_simp; rfl)
  try simp only [Act.put, qT, q0, qS]
  refine wpAnyH_take (i := 2) (oi := ⟨some 35, .load 31 (.tmp 34), 31, _, #[⟨1, .data⟩], none⟩) rfl (by kernel_rfl) (by kernel_rfl) (by kernel_rfl) (fun _ _ _ h => h) (yieldsIf_load_mid (by rfl) 31 (.tmp 34) rfl (w.heap.size) (162) rfl (CL) _ (fun _ h => (by have h3 := PC.rangeAt_part (PC.rangeAt_row h.r) 162 10; rw [HREC.out] at h3; exact h3)) Tryz.underlying31 rfl HR10.out) hHeld ?_
  try simp only [Act.put, qT, q0, qS]
  refine wpAnyH_ready (rs := [3]) (by kernel_rfl) (by simp) ?_
  refine AllReadyH.cons (o := { dst := some 36, op := .call { callee := Go.Callee.value (.func 28), args := #[.tmp 35], argTypes := #[31] }, type := 33, pos := _, after := #[⟨2, .data⟩], guard := none }) rfl (fun K hK => ?_) AllReadyH.nil
  rw [if_pos (by rfl)]
  go_wp2_with fail
  refine Calls.mono (HC.out _) ?_
  rintro e Y ⟨rfl, hbY⟩
  have hS := hHeld.step hbY
  clear hHeld hbY
  refine hK.out _ _ hS (fun _ => ?_)
  clear hK K
  try simp only [Act.put, qT, q0, qS]
  have hHeld := hS
  have he := HE.out
  refine wpAnyH_take (i := 4) (oi := ⟨some 37, .binOp .eql 33 (.tmp 33) (.tmp 36) 33, 4, _, #[⟨0, .data⟩, ⟨3, .data⟩], none⟩) (v := .bool false) rfl (by kernel_rfl) (by kernel_rfl) (by kernel_rfl) (fun _ _ _ h => h) (Or.inl ⟨by rfl, fun w' hw' => ?_⟩) hHeld ?_
  · first | (go_simp; done) | (go_simp; rfl)
  try simp only [Act.put, qT, q0, qS]
  refine wpAnyH_take (i := 5) (oi := ⟨some 38, .move (.tmp 37), 4, _, #[⟨4, .data⟩, ⟨3, .chain⟩], none⟩) (v := .bool false) rfl (by kernel_rfl) (by kernel_rfl) (by kernel_rfl) (fun _ _ _ h => h) (Or.inl ⟨by rfl, fun w' hw' => ?_⟩) hHeld ?_
  · first | (go_simp; done) | (go_simp; rfl)
  try simp only [Act.put, qT, q0, qS]
  refine wpAnyH_take (i := 6) (oi := ⟨some 39, .fieldAddr 33 (.tmp 1) 4, 0, _, #[⟨5, .guard⟩], some (5, true)⟩) (v := undef) rfl (by kernel_rfl) (by kernel_rfl) (by kernel_rfl) (fun _ _ _ h => h) (Or.inr ⟨by rfl, rfl⟩) hHeld ?_
  try simp only [Act.put, qT, q0, qS]
  refine wpAnyH_take (i := 7) (oi := ⟨some 40, .load 31 (.tmp 39), 31, _, #[⟨6, .data⟩, ⟨5, .guard⟩], some (5, true)⟩) (v := undef) rfl (by kernel_rfl) (by kernel_rfl) (by kernel_rfl) (fun _ _ _ h => h) (Or.inr ⟨by rfl, rfl⟩) hHeld ?_
  try simp only [Act.put, qT, q0, qS]
  refine wpAnyH_take (i := 8) (oi := { dst := some 41, op := .call { callee := Go.Callee.value (.func 29), args := #[.tmp 40], argTypes := #[31] }, type := 4, pos := _, after := #[⟨7, .data⟩, ⟨5, .chain⟩, ⟨5, .guard⟩], guard := some (5, true) }) (v := undef) rfl (by kernel_rfl) (by kernel_rfl) (by kernel_rfl) (fun _ _ _ h => h) (Or.inr ⟨by rfl, rfl⟩) hHeld ?_
  try simp only [Act.put, qT, q0, qS]
  refine wpAnyH_take (i := 9) (oi := ⟨some 42, .pick (.tmp 38) (.tmp 41) (.const (Go.Value.bool false)), 4, _, #[⟨5, .data⟩, ⟨8, .data⟩], none⟩) (v := .bool false) rfl (by kernel_rfl) (by kernel_rfl) (by kernel_rfl) (fun _ _ _ h => h) (Or.inl ⟨by rfl, fun w' hw' => ?_⟩) hHeld ?_
  · first | (go_simp; done) | (go_simp; rfl)
  try simp only [Act.put, qT, q0, qS]
  refine wpAnyH_take (i := 10) (oi := ⟨some 2, .assign (.tmp 42), 4, _, #[⟨9, .data⟩, ⟨8, .chain⟩, ⟨0, .phase⟩, ⟨1, .phase⟩, ⟨2, .phase⟩, ⟨3, .phase⟩, ⟨4, .phase⟩, ⟨5, .phase⟩, ⟨6, .phase⟩, ⟨7, .phase⟩, ⟨8, .phase⟩, ⟨9, .phase⟩], none⟩) (v := .bool false) rfl (by kernel_rfl) (by kernel_rfl) (by kernel_rfl) (fun _ _ _ h => h) (Or.inl ⟨by rfl, fun w' hw' => ?_⟩) hHeld ?_
  · first | (go_simp; done) | (go_simp; rfl)
  try simp only [Act.put, qT, q0, qS]
  refine wpAnyH_done (by kernel_rfl) ?_ _
  have HB : Hid _ := hS.b
  clear hS hHeld he
  go_wp2
  go_ret
  exact ⟨rfl, HB.out⟩
set_option maxHeartbeats 1000000 in
set_option maxRecDepth 100000 in
theorem may_3t (r : Rd) (w : World) (h : r.ok) (hk : r.kind = 3) (hb : rdEq r (rec3 r.pc r.rs r.run) = true) : Calls Tryz.prog 8 #[.agg (rdL r).toArray] w fun e w' => e = .returned (.bool (PC.mayC r.pc)) ∧ Below w.heap.size w w' := by
  obtain ⟨c, hc⟩ : ∃ c, c = PC.mayC r.pc := ⟨_, rfl⟩
  rw [← hc]
  have hk1 : (r.kind == 1) = false := by simp [hk]
  have hk2 : (r.kind == 2) = false := by simp [hk]
  have hk3 : (r.kind == 3) = true := by simp [hk]
  have HC : Hid (∀ W, Calls Tryz.prog 28 #[.agg (PC.rcL r.pc r.rs r.run).toArray] W fun e w' => e = .returned (.agg (rdL (rec3 r.pc r.rs r.run)).toArray) ∧ Below W.heap.size W w') := fun W => ofRec_any r.pc r.rs r.run W h.s h.p h.x
  have HM : Hid (∀ W, Calls Tryz.prog 29 #[.agg (PC.rcL r.pc r.rs r.run).toArray] W fun e w' => e = .returned (.bool (PC.mayC r.pc)) ∧ Below W.heap.size W w') := fun W => PC.pmayC_any r.pc r.rs r.run W
  have HE : Hid (∀ W, (binOp .eql 33 (.agg (rdL r).toArray) (.agg (rdL (rec3 r.pc r.rs r.run)).toArray)).run Tryz.prog W = .ok (.bool true) W) := fun W => by rw [← hb]; exact eql_rd W r _ h (rec3_ok r.run h.s h.p h.x)
  have HRI : Hid _ := info172 (rdL r) (rdL_len h)
  have hc0 : ((w.alloc (.cells (rdL r).toArray 33 (0, 0)))).cell? ⟨w.heap.size, 0, none⟩ = some (.int .i64 r.kind) := by have := PC.rangeAt_row (heap_alloc_new w (.cells (rdL r).toArray 33 (0, 0))) 0 _ (rdL_0 r); rwa [Nat.zero_add] at this
  have HREC : Hid (((rdL r).drop 162).take 10 = PC.rcL r.pc r.rs r.run) := rdL_rec h
  have HSB : Hid (SB w (rdL r) (w.alloc (.cells (rdL r).toArray 33 (0, 0))).drew) := ⟨((Below.refl _ _).alloc (Nat.le_refl _) _).drew, heap_alloc_new _ _⟩
  have HR10 : Hid _ := PC.info10 (PC.rcL r.pc r.rs r.run) (PC.rcL_len _ _ _ h.s)
  generalize rdL r = RL at *
  generalize rdL (rec3 r.pc r.rs r.run) = QL at *
  generalize PC.rcL r.pc r.rs r.run = CL at *
  clear h hk hb
  go_enter Tryz.func8, Tryz.ntmps8
  go_wp2
  refine wp_region_held_drew (S := SB w RL) (by kernel_rfl) HSB.out (fun hHeld => ?_)
  generalize (w.alloc (.cells RL.toArray 33 (0, 0))).drew = X at *
  refine wpAnyH_take (i := 0) (oi := ⟨some 33, .load 33 (.tmp 1), 33, _, #[], none⟩) rfl (by kernel_rfl) (by kernel_rfl) (by kernel_rfl) (fun _ _ _ h => h) (yieldsIf_load_mid (by rfl) 33 (.tmp 1) rfl (w.heap.size) (0) rfl (RL) _ (fun _ h => PC.rangeAt_row h.r) Tryz.underlying33 rfl HRI.out) hHeld ?_
  try simp only [Act.put, qT, q0, qS]
  refine wpAnyH_take (i := 1) (oi := ⟨some 34, .fieldAddr 33 (.tmp 1) 4, 0, _, #[], none⟩) (v := .pointer (some ⟨w.heap.size, 162, none⟩)) rfl (by kernel_rfl) (by kernel_rfl) (by kernel_rfl) (fun _ _ _ h => h) (Or.inl ⟨by rfl, fun w' hw' => ?_⟩) hHeld ?_
  · first | (go_simp; done) | (go_simp; rfl)
  try simp only [Act.put, qT, q0, qS]
  refine wpAnyH_take (i := 2) (oi := ⟨some 35, .load 31 (.tmp 34), 31, _, #[⟨1, .data⟩], none⟩) rfl (by kernel_rfl) (by kernel_rfl) (by kernel_rfl) (fun _ _ _ h => h) (yieldsIf_load_mid (by rfl) 31 (.tmp 34) rfl (w.heap.size) (162) rfl (CL) _ (fun _ h => (by have h3 := PC.rangeAt_part (PC.rangeAt_row h.r) 162 10; rw [HREC.out] at h3; exact h3)) Tryz.underlying31 rfl HR10.out) hHeld ?_
  try simp only [Act.put, qT, q0, qS]
  refine wpAnyH_ready (rs := [3]) (by kernel_rfl) (by simp) ?_
  refine AllReadyH.cons (o := { dst := some 36, op := .call { callee := Go.Callee.value (.func 28), args := #[.tmp 35], argTypes := #[31] }, type := 33, pos := _, after := #[⟨2, .data⟩], guard := none }) rfl (fun K hK => ?_) AllReadyH.nil
  rw [if_pos (by rfl)]
  go_wp2_with fail
  refine Calls.mono (HC.out _) ?_
  rintro e Y ⟨rfl, hbY⟩
  have hS := hHeld.step hbY
  clear hHeld hbY
  refine hK.out _ _ hS (fun _ => ?_)
  clear hK K
  try simp only [Act.put, qT, q0, qS]
  have hHeld := hS
  have he := HE.out
  refine wpAnyH_take (i := 4) (oi := ⟨some 37, .binOp .eql 33 (.tmp 33) (.tmp 36) 33, 4, _, #[⟨0, .data⟩, ⟨3, .data⟩], none⟩) (v := .bool true) rfl (by kernel_rfl) (by kernel_rfl) (by kernel_rfl) (fun _ _ _ h => h) (Or.inl ⟨by rfl, fun w' hw' => ?_⟩) hHeld ?_
  · first | (go_simp; done) | (go_simp; rfl)
  try simp only [Act.put, qT, q0, qS]
  refine wpAnyH_take (i := 5) (oi := ⟨some 38, .move (.tmp 37), 4, _, #[⟨4, .data⟩, ⟨3, .chain⟩], none⟩) (v := .bool true) rfl (by kernel_rfl) (by kernel_rfl) (by kernel_rfl) (fun _ _ _ h => h) (Or.inl ⟨by rfl, fun w' hw' => ?_⟩) hHeld ?_
  · first | (go_simp; done) | (go_simp; rfl)
  try simp only [Act.put, qT, q0, qS]
  refine wpAnyH_take (i := 6) (oi := ⟨some 39, .fieldAddr 33 (.tmp 1) 4, 0, _, #[⟨5, .guard⟩], some (5, true)⟩) (v := .pointer (some ⟨w.heap.size, 162, none⟩)) rfl (by kernel_rfl) (by kernel_rfl) (by kernel_rfl) (fun _ _ _ h => h) (Or.inl ⟨by rfl, fun w' hw' => ?_⟩) hHeld ?_
  · first | (go_simp; done) | (go_simp; rfl)
  try simp only [Act.put, qT, q0, qS]
  refine wpAnyH_take (i := 7) (oi := ⟨some 40, .load 31 (.tmp 39), 31, _, #[⟨6, .data⟩, ⟨5, .guard⟩], some (5, true)⟩) rfl (by kernel_rfl) (by kernel_rfl) (by kernel_rfl) (fun _ _ _ h => h) (yieldsIf_load_mid (by rfl) 31 (.tmp 39) rfl (w.heap.size) (162) rfl (CL) _ (fun _ h => (by have h3 := PC.rangeAt_part (PC.rangeAt_row h.r) 162 10; rw [HREC.out] at h3; exact h3)) Tryz.underlying31 rfl HR10.out) hHeld ?_
  try simp only [Act.put, qT, q0, qS]
  refine wpAnyH_ready (rs := [8]) (by kernel_rfl) (by simp) ?_
  refine AllReadyH.cons (o := { dst := some 41, op := .call { callee := Go.Callee.value (.func 29), args := #[.tmp 40], argTypes := #[31] }, type := 4, pos := _, after := #[⟨7, .data⟩, ⟨5, .chain⟩, ⟨5, .guard⟩], guard := some (5, true) }) rfl (fun K hK => ?_) AllReadyH.nil
  rw [if_pos (by rfl)]
  go_wp2_with fail
  refine Calls.mono (HM.out _) ?_
  rintro e Z ⟨rfl, hbZ⟩
  rw [← hc]
  have hS2 := hS.step hbZ
  clear hHeld hbZ hS hc
  have hS := hS2
  clear hS2
  refine hK.out _ _ hS (fun _ => ?_)
  clear hK K
  try simp only [Act.put, qT, q0, qS]
  have hHeld := hS
  refine wpAnyH_take (i := 9) (oi := ⟨some 42, .pick (.tmp 38) (.tmp 41) (.const (Go.Value.bool false)), 4, _, #[⟨5, .data⟩, ⟨8, .data⟩], none⟩) (v := .bool c) rfl (by kernel_rfl) (by kernel_rfl) (by kernel_rfl) (fun _ _ _ h => h) (Or.inl ⟨by rfl, fun w' hw' => ?_⟩) hHeld ?_
  · first | (go_simp; done) | (go_simp; rfl)
  try simp only [Act.put, qT, q0, qS]
  refine wpAnyH_take (i := 10) (oi := ⟨some 2, .assign (.tmp 42), 4, _, #[⟨9, .data⟩, ⟨8, .chain⟩, ⟨0, .phase⟩, ⟨1, .phase⟩, ⟨2, .phase⟩, ⟨3, .phase⟩, ⟨4, .phase⟩, ⟨5, .phase⟩, ⟨6, .phase⟩, ⟨7, .phase⟩, ⟨8, .phase⟩, ⟨9, .phase⟩], none⟩) (v := .bool c) rfl (by kernel_rfl) (by kernel_rfl) (by kernel_rfl) (fun _ _ _ h => h) (Or.inl ⟨by rfl, fun w' hw' => ?_⟩) hHeld ?_
  · first | (go_simp; done) | (go_simp; rfl)
  try simp only [Act.put, qT, q0, qS]
  refine wpAnyH_done (by kernel_rfl) ?_ _
  have HB : Hid _ := hS.b
  clear hS hHeld he
  go_wp2
  go_ret
  exact ⟨rfl, HB.out⟩
set_option maxHeartbeats 1000000 in
set_option maxRecDepth 100000 in
theorem may_0 (r : Rd) (w : World) (h1 : r.kind ≠ 1) (h2 : r.kind ≠ 2) (h3 : r.kind ≠ 3) : Calls Tryz.prog 8 #[.agg (rdL r).toArray] w fun e w' => e = .returned (.bool false) ∧ Below w.heap.size w w' := by
  have hk1 : (r.kind == 1) = false := by simp [h1]
  have hk2 : (r.kind == 2) = false := by simp [h2]
  have hk3 : (r.kind == 3) = false := by simp [h3]
  have hc0 : ((w.alloc (.cells (rdL r).toArray 33 (0, 0)))).cell? ⟨w.heap.size, 0, none⟩ = some (.int .i64 r.kind) := by have := PC.rangeAt_row (heap_alloc_new w (.cells (rdL r).toArray 33 (0, 0))) 0 _ (rdL_0 r); rwa [Nat.zero_add] at this
  have HB : Hid (Below w.heap.size w (w.alloc (.cells (rdL r).toArray 33 (0, 0)))) := (Below.refl _ _).alloc (Nat.le_refl _) _
  generalize rdL r = RL at *
  clear h1 h2 h3
  go_enter Tryz.func8, Tryz.ntmps8
  go_wp2
  go_ret
  exact ⟨rfl, HB.out⟩
theorem may_any (r : Rd) (w : World) (h : r.ok) : Calls Tryz.prog 8 #[.agg (rdL r).toArray] w fun e w' => e = .returned (.bool (mayD r)) ∧ Below w.heap.size w w' := by
  unfold mayD
  by_cases h1 : r.kind = 1
  · rw [if_pos h1]; exact may_1 r w h h1 _ rfl
  · rw [if_neg h1]
    by_cases h2 : r.kind = 2
    · rw [if_pos h2]
      cases hb : rdEq r (rec2 r.page r.data) with
      | false => rw [Bool.false_and]; exact may_2f r w h h2 _ hb rfl
      | true =>
        rw [Bool.true_and]
        by_cases hp : 0 ≤ r.page
        · have : decide (0 ≤ r.page ∧ r.page < 128) = decide (r.page < 128) := by simp [hp]
          rw [this]
          exact may_2p r w h h2 _ hb rfl hp _ rfl
        · have : decide (0 ≤ r.page ∧ r.page < 128) = false := by simp [hp]
          rw [this]
          exact may_2n r w h h2 _ hb rfl hp
    · rw [if_neg h2]
      by_cases h3 : r.kind = 3
      · rw [if_pos h3]
        cases hb : rdEq r (rec3 r.pc r.rs r.run) with
        | false => rw [Bool.false_and]; exact may_3f r w h h3 hb
        | true => rw [Bool.true_and]; exact may_3t r w h h3 hb
      · rw [if_neg h3]; exact may_0 r w h1 h2 h3
def zQ : R5.Qn := ⟨0, List.replicate 32 0, 0, []⟩
theorem build_zq (w : World) : (Instr.build 80 #[]).run Tryz.prog w = .ok (.agg (R5.qL zQ (.slice none 0 0)).toArray) w := by kernel_rfl
set_option maxHeartbeats 1000000 in
set_option maxRecDepth 100000 in
theorem noOr_no (og mo : Nat) (w : World) (hc : w.cell? ⟨og, 35, none⟩ = some (.map (some mo))) : Calls Tryz.prog 24 #[.pointer (some ⟨og, 0, none⟩)] w fun e w' => e = .returned (.bool false) ∧ Below w.heap.size w w' := by
  have hak := R5.pask_bad og mo (.slice none 0 0) zQ w hc (by rfl) (by decide)
  clear hc
  have hz := fun W => R5.zero_dig W
  obtain ⟨ZL, hZL⟩ : ∃ L, L = (List.replicate 32 (0 : UInt8)).map B8 := ⟨_, rfl⟩
  rw [← hZL] at hz
  have HZS : Hid (ZL.toArray.size = 32) := by show _ = _; rw [hZL]; simp
  have HZ1 : Hid (ZL.toArray.all (·.oneCell') = true) := by show _ = _; rw [hZL]; exact R5.B8_onea _
  have HBQ : Hid (∀ W, (Instr.build 80 #[]).run Tryz.prog W = .ok (.agg (R5.qL zQ (.slice none 0 0)).toArray) W) := build_zq
  generalize (R5.qL zQ (.slice none 0 0)).toArray = QA at *
  have HAK : Hid (∀ P, (∀ e w', e = .returned (.tuple #[.agg ZL.toArray, .int .i64 (2 : Int)]) → Below w.heap.size w w' → P e w') → Calls Tryz.prog 41 #[.pointer (some ⟨og, 0, none⟩), .agg QA] w P) := fun P hP => hak.mono (fun e w' ⟨h1, h2⟩ => hP e w' (by rw [h1, hZL]; rfl) h2)
  clear hZL hak
  go_enter Tryz.func24, Tryz.ntmps24
  go_wp2_with (first | (refine PC.wpList_build rfl 80 _ rfl #[] (.agg QA) (by simp) (HBQ.out _) ?_) | (go_at_call 41; fail))
  refine HAK.out _ ?_
  rintro e w1 rfl hb1
  have HB1 : Hid (Below w.heap.size w w1) := hb1
  have hs1 := hb1.size
  have HRW : Hid ((w1.alloc (.cells ZL.toArray 24 (0, 0))).heap[w1.heap.size]? = some (.cells ZL.toArray 24 (0, 0))) := heap_alloc_new _ _
  clear hb1 HAK HBQ
  go_wp2_with (refine wpList_store_row rfl 24 _ _ rfl w1.heap.size ZL.toArray rfl rfl 24 ZL.toArray HRW.out (R5.info32a _ HZS.out) rfl HZ1.out ?_)
  go_ret
  exact ⟨rfl, below_setRow (HB1.out.alloc (by omega) _) (by omega) _⟩
end Go.Proofs.YtpmknkagnkagpaaGreat.ZC
