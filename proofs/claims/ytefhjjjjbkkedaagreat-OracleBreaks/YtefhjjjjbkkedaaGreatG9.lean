/- Contract of ref 5's May. -/
import Derived.Test.YtefhjjjjbkkedaaGreatB9
set_option linter.unusedVariables false
set_option linter.unusedSimpArgs false
namespace Go.Proofs.YtefhjjjjbkkedaaGreat.R5
open scoped Classical
open Go.RowKit

/-- May a question be? -/
def mayQ (q : Qn) : Bool := decide (1 ≤ q.kind ∧ q.kind ≤ 4 ∧ 1 ≤ q.dom ∧ q.dom ≤ 16 ∧ (q.kind = 1 → q.key = List.replicate 32 0))
theorem build_dig (w : World) : (Instr.build 29 #[]).run Tryz.prog w = .ok (.agg ((List.replicate 32 (0 : UInt8)).map B8).toArray) w := by kernel_rfl

theorem upon_eq {P : Program} {op : Oper} {a : Act} {K : Act → World → Prop} {Q : Exit → Act → World → Prop} {r r' : Result Next} (h : r = r') (g : op.upon P a K Q r') : op.upon P a K Q r := h ▸ g

set_option maxHeartbeats 4000000 in
set_option maxRecDepth 100000 in
theorem may_any (v : Value) (q : Qn) (w : World) (h : HQ w v q) : Calls Tryz.prog 20 #[v] w fun e w' => e = .returned (.bool (mayQ q)) ∧ Below w.heap.size w w' := by
  obtain ⟨hk, dv, rfl, hd⟩ := h
  have HB0 : Hid (Below w.heap.size w (w.alloc (.cells (qL q dv).toArray 39 (0, 0)))) := (Below.refl _ _).alloc (Nat.le_refl _) _
  obtain ⟨a0, a1, a2, a3⟩ := q_facts hk (heap_at w (.cells (qL q dv).toArray 39 (0, 0)) _ rfl)
  have hq := fun W => eql_digest W q.key (List.replicate 32 0) hk (by simp)
  obtain ⟨kd, ky, dm, da⟩ := q
  simp only at *
  have HI1 : Hid _ := info32 (ky.map B8) (by simpa using hk)
  have HA1 : Hid _ := a1
  have hbd := fun W => build_dig W
  obtain ⟨ZA, hZA⟩ : ∃ A, A = ((List.replicate 32 (0 : UInt8)).map B8).toArray := ⟨_, rfl⟩
  rw [← hZA] at hbd hq
  generalize (qL ⟨kd, ky, dm, da⟩ dv).toArray = PA at *
  clear a1 hd hZA a3
  by_cases h1 : kd < 1
  · have HE : Hid (mayQ ⟨kd, ky, dm, da⟩ = false) := by show _ = _; unfold mayQ; simp; omega
    clear hbd
    go_enter Tryz.func20, Tryz.ntmps20
    go_wp2
    go_ret
    exact ⟨by rw [HE.out]; rfl, HB0.out⟩
  · by_cases h2 : 4 < kd
    · have HE : Hid (mayQ ⟨kd, ky, dm, da⟩ = false) := by show _ = _; unfold mayQ; simp; omega
      clear hbd
      go_enter Tryz.func20, Tryz.ntmps20
      go_wp2
      go_ret
      exact ⟨by rw [HE.out]; rfl, HB0.out⟩
    · by_cases h3 : dm < 1
      · have HE : Hid (mayQ ⟨kd, ky, dm, da⟩ = false) := by show _ = _; unfold mayQ; simp; omega
        clear hbd
        go_enter Tryz.func20, Tryz.ntmps20
        go_wp2
        go_ret
        exact ⟨by rw [HE.out]; rfl, HB0.out⟩
      · by_cases h4 : 16 < dm
        · have HE : Hid (mayQ ⟨kd, ky, dm, da⟩ = false) := by show _ = _; unfold mayQ; simp; omega
          clear hbd
          go_enter Tryz.func20, Tryz.ntmps20
          go_wp2
          go_ret
          exact ⟨by rw [HE.out]; rfl, HB0.out⟩
        · by_cases h5 : kd = 1
          · have HE : Hid (mayQ ⟨kd, ky, dm, da⟩ = (ky == List.replicate 32 0)) := by
              show _ = _
              unfold mayQ
              simp only
              rw [Bool.eq_iff_iff]
              simp only [decide_eq_true_eq, beq_iff_eq]
              constructor
              · intro h; exact h.2.2.2.2 h5
              · intro h; exact ⟨by omega, by omega, by omega, by omega, fun _ => h⟩
            rw [h5] at a0
            have HQ0 : Hid (∀ W, (Op.equalIn 10000 29 (.agg (ky.map B8).toArray) (.agg ((List.replicate 32 (0 : UInt8)).map B8).toArray)).run Tryz.prog W = .ok (ky == List.replicate 32 0) W) := fun W => (run_equalIn_bytes W 9998 29 5 32 Tryz.underlying29 Tryz.underlying5 size_u8 ky (List.replicate 32 0) hk (by simp))
            generalize (ky == List.replicate 32 0) = R at *
            clear hk hq hbd
            clear h5 h1 h2
            go_enter Tryz.func20, Tryz.ntmps20
            go_wp2_with (first
              | (refine load_mid_g (by rfl) 29 _ rfl w.heap.size 1 rfl (ky.map B8) _ HA1.out Tryz.underlying29 rfl HI1.out ?_))
            refine upon_eq (r' := .ok (Next.value (.bool R)) _) (congrArg (fun r => Result.andThen (Result.andThen r (fun b w' => Result.ok (Value.bool b) w')) (fun a w' => Result.ok (Next.value a) w')) (HQ0.out (w.alloc (.cells PA 39 (0, 0))))) ?_
            go_wp2
            go_ret
            exact ⟨by rw [HE.out]; rfl, HB0.out⟩
          · have g5 : (kd == 1) = false := by simp [h5]
            have g6 : (kd != 1) = true := by simp [h5]
            have HE : Hid (mayQ ⟨kd, ky, dm, da⟩ = true) := by
              show _ = _
              unfold mayQ
              simp only [decide_eq_true_eq]
              exact ⟨by omega, by omega, by omega, by omega, fun h => absurd h h5⟩
            clear h5
            go_enter Tryz.func20, Tryz.ntmps20
            go_wp2
            go_ret
            exact ⟨by rw [HE.out]; rfl, HB0.out⟩

end Go.Proofs.YtefhjjjjbkkedaaGreat.R5
