/- tree: is there an oracle, a memory; do the nodes lie within; faults; what is refused. -/
import Derived.Test.YtnijjoankahddaaDD
import Derived.Test.YtnijjoankahddaaWr
import Derived.Test.YtnijjoankahddaaMF
set_option linter.unusedVariables false
set_option linter.unusedSimpArgs false
namespace Go.Proofs.Ytnijjoankahddaa.DC
open Go.RowKit

def q0 : R5.Qn := ⟨0, List.replicate 32 0, 0, []⟩
theorem build_q0 (w : World) : (Instr.build 102 #[]).run Try.prog w = .ok (.agg (R5.qL q0 (.slice none 0 0)).toArray) w := by kernel_rfl
set_option maxHeartbeats 1000000 in
set_option maxRecDepth 100000 in
theorem noOracle_of (pv : Value) (c : Int) (w : World) (hA : Calls Try.prog 47 #[pv, .agg (R5.qL q0 (.slice none 0 0)).toArray] w fun e w' => e = .returned (R5.errV c) ∧ Below w.heap.size w w') :
    Calls Try.prog 34 #[pv] w fun e w' => e = .returned (.bool (c == 1)) ∧ Below w.heap.size w w' := by
  have hz := fun W => R5.zero_dig W
  obtain ⟨ZL, hZL⟩ : ∃ L, L = (List.replicate 32 (0 : UInt8)).map B8 := ⟨_, rfl⟩
  rw [← hZL] at hz
  have HZS : Hid (ZL.toArray.size = 32) := by show _ = _; rw [hZL]; simp
  have HZ1 : Hid (ZL.toArray.all (·.oneCell') = true) := by show _ = _; rw [hZL]; exact R5.B8_onea _
  have HBD : Hid (∀ W : World, (Instr.build 23 #[]).run Try.prog W = .ok (.agg ZL.toArray) W) := fun W => by rw [hZL]; exact R5.build_dig W
  have HEV : Hid (∀ c, R5.errV c = .tuple #[.agg ZL.toArray, .int .i64 c]) := fun c => by rw [hZL]; rfl
  have HBQ : Hid (∀ W : World, (Instr.build 102 #[]).run Try.prog W = .ok (.agg (R5.qL q0 (.slice none 0 0)).toArray) W) := build_q0
  rw [HEV.out] at hA
  generalize (R5.qL q0 (.slice none 0 0)).toArray = QA at *
  have HA : Hid (Calls Try.prog 47 #[pv, .agg QA] w fun e w' => e = .returned (.tuple #[.agg ZL.toArray, .int .i64 c]) ∧ Below w.heap.size w w') := hA
  clear hZL hA
  go_enter Try.func34, Try.ntmps34
  go_wp2_with (refine R5.wpList_build rfl 102 #[] rfl #[] (.agg QA) (by simp) (HBQ.out _) ?_)
  refine Calls.mono HA.out ?_
  rintro e w1 ⟨rfl, b1⟩
  have HB1 : Hid (Below w.heap.size w w1) := b1
  have HS1 : Hid (w.heap.size ≤ w1.heap.size) := b1.size
  have HR : Hid ((w1.alloc (.cells ZL.toArray 23 (0, 0))).heap[w1.heap.size]? = some (.cells ZL.toArray 23 (0, 0))) := heap_alloc_new _ _
  clear b1
  go_wp2_with (refine wpList_store_row rfl 23 _ _ rfl w1.heap.size ZL.toArray rfl rfl 23 ZL.toArray HR.out (R5.info32a _ HZS.out) rfl HZ1.out ?_)
  go_ret
  exact ⟨rfl, below_setRow (HB1.out.alloc HS1.out _) HS1.out _⟩
theorem noOracle_no (og mb : Nat) (w : World) (hc : w.cell? ⟨og, 35, none⟩ = some (.map (some mb))) : Calls Try.prog 34 #[.pointer (some ⟨og, 0, none⟩)] w fun e w' => e = .returned (.bool false) ∧ Below w.heap.size w w' :=
  noOracle_of _ 2 w (R5.pask_bad og mb _ q0 w hc (by simp [q0]) (by decide))
theorem noOracle_nil (w : World) : Calls Try.prog 34 #[.pointer none] w fun e w' => e = .returned (.bool true) ∧ Below w.heap.size w w' :=
  noOracle_of _ 1 w (R5.pask_none _ _ w (fun X _ => R5.none_nil X))
theorem noMemory_of (pv : Value) (n : Nat) (w : World) (hG : Calls Try.prog 41 #[pv] w fun e w' => e = .returned (.int .i64 (n : Int)) ∧ w = w') :
    Calls Try.prog 39 #[pv] w fun e w' => e = .returned (.bool ((n : Int) == 0)) ∧ w' = w := by
  have HG : Hid (Calls Try.prog 41 #[pv] w fun e w' => e = .returned (.int .i64 (n : Int)) ∧ w = w') := hG
  clear hG
  go_enter Try.func39, Try.ntmps39
  go_wp2_with fail
  refine Calls.mono HG.out ?_
  rintro e w1 ⟨rfl, rfl⟩
  go_wp2
  go_ret
  exact ⟨rfl, rfl⟩
/-- Do the nodes lie within memory of n granules? -/
def witB (n a : Nat) : Bool := decide (64 ≤ n ∧ a % 128 = 0 ∧ a / 128 ≤ n - 64)
set_option maxHeartbeats 1000000 in
set_option maxRecDepth 100000 in
theorem within_of (pv : Value) (n a : Nat) (w : World) (hn : n ≤ 4096) (ha : a < 18446744073709551616) (hG : Calls Try.prog 41 #[pv] w fun e w' => e = .returned (.int .i64 (n : Int)) ∧ w = w') :
    Calls Try.prog 22 #[pv, .int .u64 (a : Int)] w fun e w' => e = .returned (.bool (witB n a)) ∧ w' = w := by
  have HG : Hid (Calls Try.prog 41 #[pv] w fun e w' => e = .returned (.int .i64 (n : Int)) ∧ w = w') := hG
  clear hG
  by_cases h1 : 64 ≤ n
  · obtain ⟨f, hf⟩ : ∃ f : Nat, n = f + 64 := ⟨n - 64, by omega⟩
    have hw1 : IntKind.i64.wrap ((n : Int) - 64) = (f : Int) := by rw [IntKind.wrap_i64]; omega
    have hu1 : IntKind.u64.wrap (f : Int) = (f : Int) := by rw [W1.wrap_u64]; omega
    have hq : ((a : Int).tdiv 128) = ((a / 128 : Nat) : Int) := rfl
    have hr : ((a : Int).tmod 128) = ((a % 128 : Nat) : Int) := rfl
    have hwy : IntKind.u64.wrap ((a / 128 : Nat) : Int) = ((a / 128 : Nat) : Int) := by rw [W1.wrap_u64]; omega
    by_cases h2 : a % 128 = 0
    · have h2b : (((a % 128 : Nat) : Int) == 0) = true := by rw [h2]; rfl
      by_cases h3 : a / 128 ≤ f
      · have hd : witB n a = true := decide_eq_true ⟨h1, h2, by omega⟩
        rw [hd]
        have h3I : ((a / 128 : Nat) : Int) ≤ (f : Int) := by omega
        have hf0 : (0 : Int) ≤ (f : Int) := by omega
        generalize ((a / 128 : Nat) : Int) = y at *
        generalize ((a % 128 : Nat) : Int) = z at *
        clear hd hf h1 h2 h3 ha hn
        generalize (f : Int) = F at *
        generalize (n : Int) = NN at *
        go_enter Try.func22, Try.ntmps22
        go_wp2_with fail
        refine Calls.mono HG.out ?_
        rintro e w1 ⟨rfl, rfl⟩
        go_wp2
        go_ret
        exact ⟨rfl, rfl⟩
      · have hd : witB n a = false := decide_eq_false (fun h => h3 (by have := h.2.2; omega))
        rw [hd]
        have h3I : ¬ ((a / 128 : Nat) : Int) ≤ (f : Int) := by omega
        have hf0 : (0 : Int) ≤ (f : Int) := by omega
        generalize ((a / 128 : Nat) : Int) = y at *
        generalize ((a % 128 : Nat) : Int) = z at *
        clear hd hf h1 h2 h3 ha hn
        generalize (f : Int) = F at *
        generalize (n : Int) = NN at *
        go_enter Try.func22, Try.ntmps22
        go_wp2_with fail
        refine Calls.mono HG.out ?_
        rintro e w1 ⟨rfl, rfl⟩
        go_wp2
        go_ret
        exact ⟨by first | rfl | (show Ending.returned (.bool (decide _)) = _; rw [decide_eq_false (by omega)]), rfl⟩
    · have h2b : (((a % 128 : Nat) : Int) == 0) = false := by rw [beq_eq_false_iff_ne]; omega
      have hd : witB n a = false := decide_eq_false (fun h => h2 h.2.1)
      rw [hd]
      have hf0 : (0 : Int) ≤ (f : Int) := by omega
      generalize ((a % 128 : Nat) : Int) = z at *
      clear hd hf h1 h2 ha hn hq hwy
      generalize (f : Int) = F at *
      generalize (n : Int) = NN at *
      go_enter Try.func22, Try.ntmps22
      go_wp2_with fail
      refine Calls.mono HG.out ?_
      rintro e w1 ⟨rfl, rfl⟩
      go_wp2
      go_ret
      exact ⟨rfl, rfl⟩
  · have hd : witB n a = false := decide_eq_false (fun h => h1 h.1)
    obtain ⟨F, hF⟩ : ∃ F : Int, (n : Int) - 64 = F := ⟨_, rfl⟩
    have hw1 : IntKind.i64.wrap ((n : Int) - 64) = F := by rw [IntKind.wrap_i64]; omega
    have hf0 : ¬ (0 : Int) ≤ F := by omega
    rw [hd]
    clear hd h1 ha hn hF
    generalize (n : Int) = NN at *
    go_enter Try.func22, Try.ntmps22
    go_wp2_with fail
    refine Calls.mono HG.out ?_
    rintro e w1 ⟨rfl, rfl⟩
    go_wp2
    go_ret
    exact ⟨rfl, rfl⟩
end Go.Proofs.Ytnijjoankahddaa.DC
