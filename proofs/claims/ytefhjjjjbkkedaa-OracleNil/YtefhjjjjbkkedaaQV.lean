/- The program's Breaks where nothing was asked; Log, Copy of what is not there. -/
import Derived.Test.YtefhjjjjbkkedaaQU
import Derived.Shelf.Abstract
set_option linter.unusedVariables false
set_option linter.unusedSimpArgs false
namespace Go.Proofs.Ytefhjjjjbkkedaa.R5
open scoped Classical
open Go.RowKit

theorem mk_ints (w : World) : (Instr.makeSlice 76 (.int .i64 0) (.int .i64 0)).run Try.prog w = .ok (.slice (some ⟨w.heap.size, 0, none⟩) 0 0) (w.alloc (.cells #[] 3 (0, 0))) := by kernel_rfl
set_option maxHeartbeats 1000000 in
set_option maxRecDepth 100000 in
theorem back_empty (y : Value) (b : Nat) (p : Option Addr) (cap : Nat) (w : World) (hc : w.cell? ⟨b, 0, none⟩ = some (.slice p 0 cap)) :
    Calls Try.prog 58 #[y, .pointer (some ⟨b, 0, none⟩)] w fun e w' => (∃ v, e = .returned v) ∧ Below w.heap.size w w' := by
  go_enter Try.func58, Try.ntmps58
  go_wp2
  refine wp_loop_rounds 1 ?_
  rw [rounds_succ]
  go_wp2
  go_end0
  exact ⟨⟨_, rfl⟩, Below.refl _ _⟩
set_option maxHeartbeats 1000000 in
set_option maxRecDepth 100000 in
theorem backward_any (p : Option Addr) (n c : Nat) (w : World) : Calls Try.prog 46 #[.slice p n c] w fun e w' => e = .returned (.func (.func 58) #[] #[.pointer (some ⟨w.heap.size, 0, none⟩)]) ∧ w' = w.alloc (.cells #[.slice p n c] 50 (0, 0)) := by
  go_enter Try.func46, Try.ntmps46
  go_wp2
  go_ret
  exact ⟨rfl, rfl⟩
set_option maxHeartbeats 1000000 in
set_option maxRecDepth 100000 in
theorem next_empty (og : Nat) (p : Option Addr) (cap : Nat) (w : World) (hc : w.cell? ⟨og, 34, none⟩ = some (.slice p 0 cap)) :
    Calls Try.prog 39 #[.pointer (some ⟨og, 0, none⟩)] w fun e w' => (∃ v, e = .returned v) ∧ Below w.heap.size w w' := by
  have hmm := @run_makeMap Try.prog
  have hmk := fun W => mk_ints W
  have hog := block_lt hc
  simp only at hog
  have hc0 : (w.alloc (.cells #[.pointer (some ⟨og, 0, none⟩)] 27 (0, 0))).cell? ⟨og, 34, none⟩ = some (.slice p 0 cap) := (Below.cell ((Below.refl _ w).alloc (Nat.le_refl _) _) (show (⟨og, 34, none⟩ : Addr).block < w.heap.size from hog)).trans hc
  obtain ⟨W5, hW5⟩ : ∃ W5, W5 = ((((w.alloc (.cells #[.pointer (some ⟨og, 0, none⟩)] 27 (0, 0))).alloc (.cells #[] 3 (0, 0))).alloc (.cells #[.slice (some ⟨w.heap.size + 1, 0, none⟩) 0 0] 76 (0, 0))).alloc (.map #[] 0)).alloc (.cells #[.map (some (w.heap.size + 1 + 1 + 1))] 87 (0, 0)) := ⟨_, rfl⟩
  have hb5 : Below w.heap.size w W5 := by rw [hW5]; exact (((((Below.refl _ w).alloc (Nat.le_refl _) _).alloc (by simp) _).alloc (by simp; omega) _).alloc (by simp; omega) _).alloc (by simp; omega) _
  have hr5 : W5.heap[w.heap.size + 1 + 1]? = some (.cells #[.slice (some ⟨w.heap.size + 1, 0, none⟩) 0 0] 76 (0, 0)) := by rw [hW5, Below.heap_alloc _ _ _ (by simp), Below.heap_alloc _ _ _ (by simp)]; exact heap_at _ _ _ (by simp)
  have hs5 : w.heap.size + 5 = W5.heap.size := by rw [hW5]; simp
  have hc5 : W5.cell? ⟨og, 34, none⟩ = some (.slice p 0 cap) := (hb5.cell (show (⟨og, 34, none⟩ : Addr).block < w.heap.size from hog)).trans hc
  have HR5 : Hid _ := hr5
  have HB5 : Hid _ := hb5
  have HBK : Hid _ := backward_any p 0 cap W5
  rw [hW5] at hc5
  clear hb5 hr5 hc
  refine calls_marks Try.func39 rfl ?_
  simp only [Try.ntmps39, List.size_toArray, List.length_cons, List.length_nil, Nat.reduceAdd, Nat.reduceSub, Array.replicate_succ, Array.replicate_zero, List.push_toArray, List.append_toArray, List.nil_append, List.cons_append]
  go_wp2_with (go_at_call 46; fail)
  rw [← hW5]
  refine Calls.mono HBK.out ?_
  rintro e w6 ⟨rfl, hw6⟩
  have HB6 : Hid (Below w.heap.size w w6) := by rw [hw6]; exact HB5.out.alloc HB5.out.size _
  have HR6 : Hid (w6.cell? ⟨w.heap.size + 1 + 1, 0, none⟩ = some (.slice (some ⟨w.heap.size + 1, 0, none⟩) 0 0)) := by
    rw [hw6, cell_of_row _ _ 0 _ _ _ ((heap_alloc_old _ _ (by omega)).trans HR5.out)]; rfl
  have HC6 : Hid (w6.cell? ⟨W5.heap.size, 0, none⟩ = some (.slice p 0 cap)) := by
    rw [hw6, cell_of_row _ _ 0 _ _ _ (heap_alloc_new _ _)]; rfl
  clear hW5 hc5 hw6 HR5 HB5 HBK hc0
  go_wp2
  refine wp_rangeFunc_never (gf := 58) (lb := #[.pointer (some ⟨W5.heap.size, 0, none⟩)]) rfl (enters_of Try.func58 (by kernel_rfl) rfl) (fun y W hb => back_empty y W5.heap.size p cap W ((hb.cell (block_lt HC6.out)).trans HC6.out)) ?_
  intro W hb hlt hd
  have hcW : W.cell? ⟨w.heap.size + 1 + 1, 0, none⟩ = some (.slice (some ⟨w.heap.size + 1, 0, none⟩) 0 0) := (hb.cell (block_lt HR6.out)).trans HR6.out
  have HBW : Hid (Below w.heap.size w W) := HB6.out.trans (hb.mono HB6.out.size)
  have hs6 := HB6.out.size
  have HD : Hid _ := hd
  clear hb hd
  go_wp2
  refine marks_ret (v := .slice (some ⟨w.heap.size + 1, 0, none⟩) 0 0) [w6.heap.size] W (fun D hD => by have e : D = w6.heap.size := (by simpa using hD); rw [e]; exact HD.out) (by simp) (fun w' h1 h2 h3 h4 h5 => ⟨results_tmp Try.results39 _ _ _, ⟨_, rfl⟩, ⟨h2.trans HBW.out.os, h3.trans HBW.out.tape, h4.trans HBW.out.output, by rw [h1]; exact HBW.out.size, fun k hk => (h5 k (by simp; omega)).trans (HBW.out.block k hk)⟩⟩)

/-- The cells of a zero oracle. -/
def zOr : Array Value := (Value.bool false :: ((List.replicate 32 (0 : UInt8)).map B8 ++ [.slice none 0 0, .slice none 0 0, .map none])).toArray
theorem zero_or (w : World) : (zeroValue 53).run Try.prog w = .ok (.agg zOr) w := by kernel_rfl
theorem zOr_34 : zOr[34]? = some (.slice none 0 0) := by kernel_rfl
theorem zOr_35 : zOr[35]? = some (.map none) := by kernel_rfl
set_option maxHeartbeats 1000000 in
set_option maxRecDepth 100000 in
theorem breaks1_empty (y : Value) (b : Nat) (p : Option Addr) (cap : Nat) (w : World) (hc : w.cell? ⟨b, 34, none⟩ = some (.slice p 0 cap)) :
    Calls Try.prog 38 #[y, .pointer (some ⟨b, 0, none⟩)] w fun e w' => (∃ v, e = .returned v) ∧ Below w.heap.size w w' := by
  have HN : Hid _ := next_empty b p cap w hc
  have HC : Hid _ := hc
  have hbl := block_lt hc
  simp only at hbl
  clear hc
  go_enter Try.func38, Try.ntmps38
  go_wp2_with fail
  refine Calls.mono HN.out ?_
  rintro e w1 ⟨⟨v, rfl⟩, hb⟩
  have hc1 : w1.cell? ⟨b, 34, none⟩ = some (.slice p 0 cap) := (hb.cell (show (⟨b, 34, none⟩ : Addr).block < w.heap.size from hbl)).trans HC.out
  have HB : Hid _ := hb
  clear hb HC
  go_wp2
  refine wp_loop_rounds 1 ?_
  rw [rounds_succ]
  go_wp2
  go_end0
  exact ⟨⟨_, rfl⟩, HB.out⟩
set_option maxHeartbeats 1000000 in
set_option maxRecDepth 100000 in
theorem breaks_none (pz : Value) (w : World) (hn : ∀ X, Below w.heap.size w X → Calls Try.prog 24 #[pz] X fun e w' => e = .returned (.bool true) ∧ w' = X) :
    Calls Try.prog 22 #[pz] w fun e w' => e = .returned (.func (.func 38) #[] #[.pointer (some ⟨w.heap.size, 0, none⟩)]) ∧ w' = w.alloc (.cells zOr 53 (0, 0)) := by
  have hz := fun W => zero_or W
  have hnn := hn (w.alloc (.cells zOr 53 (0, 0))) ((Below.refl _ _).alloc (Nat.le_refl _) _)
  obtain ⟨Z, hZ⟩ : ∃ Z, Z = zOr := ⟨_, rfl⟩
  rw [← hZ] at hz hnn ⊢
  have HNN : Hid _ := hnn
  clear hn hnn hZ
  go_enter Try.func22, Try.ntmps22
  go_wp2_with (go_at_call 24; refine Calls.mono HNN.out ?_; rintro e w1 ⟨rfl, rfl⟩)
  go_ret
  exact ⟨rfl, rfl⟩
set_option maxHeartbeats 1000000 in
set_option maxRecDepth 100000 in
theorem log_none (pz : Value) (w : World) (hn : Calls Try.prog 24 #[pz] w fun e w' => e = .returned (.bool true) ∧ w' = w) :
    Calls Try.prog 11 #[pz] w fun e w' => e = .returned (.slice none 0 0) ∧ w' = w := by
  have HNN : Hid _ := hn
  clear hn
  go_enter Try.func11, Try.ntmps11
  go_wp2_with (go_at_call 24; refine Calls.mono HNN.out ?_; rintro e w1 ⟨rfl, rfl⟩)
  go_ret
  exact ⟨rfl, rfl⟩
set_option maxHeartbeats 1000000 in
set_option maxRecDepth 100000 in
theorem copy_none (pz : Value) (w : World) (hn : Calls Try.prog 24 #[pz] w fun e w' => e = .returned (.bool true) ∧ w' = w) :
    Calls Try.prog 21 #[pz] w fun e w' => e = .returned (.pointer none) ∧ w' = w := by
  have HNN : Hid _ := hn
  clear hn
  go_enter Try.func21, Try.ntmps21
  go_wp2_with (go_at_call 24; refine Calls.mono HNN.out ?_; rintro e w1 ⟨rfl, rfl⟩)
  go_ret
  exact ⟨rfl, rfl⟩
end Go.Proofs.Ytefhjjjjbkkedaa.R5
