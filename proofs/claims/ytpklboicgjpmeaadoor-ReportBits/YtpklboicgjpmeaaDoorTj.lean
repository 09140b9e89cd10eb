/- report: bytes are taken for a report, by the program and by the document. -/
import Derived.Test.YtpklboicgjpmeaaDoorTi
set_option linter.unusedVariables false
set_option linter.unusedSimpArgs false
namespace Go.Proofs.YtpklboicgjpmeaaDoor.RB
open Go.RowKit

theorem slice_lh (W : World) (b o N cap lo hi n c : Nat) (h1 : lo ≤ hi) (h2 : hi ≤ cap) (h3 : lo < cap) (H : Int) (hH : H = (hi : Int)) (hn : hi - lo = n) (hc : cap - lo = c) : (Instr.slice 28 (.slice (some ⟨b, o, none⟩) N cap) (some (.int .i64 (lo : Int))) (some (.int .i64 H)) none).run Tryd.prog W = .ok (.slice (some ⟨b, o + lo, none⟩) n c) W := by
  have hu : Tryd.prog.underlying 28 = some (.slice (Tryd.prog.elem 28)) := by kernel_rfl
  have he : Tryd.prog.elem 28 = 5 := by kernel_rfl
  have hs : ∀ w, (sizeOf 5).run Tryd.prog w = .ok 1 w := fun w => by kernel_rfl
  subst hH hn hc
  rw [run_slice_lh W 28 _ _ _ hu .i64 .i64 _ _ (by omega) (by omega) (by omega), he, hs]
  simp only [Result.andThen, sliced]
  rw [if_neg (by omega), Option.map_some, add_none]
  simp
theorem slice_lhA (W : World) (b o N cap lo hi n c : Nat) (h1 : lo ≤ hi) (h2 : hi ≤ cap) (h3 : lo < cap) (H : Int) (hH : H = (hi : Int)) (hn : hi - lo = n) (hc : cap - lo = c) : (Instr.sliceAt 28 (.slice (some ⟨b, o, none⟩) N cap) (some (.int .i64 (lo : Int))) (some (.int .i64 H)) none).run Tryd.prog W = .ok (.slice (some ⟨b, o + lo, none⟩) n c) W := by
  rw [run_sliceAt_slice W 28 _ _ _ _ (by kernel_rfl)]; exact slice_lh W b o N cap lo hi n c h1 h2 h3 H hH hn hc
theorem slice_l (W : World) (b o N cap lo n c : Nat) (h1 : lo ≤ N) (h3 : lo < cap) (hn : N - lo = n) (hc : cap - lo = c) : (Instr.slice 28 (.slice (some ⟨b, o, none⟩) N cap) (some (.int .i64 (lo : Int))) none none).run Tryd.prog W = .ok (.slice (some ⟨b, o + lo, none⟩) n c) W := by
  have hu : Tryd.prog.underlying 28 = some (.slice (Tryd.prog.elem 28)) := by kernel_rfl
  have he : Tryd.prog.elem 28 = 5 := by kernel_rfl
  have hs : ∀ w, (sizeOf 5).run Tryd.prog w = .ok 1 w := fun w => by kernel_rfl
  subst hn hc
  rw [run_slice_l W 28 _ _ _ hu .i64 _ (by omega) (by omega), he, hs]
  simp only [Result.andThen, sliced]
  rw [if_neg (by omega), Option.map_some, add_none]
  simp
theorem slice_lA (W : World) (b o N cap lo n c : Nat) (h1 : lo ≤ N) (h3 : lo < cap) (hn : N - lo = n) (hc : cap - lo = c) : (Instr.sliceAt 28 (.slice (some ⟨b, o, none⟩) N cap) (some (.int .i64 (lo : Int))) none none).run Tryd.prog W = .ok (.slice (some ⟨b, o + lo, none⟩) n c) W := by
  rw [run_sliceAt_slice W 28 _ _ _ _ (by kernel_rfl)]; exact slice_l W b o N cap lo n c h1 h3 hn hc
set_option maxHeartbeats 1000000 in
set_option maxRecDepth 100000 in
/-- A part is taken. -/
theorem take_any (bb ab gb o cap : Nat) (k size : Nat) (X : World) (hbb : X.heap[bb]? = some (.cells [.slice (some ⟨gb, o, none⟩) 80 cap].toArray 28 (0, 0))) (hab : X.heap[ab]? = some (.cells [.int .i64 (k : Int)].toArray 3 (0, 0)))
    (hcap : 80 ≤ cap) (hfit : k + size ≤ 80) (h0 : 0 < size) :
    Calls Tryd.prog 45 #[.int .i64 (size : Int), pB bb, pB ab] X fun e X' => e = .returned (.slice (some ⟨gb, o + k, none⟩) size (cap - k)) ∧ X' = X.setCell ⟨ab, 0, none⟩ (.int .i64 ((k : Int) + (size : Int))) := by
  have hcb : X.cell? ⟨bb, 0, none⟩ = some (.slice (some ⟨gb, o, none⟩) 80 cap) := (fields5 _ _ _ _ _ hbb 0).trans rfl
  have hca : X.cell? ⟨ab, 0, none⟩ = some (.int .i64 (k : Int)) := (fields5 _ _ _ _ _ hab 0).trans rfl
  have hfz := frozen_of_row _ _ 0 _ _ hab
  have hsl := fun W => slice_lhA W gb o 80 cap k (k + size) size (cap - k) (by omega) (by omega) (by omega) ((k : Int) + (size : Int)) (by omega) (by omega) rfl
  clear hab hbb
  unfold pB
  go_enter Tryd.func45, Tryd.ntmps45
  go_wp2
  go_ret
  exact ⟨rfl, rfl⟩
end Go.Proofs.YtpklboicgjpmeaaDoor.RB
