/- tree: the statements' same, of equal lists; a constant list of numbers. -/
import Derived.Test.YtnijjoankahddaaDB
import Derived.Deep.QuietTactic
set_option linter.unusedVariables false
set_option linter.unusedSimpArgs false
namespace Go.Proofs.Ytnijjoankahddaa.DC
open Go.RowKit

set_option maxHeartbeats 1000000 in
set_option maxRecDepth 100000 in
theorem same_eq (v1 v2 : Value) (ls : List Int) (w : World) (hl : ls.length ≤ 100) (h1 : HI w v1 ls) (h2 : HI w v2 ls) : Calls Try.prog 25 #[v1, v2] w fun e w' => e = .returned (.bool true) ∧ Below w.heap.size w w' := by
  obtain ⟨p1, c1, rfl, r1⟩ := h1
  obtain ⟨p2, c2, rfl, r2⟩ := h2
  have HR1 : Hid (∀ i x, ls[i]? = some x → ∃ b o, p1 = some ⟨b, o, none⟩ ∧ w.cell? ⟨b, o + i, none⟩ = some (.int .i64 x)) := r1
  have HR2 : Hid (∀ i x, ls[i]? = some x → ∃ b o, p2 = some ⟨b, o, none⟩ ∧ w.cell? ⟨b, o + i, none⟩ = some (.int .i64 x)) := r2
  have HG : Hid (∀ k, k < ls.length → ∃ x, ls[k]? = some x) := fun k hk => ⟨ls[k], List.getElem?_eq_getElem hk⟩
  clear r1 r2
  generalize ls.length = n at *
  go_enter Try.func25, Try.ntmps25
  go_wp2
  go_loopw [5] (fun i wr => ∃ k : Nat, k ≤ n ∧ i = .int .i64 k ∧ Below w.heap.size w wr) (fun i _ => n - (intOf i).toNat)
  case atStart => exact ⟨0, by omega, rfl, Below.refl _ _⟩
  case round =>
    obtain ⟨k, hk, rfl, hB⟩ := hrel
    have HB : Hid (Below w.heap.size w wr) := hB
    by_cases hlt : k < n
    · obtain ⟨x, hx⟩ := HG.out k hlt
      obtain ⟨b1, o1, rfl, hc1⟩ := HR1.out k x hx
      obtain ⟨b2, o2, rfl, hc2⟩ := HR2.out k x hx
      have hd1 : wr.cell? ⟨b1, o1 + k, none⟩ = some (.int .i64 x) := (hB.cell (block_lt hc1)).trans hc1
      have hd2 : wr.cell? ⟨b2, o2 + k, none⟩ = some (.int .i64 x) := (hB.cell (block_lt hc2)).trans hc2
      have hkI : (k : Int) < (n : Int) := by omega
      have hkn : k < n := hlt
      clear hc1 hc2 hB hx
      go_wp2
      go_quiet (fail)
      go_wp2
      go_roundw
      case rel => exact ⟨k + 1, by omega, by go_num, HB.out.trans ⟨rfl, rfl, rfl, Nat.le_refl _, fun _ _ => rfl⟩⟩
      case measure => simp [intOf]; omega
    · have hkI : ¬ ((k : Int) < (n : Int)) := by omega
      clear hB
      go_wp2
      go_ret
      exact ⟨rfl, HB.out⟩
end Go.Proofs.Ytnijjoankahddaa.DC
