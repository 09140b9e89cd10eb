/- Contracts of wire's Join (again), and the program's Digest. -/
import Derived.Test.YtekbppfocnbhbaaGreatQH
set_option linter.unusedVariables false
set_option linter.unusedSimpArgs false
namespace Go.Proofs.YtekbppfocnbhbaaGreat.R5
open scoped Classical
open Go.RowKit

theorem flat_take (ls : List (List UInt8)) (k : Nat) (h : k < ls.length) : (ls.take (k + 1)).flatten = (ls.take k).flatten ++ ls.getD k [] := by
  rw [List.take_succ_eq_append_getElem h, List.flatten_append]
  simp [List.getD, List.getElem?_eq_getElem h]
theorem flat_le (ls : List (List UInt8)) (k : Nat) : (ls.take k).flatten.length ≤ ls.flatten.length := by
  have h : (ls.take k ++ ls.drop k).flatten = ls.flatten := by rw [List.take_append_drop]
  rw [← h, List.flatten_append, List.length_append]; omega
/-- A slice of slices of bytes. -/
def HP (w : World) (v : Value) (ls : List (List UInt8)) : Prop := ∃ p cap, v = .slice p ls.length cap ∧ ∀ i, i < ls.length → ∃ g u, p = some ⟨g, 0, none⟩ ∧ w.cell? ⟨g, i, none⟩ = some u ∧ HB w u (ls.getD i [])
theorem hp_below {w w' : World} {v : Value} {ls : List (List UInt8)} (h : HP w v ls) (hb : Below w.heap.size w w') : HP w' v ls := by
  obtain ⟨p, cap, h1, h2⟩ := h
  refine ⟨p, cap, h1, fun i hi => ?_⟩
  obtain ⟨g, u, e, hc, hu⟩ := h2 i hi
  exact ⟨g, u, e, (hb.cell (block_lt hc)).trans hc, hu.below hb⟩
theorem hp_nil (w : World) : HP w (.slice none 0 0) [] := ⟨none, 0, rfl, fun i hi => by simp at hi⟩

set_option maxHeartbeats 2000000 in
theorem pjoin_any (pv : Value) (ls : List (List UInt8)) (w : World) (hl : ls.length ≤ 1048576) (hr : ls.flatten.length ≤ 1099511627776) (hc : HP w pv ls) :
    Calls Tryz.prog 80 #[pv] w fun e w' => ∃ v, e = .returned v ∧ FB w.heap.size w' v ls.flatten ∧ Below w.heap.size w w' := by
  obtain ⟨p, cap, rfl, hc⟩ := hc
  have HC : Hid _ := hc
  clear hc
  go_enter Tryz.func80, Tryz.ntmps80
  go_wp2
  go_loopw [3, 8] (fun v i wr => ∃ k : Nat, k ≤ ls.length ∧ i = .int .i64 k ∧ FB w.heap.size wr v (ls.take k).flatten ∧ Below w.heap.size w wr) (fun _ i _ => ls.length - (intOf i).toNat)
  case atStart => exact ⟨0, Nat.zero_le _, rfl, World.ownsRow_nil _ _ _ _, Below.refl _ _⟩
  case round =>
    obtain ⟨k, hk, rfl, hown, hbel⟩ := hrel
    have hsz := hbel.size
    by_cases hlt : k < ls.length
    · obtain ⟨g, u, hpg, hu, hbu⟩ := HC.out k hlt
      have hu' : wr.cell? ⟨g, k, none⟩ = some u := (hbel.cell (block_lt hu)).trans hu
      have hbu' := hbu.below hbel
      have hft := flat_take ls k hlt
      have hle := flat_le ls (k + 1)
      rw [hft, List.length_append] at hle
      have HFT : Hid _ := hft
      have HBU : Hid _ := hbu'
      have HOW : Hid (FB w.heap.size wr u3 (ls.take k).flatten) := hown
      subst hpg
      clear hft hbu hu hbu'
      generalize ls.getD k [] = l at *
      generalize (ls.take k).flatten = pl at *
      go_wp2_with (at_builtin; refine wpList_appHB rfl (.tmp 12) (.tmp 13) rfl w.heap.size u3 u pl l rfl rfl HOW.out HBU.out (by omega) hsz ?_; intro v1 w1 hown1 hgr1; have hb1 : Below w.heap.size w w1 := hbel.grown hgr1 hsz (fun j hj => (HOW.out.lt j hj).1))
      go_roundw
      case rel => exact ⟨k + 1, by omega, by go_num, by rw [HFT.out]; exact hown1, hb1⟩
      case measure => simp [intOf]; omega
    · have hke : k = ls.length := by omega
      subst hke
      rw [List.take_length] at hown
      go_wp2
      go_ret
      exact ⟨_, rfl, hown, hbel⟩
end Go.Proofs.YtekbppfocnbhbaaGreat.R5
