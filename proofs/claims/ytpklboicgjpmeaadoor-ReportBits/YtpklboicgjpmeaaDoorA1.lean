/- Contracts of the inner functions of wire: a digit's worth; a number's bytes, and the number of bytes; a piece of bytes. -/
import Derived.Test.YtpklboicgjpmeaaDoorRows
import Derived.Test.YtpklboicgjpmeaaDoorM1
import Derived.WalkKit
import Derived.WalkSpells
import Derived.WalkLawsBesides
set_option linter.unusedVariables false
set_option linter.unusedSimpArgs false
namespace Go.Proofs.YtpklboicgjpmeaaDoor
open Go.RowKit

/-- The value v is a slice of the bytes l in the world w. -/
def HB (w : World) (v : Value) (l : List UInt8) : Prop :=
  (l = [] ∧ ∃ p cap, v = .slice p 0 cap ∧ (p = none → cap = 0)) ∨ (∃ b o cap, v = .slice (some ⟨b, o, none⟩) l.length cap ∧ l.length ≤ cap ∧ cap ≤ maxLen ∧ ∀ i, i < l.length → w.cell? ⟨b, o + i, none⟩ = some (.int .u8 ((l.getD i 0).toNat : Int)))

theorem ret_int {k : IntKind} {a b : Int} (h : a = b) : Ending.returned (.int k a) = .returned (.int k b) := by rw [h]

theorem block_lt {w : World} {a : Addr} {v : Value} (h : w.cell? a = some v) : a.block < w.heap.size := by
  rcases Nat.lt_or_ge a.block w.heap.size with h1 | h1
  · exact h1
  · have : w.heap[a.block]? = none := Array.getElem?_eq_none h1
    simp [World.cell?, this] at h

/-- What is kept below B keeps a slice that lies below B. -/
theorem HB.below {w w' : World} {v : Value} {l : List UInt8} (h : HB w v l) (hb : Below w.heap.size w w') : HB w' v l := by
  rcases h with ⟨h1, h2⟩ | ⟨b, o, cap, h1, h2, h3, h4⟩
  · exact .inl ⟨h1, h2⟩
  · refine .inr ⟨b, o, cap, h1, h2, h3, fun i hi => ?_⟩
    have hc := h4 i hi
    rw [hb.cell (p := ⟨b, o + i, none⟩) (block_lt hc)]
    exact hc

/-- A digit's worth. -/
def dig (c : Nat) : Option Nat := if 48 ≤ c ∧ c ≤ 57 then some (c - 48) else if 97 ≤ c ∧ c ≤ 102 then some (c - 87) else none

set_option maxHeartbeats 400000 in
theorem digit_any (c : UInt8) (w : World) :
    Calls Tryd.prog 63 #[.int .u8 (c.toNat : Int)] w fun e w' => e = .returned (.tuple #[.int .u8 (((dig c.toNat).getD 0 : Nat) : Int), .bool (dig c.toNat).isSome]) ∧ w = w' := by
  have h0 := c.toNat_lt
  go_enter Tryd.func63, Tryd.ntmps63
  go_wp2
  all_goals go_ret2
  · refine ⟨?_, rfl⟩
    rw [show dig c.toNat = some (c.toNat - 48) by unfold dig; rw [if_pos (by omega)]]
    simp; omega
  · refine ⟨?_, rfl⟩
    rw [show dig c.toNat = some (c.toNat - 87) by unfold dig; rw [if_neg (by omega), if_pos (by omega)]]
    simp; omega
  all_goals
    refine ⟨?_, rfl⟩
    rw [show dig c.toNat = none by unfold dig; rw [if_neg (by omega), if_neg (by omega)]]
    simp

set_option maxHeartbeats 400000 in
theorem number_some (b o cap : Nat) (l : List UInt8) (w : World) (hl : l.length ≤ 8) (hc : ∀ i, i < l.length → w.cell? ⟨b, o + i, none⟩ = some (.int .u8 ((l.getD i 0).toNat : Int))) :
    Calls Tryd.prog 46 #[.slice (some ⟨b, o, none⟩) l.length cap] w fun e w' => e = .returned (.int .u64 (W1.num l : Int)) ∧ w = w' := by
  go_enter Tryd.func46, Tryd.ntmps46
  go_wp2
  go_loop [3, 7] (fun n i => ∃ k : Nat, k ≤ l.length ∧ i = .int .i64 k ∧ n = .int .u64 (W1.num (l.take k) : Int)) (fun _ i => l.length - (intOf i).toNat)
  case atStart => exact ⟨0, Nat.zero_le _, rfl, rfl⟩
  case round =>
    obtain ⟨k, hk, rfl, rfl⟩ := hrel
    by_cases hlt : k < l.length
    · have hcx := hc k hlt
      have hnum := W1.num_take_succ l k hlt
      have hlo := W1.num_lt (l.take k)
      rw [List.length_take, Nat.min_eq_left (by omega)] at hlo
      have hs := W1.or_step k _ l[k] (by omega) hlo
      rw [← hnum] at hs
      have HS : Hid _ := hs
      clear hs hnum hlo
      go_wp2
      go_round
      case rel => exact ⟨k + 1, by omega, by go_num, by rw [HS.out]⟩
      case measure => simp [intOf]; omega
    · go_wp2
      go_ret
      exact ⟨ret_int (by rw [List.take_of_length_le (by omega)]), rfl⟩

theorem number_any (v : Value) (l : List UInt8) (w : World) (hl : l.length ≤ 8) (h : HB w v l) :
    Calls Tryd.prog 46 #[v] w fun e w' => e = .returned (.int .u64 (W1.num l : Int)) ∧ w = w' := by
  rcases h with ⟨rfl, p, cap, rfl, hpc⟩ | ⟨b, o, cap, rfl, _, _, hc⟩
  · go_enter Tryd.func46, Tryd.ntmps46
    go_wp2
    refine wp_loop_rounds 1 ?_
    rw [rounds_succ]
    go_wp2
    go_ret
    exact ⟨rfl, rfl⟩
  · exact number_some b o cap l w hl hc

end Go.Proofs.YtpklboicgjpmeaaDoor
