/- Contract of wire's Join. -/
import Derived.Test.YtbmgfllilcdgcaaP2
import Derived.Test.YtbmgfllilcdgcaaC1
set_option linter.unusedVariables false
set_option linter.unusedSimpArgs false
namespace Go.Proofs.Ytbmgfllilcdgcaa
open Go.RowKit

theorem flat_take (ls : List (List UInt8)) (k : Nat) (h : k < ls.length) : (ls.take (k + 1)).flatten = (ls.take k).flatten ++ ls.getD k [] := by
  rw [List.take_succ_eq_append_getElem h, List.flatten_append]
  simp [List.getD, List.getElem?_eq_getElem h]
theorem flat_le (ls : List (List UInt8)) (k : Nat) : (ls.take k).flatten.length ≤ ls.flatten.length := by
  have h : (ls.take k ++ ls.drop k).flatten = ls.flatten := by rw [List.take_append_drop]
  rw [← h, List.flatten_append, List.length_append]; omega

set_option maxHeartbeats 2000000 in
theorem join_any (g cap : Nat) (ls : List (List UInt8)) (w : World) (hl : ls.length ≤ 1048576) (hr : ls.flatten.length ≤ 1099511627776) (hc : ∀ i, i < ls.length → ∃ u, w.cell? ⟨g, i, none⟩ = some u ∧ HB w u (ls.getD i [])) :
    Calls Try.prog 30 #[.slice (some ⟨g, 0, none⟩) ls.length cap] w fun e w' => ∃ v, e = .returned v ∧ FB w.heap.size w' v ls.flatten ∧ Below w.heap.size w w' := by
  obtain ⟨i0, hi, hz0, hz1, hz2⟩ := info_parts Try.infoU8
  have HC : Hid _ := hc
  clear hc
  go_enter Try.func30, Try.ntmps30
  go_wp2
  go_loopw [3, 8] (fun v i wr => ∃ k : Nat, k ≤ ls.length ∧ i = .int .i64 k ∧ FB w.heap.size wr v (ls.take k).flatten ∧ Below w.heap.size w wr) (fun _ i _ => ls.length - (intOf i).toNat)
  case atStart => exact ⟨0, Nat.zero_le _, rfl, World.ownsRow_nil _ _ _ _, Below.refl _ _⟩
  case round =>
    obtain ⟨k, hk, rfl, hown, hbel⟩ := hrel
    have hsz := hbel.size
    by_cases hlt : k < ls.length
    · obtain ⟨u, hu, hbu⟩ := HC.out k hlt
      have hu' : wr.cell? ⟨g, k, none⟩ = some u := (hbel.cell (block_lt hu)).trans hu
      have hbu' := hbu.below hbel
      have hft := flat_take ls k hlt
      have hle := flat_le ls (k + 1)
      rw [hft, List.length_append] at hle
      have HFT : Hid _ := hft
      clear hft hbu hu
      generalize ls.getD k [] = l at *
      generalize (ls.take k).flatten = pl at *
      obtain ⟨p, cp, rfl, hpn, hpc⟩ := hbu'.cells'
      cases p with
      | none =>
        obtain ⟨rfl, rfl⟩ := hpn rfl
        clear hpn hpc hbu'
        go_wp2_with (at_builtin; refine wpList_append_own_none rfl (.tmp 12) (.tmp 13) 31 rfl w.heap.size 5 i0 1 Try.underlying31 hi u3 _ _ rfl (by exact hown) rfl ?_)
        go_roundw
        case rel => exact ⟨k + 1, by omega, by go_num, by rw [HFT.out, List.append_nil]; exact hown, hbel⟩
        case measure => simp [intOf]; omega
      | some a =>
        have HPC : Hid _ := hpc a rfl
        clear hpn hpc hbu'
        go_wp2_with (at_builtin; refine wpList_append_own _ rfl (.tmp 12) (.tmp 13) 31 rfl w.heap.size 5 i0 (.int .u8 0) 1 1 Try.underlying31 hi hz0 hz1 hz2 rfl (by decide) u3 _ _ rfl (by exact hown) a l.length cp (l.map B8) rfl (by simp) (by exact HPC.out) (B8_one' l) (by unfold maxLen; omega) (by omega) hsz ?_; intro v1 w1 hown1 hgr1 hn1; have hb1 : Below w.heap.size w w1 := hbel.grown hgr1 hsz (fun j hj => (hown.lt j hj).1))
        go_roundw
        case rel =>
          refine ⟨k + 1, by omega, by go_num, ?_, hb1⟩
          rw [HFT.out]
          unfold FB
          rw [List.length_append, List.map_append]
          exact hown1
        case measure => simp [intOf]; omega
    · have ht : ls.take k = ls := List.take_of_length_le (by omega)
      rw [ht] at hown
      clear ht
      go_wp2
      go_ret
      exact ⟨_, rfl, hown, hbel⟩

end Go.Proofs.Ytbmgfllilcdgcaa
