/- Contracts of wire's Put, Get and Turned. -/
import Derived.Test.YtekbppfocnbhbaaGreatB1
set_option linter.unusedVariables false
set_option linter.unusedSimpArgs false
namespace Go.Proofs.YtekbppfocnbhbaaGreat
open Go.RowKit

theorem shr_zero (n size : Nat) (hf : n < 256 ^ size) : ((n : Int) / 2 ^ (8 * size) != 0) = false := by
  have : ((2 : Int) ^ (8 * size)) = ((256 ^ size : Nat) : Int) := by rw [← W1.pow256]; simp
  rw [this, bne_eq_false_iff_eq, ← Int.natCast_ediv, Nat.div_eq_of_lt hf]; rfl

theorem shr_nonzero (n size : Nat) (hf : 256 ^ size ≤ n) : ((n : Int) / 2 ^ (8 * size) != 0) = true := by
  have : ((2 : Int) ^ (8 * size)) = ((256 ^ size : Nat) : Int) := by rw [← W1.pow256]; simp
  rw [this, bne_iff_ne, ← Int.natCast_ediv]
  have := Nat.div_pos hf (Nat.pow_pos (by decide))
  omega

set_option maxHeartbeats 400000 in
theorem put_ok (n : Nat) (size : Nat) (w : World) (h1 : 1 ≤ size) (h8 : size ≤ 8) (hn : n < 18446744073709551616) (hf : n < 256 ^ size) :
    Calls Tryz.prog 81 #[.int .u64 (n : Int), .int .i64 (size : Int)] w fun e w' => e = .returned (.tuple #[.slice (some ⟨w.heap.size, 0, none⟩) size size, .int .i64 0]) ∧ FB w.heap.size w' (.slice (some ⟨w.heap.size, 0, none⟩) size size) (W1.le size n) ∧ Below w.heap.size w w' := by
  have hsh := shr_zero n size hf
  clear hf
  go_enter Tryz.func81, Tryz.ntmps81
  go_wp2_with (go_at_call 98; refine (lowestFirst_any _ _ _ hn h8).mono ?_; rintro e w1 ⟨rfl, hfb, hbel⟩)
  go_ret2
  exact ⟨rfl, hfb, hbel⟩

set_option maxHeartbeats 400000 in
theorem put_no (n : Nat) (size : Int) (w : World) (hno : size < 1 ∨ 8 < size ∨ ∃ s : Nat, size = s ∧ 1 ≤ s ∧ s ≤ 8 ∧ 256 ^ s ≤ n) :
    Calls Tryz.prog 81 #[.int .u64 (n : Int), .int .i64 size] w fun e w' => e = .returned (.tuple #[.slice none 0 0, .int .i64 2]) ∧ w = w' := by
  rcases hno with h | h | ⟨s, rfl, h1, h8, hf⟩
  · go_enter Tryz.func81, Tryz.ntmps81
    go_wp2
    go_ret2
    exact ⟨rfl, rfl⟩
  · have h1 : ¬ size < 1 := by omega
    go_enter Tryz.func81, Tryz.ntmps81
    go_wp2
    go_ret2
    exact ⟨rfl, rfl⟩
  · have hsh := shr_nonzero n s hf
    clear hf
    go_enter Tryz.func81, Tryz.ntmps81
    go_wp2
    go_ret2
    exact ⟨rfl, rfl⟩


theorem turn_set (l : List UInt8) (k : Nat) (h : k < l.length) : (List.replicate (l.length - k) (0 : UInt8) ++ (l.take k).reverse).set (l.length - 1 - k) l[k] = List.replicate (l.length - (k + 1)) 0 ++ (l.take (k + 1)).reverse := by
  rw [List.take_succ_eq_append_getElem h, List.reverse_append, show l.length - k = (l.length - (k + 1)) + 1 by omega, List.replicate_succ', List.append_assoc, List.set_append_right _ _ (by simp; omega)]
  simp [show l.length - 1 - k - (l.length - (k + 1)) = 0 by omega]

set_option maxHeartbeats 400000 in
theorem turned_some (b o cap : Nat) (l : List UInt8) (w : World) (hr : l.length ≤ 140737488351232) (hc : ∀ i, i < l.length → w.cell? ⟨b, o + i, none⟩ = some (.int .u8 ((l.getD i 0).toNat : Int))) :
    Calls Tryz.prog 160 #[.slice (some ⟨b, o, none⟩) l.length cap] w fun e w' => e = .returned (.slice (some ⟨w.heap.size, 0, none⟩) l.length l.length) ∧ FB w.heap.size w' (.slice (some ⟨w.heap.size, 0, none⟩) l.length l.length) l.reverse ∧ Below w.heap.size w w' := by
  obtain ⟨i0, hi, hz0, hz1, hz2⟩ := info_parts Tryz.infoU8
  go_enter Tryz.func160, Tryz.ntmps160
  go_wp2_with (at_make; refine wpList_make_full _ rfl _ _ 106 rfl w.heap.size 5 i0 (.int .u8 0) 1 Tryz.underlying106 hi hz0 hz1 _ _ _ _ l.length rfl rfl (by omega) (by omega) ?b2 ?b3 (Nat.le_refl _) ?_)
  case b2 => rw [hz2]; omega
  case b3 => unfold maxLen; omega
  intro w0 hown0 hgrow0
  go_wp2
  go_loopw [10] (fun i wr => ∃ k : Nat, k ≤ l.length ∧ i = .int .i64 k ∧ wr.ownsRow w.heap.size 5 1 (.slice (some ⟨w.heap.size, 0, none⟩) l.length l.length) l.length ((List.replicate (l.length - k) 0 ++ (l.take k).reverse).map B8) ∧ Below w.heap.size w wr)
    (fun i _ => l.length - (intOf i).toNat)
  case atStart =>
    refine ⟨0, Nat.zero_le _, rfl, ?_, (Below.refl _ _).grown hgrow0 (Nat.le_refl _) (fun k h => by cases h)⟩
    rw [toList_madeCells_one] at hown0
    simpa [B8] using hown0
  case round =>
    obtain ⟨k, hk, rfl, hown, hbel⟩ := hrel
    by_cases hlt : k < l.length
    · have hst := hown.stored (l.length - 1 - k) (B8 l[k])
      have hce := hown.cellAt (l.length - 1 - k) (by omega)
      have hfz := hown.frozenAt (l.length - 1 - k)
      rw [List.map_append, List.getElem?_append_left (by simp; omega)] at hce
      simp only [List.map_replicate] at hce
      rw [List.getElem?_replicate, if_pos (by omega)] at hce
      have hcx : wr.cell? ⟨b, o + k, none⟩ = some (.int .u8 ((l.getD k 0).toNat : Int)) := (hbel.cell (block_lt (hc k hlt))).trans (hc k hlt)
      have HST : Hid _ := hst
      clear hst hown0 hgrow0 hown
      go_wp2
      go_roundw
      case rel =>
        have hst := HST.out
        rw [← List.map_set, turn_set l k hlt] at hst
        exact ⟨k + 1, by omega, by go_num, hst.1, hbel.setCell (p := ⟨w.heap.size, l.length - 1 - k, none⟩) (Nat.le_refl _) _⟩
      case measure => simp [intOf]; omega
    · have : k = l.length := by omega
      subst this
      go_wp2
      go_ret
      refine ⟨rfl, ?_, hbel⟩
      unfold FB
      simpa using hown

set_option maxHeartbeats 400000 in
theorem turned_any (v : Value) (l : List UInt8) (w : World) (hr : l.length ≤ 140737488351232) (h : HB w v l) :
    Calls Tryz.prog 160 #[v] w fun e w' => e = .returned (.slice (some ⟨w.heap.size, 0, none⟩) l.length l.length) ∧ FB w.heap.size w' (.slice (some ⟨w.heap.size, 0, none⟩) l.length l.length) l.reverse ∧ Below w.heap.size w w' := by
  rcases h with ⟨rfl, p, cap, rfl, hpc⟩ | ⟨b, o, cap, rfl, _, _, hc⟩
  · obtain ⟨i0, hi, hz0, hz1, hz2⟩ := info_parts Tryz.infoU8
    go_enter Tryz.func160, Tryz.ntmps160
    go_wp2_with (at_make; refine wpList_make_full _ rfl _ _ 106 rfl w.heap.size 5 i0 (.int .u8 0) 1 Tryz.underlying106 hi hz0 hz1 _ _ _ _ 0 rfl rfl (by omega) (by omega) ?b2 ?b3 (Nat.le_refl _) ?_)
    case b2 => rw [hz2]; omega
    case b3 => unfold maxLen; omega
    intro w0 hown0 hgrow0
    go_wp2
    refine wp_loop_rounds 1 ?_
    rw [rounds_succ]
    go_wp2
    go_ret
    refine ⟨rfl, ?_, (Below.refl _ _).grown hgrow0 (Nat.le_refl _) (fun k h => by cases h)⟩
    rw [toList_madeCells_one] at hown0
    unfold FB
    simpa using hown0
  · exact turned_some b o cap l w hr hc

end Go.Proofs.YtekbppfocnbhbaaGreat
