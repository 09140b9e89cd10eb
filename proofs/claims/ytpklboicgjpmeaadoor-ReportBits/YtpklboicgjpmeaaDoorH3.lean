/- Contract of the reference's Hex. -/
import Derived.Test.YtpklboicgjpmeaaDoorD1
set_option linter.unusedVariables false
set_option linter.unusedSimpArgs false
namespace Go.Proofs.YtpklboicgjpmeaaDoor
open Go.RowKit

abbrev tabr : ByteArray := { data := #[48, 49, 50, 51, 52, 53, 54, 55, 56, 57, 97, 98, 99, 100, 101, 102] }
theorem index_tabr (x : Nat) (h : x < 16) (w : World) : (Instr.index 9 (.string tabr) (.int .u8 (x : Int))).run Tryd.prog w = .ok (.int .u8 ((W1.hexd x).toNat : Int)) w := by
  have h16 : x = 0 ∨ x = 1 ∨ x = 2 ∨ x = 3 ∨ x = 4 ∨ x = 5 ∨ x = 6 ∨ x = 7 ∨ x = 8 ∨ x = 9 ∨ x = 10 ∨ x = 11 ∨ x = 12 ∨ x = 13 ∨ x = 14 ∨ x = 15 := by omega
  rcases h16 with rfl | rfl | rfl | rfl | rfl | rfl | rfl | rfl | rfl | rfl | rfl | rfl | rfl | rfl | rfl | rfl <;> (show _ = _; kernel_rfl)

set_option maxHeartbeats 2000000 in
theorem hexr_some (b o cap : Nat) (l : List UInt8) (w : World) (hr : l.length ≤ 70368744175616) (hc : ∀ i, i < l.length → w.cell? ⟨b, o + i, none⟩ = some (.int .u8 ((l.getD i 0).toNat : Int))) :
    Calls Tryd.prog 29 #[.slice (some ⟨b, o, none⟩) l.length cap] w fun e w' => e = .returned (.string (txt (W1.hex l))) ∧ Below w.heap.size w w' := by
  obtain ⟨i0, hi, hz0, hz1, hz2⟩ := info_parts Tryd.infoU8
  have HC : Hid _ := hc
  clear hc
  go_enter Tryd.func29, Tryd.ntmps29
  go_wp2
  go_loopw [3, 4] (fun v i wr => ∃ k : Nat, k ≤ l.length ∧ i = .int .i64 k ∧ FB w.heap.size wr v (W1.hex (l.take k)) ∧ Below w.heap.size w wr)
    (fun _ i _ => l.length - (intOf i).toNat)
  case atStart => exact ⟨0, Nat.zero_le _, rfl, World.ownsRow_nil _ _ _ _, Below.refl _ _⟩
  case round =>
    obtain ⟨k, hk, rfl, hown, hbel⟩ := hrel
    by_cases hlt : k < l.length
    · have hcx : wr.cell? ⟨b, o + k, none⟩ = some (.int .u8 ((l.getD k 0).toNat : Int)) := (hbel.cell (block_lt (HC.out k hlt))).trans (HC.out k hlt)
      rw [show l.getD k 0 = l[k] by simp [List.getD, List.getElem?_eq_getElem hlt]] at hcx
      have hstep := W1.hex_take_succ l k hlt
      have hl2 := W1.hex_length (l.take k)
      rw [List.length_take, Nat.min_eq_left (by omega)] at hl2
      generalize l[k] = c at hcx hstep
      have hx := c.toNat_lt
      have e1 : ((c.toNat / 16 : Nat) : Int) = (c.toNat : Int) / 16 := by omega
      have e2 : ((c.toNat % 16 : Nat) : Int) = (c.toNat : Int) % 16 := by omega
      have h3 := fun wx => index_tabr (c.toNat / 16) (by omega) wx
      have h6 := fun wx => index_tabr (c.toNat % 16) (by omega) wx
      rw [e1] at h3
      rw [e2] at h6
      have q1 : IntKind.u8.wrap ((c.toNat : Int) / 16) = (c.toNat : Int) / 16 := by rw [IntKind.wrap_u8]; omega
      have q2 : IntKind.u8.wrap ((c.toNat : Int) % 16) = (c.toNat : Int) % 16 := by rw [IntKind.wrap_u8]; omega
      have q3 : ((c.toNat : Int)).tmod 16 = (c.toNat : Int) % 16 := Int.tmod_eq_emod_of_nonneg (by omega)
      have HS : Hid _ := hstep
      have HL : Hid _ := hl2
      have hsz := hbel.size
      have hi1 : (0 : Int) ≤ (k : Int) ∧ (k : Int) < (l.length : Int) := by omega
      clear hstep hl2 e1 e2
      go_wp2
      go_region_law (refine step_append_lies _ rfl (.tmp 11) (.tmp 24) 28 rfl w.heap.size 5 i0 (.int .u8 0) 1 1 Tryd.underlying28 hi hz0 hz1 hz2 rfl (by decide) u3 _ _ (by simp [Act.eval, Act.put]) (by exact hown.drew.alloc _) ⟨wr.heap.size, 0, none⟩ 2 2 [B8 (W1.hexd (c.toNat / 16)), B8 (W1.hexd (c.toNat % 16))] (by simp [Act.eval, Act.put]) rfl (by exact news_two _ _ _ _) (by intro u hu; simp at hu; rcases hu with rfl | rfl <;> rfl) (by decide) (by rw [HL.out]; unfold maxLen; omega) (by rw [HL.out]; omega) (by simp; omega) _ rfl ?_; intro g cap' w' hown' hgr hg hlt')
      all_goals
        go_wp2
        go_roundw
        case rel =>
          refine ⟨k + 1, by omega, by go_num, ?_, (hbel.drew.alloc hbel.size _).grown hgr (by simp; omega) (fun j hj => (hown.lt j hj).1)⟩
          unfold FB
          rw [HS.out, List.length_append, List.map_append]
          exact hown'
        case measure => simp [intOf]; omega
    · have : k = l.length := by omega
      subst this
      rw [List.take_length] at hown
      have hcv := conv_hb wr _ _ hown.hb
      go_wp2
      go_ret
      exact ⟨rfl, hbel⟩

end Go.Proofs.YtpklboicgjpmeaaDoor
