/- Contracts of wire's Hex, and of bytes as a text. -/
import Derived.Test.YtpklboicgjpmeaaDoorC1
import Derived.Deep.RegionLaw
import Derived.Deep.AppendLies
set_option linter.unusedVariables false
set_option linter.unusedSimpArgs false
namespace Go.Proofs.YtpklboicgjpmeaaDoor
open Go.RowKit

namespace W1
def hexd (n : Nat) : UInt8 := if n < 10 then UInt8.ofNat (48 + n) else UInt8.ofNat (87 + n)
def hex (l : List UInt8) : List UInt8 := l.flatMap fun c => [hexd (c.toNat / 16), hexd (c.toNat % 16)]
theorem hex_length (l : List UInt8) : (hex l).length = 2 * l.length := by
  induction l with
  | nil => rfl
  | cons x r ih => simp only [hex, List.flatMap_cons, List.length_append, List.length_cons, List.length_nil] at *; omega
theorem hex_take_succ (l : List UInt8) (k : Nat) (h : k < l.length) : hex (l.take (k + 1)) = hex (l.take k) ++ [hexd (l[k].toNat / 16), hexd (l[k].toNat % 16)] := by
  simp only [hex]; rw [List.take_succ_eq_append_getElem h, List.flatMap_append]; simp
end W1

/-- Bytes as a text. -/
def txt (l : List UInt8) : ByteArray := ⟨l.toArray⟩

theorem conv_hb (w : World) (v : Value) (l : List UInt8) (h : HB w v l) : (convert 28 9 v).run Tryd.prog w = .ok (.string (txt l)) w := by
  rcases h with ⟨rfl, p, cap, rfl, hpc⟩ | ⟨b, o, cap, rfl, _, _, hc⟩
  · cases p with
    | none => exact run_convert_bytes_nil w _ _ Tryd.underlying28 Tryd.underlying5 0 cap _ Tryd.underlying9
    | some a =>
      rw [run_convert_bytes_string w _ _ _ _ 0 cap Tryd.underlying28 Tryd.underlying5 Tryd.underlying9, run_bytesToString w _ 0 cap [] (by
        have := run_loadCells_list (P := Tryd.prog) w a [] (fun j u hj => by simp at hj)
        simpa using this)]
      rfl
  · rw [run_convert_bytes_arg w _ _ Tryd.underlying28 Tryd.underlying5 b o l.length cap (l.map fun x => (x.toNat : Int)) (by simp) (fun i hi => by rw [hc i hi]; simp [List.getD, List.getElem?_eq_getElem hi]) _ Tryd.underlying9]
    congr 2
    unfold strOfNums txt
    congr 2
    rw [List.map_map]
    conv => rhs; rw [← List.map_id l]
    apply List.map_congr_left
    intro x _
    simp

/-- Cells of a new block of two. -/
theorem news_two (w : World) (x y : Value) (t : TypeId) : ∀ j u, [x, y][j]? = some u → (w.alloc (.cells #[x, y] t)).cell? ((⟨w.heap.size, 0, none⟩ : Addr).add j) = some u :=
  World.news_of_block (cs := #[x, y]) (fr := (0, 0)) (heap_alloc_new _ _)

abbrev tab16 : ByteArray := { data := #[48, 49, 50, 51, 52, 53, 54, 55, 56, 57, 97, 98, 99, 100, 101, 102] }
theorem index_tab (x : Nat) (h : x < 16) (w : World) : (Instr.index 9 (.string tab16) (.int .u8 (x : Int))).run Tryd.prog w = .ok (.int .u8 ((W1.hexd x).toNat : Int)) w := by
  have h16 : x = 0 ∨ x = 1 ∨ x = 2 ∨ x = 3 ∨ x = 4 ∨ x = 5 ∨ x = 6 ∨ x = 7 ∨ x = 8 ∨ x = 9 ∨ x = 10 ∨ x = 11 ∨ x = 12 ∨ x = 13 ∨ x = 14 ∨ x = 15 := by omega
  rcases h16 with rfl | rfl | rfl | rfl | rfl | rfl | rfl | rfl | rfl | rfl | rfl | rfl | rfl | rfl | rfl | rfl <;> (show _ = _; kernel_rfl)

set_option maxHeartbeats 400000 in
theorem hex_some (b o cap : Nat) (l : List UInt8) (w : World) (hr : l.length ≤ 70368744175616) (hc : ∀ i, i < l.length → w.cell? ⟨b, o + i, none⟩ = some (.int .u8 ((l.getD i 0).toNat : Int))) :
    Calls Tryd.prog 27 #[.slice (some ⟨b, o, none⟩) l.length cap] w fun e w' => e = .returned (.string (txt (W1.hex l))) ∧ Below w.heap.size w w' := by
  obtain ⟨i0, hi, hz0, hz1, hz2⟩ := info_parts Tryd.infoU8
  go_enter Tryd.func27, Tryd.ntmps27
  go_wp2_with (at_make; refine wpList_make_own _ rfl _ _ 28 rfl w.heap.size 5 i0 (.int .u8 0) 1 Tryd.underlying28 hi hz0 hz1 _ _ _ (2 * l.length) rfl rfl (by omega) ?b2 ?b3 (Nat.le_refl _) ?_)
  case b2 => rw [hz2]; omega
  case b3 => unfold maxLen; omega
  intro w0 hown0 hgrow0
  go_wp2
  go_loopw [3, 12] (fun v i wr => ∃ k : Nat, k ≤ l.length ∧ i = .int .i64 k ∧ FB w.heap.size wr v (W1.hex (l.take k)) ∧ Below w.heap.size w wr)
    (fun _ i _ => l.length - (intOf i).toNat)
  case atStart => exact ⟨0, Nat.zero_le _, rfl, hown0, (Below.refl _ _).grown hgrow0 (Nat.le_refl _) (fun k h => by cases h)⟩
  case round =>
    obtain ⟨k, hk, rfl, hown, hbel⟩ := hrel
    by_cases hlt : k < l.length
    · have hcx : wr.cell? ⟨b, o + k, none⟩ = some (.int .u8 ((l.getD k 0).toNat : Int)) := (hbel.cell (block_lt (hc k hlt))).trans (hc k hlt)
      rw [show l.getD k 0 = l[k] by simp [List.getD, List.getElem?_eq_getElem hlt]] at hcx
      have hstep := W1.hex_take_succ l k hlt
      have hl2 := W1.hex_length (l.take k)
      rw [List.length_take, Nat.min_eq_left (by omega)] at hl2
      generalize l[k] = c at hcx hstep
      have hx := c.toNat_lt
      have e1 : ((c.toNat / 16 : Nat) : Int) = (c.toNat : Int) / 16 := by omega
      have e2 : ((c.toNat % 16 : Nat) : Int) = (c.toNat : Int) % 16 := by omega
      have h3 := fun wx => index_tab (c.toNat / 16) (by omega) wx
      have h6 := fun wx => index_tab (c.toNat % 16) (by omega) wx
      rw [e1] at h3
      rw [e2] at h6
      have h5 := u8_and15 (x := (c.toNat : Int)) (by omega) (by omega)
      have HS : Hid _ := hstep
      have HL : Hid _ := hl2
      have hsz := hbel.size
      clear hown0 hgrow0 hstep hl2 e1 e2
      go_wp2
      go_region_law (refine step_append_lies _ rfl (.tmp 16) (.tmp 23) 28 rfl w.heap.size 5 i0 (.int .u8 0) 1 1 Tryd.underlying28 hi hz0 hz1 hz2 rfl (by decide) u3 _ _ (by simp [Act.eval, Act.put]) (by exact hown.drew.alloc _) ⟨wr.heap.size, 0, none⟩ 2 2 [B8 (W1.hexd (c.toNat / 16)), B8 (W1.hexd (c.toNat % 16))] (by simp [Act.eval, Act.put]) rfl (by exact news_two _ _ _ _) (by intro u hu; simp at hu; rcases hu with rfl | rfl <;> rfl) (by decide) (by rw [HL.out]; unfold maxLen; omega) (by rw [HL.out]; omega) (by simp; omega) _ rfl ?_; intro g cap' w' hown' hgr hg hlt')
      all_goals
        go_wp2
        go_roundw
        case rel =>
          refine ⟨k + 1, by omega, by go_num, ?_, (hbel.drew.alloc hbel.size _).grown hgr (by simp; omega) (fun j hj => (hown.lt j hj).1)⟩
          unfold FB
          rw [HS.out, List.length_append, List.map_append]
          exact hown'
        case measure => simp [intOf]; omega
    · have : k = l.length := by omega
      subst this
      rw [List.take_length] at hown
      have hcv := conv_hb wr _ _ hown.hb
      go_wp2
      go_ret
      exact ⟨rfl, hbel⟩

set_option maxHeartbeats 400000 in
theorem hex_any (v : Value) (l : List UInt8) (w : World) (hr : l.length ≤ 70368744175616) (h : HB w v l) :
    Calls Tryd.prog 27 #[v] w fun e w' => e = .returned (.string (txt (W1.hex l))) ∧ Below w.heap.size w w' := by
  rcases h with ⟨rfl, p, cap, rfl, hpc⟩ | ⟨b, o, cap, rfl, _, _, hc⟩
  · obtain ⟨i0, hi, hz0, hz1, hz2⟩ := info_parts Tryd.infoU8
    go_enter Tryd.func27, Tryd.ntmps27
    go_wp2_with (at_make; refine wpList_make_own _ rfl _ _ 28 rfl w.heap.size 5 i0 (.int .u8 0) 1 Tryd.underlying28 hi hz0 hz1 _ _ _ 0 rfl rfl (by omega) ?b2 ?b3 (Nat.le_refl _) ?_)
    case b2 => rw [hz2]; omega
    case b3 => unfold maxLen; omega
    intro w0 hown0 hgrow0
    have hfb : FB w.heap.size w0 (.slice (some ⟨w.heap.size, 0, none⟩) 0 0) [] := hown0
    have hcv := conv_hb w0 _ _ hfb.hb
    go_wp2
    refine wp_loop_rounds 1 ?_
    rw [rounds_succ]
    go_wp2
    go_ret
    exact ⟨rfl, (Below.refl _ _).grown hgrow0 (Nat.le_refl _) (fun k h => by cases h)⟩
  · exact hex_some b o cap l w hr hc

end Go.Proofs.YtpklboicgjpmeaaDoor
