/- Contracts of wire's functions that make bytes: a number's bytes, laid into new memory. -/
import Derived.Test.YtpklboicgjpmeaaDoorA1
set_option linter.unusedVariables false
set_option linter.unusedSimpArgs false
namespace Go.Proofs.YtpklboicgjpmeaaDoor
open Go.RowKit

/-- A byte as a cell holds it. -/
def B8 (x : UInt8) : Value := .int .u8 (x.toNat : Int)

/-- The value v is a slice of the bytes l in memory from block 'base' on, of its own. -/
def FB (base : Nat) (w : World) (v : Value) (l : List UInt8) : Prop := w.ownsRow base 5 1 v l.length (l.map B8)

theorem FB.hb {base : Nat} {w : World} {v : Value} {l : List UInt8} (h : FB base w v l) : HB w v l := by
  rcases h.2 with ⟨h1, h2⟩ | ⟨g, cap, cur, h1, h2, h3, h4, h5, h6⟩
  · exact .inl ⟨List.eq_nil_of_length_eq_zero h2, none, 0, h1, fun _ => rfl⟩
  · refine .inr ⟨g, 0, cap, h1, h4, h5, fun i hi => ?_⟩
    subst h1
    have := h.cellAt (g := g) i (by omega)
    rw [Nat.zero_add, this, List.getElem?_map, List.getElem?_eq_getElem hi]
    simp [B8, List.getD, List.getElem?_eq_getElem hi]

theorem Tryd.infoU8 : (Tryd.prog.info? 5).map (fun i => (i.zero, i.size, i.bytes)) = some (some (.int .u8 0), 1, 1) := by kernel_rfl

theorem le_set (s n k : Nat) (h : k < s) : ((W1.le s n).take k ++ List.replicate (s - k) (0 : UInt8)).set k (UInt8.ofNat (n / 256 ^ k % 256)) = (W1.le s n).take (k + 1) ++ List.replicate (s - (k + 1)) 0 := by
  have hlen := W1.le_length s n
  have hk : k < (W1.le s n).length := by omega
  have hg := W1.le_get s n k h
  rw [List.getElem?_eq_getElem hk, Option.some.injEq] at hg
  rw [List.take_succ_eq_append_getElem hk, hg, List.set_append_right _ _ (by simp; omega), List.length_take, Nat.min_eq_left (by omega), Nat.sub_self, show s - k = (s - (k + 1)) + 1 by omega, List.replicate_succ, List.set_cons_zero]
  simp

set_option maxHeartbeats 400000 in
theorem lowestFirst_any (n : Nat) (size : Nat) (w : World) (hn : n < 18446744073709551616) (hs : size ≤ 8) :
    Calls Tryd.prog 53 #[.int .u64 (n : Int), .int .i64 (size : Int)] w fun e w' => e = .returned (.slice (some ⟨w.heap.size, 0, none⟩) size size) ∧ FB w.heap.size w' (.slice (some ⟨w.heap.size, 0, none⟩) size size) (W1.le size n) ∧ Below w.heap.size w w' := by
  obtain ⟨i0, hi, hz0, hz1, hz2⟩ := info_parts Tryd.infoU8
  go_enter Tryd.func53, Tryd.ntmps53
  go_wp2_with (at_make; refine wpList_make_full _ rfl _ _ 28 rfl w.heap.size 5 i0 (.int .u8 0) 1 Tryd.underlying28 hi hz0 hz1 _ _ _ _ size rfl rfl (by omega) (by omega) ?b2 ?b3 (Nat.le_refl _) ?_)
  case b2 => rw [hz2]; omega
  case b3 => unfold maxLen; omega
  intro w0 hown0 hgrow0
  go_wp2
  go_loopw [10] (fun i wr => ∃ k : Nat, k ≤ size ∧ i = .int .i64 k ∧ wr.ownsRow w.heap.size 5 1 (.slice (some ⟨w.heap.size, 0, none⟩) size size) size (((W1.le size n).take k ++ List.replicate (size - k) 0).map B8) ∧ Below w.heap.size w wr)
    (fun i _ => size - (intOf i).toNat)
  case atStart =>
    refine ⟨0, Nat.zero_le _, rfl, ?_, (Below.refl _ _).grown hgrow0 (Nat.le_refl _) (fun k h => by cases h)⟩
    rw [toList_madeCells_one] at hown0
    simpa [B8] using hown0
  case round =>
    obtain ⟨k, hk, rfl, hown, hbel⟩ := hrel
    by_cases hlt : k < size
    · have hst := hown.stored k (B8 (UInt8.ofNat (n / 256 ^ k % 256)))
      have hlen := W1.le_length size n
      have hce := hown.cellAt k (by omega)
      have hfz := hown.frozenAt k
      rw [List.map_append, List.getElem?_append_right (by simp; omega)] at hce
      simp only [List.length_map, List.length_take, hlen, Nat.min_eq_left (show k ≤ size by omega), Nat.sub_self, List.map_replicate] at hce
      rw [List.getElem?_replicate, if_pos (by omega)] at hce
      have HS : Hid _ := W1.shr_byte k n hn
      have HST : Hid _ := hst
      clear hst hown0 hgrow0 hown hlen
      go_wp2
      go_roundw
      case rel =>
        have hst := HST.out
        rw [← List.map_set, le_set size n k hlt] at hst
        refine ⟨k + 1, by omega, by go_num, ?_, hbel.setCell (p := ⟨w.heap.size, k, none⟩) (Nat.le_refl _) _⟩
        have e := HS.out
        unfold B8 at hst
        rw [← e] at hst
        exact hst.1
      case measure => simp [intOf]; omega
    · have : k = size := by omega
      subst this
      go_wp2
      go_ret
      refine ⟨rfl, ?_, hbel⟩
      unfold FB
      rw [W1.le_length]
      simpa [List.take_of_length_le (show (W1.le k n).length ≤ k by rw [W1.le_length]; omega)] using hown

end Go.Proofs.YtpklboicgjpmeaaDoor
