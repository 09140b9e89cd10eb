/- Several texts in one. -/
import Derived.WalkKit
import Derived.Test.YtbmmibmfjhehhaaGreatRows
import Derived.WalkSpells
import Derived.WalkLawsBesides
import Derived.Deep.RegionLaw
import Derived.Deep.AppendLies
set_option linter.unusedVariables false
set_option linter.unusedSimpArgs false
/- Plain facts on bytes and numbers: the lowest first; frames; hexadecimal. No function of the program is named here. -/
namespace Go.Proofs.YtbmmibmfjhehhaaGreat
theorem qT {α : Type _} (l : List α) (i : Nat) (a : α) : l.toArray.setIfInBounds i a = (l.set i a).toArray := List.setIfInBounds_toArray l i a
theorem q0 {α : Type _} (a b : α) (bs : List α) : (a :: bs).set 0 b = b :: bs := rfl
theorem qS {α : Type _} (a b : α) (bs : List α) (i : Nat) : (a :: bs).set (i + 1) b = a :: bs.set i b := rfl
namespace W1

def le : Nat → Nat → List UInt8
  | 0, _ => []
  | s + 1, n => UInt8.ofNat (n % 256) :: le s (n / 256)

theorem le_length (s n : Nat) : (le s n).length = s := by
  induction s generalizing n with
  | zero => rfl
  | succ s ih => simp [le, ih]

theorem le_get (s n i : Nat) (h : i < s) : (le s n)[i]? = some (UInt8.ofNat (n / 256 ^ i % 256)) := by
  induction s generalizing n i with
  | zero => omega
  | succ s ih =>
    cases i with
    | zero => simp [le]
    | succ i =>
      simp only [le, List.getElem?_cons_succ]
      rw [ih _ _ (by omega), Nat.div_div_eq_div_mul, Nat.pow_succ, Nat.mul_comm 256]

theorem pow256 (k : Nat) : (2 : Nat) ^ (8 * k) = 256 ^ k := by rw [Nat.pow_mul]

theorem wrap_u64 (n : Int) : IntKind.u64.wrap n = n % 18446744073709551616 := by simp [IntKind.wrap, IntKind.bits, IntKind.signed]

theorem shr_byte (k n : Nat) (hn : n < 18446744073709551616) : IntKind.u8.wrap ((n : Int) / 2 ^ (8 * k)) = (((UInt8.ofNat (n / 256 ^ k % 256)).toNat : Nat) : Int) := by
  have : ((2 : Int) ^ (8 * k)) = ((256 ^ k : Nat) : Int) := by rw [← pow256]; simp
  rw [this, IntKind.wrap_u8]
  simp

end W1
end Go.Proofs.YtbmmibmfjhehhaaGreat

/- Contracts of the inner functions of wire: a digit's worth; a number's bytes, and the number of bytes; a piece of bytes. -/
namespace Go.Proofs.YtbmmibmfjhehhaaGreat
open Go.RowKit

def HB (w : World) (v : Value) (l : List UInt8) : Prop :=
  (l = [] ∧ ∃ p cap, v = .slice p 0 cap ∧ (p = none → cap = 0)) ∨ (∃ b o cap, v = .slice (some ⟨b, o, none⟩) l.length cap ∧ l.length ≤ cap ∧ cap ≤ maxLen ∧ ∀ i, i < l.length → w.cell? ⟨b, o + i, none⟩ = some (.int .u8 ((l.getD i 0).toNat : Int)))

theorem ret_int {k : IntKind} {a b : Int} (h : a = b) : Ending.returned (.int k a) = .returned (.int k b) := by rw [h]

theorem block_lt {w : World} {a : Addr} {v : Value} (h : w.cell? a = some v) : a.block < w.heap.size := by
  rcases Nat.lt_or_ge a.block w.heap.size with h1 | h1
  · exact h1
  · have : w.heap[a.block]? = none := Array.getElem?_eq_none h1
    simp [World.cell?, this] at h

theorem HB.below {w w' : World} {v : Value} {l : List UInt8} (h : HB w v l) (hb : Below w.heap.size w w') : HB w' v l := by
  rcases h with ⟨h1, h2⟩ | ⟨b, o, cap, h1, h2, h3, h4⟩
  · exact .inl ⟨h1, h2⟩
  · refine .inr ⟨b, o, cap, h1, h2, h3, fun i hi => ?_⟩
    have hc := h4 i hi
    rw [hb.cell (p := ⟨b, o + i, none⟩) (block_lt hc)]
    exact hc



end Go.Proofs.YtbmmibmfjhehhaaGreat

/- Contracts of wire's functions that make bytes: a number's bytes, laid into new memory. -/
namespace Go.Proofs.YtbmmibmfjhehhaaGreat
open Go.RowKit

def B8 (x : UInt8) : Value := .int .u8 (x.toNat : Int)

def FB (base : Nat) (w : World) (v : Value) (l : List UInt8) : Prop := w.ownsRow base 5 1 v l.length (l.map B8)

theorem FB.hb {base : Nat} {w : World} {v : Value} {l : List UInt8} (h : FB base w v l) : HB w v l := by
  rcases h.2 with ⟨h1, h2⟩ | ⟨g, cap, cur, h1, h2, h3, h4, h5, h6⟩
  · exact .inl ⟨List.eq_nil_of_length_eq_zero h2, none, 0, h1, fun _ => rfl⟩
  · refine .inr ⟨g, 0, cap, h1, h4, h5, fun i hi => ?_⟩
    subst h1
    have := h.cellAt (g := g) i (by omega)
    rw [Nat.zero_add, this, List.getElem?_map, List.getElem?_eq_getElem hi]
    simp [B8, List.getD, List.getElem?_eq_getElem hi]

theorem Tryz.infoU8 : (Tryz.prog.info? 5).map (fun i => (i.zero, i.size, i.bytes)) = some (some (.int .u8 0), 1, 1) := by kernel_rfl

theorem le_set (s n k : Nat) (h : k < s) : ((W1.le s n).take k ++ List.replicate (s - k) (0 : UInt8)).set k (UInt8.ofNat (n / 256 ^ k % 256)) = (W1.le s n).take (k + 1) ++ List.replicate (s - (k + 1)) 0 := by
  have hlen := W1.le_length s n
  have hk : k < (W1.le s n).length := by omega
  have hg := W1.le_get s n k h
  rw [List.getElem?_eq_getElem hk, Option.some.injEq] at hg
  rw [List.take_succ_eq_append_getElem hk, hg, List.set_append_right _ _ (by simp; omega), List.length_take, Nat.min_eq_left (by omega), Nat.sub_self, show s - k = (s - (k + 1)) + 1 by omega, List.replicate_succ, List.set_cons_zero]
  simp

set_option maxHeartbeats 400000 in
theorem lowestFirst_any (n : Nat) (size : Nat) (w : World) (hn : n < 18446744073709551616) (hs : size ≤ 8) :
    Calls Tryz.prog 63 #[.int .u64 (n : Int), .int .i64 (size : Int)] w fun e w' => e = .returned (.slice (some ⟨w.heap.size, 0, none⟩) size size) ∧ FB w.heap.size w' (.slice (some ⟨w.heap.size, 0, none⟩) size size) (W1.le size n) ∧ Below w.heap.size w w' := by
  obtain ⟨i0, hi, hz0, hz1, hz2⟩ := info_parts Tryz.infoU8
  go_enter Tryz.func63, Tryz.ntmps63
  go_wp2_with (at_make; refine wpList_make_full _ rfl _ _ 64 rfl w.heap.size 5 i0 (.int .u8 0) 1 Tryz.underlying64 hi hz0 hz1 _ _ _ _ size rfl rfl (by omega) (by omega) ?b2 ?b3 (Nat.le_refl _) ?_)
  case b2 => rw [hz2]; omega
  case b3 => unfold maxLen; omega
  intro w0 hown0 hgrow0
  go_wp2
  go_loopw [10] (fun i wr => ∃ k : Nat, k ≤ size ∧ i = .int .i64 k ∧ wr.ownsRow w.heap.size 5 1 (.slice (some ⟨w.heap.size, 0, none⟩) size size) size (((W1.le size n).take k ++ List.replicate (size - k) 0).map B8) ∧ Below w.heap.size w wr)
    (fun i _ => size - (intOf i).toNat)
  case atStart =>
    refine ⟨0, Nat.zero_le _, rfl, ?_, (Below.refl _ _).grown hgrow0 (Nat.le_refl _) (fun k h => by cases h)⟩
    rw [toList_madeCells_one] at hown0
    simpa [B8] using hown0
  case round =>
    obtain ⟨k, hk, rfl, hown, hbel⟩ := hrel
    by_cases hlt : k < size
    · have hst := hown.stored k (B8 (UInt8.ofNat (n / 256 ^ k % 256)))
      have hlen := W1.le_length size n
      have hce := hown.cellAt k (by omega)
      have hfz := hown.frozenAt k
      rw [List.map_append, List.getElem?_append_right (by simp; omega)] at hce
      simp only [List.length_map, List.length_take, hlen, Nat.min_eq_left (show k ≤ size by omega), Nat.sub_self, List.map_replicate] at hce
      rw [List.getElem?_replicate, if_pos (by omega)] at hce
      have HS : Hid _ := W1.shr_byte k n hn
      have HST : Hid _ := hst
      clear hst hown0 hgrow0 hown hlen
      go_wp2
      go_roundw
      case rel =>
        have hst := HST.out
        rw [← List.map_set, le_set size n k hlt] at hst
        refine ⟨k + 1, by omega, by go_num, ?_, hbel.setCell (p := ⟨w.heap.size, k, none⟩) (Nat.le_refl _) _⟩
        have e := HS.out
        unfold B8 at hst
        rw [← e] at hst
        exact hst.1
      case measure => simp [intOf]; omega
    · have : k = size := by omega
      subst this
      go_wp2
      go_ret
      refine ⟨rfl, ?_, hbel⟩
      unfold FB
      rw [W1.le_length]
      simpa [List.take_of_length_le (show (W1.le k n).length ≤ k by rw [W1.le_length]; omega)] using hown

end Go.Proofs.YtbmmibmfjhehhaaGreat

/- Contracts of wire's Put, Get and Turned. -/
namespace Go.Proofs.YtbmmibmfjhehhaaGreat
open Go.RowKit

theorem shr_zero (n size : Nat) (hf : n < 256 ^ size) : ((n : Int) / 2 ^ (8 * size) != 0) = false := by
  have : ((2 : Int) ^ (8 * size)) = ((256 ^ size : Nat) : Int) := by rw [← W1.pow256]; simp
  rw [this, bne_eq_false_iff_eq, ← Int.natCast_ediv, Nat.div_eq_of_lt hf]; rfl

set_option maxHeartbeats 400000 in
theorem put_ok (n : Nat) (size : Nat) (w : World) (h1 : 1 ≤ size) (h8 : size ≤ 8) (hn : n < 18446744073709551616) (hf : n < 256 ^ size) :
    Calls Tryz.prog 45 #[.int .u64 (n : Int), .int .i64 (size : Int)] w fun e w' => e = .returned (.tuple #[.slice (some ⟨w.heap.size, 0, none⟩) size size, .int .i64 0]) ∧ FB w.heap.size w' (.slice (some ⟨w.heap.size, 0, none⟩) size size) (W1.le size n) ∧ Below w.heap.size w w' := by
  have hsh := shr_zero n size hf
  clear hf
  go_enter Tryz.func45, Tryz.ntmps45
  go_wp2_with (go_at_call 63; refine (lowestFirst_any _ _ _ hn h8).mono ?_; rintro e w1 ⟨rfl, hfb, hbel⟩)
  go_ret2
  exact ⟨rfl, hfb, hbel⟩

theorem turn_set (l : List UInt8) (k : Nat) (h : k < l.length) : (List.replicate (l.length - k) (0 : UInt8) ++ (l.take k).reverse).set (l.length - 1 - k) l[k] = List.replicate (l.length - (k + 1)) 0 ++ (l.take (k + 1)).reverse := by
  rw [List.take_succ_eq_append_getElem h, List.reverse_append, show l.length - k = (l.length - (k + 1)) + 1 by omega, List.replicate_succ', List.append_assoc, List.set_append_right _ _ (by simp; omega)]
  simp [show l.length - 1 - k - (l.length - (k + 1)) = 0 by omega]

set_option maxHeartbeats 400000 in
theorem turned_some (b o cap : Nat) (l : List UInt8) (w : World) (hr : l.length ≤ 140737488351232) (hc : ∀ i, i < l.length → w.cell? ⟨b, o + i, none⟩ = some (.int .u8 ((l.getD i 0).toNat : Int))) :
    Calls Tryz.prog 109 #[.slice (some ⟨b, o, none⟩) l.length cap] w fun e w' => e = .returned (.slice (some ⟨w.heap.size, 0, none⟩) l.length l.length) ∧ FB w.heap.size w' (.slice (some ⟨w.heap.size, 0, none⟩) l.length l.length) l.reverse ∧ Below w.heap.size w w' := by
  obtain ⟨i0, hi, hz0, hz1, hz2⟩ := info_parts Tryz.infoU8
  go_enter Tryz.func109, Tryz.ntmps109
  go_wp2_with (at_make; refine wpList_make_full _ rfl _ _ 64 rfl w.heap.size 5 i0 (.int .u8 0) 1 Tryz.underlying64 hi hz0 hz1 _ _ _ _ l.length rfl rfl (by omega) (by omega) ?b2 ?b3 (Nat.le_refl _) ?_)
  case b2 => rw [hz2]; omega
  case b3 => unfold maxLen; omega
  intro w0 hown0 hgrow0
  go_wp2
  go_loopw [10] (fun i wr => ∃ k : Nat, k ≤ l.length ∧ i = .int .i64 k ∧ wr.ownsRow w.heap.size 5 1 (.slice (some ⟨w.heap.size, 0, none⟩) l.length l.length) l.length ((List.replicate (l.length - k) 0 ++ (l.take k).reverse).map B8) ∧ Below w.heap.size w wr)
    (fun i _ => l.length - (intOf i).toNat)
  case atStart =>
    refine ⟨0, Nat.zero_le _, rfl, ?_, (Below.refl _ _).grown hgrow0 (Nat.le_refl _) (fun k h => by cases h)⟩
    rw [toList_madeCells_one] at hown0
    simpa [B8] using hown0
  case round =>
    obtain ⟨k, hk, rfl, hown, hbel⟩ := hrel
    by_cases hlt : k < l.length
    · have hst := hown.stored (l.length - 1 - k) (B8 l[k])
      have hce := hown.cellAt (l.length - 1 - k) (by omega)
      have hfz := hown.frozenAt (l.length - 1 - k)
      rw [List.map_append, List.getElem?_append_left (by simp; omega)] at hce
      simp only [List.map_replicate] at hce
      rw [List.getElem?_replicate, if_pos (by omega)] at hce
      have hcx : wr.cell? ⟨b, o + k, none⟩ = some (.int .u8 ((l.getD k 0).toNat : Int)) := (hbel.cell (block_lt (hc k hlt))).trans (hc k hlt)
      have HST : Hid _ := hst
      clear hst hown0 hgrow0 hown
      go_wp2
      go_roundw
      case rel =>
        have hst := HST.out
        rw [← List.map_set, turn_set l k hlt] at hst
        exact ⟨k + 1, by omega, by go_num, hst.1, hbel.setCell (p := ⟨w.heap.size, l.length - 1 - k, none⟩) (Nat.le_refl _) _⟩
      case measure => simp [intOf]; omega
    · have : k = l.length := by omega
      subst this
      go_wp2
      go_ret
      refine ⟨rfl, ?_, hbel⟩
      unfold FB
      simpa using hown

set_option maxHeartbeats 400000 in
theorem turned_any (v : Value) (l : List UInt8) (w : World) (hr : l.length ≤ 140737488351232) (h : HB w v l) :
    Calls Tryz.prog 109 #[v] w fun e w' => e = .returned (.slice (some ⟨w.heap.size, 0, none⟩) l.length l.length) ∧ FB w.heap.size w' (.slice (some ⟨w.heap.size, 0, none⟩) l.length l.length) l.reverse ∧ Below w.heap.size w w' := by
  rcases h with ⟨rfl, p, cap, rfl, hpc⟩ | ⟨b, o, cap, rfl, _, _, hc⟩
  · obtain ⟨i0, hi, hz0, hz1, hz2⟩ := info_parts Tryz.infoU8
    go_enter Tryz.func109, Tryz.ntmps109
    go_wp2_with (at_make; refine wpList_make_full _ rfl _ _ 64 rfl w.heap.size 5 i0 (.int .u8 0) 1 Tryz.underlying64 hi hz0 hz1 _ _ _ _ 0 rfl rfl (by omega) (by omega) ?b2 ?b3 (Nat.le_refl _) ?_)
    case b2 => rw [hz2]; omega
    case b3 => unfold maxLen; omega
    intro w0 hown0 hgrow0
    go_wp2
    refine wp_loop_rounds 1 ?_
    rw [rounds_succ]
    go_wp2
    go_ret
    refine ⟨rfl, ?_, (Below.refl _ _).grown hgrow0 (Nat.le_refl _) (fun k h => by cases h)⟩
    rw [toList_madeCells_one] at hown0
    unfold FB
    simpa using hown0
  · exact turned_some b o cap l w hr hc

end Go.Proofs.YtbmmibmfjhehhaaGreat

/- Contracts of wire's Hex, and of bytes as a text. -/
namespace Go.Proofs.YtbmmibmfjhehhaaGreat
open Go.RowKit

namespace W1
def hexd (n : Nat) : UInt8 := if n < 10 then UInt8.ofNat (48 + n) else UInt8.ofNat (87 + n)
def hex (l : List UInt8) : List UInt8 := l.flatMap fun c => [hexd (c.toNat / 16), hexd (c.toNat % 16)]
end W1

def txt (l : List UInt8) : ByteArray := ⟨l.toArray⟩

theorem conv_hb (w : World) (v : Value) (l : List UInt8) (h : HB w v l) : (convert 64 9 v).run Tryz.prog w = .ok (.string (txt l)) w := by
  rcases h with ⟨rfl, p, cap, rfl, hpc⟩ | ⟨b, o, cap, rfl, _, _, hc⟩
  · cases p with
    | none => exact run_convert_bytes_nil w _ _ Tryz.underlying64 Tryz.underlying5 0 cap _ Tryz.underlying9
    | some a =>
      rw [run_convert_bytes_string w _ _ _ _ 0 cap Tryz.underlying64 Tryz.underlying5 Tryz.underlying9, run_bytesToString w _ 0 cap [] (by
        have := run_loadCells_list (P := Tryz.prog) w a [] (fun j u hj => by simp at hj)
        simpa using this)]
      rfl
  · rw [run_convert_bytes_arg w _ _ Tryz.underlying64 Tryz.underlying5 b o l.length cap (l.map fun x => (x.toNat : Int)) (by simp) (fun i hi => by rw [hc i hi]; simp [List.getD, List.getElem?_eq_getElem hi]) _ Tryz.underlying9]
    congr 2
    unfold strOfNums txt
    congr 2
    rw [List.map_map]
    conv => rhs; rw [← List.map_id l]
    apply List.map_congr_left
    intro x _
    simp

end Go.Proofs.YtbmmibmfjhehhaaGreat
