/- report: the library's FormatUint; a word's number. -/
import Derived.Test.YtpklboicgjpmeaaDoorTb
import Derived.Lib.AppendIntMem
set_option linter.unusedVariables false
set_option linter.unusedSimpArgs false
namespace Go.Proofs.YtpklboicgjpmeaaDoor.RB
open Go.RowKit Go.Sort

set_option maxHeartbeats 4000000 in
set_option maxRecDepth 100000 in
theorem fmti_any (u : Nat) (hu64 : u < 18446744073709551616) (w : World) (hG : GV w) : Calls Tryd.prog 41 #[.int .u64 (u : Int), .int .i64 10] w fun e w' => e = .returned (sV (Lib.decDigits u)) ∧ Below w.heap.size w w' := by
  by_cases hs : u < 100
  · have hS := fun W => Tryd.internal_strconv_small u hs W
    have iu : (u : Int) < 100 := by omega
    unfold sV
    go_enter Tryd.func41, Tryd.ntmps41
    go_wp2_with (go_at_call 54; refine Calls.mono (hS _) ?_; rintro e w1 ⟨rfl, rfl⟩)
    go_ret
    exact ⟨rfl, Below.refl _ _⟩
  · have htab := hG.tab
    have hu1 : 1 ≤ u := by omega
    have hnd20 : Lib.nDigits u ≤ 20 := by have := Lib.numDigits_eq u hu1 hu64; split at this <;> omega
    have hal : Tryd.prog.arrayLen 89 = 24 := by kernel_rfl
    have hsl : ∀ W, (Instr.sliceAt 89 (.pointer (some ⟨w.heap.size, 0, none⟩)) none (some (.int .i64 (Lib.nDigits u : Int))) none).run Tryd.prog W = .ok (.slice (some ⟨w.heap.size, 0, none⟩) (Lib.nDigits u) 24) W := fun W => by
      rw [run_sliceAt_array_h W 89 ⟨w.heap.size, 0, none⟩ (by kernel_rfl) .i64 (Lib.nDigits u : Int) (by omega) (by rw [hal]; omega)]
      rw [hal]
      go_simp
    have hH0 := Lib.holds_zero0 w 89 (Lib.nDigits u) (by omega)
    have hfmt := Tryd.internal_strconv_formatBase10 w.heap.size 0 24 u (Array.replicate (Lib.nDigits u) 0) (w.alloc (.cells Lib.zeros24 89)) hH0 (by rw [Array.size_replicate]; exact Lib.lt_pow_nDigits u) hu64 (by rw [Array.size_replicate]; omega)
    rw [Array.size_replicate] at hfmt
    have HN : Hid (∀ W, Lib.TabIs Tryd.prog W Rows.tabN .u64 Lib.pow10Tab → Calls Tryd.prog 55 #[.int .u64 (u : Int)] W fun e w' => e = .returned (.int .i64 (Lib.nDigits u)) ∧ w' = W) := fun W h => Tryd.internal_strconv_numDigits u hu1 hu64 W h
    have HT : Hid (Lib.TabIs Tryd.prog (w.alloc (.cells Lib.zeros24 89)) Rows.tabN .u64 Lib.pow10Tab) := Lib.tabIs_alloc htab _
    have HH0 : Hid _ := hH0
    have iu : ¬ (u : Int) < 100 := by omega
    have HD : Hid _ := Lib.decDigits_length u
    clear hH0 hal htab hG
    unfold sV
    go_enter Tryd.func41, Tryd.ntmps41
    go_wp2_with (go_at_call 55; refine Calls.mono (HN.out _ HT.out) ?_; rintro e w1 ⟨rfl, rfl⟩)
    go_at_call 56
    refine hfmt.mono ?_
    rintro e w1 ⟨rfl, k, v', dk, rfl, hF⟩
    have hcv : (convert 28 9 (.slice (some ⟨w.heap.size, 0, none⟩) (Lib.nDigits u) 24)).run Tryd.prog ((putRow (fun (b : UInt8) => Value.int .u8 (b.toNat : Int)) (w.alloc (.cells Lib.zeros24 89)) w.heap.size 0 dk).drewN k) = .ok (.string ⟨(Lib.decDigits u).toArray⟩) ((putRow (fun (b : UInt8) => Value.int .u8 (b.toNat : Int)) (w.alloc (.cells Lib.zeros24 89)) w.heap.size 0 dk).drewN k) := by
      have h := run_convert_bytes_back (P := Tryd.prog) ((putRow (fun (b : UInt8) => Value.int .u8 (b.toNat : Int)) (w.alloc (.cells Lib.zeros24 89)) w.heap.size 0 dk).drewN k) 28 9 5 ⟨w.heap.size, 0, none⟩ 24 (Lib.decDigits u) Tryd.underlying28 Tryd.underlying5 Tryd.underlying9 (fun j hj => by
        rw [Lib.row_is_numeral hF j hj, Lib.add_plain, World.cell?_drewN]
        exact cell?_putRow (fun (b : UInt8) => Value.int .u8 (b.toNat : Int)) _ w.heap.size 0 _ dk HH0.out (by rw [hF.size, Array.size_replicate]) j (by rw [hF.size]; rw [Lib.decDigits_length] at hj; exact hj))
      rw [Lib.decDigits_length] at h
      exact h
    obtain ⟨os, eo⟩ := Lib.fin_at w (.cells Lib.zeros24 89) dk k 0
    have HB2 : Hid (Below w.heap.size w ((putRow (fun (b : UInt8) => Value.int .u8 (b.toNat : Int)) (w.alloc (.cells Lib.zeros24 89)) w.heap.size 0 dk).drewN k)) := by rw [eo]; exact below_grow w k os
    generalize (putRow (fun (b : UInt8) => Value.int .u8 (b.toNat : Int)) (w.alloc (.cells Lib.zeros24 89)) w.heap.size 0 dk).drewN k = W2 at *
    clear eo HH0 hfmt
    go_wp2
    go_ret
    exact ⟨rfl, HB2.out⟩
theorem fmt_any (u : Nat) (hu64 : u < 18446744073709551616) (w : World) (hG : GV w) : Calls Tryd.prog 26 #[.int .u64 (u : Int), .int .i64 10] w fun e w' => e = .returned (sV (Lib.decDigits u)) ∧ Below w.heap.size w w' := by
  have hF := fmti_any u hu64 w hG
  go_enter Tryd.func26, Tryd.ntmps26
  go_wp2_with (go_at_call 41; refine Calls.mono hF ?_; rintro e w1 ⟨rfl, hb⟩)
  go_ret
  exact ⟨rfl, hb⟩
theorem below_bytes (w : World) (t : TypeId) (s : ByteArray) : Below w.heap.size w (Lib.bytesWorld w t s) := Lib.bytesWorld_below _ _ _
/-- A word's number: of a number's text that number. -/
theorem count_any (l : List UInt8) (hl : l.length ≤ 1000000) (w : World) (hG : GV w) : Calls Tryd.prog 35 #[sV l] w fun e w' => ∃ n : Nat, e = .returned (.int .u64 (n : Int)) ∧ n < 18446744073709551616 ∧ (∀ u, u < 18446744073709551616 → l = Lib.decDigits u → n = u) ∧ Below w.heap.size w w' := by
  have hsz : (⟨l.toArray⟩ : ByteArray).size = l.length := by simp [ByteArray.size]
  unfold sV
  cases hp : Lib.parseUintB 64 l with
  | ok u =>
    have hC := Tryd.strconv_ParseUint_10_at64_ok ⟨l.toArray⟩ (by rw [hsz]; omega) u hp w
    have HU : Hid _ := parse_lt hp
    have HE : Hid (∀ v, v < 18446744073709551616 → l = Lib.decDigits v → u = v) := fun v hv e => by
      rw [e, parse_dec v hv] at hp; cases hp; rfl
    clear hp
    go_enter Tryd.func35, Tryd.ntmps35
    go_wp2_with (go_at_call 50; refine Calls.mono hC ?_; rintro e w1 ⟨rfl, hw⟩)
    go_ret
    refine ⟨u, rfl, HU.out, HE.out, ?_⟩
    rcases hw with rfl | rfl
    · exact Below.refl _ _
    · exact below_bytes _ _ _
  | range =>
    obtain ⟨tp, p, he⟩ := hG.er
    have hC := Tryd.strconv_ParseUint_10_at64_range_var ⟨l.toArray⟩ (by rw [hsz]; omega) hp tp p w he
    have HE : Hid (∀ v, v < 18446744073709551616 → l = Lib.decDigits v → 18446744073709551615 = v) := fun v hv e => by
      rw [e, parse_dec v hv] at hp; cases hp
    clear hp he
    go_enter Tryd.func35, Tryd.ntmps35
    go_wp2_with (go_at_call 50; refine Calls.mono hC ?_; rintro e w1 ⟨N, rfl, h1, h2, hw⟩)
    go_ret
    exact ⟨18446744073709551615, rfl, by decide, HE.out, hw⟩
  | _ =>
    obtain ⟨tp, p, he⟩ := hG.es
    have hC := Tryd.strconv_ParseUint_10_at64_syntax_var ⟨l.toArray⟩ (by rw [hsz]; omega) (hp.trans rfl) tp p w he
    have HE : Hid (∀ v, v < 18446744073709551616 → l = Lib.decDigits v → 0 = v) := fun v hv e => by
      rw [e, parse_dec v hv] at hp; cases hp
    clear hp he
    go_enter Tryd.func35, Tryd.ntmps35
    go_wp2_with (go_at_call 50; refine Calls.mono hC ?_; rintro e w1 ⟨N, rfl, h1, h2, hw⟩)
    go_ret
    exact ⟨0, rfl, by decide, HE.out, hw⟩
end Go.Proofs.YtpklboicgjpmeaaDoor.RB
