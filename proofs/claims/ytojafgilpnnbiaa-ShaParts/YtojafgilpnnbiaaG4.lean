/- Contracts of sha's Constant and Start. -/
import Derived.Test.YtojafgilpnnbiaaL3
import Derived.Test.YtojafgilpnnbiaaK2
set_option linter.unusedVariables false
set_option linter.unusedSimpArgs false
namespace Go.Proofs.Ytojafgilpnnbiaa
open Go.RowKit

theorem index63 (KA : Array Value) (n : Nat) (x : UInt32) (w : World) (h : n < 64) (hs : KA.size = 64) (hka : KA[n]? = some (.int .u32 (U x))) : (Instr.index 63 (.agg KA) (.int .i64 (n : Int))).run Try.prog w = .ok (.int .u32 (U x)) w := by
  have h0 : (0 : Int) ≤ (n : Int) := by omega
  have h1 : (n : Int) < 64 := by omega
  have hn : ((n : Int)).toNat = n := by omega
  obtain ⟨i0, hi, hz0, hz1, hz2⟩ := info_parts Try.infoU32
  simp [Instr.index, run_underlying Try.underlying63, asIntOf, hka, h0, h1, hn, sizeOf, typeInfo, hi, hz1]
  rw [if_pos h]
  simp [Go.part, sizeOf, typeInfo, hi, hz1, hka]

theorem index31 (KA : Array Value) (n : Nat) (x : UInt32) (w : World) (h : n < 8) (hs : KA.size = 8) (hka : KA[n]? = some (.int .u32 (U x))) : (Instr.index 31 (.agg KA) (.int .i64 (n : Int))).run Try.prog w = .ok (.int .u32 (U x)) w := by
  have h0 : (0 : Int) ≤ (n : Int) := by omega
  have h1 : (n : Int) < 8 := by omega
  have hn : ((n : Int)).toNat = n := by omega
  obtain ⟨i0, hi, hz0, hz1, hz2⟩ := info_parts Try.infoU32
  simp [Instr.index, run_underlying Try.underlying31, asIntOf, hka, h0, h1, hn, sizeOf, typeInfo, hi, hz1]
  rw [if_pos h]
  simp [Go.part, sizeOf, typeInfo, hi, hz1, hka]

set_option maxHeartbeats 1000000 in
theorem shaConstant_any (i : Int) (w : World) : Calls Try.prog 18 #[.int .i64 i] w fun e w' => e = .returned (.int .u32 (U (konst i))) ∧ Below w.heap.size w w' := by
  by_cases h : 0 ≤ i ∧ i ≤ 63
  · obtain ⟨h1, h2⟩ := h
    obtain ⟨n, rfl⟩ := Int.eq_ofNat_of_zero_le h1
    have hn : n < 64 := by omega
    have hcon := fun W => shaConstants_any W
    obtain ⟨KA, hKA⟩ : ∃ KA, KA = (K64.map W32).toArray := ⟨_, rfl⟩
    have hka : KA[n]? = some (.int .u32 (U (konst (n : Int)))) := by
      rw [hKA]
      unfold konst
      rw [if_pos (by omega), Int.toNat_natCast]
      have hl : n < K64.length := by show n < 64; omega
      simp [W32, List.getD, List.getElem?_eq_getElem hl]
    have hks : KA.size = 64 := by rw [hKA]; rfl
    rw [← hKA] at hcon
    generalize konst (n : Int) = x at *
    have hix := fun W => index63 KA n x W hn hks hka
    clear hKA hka hks
    go_enter Try.func18, Try.ntmps18
    go_wp2_with fail
    refine (hcon _).mono ?_
    rintro e w1 ⟨rfl, hb1⟩
    go_wp2
    go_ret
    exact ⟨rfl, hb1⟩
  · have HK : Hid _ := konst_out i (by omega)
    by_cases h1 : i < 0
    · go_enter Try.func18, Try.ntmps18
      go_wp2
      go_ret
      exact ⟨ret_int (by rw [HK.out]; rfl), Below.refl _ _⟩
    · have h2 : 63 < i := by omega
      clear h
      go_enter Try.func18, Try.ntmps18
      go_wp2
      go_ret
      exact ⟨ret_int (by rw [HK.out]; rfl), Below.refl _ _⟩

set_option maxHeartbeats 1000000 in
theorem shaStart_any (i : Int) (w : World) : Calls Try.prog 20 #[.int .i64 i] w fun e w' => e = .returned (.int .u32 (U (start i))) ∧ Below w.heap.size w w' := by
  by_cases h : 0 ≤ i ∧ i ≤ 7
  · obtain ⟨h1, h2⟩ := h
    obtain ⟨n, rfl⟩ := Int.eq_ofNat_of_zero_le h1
    have hn : n < 8 := by omega
    have hcon := fun W => shaStarts_any W
    obtain ⟨KA, hKA⟩ : ∃ KA, KA = (H8.map W32).toArray := ⟨_, rfl⟩
    have hka : KA[n]? = some (.int .u32 (U (start (n : Int)))) := by
      rw [hKA]
      unfold start
      rw [if_pos (by omega), Int.toNat_natCast]
      have hl : n < H8.length := by show n < 8; omega
      simp [W32, List.getD, List.getElem?_eq_getElem hl]
    have hks : KA.size = 8 := by rw [hKA]; rfl
    rw [← hKA] at hcon
    generalize start (n : Int) = x at *
    have hix := fun W => index31 KA n x W hn hks hka
    clear hKA hka hks
    go_enter Try.func20, Try.ntmps20
    go_wp2_with fail
    refine (hcon _).mono ?_
    rintro e w1 ⟨rfl, hb1⟩
    go_wp2
    go_ret
    exact ⟨rfl, hb1⟩
  · have HK : Hid _ := start_out i (by omega)
    by_cases h1 : i < 0
    · go_enter Try.func20, Try.ntmps20
      go_wp2
      go_ret
      exact ⟨ret_int (by rw [HK.out]; rfl), Below.refl _ _⟩
    · have h2 : 7 < i := by omega
      clear h
      go_enter Try.func20, Try.ntmps20
      go_wp2
      go_ret
      exact ⟨ret_int (by rw [HK.out]; rfl), Below.refl _ _⟩

end Go.Proofs.Ytojafgilpnnbiaa
