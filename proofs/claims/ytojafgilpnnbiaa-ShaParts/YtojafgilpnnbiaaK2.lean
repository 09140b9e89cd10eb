/- Contracts of the reference's Constant, Start and Constants. -/
import Derived.Test.YtojafgilpnnbiaaZ2
import Derived.Test.YtojafgilpnnbiaaV2
import Derived.Deep.AppendLies
set_option linter.unusedVariables false
set_option linter.unusedSimpArgs false
namespace Go.Proofs.Ytojafgilpnnbiaa
open Go.RowKit

/-- The i-th constant; none: 0. -/
def konst (i : Int) : UInt32 := if 0 ≤ i ∧ i ≤ 63 then K64.getD i.toNat 0 else 0
/-- The i-th word of the start; none: 0. -/
def start (i : Int) : UInt32 := if 0 ≤ i ∧ i ≤ 7 then H8.getD i.toNat 0 else 0
theorem tabK : ((List.range 64).all fun i => UInt32.ofNat (rto 3 (prim i) 38) == K64.getD i 0) = true := by decide +kernel
theorem tabH : ((List.range 8).all fun i => UInt32.ofNat (rto 2 (prim i) 38) == H8.getD i 0) = true := by decide +kernel
theorem tabP : ((List.range 64).all fun i => decide (prim i < 4294967296)) = true := by decide +kernel
theorem konst_in (i : Nat) (h : i ≤ 63) : UInt32.ofNat (rto 3 (prim i) 38) = konst (i : Int) := by
  have t := tabK
  rw [List.all_eq_true] at t
  have t1 := t i (List.mem_range.2 (by omega))
  unfold konst
  rw [if_pos (by omega), Int.toNat_natCast]
  simpa using t1
theorem start_in (i : Nat) (h : i ≤ 7) : UInt32.ofNat (rto 2 (prim i) 38) = start (i : Int) := by
  have t := tabH
  rw [List.all_eq_true] at t
  have t1 := t i (List.mem_range.2 (by omega))
  unfold start
  rw [if_pos (by omega), Int.toNat_natCast]
  simpa using t1
theorem prim_lt (i : Nat) (h : i ≤ 63) : prim i < 4294967296 := by
  have t := tabP
  rw [List.all_eq_true] at t
  simpa using t i (List.mem_range.2 (by omega))
theorem konst_out (i : Int) (h : i < 0 ∨ 63 < i) : konst i = 0 := by unfold konst; rw [if_neg (by omega)]
theorem start_out (i : Int) (h : i < 0 ∨ 7 < i) : start i = 0 := by unfold start; rw [if_neg (by omega)]

set_option maxHeartbeats 400000 in
theorem constant_any (i : Int) (w : World) : Calls Try.prog 19 #[.int .i64 i] w fun e w' => e = .returned (.int .u32 (U (konst i))) ∧ w = w' := by
  by_cases h : 0 ≤ i ∧ i ≤ 63
  · obtain ⟨h1, h2⟩ := h
    obtain ⟨n, rfl⟩ := Int.eq_ofNat_of_zero_le h1
    have hn : n ≤ 63 := by omega
    go_enter Try.func19, Try.ntmps19
    go_wp2_with fail
    refine (prime_any n hn _).mono ?_
    rintro e wx ⟨rfl, rfl⟩
    go_wp2_with fail
    refine (root_any (prim n) 3 (.inr rfl) (prim_lt n hn) _).mono ?_
    rintro e wx ⟨rfl, rfl⟩
    rw [konst_in n hn]
    go_wp2
    go_ret
    exact ⟨rfl, rfl⟩
  · have hk := konst_out i (by omega)
    have HK : Hid _ := hk
    clear hk
    by_cases h1 : i < 0
    · go_enter Try.func19, Try.ntmps19
      go_wp2
      go_ret
      exact ⟨ret_int (by rw [HK.out]; rfl), rfl⟩
    · have h2 : 63 < i := by omega
      clear h
      go_enter Try.func19, Try.ntmps19
      go_wp2
      go_ret
      exact ⟨ret_int (by rw [HK.out]; rfl), rfl⟩

set_option maxHeartbeats 400000 in
theorem start_any (i : Int) (w : World) : Calls Try.prog 21 #[.int .i64 i] w fun e w' => e = .returned (.int .u32 (U (start i))) ∧ w = w' := by
  by_cases h : 0 ≤ i ∧ i ≤ 7
  · obtain ⟨h1, h2⟩ := h
    obtain ⟨n, rfl⟩ := Int.eq_ofNat_of_zero_le h1
    have hn : n ≤ 7 := by omega
    go_enter Try.func21, Try.ntmps21
    go_wp2_with fail
    refine (prime_any n (by omega) _).mono ?_
    rintro e wx ⟨rfl, rfl⟩
    go_wp2_with fail
    refine (root_any (prim n) 2 (.inl rfl) (prim_lt n (by omega)) _).mono ?_
    rintro e wx ⟨rfl, rfl⟩
    rw [start_in n hn]
    go_wp2
    go_ret
    exact ⟨rfl, rfl⟩
  · have hk := start_out i (by omega)
    have HK : Hid _ := hk
    clear hk
    by_cases h1 : i < 0
    · go_enter Try.func21, Try.ntmps21
      go_wp2
      go_ret
      exact ⟨ret_int (by rw [HK.out]; rfl), rfl⟩
    · have h2 : 7 < i := by omega
      clear h
      go_enter Try.func21, Try.ntmps21
      go_wp2
      go_ret
      exact ⟨ret_int (by rw [HK.out]; rfl), rfl⟩

theorem K64_take (k : Nat) (h : k < 64) : K64.take (k + 1) = K64.take k ++ [konst (k : Int)] := by
  have hl : k < K64.length := h
  rw [List.take_succ_eq_append_getElem hl]
  unfold konst
  rw [if_pos (by omega), Int.toNat_natCast]
  simp [List.getD, List.getElem?_eq_getElem hl]

set_option maxHeartbeats 400000 in
theorem constants_any (w : World) : Calls Try.prog 17 #[] w fun e w' => ∃ v, e = .returned v ∧ FW w.heap.size w' v K64 ∧ Below w.heap.size w w' := by
  obtain ⟨i0, hi, hz0, hz1, hz2⟩ := info_parts Try.infoU32
  go_enter Try.func17, Try.ntmps17
  go_wp2
  go_loopw [1, 2] (fun v i wr => ∃ k : Nat, k ≤ 64 ∧ i = .int .i64 k ∧ FW w.heap.size wr v (K64.take k) ∧ Below w.heap.size w wr) (fun _ i _ => 64 - (intOf i).toNat)
  case atStart => exact ⟨0, by omega, rfl, World.ownsRow_nil _ _ _ _, Below.refl _ _⟩
  case round =>
    obtain ⟨k, hk, rfl, hown, hbel⟩ := hrel
    have hsz := hbel.size
    by_cases hlt : k < 64
    · have HK : Hid _ := K64_take k hlt
      have hlen : (K64.take k).length ≤ 64 := by rw [List.length_take]; omega
      go_wp2_with (first
        | (go_at_call 19; refine (constant_any _ _).mono ?_; rintro e wx ⟨rfl, rfl⟩)
        | (at_builtin; refine wpList_append_lies _ rfl (.tmp 7) (.tmp 10) 35 rfl w.heap.size 30 i0 (.int .u32 0) 1 4 Try.underlying35 hi hz0 hz1 hz2 rfl (by decide) u1 _ _ rfl (by exact hown.alloc _) ⟨wr.heap.size, 0, none⟩ 1 1 [W32 (konst (k : Int))] rfl rfl (by exact cell_one_new _ _ _) (by intro u hu; simp at hu; subst hu; rfl) (by decide) (by unfold maxLen; omega) (by omega) (by simp; omega) _ rfl ?_; intro g cap' w1 hown1 hgr1 hg1 hlt1))
      go_roundw
      case rel =>
        refine ⟨k + 1, by omega, by go_num, ?_, (hbel.alloc hbel.size _).grown hgr1 (by simp; omega) (fun j hj => (hown.lt j hj).1)⟩
        unfold FW
        rw [HK.out, List.length_append, List.map_append]
        simp only [List.length_take] at hown1 ⊢
        exact hown1
      case measure => simp [intOf]; omega
    · have h64 : K64.take k = K64 := List.take_of_length_le (by show 64 ≤ k; omega)
      rw [h64] at hown
      clear h64
      go_wp2
      go_ret
      exact ⟨_, rfl, hown, hbel⟩

end Go.Proofs.Ytojafgilpnnbiaa
