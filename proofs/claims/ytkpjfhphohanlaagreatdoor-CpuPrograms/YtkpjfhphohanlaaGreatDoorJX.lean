/- cpu: the chapter's rows. -/
import Derived.Test.YtkpjfhphohanlaaGreatDoorJW
set_option linter.unusedVariables false
set_option linter.unusedSimpArgs false
namespace Go.Proofs.YtkpjfhphohanlaaGreatDoor.JC
open Go.RowKit
open Go.Proofs.YtkpjfhphohanlaaGreatDoor.EC (row_lt heap_at rangeAt_below rangeAt_row ret_bool ret_i64 beq_int)

theorem num_any (x : Int) (w : World) : Calls Tryz.prog 8 #[.int .i64 x] w fun e w' => e = .returned (.int .i64 x) ∧ w = w' := by
  go_enter Tryz.func8, Tryz.ntmps8
  go_wp2
  go_ret
  exact ⟨rfl, rfl⟩
theorem dec_small (u : Nat) (h : u < 10) : Lib.decDigits u = [UInt8.ofNat (48 + u)] := by rw [Lib.decDigits, dif_pos h]
theorem itoa_dig (u : Nat) (h : u < 10) : Lib.itoa (u : Int) = [UInt8.ofNat (48 + u)] := by rw [Lib.itoa_nonneg, dec_small u h]
def b1 : List UInt8 := [97, 100, 100, 32, 114, 48, 32, 114, 49, 32, 114, 50]
def b2 : List UInt8 := [97, 100, 100, 32, 114, 48, 32, 114, 49]
def b3 : List UInt8 := [115, 101, 116, 32, 114, 48, 32, 43, 49]
theorem i0 : Lib.itoa 0 = [48] := itoa_dig 0 (by decide)
theorem i1 : Lib.itoa 1 = [49] := itoa_dig 1 (by decide)
theorem i2 : Lib.itoa 2 = [50] := itoa_dig 2 (by decide)
theorem unt1 : unt b1 = some ⟨4, 0, 1, 2, 0⟩ := by
  have e : txt ⟨4, 0, 1, 2, 0⟩ = b1 := by
    show nm 4 ++ (rw_ true 0 ++ (rw_ true 1 ++ (rw_ true 2 ++ iw false 0))) = b1
    unfold rw_ iw; rw [i0, i1, i2]; rfl
  rw [← e]; exact unt_txt (by decide)
theorem unt2 : unt b2 = none := by
  have e0 : rd b2 = ⟨4, 0, 1, 0, 0⟩ := by rfl
  have e : txt ⟨4, 0, 1, 0, 0⟩ ≠ b2 := by
    show nm 4 ++ (rw_ true 0 ++ (rw_ true 1 ++ (rw_ true 0 ++ iw false 0))) ≠ b2
    unfold rw_ iw; rw [i0, i1]; decide
  unfold unt; rw [e0, if_neg (fun h => e h.2)]
theorem unt3 : unt b3 = none := by
  have e0 : rd b3 = ⟨2, 0, 0, 0, 1⟩ := by rfl
  have e : txt ⟨2, 0, 0, 0, 1⟩ ≠ b3 := by
    show nm 2 ++ (rw_ true 0 ++ (rw_ false 0 ++ (rw_ false 0 ++ iw true 1))) ≠ b3
    unfold rw_ iw; rw [i0, i1]; decide
  unfold unt; rw [e0, if_neg (fun h => e h.2)]
theorem iwf_of {i : Ins} (h : -2147483648 ≤ i.op ∧ i.op ≤ 2147483647 ∧ -2147483648 ≤ i.d ∧ i.d ≤ 2147483647 ∧ -2147483648 ≤ i.a ∧ i.a ≤ 2147483647 ∧ -2147483648 ≤ i.b ∧ i.b ≤ 2147483647 ∧ -2147483648 ≤ i.imm ∧ i.imm ≤ 2147483647) : iwf i := by
  have hw : ∀ x : Int, -2147483648 ≤ x → x ≤ 2147483647 → (Lit.int .i64 x).wf = true := fun x h1 h2 => by
    simp [Lit.wf, IntKind.min, IntKind.max, IntKind.signed, IntKind.bits]; omega
  obtain ⟨h1, h2, h3, h4, h5, h6, h7, h8, h9, h10⟩ := h
  exact ⟨hw _ h1 h2, hw _ h3 h4, hw _ h5 h6, hw _ h7 h8, hw _ h9 h10⟩
theorem put_row (Y : World) (ZL RL : List Value) (t : TypeId) : Below Y.heap.size Y ((Y.alloc (.cells ZL.toArray t (0, 0))).setRow Y.heap.size RL.toArray) ∧ ((Y.alloc (.cells ZL.toArray t (0, 0))).setRow Y.heap.size RL.toArray).heap[Y.heap.size]? = some (.cells RL.toArray t (0, 0)) :=
  ⟨below_setRow ((Below.refl _ _).alloc (Nat.le_refl _) _) (Nat.le_refl _) _, setRow_heap _ _ _ _ _ _ (heap_alloc_new _ _)⟩
def sA : St := ⟨[0, 16, 0, 0, 0, 0, 0, 0], 0⟩
def sB : St := ⟨[0, 0, 0, 0, 0, 0, 0, 0], 8⟩
def sZ : St := ⟨[0, 0, 0, 0, 0, 0, 0, 0], 0⟩
theorem sA_wf : swf sA := ⟨rfl, by unfold sA u64; decide, by unfold sA u64; decide⟩
theorem sB_wf : swf sB := ⟨rfl, by unfold sB u64; decide, by unfold sB u64; decide⟩
def iA : Ins := ⟨11, 0, 1, 0, -8⟩
def iB : Ins := ⟨13, 0, 0, 0, -8⟩
def iC : Ins := ⟨2, 1, 0, 0, -1⟩
theorem kn1 (w : World) : Calls Tryz.prog 11 #[iV iC] w fun e w' => e = .returned (.tuple #[.int .u64 18446744069414584578, .int .i64 0]) ∧ Below w.heap.size w w' := by
  have h := enc_ok iC (iwf_of (by decide)) (by decide) w
  have e : wrd iC = 18446744069414584578 := by decide
  rw [e] at h; exact h
theorem kn2 (n : Int) (h0 : 0 ≤ n) (h1 : n < 18446744073709551616) (h : dec n = none) (w : World) : Calls Tryz.prog 12 #[.int .u64 n] w fun e w' => e = .returned (.tuple #[.agg (iL ⟨0, 0, 0, 0, 0⟩).toArray, .int .i64 4]) ∧ Below w.heap.size w w' := by
  have hd := dec_any n h0 h1 w
  rw [h] at hd; exact hd
theorem kn4 (w : World) : Calls Tryz.prog 13 #[.agg (sL sA).toArray, iV iA] w fun e w' => e = .returned (.agg (nL 1 8 0).toArray) ∧ Below w.heap.size w w' := by
  have h := need_any sA sA_wf iA (iwf_of (by decide)) w
  have e1 : ndK iA = 1 := by decide
  have e2 : ndA sA iA = 8 := by decide
  have e3 : ndW sA iA = 0 := by decide
  rw [e1, e2, e3] at h; exact h
theorem kn5 (w : World) : Calls Tryz.prog 14 #[.agg (sL sB).toArray, iV iB, .int .u64 0] w fun e w' => e = .returned (.tuple #[.agg (sL sZ).toArray, .agg (eL 0 0).toArray]) ∧ Below w.heap.size w w' := by
  have h := do_any sB sB_wf iB (iwf_of (by decide)) 0 (by unfold u64; decide) w
  have e : doR sB iB 0 = (sZ, 0, 0) := by rfl
  rw [e] at h; exact h
theorem eqN (W : World) : (Op.equalIn 10000 46 (.agg (nL 1 8 0).toArray) (.agg (nL 1 8 0).toArray)).run Tryz.prog W = .ok true W := by kernel_rfl
theorem eqC (W : World) : (Op.equalIn 10000 50 (.agg (sL sZ).toArray) (.agg (sL sZ).toArray)).run Tryz.prog W = .ok true W := by kernel_rfl
theorem eqI (W : World) : (Op.equalIn 10000 41 (.agg (iL ⟨4, 0, 1, 2, 0⟩).toArray) (.agg (iL ⟨4, 0, 1, 2, 0⟩).toArray)).run Tryz.prog W = .ok true W := by kernel_rfl
theorem bC (W : World) : (Instr.build 50 #[]).run Tryz.prog W = .ok (.agg (sL sZ).toArray) W := by kernel_rfl
theorem bN (W : World) : (Instr.build 46 #[(0, .int .i64 1), (1, .int .u64 8)]).run Tryz.prog W = .ok (.agg (nL 1 8 0).toArray) W := by kernel_rfl
theorem bI (W : World) : (Instr.build 41 #[(0, .int .i64 4), (2, .int .i64 1), (3, .int .i64 2)]).run Tryz.prog W = .ok (.agg (iL ⟨4, 0, 1, 2, 0⟩).toArray) W := by kernel_rfl
theorem bIC (W : World) : (Instr.build 41 #[(0, .int .i64 2), (1, .int .i64 1), (4, .int .i64 (-1))]).run Tryz.prog W = .ok (.agg (iL iC).toArray) W := by kernel_rfl
theorem bIA (W : World) : (Instr.build 41 #[(0, .int .i64 11), (2, .int .i64 1), (4, .int .i64 (-8))]).run Tryz.prog W = .ok (.agg (iL iA).toArray) W := by kernel_rfl
theorem bIB (W : World) : (Instr.build 41 #[(0, .int .i64 13), (4, .int .i64 (-8))]).run Tryz.prog W = .ok (.agg (iL iB).toArray) W := by kernel_rfl
def r8 : List Value := [U 0, U 16, U 0, U 0, U 0, U 0, U 0, U 0]
theorem bR (W : World) : (Instr.build 48 #[(0, .int .u64 0), (1, .int .u64 16)]).run Tryz.prog W = .ok (.agg r8.toArray) W := by kernel_rfl
theorem bSA (W : World) : (Instr.build 50 #[(0, .agg r8.toArray)]).run Tryz.prog W = .ok (.agg (sL sA).toArray) W := by kernel_rfl
theorem bSB (W : World) : (Instr.build 50 #[(1, .int .u64 8)]).run Tryz.prog W = .ok (.agg (sL sB).toArray) W := by kernel_rfl
end Go.Proofs.YtkpjfhphohanlaaGreatDoor.JC
