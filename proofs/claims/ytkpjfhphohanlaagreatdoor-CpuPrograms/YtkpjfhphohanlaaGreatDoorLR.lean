/- cpu: what the document reads as a number. -/
import Derived.Test.YtkpjfhphohanlaaGreatDoorJT
import Derived.Test.YtkpjfhphohanlaaGreatDoorLQ
set_option linter.unusedVariables false
set_option linter.unusedSimpArgs false
namespace Go.Proofs.YtkpjfhphohanlaaGreatDoor.JC
open Go.RowKit
open Go.Proofs.YtkpjfhphohanlaaGreatDoor.EC (row_lt heap_at rangeAt_below rangeAt_row ret_bool ret_i64 beq_int)

theorem fdg_step (s : List UInt8) (k : Nat) (hk : k < s.length) : fdg (s.take (k + 1)) = if 48 ≤ (s[k]).toNat ∧ (s[k]).toNat ≤ 57 then fdg (s.take k) * 10 + ((s[k]).toNat - 48) else fdg (s.take k) := by
  rw [List.take_succ_eq_append_getElem hk, fdg_snoc]
theorem fdg_at (s : List UInt8) (k : Nat) (hk : k ≤ 12) : fdg (s.take k) < 1000000000000 := by
  have h := fdg_bd _ (s.take k) rfl
  have h2 : 10 ^ (s.take k).length ≤ 10 ^ 12 := Nat.pow_le_pow_right (by decide) (by rw [List.length_take]; omega)
  have h3 : (10 : Nat) ^ 12 = 1000000000000 := by decide
  omega
/-- The sign, as far as it is read. -/
def ngR (s : List UInt8) (k : Nat) : Bool := decide (1 ≤ k) && decide (s.head? = some 45)
theorem ng_0 (s : List UInt8) : ngR s 0 = false := rfl
theorem ng_1 (s : List UInt8) (k : Nat) : ngR s (k + 1) = decide (s.head? = some 45) := by
  unfold ngR; rw [decide_eq_true (by omega)]; rfl
theorem numR_end (s : List UInt8) (k : Nat) (hk : k = 12 ∨ (k ≤ 12 ∧ k = s.length)) : numR s = if ngR s k then -(fdg (s.take k) : Int) else (fdg (s.take k) : Int) := by
  have ht : s.take 12 = s.take k := by
    rcases hk with rfl | ⟨h1, rfl⟩
    · rfl
    · rw [List.take_of_length_le (by omega), List.take_of_length_le (Nat.le_refl _)]
  unfold numR
  rw [ht]
  cases k with
  | zero =>
    rcases hk with h | ⟨_, h⟩
    · cases h
    · rw [List.eq_nil_of_length_eq_zero h.symm]; rfl
  | succ k => rw [ng_1]; simp
theorem str_at (s : List UInt8) (k : Nat) (hk : k < s.length) (w : World) : (Instr.index 9 (.string ⟨s.toArray⟩) (.int .i64 (k : Int))).run Tryz.prog w = .ok (.int .u8 ((s[k]).toNat : Int)) w := by
  have h2 : (0 : Int) ≤ (k : Int) ∧ (k : Int) < ((⟨s.toArray⟩ : ByteArray).size : Int) := by simp [ByteArray.size]; omega
  rw [run_index_string w 9 ⟨s.toArray⟩ .i64 _ (by kernel_rfl), dif_pos h2]
  congr 2
set_option maxHeartbeats 2000000 in
set_option maxRecDepth 100000 in
theorem number_any (s : List UInt8) (hl : s.length ≤ 1000000) (w : World) : Calls Tryz.prog 35 #[sV s] w fun e w' => e = .returned (.int .i64 (numR s)) ∧ w = w' := by
  obtain ⟨S, hS⟩ : ∃ S : ByteArray, S = ⟨s.toArray⟩ := ⟨_, rfl⟩
  have hsz : S.size = s.length := by rw [hS]; simp [ByteArray.size]
  have hix : ∀ (k : Nat) (hk : k < s.length) (W : World), (Instr.index 9 (.string S) (.int .i64 (k : Int))).run Tryz.prog W = .ok (.int .u8 ((s[k]).toNat : Int)) W := fun k hk W => by rw [hS]; exact str_at s k hk W
  have HIX : Hid _ := hix
  have HE : Hid (∀ k : Nat, k = 12 ∨ (k ≤ 12 ∧ k = s.length) → numR s = if ngR s k then -(fdg (s.take k) : Int) else (fdg (s.take k) : Int)) := fun k hk => numR_end s k hk
  unfold sV
  rw [← hS]
  clear hS hix
  go_enter Tryz.func35, Tryz.ntmps35
  go_wp2
  go_loopw [3, 4, 5] (fun n g i wr => ∃ k : Nat, k ≤ 12 ∧ k ≤ s.length ∧ n = .int .i64 (fdg (s.take k) : Int) ∧ g = .bool (ngR s k) ∧ i = .int .i64 k ∧ w = wr) (fun _ _ i _ => 12 - (intOf i).toNat)
  case atStart => exact ⟨0, by omega, by omega, rfl, rfl, rfl, rfl⟩
  case round =>
    obtain ⟨k, hk, hks, rfl, rfl, rfl, rfl⟩ := hrel
    by_cases hlt : k < s.length ∧ k < 12
    · obtain ⟨hlt, hlt2⟩ := hlt
      have hi := fun W => HIX.out k hlt W
      have hstep := fdg_step s k hlt
      have hbd := fdg_at s k hk
      have hh : k = 0 → (s.head? = some 45 ↔ s[k] = 45) := fun e => by subst e; rw [List.head?_eq_getElem?, List.getElem?_eq_getElem hlt]; simp
      have hc := (s[k]).toNat_lt
      have hc45 : s[k] = 45 ↔ (s[k]).toNat = 45 := ⟨fun e => by rw [e]; rfl, fun e => UInt8.toNat.inj (by rw [e]; rfl)⟩
      obtain ⟨C, hC⟩ : ∃ C, C = (s[k]).toNat := ⟨_, rfl⟩
      rw [← hC] at hi hstep hc hc45
      have hka : (k : Int) < S.size := by omega
      have hkb : (k : Int) < 12 := by omega
      rw [hc45] at hh
      clear hC hc45 HIX HE
      generalize fdg (s.take k) = N at *
      by_cases h0 : k = 0
      · subst h0
        have hi0 : ∀ W, (Instr.index 9 (.string S) (.int .i64 0)).run Tryz.prog W = .ok (.int .u8 (C : Int)) W := fun W => hi W
        clear hi
        by_cases h1 : C = 45
        · have HG : Hid (ngR s (0 + 1) = true) := by show _ = _; rw [ng_1, decide_eq_true ((hh rfl).2 h1)]
          have HF : Hid (fdg (s.take (0 + 1)) = N) := by show _ = _; rw [hstep, h1]; rfl
          subst h1
          have hi1 : ∀ W, (Instr.index 9 (.string S) (.int .i64 0)).run Tryz.prog W = .ok (.int .u8 45) W := fun W => hi0 W
          clear hh hstep hi0
          go_wp2
          exact ⟨⟨0 + 1, by omega, by omega, by rw [HF.out] <;> first | rfl | (push_cast; rfl) | (congr 1; push_cast; omega), by rw [HG.out], by go_num, trivial⟩, by first | (simp [intOf]; done) | (simp [intOf]; omega)⟩
        · have HG : Hid (ngR s (0 + 1) = ngR s 0) := by show _ = _; rw [ng_1, ng_0, decide_eq_false (fun e => h1 ((hh rfl).1 e))]
          have hc4 : ((C : Int) == 45) = false := by rw [beq_eq_false_iff_ne]; omega
          clear hh h1
          by_cases hdg : 48 ≤ C
          · by_cases hdg2 : C ≤ 57
            · have HF : Hid (fdg (s.take (0 + 1)) = N * 10 + (C - 48)) := by show _ = _; rw [hstep, if_pos ⟨hdg, hdg2⟩]
              have e1 : IntKind.u8.wrap ((C : Int) - 48) = (C : Int) - 48 := by rw [IntKind.wrap_u8]; omega
              have e2 : IntKind.i64.wrap ((N : Int) * 10) = (N : Int) * 10 := by rw [IntKind.wrap_i64]; omega
              have e3 : IntKind.i64.wrap ((C : Int) - 48) = (C : Int) - 48 := by rw [IntKind.wrap_i64]; omega
              have e4 : IntKind.i64.wrap ((N : Int) * 10 + ((C : Int) - 48)) = (N : Int) * 10 + ((C : Int) - 48) := by rw [IntKind.wrap_i64]; omega
              have i1 : (48 : Int) ≤ C := by omega
              have i2 : (C : Int) ≤ 57 := by omega
              clear hstep
              go_wp2
              exact ⟨⟨0 + 1, by omega, by omega, by rw [HF.out] <;> first | rfl | (push_cast; rfl) | (congr 1; push_cast; omega), by rw [HG.out], by go_num, trivial⟩, by first | (simp [intOf]; done) | (simp [intOf]; omega)⟩
            · have HF : Hid (fdg (s.take (0 + 1)) = N) := by show _ = _; rw [hstep, if_neg (fun e => hdg2 e.2)]
              have i1 : (48 : Int) ≤ C := by omega
              have i2 : ¬ (C : Int) ≤ 57 := by omega
              clear hstep
              go_wp2
              exact ⟨⟨0 + 1, by omega, by omega, by rw [HF.out] <;> first | rfl | (push_cast; rfl) | (congr 1; push_cast; omega), by rw [HG.out], by go_num, trivial⟩, by first | (simp [intOf]; done) | (simp [intOf]; omega)⟩
          · have HF : Hid (fdg (s.take (0 + 1)) = N) := by show _ = _; rw [hstep, if_neg (fun e => hdg e.1)]
            have i1 : ¬ (48 : Int) ≤ C := by omega
            clear hstep
            go_wp2
            exact ⟨⟨0 + 1, by omega, by omega, by rw [HF.out] <;> first | rfl | (push_cast; rfl) | (congr 1; push_cast; omega), by rw [HG.out], by go_num, trivial⟩, by first | (simp [intOf]; done) | (simp [intOf]; omega)⟩
      · have HG : Hid (ngR s (k + 1) = ngR s k) := by
          show _ = _
          cases k with
          | zero => exact absurd rfl h0
          | succ k => rw [ng_1, ng_1]
        have hk0 : ((k : Int) == 0) = false := by rw [beq_eq_false_iff_ne]; omega
        clear hh h0
        by_cases hdg : 48 ≤ C
        · by_cases hdg2 : C ≤ 57
          · have HF : Hid (fdg (s.take (k + 1)) = N * 10 + (C - 48)) := by show _ = _; rw [hstep, if_pos ⟨hdg, hdg2⟩]
            have e1 : IntKind.u8.wrap ((C : Int) - 48) = (C : Int) - 48 := by rw [IntKind.wrap_u8]; omega
            have e2 : IntKind.i64.wrap ((N : Int) * 10) = (N : Int) * 10 := by rw [IntKind.wrap_i64]; omega
            have e3 : IntKind.i64.wrap ((C : Int) - 48) = (C : Int) - 48 := by rw [IntKind.wrap_i64]; omega
            have e4 : IntKind.i64.wrap ((N : Int) * 10 + ((C : Int) - 48)) = (N : Int) * 10 + ((C : Int) - 48) := by rw [IntKind.wrap_i64]; omega
            have i1 : (48 : Int) ≤ C := by omega
            have i2 : (C : Int) ≤ 57 := by omega
            clear hstep
            go_wp2
            exact ⟨⟨k + 1, by omega, by omega, by rw [HF.out] <;> first | rfl | (push_cast; rfl) | (congr 1; push_cast; omega), by rw [HG.out], by go_num, trivial⟩, by first | (simp [intOf]; done) | (simp [intOf]; omega)⟩
          · have HF : Hid (fdg (s.take (k + 1)) = N) := by show _ = _; rw [hstep, if_neg (fun e => hdg2 e.2)]
            have i1 : (48 : Int) ≤ C := by omega
            have i2 : ¬ (C : Int) ≤ 57 := by omega
            clear hstep
            go_wp2
            exact ⟨⟨k + 1, by omega, by omega, by rw [HF.out] <;> first | rfl | (push_cast; rfl) | (congr 1; push_cast; omega), by rw [HG.out], by go_num, trivial⟩, by first | (simp [intOf]; done) | (simp [intOf]; omega)⟩
        · have HF : Hid (fdg (s.take (k + 1)) = N) := by show _ = _; rw [hstep, if_neg (fun e => hdg e.1)]
          have i1 : ¬ (48 : Int) ≤ C := by omega
          clear hstep
          go_wp2
          exact ⟨⟨k + 1, by omega, by omega, by rw [HF.out] <;> first | rfl | (push_cast; rfl) | (congr 1; push_cast; omega), by rw [HG.out], by go_num, trivial⟩, by first | (simp [intOf]; done) | (simp [intOf]; omega)⟩
    · have HN : Hid _ := HE.out k (by omega)
      have hbd := fdg_at s k hk
      have hz : k < s.length ∧ k = 12 ∨ k = s.length := by omega
      have e2 : IntKind.i64.wrap (-(fdg (s.take k) : Int)) = -(fdg (s.take k) : Int) := by rw [IntKind.wrap_i64]; omega
      generalize fdg (s.take k) = N at *
      cases hg : ngR s k
      · rw [hg] at HN
        have HN2 : Hid (numR s = (N : Int)) := HN.out
        clear HIX HE hlt HN hg
        rcases hz with ⟨h1, h2⟩ | h2
        · have i1 : (k : Int) < S.size := by omega
          have i2 : ¬ (k : Int) < 12 := by omega
          clear h2
          go_wp2
          go_ret
          exact ⟨ret_i64 (by rw [HN2.out]), rfl⟩
        · have i1 : ¬ (k : Int) < S.size := by omega
          clear h2
          go_wp2
          go_ret
          exact ⟨ret_i64 (by rw [HN2.out]), rfl⟩
      · rw [hg] at HN
        have HN2 : Hid (numR s = -(N : Int)) := HN.out
        clear HIX HE hlt HN hg
        rcases hz with ⟨h1, h2⟩ | h2
        · have i1 : (k : Int) < S.size := by omega
          have i2 : ¬ (k : Int) < 12 := by omega
          clear h2
          go_wp2
          go_ret
          exact ⟨ret_i64 (by rw [HN2.out]), rfl⟩
        · have i1 : ¬ (k : Int) < S.size := by omega
          clear h2
          go_wp2
          go_ret
          exact ⟨ret_i64 (by rw [HN2.out]), rfl⟩
end Go.Proofs.YtkpjfhphohanlaaGreatDoor.JC
