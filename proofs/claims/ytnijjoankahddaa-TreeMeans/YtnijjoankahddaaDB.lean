/- tree: Way, Beside of the program. -/
import Derived.Test.YtnijjoankahddaaDA
set_option linter.unusedVariables false
set_option linter.unusedSimpArgs false
namespace Go.Proofs.Ytnijjoankahddaa.DC
open Go.RowKit

/-- How Way and Beside end. -/
def LEnd (w : World) (ls : List Int) (e : Ending) (w' : World) : Prop := ∃ v, e = .returned (.tuple #[v, .int .i64 0]) ∧ FI w.heap.size w' v ls ∧ Below w.heap.size w w'
theorem besideOf_any (i : Nat) (h : i < 256) (w : World) : Calls Try.prog 42 #[.int .i64 (i : Int)] w fun e w' => e = .returned (.int .i64 (bes i : Int)) ∧ w' = w := by
  have hx : bits .xor .i64 (i : Int) 1 = (bes i : Int) := by
    have : ∀ i, i < 256 → bits .xor .i64 ((i : Nat) : Int) 1 = ((bes i : Nat) : Int) := by decide +kernel
    exact this i h
  generalize (bes i : Int) = y at *
  go_enter Try.func42, Try.ntmps42
  go_wp2
  go_ret
  exact ⟨rfl, rfl⟩
theorem way_bad (pg : Int) (h : mayP pg = false) (w : World) : Calls Try.prog 23 #[.int .i64 pg] w fun e w' => e = .returned (.tuple #[.slice none 0 0, .int .i64 2]) ∧ w' = w := by
  have HP : Hid (Calls Try.prog 35 #[.int .i64 pg] w fun e w' => e = .returned (.bool false) ∧ w' = w) := by have q := isPage_any pg w; rw [h] at q; exact q
  clear h
  go_enter Try.func23, Try.ntmps23
  go_wp2_with fail
  refine Calls.mono HP.out ?_
  rintro e w' ⟨rfl, rfl⟩
  go_wp2
  go_ret2
  exact ⟨rfl, rfl⟩
theorem beside_bad (pg : Int) (h : mayP pg = false) (w : World) : Calls Try.prog 24 #[.int .i64 pg] w fun e w' => e = .returned (.tuple #[.slice none 0 0, .int .i64 2]) ∧ w' = w := by
  have HP : Hid (Calls Try.prog 35 #[.int .i64 pg] w fun e w' => e = .returned (.bool false) ∧ w' = w) := by have q := isPage_any pg w; rw [h] at q; exact q
  clear h
  go_enter Try.func24, Try.ntmps24
  go_wp2_with fail
  refine Calls.mono HP.out ?_
  rintro e w' ⟨rfl, rfl⟩
  go_wp2
  go_ret2
  exact ⟨rfl, rfl⟩
set_option maxHeartbeats 1000000 in
set_option maxRecDepth 100000 in
theorem way_ok (p : Nat) (hp : p < 128) (w : World) : Calls Try.prog 23 #[.int .i64 (p : Int)] w fun e w' => LEnd w (wayL p) e w' := by
  have HP : Hid (Calls Try.prog 35 #[.int .i64 (p : Int)] w fun e w' => e = .returned (.bool true) ∧ w' = w) := by have q := isPage_any (p : Int) w; rw [show mayP (p : Int) = true from decide_eq_true (by omega)] at q; exact q
  have HLF : Hid (∀ W, Calls Try.prog 31 #[.int .i64 (p : Int)] W fun e w' => e = .returned (.int .i64 ((128 + p : Nat) : Int)) ∧ w' = W) := fun W => leafOf_any p hp W
  have HST : Hid (∀ k, k < 8 → ((128 + p : Nat) : Int) / 2 ^ k = (((128 + p) / 2 ^ k : Nat) : Int) ∧ (wayL p).take (k + 1) = (wayL p).take k ++ [(((128 + p) / 2 ^ k : Nat) : Int)] ∧ ((wayL p).take k).length = k) := fun k hk => ⟨by rw [Int.natCast_ediv, Int.natCast_pow]; rfl, by
    have hg : (wayL p)[k]? = some ((((128 + p) / 2 ^ k : Nat) : Int)) := by unfold wayL; rw [List.getElem?_map, List.getElem?_range hk]; rfl
    rw [List.take_add_one, hg]; rfl, by simp [wayL]; omega⟩
  have HWB : Hid (∀ k, (128 + p) / 2 ^ k < 256) := fun k => way_bd p k hp
  have HAL : Hid ((wayL p).take 8 = wayL p) := by show _ = _; rw [List.take_of_length_le (by simp [wayL])]
  generalize ((128 + p : Nat) : Int) = LF at *
  obtain ⟨LS, hLS⟩ : ∃ L, L = wayL p := ⟨_, rfl⟩
  rw [← hLS] at HAL ⊢
  simp only [← hLS] at HST
  clear hLS
  go_enter Try.func23, Try.ntmps23
  go_wp2_with fail
  refine Calls.mono HP.out ?_
  rintro e w' ⟨rfl, rfl⟩
  go_wp2
  go_loopw [4, 9] (fun out i wr => ∃ k : Nat, k ≤ 8 ∧ i = .int .i64 k ∧ FI w'.heap.size wr out (LS.take k) ∧ Below w'.heap.size w' wr) (fun _ i _ => 8 - (intOf i).toNat)
  case atStart => exact ⟨0, by omega, rfl, FI.nil _ _ (Nat.le_refl _), Below.refl _ _⟩
  case round =>
    obtain ⟨k, hk, rfl, hF, hB⟩ := hrel
    have HF : Hid _ := hF
    have HB : Hid (Below w'.heap.size w' wr) := hB
    have hsz := hB.size
    by_cases hlt : k < 8
    · obtain ⟨h1, h2, h3⟩ := HST.out k hlt
      have hkI : (k : Int) < 8 := by omega
      have HTK : Hid (LS.take (k + 1) = LS.take k ++ [(((128 + p) / 2 ^ k : Nat) : Int)]) := h2
      have HTL : Hid ((LS.take k).length = k) := h3
      clear hF hB h2 h3 hk
      generalize (((128 + p) / 2 ^ k : Nat) : Int) = y at *
      go_wp2_with fail
      refine Calls.mono (HLF.out _) ?_
      rintro e W1 ⟨rfl, rfl⟩
      go_wp2_with (at_builtin; refine wpList_appI rfl (.tmp 12) (.tmp 17) rfl w'.heap.size u4 (LS.take k) y rfl rfl HF.out (by rw [HTL.out]; omega) hsz ?_; intro b3 cap3 w3 hf3 hg3)
      go_roundw
      case rel =>
        have hb3 : Below w'.heap.size w' w3 := (HB.out.alloc hsz _).grown hg3 (by simp; omega) (fun j hj => (World.ownsRow.lt HF.out j hj).1)
        refine ⟨k + 1, by omega, by go_num, ?_, hb3⟩
        rw [HTK.out]
        rw [List.length_take] at hf3
        exact hf3
      case measure => simp [intOf]; omega
    · have hk8 : k = 8 := by omega
      subst hk8
      rw [HAL.out] at HF
      clear hF hB hlt hk
      go_wp2
      go_ret2
      exact ⟨_, rfl, HF.out, HB.out⟩
set_option maxHeartbeats 1000000 in
set_option maxRecDepth 100000 in
theorem beside_ok (p : Nat) (hp : p < 128) (w : World) : Calls Try.prog 24 #[.int .i64 (p : Int)] w fun e w' => LEnd w (besL p) e w' := by
  have HP : Hid (Calls Try.prog 35 #[.int .i64 (p : Int)] w fun e w' => e = .returned (.bool true) ∧ w' = w) := by have q := isPage_any (p : Int) w; rw [show mayP (p : Int) = true from decide_eq_true (by omega)] at q; exact q
  have HLF : Hid (∀ W, Calls Try.prog 31 #[.int .i64 (p : Int)] W fun e w' => e = .returned (.int .i64 ((128 + p : Nat) : Int)) ∧ w' = W) := fun W => leafOf_any p hp W
  have HST : Hid (∀ k, k < 7 → ((128 + p : Nat) : Int) / 2 ^ k = (((128 + p) / 2 ^ k : Nat) : Int) ∧ (besL p).take (k + 1) = (besL p).take k ++ [(bes ((128 + p) / 2 ^ k) : Int)] ∧ ((besL p).take k).length = k) := fun k hk => ⟨by rw [Int.natCast_ediv, Int.natCast_pow]; rfl, by
    have hg : (besL p)[k]? = some ((bes ((128 + p) / 2 ^ k) : Int)) := by unfold besL; rw [List.getElem?_map, List.getElem?_range hk]; rfl
    rw [List.take_add_one, hg]; rfl, by simp [besL]; omega⟩
  have HWB : Hid (∀ k, (128 + p) / 2 ^ k < 256) := fun k => way_bd p k hp
  have HAL : Hid ((besL p).take 7 = besL p) := by show _ = _; rw [List.take_of_length_le (by simp [besL])]
  generalize ((128 + p : Nat) : Int) = LF at *
  obtain ⟨LS, hLS⟩ : ∃ L, L = besL p := ⟨_, rfl⟩
  rw [← hLS] at HAL ⊢
  simp only [← hLS] at HST
  clear hLS
  go_enter Try.func24, Try.ntmps24
  go_wp2_with fail
  refine Calls.mono HP.out ?_
  rintro e w' ⟨rfl, rfl⟩
  go_wp2
  go_loopw [4, 9] (fun out i wr => ∃ k : Nat, k ≤ 7 ∧ i = .int .i64 k ∧ FI w'.heap.size wr out (LS.take k) ∧ Below w'.heap.size w' wr) (fun _ i _ => 7 - (intOf i).toNat)
  case atStart => exact ⟨0, by omega, rfl, FI.nil _ _ (Nat.le_refl _), Below.refl _ _⟩
  case round =>
    obtain ⟨k, hk, rfl, hF, hB⟩ := hrel
    have HF : Hid _ := hF
    have HB : Hid (Below w'.heap.size w' wr) := hB
    have hsz := hB.size
    by_cases hlt : k < 7
    · obtain ⟨h1, h2, h3⟩ := HST.out k hlt
      have hkI : (k : Int) < 7 := by omega
      have HTK : Hid (LS.take (k + 1) = LS.take k ++ [(bes ((128 + p) / 2 ^ k) : Int)]) := h2
      have HTL : Hid ((LS.take k).length = k) := h3
      have HBO : Hid (∀ W, Calls Try.prog 42 #[.int .i64 (((128 + p) / 2 ^ k : Nat) : Int)] W fun e w' => e = .returned (.int .i64 (bes ((128 + p) / 2 ^ k) : Int)) ∧ w' = W) := fun W => besideOf_any _ (HWB.out k) W
      clear hF hB h2 h3 hk
      generalize (bes ((128 + p) / 2 ^ k) : Int) = y at *
      generalize (((128 + p) / 2 ^ k : Nat) : Int) = z at *
      go_wp2_with fail
      refine Calls.mono (HLF.out _) ?_
      rintro e W1 ⟨rfl, rfl⟩
      go_wp2_with fail
      refine Calls.mono (HBO.out _) ?_
      rintro e W2 ⟨rfl, rfl⟩
      go_wp2_with (at_builtin; refine wpList_appI rfl (.tmp 12) (.tmp 18) rfl w'.heap.size u4 (LS.take k) y rfl rfl HF.out (by rw [HTL.out]; omega) hsz ?_; intro b3 cap3 w3 hf3 hg3)
      go_roundw
      case rel =>
        have hb3 : Below w'.heap.size w' w3 := (HB.out.alloc hsz _).grown hg3 (by simp; omega) (fun j hj => (World.ownsRow.lt HF.out j hj).1)
        refine ⟨k + 1, by omega, by go_num, ?_, hb3⟩
        rw [HTK.out]
        rw [List.length_take] at hf3
        exact hf3
      case measure => simp [intOf]; omega
    · have hk8 : k = 7 := by omega
      subst hk8
      rw [HAL.out] at HF
      clear hF hB hlt hk
      go_wp2
      go_ret2
      exact ⟨_, rfl, HF.out, HB.out⟩
end Go.Proofs.Ytnijjoankahddaa.DC
