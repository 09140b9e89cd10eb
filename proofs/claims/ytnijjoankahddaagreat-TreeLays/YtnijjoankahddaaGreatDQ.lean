/- tree: the document's Way, Beside. -/
import Derived.Test.YtnijjoankahddaaGreatDB
set_option linter.unusedVariables false
set_option linter.unusedSimpArgs false
namespace Go.Proofs.YtnijjoankahddaaGreat.DC
open Go.RowKit

/-- How the document's Way and Beside end. -/
def REnd (w : World) (ls : List Int) (e : Ending) (w' : World) : Prop := ∃ v, e = .returned v ∧ FI w.heap.size w' v ls ∧ Below w.heap.size w w'
theorem up_half (p k : Nat) : (128 + p) / 2 ^ (k + 1) = (128 + p) / 2 ^ k / 2 := by rw [Nat.pow_succ, Nat.div_div_eq_div_mul]
theorem up_8 (p : Nat) (hp : p < 128) : (128 + p) / 2 ^ 8 = 0 := by omega
theorem up_7 (p : Nat) (hp : p < 128) : (128 + p) / 2 ^ 7 = 1 := by omega
theorem up_pos (p k : Nat) (hk : k < 8) : 1 ≤ (128 + p) / 2 ^ k := by
  have : 2 ^ k ≤ 2 ^ 7 := Nat.pow_le_pow_right (by decide) (by omega)
  exact (Nat.le_div_iff_mul_le (Nat.pow_pos (by decide))).2 (by omega)
theorem up_two (p k : Nat) (hk : k < 7) : 2 ≤ (128 + p) / 2 ^ k := by
  have : 2 ^ k ≤ 2 ^ 6 := Nat.pow_le_pow_right (by decide) (by omega)
  exact (Nat.le_div_iff_mul_le (Nat.pow_pos (by decide))).2 (by omega)
set_option maxHeartbeats 1000000 in
set_option maxRecDepth 100000 in
theorem rway_any (p : Nat) (hp : p < 128) (w : World) : Calls Tryz.prog 15 #[.int .i64 (p : Int)] w fun e w' => REnd w (wayL p) e w' := by
  have h1 : IntKind.i64.wrap (128 + (p : Int)) = ((128 + p : Nat) : Int) := by rw [IntKind.wrap_i64]; omega
  have HS : Hid (∀ k, k < 8 → ∃ x y : Nat, (128 + p) / 2 ^ k = x ∧ (128 + p) / 2 ^ (k + 1) = y ∧ 1 ≤ x ∧ x < 256 ∧ (x : Int).tdiv 2 = (y : Int) ∧ y < x ∧ IntKind.i64.wrap (y : Int) = (y : Int) ∧ (wayL p).take (k + 1) = (wayL p).take k ++ [(x : Int)] ∧ ((wayL p).take k).length = k) := fun k hk => by
    refine ⟨_, _, rfl, rfl, up_pos p k hk, way_bd p k hp, ?_, ?_, ?_, ?_, by simp [wayL]; omega⟩
    · rw [up_half]; rfl
    · rw [up_half]; have := up_pos p k hk; omega
    · have := way_bd p (k + 1) hp; generalize (128 + p) / 2 ^ (k + 1) = y at *; rw [IntKind.wrap_i64]; omega
    · have hg : (wayL p)[k]? = some (((128 + p) / 2 ^ k : Nat) : Int) := by unfold wayL; rw [List.getElem?_map, List.getElem?_range hk]; rfl
      rw [List.take_add_one, hg]; rfl
  have HAL : Hid ((wayL p).take 8 = wayL p) := by show _ = _; rw [List.take_of_length_le (by simp [wayL])]
  have H8 : Hid ((128 + p) / 2 ^ 8 = 0) := up_8 p hp
  have H0 : Hid ((128 + p) / 2 ^ 0 = 128 + p) := by show _ = _; simp
  obtain ⟨U, hU⟩ : ∃ f : Nat → Nat, f = fun k => (128 + p) / 2 ^ k := ⟨_, rfl⟩
  have HU : Hid (∀ k, (128 + p) / 2 ^ k = U k) := fun k => by rw [hU]
  have HU0 : Hid (((128 + p : Nat) : Int) = (U 0 : Int)) := by show _ = _; rw [← HU.out, H0.out]
  have HU8 : Hid (U 8 = 0) := by show _ = _; rw [← HU.out]; exact H8.out
  simp only [HU.out] at HS
  clear hU HU H8 H0
  rw [HU0.out] at h1
  generalize wayL p = LS at *
  go_enter Tryz.func15, Tryz.ntmps15
  go_wp2
  go_loopw [3, 4] (fun out i wr => ∃ k : Nat, k ≤ 8 ∧ i = .int .i64 (U k : Int) ∧ FI w.heap.size wr out (LS.take k) ∧ Below w.heap.size w wr) (fun _ i _ => (intOf i).toNat)
  case atStart => exact ⟨0, by omega, rfl, FI.nil _ _ (Nat.le_refl _), Below.refl _ _⟩
  case round =>
    obtain ⟨k, hk, rfl, hF, hB⟩ := hrel
    have HF : Hid (FI w.heap.size wr u3 (LS.take k)) := hF
    have HB : Hid (Below w.heap.size w wr) := hB
    have hsz := hB.size
    by_cases hlt : k < 8
    · obtain ⟨x, y, ex, ey, a1, a2, a3, a4, a5, a6, a7⟩ := HS.out k hlt
      have hx1 : (1 : Int) ≤ (x : Int) := by omega
      have HTK : Hid (LS.take (k + 1) = LS.take k ++ [(x : Int)]) := a6
      have HTL : Hid ((LS.take k).length = k) := a7
      have HEY : Hid (U (k + 1) = y) := ey
      have HXY : Hid (y < x) := a4
      rw [ex]
      clear hF hB hk ex ey a1 a2 a4 a6 a7
      go_wp2_with (at_builtin; refine wpList_appI rfl (.tmp 11) (.tmp 13) rfl w.heap.size u3 (LS.take k) (x : Int) rfl rfl HF.out (by rw [HTL.out]; omega) hsz ?_; intro b3 cap3 w3 hf3 hg3)
      go_roundw
      case rel =>
        have hb3 : Below w.heap.size w w3 := (HB.out.alloc hsz _).grown hg3 (by simp; omega) (fun j hj => (World.ownsRow.lt HF.out j hj).1)
        refine ⟨k + 1, by omega, by rw [HEY.out], ?_, hb3⟩
        rw [HTK.out]
        rw [List.length_take] at hf3
        exact hf3
      case measure => have := HXY.out; simp [intOf]; omega
    · have hk8 : k = 8 := by omega
      subst hk8
      rw [HAL.out] at HF
      rw [HU8.out]
      clear hF hB hlt hk
      go_wp2
      go_ret
      exact ⟨_, rfl, HF.out, HB.out⟩
set_option maxHeartbeats 1000000 in
set_option maxRecDepth 100000 in
theorem rbeside_any (p : Nat) (hp : p < 128) (w : World) : Calls Tryz.prog 16 #[.int .i64 (p : Int)] w fun e w' => REnd w (besL p) e w' := by
  have h1 : IntKind.i64.wrap (128 + (p : Int)) = ((128 + p : Nat) : Int) := by rw [IntKind.wrap_i64]; omega
  have HS : Hid (∀ k, k < 7 → ∃ x y : Nat, (128 + p) / 2 ^ k = x ∧ (128 + p) / 2 ^ (k + 1) = y ∧ 1 < x ∧ x < 256 ∧ (x : Int).tdiv 2 = (y : Int) ∧ y < x ∧ IntKind.i64.wrap (y : Int) = (y : Int) ∧ (besL p).take (k + 1) = (besL p).take k ++ [(bes x : Int)] ∧ ((besL p).take k).length = k) := fun k hk => by
    refine ⟨_, _, rfl, rfl, up_two p k hk, way_bd p k hp, ?_, ?_, ?_, ?_, by simp [besL]; omega⟩
    · rw [up_half]; rfl
    · rw [up_half]; have := up_pos p k (by omega); omega
    · have := way_bd p (k + 1) hp; generalize (128 + p) / 2 ^ (k + 1) = y at *; rw [IntKind.wrap_i64]; omega
    · have hg : (besL p)[k]? = some (bes ((128 + p) / 2 ^ k) : Int) := by unfold besL; rw [List.getElem?_map, List.getElem?_range hk]; rfl
      rw [List.take_add_one, hg]; rfl
  have HAL : Hid ((besL p).take 7 = besL p) := by show _ = _; rw [List.take_of_length_le (by simp [besL])]
  have H8 : Hid ((128 + p) / 2 ^ 7 = 1) := up_7 p hp
  have H0 : Hid ((128 + p) / 2 ^ 0 = 128 + p) := by show _ = _; simp
  obtain ⟨U, hU⟩ : ∃ f : Nat → Nat, f = fun k => (128 + p) / 2 ^ k := ⟨_, rfl⟩
  have HU : Hid (∀ k, (128 + p) / 2 ^ k = U k) := fun k => by rw [hU]
  have HU0 : Hid (((128 + p : Nat) : Int) = (U 0 : Int)) := by show _ = _; rw [← HU.out, H0.out]
  have HU8 : Hid (U 7 = 1) := by show _ = _; rw [← HU.out]; exact H8.out
  simp only [HU.out] at HS
  clear hU HU H8 H0
  rw [HU0.out] at h1
  generalize besL p = LS at *
  go_enter Tryz.func16, Tryz.ntmps16
  go_wp2
  go_loopw [3, 4] (fun out i wr => ∃ k : Nat, k ≤ 7 ∧ i = .int .i64 (U k : Int) ∧ FI w.heap.size wr out (LS.take k) ∧ Below w.heap.size w wr) (fun _ i _ => (intOf i).toNat)
  case atStart => exact ⟨0, by omega, rfl, FI.nil _ _ (Nat.le_refl _), Below.refl _ _⟩
  case round =>
    obtain ⟨k, hk, rfl, hF, hB⟩ := hrel
    have HF : Hid (FI w.heap.size wr u3 (LS.take k)) := hF
    have HB : Hid (Below w.heap.size w wr) := hB
    have hsz := hB.size
    by_cases hlt : k < 7
    · obtain ⟨x, y, ex, ey, a1, a2, a3, a4, a5, a6, a7⟩ := HS.out k hlt
      have hx1 : (1 : Int) < (x : Int) := by omega
      have HTK : Hid (LS.take (k + 1) = LS.take k ++ [(bes x : Int)]) := a6
      have HTL : Hid ((LS.take k).length = k) := a7
      have HEY : Hid (U (k + 1) = y) := ey
      have HXY : Hid (y < x) := a4
      rw [ex]
      by_cases hev : x % 2 = 0
      · have hm : (((x : Int).tmod 2) == 0) = true := by show (((x % 2 : Nat) : Int) == 0) = true; rw [hev]; rfl
        have hm2 : ((x : Int) % 2 == 0) = true := by rw [beq_iff_eq]; omega
        have hb : IntKind.i64.wrap ((x : Int) + 1) = (bes x : Int) := by unfold bes; rw [if_pos hev, IntKind.wrap_i64]; omega
        generalize (bes x : Int) = z at *
        clear hF hB hk ex ey a1 a2 a4 a6 a7 hev hm
        go_wp2_with (at_builtin; refine wpList_appI rfl (.tmp 14) (.tmp 17) rfl w.heap.size u3 (LS.take k) z rfl rfl HF.out (by rw [HTL.out]; omega) hsz ?_; intro b3 cap3 w3 hf3 hg3)
        go_roundw
        case rel =>
          have hb3 : Below w.heap.size w w3 := (HB.out.alloc hsz _).grown hg3 (by simp; omega) (fun j hj => (World.ownsRow.lt HF.out j hj).1)
          refine ⟨k + 1, by omega, by rw [HEY.out], ?_, hb3⟩
          rw [HTK.out]
          rw [List.length_take] at hf3
          exact hf3
        case measure => have := HXY.out; simp [intOf]; omega
      · have hm : (((x : Int).tmod 2) == 0) = false := by show (((x % 2 : Nat) : Int) == 0) = false; rw [beq_eq_false_iff_ne]; omega
        have hm2 : ((x : Int) % 2 == 0) = false := by rw [beq_eq_false_iff_ne]; omega
        have hb : IntKind.i64.wrap ((x : Int) - 1) = (bes x : Int) := by unfold bes; rw [if_neg hev, IntKind.wrap_i64]; omega
        generalize (bes x : Int) = z at *
        clear hF hB hk ex ey a1 a2 a4 a6 a7 hev hm
        go_wp2_with (at_builtin; refine wpList_appI rfl (.tmp 19) (.tmp 22) rfl w.heap.size u3 (LS.take k) z rfl rfl HF.out (by rw [HTL.out]; omega) hsz ?_; intro b3 cap3 w3 hf3 hg3)
        go_roundw
        case rel =>
          have hb3 : Below w.heap.size w w3 := (HB.out.alloc hsz _).grown hg3 (by simp; omega) (fun j hj => (World.ownsRow.lt HF.out j hj).1)
          refine ⟨k + 1, by omega, by rw [HEY.out], ?_, hb3⟩
          rw [HTK.out]
          rw [List.length_take] at hf3
          exact hf3
        case measure => have := HXY.out; simp [intOf]; omega
    · have hk8 : k = 7 := by omega
      subst hk8
      rw [HAL.out] at HF
      rw [HU8.out]
      clear hF hB hlt hk
      go_wp2
      go_ret
      exact ⟨_, rfl, HF.out, HB.out⟩
end Go.Proofs.YtnijjoankahddaaGreat.DC
