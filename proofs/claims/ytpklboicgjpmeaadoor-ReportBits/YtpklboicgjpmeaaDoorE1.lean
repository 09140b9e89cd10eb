/- Contract of wire's Unhex. -/
import Derived.Test.YtpklboicgjpmeaaDoorD1
set_option linter.unusedVariables false
set_option linter.unusedSimpArgs false
namespace Go.Proofs.YtpklboicgjpmeaaDoor
open Go.RowKit

namespace W1
/-- The bytes whose text it is, or none. -/
def unhex : List UInt8 → Option (List UInt8)
  | [] => some []
  | [_] => none
  | a :: b :: r => match dig a.toNat, dig b.toNat, unhex r with
    | some x, some y, some d => some (UInt8.ofNat (16 * x + y) :: d)
    | _, _, _ => none

theorem unhex_two (x y : UInt8) (r : List UInt8) : unhex (x :: y :: r) = match dig x.toNat, dig y.toNat, unhex r with
    | some a, some b, some d => some (UInt8.ofNat (16 * a + b) :: d)
    | _, _, _ => none := rfl

theorem unhex_append (a b d : List UInt8) (h : unhex a = some d) : unhex (a ++ b) = (unhex b).map (d ++ ·) := by
  match a, h with
  | [], h => simp only [unhex, Option.some.injEq] at h; subst h; simp
  | [x], h => simp [unhex] at h
  | x :: y :: r, h =>
    simp only [List.cons_append]
    rw [unhex_two] at h ⊢
    cases hx : dig x.toNat with
    | none => simp [hx] at h
    | some p =>
      cases hy : dig y.toNat with
      | none => simp [hx, hy] at h
      | some q =>
        cases hr : unhex r with
        | none => simp [hx, hy, hr] at h
        | some t =>
          simp only [hx, hy, hr, Option.some.injEq] at h
          subst h
          rw [unhex_append r b _ hr]
          cases unhex b <;> simp

theorem unhex_len (a d : List UInt8) (h : unhex a = some d) : a.length = 2 * d.length := by
  match a, h with
  | [], h => simp only [unhex, Option.some.injEq] at h; subst h; rfl
  | [x], h => simp [unhex] at h
  | x :: y :: r, h =>
    rw [unhex_two] at h
    cases hx : dig x.toNat with
    | none => simp [hx] at h
    | some p =>
      cases hy : dig y.toNat with
      | none => simp [hx, hy] at h
      | some q =>
        cases hr : unhex r with
        | none => simp [hx, hy, hr] at h
        | some t =>
          simp only [hx, hy, hr, Option.some.injEq] at h
          subst h
          have := unhex_len r t hr
          simp; omega

theorem unhex_step (l d : List UInt8) (k x y : Nat) (h : unhex (l.take (2 * k)) = some d) (hk : 2 * k + 1 < l.length) (hx : dig l[2 * k].toNat = some x) (hy : dig l[2 * k + 1].toNat = some y) :
    unhex (l.take (2 * (k + 1))) = some (d ++ [UInt8.ofNat (16 * x + y)]) := by
  rw [show 2 * (k + 1) = 2 * k + 1 + 1 by omega, List.take_succ_eq_append_getElem hk, List.take_succ_eq_append_getElem (by omega), List.append_assoc, unhex_append _ _ _ h]
  show Option.map _ (unhex (l[2 * k] :: l[2 * k + 1] :: [])) = _
  rw [unhex_two, hx, hy]
  rfl

theorem unhex_bad (l d : List UInt8) (k : Nat) (h : unhex (l.take (2 * k)) = some d) (hk : 2 * k + 1 < l.length) (hb : dig l[2 * k].toNat = none ∨ dig l[2 * k + 1].toNat = none) : unhex l = none := by
  have e : l = l.take (2 * k) ++ (l[2 * k] :: l[2 * k + 1] :: l.drop (2 * k + 1 + 1)) := by
    rw [← List.drop_eq_getElem_cons hk, ← List.drop_eq_getElem_cons (show 2 * k < l.length by omega), List.take_append_drop]
  rw [e, unhex_append _ _ _ h, unhex_two]
  rcases hb with hb | hb
  · rw [hb]; rfl
  · rw [hb]; cases dig l[2 * k].toNat <;> rfl

theorem unhex_odd (l : List UInt8) (h : l.length % 2 = 1) : unhex l = none := by
  cases hu : unhex l with
  | none => rfl
  | some d => have := unhex_len l d hu; omega

theorem dig_lt {c x : Nat} (h : dig c = some x) : x < 16 := by
  unfold dig at h
  split at h
  · simp at h; omega
  · split at h
    · simp at h; omega
    · simp at h
end W1

theorem FB.form {base : Nat} {w : World} {v : Value} {l : List UInt8} (h : FB base w v l) : ∃ p cap, v = .slice p l.length cap := by
  rcases h.2 with ⟨h1, h2⟩ | ⟨g, cap, cur, h1, _⟩
  · exact ⟨none, 0, by rw [h1, h2]⟩
  · exact ⟨_, cap, h1⟩

theorem getb (s : ByteArray) (i : Nat) (h : i < s.size) (h' : i < s.data.toList.length) : s.data.toList[i]'h' = s[i]'h := by rw [Array.getElem_toList]; rfl

theorem or_digits (x y : Nat) (hx : x < 16) (hy : y < 16) : bits .or .u8 (bits .or .u8 0 (x : Int) * 16 % 256) (y : Int) = (((UInt8.ofNat (16 * x + y)).toNat : Nat) : Int) := by
  rw [show (0 : Int) = ((0 : Nat) : Int) from rfl, u8_or_nat 0 x (by decide) (by omega), Nat.zero_or, show ((x : Int) * 16 % 256) = ((16 * x : Nat) : Int) by omega, u8_or_nat _ _ (by omega) (by omega), nat_join 4 _ _ (by omega) (by omega)]
  simp; omega

set_option maxHeartbeats 1000000 in
set_option maxRecDepth 100000 in
theorem unhex_any (s : ByteArray) (w : World) (hr : s.size ≤ 140737488351232) :
    Calls Tryd.prog 51 #[.string s] w fun e w' => Below w.heap.size w w' ∧ match W1.unhex s.data.toList with
      | some d => ∃ v, e = .returned (.tuple #[v, .int .i64 0]) ∧ FB w.heap.size w' v d
      | none => e = .returned (.tuple #[.slice none 0 0, .int .i64 4]) := by
  obtain ⟨i0, hi, hz0, hz1, hz2⟩ := info_parts Tryd.infoU8
  have hlen : s.data.toList.length = s.size := by simp
  have HLEN : Hid _ := hlen
  clear hlen
  go_enter Tryd.func51, Tryd.ntmps51
  go_wp2
  go_step3
  go_wp2_with (at_make; refine wpList_make_own _ rfl _ _ 28 rfl w.heap.size 5 i0 (.int .u8 0) 1 Tryd.underlying28 hi hz0 hz1 _ _ _ (s.size / 2) rfl rfl (by omega) ?b2 ?b3 (Nat.le_refl _) ?_)
  case b2 => rw [hz2]; omega
  case b3 => unfold maxLen; omega
  intro w0 hown0 hgrow0
  go_wp2
  go_step3
  go_wp2
  go_loopw [4, 17] (fun v i wr => ∃ (k : Nat) (d : List UInt8), k ≤ s.size / 2 ∧ i = .int .i64 k ∧ W1.unhex (s.data.toList.take (2 * k)) = some d ∧ FB w.heap.size wr v d ∧ Below w.heap.size w wr)
    (fun _ i _ => s.size / 2 - (intOf i).toNat)
  case atStart => exact ⟨0, [], Nat.zero_le _, rfl, rfl, hown0, (Below.refl _ _).grown hgrow0 (Nat.le_refl _) (fun k h => by cases h)⟩
  case round =>
    obtain ⟨k, d, hk, rfl, hd, hown, hbel⟩ := hrel
    have HD : Hid _ := hd
    have hsz := hbel.size
    have hdl := W1.unhex_len _ _ hd
    rw [List.length_take, Nat.min_eq_left (by rw [HLEN.out]; omega)] at hdl
    have hdl2 : d.length ≤ k := by omega
    have hdl3 : k ≤ d.length := by omega
    obtain ⟨p, cap, rfl⟩ := hown.form
    clear hown0 hgrow0 hd hdl
    by_cases hlt : k < s.size / 2
    · have hb0 : 2 * k < s.size := by omega
      have hb1 : 2 * k + 1 < s.size := by omega
      cases hx : dig (s[2 * k]'hb0).toNat with
      | none =>
        have hne : ((2 : Int) * (d.length : Int) != (s.size : Int)) = true := by rw [bne_iff_ne]; omega
        go_wp2_with fail
        refine wp_loop_rounds 3 ?_
        rw [rounds_succ]
        go_wp2_with (go_at_call 63; refine (digit_any _ _).mono ?_; rintro e w1 ⟨rfl, rfl⟩)
        try rw [Exit.noGoto_ret]
        go_ret2
        have hbad : W1.unhex s.data.toList = none := W1.unhex_bad _ _ k HD.out (by rw [HLEN.out]; omega) (.inl (by rw [getb _ _ (by omega)]; exact hx))
        rw [hbad]
        exact ⟨hbel, rfl⟩
      | some x =>
        cases hy : dig (s[2 * k + 1]'hb1).toNat with
        | none =>
          have hne : ((2 : Int) * (d.length : Int) != (s.size : Int)) = true := by rw [bne_iff_ne]; omega
          go_wp2_with fail
          refine wp_loop_rounds 3 ?_
          rw [rounds_succ]
          go_wp2_with (go_at_call 63; refine (digit_any _ _).mono ?_; rintro e w1 ⟨rfl, rfl⟩)
          rw [rounds_succ]
          go_wp2_with (go_at_call 63; refine (digit_any _ _).mono ?_; rintro e w1 ⟨rfl, rfl⟩)
          try rw [Exit.noGoto_ret]
          go_ret2
          have hbad : W1.unhex s.data.toList = none := W1.unhex_bad _ _ k HD.out (by rw [HLEN.out]; omega) (.inr (by rw [getb _ _ (by omega)]; exact hy))
          rw [hbad]
          exact ⟨hbel, rfl⟩
        | some y =>
          have hxy := or_digits x y (W1.dig_lt hx) (W1.dig_lt hy)
          have HX : Hid _ := hx
          have HY : Hid _ := hy
          go_wp2_with fail
          refine wp_loop_rounds 3 ?_
          rw [rounds_succ]
          go_wp2_with (go_at_call 63; refine (digit_any _ _).mono ?_; rintro e w1 ⟨rfl, rfl⟩)
          rw [rounds_succ]
          go_wp2_with (go_at_call 63; refine (digit_any _ _).mono ?_; rintro e w1 ⟨rfl, rfl⟩)
          rw [rounds_succ]
          go_wp2_with (at_builtin; refine wpList_append_lies _ rfl (.tmp 40) (.tmp 42) 28 rfl w.heap.size 5 i0 (.int .u8 0) 1 1 Tryd.underlying28 hi hz0 hz1 hz2 rfl (by decide) (.slice p d.length cap) _ _ rfl (by exact hown.alloc _) ⟨wr.heap.size, 0, none⟩ 1 1 [B8 (UInt8.ofNat (16 * x + y))] rfl rfl (by exact cell_one_new _ _ _) (by intro u hu; simp at hu; subst hu; rfl) (by decide) (by unfold maxLen; omega) (by omega) (by simp; omega) _ rfl ?_; intro g cap' w' hown' hgr hg hlt')
          go_roundw
          case rel =>
            refine ⟨k + 1, d ++ [UInt8.ofNat (16 * x + y)], by omega, by go_num, W1.unhex_step _ d k x y HD.out (by rw [HLEN.out]; omega) (by rw [getb _ _ (by omega)]; exact HX.out) (by rw [getb _ _ (by omega)]; exact HY.out), ?_, (hbel.alloc hbel.size _).grown hgr (by simp; omega) (fun j hj => (hown.lt j hj).1)⟩
            unfold FB
            rw [List.length_append, List.map_append]
            exact hown'
          case measure => simp [intOf]; omega
    · have hk2 : k = s.size / 2 := by omega
      by_cases hpar : s.size % 2 = 1
      · have hne : ((2 : Int) * (d.length : Int) != (s.size : Int)) = true := by rw [bne_iff_ne]; omega
        clear hk2
        go_wp2
        try rw [Exit.noGoto_ret]
        go_ret2
        rw [W1.unhex_odd _ (by rw [HLEN.out]; exact hpar)]
        exact ⟨hbel, rfl⟩
      · have hne : ((2 : Int) * (d.length : Int) != (s.size : Int)) = false := by rw [bne_eq_false_iff_eq]; omega
        have he : s.data.toList.take (2 * k) = s.data.toList := List.take_of_length_le (by rw [HLEN.out]; omega)
        have hd2 := HD.out
        rw [he] at hd2
        have HD2 : Hid _ := hd2
        clear hk2 he hd2
        go_wp2
        try rw [Exit.noGoto_ret]
        go_ret2
        rw [HD2.out]
        exact ⟨hbel, _, rfl, hown⟩

end Go.Proofs.YtpklboicgjpmeaaDoor
