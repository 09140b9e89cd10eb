/- rec: contracts of the statements' set and out. -/
import Derived.Test.YtpdafjamhccbnaaCO
set_option linter.unusedVariables false
set_option linter.unusedSimpArgs false
namespace Go.Proofs.Ytpdafjamhccbnaa.VC
open Go.RowKit

theorem gr_append (a b : List Int) : gr (a ++ b) = gr a ++ gr b := List.flatMap_append
theorem splice_gr (WS : List Int) (i : Nat) (x : Int) (h : i < WS.length) : splice (gr WS) (8 * i) (W1.le 8 x.toNat) = gr (WS.set i x) := by
  have e1 : gr WS = gr (WS.take i) ++ (W1.le 8 (WS[i]).toNat ++ gr (WS.drop (i + 1))) := by
    conv => lhs; rw [← List.take_append_drop i WS, List.drop_eq_getElem_cons h]
    rw [gr_append, gr_cons]
  have e2 : gr (WS.set i x) = gr (WS.take i) ++ (W1.le 8 x.toNat ++ gr (WS.drop (i + 1))) := by
    rw [List.set_eq_take_append_cons_drop, if_pos h, gr_append, gr_cons]
  have hl : (gr (WS.take i)).length = 8 * i := by rw [gr_len, List.length_take, Nat.min_eq_left (by omega)]
  rw [e1, e2]
  unfold splice
  rw [List.take_left' hl, W1.le_length, List.drop_append, List.drop_of_length_le (by omega), List.nil_append, hl, show 8 * i + 8 - 8 * i = 8 by omega, List.drop_left' (W1.le_length _ _)]
theorem splice_step {α : Type} (L cs : List α) (o k : Nat) (hk : k < cs.length) (ho : o + cs.length ≤ L.length) : (splice L o (cs.take k)).set (o + k) cs[k] = splice L o (cs.take (k + 1)) := by
  have h0 : (L.take o).length = o := by rw [List.length_take]; omega
  have h2 : (cs.take k).length = k := by rw [List.length_take]; omega
  have h4 : (cs.take (k + 1)).length = k + 1 := by rw [List.length_take]; omega
  have h3 : o + k < L.length := by omega
  unfold splice
  rw [List.set_append_right _ _ (by rw [h0]; omega), h0, show o + k - o = k by omega, List.set_append_right _ _ (by rw [h2]; omega), h2, Nat.sub_self, h4, List.take_succ_eq_append_getElem hk, List.drop_eq_getElem_cons h3, List.set_cons_zero, List.append_assoc, ← Nat.add_assoc]
  rfl
theorem set_set_at {α : Type} (l : List α) (i : Nat) (a b : α) : (l.set i a).set i b = l.set i b := by simp
set_option maxHeartbeats 1000000 in
set_option maxRecDepth 100000 in
theorem set_any {w X : World} {rows : List (Nat × TypeId × List Value)} (hR0 : RS w rows X) (q b : Nat) (WS : List Int) (hq : rows[q]? = some (b, 45, (gr WS).map B8)) (hl : WS.length = 16) (i : Nat) (hi : i < 16) (x : Int) (hx : u64 x) :
    Calls Try.prog 12 #[.pointer (some ⟨b, 0, none⟩), .int .i64 (i : Int), .int .u64 x] X fun e Y => e = .returned (.tuple #[]) ∧ RS w (rows.set q (b, 45, (gr (WS.set i x)).map B8)) Y := by
  obtain ⟨n, rfl⟩ : ∃ n : Nat, x = n := ⟨x.toNat, by unfold u64 at hx; omega⟩
  have hn : n < 18446744073709551616 := by unfold u64 at hx; omega
  have HEND : Hid (splice (gr WS) (8 * i) ((W1.le 8 n).take 8) = gr (WS.set i (n : Int))) := by
    show _ = _
    rw [List.take_of_length_le (by rw [W1.le_length]; decide)]
    have := splice_gr WS i (n : Int) (by omega)
    simpa using this
  have HGL : Hid ((gr WS).length = 128) := by show _ = _; rw [gr_len, hl]
  have HST : Hid (∀ k, k < 8 → ((splice (gr WS) (8 * i) ((W1.le 8 n).take k)).map B8).set (8 * i + k) (B8 (UInt8.ofNat (n / 256 ^ k % 256))) = (splice (gr WS) (8 * i) ((W1.le 8 n).take (k + 1))).map B8) := fun k hk => by
    have hk' : k < (W1.le 8 n).length := by rw [W1.le_length]; exact hk
    have h1 := splice_step (gr WS) (W1.le 8 n) (8 * i) k hk' (by rw [W1.le_length, HGL.out]; omega)
    have h2 := W1.le_get 8 n k hk
    rw [List.getElem?_eq_getElem hk', Option.some.injEq] at h2
    rw [← List.map_set, ← h2, h1]
  have HSH : Hid (∀ k, k < 8 → B8 (UInt8.ofNat (n / 256 ^ k % 256)) = .int .u8 (IntKind.u8.wrap ((n : Int) / 2 ^ (8 * k)))) := fun k hk => by rw [W1.shr_byte k n hn]; rfl
  have HSL : Hid (∀ k, k ≤ 8 → ((splice (gr WS) (8 * i) ((W1.le 8 n).take k)).map B8).length = 128) := fun k hk => by
    rw [List.length_map, splice_len _ _ _ (by rw [List.length_take, W1.le_length, HGL.out]; omega)]; exact HGL.out
  have HS0 : Hid ((gr WS).map B8 = (splice (gr WS) (8 * i) ((W1.le 8 n).take 0)).map B8) := by show _ = _; simp [splice]
  have HQL : Hid (q < rows.length) := (List.getElem?_eq_some_iff.1 hq).1
  obtain ⟨PL, hPL⟩ : ∃ PL : Nat → List Value, PL = fun k => (splice (gr WS) (8 * i) ((W1.le 8 n).take k)).map B8 := ⟨_, rfl⟩
  have hPk : ∀ k, (splice (gr WS) (8 * i) ((W1.le 8 n).take k)).map B8 = PL k := fun k => by rw [hPL]
  simp only [hPk] at HST HSL HS0
  have HEND2 : Hid (PL 8 = (gr (WS.set i (n : Int))).map B8) := by show _ = _; rw [← HEND.out, hPk]
  rw [HS0.out] at hq
  have HR : Hid (RS w (rows.set q (b, 45, PL 0)) X) := by
    have e : rows.set q (b, 45, PL 0) = rows := by
      apply List.ext_getElem?
      intro j
      rw [List.getElem?_set]
      by_cases hj : q = j
      · subst hj; rw [if_pos rfl, if_pos HQL.out, hq]
      · rw [if_neg hj]
    rw [e]; exact hR0
  generalize (gr (WS.set i (n : Int))).map B8 = FL at *
  obtain ⟨E, hE⟩ : ∃ E, E = 8 * i := ⟨_, rfl⟩
  rw [← hE] at HST
  have hE1 : IntKind.i64.wrap (8 * (i : Int)) = (E : Int) := by rw [IntKind.wrap_i64]; omega
  have hE2 : 8 * (i : Int) = (E : Int) := by omega
  have hEb : E ≤ 120 := by omega
  clear hPL hPk HEND HGL HS0 hq hR0 hl hi hx hE hn
  go_enter Try.func12, Try.ntmps12
  go_wp2
  go_loopw [6] (fun v wr => ∃ k : Nat, k ≤ 8 ∧ v = .int .i64 k ∧ RS w (rows.set q (b, 45, PL k)) wr) (fun v _ => 8 - (intOf v).toNat)
  case atStart => exact ⟨0, by omega, rfl, HR.out⟩
  case round =>
    obtain ⟨k, hk, rfl, hR⟩ := hrel
    by_cases hlt : k < 8
    · have HQ : Hid ((rows.set q (b, 45, PL k))[q]? = some (b, 45, PL k)) := List.getElem?_set_self HQL.out
      have HR4 : Hid _ := hR
      have HS1 : Hid _ := HST.out k hlt
      have HB : Hid _ := HSH.out k hlt
      have HL : Hid _ := HSL.out k hk
      rw [HB.out] at HS1
      have hkI : (k : Int) < 8 := by omega
      have hEn : IntKind.i64.wrap ((E : Int) + (k : Int)) = ((E + k : Nat) : Int) := by rw [IntKind.wrap_i64]; omega
      have hEl : (((E + k : Nat) : Int) < 128) := by omega
      have hu1 : IntKind.u64.wrap (k : Int) = (k : Int) := by rw [W1.wrap_u64]; omega
      have hu2 : IntKind.u64.wrap (8 * (k : Int)) = 8 * (k : Int) := by rw [W1.wrap_u64]; omega
      clear hR HB
      go_wp2_with (refine wpList_stB rfl (.tmp 23) (.tmp 21) rfl b (E + k) (IntKind.u8.wrap ((n : Int) / 2 ^ (8 * k))) rfl rfl (PL k) 45 (HR4.out.at q HQ.out) (by rw [HL.out]; omega) ?_
                   intro V5 hV5
                   have HR5 : Hid (RS w (rows.set q (b, 45, PL (k + 1))) V5) := by rw [hV5]; have z := HR4.out.poke q HQ.out (E + k) _ HS1.out; rw [set_set_at] at z; exact z
                   clear hV5)
      go_roundw
      case rel => exact ⟨k + 1, by omega, by go_num, HR5.out⟩
      case measure => simp [intOf]; omega
    · have hk8 : k = 8 := by omega
      subst hk8
      rw [HEND2.out] at hR
      have HR4 : Hid _ := hR
      clear hR hlt hk
      go_wp2
      go_end0
      exact ⟨rfl, HR4.out⟩
end Go.Proofs.Ytpdafjamhccbnaa.VC
