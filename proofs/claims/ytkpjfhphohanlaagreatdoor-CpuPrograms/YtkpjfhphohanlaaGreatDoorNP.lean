/- cpu: a text's lines, as the document takes them. -/
import Derived.Test.YtkpjfhphohanlaaGreatDoorLT
set_option linter.unusedVariables false
set_option linter.unusedSimpArgs false
namespace Go.Proofs.YtkpjfhphohanlaaGreatDoor.JC
open Go.RowKit
open Go.Proofs.YtkpjfhphohanlaaGreatDoor.EC (row_lt heap_at rangeAt_below rangeAt_row ret_bool ret_i64 beq_int)

theorem lns_at {a : List UInt8} (r : List UInt8) (h : (10 : UInt8) ∉ a) : lns (a ++ 10 :: r) = a :: lns r := by rw [lns_cut (by simp), (ct_at r h).1, (ct_at r h).2]
theorem lns_no {a : List UInt8} (hn : a ≠ []) (h : (10 : UInt8) ∉ a) : lns a = [a] := by rw [lns_cut hn, (ct_no h).1, (ct_no h).2]; rfl
/-- How far the lines are taken. -/
structure Ln (s : List UInt8) (k t : Nat) (L : List (List UInt8)) : Prop where
  a : L.length ≤ t
  le : t ≤ k
  sp : lns s = L ++ lns (s.drop t)
  no : (10 : UInt8) ∉ (s.drop t).take (k - t)
theorem ln_0 (s : List UInt8) : Ln s 0 0 [] := ⟨Nat.le_refl _, Nat.le_refl _, rfl, by simp⟩
theorem ln_at {s : List UInt8} {k t : Nat} {L : List (List UInt8)} (hk : k < s.length) (hb : s[k] = 10) (h : Ln s k t L) : Ln s (k + 1) (k + 1) (L ++ [(s.drop t).take (k - t)]) := by
  have h0 := h.a
  have hle := h.le
  refine ⟨by simp; omega, Nat.le_refl _, ?_, by simp⟩
  rw [h.sp]
  conv => lhs; rw [drop_at s hle hk, hb, lns_at _ h.no]
  simp
theorem ln_go {s : List UInt8} {k t : Nat} {L : List (List UInt8)} (hk : k < s.length) (hb : s[k] ≠ 10) (h : Ln s k t L) : Ln s (k + 1) t L := by
  have h0 := h.a
  have hle := h.le
  refine ⟨h0, by omega, h.sp, ?_⟩
  have e : (s.drop t).take (k + 1 - t) = (s.drop t).take (k - t) ++ [s[k]] := by
    rw [show k + 1 - t = (k - t) + 1 by omega, List.take_succ_eq_append_getElem (by simp; omega)]
    congr 2
    rw [List.getElem_drop]; congr 1; omega
  rw [e]
  intro hm
  rcases List.mem_append.1 hm with hm | hm
  · exact h.no hm
  · exact hb (List.mem_singleton.1 hm).symm
theorem ln_end {s : List UInt8} {t : Nat} {L : List (List UInt8)} (h : Ln s s.length t L) (hlt : t < s.length) : lns s = L ++ [(s.drop t).take (s.length - t)] := by
  have hno := h.no
  have hsp := h.sp
  rw [List.take_of_length_le (by simp)] at hno
  rw [List.take_of_length_le (by simp), hsp, lns_no (fun e => by have := congrArg List.length e; simp at this; omega) hno]
theorem ln_end0 {s : List UInt8} {t : Nat} {L : List (List UInt8)} (h : Ln s s.length t L) (hlt : ¬ t < s.length) : lns s = L := by
  rw [h.sp, List.drop_eq_nil_of_le (by omega)]
  simp [lns]
set_option maxHeartbeats 2000000 in
set_option maxRecDepth 100000 in
theorem rlines_any (s : List UInt8) (hl : s.length ≤ 1000000) (w : World) : Calls Tryz.prog 18 #[sV s] w fun e w' => ∃ v, e = .returned v ∧ FSt w.heap.size w' v (lns s) ∧ Below w.heap.size w w' := by
  obtain ⟨S, hS⟩ : ∃ S : ByteArray, S = ⟨s.toArray⟩ := ⟨_, rfl⟩
  have hsz : S.size = s.length := by rw [hS]; simp [ByteArray.size]
  have HIX : Hid (∀ (k : Nat) (hk : k < s.length) (W : World), (Instr.index 9 (.string S) (.int .i64 (k : Int))).run Tryz.prog W = .ok (.int .u8 ((s[k]).toNat : Int)) W) := fun k hk W => by rw [hS]; exact str_at s k hk W
  have HEX : Hid (∀ a k, .string (S.extract a k) = sV ((s.drop a).take (k - a))) := fun a k => by rw [hS, ext_mid]; rfl
  unfold sV
  rw [← hS]
  clear hS
  go_enter Tryz.func18, Tryz.ntmps18
  go_wp2
  go_loopw [3, 4, 5] (fun v a i wr => ∃ (k t : Nat) (L : List (List UInt8)), k ≤ s.length ∧ Ln s k t L ∧ FSt w.heap.size wr v L ∧ a = .int .i64 t ∧ i = .int .i64 k ∧ Below w.heap.size w wr) (fun _ _ i _ => s.length - (intOf i).toNat)
  case atStart => exact ⟨0, 0, [], by omega, ln_0 s, ⟨rfl, .inl ⟨rfl, rfl⟩⟩, rfl, rfl, Below.refl _ _⟩
  case round =>
    obtain ⟨k, t, L, hk, hE, hown, rfl, rfl, hbel⟩ := hrel
    have hwsz := hbel.size
    have HO : Hid _ := hown
    have HLE : Hid (L.length ≤ s.length) := Nat.le_trans hE.a (Nat.le_trans hE.le hk)
    have ht := hE.le
    clear hown
    by_cases hlt : k < s.length
    · have i1 : (k : Int) < S.size := by omega
      have hi := fun W => HIX.out k hlt W
      have HX : Hid _ := HEX.out t k
      by_cases h10 : s[k] = 10
      · have HE2 : Hid _ := ln_at hlt h10 hE
        have hi0 : ∀ W, (Instr.index 9 (.string S) (.int .i64 (k : Int))).run Tryz.prog W = .ok (.int .u8 10) W := fun W => by rw [hi W, h10]; rfl
        have i3 : (t : Int) ≤ k := by omega
        clear hE HIX HEX hi h10
        generalize (s.drop t).take (k - t) = P at *
        go_wp2_with (at_builtin; refine wpList_appS rfl _ _ rfl w.heap.size _ L P HX.out rfl rfl HO.out (by have := HLE.out; omega) hwsz ?_; intro g3 cap3 w3 hf3 hgr3)
        exact ⟨⟨k + 1, k + 1, L ++ [P], by omega, HE2.out, hf3, by go_num, by go_num, (hbel.alloc hwsz _).grown hgr3 (by simp; omega) (fun j hj => (World.ownsRow.lt HO.out j hj).1)⟩, by first | (simp [intOf]; done) | (simp [intOf]; omega)⟩
      · have HE2 : Hid _ := ln_go hlt h10 hE
        have hne : (s[k]).toNat ≠ 10 := fun e => h10 (UInt8.toNat.inj (by rw [e]; rfl))
        generalize (s[k]).toNat = C at *
        have i4 : ((C : Int) == 10) = false := by rw [beq_eq_false_iff_ne]; omega
        clear hE HIX HEX HX h10 hne
        go_wp2
        exact ⟨⟨k + 1, t, L, by omega, HE2.out, HO.out, rfl, by go_num, hbel⟩, by first | (simp [intOf]; done) | (simp [intOf]; omega)⟩
    · have hke : k = s.length := by omega
      subst hke
      have i1 : ¬ (s.length : Int) < S.size := by omega
      have HX : Hid _ := HEX.out t s.length
      clear HIX HEX
      by_cases htl : t < s.length
      · have i3 : (t : Int) < S.size := by omega
        have i5 : (t : Int) ≤ S.size := by omega
        have HE3 : Hid _ := ln_end hE htl
        clear hE
        generalize (s.drop t).take (s.length - t) = P at *
        go_wp2_with (at_builtin; refine wpList_appS rfl _ _ rfl w.heap.size _ L P HX.out rfl rfl HO.out (by have := HLE.out; omega) hwsz ?_; intro g3 cap3 w3 hf3 hgr3)
        go_ret
        exact ⟨_, rfl, by rw [HE3.out]; exact hf3, (hbel.alloc hwsz _).grown hgr3 (by simp; omega) (fun j hj => (World.ownsRow.lt HO.out j hj).1)⟩
      · have i3 : ¬ (t : Int) < S.size := by omega
        have HE4 : Hid _ := ln_end0 hE htl
        clear hE
        go_wp2
        go_ret
        exact ⟨_, rfl, by rw [HE4.out]; exact HO.out, hbel⟩
end Go.Proofs.YtkpjfhphohanlaaGreatDoor.JC
