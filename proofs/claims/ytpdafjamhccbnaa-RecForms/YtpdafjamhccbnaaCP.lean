/- rec: contract of the statements' word. -/
import Derived.Test.YtpdafjamhccbnaaCK
set_option linter.unusedVariables false
set_option linter.unusedSimpArgs false
namespace Go.Proofs.Ytpdafjamhccbnaa.VC
open Go.RowKit

theorem num_drop (l : List UInt8) (n : Nat) (h : n < l.length) : W1.num (l.drop n) = (l.getD n 0).toNat + 256 * W1.num (l.drop (n + 1)) := by
  rw [List.drop_eq_getElem_cons h]
  simp [W1.num, List.getD, List.getElem?_eq_getElem h]
set_option maxHeartbeats 1000000 in
set_option maxRecDepth 100000 in
theorem lword_any (G : List UInt8) (i : Nat) (hG : G.length = 128) (hi : i < 16) (w : World) : Calls Try.prog 19 #[.agg (G.map B8).toArray, .int .i64 (i : Int)] w fun e w' => e = .returned (.int .u64 (wo G i)) ∧ Below w.heap.size w w' := by
  have HR : Hid _ := (RS.start w).alloc _ rfl 45 (G.map B8)
  obtain ⟨l, hl⟩ : ∃ l, l = (G.drop (8 * i)).take 8 := ⟨_, rfl⟩
  have HL8 : Hid (l.length = 8) := by show _ = _; rw [hl, List.length_take, List.length_drop]; omega
  have HC : Hid (∀ n, n < 8 → (G.map B8)[8 * i + n]? = some (.int .u8 ((l.getD n 0).toNat : Int))) := fun n hn => by
    have h1 : l.getD n 0 = G.getD (8 * i + n) 0 := by rw [hl, List.getD, List.getD, List.getElem?_take_of_lt hn, List.getElem?_drop]
    have h2 : 8 * i + n < G.length := by omega
    rw [h1, List.getElem?_map, List.getElem?_eq_getElem h2]
    simp [B8, List.getD, List.getElem?_eq_getElem h2]
  have HW : Hid (wo G i = (W1.num l : Int)) := by show _ = _; unfold wo; rw [hl]
  have HND : Hid (∀ n, n < 8 → W1.num (l.drop n) = (l.getD n 0).toNat + 256 * W1.num (l.drop (n + 1))) := fun n hn => num_drop l n (by rw [HL8.out]; exact hn)
  have HLT : Hid (∀ n, n < 8 → W1.num (l.drop (n + 1)) < 256 ^ 7) := fun n hn => by
    have h1 := W1.num_lt (l.drop (n + 1))
    have h2 : 256 ^ (l.drop (n + 1)).length ≤ 256 ^ 7 := Nat.pow_le_pow_right (by decide) (by rw [List.length_drop, HL8.out]; omega)
    omega
  have HN8 : Hid (W1.num (l.drop 8) = 0) := by show _ = _; rw [List.drop_of_length_le (by rw [HL8.out]; decide)]; rfl
  generalize wo G i = WV at *
  generalize G.map B8 = GL at *
  obtain ⟨E, hE⟩ : ∃ E, E = 8 * i := ⟨_, rfl⟩
  have HC2 : Hid (∀ n, n < 8 → GL[E + n]? = some (.int .u8 ((l.getD n 0).toNat : Int))) := by rw [hE]; exact HC.out
  have hE1 : IntKind.i64.wrap (8 * (i : Int)) = (E : Int) := by rw [IntKind.wrap_i64]; omega
  have hE2 : 8 * (i : Int) = (E : Int) := by omega
  have hEb : E ≤ 120 := by omega
  clear hl hG hi hE HC
  go_enter Try.func19, Try.ntmps19
  go_wp2
  go_loopw [5, 6] (fun x k wr => ∃ m : Nat, m ≤ 8 ∧ k = .int .i64 ((m : Int) - 1) ∧ x = .int .u64 (W1.num (l.drop m) : Int) ∧ RS w [(w.heap.size, 45, GL)] wr) (fun _ k _ => (intOf k + 1).toNat)
  case atStart => exact ⟨8, by omega, rfl, by rw [HN8.out]; rfl, HR.out⟩
  case round =>
    obtain ⟨m, hm, rfl, rfl, hR⟩ := hrel
    cases m with
    | zero =>
      have HB : Hid _ := hR.bel
      have e0 : W1.num (l.drop 0) = W1.num l := by rw [List.drop_zero]
      have HW2 : Hid (((W1.num (l.drop 0) : Nat) : Int) = WV) := by show _ = _; rw [e0, HW.out]
      clear e0 hR
      generalize ((W1.num (l.drop 0) : Nat) : Int) = V at *
      rw [show (((0 : Nat) : Int) - 1) = -1 from rfl]
      clear hm
      go_wp2
      go_ret
      exact ⟨by rw [HW2.out]; rfl, HB.out⟩
    | succ n =>
      have hc := hR.cell 0 rfl (E + n) (HC2.out n (by omega))
      have HNX : Hid _ := HND.out n (by omega)
      have hlt := HLT.out n (by omega)
      have hb := (l.getD n 0).toNat_lt
      have hn8 : (n : Int) < 8 := by omega
      have HR1 : Hid _ := hR
      rw [show (((n + 1 : Nat) : Int) - 1) = (n : Int) by omega]
      generalize W1.num (l.drop (n + 1)) = N1 at *
      generalize (l.getD n 0).toNat = c at *
      have hp7 : 256 ^ 7 = 72057594037927936 := by decide
      rw [hp7] at hlt
      have hs : IntKind.u64.wrap ((N1 : Int) * 256) = (N1 : Int) * 256 := by rw [W1.wrap_u64]; omega
      have hs2 : IntKind.u64.wrap ((N1 : Int) * 2 ^ 8) = (N1 : Int) * 256 := by rw [W1.wrap_u64]; omega
      have hcw : IntKind.u64.wrap (c : Int) = (c : Int) := by rw [W1.wrap_u64]; omega
      have ht : IntKind.u64.wrap ((N1 : Int) * 256 + (c : Int)) = (N1 : Int) * 256 + (c : Int) := by rw [W1.wrap_u64]; omega
      have hEn : IntKind.i64.wrap ((E : Int) + (n : Int)) = ((E + n : Nat) : Int) := by rw [IntKind.wrap_i64]; omega
      have hEl : (((E + n : Nat) : Int) < 128) := by omega
      clear hR hp7
      go_wp2
      go_roundw
      case rel => exact ⟨n, by omega, by go_num, by rw [HNX.out]; congr 1; push_cast; omega, HR1.out⟩
      case measure => simp [intOf]
end Go.Proofs.Ytpdafjamhccbnaa.VC
