/- params: ref 1's Word. -/
import Derived.Test.YtabnmhmlcoakkaaPR
set_option linter.unusedVariables false
set_option linter.unusedSimpArgs false
namespace Go.Proofs.Ytabnmhmlcoakkaa.PC
open Go.RowKit

theorem num_drop (l : List UInt8) (k : Nat) (h : k < l.length) : W1.num (l.drop k) = l[k].toNat + 256 * W1.num (l.drop (k + 1)) := by
  rw [List.drop_eq_getElem_cons h]; rfl
theorem num_drop_lt7 (l : List UInt8) (k : Nat) (hl : l.length ≤ 8) : W1.num (l.drop (k + 1)) < 72057594037927936 := by
  have h := W1.num_lt (l.drop (k + 1))
  have h2 : 256 ^ (l.drop (k + 1)).length ≤ 256 ^ 7 := Nat.pow_le_pow_right (by decide) (by rw [List.length_drop]; omega)
  have h3 : 256 ^ 7 = 72057594037927936 := by decide
  omega
set_option maxHeartbeats 1000000 in
set_option maxRecDepth 100000 in
theorem rword_any (b i : Nat) (I : Int) (G : List UInt8) (w : World) (hI : I = (i : Int)) (hG : G.length = 128) (hi : i < 16) (h : w.rangeAt b 0 (G.map B8)) :
    Calls Try.prog 31 #[.slice (some ⟨b, 0, none⟩) 128 128, .int .i64 I] w fun e w' => e = .returned (.int .u64 (W1.num ((G.drop (8 * i)).take 8) : Int)) ∧ w = w' := by
  subst hI
  obtain ⟨P, hP⟩ : ∃ P, P = (G.drop (8 * i)).take 8 := ⟨_, rfl⟩
  have hpl : P.length = 8 := by rw [hP, List.length_take, List.length_drop]; omega
  have HC : Hid (∀ (j : Nat) (hj : j < P.length), w.cell? ⟨b, 8 * i + j, none⟩ = some (.int .u8 ((P[j].toNat : Nat) : Int))) := fun j hj => by
    have hr := rangeAt_part h (8 * i) 8
    rw [← List.map_drop, ← List.map_take, ← hP, Nat.zero_add] at hr
    exact hr j _ (by rw [List.getElem?_map, List.getElem?_eq_getElem hj]; rfl)
  rw [← hP]
  have HPL : Hid _ := hpl
  obtain ⟨E, hE⟩ : ∃ E, E = 8 * i := ⟨_, rfl⟩
  rw [← hE] at HC
  have hm : IntKind.i64.wrap (8 * (i : Int)) = (E : Int) := by rw [IntKind.wrap_i64]; omega
  have hm2 : 8 * (i : Int) = (E : Int) := by omega
  have hE1 : (E : Int) ≤ 120 := by omega
  have hi1 : (i : Int) < 128 := by omega
  clear hP h hG hpl hE hi
  go_enter Try.func31, Try.ntmps31
  go_wp2
  go_loop [5, 6] (fun n k => ∃ j : Nat, j ≤ 8 ∧ k = .int .i64 ((j : Int) - 1) ∧ n = .int .u64 (W1.num (P.drop j) : Int)) (fun _ k => (intOf k + 1).toNat)
  case atStart => exact ⟨8, Nat.le_refl _, rfl, by rw [List.drop_of_length_le (by rw [HPL.out]; decide)]; rfl⟩
  case round =>
    obtain ⟨j, hj, rfl, rfl⟩ := hrel
    cases j with
    | zero =>
      go_wp2
      go_ret
      exact ⟨rfl, rfl⟩
    | succ j =>
      have hlt : j < P.length := by rw [HPL.out]; omega
      have hcx := HC.out j hlt
      have HN : Hid _ := num_drop P j hlt
      have h7 := num_drop_lt7 P j (by rw [HPL.out]; decide)
      have hx := P[j].toNat_lt
      generalize P[j].toNat = X at *
      generalize W1.num (P.drop (j + 1)) = Y at *
      rw [show ((j + 1 : Nat) : Int) - 1 = (j : Int) by omega]
      have h7I : (Y : Int) < 72057594037927936 := by omega
      have hxI : (X : Int) < 256 := by omega
      have hj8 : (j : Int) < 8 := by omega
      have hEj : IntKind.i64.wrap ((E : Int) + (j : Int)) = (E : Int) + (j : Int) := by rw [IntKind.wrap_i64]; omega
      have hEl : (E : Int) + (j : Int) < 128 := by omega
      clear hlt h7 hx hj
      go_wp2
      go_round
      case rel =>
        refine ⟨j, by omega, by go_num, ?_⟩
        rw [HN.out]
        congr 1
        omega
      case measure => simp [intOf]
end Go.Proofs.Ytabnmhmlcoakkaa.PC
