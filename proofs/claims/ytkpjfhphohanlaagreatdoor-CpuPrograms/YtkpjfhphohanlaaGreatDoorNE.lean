/- cpu: an instruction changes one register at most: mathematics. -/
import Derived.Test.YtkpjfhphohanlaaGreatDoorND
set_option linter.unusedVariables false
set_option linter.unusedSimpArgs false
namespace Go.Proofs.YtkpjfhphohanlaaGreatDoor.JC

/-- In how many of the first places two lists differ. -/
def dif (a b : List Int) : Nat → Nat
  | 0 => 0
  | k + 1 => dif a b k + if a.getD k 0 = b.getD k 0 then 0 else 1
theorem dif_same (b : List Int) : ∀ k, dif b b k = 0
  | 0 => rfl
  | k + 1 => by unfold dif; rw [dif_same b k]; simp
theorem dif_set (b : List Int) (m : Nat) (R : Int) : ∀ k, dif (b.set m R) b k ≤ if m < k then 1 else 0
  | 0 => by simp [dif]
  | k + 1 => by
    have ih := dif_set b m R k
    unfold dif
    by_cases e : m = k
    · subst e
      rw [if_neg (show ¬ m < m by omega)] at ih
      rw [if_pos (show m < m + 1 by omega)]
      split <;> omega
    · have hg : (b.set m R).getD k 0 = b.getD k 0 := by simp [List.getD, List.getElem?_set_ne e]
      rw [if_pos hg]
      split <;> split at ih <;> omega
theorem doS_one (s : St) (i : Ins) (ld : Int) : (doS s i ld).1.rs = s.rs ∨ ∃ k R, (doS s i ld).1.rs = s.rs.set k R := by
  unfold doS
  repeat' split
  all_goals first
    | exact .inl rfl
    | exact .inr ⟨_, _, rfl⟩
    | (left; show (s.br _ _).rs = s.rs; unfold St.br; split <;> rfl)
theorem doR_one (s : St) (i : Ins) (ld : Int) : dif (doR s i ld).1.rs s.rs 8 ≤ 1 := by
  have h : (doR s i ld).1.rs = s.rs ∨ ∃ k R, (doR s i ld).1.rs = s.rs.set k R := by
    unfold doR
    split
    · exact doS_one s i ld
    · exact .inl rfl
  rcases h with h | ⟨k, R, h⟩
  · rw [h, dif_same]; decide
  · rw [h]
    have := dif_set s.rs k R 8
    split at this <;> omega
open Go.RowKit
open Go.Proofs.YtkpjfhphohanlaaGreatDoor.EC (row_lt heap_at rangeAt_below rangeAt_row ret_bool ret_i64 beq_int)
/-- More words than a program may have. -/
theorem list_big (v : Value) (ls : List Int) (hl : 512 < ls.length) (w : World) (h : HU w v ls) : Calls Tryz.prog 9 #[v] w fun e w' => e = .returned (.tuple #[sV [], .int .i64 3]) ∧ w = w' := by
  obtain ⟨p, cap, rfl, hcap, hr⟩ := h
  generalize ls.length = n at *
  have hni : (512 : Int) < n := by omega
  clear hr
  go_enter Tryz.func9, Tryz.ntmps9
  go_wp2
  go_ret2
  exact ⟨rfl, rfl⟩
/-- A listing is read as its words again. -/
theorem back_ok {ls : List Int} {t : List (List UInt8)} (hu : ∀ x ∈ ls, u64 x) (h : lsW ls = some t) : lns (lt_ t) = t ∧ gd t = ls ∧ okL t = true := by
  obtain ⟨g1, g2⟩ := lsW_gd hu h
  exact ⟨lns_lt t (lsW_10 h), g1, g2⟩
end Go.Proofs.YtkpjfhphohanlaaGreatDoor.JC
