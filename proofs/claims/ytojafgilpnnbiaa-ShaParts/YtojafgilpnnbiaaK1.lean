/- Contract of the reference's Much. -/
import Derived.Test.YtojafgilpnnbiaaJ1
set_option linter.unusedVariables false
set_option linter.unusedSimpArgs false
namespace Go.Proofs.Ytojafgilpnnbiaa
open Go.RowKit

/-- What Much answers, as far as it is wanted. -/
def MuchEnd (most : Nat) (ls : List (List UInt8)) (e : Ending) : Prop := ∃ b, e = .returned (.bool b) ∧ (b = false → ls.length ≤ most ∧ ∀ l ∈ ls, l.length ≤ most)

theorem MuchEnd.mk {most : Nat} {ls : List (List UInt8)} (b : Bool) (h : b = false → ls.length ≤ most ∧ ∀ l ∈ ls, l.length ≤ most) : MuchEnd most ls (.returned (.bool b)) := ⟨b, rfl, h⟩

set_option maxHeartbeats 1000000 in
theorem much_any (v : Value) (ls : List (List UInt8)) (most : Nat) (w : World) (hr : ls.length ≤ 9223372036854775807) (hl : ∀ l ∈ ls, l.length ≤ 9223372036854775807) (hm : most ≤ 1000000) (h : HL w v ls) :
    Calls Try.prog 22 #[v, .int .i64 (most : Int)] w fun e w' => MuchEnd most ls e ∧ w = w' := by
  obtain ⟨p, c, rfl, hp⟩ := h.parts
  clear h
  go_enter Try.func22, Try.ntmps22
  go_wp2
  go_loop [5, 6] (fun n i => ∃ (k m : Nat), k ≤ ls.length ∧ i = .int .i64 k ∧ n = .int .i64 m ∧ ls.length ≤ m ∧ m ≤ 9223372036854775807 ∧ ∀ l ∈ ls.take k, min l.length (most + 1) ≤ m) (fun _ i => ls.length - (intOf i).toNat)
  case atStart => exact ⟨0, ls.length, Nat.zero_le _, rfl, rfl, Nat.le_refl _, by omega, by simp⟩
  case round =>
    obtain ⟨k, m, hk, rfl, rfl, hm1, hm2, hall⟩ := hrel
    have HALL : Hid _ := hall
    clear hall
    by_cases hlt : k < ls.length
    · by_cases hmm : m ≤ most
      · obtain ⟨b, o, hpa, x, hcx, hbx⟩ := hp k hlt
        subst hpa
        obtain ⟨q, c', rfl, _, _⟩ := hbx.cells
        have hlk := hl ls[k] (List.getElem_mem hlt)
        have hnx : ls.take (k + 1) = ls.take k ++ [ls[k]] := List.take_succ_eq_append_getElem hlt
        have HNX : Hid _ := hnx
        clear hnx hp hl hbx
        generalize ls[k] = l at *
        by_cases hbig : most + 1 < l.length
        all_goals
          go_wp2
          go_round
          case rel =>
            refine ⟨k + 1, m + min l.length (most + 1), by omega, by go_num, by go_num, by omega, by omega, fun l' hl' => ?_⟩
            rw [HNX.out, List.mem_append] at hl'
            rcases hl' with hl' | hl'
            · have := HALL.out l' hl'; omega
            · simp at hl'; subst hl'; omega
          case measure => simp [intOf]; omega
      · have hd : decide ((m : Int) ≤ (most : Int)) = false := by simp; omega
        go_wp2
        go_ret
        exact ⟨MuchEnd.mk _ (fun h => by simp at h; omega), rfl⟩
    · have hd : decide ((k : Int) < (ls.length : Int)) = false := by simp; omega
      go_wp2
      go_ret
      refine ⟨MuchEnd.mk _ (fun h => ?_), rfl⟩
      have hmm : m ≤ most := by simp at h; omega
      refine ⟨by omega, fun l hl' => ?_⟩
      have := HALL.out l (by rw [List.take_of_length_le (by omega)]; exact hl')
      omega

end Go.Proofs.Ytojafgilpnnbiaa
