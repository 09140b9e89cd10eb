/- Contracts of the reference's Same, SameLists and Much, and of the statement's num. -/
import Derived.Test.YtojafgilpnnbiaaI1
import Derived.Deep.QuietTactic
import Derived.BigQuiet
set_option linter.unusedVariables false
set_option linter.unusedSimpArgs false
namespace Go.Proofs.Ytojafgilpnnbiaa
open Go.RowKit

theorem ret_bool {a b : Bool} (h : a = b) : Ending.returned (.bool a) = .returned (.bool b) := by rw [h]

theorem drew_more {w wr : World} {n m : Nat} (h : wr = w.drewN n) : ∃ k, wr.drewN m = w.drewN k := ⟨n + m, by rw [h, World.drewN_drewN]⟩

theorem txt_list (l : List UInt8) : (txt l).toList = l := by
  rw [Lib.toList_data]; simp [txt]

theorem txt_beq (a b : List UInt8) : ((txt a).toList == (txt b).toList) = decide (a = b) := by
  rw [txt_list, txt_list, Bool.eq_iff_iff]; simp

theorem HL.parts {w : World} {v : Value} {ls : List (List UInt8)} (h : HL w v ls) : ∃ p cap, v = .slice p ls.length cap ∧ ∀ i, (h : i < ls.length) → ∃ b o, p = some ⟨b, o, none⟩ ∧ ∃ u, w.cell? ⟨b, o + i, none⟩ = some u ∧ HB w u ls[i] := by
  rcases h with ⟨rfl, p, cap, rfl, _⟩ | ⟨b, o, cap, rfl, _, _, hc⟩
  · exact ⟨p, cap, rfl, fun i hi => by simp at hi⟩
  · exact ⟨_, cap, rfl, fun i hi => ⟨b, o, rfl, hc i hi⟩⟩

theorem HB.drewN {w : World} {v : Value} {l : List UInt8} (h : HB w v l) (n : Nat) : HB (w.drewN n) v l := by
  rcases h with h | ⟨b, o, cap, h1, h2, h3, h4⟩
  · exact .inl h
  · exact .inr ⟨b, o, cap, h1, h2, h3, fun i hi => by rw [World.cell?_drewN]; exact h4 i hi⟩

set_option maxHeartbeats 400000 in
theorem same_any (u v : Value) (a b : List UInt8) (w : World) (hu : HB w u a) (hv : HB w v b) :
    Calls Try.prog 12 #[u, v] w fun e w' => e = .returned (.bool (decide (a = b))) ∧ w = w' := by
  have h1 := conv_hb w u a hu
  have h2 := conv_hb w v b hv
  go_enter Try.func12, Try.ntmps12
  go_wp2
  go_ret
  exact ⟨ret_bool (txt_beq a b), rfl⟩



end Go.Proofs.Ytojafgilpnnbiaa
