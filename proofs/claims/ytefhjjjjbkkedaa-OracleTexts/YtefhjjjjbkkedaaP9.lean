/- Two questions that may be, of one text, are the same: mathematics. -/
import Derived.Test.YtefhjjjjbkkedaaG9
import Derived.Test.YtefhjjjjbkkedaaC9
set_option linter.unusedVariables false
set_option linter.unusedSimpArgs false
namespace Go.Proofs.Ytefhjjjjbkkedaa.R5
open scoped Classical

theorem lowB_inj {x y : Int} (hx : 0 ≤ x) (hx2 : x < 256) (hy : 0 ≤ y) (hy2 : y < 256) (h : lowB x = lowB y) : x = y := by
  have h1 := lowB_nat x
  have h2 := lowB_nat y
  rw [h] at h1
  omega
theorem textQ_inj {a b : Qn} (ha : mayQ a = true) (hb : mayQ b = true) (hka : a.key.length = 32) (hkb : b.key.length = 32) (h : textQ a = textQ b) : a = b := by
  unfold mayQ at ha hb
  simp only [decide_eq_true_eq] at ha hb
  obtain ⟨ka, ya, da, xa⟩ := a
  obtain ⟨kb, yb, db, xb⟩ := b
  simp only at *
  have ea : textQ ⟨ka, ya, da, xa⟩ = lowB ka :: (ya ++ lowB da :: xa) := by unfold textQ; simp
  have eb : textQ ⟨kb, yb, db, xb⟩ = lowB kb :: (yb ++ lowB db :: xb) := by unfold textQ; simp
  rw [ea, eb] at h
  have h1 := (List.cons.inj h).1
  have h2 := List.append_inj (List.cons.inj h).2 (by rw [hka, hkb])
  have h3 := h2.1
  have h4 := List.cons.inj h2.2
  have e1 := lowB_inj (by omega) (by omega) (by omega) (by omega) h1
  have e2 := lowB_inj (by omega) (by omega) (by omega) (by omega) h4.1
  rw [e1, h3, e2, h4.2]

end Go.Proofs.Ytefhjjjjbkkedaa.R5
