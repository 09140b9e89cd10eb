/- The statements' one, put together. -/
import Derived.Test.YtefhjjjjbkkedaaGreatTD
import Derived.Test.YtefhjjjjbkkedaaGreatTG
import Derived.Test.YtefhjjjjbkkedaaGreatTH
import Derived.Test.YtefhjjjjbkkedaaGreatTI
set_option linter.unusedVariables false
set_option linter.unusedSimpArgs false
namespace Go.Proofs.YtefhjjjjbkkedaaGreat.R5
open scoped Classical
open Go.RowKit

theorem one_any (w X K : World) (n og mb rg : Nat) (m : List UInt8) (D : List (List UInt8)) (L : List (Qn × List UInt8)) (I : Nat → Prop) (a : Ak) (pd : Option Addr) (cd : Nat) (hM : MM w n X.heap.size og mb rg m D L L I K X) (hll : L.length < 800000) (hkq : kOk a.q) (hql : a.q.data.length ≤ 1000000) (hdq : HB w (.slice pd a.q.data.length cd) a.q.data) :
    Calls Tryz.prog 8 #[.pointer (some ⟨og, 0, none⟩), .pointer (some ⟨rg, 0, none⟩), .agg (akL a (.slice pd a.q.data.length cd)).toArray] X fun e Y => OneEnd w n og mb rg m D (oneL m D L a) I K e Y := by
  unfold oneL oneQ
  by_cases h1 : a.kind = 1
  · rw [if_pos h1]
    cases hok : askB a.q with
    | true => rw [if_pos rfl]; exact one_1ok w X K n _ og mb rg m D L I a pd cd hM hll hkq hql hdq h1 hok
    | false => rw [if_neg (by simp)]; exact one_1bad w X K n _ og mb rg m D L I a pd cd hM hll hkq hql hdq h1 hok
  · rw [if_neg h1]
    by_cases h2 : a.kind = 2
    · rw [if_pos h2]
      cases hok : strB a.q a.n with
      | true => rw [if_pos rfl]; exact one_2ok w X K n _ og mb rg m D L I a pd cd hM hll hkq hql hdq (Nat.le_refl _) h2 hok
      | false => rw [if_neg (by simp)]; exact one_2bad w X K n _ og mb rg m D L I a pd cd hM hll hkq hql hdq h2 hok
    · rw [if_neg h2]
      by_cases h3 : a.kind = 3
      · rw [if_pos h3]
        cases hok : askB ⟨1, List.replicate 32 0, a.q.dom, a.q.data⟩ with
        | true => rw [if_pos rfl]; exact one_3ok w X K n _ og mb rg m D L I a pd cd hM hll hkq hql hdq h3 hok
        | false => rw [if_neg (by simp)]; exact one_3bad w X K n _ og mb rg m D L I a pd cd hM hll hkq hql hdq h3 hok
      · rw [if_neg h3]
        by_cases h4 : a.kind = 4
        · rw [if_pos h4]
          cases hok : askB ⟨2, a.q.key, a.q.dom, a.q.data⟩ with
          | true => rw [if_pos rfl]; exact one_4ok w X K n _ og mb rg m D L I a pd cd hM hll hkq hql hdq h4 hok
          | false => rw [if_neg (by simp)]; exact one_4bad w X K n _ og mb rg m D L I a pd cd hM hll hkq hql hdq h4 hok
        · rw [if_neg h4]
          by_cases h5 : a.kind = 5
          · rw [if_pos h5]
            cases hok : askB ⟨3, m, a.q.dom, a.q.data⟩ with
            | true => rw [if_pos rfl]; exact one_5ok w X K n _ og mb rg m D L I a pd cd hM hll hkq hql hdq h5 hok
            | false => rw [if_neg (by simp)]; exact one_5bad w X K n _ og mb rg m D L I a pd cd hM hll hkq hql hdq h5 hok
          · rw [if_neg h5]
            exact one_else w X K n _ og mb rg m D L I a pd cd hM hll hkq hql hdq h1 h2 h3 h4 h5
end Go.Proofs.YtefhjjjjbkkedaaGreat.R5
