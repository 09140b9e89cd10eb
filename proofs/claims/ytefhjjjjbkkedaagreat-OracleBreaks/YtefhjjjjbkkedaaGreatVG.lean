/- OracleBreaks: for any draws and any list of asks, the statement's function answers true and leaves its arguments as they were. No condition. -/
import Derived.Test.YtefhjjjjbkkedaaGreatVF
import Derived.Test.YtefhjjjjbkkedaaGreatRC
import Derived.Test.YtefhjjjjbkkedaaGreatQS
import Derived.Test.YtefhjjjjbkkedaaGreatRows
import Derived.WalkKit
import Derived.ProofKit
import Derived.OpenShut
import Derived.Carry
set_option linter.unusedVariables false
set_option linter.unusedSimpArgs false
namespace Go.Proofs.YtefhjjjjbkkedaaGreat.oracleBreaks
open Go.ChangeShapes Go.WideShapes Go.ChangeAt Go.RowKit
theorem own : ownKnob Tryz.prog.godebug = none := by kernel_rfl
theorem laidOut : laidOutB Tryz.prog = true := by kernel_rfl
theorem walk (p : Option Addr) (N cap : Nat) (ds : List (List UInt8)) (v1 : Value) (ls : List R5.Ak) (w : World) (hdl : ds.length ≤ 9223372036854775807) (hpc : p = none → cap = 0) (hD : R5.HDs w (.slice p N cap) ds) (hl1 : ls.length ≤ 9223372036854775807) (h1 : R5.HAs w v1 ls) :
    Calls Tryz.prog 4 #[.slice p N cap, v1] w fun e w' => e = .returned (.bool true) ∧ Below w.heap.size w w' := R5.oracleBreaks.walk p N cap ds v1 ls w hdl hpc hD hl1 h1
set_option maxRecDepth 100000 in
theorem lifted (os : Os) (started : os.Started) (H : Type) (enc : TypeId × Value → H) :
    ReturnsInHanded {} Tryz.checked os 4 .any (Rows.oracleBreaksSpec.pre6 enc Tryz.prog Tryz.f4 Rows.oracleBreaksRow.domain false) (Rows.oracleBreaksSpec.post enc Tryz.prog Tryz.f4 false true false false) := by
  refine returnsInHanded_of_change (C := Tryz.checked) own started (by kernel_rfl) Tryz.func4
    (ChangeSpec.witness6 (enc := enc) (C := Tryz.checked) false ⟨#[], #[.slice none 0 0, .slice none 0 0], []⟩ 8 (by kernel_rfl) (by kernel_rfl) (by kernel_rfl) (by kernel_rfl)) ?_
  intro W base args ds gs before hval0 hW hcnd _
  have hval : ∀ (j : Nat) t v, Tryz.f4.params[j]? = some t → args[j]? = some v → Value.okWide Tryz.prog W .any base t v := hval0
  have hW' := hW
  obtain ⟨p, q, hA0, hV, rfl, hfz, hnd⟩ := hW
  have hA : DataW.TrodAll enc Tryz.prog W 0 (fun _ => true) true Tryz.f4.params.toList args.toList ds p := hA0
  rw [Tryz.params4] at hA hval
  obtain ⟨v0, vs0, d0, ds0, p0, q0, hargs, rfl, rfl, h0, r0⟩ := trodAll_cons hA
  obtain ⟨v1, vs1, d1, ds1, p1, q1, rfl, rfl, rfl, h1, r1⟩ := trodAll_cons r0
  obtain ⟨rfl, rfl, rfl⟩ := trodAll_nil r1
  obtain rfl : args = #[v0, v1] := by cases args; simp_all
  obtain ⟨rfl, rfl⟩ := trodVars_none hV
  obtain ⟨a0, len0, cap0, rfl⟩ := okWide_slice Tryz.underlying22 (hval 0 22 v0 rfl rfl)
  have k0 := h0
  have lt0 : ∀ x ∈ p0, x.block < W.heap.size := by obtain ⟨m, hm⟩ := k0; exact DataW.trod_lt m _ _ _ hm
  obtain ⟨l0, hl0, hm0, hn0⟩ : ∃ ds, R5.HDs W (.slice a0 len0 cap0) ds ∧ ds.length ≤ 9223372036854775807 ∧ (a0 = none → cap0 = 0) := by obtain ⟨fuel, hf⟩ := h0; exact R5.open_digs hf
  obtain ⟨a1, len1, cap1, rfl⟩ := okWide_slice Tryz.underlying23 (hval 1 23 v1 rfl rfl)
  have k1 := h1
  have lt1 : ∀ x ∈ p1, x.block < W.heap.size := by obtain ⟨m, hm⟩ := k1; exact DataW.trod_lt m _ _ _ hm
  obtain ⟨l1, hl1, hm1⟩ : ∃ ls, R5.HAs W (.slice a1 len1 cap1) ls ∧ ls.length ≤ 9223372036854775807 := by obtain ⟨fuel, hf⟩ := h1; exact R5.open_asks hf
  clear hA0 hval0
  refine (walk _ _ _ l0 _ l1 W hm0 hn0 hl0 hm1 hl1).mono fun e W' ⟨he, bel⟩ => ?_
  subst he
  exact ⟨_, rfl, _, _, _, [], _, [], hW', trodAll_mk1 (shut_bool Tryz.underlying4 _), (trodAll_cons_mk (Below.trod laidOut (by kernel_rfl) (of_decide_eq_true (by kernel_rfl)) k0 bel lt0) (trodAll_cons_mk (Below.trod laidOut (by kernel_rfl) (of_decide_eq_true (by kernel_rfl)) k1 bel lt1) trodAll_mk0)), rfl, bel.frame _, fun h => by cases h⟩

theorem over : Rows.oracleBreaksRow.holds Tryz.pinned (OpenSpec.ofChange Rows.oracleBreaksSpec) :=
  OpenClaim.holds_of_wide 4 Tryz.f4 rfl rfl rfl rfl rfl rfl rfl ⟨rfl, rfl, rfl, rfl, rfl⟩ rfl rfl rfl rfl rfl (by kernel_rfl) Tryz.func4 (by kernel_rfl)
    (of_decide_eq_true (by kernel_rfl)) (by unfold Func.isWrapper; first | (rw [if_pos (by decide +kernel)]; kernel_rfl) | (rw [if_neg (by decide +kernel)]; exact ⟨rfl, rfl⟩))
    (fun os started H enc _ => lifted os started H enc)

end Go.Proofs.YtefhjjjjbkkedaaGreat.oracleBreaks
namespace Go.Proofs.YtefhjjjjbkkedaaGreat
theorem oracleBreaks_holds : Rows.OracleBreaksSaid := oracleBreaks.over
#print axioms oracleBreaks_holds
end Go.Proofs.YtefhjjjjbkkedaaGreat
