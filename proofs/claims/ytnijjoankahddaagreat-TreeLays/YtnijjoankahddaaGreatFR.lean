/- TreeLays: for any case and number the statement's function answers true. No condition. -/
import Derived.Test.YtnijjoankahddaaGreatFQ
import Derived.Test.YtnijjoankahddaaGreatDW
import Derived.Test.YtnijjoankahddaaGreatRows
import Derived.WalkKit
import Derived.ChangeOld
import Derived.ProofKit
import Derived.OpenShut
import Derived.Carry
set_option linter.unusedVariables false
set_option linter.unusedSimpArgs false
namespace Go.Proofs.YtnijjoankahddaaGreat.treeLays
open Go.ChangeShapes Go.WideShapes Go.ChangeAt Go.RowKit Go.Proofs.YtnijjoankahddaaGreat.DC
set_option maxRecDepth 100000 in
theorem walk {F1 : Prop} (c : Ca) (dv fv : Value) (ii : Int) (w : World) (hc : c.ok dv fv w) (f1 : F1) :
    Calls Tryz.prog 4 #[.agg (caL c dv fv).toArray, .int .i64 ii] w fun e w' => e = .returned (.bool true) ∧ Below w.heap.size w w' := lays_walk w c dv fv ii hc
set_option maxRecDepth 100000 in
theorem lifted (os : Os) (started : os.Started) (H : Type) (enc : TypeId × Value → H) :
    ReturnsInHanded {} Tryz.checked os 4 .any (Rows.treeLaysSpec.pre6 enc Tryz.prog Tryz.f4 Rows.treeLaysRow.domain false) (Rows.treeLaysSpec.post enc Tryz.prog Tryz.f4 false true false false) := by
  refine returnsInHanded_of_change (C := Tryz.checked) own started (by kernel_rfl) Tryz.func4
    (ChangeSpec.witness6 (enc := enc) (C := Tryz.checked) false ⟨#[], #[.agg (#[.bool false] ++ Array.replicate 32 (.int .u8 0) ++ #[.slice none 0 0, .int .i64 0, .slice none 0 0, .int .u64 0]), .int .i64 0], []⟩ 8 (by kernel_rfl) (by kernel_rfl) (by kernel_rfl) (by kernel_rfl)) ?_
  intro W base args ds gs before hval0 hW hcnd _
  have hval : ∀ (j : Nat) t v, Tryz.f4.params[j]? = some t → args[j]? = some v → Value.okWide Tryz.prog W .any base t v := hval0
  have hW' := hW
  obtain ⟨p, q, hA0, hV, rfl, hfz, hnd⟩ := hW
  have hA : DataW.TrodAll enc Tryz.prog W 0 (fun _ => true) true Tryz.f4.params.toList args.toList ds p := hA0
  rw [Tryz.params4] at hA hval
  obtain ⟨v0, vs0, d0, ds0, p0, q0, hargs, rfl, rfl, h0, r0⟩ := trodAll_cons hA
  obtain ⟨v1, vs1, d1, ds1, p1, q1, rfl, rfl, rfl, h1, r1⟩ := trodAll_cons r0
  obtain ⟨rfl, rfl, rfl⟩ := trodAll_nil r1
  obtain rfl : args = #[v0, v1] := by cases args; simp_all
  obtain ⟨rfl, rfl⟩ := trodVars_none hV
  have k0 := h0
  have lt0 : ∀ x ∈ p0, x.block < W.heap.size := by obtain ⟨m, hm⟩ := k0; exact DataW.trod_lt m _ _ _ hm
  obtain ⟨xs0, rfl⟩ := DC.okWide_str Tryz.underlying28 (hval 0 28 v0 rfl rfl)
  obtain ⟨c0, dv0, fv0, rfl, hl0⟩ : ∃ c dv fv, xs0 = (DC.caL c dv fv).toArray ∧ DC.Ca.ok c dv fv W := by obtain ⟨fuel, hf⟩ := h0; obtain ⟨c, dv, fv, e, h1⟩ := DC.open_case hf; exact ⟨c, dv, fv, by rw [← Array.toList_inj]; exact e, h1⟩
  obtain ⟨n1, rfl, rfl, rfl, w1⟩ := open_int Tryz.underlying3 (hval 1 3 v1 rfl rfl) h1
  clear hA0 hval0
  refine (walk c0 dv0 fv0 n1 W hl0 w1).mono fun e W' ⟨he, bel⟩ => ?_
  subst he
  exact ⟨_, rfl, _, _, _, [], _, [], hW', trodAll_mk1 (shut_bool Tryz.underlying4 _), (trodAll_cons_mk (Below.trod laidOut (by kernel_rfl) (of_decide_eq_true (by kernel_rfl)) k0 bel lt0) (trodAll_cons_mk (shut_int Tryz.underlying3 w1) trodAll_mk0)), rfl, bel.frame _, fun h => by cases h⟩

theorem over : Rows.treeLaysRow.holds Tryz.pinned (OpenSpec.ofChange Rows.treeLaysSpec) :=
  OpenClaim.holds_of_wide 4 Tryz.f4 rfl rfl rfl rfl rfl rfl rfl ⟨rfl, rfl, rfl, rfl, rfl⟩ rfl rfl rfl rfl rfl (by kernel_rfl) Tryz.func4 (by kernel_rfl)
    (of_decide_eq_true (by kernel_rfl)) (by unfold Func.isWrapper; first | (rw [if_pos (by decide +kernel)]; kernel_rfl) | (rw [if_neg (by decide +kernel)]; exact ⟨rfl, rfl⟩))
    (fun os started H enc _ => lifted os started H enc)

end Go.Proofs.YtnijjoankahddaaGreat.treeLays
namespace Go.Proofs.YtnijjoankahddaaGreat
theorem treeLays_holds : Rows.TreeLaysSaid := treeLays.over
#print axioms treeLays_holds
end Go.Proofs.YtnijjoankahddaaGreat
