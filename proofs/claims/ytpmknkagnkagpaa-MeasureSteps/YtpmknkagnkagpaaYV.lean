/- MeasureSteps: every step of a measurement is the chapter's, asks for what it says, or is refused: the statement's function answers true. No condition. -/
import Derived.Test.YtpmknkagnkagpaaYU
import Derived.Test.YtpmknkagnkagpaaRows
import Derived.WalkKit
import Derived.ChangeOld
import Derived.ProofKit
import Derived.OpenShut
import Derived.Carry
set_option linter.unusedVariables false
set_option linter.unusedSimpArgs false
namespace Go.Proofs.Ytpmknkagnkagpaa.measureSteps
open Go.ChangeShapes Go.WideShapes Go.ChangeAt Go.RowKit Go.Proofs.Ytpmknkagnkagpaa.ZC
theorem own : ownKnob Try.prog.godebug = none := by kernel_rfl
theorem laidOut : laidOutB Try.prog = true := by kernel_rfl
theorem walk {F : Prop} (i : Bool) (a1 : Option Addr) (len1 cap1 : Nat) (D : List (List UInt8)) (m : List UInt8) (pg : Int) (g V : List UInt8) (n pc : Nat) (rs : List Nat) (run : Bool) (w : World) (hD : D.length ≤ 9223372036854775807) (ha : a1 = none → cap1 = 0) (hd : R5.HDs w (.slice a1 len1 cap1) D) (hm : m.length = 32) (hf : F) (hg : g.length = 128) (hV : V.length = 32) (hn : n < 18446744073709551616) (hs : rs.length = 8) (hp : pc < 18446744073709551616) (hx : ∀ x ∈ rs, x < 18446744073709551616) :
    Calls Try.prog 3 #[.bool i, .slice a1 len1 cap1, .agg (m.map B8).toArray, .int .i64 pg, .agg (g.map B8).toArray, .agg (PC.rpL V n).toArray, .agg (PC.rcL pc rs run).toArray] w fun e w' => e = .returned (.bool true) ∧ Below w.heap.size w w' := ZC.steps_walk i a1 len1 cap1 D m pg g V n pc rs run w hD ha hd hm hg hV hs hp hx
set_option maxRecDepth 100000 in
theorem lifted (os : Os) (started : os.Started) (H : Type) (enc : TypeId × Value → H) :
    ReturnsInHanded {} Try.checked os 3 .any (Rows.measureStepsSpec.pre6 enc Try.prog Try.f3 Rows.measureStepsRow.domain false) (Rows.measureStepsSpec.post enc Try.prog Try.f3 false true false false) := by
  refine returnsInHanded_of_change (C := Try.checked) own started (by kernel_rfl) Try.func3
    (ChangeSpec.witness6 (enc := enc) (C := Try.checked) false ⟨#[], #[.bool false, .slice none 0 0, .agg (Array.replicate 32 (.int .u8 0)), .int .i64 0, .agg (Array.replicate 128 (.int .u8 0)), .agg (Array.replicate 32 (.int .u8 0) ++ #[.int .u64 0]), .agg (Array.replicate 9 (.int .u64 0) ++ #[.bool false])], []⟩ 8 (by kernel_rfl) (by kernel_rfl) (by kernel_rfl) (by kernel_rfl)) ?_
  intro W base args ds gs before hval0 hW hcnd _
  have hval : ∀ (j : Nat) t v, Try.f3.params[j]? = some t → args[j]? = some v → Value.okWide Try.prog W .any base t v := hval0
  have hW' := hW
  obtain ⟨p, q, hA0, hV, rfl, hfz, hnd⟩ := hW
  have hA : DataW.TrodAll enc Try.prog W 0 (fun _ => true) true Try.f3.params.toList args.toList ds p := hA0
  rw [Try.params3] at hA hval
  obtain ⟨v0, vs0, d0, ds0, p0, q0, hargs, rfl, rfl, h0, r0⟩ := trodAll_cons hA
  obtain ⟨v1, vs1, d1, ds1, p1, q1, rfl, rfl, rfl, h1, r1⟩ := trodAll_cons r0
  obtain ⟨v2, vs2, d2, ds2, p2, q2, rfl, rfl, rfl, h2, r2⟩ := trodAll_cons r1
  obtain ⟨v3, vs3, d3, ds3, p3, q3, rfl, rfl, rfl, h3, r3⟩ := trodAll_cons r2
  obtain ⟨v4, vs4, d4, ds4, p4, q4, rfl, rfl, rfl, h4, r4⟩ := trodAll_cons r3
  obtain ⟨v5, vs5, d5, ds5, p5, q5, rfl, rfl, rfl, h5, r5⟩ := trodAll_cons r4
  obtain ⟨v6, vs6, d6, ds6, p6, q6, rfl, rfl, rfl, h6, r6⟩ := trodAll_cons r5
  obtain ⟨rfl, rfl, rfl⟩ := trodAll_nil r6
  obtain rfl : args = #[v0, v1, v2, v3, v4, v5, v6] := by cases args; simp_all
  obtain ⟨rfl, rfl⟩ := trodVars_none hV
  obtain ⟨b0, rfl, rfl, rfl⟩ := open_bool Try.underlying4 (hval 0 4 v0 rfl rfl) h0
  obtain ⟨a1, len1, cap1, rfl⟩ := okWide_slice Try.underlying22 (hval 1 22 v1 rfl rfl)
  have k1 := h1
  have lt1 : ∀ x ∈ p1, x.block < W.heap.size := by obtain ⟨m, hm⟩ := k1; exact DataW.trod_lt m _ _ _ hm
  obtain ⟨l1, hl1, hm1, hn1⟩ : ∃ ds, R5.HDs W (.slice a1 len1 cap1) ds ∧ ds.length ≤ 9223372036854775807 ∧ (a1 = none → cap1 = 0) := by obtain ⟨fuel, hf⟩ := h1; exact R5.open_digs hf
  have k2 := h2
  have lt2 : ∀ x ∈ p2, x.block < W.heap.size := by obtain ⟨m, hm⟩ := k2; exact DataW.trod_lt m _ _ _ hm
  obtain ⟨l2, rfl, hl2⟩ := open_octets Try.underlying24 (by kernel_rfl) (hval 2 24 v2 rfl rfl) h2
  obtain ⟨n3, rfl, rfl, rfl, w3⟩ := open_int Try.underlying3 (hval 3 3 v3 rfl rfl) h3
  have k4 := h4
  have lt4 : ∀ x ∈ p4, x.block < W.heap.size := by obtain ⟨m, hm⟩ := k4; exact DataW.trod_lt m _ _ _ hm
  obtain ⟨l4, rfl, hl4⟩ := open_octets Try.underlying26 (by kernel_rfl) (hval 4 26 v4 rfl rfl) h4
  have k5 := h5
  have lt5 : ∀ x ∈ p5, x.block < W.heap.size := by obtain ⟨m, hm⟩ := k5; exact DataW.trod_lt m _ _ _ hm
  obtain ⟨xs5, rfl⟩ := PC.okWide_str Try.underlying29 (hval 5 29 v5 rfl rfl)
  obtain ⟨V5, n5, rfl, hl5, hn5⟩ : ∃ V n, xs5 = (PC.rpL V n).toArray ∧ V.length = 32 ∧ n < 18446744073709551616 := by obtain ⟨fuel, hf⟩ := h5; obtain ⟨V, n, e, h1, h2⟩ := PC.open_rp hf; exact ⟨V, n, by rw [← Array.toList_inj]; exact e, h1, h2⟩
  have k6 := h6
  have lt6 : ∀ x ∈ p6, x.block < W.heap.size := by obtain ⟨m, hm⟩ := k6; exact DataW.trod_lt m _ _ _ hm
  obtain ⟨xs6, rfl⟩ := PC.okWide_str Try.underlying32 (hval 6 32 v6 rfl rfl)
  obtain ⟨pc6, rs6, r6b, rfl, hr6, hp6, hx6⟩ : ∃ pc rs r, xs6 = (PC.rcL pc rs r).toArray ∧ rs.length = 8 ∧ pc < 18446744073709551616 ∧ ∀ x ∈ rs, x < 18446744073709551616 := by obtain ⟨fuel, hf⟩ := h6; obtain ⟨pc, rs, r, e, h1, h2, h3⟩ := PC.open_rc hf; exact ⟨pc, rs, r, by rw [← Array.toList_inj]; exact e, h1, h2, h3⟩
  clear hA0 hval0
  refine (walk b0 _ _ _ l1 l2 n3 l4 V5 n5 pc6 rs6 r6b W hm1 hn1 hl1 hl2 w3 hl4 hl5 hn5 hr6 hp6 hx6).mono fun e W' ⟨he, bel⟩ => ?_
  subst he
  exact ⟨_, rfl, _, _, _, [], _, [], hW', trodAll_mk1 (shut_bool Try.underlying4 _), (trodAll_cons_mk (shut_bool Try.underlying4 _) (trodAll_cons_mk (Below.trod laidOut (by kernel_rfl) (of_decide_eq_true (by kernel_rfl)) k1 bel lt1) (trodAll_cons_mk (Below.trod laidOut (by kernel_rfl) (of_decide_eq_true (by kernel_rfl)) k2 bel lt2) (trodAll_cons_mk (shut_int Try.underlying3 w3) (trodAll_cons_mk (Below.trod laidOut (by kernel_rfl) (of_decide_eq_true (by kernel_rfl)) k4 bel lt4) (trodAll_cons_mk (Below.trod laidOut (by kernel_rfl) (of_decide_eq_true (by kernel_rfl)) k5 bel lt5) (trodAll_cons_mk (Below.trod laidOut (by kernel_rfl) (of_decide_eq_true (by kernel_rfl)) k6 bel lt6) trodAll_mk0))))))), rfl, bel.frame _, fun h => by cases h⟩

theorem over : Rows.measureStepsRow.holds Try.pinned (OpenSpec.ofChange Rows.measureStepsSpec) :=
  OpenClaim.holds_of_wide 3 Try.f3 rfl rfl rfl rfl rfl rfl rfl ⟨rfl, rfl, rfl, rfl, rfl⟩ rfl rfl rfl rfl rfl (by kernel_rfl) Try.func3 (by kernel_rfl)
    (of_decide_eq_true (by kernel_rfl)) (by unfold Func.isWrapper; first | (rw [if_pos (by decide +kernel)]; kernel_rfl) | (rw [if_neg (by decide +kernel)]; exact ⟨rfl, rfl⟩))
    (fun os started H enc _ => lifted os started H enc)

end Go.Proofs.Ytpmknkagnkagpaa.measureSteps
namespace Go.Proofs.Ytpmknkagnkagpaa
theorem measureSteps_holds : Rows.MeasureStepsSaid := measureSteps.over
#print axioms measureSteps_holds
end Go.Proofs.Ytpmknkagnkagpaa
