/- MeasureNext: a record's step is the chapter's, asks for what it says, or is refused: the statement's function answers true. No condition. -/
import Derived.Test.YtpmknkagnkagpaaGreatYY
import Derived.Test.YtpmknkagnkagpaaGreatRows
import Derived.WalkKit
import Derived.ChangeOld
import Derived.ProofKit
import Derived.OpenShut
import Derived.Carry
set_option linter.unusedVariables false
set_option linter.unusedSimpArgs false
namespace Go.Proofs.YtpmknkagnkagpaaGreat.measureNext
open Go.ChangeShapes Go.WideShapes Go.ChangeAt Go.RowKit Go.Proofs.YtpmknkagnkagpaaGreat.ZC
theorem own : ownKnob Tryz.prog.godebug = none := by kernel_rfl
theorem laidOut : laidOutB Tryz.prog = true := by kernel_rfl
theorem walk (i : Bool) (a1 : Option Addr) (len1 cap1 : Nat) (D : List (List UInt8)) (m : List UInt8) (r : ZC.Rd) (w : World) (hD : D.length ≤ 9223372036854775807) (ha : a1 = none → cap1 = 0) (hd : R5.HDs w (.slice a1 len1 cap1) D) (hm : m.length = 32) (hr : r.ok) :
    Calls Tryz.prog 3 #[.bool i, .slice a1 len1 cap1, .agg (m.map B8).toArray, .agg (ZC.rdL r).toArray] w fun e w' => e = .returned (.bool true) ∧ Below w.heap.size w w' := ZC.next_walk i a1 len1 cap1 D m r w hD ha hd hm hr
set_option maxRecDepth 100000 in
theorem lifted (os : Os) (started : os.Started) (H : Type) (enc : TypeId × Value → H) :
    ReturnsInHanded {} Tryz.checked os 3 .any (Rows.measureNextSpec.pre6 enc Tryz.prog Tryz.f3 Rows.measureNextRow.domain false) (Rows.measureNextSpec.post enc Tryz.prog Tryz.f3 false true false false) := by
  refine returnsInHanded_of_change (C := Tryz.checked) own started (by kernel_rfl) Tryz.func3
    (ChangeSpec.witness6 (enc := enc) (C := Tryz.checked) false ⟨#[], #[.bool false, .slice none 0 0, .agg (Array.replicate 32 (.int .u8 0)), .agg (#[.int .i64 0] ++ Array.replicate 32 (.int .u8 0) ++ #[.int .i64 0] ++ Array.replicate 128 (.int .u8 0) ++ Array.replicate 9 (.int .u64 0) ++ #[.bool false])], []⟩ 8 (by kernel_rfl) (by kernel_rfl) (by kernel_rfl) (by kernel_rfl)) ?_
  intro W base args ds gs before hval0 hW hcnd _
  have hval : ∀ (j : Nat) t v, Tryz.f3.params[j]? = some t → args[j]? = some v → Value.okWide Tryz.prog W .any base t v := hval0
  have hW' := hW
  obtain ⟨p, q, hA0, hV, rfl, hfz, hnd⟩ := hW
  have hA : DataW.TrodAll enc Tryz.prog W 0 (fun _ => true) true Tryz.f3.params.toList args.toList ds p := hA0
  rw [Tryz.params3] at hA hval
  obtain ⟨v0, vs0, d0, ds0, p0, q0, hargs, rfl, rfl, h0, r0⟩ := trodAll_cons hA
  obtain ⟨v1, vs1, d1, ds1, p1, q1, rfl, rfl, rfl, h1, r1⟩ := trodAll_cons r0
  obtain ⟨v2, vs2, d2, ds2, p2, q2, rfl, rfl, rfl, h2, r2⟩ := trodAll_cons r1
  obtain ⟨v3, vs3, d3, ds3, p3, q3, rfl, rfl, rfl, h3, r3⟩ := trodAll_cons r2
  obtain ⟨rfl, rfl, rfl⟩ := trodAll_nil r3
  obtain rfl : args = #[v0, v1, v2, v3] := by cases args; simp_all
  obtain ⟨rfl, rfl⟩ := trodVars_none hV
  obtain ⟨b0, rfl, rfl, rfl⟩ := open_bool Tryz.underlying4 (hval 0 4 v0 rfl rfl) h0
  obtain ⟨a1, len1, cap1, rfl⟩ := okWide_slice Tryz.underlying22 (hval 1 22 v1 rfl rfl)
  have k1 := h1
  have lt1 : ∀ x ∈ p1, x.block < W.heap.size := by obtain ⟨m, hm⟩ := k1; exact DataW.trod_lt m _ _ _ hm
  obtain ⟨l1, hl1, hm1, hn1⟩ : ∃ ds, R5.HDs W (.slice a1 len1 cap1) ds ∧ ds.length ≤ 9223372036854775807 ∧ (a1 = none → cap1 = 0) := by obtain ⟨fuel, hf⟩ := h1; exact R5.open_digs hf
  have k2 := h2
  have lt2 : ∀ x ∈ p2, x.block < W.heap.size := by obtain ⟨m, hm⟩ := k2; exact DataW.trod_lt m _ _ _ hm
  obtain ⟨l2, rfl, hl2⟩ := open_octets Tryz.underlying24 (by kernel_rfl) (hval 2 24 v2 rfl rfl) h2
  have k3 := h3
  have lt3 : ∀ x ∈ p3, x.block < W.heap.size := by obtain ⟨m, hm⟩ := k3; exact DataW.trod_lt m _ _ _ hm
  obtain ⟨xs3, rfl⟩ := PC.okWide_str Tryz.underlying33 (hval 3 33 v3 rfl rfl)
  obtain ⟨R3, rfl, hl3⟩ : ∃ r : ZC.Rd, xs3 = (ZC.rdL r).toArray ∧ r.ok := by obtain ⟨fuel, hf⟩ := h3; obtain ⟨r, e, h1⟩ := ZC.open_rd hf; exact ⟨r, by rw [← Array.toList_inj]; exact e, h1⟩
  clear hA0 hval0
  refine (walk b0 _ _ _ l1 l2 R3 W hm1 hn1 hl1 hl2 hl3).mono fun e W' ⟨he, bel⟩ => ?_
  subst he
  exact ⟨_, rfl, _, _, _, [], _, [], hW', trodAll_mk1 (shut_bool Tryz.underlying4 _), (trodAll_cons_mk (shut_bool Tryz.underlying4 _) (trodAll_cons_mk (Below.trod laidOut (by kernel_rfl) (of_decide_eq_true (by kernel_rfl)) k1 bel lt1) (trodAll_cons_mk (Below.trod laidOut (by kernel_rfl) (of_decide_eq_true (by kernel_rfl)) k2 bel lt2) (trodAll_cons_mk (Below.trod laidOut (by kernel_rfl) (of_decide_eq_true (by kernel_rfl)) k3 bel lt3) trodAll_mk0)))), rfl, bel.frame _, fun h => by cases h⟩

theorem over : Rows.measureNextRow.holds Tryz.pinned (OpenSpec.ofChange Rows.measureNextSpec) :=
  OpenClaim.holds_of_wide 3 Tryz.f3 rfl rfl rfl rfl rfl rfl rfl ⟨rfl, rfl, rfl, rfl, rfl⟩ rfl rfl rfl rfl rfl (by kernel_rfl) Tryz.func3 (by kernel_rfl)
    (of_decide_eq_true (by kernel_rfl)) (by unfold Func.isWrapper; first | (rw [if_pos (by decide +kernel)]; kernel_rfl) | (rw [if_neg (by decide +kernel)]; exact ⟨rfl, rfl⟩))
    (fun os started H enc _ => lifted os started H enc)

end Go.Proofs.YtpmknkagnkagpaaGreat.measureNext
namespace Go.Proofs.YtpmknkagnkagpaaGreat
theorem measureNext_holds : Rows.MeasureNextSaid := measureNext.over
#print axioms measureNext_holds
end Go.Proofs.YtpmknkagnkagpaaGreat
