/- MeasureReplays: every list of records is measured as the chapter says, or refused: the statement's function answers true. No condition. -/
import Derived.Test.YtpmknkagnkagpaaGreatOD
import Derived.Test.YtpmknkagnkagpaaGreatRows
import Derived.WalkKit
import Derived.ChangeOld
import Derived.ProofKit
import Derived.OpenShut
import Derived.Carry
set_option linter.unusedVariables false
set_option linter.unusedSimpArgs false
namespace Go.Proofs.YtpmknkagnkagpaaGreat.measureReplays
open Go.ChangeShapes Go.WideShapes Go.ChangeAt Go.RowKit Go.Proofs.YtpmknkagnkagpaaGreat.ZC
theorem own : ownKnob Tryz.prog.godebug = none := by kernel_rfl
theorem laidOut : laidOutB Tryz.prog = true := by kernel_rfl
theorem walk (i : Bool) (m : List UInt8) (a2 : Option Addr) (len2 cap2 : Nat) (D : List (List UInt8)) (p3 : Option Addr) (n3 c3 : Nat) (l : List ZC.Rd) (p4 : Option Addr) (n4 c4 : Nat) (k : List ZC.Rd) (w : World) (hm : m.length = 32) (hD : D.length ≤ 9223372036854775807) (ha : a2 = none → cap2 = 0) (hd : R5.HDs w (.slice a2 len2 cap2) D) (hl : l.length ≤ 9223372036854775807) (hc3 : n3 ≤ c3) (hv1 : ZC.HR w (.slice p3 n3 c3) l) (hk : k.length ≤ 9223372036854775807) (hc4 : n4 ≤ c4) (hv2 : ZC.HR w (.slice p4 n4 c4) k) :
    Calls Tryz.prog 4 #[.bool i, .agg (m.map B8).toArray, .slice a2 len2 cap2, .slice p3 n3 c3, .slice p4 n4 c4] w fun e w' => e = .returned (.bool true) ∧ Below w.heap.size w w' := ZC.replays_walk i m a2 len2 cap2 D p3 n3 c3 l p4 n4 c4 k w hm hD ha hd hl hc3 hv1 hk hc4 hv2
set_option maxRecDepth 100000 in
theorem lifted (os : Os) (started : os.Started) (H : Type) (enc : TypeId × Value → H) :
    ReturnsInHanded {} Tryz.checked os 4 .any (Rows.measureReplaysSpec.pre6 enc Tryz.prog Tryz.f4 Rows.measureReplaysRow.domain false) (Rows.measureReplaysSpec.post enc Tryz.prog Tryz.f4 false true false false) := by
  refine returnsInHanded_of_change (C := Tryz.checked) own started (by kernel_rfl) Tryz.func4
    (ChangeSpec.witness6 (enc := enc) (C := Tryz.checked) false ⟨#[], #[.bool false, .agg (Array.replicate 32 (.int .u8 0)), .slice none 0 0, .slice none 0 0, .slice none 0 0], []⟩ 8 (by kernel_rfl) (by kernel_rfl) (by kernel_rfl) (by kernel_rfl)) ?_
  intro W base args ds gs before hval0 hW hcnd _
  have hval : ∀ (j : Nat) t v, Tryz.f4.params[j]? = some t → args[j]? = some v → Value.okWide Tryz.prog W .any base t v := hval0
  have hW' := hW
  obtain ⟨p, q, hA0, hV, rfl, hfz, hnd⟩ := hW
  have hA : DataW.TrodAll enc Tryz.prog W 0 (fun _ => true) true Tryz.f4.params.toList args.toList ds p := hA0
  rw [Tryz.params4] at hA hval
  obtain ⟨v0, vs0, d0, ds0, p0, q0, hargs, rfl, rfl, h0, r0⟩ := trodAll_cons hA
  obtain ⟨v1, vs1, d1, ds1, p1, q1, rfl, rfl, rfl, h1, r1⟩ := trodAll_cons r0
  obtain ⟨v2, vs2, d2, ds2, p2, q2, rfl, rfl, rfl, h2, r2⟩ := trodAll_cons r1
  obtain ⟨v3, vs3, d3, ds3, p3, q3, rfl, rfl, rfl, h3, r3⟩ := trodAll_cons r2
  obtain ⟨v4, vs4, d4, ds4, p4, q4, rfl, rfl, rfl, h4, r4⟩ := trodAll_cons r3
  obtain ⟨rfl, rfl, rfl⟩ := trodAll_nil r4
  obtain rfl : args = #[v0, v1, v2, v3, v4] := by cases args; simp_all
  obtain ⟨rfl, rfl⟩ := trodVars_none hV
  obtain ⟨b0, rfl, rfl, rfl⟩ := open_bool Tryz.underlying4 (hval 0 4 v0 rfl rfl) h0
  have k1 := h1
  have lt1 : ∀ x ∈ p1, x.block < W.heap.size := by obtain ⟨m, hm⟩ := k1; exact DataW.trod_lt m _ _ _ hm
  obtain ⟨l1, rfl, hl1⟩ := open_octets Tryz.underlying24 (by kernel_rfl) (hval 1 24 v1 rfl rfl) h1
  obtain ⟨a2, len2, cap2, rfl⟩ := okWide_slice Tryz.underlying22 (hval 2 22 v2 rfl rfl)
  have k2 := h2
  have lt2 : ∀ x ∈ p2, x.block < W.heap.size := by obtain ⟨m, hm⟩ := k2; exact DataW.trod_lt m _ _ _ hm
  obtain ⟨l2, hl2, hm2, hn2⟩ : ∃ ds, R5.HDs W (.slice a2 len2 cap2) ds ∧ ds.length ≤ 9223372036854775807 ∧ (a2 = none → cap2 = 0) := by obtain ⟨fuel, hf⟩ := h2; exact R5.open_digs hf
  obtain ⟨a3, len3, cap3, rfl⟩ := okWide_slice Tryz.underlying51 (hval 3 51 v3 rfl rfl)
  have k3 := h3
  have lt3 : ∀ x ∈ p3, x.block < W.heap.size := by obtain ⟨m, hm⟩ := k3; exact DataW.trod_lt m _ _ _ hm
  obtain ⟨l3, hl3, hm3, hc3⟩ : ∃ ls, ZC.HR W (.slice a3 len3 cap3) ls ∧ ls.length ≤ 9223372036854775807 ∧ len3 ≤ cap3 := by obtain ⟨fuel, hf⟩ := h3; obtain ⟨ls, h1, h2⟩ := ZC.open_recs hf; exact ⟨ls, h1, h2, ZC.open_cap hf⟩
  obtain ⟨a4, len4, cap4, rfl⟩ := okWide_slice Tryz.underlying51 (hval 4 51 v4 rfl rfl)
  have k4 := h4
  have lt4 : ∀ x ∈ p4, x.block < W.heap.size := by obtain ⟨m, hm⟩ := k4; exact DataW.trod_lt m _ _ _ hm
  obtain ⟨l4, hl4, hm4, hc4⟩ : ∃ ls, ZC.HR W (.slice a4 len4 cap4) ls ∧ ls.length ≤ 9223372036854775807 ∧ len4 ≤ cap4 := by obtain ⟨fuel, hf⟩ := h4; obtain ⟨ls, h1, h2⟩ := ZC.open_recs hf; exact ⟨ls, h1, h2, ZC.open_cap hf⟩
  clear hA0 hval0
  refine (walk b0 l1 _ _ _ l2 _ _ _ l3 _ _ _ l4 W hl1 hm2 hn2 hl2 hm3 hc3 hl3 hm4 hc4 hl4).mono fun e W' ⟨he, bel⟩ => ?_
  subst he
  exact ⟨_, rfl, _, _, _, [], _, [], hW', trodAll_mk1 (shut_bool Tryz.underlying4 _), (trodAll_cons_mk (shut_bool Tryz.underlying4 _) (trodAll_cons_mk (Below.trod laidOut (by kernel_rfl) (of_decide_eq_true (by kernel_rfl)) k1 bel lt1) (trodAll_cons_mk (Below.trod laidOut (by kernel_rfl) (of_decide_eq_true (by kernel_rfl)) k2 bel lt2) (trodAll_cons_mk (Below.trod laidOut (by kernel_rfl) (of_decide_eq_true (by kernel_rfl)) k3 bel lt3) (trodAll_cons_mk (Below.trod laidOut (by kernel_rfl) (of_decide_eq_true (by kernel_rfl)) k4 bel lt4) trodAll_mk0))))), rfl, bel.frame _, fun h => by cases h⟩

theorem over : Rows.measureReplaysRow.holds Tryz.pinned (OpenSpec.ofChange Rows.measureReplaysSpec) :=
  OpenClaim.holds_of_wide 4 Tryz.f4 rfl rfl rfl rfl rfl rfl rfl ⟨rfl, rfl, rfl, rfl, rfl⟩ rfl rfl rfl rfl rfl (by kernel_rfl) Tryz.func4 (by kernel_rfl)
    (of_decide_eq_true (by kernel_rfl)) (by unfold Func.isWrapper; first | (rw [if_pos (by decide +kernel)]; kernel_rfl) | (rw [if_neg (by decide +kernel)]; exact ⟨rfl, rfl⟩))
    (fun os started H enc _ => lifted os started H enc)

end Go.Proofs.YtpmknkagnkagpaaGreat.measureReplays
namespace Go.Proofs.YtpmknkagnkagpaaGreat
theorem measureReplays_holds : Rows.MeasureReplaysSaid := measureReplays.over
#print axioms measureReplays_holds
end Go.Proofs.YtpmknkagnkagpaaGreat
