/- ShaSums: for any bytes, the statement's function answers true and leaves its argument as it was. No condition. -/
import Derived.Test.YtojafgilpnnbiaaY4
import Derived.Test.YtojafgilpnnbiaaN3
import Derived.Test.YtojafgilpnnbiaaJ1
import Derived.Test.YtojafgilpnnbiaaQ4
import Derived.Test.YtojafgilpnnbiaaRows
import Derived.WalkKit
import Derived.ProofKit
import Derived.OpenShut
import Derived.Carry
set_option linter.unusedVariables false
set_option linter.unusedSimpArgs false
namespace Go.Proofs.Ytojafgilpnnbiaa.shaSums
open Go.ChangeShapes Go.WideShapes Go.ChangeAt Go.RowKit

theorem own : ownKnob Try.prog.godebug = none := by kernel_rfl
theorem laidOut : laidOutB Try.prog = true := by kernel_rfl

set_option maxHeartbeats 4000000 in
theorem walk (v : Value) (l : List UInt8) (w : World) (hm : l.length ≤ 9223372036854775807) (h : HB w v l) :
    Calls Try.prog 3 #[v] w fun e w' => e = .returned (.bool true) ∧ Below w.heap.size w w' := by
  obtain ⟨p, cap, hv, _⟩ := h.cells
  have hn := fun W => known_any W
  by_cases hlen : l.length ≤ 600
  · have hs := fun W hW => shaSum_any v l W (by omega) hW
    have hr := fun W hW => refSum_any v l W (by omega) hW
    have hp := fun W hW => shaPad_any v l W (by omega) hW
    have hq := fun W hW => pad_any v l W (by omega) hW
    have heq := fun W => eql_digest W (shaL l) (shaL l) (shaL_len _) (shaL_len _)
    have hb : (shaL l == shaL l) = true := by simp
    rw [hb] at heq
    clear hb
    have hcv := fun W hW => conv_hb W v l hW
    have hsm := fun a b W ha hb => same_any a b (padL l) (padL l) W ha hb
    have hdd : decide (padL l = padL l) = true := by simp
    rw [hdd] at hsm
    clear hdd
    generalize ((shaL l).map B8).toArray = SA at *
    generalize padL l = PL at *
    have hc0 := hcv w h
    have hlt : ¬ (600 : Int) < (l.length : Int) := by omega
    subst hv
    have HV : Hid _ := h
    clear h
    go_enter Try.func3, Try.ntmps3
    go_wp2_with fail
    refine (hs _ HV.out).mono ?_
    rintro e w1 ⟨rfl, b1⟩
    have HV1 : Hid _ := HB.below HV.out b1
    clear hc0
    go_wp2_with fail
    refine (hr _ HV1.out).mono ?_
    rintro e w2 ⟨rfl, b2⟩
    have HV2 : Hid _ := HB.below HV1.out b2
    have c2 := b1.trans (b2.mono b1.size)
    clear b1 b2 HV1
    go_wp2_with fail
    refine (hp _ HV2.out).mono ?_
    rintro e w3 ⟨pv, rfl, hf3, b3⟩
    have HV3 : Hid _ := HB.below HV2.out b3
    have c3 := c2.trans (b3.mono c2.size)
    have HP3 : Hid _ := hf3.hb
    clear c2 b3 hf3 HV2
    go_wp2_with fail
    refine (hq _ HV3.out).mono ?_
    rintro e w4 ⟨qv, rfl, hf4, b4⟩
    have HV4 : Hid _ := HB.below HV3.out b4
    have c4 := c3.trans (b4.mono c3.size)
    have HP4 : Hid _ := HB.below HP3.out b4
    have HQ4 : Hid _ := hf4.hb
    clear c3 b4 hf4 HV3 HP3
    go_wp2_with fail
    refine (hsm _ _ _ HP4.out HQ4.out).mono ?_
    rintro e w5 ⟨rfl, rfl⟩
    have hc4 := hcv w4 HV4.out
    clear hcv
    go_wp2_with fail
    refine (hn _).mono ?_
    rintro e w6 ⟨rfl, b6⟩
    have c6 := c4.trans (b6.mono c4.size)
    clear c4 b6
    go_wp2
    go_ret
    exact ⟨rfl, c6⟩
  · have hlt : (600 : Int) < (l.length : Int) := by omega
    subst hv
    clear h
    go_enter Try.func3, Try.ntmps3
    go_wp2_with fail
    refine (hn _).mono ?_
    rintro e w1 ⟨rfl, b1⟩
    go_wp2
    go_ret
    exact ⟨rfl, b1⟩

set_option maxRecDepth 100000 in
theorem lifted (os : Os) (started : os.Started) (H : Type) (enc : TypeId × Value → H) :
    ReturnsInHanded {} Try.checked os 3 .any (Rows.shaSumsSpec.pre6 enc Try.prog Try.f3 Rows.shaSumsRow.domain false) (Rows.shaSumsSpec.post enc Try.prog Try.f3 false true false false) := by
  refine returnsInHanded_of_change (C := Try.checked) own started (by kernel_rfl) Try.func3
    (ChangeSpec.witness6 (enc := enc) (C := Try.checked) false ⟨#[], #[.slice none 0 0], []⟩ 8 (by kernel_rfl) (by kernel_rfl) (by kernel_rfl) (by kernel_rfl)) ?_
  intro W base args ds gs before hval0 hW hcnd _
  have hval : ∀ (j : Nat) t v, Try.f3.params[j]? = some t → args[j]? = some v → Value.okWide Try.prog W .any base t v := hval0
  have hW' := hW
  obtain ⟨p, q, hA0, hV, rfl, hfz, hnd⟩ := hW
  have hA : DataW.TrodAll enc Try.prog W 0 (fun _ => true) true Try.f3.params.toList args.toList ds p := hA0
  rw [Try.params3] at hA hval
  obtain ⟨v0, vs0, d0, ds0, p0, q0, hargs, rfl, rfl, h0, r0⟩ := trodAll_cons hA
  obtain ⟨rfl, rfl, rfl⟩ := trodAll_nil r0
  obtain rfl : args = #[v0] := by cases args; simp_all
  obtain ⟨rfl, rfl⟩ := trodVars_none hV
  obtain ⟨a0, len0, cap0, rfl⟩ := okWide_slice Try.underlying22 (hval 0 22 v0 rfl rfl)
  have k0 := h0
  have lt0 : ∀ x ∈ p0, x.block < W.heap.size := by obtain ⟨m, hm⟩ := k0; exact DataW.trod_lt m _ _ _ hm
  obtain ⟨l0, hl0, hm0⟩ : ∃ l, HB W (.slice a0 len0 cap0) l ∧ l.length ≤ 9223372036854775807 := by obtain ⟨fuel, hf⟩ := h0; exact open_bytes hf
  clear hA0 hval0
  refine (walk _ l0 W hm0 hl0).mono fun e W' ⟨he, bel⟩ => ?_
  subst he
  exact ⟨_, rfl, _, _, _, [], _, [], hW', trodAll_mk1 (shut_bool Try.underlying4 _), (trodAll_cons_mk (Below.trod laidOut (by kernel_rfl) (of_decide_eq_true (by kernel_rfl)) k0 bel lt0) trodAll_mk0), rfl, bel.frame _, fun h => by cases h⟩

theorem over : Rows.shaSumsRow.holds Try.pinned (OpenSpec.ofChange Rows.shaSumsSpec) :=
  OpenClaim.holds_of_wide 3 Try.f3 rfl rfl rfl rfl rfl rfl rfl ⟨rfl, rfl, rfl, rfl, rfl⟩ rfl rfl rfl rfl rfl (by kernel_rfl) Try.func3 (by kernel_rfl)
    (of_decide_eq_true (by kernel_rfl)) (by unfold Func.isWrapper; first | (rw [if_pos (by decide +kernel)]; kernel_rfl) | (rw [if_neg (by decide +kernel)]; exact ⟨rfl, rfl⟩))
    (fun os started H enc _ => lifted os started H enc)

end Go.Proofs.Ytojafgilpnnbiaa.shaSums
namespace Go.Proofs.Ytojafgilpnnbiaa
theorem shaSums_holds : Rows.ShaSumsSaid := shaSums.over
#print axioms shaSums_holds
end Go.Proofs.Ytojafgilpnnbiaa
