/- AesField: for any three bytes, the statement's function answers true and leaves its arguments as they were. No condition. -/
import Derived.Test.YtjohckgdbbhpdaaT7
import Derived.Test.YtjohckgdbbhpdaaRows
import Derived.WalkKit
import Derived.ProofKit
import Derived.OpenShut
import Derived.Carry
set_option linter.unusedVariables false
set_option linter.unusedSimpArgs false
namespace Go.Proofs.Ytjohckgdbbhpdaa.aesField
open Go.ChangeShapes Go.WideShapes Go.ChangeAt Go.RowKit

theorem own : ownKnob Try.prog.godebug = none := by kernel_rfl
theorem laidOut : laidOutB Try.prog = true := by kernel_rfl

set_option maxHeartbeats 8000000 in
theorem walk8 (a b c : UInt8) (w : World) : Calls Try.prog 8 #[.int .u8 (a.toNat : Int), .int .u8 (b.toNat : Int), .int .u8 (c.toNat : Int)] w fun e w' => e = .returned (.bool true) ∧ Below w.heap.size w w' := by
  have t1 := ptimes_any a (b ^^^ c) w
  have t2 := ptimes_any a b w
  have t3 := ptimes_any a c w
  rw [tmP_xorr] at t1
  have t4 := ptimes_any b a w
  rw [tmP_comm b a] at t4
  have t5 := ptimes_any (tmP a b) c w
  have t6 := ptimes_any b c w
  have t7 := ptimes_any a (tmP b c) w
  rw [← tmP_assoc] at t7
  have t8 := ptimes_any a 1 w
  rw [tmP_one, show (((1 : UInt8).toNat : Nat) : Int) = 1 from rfl] at t8
  have i1 := pinverse_any a w
  have i2 := pinverse_any (ivP a) w
  rw [ivP_ivP] at i2
  have u1 := punsub_any a w
  have s1 := fun W => psub_any (uvP a) W
  rw [sbP_uvP] at s1
  have kn := fun W => known_any W
  have x1 := xor_u8' b c
  have x2 := xor_u8' (tmP a b) (tmP a c)
  generalize tmP (tmP a b) c = pabc at *
  generalize tmP a b ^^^ tmP a c = ps at *
  generalize tmP b c = pbc at *
  generalize tmP a b = pab at *
  generalize tmP a c = pac at *
  generalize b ^^^ c = bc at *
  generalize ivP a = ia at *
  generalize uvP a = ua at *
  go_enter Try.func8, Try.ntmps8
  go_wp2_with fail
  refine t1.mono ?_
  rintro e wx ⟨rfl, rfl⟩
  go_wp2_with fail
  refine t2.mono ?_
  rintro e wx ⟨rfl, rfl⟩
  go_wp2_with fail
  refine t3.mono ?_
  rintro e wx ⟨rfl, rfl⟩
  go_wp2_with fail
  refine t2.mono ?_
  rintro e wx ⟨rfl, rfl⟩
  go_wp2_with fail
  refine t4.mono ?_
  rintro e wx ⟨rfl, rfl⟩
  go_wp2_with fail
  refine t2.mono ?_
  rintro e wx ⟨rfl, rfl⟩
  go_wp2_with fail
  refine t5.mono ?_
  rintro e wx ⟨rfl, rfl⟩
  go_wp2_with fail
  refine t6.mono ?_
  rintro e wx ⟨rfl, rfl⟩
  go_wp2_with fail
  refine t7.mono ?_
  rintro e wx ⟨rfl, rfl⟩
  go_wp2_with fail
  refine t8.mono ?_
  rintro e wx ⟨rfl, rfl⟩
  go_wp2_with fail
  refine i1.mono ?_
  rintro e wx ⟨rfl, rfl⟩
  go_wp2_with fail
  refine i2.mono ?_
  rintro e wx ⟨rfl, rfl⟩
  go_wp2_with fail
  refine u1.mono ?_
  rintro e w1 ⟨rfl, hb1⟩
  go_wp2_with fail
  refine (s1 _).mono ?_
  rintro e wx ⟨rfl, rfl⟩
  go_wp2_with fail
  refine (kn _).mono ?_
  rintro e w2 ⟨rfl, hb2⟩
  have HB : Hid (Below w.heap.size w w2) := hb1.trans (hb2.mono hb1.size)
  clear hb1 hb2 t1 t2 t3 t4 t5 t6 t7 t8 i1 i2 u1 s1 kn
  go_wp2
  go_ret
  exact ⟨rfl, HB.out⟩

theorem walk (n0 n1 n2 : Int) (W : World) (h0 : (Lit.int .u8 n0).wf = true) (h1 : (Lit.int .u8 n1).wf = true) (h2 : (Lit.int .u8 n2).wf = true) : Calls Try.prog 8 #[.int .u8 n0, .int .u8 n1, .int .u8 n2] W fun e w' => e = .returned (.bool true) ∧ Below W.heap.size W w' := by
  have b0 := bounds_u8 h0
  have b1 := bounds_u8 h1
  have b2 := bounds_u8 h2
  have e : ∀ n : Int, 0 ≤ n ∧ n ≤ 255 → ((UInt8.ofNat n.toNat).toNat : Int) = n := fun n h => by show ((n.toNat % 256 : Nat) : Int) = n; omega
  have := walk8 (UInt8.ofNat n0.toNat) (UInt8.ofNat n1.toNat) (UInt8.ofNat n2.toNat) W
  rw [e n0 b0, e n1 b1, e n2 b2] at this
  exact this

set_option maxRecDepth 100000 in
theorem lifted (os : Os) (started : os.Started) (H : Type) (enc : TypeId × Value → H) :
    ReturnsInHanded {} Try.checked os 8 .any (Rows.aesFieldSpec.pre6 enc Try.prog Try.f8 Rows.aesFieldRow.domain false) (Rows.aesFieldSpec.post enc Try.prog Try.f8 false true false false) := by
  refine returnsInHanded_of_change (C := Try.checked) own started (by kernel_rfl) Try.func8
    (ChangeSpec.witness6 (enc := enc) (C := Try.checked) false ⟨#[], #[.int .u8 0, .int .u8 0, .int .u8 0], []⟩ 8 (by kernel_rfl) (by kernel_rfl) (by kernel_rfl) (by kernel_rfl)) ?_
  intro W base args ds gs before hval0 hW hcnd _
  have hval : ∀ (j : Nat) t v, Try.f8.params[j]? = some t → args[j]? = some v → Value.okWide Try.prog W .any base t v := hval0
  have hW' := hW
  obtain ⟨p, q, hA0, hV, rfl, hfz, hnd⟩ := hW
  have hA : DataW.TrodAll enc Try.prog W 0 (fun _ => true) true Try.f8.params.toList args.toList ds p := hA0
  rw [Try.params8] at hA hval
  obtain ⟨v0, vs0, d0, ds0, p0, q0, hargs, rfl, rfl, h0, r0⟩ := trodAll_cons hA
  obtain ⟨v1, vs1, d1, ds1, p1, q1, rfl, rfl, rfl, h1, r1⟩ := trodAll_cons r0
  obtain ⟨v2, vs2, d2, ds2, p2, q2, rfl, rfl, rfl, h2, r2⟩ := trodAll_cons r1
  obtain ⟨rfl, rfl, rfl⟩ := trodAll_nil r2
  obtain rfl : args = #[v0, v1, v2] := by cases args; simp_all
  obtain ⟨rfl, rfl⟩ := trodVars_none hV
  obtain ⟨n0, rfl, rfl, rfl, w0⟩ := open_int Try.underlying5 (hval 0 5 v0 rfl rfl) h0
  obtain ⟨n1, rfl, rfl, rfl, w1⟩ := open_int Try.underlying5 (hval 1 5 v1 rfl rfl) h1
  obtain ⟨n2, rfl, rfl, rfl, w2⟩ := open_int Try.underlying5 (hval 2 5 v2 rfl rfl) h2
  clear hA0 hval0
  refine (walk n0 n1 n2 W w0 w1 w2).mono fun e W' ⟨he, bel⟩ => ?_
  subst he
  exact ⟨_, rfl, _, _, _, [], _, [], hW', trodAll_mk1 (shut_bool Try.underlying4 _), (trodAll_cons_mk (shut_int Try.underlying5 w0) (trodAll_cons_mk (shut_int Try.underlying5 w1) (trodAll_cons_mk (shut_int Try.underlying5 w2) trodAll_mk0))), rfl, bel.frame _, fun h => by cases h⟩

theorem over : Rows.aesFieldRow.holds Try.pinned (OpenSpec.ofChange Rows.aesFieldSpec) :=
  OpenClaim.holds_of_wide 8 Try.f8 rfl rfl rfl rfl rfl rfl rfl ⟨rfl, rfl, rfl, rfl, rfl⟩ rfl rfl rfl rfl rfl (by kernel_rfl) Try.func8 (by kernel_rfl)
    (of_decide_eq_true (by kernel_rfl)) (by unfold Func.isWrapper; first | (rw [if_pos (by decide +kernel)]; kernel_rfl) | (rw [if_neg (by decide +kernel)]; exact ⟨rfl, rfl⟩))
    (fun os started H enc _ => lifted os started H enc)

end Go.Proofs.Ytjohckgdbbhpdaa.aesField
namespace Go.Proofs.Ytjohckgdbbhpdaa
theorem aesField_holds : Rows.AesFieldSaid := aesField.over
#print axioms aesField_holds
end Go.Proofs.Ytjohckgdbbhpdaa
