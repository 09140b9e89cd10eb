/- AesBytes: for any two bytes, the statement's function answers true and leaves its arguments as they were. No condition. -/
import Derived.Test.YtjohckgdbbhpdaaT7
import Derived.Test.YtjohckgdbbhpdaaRows
import Derived.WalkKit
import Derived.ProofKit
import Derived.OpenShut
import Derived.Carry
set_option linter.unusedVariables false
set_option linter.unusedSimpArgs false
namespace Go.Proofs.Ytjohckgdbbhpdaa.aesBytes
open Go.ChangeShapes Go.WideShapes Go.ChangeAt Go.RowKit

theorem own : ownKnob Try.prog.godebug = none := by kernel_rfl
theorem laidOut : laidOutB Try.prog = true := by kernel_rfl


set_option maxHeartbeats 8000000 in
theorem walk8 (a b : UInt8) (w : World) : Calls Try.prog 3 #[.int .u8 (a.toNat : Int), .int .u8 (b.toNat : Int)] w fun e w' => e = .returned (.bool true) ∧ Below w.heap.size w w' := by
  have t1 := ptimes_any a b w
  have t2 := times_any a b w
  rw [tmA_tmP] at t2
  have i1 := pinverse_any a w
  have i2 := inverse_any a w
  rw [inA_ivP] at i2
  have s1 := psub_any a w
  have s2 := sub_any a w
  rw [sbA_sbP] at s2
  have u1 := punsub_any a w
  have u2 := fun W => unsub_any a W
  rw [unA_uvP] at u2
  have s3 := fun W => psub_any b W
  have u3 := fun W => punsub_any (sbP b) W
  rw [uvP_sbP] at u3
  have kn := fun W => known_any W
  generalize tmP a b = pab at *
  generalize ivP a = ia at *
  generalize sbP a = sa at *
  generalize sbP b = sb at *
  generalize uvP a = ua at *
  go_enter Try.func3, Try.ntmps3
  go_wp2_with fail
  refine t1.mono ?_
  rintro e wx ⟨rfl, rfl⟩
  go_wp2_with fail
  refine t2.mono ?_
  rintro e wx ⟨rfl, rfl⟩
  go_wp2_with fail
  refine i1.mono ?_
  rintro e wx ⟨rfl, rfl⟩
  go_wp2_with fail
  refine i2.mono ?_
  rintro e wx ⟨rfl, rfl⟩
  go_wp2_with fail
  refine s1.mono ?_
  rintro e wx ⟨rfl, rfl⟩
  go_wp2_with fail
  refine s2.mono ?_
  rintro e wx ⟨rfl, rfl⟩
  go_wp2_with fail
  refine u1.mono ?_
  rintro e w1 ⟨rfl, hb1⟩
  go_wp2_with fail
  refine (u2 _).mono ?_
  rintro e wx ⟨rfl, rfl⟩
  go_wp2_with fail
  refine (s3 _).mono ?_
  rintro e wx ⟨rfl, rfl⟩
  go_wp2_with fail
  refine (u3 _).mono ?_
  rintro e w2 ⟨rfl, hb2⟩
  go_wp2_with fail
  refine (kn _).mono ?_
  rintro e w3 ⟨rfl, hb3⟩
  have HB : Hid (Below w.heap.size w w3) := (hb1.trans (hb2.mono hb1.size)).trans (hb3.mono (Nat.le_trans hb1.size hb2.size))
  clear hb1 hb2 hb3 t1 t2 i1 i2 u1 s1 kn u2 s2 s3 u3
  go_wp2
  go_ret
  exact ⟨rfl, HB.out⟩

theorem walk (n0 n1 : Int) (W : World) (h0 : (Lit.int .u8 n0).wf = true) (h1 : (Lit.int .u8 n1).wf = true) : Calls Try.prog 3 #[.int .u8 n0, .int .u8 n1] W fun e w' => e = .returned (.bool true) ∧ Below W.heap.size W w' := by
  have b0 := bounds_u8 h0
  have b1 := bounds_u8 h1
  have e : ∀ n : Int, 0 ≤ n ∧ n ≤ 255 → ((UInt8.ofNat n.toNat).toNat : Int) = n := fun n h => by show ((n.toNat % 256 : Nat) : Int) = n; omega
  have := walk8 (UInt8.ofNat n0.toNat) (UInt8.ofNat n1.toNat) W
  rw [e n0 b0, e n1 b1] at this
  exact this

set_option maxRecDepth 100000 in
theorem lifted (os : Os) (started : os.Started) (H : Type) (enc : TypeId × Value → H) :
    ReturnsInHanded {} Try.checked os 3 .any (Rows.aesBytesSpec.pre6 enc Try.prog Try.f3 Rows.aesBytesRow.domain false) (Rows.aesBytesSpec.post enc Try.prog Try.f3 false true false false) := by
  refine returnsInHanded_of_change (C := Try.checked) own started (by kernel_rfl) Try.func3
    (ChangeSpec.witness6 (enc := enc) (C := Try.checked) false ⟨#[], #[.int .u8 0, .int .u8 0], []⟩ 8 (by kernel_rfl) (by kernel_rfl) (by kernel_rfl) (by kernel_rfl)) ?_
  intro W base args ds gs before hval0 hW hcnd _
  have hval : ∀ (j : Nat) t v, Try.f3.params[j]? = some t → args[j]? = some v → Value.okWide Try.prog W .any base t v := hval0
  have hW' := hW
  obtain ⟨p, q, hA0, hV, rfl, hfz, hnd⟩ := hW
  have hA : DataW.TrodAll enc Try.prog W 0 (fun _ => true) true Try.f3.params.toList args.toList ds p := hA0
  rw [Try.params3] at hA hval
  obtain ⟨v0, vs0, d0, ds0, p0, q0, hargs, rfl, rfl, h0, r0⟩ := trodAll_cons hA
  obtain ⟨v1, vs1, d1, ds1, p1, q1, rfl, rfl, rfl, h1, r1⟩ := trodAll_cons r0
  obtain ⟨rfl, rfl, rfl⟩ := trodAll_nil r1
  obtain rfl : args = #[v0, v1] := by cases args; simp_all
  obtain ⟨rfl, rfl⟩ := trodVars_none hV
  obtain ⟨n0, rfl, rfl, rfl, w0⟩ := open_int Try.underlying5 (hval 0 5 v0 rfl rfl) h0
  obtain ⟨n1, rfl, rfl, rfl, w1⟩ := open_int Try.underlying5 (hval 1 5 v1 rfl rfl) h1
  clear hA0 hval0
  refine (walk n0 n1 W w0 w1).mono fun e W' ⟨he, bel⟩ => ?_
  subst he
  exact ⟨_, rfl, _, _, _, [], _, [], hW', trodAll_mk1 (shut_bool Try.underlying4 _), (trodAll_cons_mk (shut_int Try.underlying5 w0) (trodAll_cons_mk (shut_int Try.underlying5 w1) trodAll_mk0)), rfl, bel.frame _, fun h => by cases h⟩

theorem over : Rows.aesBytesRow.holds Try.pinned (OpenSpec.ofChange Rows.aesBytesSpec) :=
  OpenClaim.holds_of_wide 3 Try.f3 rfl rfl rfl rfl rfl rfl rfl ⟨rfl, rfl, rfl, rfl, rfl⟩ rfl rfl rfl rfl rfl (by kernel_rfl) Try.func3 (by kernel_rfl)
    (of_decide_eq_true (by kernel_rfl)) (by unfold Func.isWrapper; first | (rw [if_pos (by decide +kernel)]; kernel_rfl) | (rw [if_neg (by decide +kernel)]; exact ⟨rfl, rfl⟩))
    (fun os started H enc _ => lifted os started H enc)

end Go.Proofs.Ytjohckgdbbhpdaa.aesBytes
namespace Go.Proofs.Ytjohckgdbbhpdaa
theorem aesBytes_holds : Rows.AesBytesSaid := aesBytes.over
#print axioms aesBytes_holds
end Go.Proofs.Ytjohckgdbbhpdaa
