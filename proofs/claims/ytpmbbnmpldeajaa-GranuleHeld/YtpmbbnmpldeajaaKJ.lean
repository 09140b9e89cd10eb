/- GranuleHeld: for any number the statement's function answers true. No condition. -/
import Derived.Test.YtpmbbnmpldeajaaKH
import Derived.WalkKit
import Derived.ProofKit
import Derived.OpenShut
import Derived.Carry
set_option linter.unusedVariables false
set_option linter.unusedSimpArgs false
namespace Go.Proofs.Ytpmbbnmpldeajaa.granuleHeld
open Go.ChangeShapes Go.WideShapes Go.ChangeAt Go.RowKit
open GC

theorem own : ownKnob Try.prog.godebug = none := by kernel_rfl
theorem laidOut : laidOutB Try.prog = true := by kernel_rfl

set_option maxHeartbeats 1000000 in
set_option maxRecDepth 100000 in
theorem much (n : Int) (w : World) (h : n < 0 ∨ 500 < n) : Calls Try.prog 8 #[.int .i64 n] w fun e w' => e = .returned (.bool true) ∧ Below w.heap.size w w' := by
  by_cases h1 : n < 0
  · clear h
    go_enter Try.func8, Try.ntmps8
    go_wp2_with fail
    refine Calls.mono (known_any w) ?_
    rintro e w1 ⟨rfl, hb⟩
    go_wp2
    go_ret
    exact ⟨rfl, hb⟩
  · have h2 : 500 < n := by omega
    clear h
    go_enter Try.func8, Try.ntmps8
    go_wp2_with fail
    refine Calls.mono (known_any w) ?_
    rintro e w1 ⟨rfl, hb⟩
    go_wp2
    go_ret
    exact ⟨rfl, hb⟩
theorem stC_use (k : Nat) (h : 0 < k) : stC ⟨0, 0, k⟩ 0 1 0 = 9 := by
  unfold stC
  rw [if_pos (by decide), if_pos rfl, if_pos ⟨h, by decide⟩]
set_option maxHeartbeats 4000000 in
set_option maxRecDepth 100000 in
theorem walkN (n : Nat) (w : World) (hn : n ≤ 500) : Calls Try.prog 8 #[.int .i64 (n : Int)] w fun e w' => e = .returned (.bool true) ∧ Below w.heap.size w w' := by
  have HN2 : Hid (Calls Try.prog 10 #[.int .i64 1] w fun e w' => NewEnd w 1 e w') := new_ok 1 w (by omega) (by omega)
  go_enter Try.func8, Try.ntmps8
  go_wp2_with fail
  refine Calls.mono HN2.out ?_
  rintro e w1 ⟨tb, gb, rfl, hP, htb, hgb, hb1⟩
  have HP1 : Hid (PM w1 tb gb 1 [⟨0, 0, 0⟩]) := hP
  have HB1 : Hid (Below w.heap.size w w1) := hb1
  clear HN2 hP hb1
  go_wp2
  go_loopw [5] (fun i wr => ∃ k : Nat, k ≤ n ∧ i = .int .i64 k ∧ PM wr tb gb 1 [⟨0, 0, k⟩] ∧ Below w.heap.size w wr) (fun i _ => n - (intOf i).toNat)
  case atStart => exact ⟨0, Nat.zero_le _, rfl, HP1.out, HB1.out⟩
  case round =>
    clear HP1 HB1
    obtain ⟨k, hk, rfl, hP, hB⟩ := hrel
    generalize wr = W at *
    by_cases hlt : k < n
    · have hkI : (k : Int) < (n : Int) := by omega
      have HS : Hid (Calls Try.prog 21 #[.pointer (some ⟨tb, 0, none⟩), .int .i64 0] W fun e w' => e = .returned (.int .i64 0) ∧ PM w' tb gb 1 [⟨0, 0, k + 1⟩] ∧ KB gb W w') := hold_ok tb gb 1 0 [⟨0, 0, k⟩] ⟨0, 0, k⟩ W hP rfl (by show k < _; omega)
      have HB : Hid (Below w.heap.size w W) := hB
      clear hP hB
      go_wp2_with fail
      refine Calls.mono HS.out ?_
      rintro e W2 ⟨rfl, hP, hK⟩
      have HP2 : Hid _ := hP
      have HB2 : Hid (Below w.heap.size w W2) := HB.out.trans (hK.bel hgb)
      clear hP hK HS HB
      go_wp2
      go_roundw
      case rel => exact ⟨k + 1, by omega, by go_num, HP2.out, HB2.out⟩
      case measure => simp [intOf]; omega
    · have hke : k = n := by omega
      subst hke
      have HP1 : Hid (PM W tb gb 1 [⟨0, 0, k - 0⟩]) := hP
      have HB1 : Hid (Below w.heap.size w W) := hB
      clear hP hB hk
      go_wp2
      go_loopw [6] (fun i wr => ∃ j : Nat, j ≤ k ∧ i = .int .i64 j ∧ PM wr tb gb 1 [⟨0, 0, k - j⟩] ∧ Below w.heap.size w wr) (fun i _ => k - (intOf i).toNat)
      case atStart => exact ⟨0, Nat.zero_le _, rfl, HP1.out, HB1.out⟩
      case round =>
        clear HP1 HB1
        obtain ⟨j, hj, rfl, hP, hB⟩ := hrel
        clear W
        generalize wr = W at *
        by_cases hlt : j < k
        · have hjI : (j : Int) < (k : Int) := by omega
          obtain ⟨m, hm⟩ : ∃ m, m = k - j := ⟨_, rfl⟩
          rw [← hm] at hP
          have hm0 : 0 < m := by omega
          have hmI : ((m : Int) != (k : Int) - (j : Int)) = false := by rw [bne_eq_false_iff_eq]; omega
          have HR : Hid (Calls Try.prog 19 #[.pointer (some ⟨tb, 0, none⟩), .int .i64 0] W fun e w' => e = .returned (.tuple #[.agg #[.int .i64 0, .int .u64 0, .int .i64 (m : Int)], .int .i64 0]) ∧ Below W.heap.size W w') := row_ok tb gb 1 1 0 [⟨0, 0, m⟩] ⟨0, 0, m⟩ W hP.pr rfl
          have HP : Hid _ := hP
          have HB : Hid (Below w.heap.size w W) := hB
          have HM : Hid _ := hm
          clear hP hB hm
          go_wp2_with fail
          refine Calls.mono HR.out ?_
          rintro e W1 ⟨rfl, hb1⟩
          obtain ⟨W2, hW2⟩ : ∃ W2, W2 = W1.alloc (.cells #[.int .i64 0, .int .u64 0, .int .i64 (m : Int)] 43 (0, 0)) := ⟨_, rfl⟩
          have hb2 : Below W.heap.size W W2 := by rw [hW2]; exact hb1.alloc hb1.size _
          have HP2 : Hid (PM W2 tb gb 1 [⟨0, 0, m⟩]) := HP.out.below hb2
          have HB2 : Hid (Below w.heap.size w W2) := HB.out.trans (hb2.mono HB.out.size)
          have HS : Hid (Calls Try.prog 20 #[.pointer (some ⟨tb, 0, none⟩), .int .i64 0, .int .i64 0, .int .i64 1, .int .u64 0] W2 fun e w' => e = .returned (.int .i64 9) ∧ PM w' tb gb 1 [⟨0, 0, m⟩] ∧ KB gb W2 w') := by
            have := step_any tb gb 1 0 [⟨0, 0, m⟩] ⟨0, 0, m⟩ 0 1 0 W2 HP2.out rfl (by decide) (by decide)
            rw [stR_no (by rw [stC_use m hm0]; decide), stC_use m hm0] at this
            exact this
          clear hb1 hb2 HP HB HR
          go_wp2_with fail
          rw [← hW2]
          clear hW2
          refine Calls.mono HS.out ?_
          rintro e W3 ⟨rfl, hP, hK⟩
          have HB3 : Hid (Below w.heap.size w W3) := HB2.out.trans (hK.bel hgb)
          have HL : Hid (Calls Try.prog 22 #[.pointer (some ⟨tb, 0, none⟩), .int .i64 0] W3 fun e w' => e = .returned (.int .i64 0) ∧ PM w' tb gb 1 [⟨0, 0, m - 1⟩] ∧ KB gb W3 w') := let_ok tb gb 1 0 [⟨0, 0, m⟩] ⟨0, 0, m⟩ W3 hP rfl hm0 (by show m ≤ _; have := HM.out; omega)
          clear hP hK HS HB2 HP2
          go_wp2_with fail
          refine Calls.mono HL.out ?_
          rintro e W4 ⟨rfl, hP, hK⟩
          have HP4 : Hid _ := hP
          have HB4 : Hid (Below w.heap.size w W4) := HB3.out.trans (hK.bel hgb)
          clear hP hK HL HB3
          go_wp2
          go_roundw
          case rel =>
            refine ⟨j + 1, by omega, by go_num, ?_, HB4.out⟩
            rw [show k - (j + 1) = m - 1 by have := HM.out; omega]
            exact HP4.out
          case measure => simp [intOf]; omega
        · have hje : j = k := by omega
          subst hje
          rw [Nat.sub_self] at hP
          have HL : Hid (Calls Try.prog 22 #[.pointer (some ⟨tb, 0, none⟩), .int .i64 0] W fun e w' => e = .returned (.int .i64 6) ∧ W = w') := let_none tb gb 1 0 [⟨0, 0, 0⟩] ⟨0, 0, 0⟩ W hP rfl rfl
          have HS : Hid (Calls Try.prog 20 #[.pointer (some ⟨tb, 0, none⟩), .int .i64 0, .int .i64 0, .int .i64 1, .int .u64 0] W fun e w' => e = .returned (.int .i64 0) ∧ PM w' tb gb 1 [⟨1, 0, 0⟩] ∧ KB gb W w') := step_any tb gb 1 0 [⟨0, 0, 0⟩] ⟨0, 0, 0⟩ 0 1 0 W hP rfl (by decide) (by decide)
          have HB : Hid (Below w.heap.size w W) := hB
          clear hP hB
          go_wp2_with fail
          refine Calls.mono HL.out ?_
          rintro e wx ⟨rfl, rfl⟩
          go_wp2_with fail
          refine Calls.mono HS.out ?_
          rintro e W3 ⟨rfl, hP, hK⟩
          have HB3 : Hid (Below w.heap.size w W3) := HB.out.trans (hK.bel hgb)
          clear hP hK HS HL
          go_wp2_with fail
          refine Calls.mono (known_any W3) ?_
          rintro e W4 ⟨rfl, hb4⟩
          have HB4 : Hid (Below w.heap.size w W4) := HB3.out.trans (hb4.mono HB3.out.size)
          clear hb4
          go_wp2
          go_ret
          exact ⟨rfl, HB4.out⟩
theorem walk (n : Int) (w : World) (h : (Lit.int .i64 n).wf = true) : Calls Try.prog 8 #[.int .i64 n] w fun e w' => e = .returned (.bool true) ∧ Below w.heap.size w w' := by
  by_cases h1 : n < 0 ∨ 500 < n
  · exact much n w h1
  · have := walkN n.toNat w (by omega)
    rw [show ((n.toNat : Nat) : Int) = n by omega] at this
    exact this
set_option maxRecDepth 100000 in
theorem lifted (os : Os) (started : os.Started) (H : Type) (enc : TypeId × Value → H) :
    ReturnsInHanded {} Try.checked os 8 .any (Rows.granuleHeldSpec.pre6 enc Try.prog Try.f8 Rows.granuleHeldRow.domain false) (Rows.granuleHeldSpec.post enc Try.prog Try.f8 false true false false) := by
  refine returnsInHanded_of_change (C := Try.checked) own started (by kernel_rfl) Try.func8
    (ChangeSpec.witness6 (enc := enc) (C := Try.checked) false ⟨#[], #[.int .i64 0], []⟩ 8 (by kernel_rfl) (by kernel_rfl) (by kernel_rfl) (by kernel_rfl)) ?_
  intro W base args ds gs before hval0 hW hcnd _
  have hval : ∀ (j : Nat) t v, Try.f8.params[j]? = some t → args[j]? = some v → Value.okWide Try.prog W .any base t v := hval0
  have hW' := hW
  obtain ⟨p, q, hA0, hV, rfl, hfz, hnd⟩ := hW
  have hA : DataW.TrodAll enc Try.prog W 0 (fun _ => true) true Try.f8.params.toList args.toList ds p := hA0
  rw [Try.params8] at hA hval
  obtain ⟨v0, vs0, d0, ds0, p0, q0, hargs, rfl, rfl, h0, r0⟩ := trodAll_cons hA
  obtain ⟨rfl, rfl, rfl⟩ := trodAll_nil r0
  obtain rfl : args = #[v0] := by cases args; simp_all
  obtain ⟨rfl, rfl⟩ := trodVars_none hV
  obtain ⟨n0, rfl, rfl, rfl, w0⟩ := open_int Try.underlying3 (hval 0 3 v0 rfl rfl) h0
  clear hA0 hval0
  refine (walk n0 W w0).mono fun e W' ⟨he, bel⟩ => ?_
  subst he
  exact ⟨_, rfl, _, _, _, [], _, [], hW', trodAll_mk1 (shut_bool Try.underlying4 _), (trodAll_cons_mk (shut_int Try.underlying3 w0) trodAll_mk0), rfl, bel.frame _, fun h => by cases h⟩

theorem over : Rows.granuleHeldRow.holds Try.pinned (OpenSpec.ofChange Rows.granuleHeldSpec) :=
  OpenClaim.holds_of_wide 8 Try.f8 rfl rfl rfl rfl rfl rfl rfl ⟨rfl, rfl, rfl, rfl, rfl⟩ rfl rfl rfl rfl rfl (by kernel_rfl) Try.func8 (by kernel_rfl)
    (of_decide_eq_true (by kernel_rfl)) (by unfold Func.isWrapper; first | (rw [if_pos (by decide +kernel)]; kernel_rfl) | (rw [if_neg (by decide +kernel)]; exact ⟨rfl, rfl⟩))
    (fun os started H enc _ => lifted os started H enc)

end Go.Proofs.Ytpmbbnmpldeajaa.granuleHeld
namespace Go.Proofs.Ytpmbbnmpldeajaa
theorem granuleHeld_holds : Rows.GranuleHeldSaid := granuleHeld.over
#print axioms granuleHeld_holds
end Go.Proofs.Ytpmbbnmpldeajaa
