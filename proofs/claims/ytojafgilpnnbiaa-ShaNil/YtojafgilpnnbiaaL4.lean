/- ShaNil: the statement's function answers true. No condition. -/
import Derived.Test.YtojafgilpnnbiaaY4
import Derived.Test.YtojafgilpnnbiaaN3
import Derived.Test.YtojafgilpnnbiaaN4
import Derived.Test.YtojafgilpnnbiaaE1
import Derived.Test.YtojafgilpnnbiaaRows
import Derived.WalkKit
import Derived.ProofKit
import Derived.OpenShut
import Derived.Carry
set_option linter.unusedVariables false
set_option linter.unusedSimpArgs false
namespace Go.Proofs.Ytojafgilpnnbiaa.shaNil
open Go.ChangeShapes Go.WideShapes Go.ChangeAt Go.RowKit

theorem own : ownKnob Try.prog.godebug = none := by kernel_rfl
theorem laidOut : laidOutB Try.prog = true := by kernel_rfl

theorem eqs (w : World) (xs : List UInt8) (hx : xs.length = 32) : (Op.equalIn 10000 25 (.agg (xs.map B8).toArray) (.agg (xs.map B8).toArray)).run Try.prog w = .ok true w := by
  have := run_equalIn_bytes (P := Try.prog) w 9998 25 5 32 Try.underlying25 Try.underlying5 size_u8 xs xs hx hx
  rw [show (xs == xs) = true by simp] at this
  exact this

/-- The cells of a zero Hash. -/
def ZH : Array Value := (Value.bool false :: (List.replicate 8 (Value.int .u32 0) ++ List.replicate 64 (Value.int .u8 0) ++ [Value.int .i64 0])).toArray
theorem zeroH (w : World) : (zeroValue 53).run Try.prog w = .ok (.agg ZH) w := by kernel_rfl
theorem ZH0 : ZH[0]? = some (.bool false) := rfl

set_option maxHeartbeats 4000000 in
theorem walk (w : World) :
    Calls Try.prog 7 #[] w fun e w' => e = .returned (.bool true) ∧ Below w.heap.size w w' := by
  obtain ⟨i0, hi, hz0, hz1, hz2⟩ := info_parts Try.infoU8
  have hn := fun W => known_any W
  have hno := fun hv W hN => nothing_any hv W hN
  have hzh := fun W => zeroH W
  have HZH : Hid _ := ZH0
  generalize ZH = ZA0 at *
  have HI : Hid _ := hi
  have HZ0 : Hid _ := hz0
  have HZ1 : Hid _ := hz1
  have HZ2 : Hid _ := hz2
  clear hi hz0 hz1 hz2
  go_enter Try.func7, Try.ntmps7
  go_wp2
  go_loopw [1] (fun i wr => ∃ n : Nat, 53 ≤ n ∧ n ≤ 67 ∧ i = .int .i64 n ∧ Below w.heap.size w wr) (fun i _ => 67 - (intOf i).toNat)
  case atStart => exact ⟨53, by omega, by omega, rfl, Below.refl _ _⟩
  case round =>
    obtain ⟨n, hn53, hn67, rfl, hbel⟩ := hrel
    have hs0 := hbel.size
    by_cases hlt : n < 67
    · obtain ⟨ZA, hZA⟩ : ∃ ZA, ZA = madeCells #[.int .u8 0] n := ⟨_, rfl⟩
      have hZL : ZA = ((List.replicate n (0 : UInt8)).map B8).toArray := by
        rw [← Array.toList_inj, hZA, toList_madeCells_one]; simp [B8]
      have hmk : ∀ W, (Instr.makeSlice 22 (.int .i64 (n : Int)) (.int .i64 (n : Int))).run Try.prog W = .ok (.slice (some ⟨W.heap.size, 0, none⟩) n n) (W.alloc (.cells ZA 5)) := fun W => by
        rw [run_make W 22 5 i0 (.int .u8 0) Try.underlying22 HI.out HZ0.out .i64 .i64 _ _ (by omega) (by omega) (by rw [HZ2.out]; omega) (by omega), HZ1.out, Int.toNat_natCast, Nat.mul_one, hZA]
        rfl
      have HV : Hid (HB (wr.alloc (.cells ZA 5)) (.slice (some ⟨wr.heap.size, 0, none⟩) n n) (List.replicate n 0)) := HB.newRow wr _ n rfl ZA (List.replicate n 0) (by simp) hZL (by simp; omega)
      have hbA : Below w.heap.size w (wr.alloc (.cells ZA 5)) := hbel.alloc hs0 _
      have hs := fun v W hW => shaSum_any v (List.replicate n 0) W (by simp; omega) hW
      have hr := fun v W hW => refSum_any v (List.replicate n 0) W (by simp; omega) hW
      have hp := fun v W hW => shaPad_any v (List.replicate n 0) W (by simp; omega) hW
      have heq := fun W => eqs W (shaL (List.replicate n 0)) (shaL_len _)
      have hm := padL_mod (List.replicate n 0)
      generalize ((shaL (List.replicate n 0)).map B8).toArray = SA at *
      generalize padL (List.replicate n 0) = PL at *
      generalize List.replicate n (0 : UInt8) = L at *
      obtain ⟨K, hK⟩ : ∃ K, PL.length = 64 * K := ⟨PL.length / 64, by omega⟩
      have hpn : (PL.length : Int) = 64 * (K : Int) := by omega
      clear hK hm hZA hZL
      go_wp2_with fail
      refine (hs _ _ HV.out).mono ?_
      rintro e w1 ⟨rfl, b1⟩
      have HV1 : Hid _ := HB.below HV.out b1
      have c1 := hbA.trans (b1.mono hbA.size)
      clear b1 hs
      go_wp2_with fail
      refine (hr _ _ HV1.out).mono ?_
      rintro e w2 ⟨rfl, b2⟩
      have HV2 : Hid _ := HB.below HV1.out b2
      have c2 := c1.trans (b2.mono c1.size)
      clear b2 c1 hr HV1
      go_wp2_with fail
      refine (hp _ _ HV2.out).mono ?_
      rintro e w3 ⟨pv, rfl, hf3, b3⟩
      obtain ⟨pp, pc, rfl⟩ := hf3.form
      have c3 := c2.trans (b3.mono c2.size)
      clear b3 c2 hp hf3 HV2
      go_wp2
      go_roundw
      case rel => exact ⟨n + 1, by omega, by omega, by go_num, c3⟩
      case measure => simp [intOf]; omega
    · go_wp2_with fail
      refine (hno _ _ (Nn.nil _)).mono ?_
      rintro e w1 ⟨rfl, b1⟩
      have c1 := hbel.trans (b1.mono hs0)
      have hs1 := c1.size
      clear b1
      go_wp2_with fail
      refine (hno _ _ (Nn.zero _ _ ?_)).mono ?_
      · rw [cell_of_row _ _ 0 _ _ _ (heap_alloc_new _ _)]; exact HZH.out
      rintro e w2 ⟨rfl, b2⟩
      have c2 := (c1.alloc hs1 _).trans (b2.mono (by simp; omega))
      clear b2 c1
      go_wp2_with fail
      refine (hn _).mono ?_
      rintro e w3 ⟨rfl, b3⟩
      have c3 := c2.trans (b3.mono c2.size)
      clear b3 c2
      go_wp2
      go_ret
      exact ⟨rfl, c3⟩

set_option maxRecDepth 100000 in
theorem lifted (os : Os) (started : os.Started) (H : Type) (enc : TypeId × Value → H) :
    ReturnsInHanded {} Try.checked os 7 .any (Rows.shaNilSpec.pre6 enc Try.prog Try.f7 Rows.shaNilRow.domain false) (Rows.shaNilSpec.post enc Try.prog Try.f7 false true false false) := by
  refine returnsInHanded_of_change (C := Try.checked) own started (by kernel_rfl) Try.func7
    (ChangeSpec.witness6 (enc := enc) (C := Try.checked) false ⟨#[], #[], []⟩ 8 (by kernel_rfl) (by kernel_rfl) (by kernel_rfl) (by kernel_rfl)) ?_
  intro W base args ds gs before hval0 hW hcnd _
  have hval : ∀ (j : Nat) t v, Try.f7.params[j]? = some t → args[j]? = some v → Value.okWide Try.prog W .any base t v := hval0
  have hW' := hW
  obtain ⟨p, q, hA0, hV, rfl, hfz, hnd⟩ := hW
  have hA : DataW.TrodAll enc Try.prog W 0 (fun _ => true) true Try.f7.params.toList args.toList ds p := hA0
  rw [Try.params7] at hA hval
  obtain ⟨hargs, rfl, rfl⟩ := trodAll_nil hA
  obtain rfl : args = #[] := by cases args; simp_all
  obtain ⟨rfl, rfl⟩ := trodVars_none hV
  clear hA0 hval0
  refine (walk  W ).mono fun e W' ⟨he, bel⟩ => ?_
  subst he
  exact ⟨_, rfl, _, _, _, [], _, [], hW', trodAll_mk1 (shut_bool Try.underlying4 _), trodAll_mk0, rfl, bel.frame _, fun h => by cases h⟩

theorem over : Rows.shaNilRow.holds Try.pinned (OpenSpec.ofChange Rows.shaNilSpec) :=
  OpenClaim.holds_of_wide 7 Try.f7 rfl rfl rfl rfl rfl rfl rfl ⟨rfl, rfl, rfl, rfl, rfl⟩ rfl rfl rfl rfl rfl (by kernel_rfl) Try.func7 (by kernel_rfl)
    (of_decide_eq_true (by kernel_rfl)) (by unfold Func.isWrapper; first | (rw [if_pos (by decide +kernel)]; kernel_rfl) | (rw [if_neg (by decide +kernel)]; exact ⟨rfl, rfl⟩))
    (fun os started H enc _ => lifted os started H enc)

end Go.Proofs.Ytojafgilpnnbiaa.shaNil
namespace Go.Proofs.Ytojafgilpnnbiaa
theorem shaNil_holds : Rows.ShaNilSaid := shaNil.over
#print axioms shaNil_holds
end Go.Proofs.Ytojafgilpnnbiaa
