/- MacBounds: the statement's function answers true. No condition. -/
import Derived.Test.YtojafgilpnnbiabP5
import Derived.Test.YtojafgilpnnbiabRows
import Derived.WalkKit
import Derived.ProofKit
import Derived.OpenShut
import Derived.Carry
set_option linter.unusedVariables false
set_option linter.unusedSimpArgs false
namespace Go.Proofs.Ytojafgilpnnbiab.macBounds
open Go.ChangeShapes Go.WideShapes Go.ChangeAt Go.RowKit

theorem own : ownKnob Try.prog.godebug = none := by kernel_rfl
theorem laidOut : laidOutB Try.prog = true := by kernel_rfl

theorem eqs (w : World) (xs : List UInt8) (hx : xs.length = 32) : (Op.equalIn 10000 24 (.agg (xs.map B8).toArray) (.agg (xs.map B8).toArray)).run Try.prog w = .ok true w := by
  have := run_equalIn_bytes (P := Try.prog) w 9998 24 5 32 Try.underlying24 Try.underlying5 size_u8 xs xs hx hx
  rw [show (xs == xs) = true by simp] at this
  exact this
theorem HBnil (w : World) : HB w (.slice none 0 0) [] := .inl ⟨rfl, none, 0, rfl, fun _ => rfl⟩
theorem OD.form {base : Nat} {w : World} {v : Value} {n : Nat} {xs : List Value} (h : OD base w v n xs) : ∃ p cap, v = .slice p n cap := by
  rcases h.2 with ⟨h1, h2⟩ | ⟨g, cap, cur, h1, _⟩
  · exact ⟨none, 0, by rw [h1, h2]⟩
  · exact ⟨_, cap, h1⟩

set_option maxHeartbeats 8000000 in
theorem walk (w : World) :
    Calls Try.prog 7 #[] w fun e w' => e = .returned (.bool true) ∧ Below w.heap.size w w' := by
  obtain ⟨i0, hi, hz0, hz1, hz2⟩ := info_parts Try.infoU8
  have hkn := fun W => known_any W
  have hnum := fun k W => num_any k W
  have HI : Hid _ := hi
  have HZ0 : Hid _ := hz0
  have HZ1 : Hid _ := hz1
  have HZ2 : Hid _ := hz2
  clear hi hz0 hz1 hz2
  have hmkf : ∀ n : Nat, n ≤ 100 → ∀ W, (Instr.makeSlice 22 (.int .i64 (n : Int)) (.int .i64 (n : Int))).run Try.prog W = .ok (.slice (some ⟨W.heap.size, 0, none⟩) n n) (W.alloc (.cells (((List.replicate n (0 : UInt8)).map B8).toArray) 5)) := fun n hn W => by
    have hZL : madeCells #[.int .u8 0] n = ((List.replicate n (0 : UInt8)).map B8).toArray := by
      rw [← Array.toList_inj, toList_madeCells_one]; simp [B8]
    rw [run_make W 22 5 i0 (.int .u8 0) Try.underlying22 HI.out HZ0.out .i64 .i64 _ _ (by omega) (by omega) (by rw [HZ2.out]; omega) (by omega), HZ1.out, Int.toNat_natCast, Nat.mul_one, ← hZL]
    rfl
  have HMK : Hid _ := hmkf
  clear hmkf
  go_enter Try.func7, Try.ntmps7
  go_wp2
  go_loopw [1] (fun i wr => ∃ n : Nat, 63 ≤ n ∧ n ≤ 67 ∧ i = .int .i64 n ∧ Below w.heap.size w wr) (fun i _ => 67 - (intOf i).toNat)
  case atStart => exact ⟨63, by omega, by omega, rfl, Below.refl _ _⟩
  case round =>
    obtain ⟨n, hn63, hn67, rfl, hbel⟩ := hrel
    have hs0 := hbel.size
    by_cases hlt : n < 67
    · have hmk := fun W => HMK.out n (by omega) W
      obtain ⟨ZA, hZA⟩ : ∃ ZA, ZA = ((List.replicate n (0 : UInt8)).map B8).toArray := ⟨_, rfl⟩
      simp only [← hZA] at hmk
      obtain ⟨KY, hKY⟩ : ∃ KY : List UInt8, KY = 7 :: List.replicate (n - 1) 0 := ⟨_, rfl⟩
      have hKl : KY.length = n := by rw [hKY]; simp; omega
      have hz0 : ZA[0]? = some (.int .u8 0) := by
        rw [hZA]
        simp [B8, List.getElem?_replicate, show 0 < n by omega]
      have hset : ZA.setIfInBounds 0 (.int .u8 7) = (KY.map B8).toArray := by
        rw [hZA, hKY, show n = (n - 1) + 1 by omega, List.replicate_succ]
        simp [B8]
      have hc0 : (wr.alloc (.cells ZA 5)).cell? ⟨wr.heap.size, 0, none⟩ = some (.int .u8 0) := by rw [cell_of_row _ _ 0 _ _ _ (heap_alloc_new _ _)]; exact hz0
      have hf0 : (wr.alloc (.cells ZA 5)).frozen? ⟨wr.heap.size, 0, none⟩ = false := frozen_of_row _ _ 0 _ _ (heap_alloc_new _ _)
      have HV : Hid (HB (wr.alloc (.cells (ZA.setIfInBounds 0 (.int .u8 7)) 5)) (.slice (some ⟨wr.heap.size, 0, none⟩) n n) KY) := by
        refine HB.ofRow n hKl.symm (by omega) (t := 5) (fr := (0, 0)) ?_
        rw [← hset]
        exact heap_alloc_new _ _
      have hbA : Below w.heap.size w (wr.alloc (.cells (ZA.setIfInBounds 0 (.int .u8 7)) 5)) := hbel.alloc hs0 _
      have ht := fun kv W h1 => tag_any kv (.slice none 0 0) KY [] W (by omega) (by decide) h1 (HBnil W)
      have hr := fun kv W h1 => refTag_any kv (.slice none 0 0) KY [] W (by omega) (by decide) h1 (HBnil W)
      have heq := fun W => eqs W (macL KY []) (macL_len _ _)
      generalize ((macL KY []).map B8).toArray = SA at *
      have hn0 : (0 : Int) < (n : Int) := by omega
      clear hZA hKY hKl hz0 hset
      go_wp2_with fail
      refine (ht _ _ HV.out).mono ?_
      rintro e w1 ⟨rfl, b1⟩
      have HV1 : Hid _ := HB.below HV.out b1
      have c1 := hbA.trans (b1.mono hbA.size)
      clear b1 ht hc0 hf0
      go_wp2_with fail
      refine (hr _ _ HV1.out).mono ?_
      rintro e w2 ⟨rfl, b2⟩
      have c2 := c1.trans (b2.mono c1.size)
      clear b2 c1 hr HV1 HV hbA
      go_wp2
      go_roundw
      case rel => exact ⟨n + 1, by omega, by omega, by go_num, c2⟩
      case measure => simp [intOf]; omega
    · have hmk := fun W => HMK.out 64 (by decide) W
      obtain ⟨ZA, hZA⟩ : ∃ ZA, ZA = ((List.replicate 64 (0 : UInt8)).map B8).toArray := ⟨_, rfl⟩
      simp only [← hZA] at hmk
      have hmk' : ∀ W, (Instr.makeSlice 22 (.int .i64 64) (.int .i64 64)).run Try.prog W = .ok (.slice (some ⟨W.heap.size, 0, none⟩) 64 64) (W.alloc (.cells ZA 5)) := hmk
      obtain ⟨LG, hLG⟩ : ∃ LG, LG = txt (List.replicate 64 0) := ⟨_, rfl⟩
      have hcv := conv_hb (wr.alloc (.cells ZA 5)) (.slice (some ⟨wr.heap.size, 0, none⟩) 64 64) (List.replicate 64 0) (HB.newRow wr _ 64 rfl ZA (List.replicate 64 0) (by simp) hZA (by simp))
      rw [← hLG] at hcv
      have hLs : LG.size = 64 := by rw [hLG]; rfl
      have HLS : Hid _ := hLs
      have hd1 : ∀ W, Calls Try.prog 15 #[.agg Z32, .string LG, .int .u64 9223372036854775808] W fun e w' => e = .returned (.tuple #[.agg ((macL (List.replicate 32 0) (askL LG 9223372036854775808)).map B8).toArray, .int .i64 0]) ∧ Below W.heap.size W w' := fun W => derive_ok (List.replicate 32 0) LG 9223372036854775808 W (by simp) (by omega) (by omega) (by decide)
      obtain ⟨RS, hRS⟩ : ∃ RS, RS = ((macL (List.replicate 32 0) (askL LG 9223372036854775808)).map B8).toArray := ⟨_, rfl⟩
      simp only [← hRS] at hd1
      have hrs : RS.size = 32 := by rw [hRS]; simp [macL_len]
      have HR1 : Hid (RS.all (·.oneCell') = true) := by show _ = _; rw [hRS]; exact B8_onea _
      have HRS : Hid ((32 : Nat) = RS.size) := hrs.symm
      obtain ⟨ZZ, hZZ⟩ : ∃ ZZ, ZZ = Z32 := ⟨_, rfl⟩
      have hd2 : ∀ s' W, 64 < s'.size → Calls Try.prog 15 #[.agg Z32, .string s', .int .u64 0] W fun e w' => e = .returned (.tuple #[.agg ZZ, .int .i64 2]) ∧ Below W.heap.size W w' := fun s' W h => by rw [hZZ]; exact derive_bad (List.replicate 32 0) s' 0 W (by simp) (.inr h)
      have hzs : ZZ.size = 32 := by rw [hZZ]; rfl
      have HZz1 : Hid (ZZ.all (·.oneCell') = true) := by show _ = _; rw [hZZ]; exact z32_one
      have HZZs : Hid ((32 : Nat) = ZZ.size) := hzs.symm
      have hk1 : ∀ W, Calls Try.prog 19 #[.agg Z32, .string ⟨#[97]⟩, .int .i64 256] W fun e w' => ∃ v, e = .returned (.tuple #[v, .int .i64 0]) ∧ OD (W.heap.size + 1) w' v 256 (keyCells (List.replicate 32 0) ⟨#[97]⟩ 256) ∧ Below W.heap.size W w' := fun W => keys_ok (List.replicate 32 0) ⟨#[97]⟩ 256 W (by simp) (by decide) (by decide) (by decide)
      have hk2 : ∀ W, Calls Try.prog 19 #[.agg Z32, .string ⟨#[97]⟩, .int .i64 0] W fun e w' => ∃ v, e = .returned (.tuple #[v, .int .i64 0]) ∧ OD (W.heap.size + 1) w' v 0 (keyCells (List.replicate 32 0) ⟨#[97]⟩ 0) ∧ Below W.heap.size W w' := fun W => keys_ok (List.replicate 32 0) ⟨#[97]⟩ 0 W (by simp) (by decide) (by decide) (by decide)
      clear hZA hLG hRS hZZ hmk
      generalize keyCells (List.replicate 32 0) ⟨#[97]⟩ 256 = KA at *
      generalize keyCells (List.replicate 32 0) ⟨#[97]⟩ 0 = KB at *
      go_wp2_with fail
      refine (hd1 _).mono ?_
      rintro e w1 ⟨rfl, b1⟩
      have c1 : Below w.heap.size w w1 := (hbel.alloc hs0 _).trans (b1.mono (by simp; omega))
      have hs1 := c1.size
      clear b1 hd1 hcv hbel
      go_wp2_with fail
      refine upon_store w1.heap.size RS Z32 24 (heap_alloc_new _ _) HRS.out HR1.out ?_
      intro wA HA hbA
      have cA : Below w.heap.size w wA := c1.trans ((((Below.refl w1.heap.size w1).alloc (Nat.le_refl _) _).trans hbA).mono hs1)
      clear hbA HA c1 hrs
      go_wp2_with fail
      refine (hd2 _ _ ?_).mono ?_
      · have h64 := HLS.out
        show 64 < (LG ++ (⟨#[120]⟩ : ByteArray)).size
        rw [ByteArray.size_append, h64]
        decide
      rintro e w2 ⟨rfl, b2⟩
      have c2 := cA.trans (b2.mono cA.size)
      have hs2 := c2.size
      clear b2 hd2 cA
      go_wp2_with fail
      refine upon_store w2.heap.size ZZ Z32 24 (heap_alloc_new _ _) HZZs.out HZz1.out ?_
      intro wB HBq hbB
      have cB : Below w.heap.size w wB := c2.trans ((((Below.refl w2.heap.size w2).alloc (Nat.le_refl _) _).trans hbB).mono hs2)
      clear hbB HBq c2 hzs
      go_wp2_with fail
      refine (hk1 _).mono ?_
      rintro e w3 ⟨v1, rfl, ho1, b3⟩
      obtain ⟨p1, q1, rfl⟩ := OD.form ho1
      have c3 := cB.trans (b3.mono cB.size)
      clear b3 hk1 cB ho1
      go_wp2_with fail
      refine (hk2 _).mono ?_
      rintro e w4 ⟨v2, rfl, ho2, b4⟩
      obtain ⟨p2, q2, rfl⟩ := OD.form ho2
      have c4 := c3.trans (b4.mono c3.size)
      clear b4 hk2 c3 ho2
      go_wp2_with fail
      refine (hnum _ _).mono ?_
      rintro e wy ⟨rfl, rfl⟩
      go_wp2_with fail
      refine (hnum _ _).mono ?_
      rintro e wy ⟨rfl, rfl⟩
      go_wp2_with fail
      refine (hnum _ _).mono ?_
      rintro e wy ⟨rfl, rfl⟩
      go_wp2_with fail
      refine (hnum _ _).mono ?_
      rintro e wy ⟨rfl, rfl⟩
      go_wp2_with fail
      refine (hkn _).mono ?_
      rintro e w5 ⟨rfl, b5⟩
      have c5 := c4.trans (b5.mono c4.size)
      clear b5 c4
      go_wp2
      go_ret
      exact ⟨rfl, c5⟩

set_option maxRecDepth 100000 in
theorem lifted (os : Os) (started : os.Started) (H : Type) (enc : TypeId × Value → H) :
    ReturnsInHanded {} Try.checked os 7 .any (Rows.macBoundsSpec.pre6 enc Try.prog Try.f7 Rows.macBoundsRow.domain false) (Rows.macBoundsSpec.post enc Try.prog Try.f7 false true false false) := by
  refine returnsInHanded_of_change (C := Try.checked) own started (by kernel_rfl) Try.func7
    (ChangeSpec.witness6 (enc := enc) (C := Try.checked) false ⟨#[], #[], []⟩ 8 (by kernel_rfl) (by kernel_rfl) (by kernel_rfl) (by kernel_rfl)) ?_
  intro W base args ds gs before hval0 hW hcnd _
  have hval : ∀ (j : Nat) t v, Try.f7.params[j]? = some t → args[j]? = some v → Value.okWide Try.prog W .any base t v := hval0
  have hW' := hW
  obtain ⟨p, q, hA0, hV, rfl, hfz, hnd⟩ := hW
  have hA : DataW.TrodAll enc Try.prog W 0 (fun _ => true) true Try.f7.params.toList args.toList ds p := hA0
  rw [Try.params7] at hA hval
  obtain ⟨hargs, rfl, rfl⟩ := trodAll_nil hA
  obtain rfl : args = #[] := by cases args; simp_all
  obtain ⟨rfl, rfl⟩ := trodVars_none hV
  clear hA0 hval0
  refine (walk  W ).mono fun e W' ⟨he, bel⟩ => ?_
  subst he
  exact ⟨_, rfl, _, _, _, [], _, [], hW', trodAll_mk1 (shut_bool Try.underlying4 _), trodAll_mk0, rfl, bel.frame _, fun h => by cases h⟩

theorem over : Rows.macBoundsRow.holds Try.pinned (OpenSpec.ofChange Rows.macBoundsSpec) :=
  OpenClaim.holds_of_wide 7 Try.f7 rfl rfl rfl rfl rfl rfl rfl ⟨rfl, rfl, rfl, rfl, rfl⟩ rfl rfl rfl rfl rfl (by kernel_rfl) Try.func7 (by kernel_rfl)
    (of_decide_eq_true (by kernel_rfl)) (by unfold Func.isWrapper; first | (rw [if_pos (by decide +kernel)]; kernel_rfl) | (rw [if_neg (by decide +kernel)]; exact ⟨rfl, rfl⟩))
    (fun os started H enc _ => lifted os started H enc)

end Go.Proofs.Ytojafgilpnnbiab.macBounds
namespace Go.Proofs.Ytojafgilpnnbiab
theorem macBounds_holds : Rows.MacBoundsSaid := macBounds.over
#print axioms macBounds_holds
end Go.Proofs.Ytojafgilpnnbiab
