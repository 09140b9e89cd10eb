/- AesBounds: the statement's function answers true. No condition. -/
import Derived.Test.YtjohckgdbbhpdaaT7
import Derived.Test.YtjohckgdbbhpdaaRows
import Derived.WalkKit
import Derived.ProofKit
import Derived.OpenShut
import Derived.Carry
set_option linter.unusedVariables false
set_option linter.unusedSimpArgs false
namespace Go.Proofs.Ytjohckgdbbhpdaa
open Go.RowKit

theorem info8 (RS : Array Value) (h : RS.size = 8) : (Try.prog.info? 35).map (·.size) = some RS.size := by rw [h]; kernel_rfl
set_option maxHeartbeats 2000000 in
set_option maxRecDepth 100000 in
theorem pmask_bad (KA NA : Array Value) (p : Option Addr) (len cap : Nat) (w : World) (hk : KA.size = 16) (hn : NA.size = 8) (h : 1048576 < len) (hl : len ≤ 9223372036854775807) :
    Calls Try.prog 29 #[.agg KA, .agg NA, .slice p len cap] w fun e w' => e = .returned (.tuple #[.slice none 0 0, .int .i64 2]) ∧ Below w.heap.size w w' := by
  have hst := fun W => pstream_bad KA NA (len : Int) W (.inr (by omega))
  have HKI : Hid _ := info16 KA hk
  have HNI : Hid _ := info8 NA hn
  have HB0 : Hid (Below w.heap.size w ((w.alloc (.cells KA 26 (0, 0))).alloc (.cells NA 35 (0, 0)))) := ((Below.refl _ _).alloc (Nat.le_refl _) _).alloc (by simp) _
  clear hk hn
  go_enter Try.func29, Try.ntmps29
  go_wp2_with (first
    | (refine wpList_load_row rfl 26 _ rfl w.heap.size rfl 26 KA (0, 0) _ (alloc2_first _ _ _) Try.underlying26 rfl HKI.out ?_)
    | (refine wpList_load_row rfl 35 _ rfl (w.heap.size + 1) rfl 35 NA (0, 0) _ (heap_at _ _ _ (by simp)) Try.underlying35 rfl HNI.out ?_))
  refine (hst _).mono ?_
  rintro e w1 ⟨rfl, hb1⟩
  have HB1 : Hid (Below w.heap.size w w1) := HB0.out.trans (hb1.mono (by first | (simp; done) | (simp; omega)))
  clear hb1 hst
  go_wp2
  go_ret2
  exact ⟨rfl, HB1.out⟩

end Go.Proofs.Ytjohckgdbbhpdaa
namespace Go.Proofs.Ytjohckgdbbhpdaa.aesBounds
open Go.ChangeShapes Go.WideShapes Go.ChangeAt Go.RowKit

theorem own : ownKnob Try.prog.godebug = none := by kernel_rfl
theorem laidOut : laidOutB Try.prog = true := by kernel_rfl


set_option maxHeartbeats 2000000 in
set_option maxRecDepth 100000 in
theorem walk (w : World) : Calls Try.prog 7 #[] w fun e w' => e = .returned (.bool true) ∧ Below w.heap.size w w' := by
  have kn := fun W => known_any W
  have hs := fun a W => psub_any a W
  have hsr := fun a W => sub_any a W
  simp only [sbA_sbP] at hsr
  have hun : ∀ a W, Calls Try.prog 15 #[.int .u8 ((sbP a).toNat : Int)] W fun e w' => e = .returned (.int .u8 (a.toNat : Int)) ∧ Below W.heap.size W w' := fun a W => by
    have := punsub_any (sbP a) W
    rw [uvP_sbP] at this
    exact this
  have hiv := fun a W => pinverse_any a W
  have htm : ∀ a W, a ≠ 0 → Calls Try.prog 9 #[.int .u8 (a.toNat : Int), .int .u8 ((ivP a).toNat : Int)] W fun e w' => e = .returned (.int .u8 1) ∧ W = w' := fun a W ha => by
    have := ptimes_any a (ivP a) W
    rw [ivP_times a ha] at this
    exact this
  have hi0 := fun W => pinverse_any 0 W
  rw [ivP_zero, show (((0 : UInt8).toNat : Nat) : Int) = 0 from rfl] at hi0
  have hnum := fun n W => num_any n W
  have hsb := fun KA NA W => pstream_bad KA NA 1048577 W (.inr (by omega))
  have hmb := fun KA NA p W hk hn => pmask_bad KA NA p 1048577 1048577 W hk hn (by omega) (by omega)
  go_enter Try.func7, Try.ntmps7
  go_wp2
  go_loopw [1] (fun i wr => ∃ k : Nat, k ≤ 256 ∧ i = .int .i64 k ∧ Below w.heap.size w wr) (fun i _ => 256 - (intOf i).toNat)
  case atStart => exact ⟨0, by omega, rfl, Below.refl _ _⟩
  case round =>
    obtain ⟨k, hk, rfl, hb⟩ := hrel
    by_cases hlt : k < 256
    · have hkI : (k : Int) < 256 := by omega
      obtain ⟨a, ha⟩ : ∃ a, a = UInt8.ofNat k := ⟨_, rfl⟩
      have hak : a.toNat = k := by rw [ha]; show k % 256 = k; omega
      have h1 := hs a wr
      have h2 := hsr a wr
      have h3 := hun a wr
      have h4 := hiv a
      have h5 := htm a
      rw [hak] at h1 h2 h3 h4 h5
      generalize sbP a = sa at *
      generalize ivP a = ia at *
      have q2 : (k : Int) % 256 = (k : Int) := by omega
      clear ha hs hsr hun hiv htm hi0 hsb hmb hnum kn
      by_cases h0 : k = 0
      · subst h0
        rw [show ((0 : Nat) : Int) = 0 from rfl] at h1 h2 h3
        clear h5 hak q2 hkI hlt hk
        go_wp2_with fail
        refine h1.mono ?_
        rintro e wx ⟨rfl, rfl⟩
        go_wp2_with fail
        refine h2.mono ?_
        rintro e wx ⟨rfl, rfl⟩
        go_wp2_with fail
        refine h1.mono ?_
        rintro e wx ⟨rfl, rfl⟩
        go_wp2_with fail
        refine h3.mono ?_
        rintro e w2 ⟨rfl, hb2⟩
        have HB2 : Hid (Below w.heap.size w w2) := hb.trans (hb2.mono hb.size)
        clear hb2 h3 h1 h2 h4
        go_wp2
        go_roundw
        case rel => exact ⟨1, by omega, by go_num, HB2.out⟩
        case measure => simp [intOf]
      · have hk0 : (0 : Int) < (k : Int) := by omega
        have ha0 : a ≠ 0 := fun e => h0 (by rw [← hak, e]; rfl)
        have h5' := fun W => h5 W ha0
        clear h5 h0 ha0 hak
        go_wp2_with fail
        refine h1.mono ?_
        rintro e wx ⟨rfl, rfl⟩
        go_wp2_with fail
        refine h2.mono ?_
        rintro e wx ⟨rfl, rfl⟩
        go_wp2_with fail
        refine h1.mono ?_
        rintro e wx ⟨rfl, rfl⟩
        go_wp2_with fail
        refine h3.mono ?_
        rintro e w2 ⟨rfl, hb2⟩
        have HB2 : Hid (Below w.heap.size w w2) := hb.trans (hb2.mono hb.size)
        clear hb2 h3 h1 h2
        go_wp2_with fail
        refine (h4 _).mono ?_
        rintro e wx ⟨rfl, rfl⟩
        go_wp2_with fail
        refine (h5' _).mono ?_
        rintro e wx ⟨rfl, rfl⟩
        clear h4 h5'
        go_wp2
        go_roundw
        case rel => exact ⟨k + 1, by omega, by go_num, HB2.out⟩
        case measure => simp [intOf]; omega
    · have hkI : ¬ (k : Int) < 256 := by omega
      have hsz := hb.size
      have HB : Hid _ := hb
      obtain ⟨i0, hi, hz0, hz1, hz2⟩ := info_parts Try.infoU8
      clear hs hsr hun hiv htm hb
      go_wp2_with fail
      refine (hsb _ _ _).mono ?_
      rintro e w1 ⟨rfl, hb1⟩
      have HB1 : Hid (Below w.heap.size w w1) := HB.out.trans (hb1.mono hsz)
      have hsz1 : w.heap.size ≤ w1.heap.size := Nat.le_trans hsz hb1.size
      clear hb1 HB hsb
      go_wp2_with (at_make; refine wpList_make_full _ rfl _ _ 36 rfl w.heap.size 5 i0 (.int .u8 0) 1 Try.underlying36 hi hz0 hz1 _ _ _ _ 1048577 rfl rfl (by omega) (by omega) ?b2 ?b3 hsz1 ?_)
      case b2 => rw [hz2]; omega
      case b3 => unfold maxLen; omega
      intro w2 hown hgrow
      have HB2 : Hid (Below w.heap.size w w2) := HB1.out.grown hgrow hsz1 (fun k h => by cases h)
      have hsz2 := HB2.out.size
      clear hown hgrow HB1
      go_wp2_with fail
      refine (hmb _ _ _ _ rfl rfl).mono ?_
      rintro e w3 ⟨rfl, hb3⟩
      have HB3 : Hid (Below w.heap.size w w3) := HB2.out.trans (hb3.mono hsz2)
      have hsz3 : w.heap.size ≤ w3.heap.size := Nat.le_trans hsz2 hb3.size
      clear hb3 HB2 hmb
      go_wp2_with fail
      refine (hnum _ _).mono ?_
      rintro e wx ⟨rfl, rfl⟩
      go_wp2_with fail
      refine (hnum _ _).mono ?_
      rintro e wx ⟨rfl, rfl⟩
      go_wp2_with fail
      refine (hi0 _).mono ?_
      rintro e wx ⟨rfl, rfl⟩
      go_wp2_with fail
      refine (kn _).mono ?_
      rintro e w4 ⟨rfl, hb4⟩
      have HB4 : Hid (Below w.heap.size w w4) := HB3.out.trans (hb4.mono hsz3)
      clear hb4 HB3 kn hi0 hnum
      go_wp2
      go_ret
      exact ⟨rfl, HB4.out⟩

set_option maxRecDepth 100000 in
theorem lifted (os : Os) (started : os.Started) (H : Type) (enc : TypeId × Value → H) :
    ReturnsInHanded {} Try.checked os 7 .any (Rows.aesBoundsSpec.pre6 enc Try.prog Try.f7 Rows.aesBoundsRow.domain false) (Rows.aesBoundsSpec.post enc Try.prog Try.f7 false true false false) := by
  refine returnsInHanded_of_change (C := Try.checked) own started (by kernel_rfl) Try.func7
    (ChangeSpec.witness6 (enc := enc) (C := Try.checked) false ⟨#[], #[], []⟩ 8 (by kernel_rfl) (by kernel_rfl) (by kernel_rfl) (by kernel_rfl)) ?_
  intro W base args ds gs before hval0 hW hcnd _
  have hval : ∀ (j : Nat) t v, Try.f7.params[j]? = some t → args[j]? = some v → Value.okWide Try.prog W .any base t v := hval0
  have hW' := hW
  obtain ⟨p, q, hA0, hV, rfl, hfz, hnd⟩ := hW
  have hA : DataW.TrodAll enc Try.prog W 0 (fun _ => true) true Try.f7.params.toList args.toList ds p := hA0
  rw [Try.params7] at hA hval
  obtain ⟨hargs, rfl, rfl⟩ := trodAll_nil hA
  obtain rfl : args = #[] := by cases args; simp_all
  obtain ⟨rfl, rfl⟩ := trodVars_none hV
  clear hA0 hval0
  refine (walk  W ).mono fun e W' ⟨he, bel⟩ => ?_
  subst he
  exact ⟨_, rfl, _, _, _, [], _, [], hW', trodAll_mk1 (shut_bool Try.underlying4 _), trodAll_mk0, rfl, bel.frame _, fun h => by cases h⟩

theorem over : Rows.aesBoundsRow.holds Try.pinned (OpenSpec.ofChange Rows.aesBoundsSpec) :=
  OpenClaim.holds_of_wide 7 Try.f7 rfl rfl rfl rfl rfl rfl rfl ⟨rfl, rfl, rfl, rfl, rfl⟩ rfl rfl rfl rfl rfl (by kernel_rfl) Try.func7 (by kernel_rfl)
    (of_decide_eq_true (by kernel_rfl)) (by unfold Func.isWrapper; first | (rw [if_pos (by decide +kernel)]; kernel_rfl) | (rw [if_neg (by decide +kernel)]; exact ⟨rfl, rfl⟩))
    (fun os started H enc _ => lifted os started H enc)

end Go.Proofs.Ytjohckgdbbhpdaa.aesBounds
namespace Go.Proofs.Ytjohckgdbbhpdaa
theorem aesBounds_holds : Rows.AesBoundsSaid := aesBounds.over
#print axioms aesBounds_holds
end Go.Proofs.Ytjohckgdbbhpdaa
