/- tree: the program's At where it may be; what is refused. -/
import Derived.Test.YtnijjoankahddaaFN
set_option linter.unusedVariables false
set_option linter.unusedSimpArgs false
namespace Go.Proofs.Ytnijjoankahddaa.DC
open Go.RowKit

section
variable {w X Y : World} {og mb rg mm gb rm bb n : Nat} {i : Bool} {m : List UInt8} {D : List (List UInt8)} {L L' R R' : Lg} {rows rows' : Rws} {l1 l2 l' A : List UInt8}
theorem TM.play_no (h : TM w og mb rg i m D L R mm gb rm bb n l1 l2 rows X) (a : Nat) (ha : a < 18446744073709551616) (hw : witB n a = false) :
    Calls Try.prog 11 #[.pointer (some ⟨og, 0, none⟩), .pointer (some ⟨mm, 0, none⟩), .int .u64 (a : Int)] X fun e Y => e = .returned (R5.errV 2) ∧ TM w og mb rg i m D L R mm gb rm bb n l1 l2 rows Y :=
  (lay_no _ _ _ 2 X (by decide) (fun W hW => by have q := tf_any (h.there.step hW) a ha; rw [show tfC n a = 2 by unfold tfC; rw [hw]; rfl] at q; exact q)).mono fun e Y ⟨h1, h2⟩ => ⟨h1, h.step h2⟩
theorem TM.pat_no (h : TM w og mb rg i m D L R mm gb rm bb n l1 l2 rows X) (a : Nat) (ha : a < 18446744073709551616) (j : Int) (hw : j < 2 ∨ 255 < j ∨ witB n a = false) :
    Calls Try.prog 21 #[.pointer (some ⟨mm, 0, none⟩), .int .u64 (a : Int), .int .i64 j] X fun e Y => e = .returned (R5.errV 2) ∧ TM w og mb rg i m D L R mm gb rm bb n l1 l2 rows Y := by
  by_cases h1 : j < 2
  · exact (at_lo og mb mm n a j X h.there h1).mono fun e Y ⟨h1, h2⟩ => ⟨h1, h.step h2⟩
  · by_cases h2 : 255 < j
    · exact (at_hi og mb mm n a j X h.there h1 h2).mono fun e Y ⟨h1, h2⟩ => ⟨h1, h.step h2⟩
    · exact (at_wit og mb mm n a j X h.there ha h1 h2 (by rcases hw with hw | hw | hw; exact absurd hw h1; exact absurd hw h2; exact hw)).mono fun e Y ⟨h1, h2⟩ => ⟨h1, h.step h2⟩
set_option maxHeartbeats 2000000 in
set_option maxRecDepth 100000 in
theorem TM.pat (h : TM w og mb rg i m D L R mm gb rm bb n l1 l2 rows X) (a k : Nat) (hw : witB n a = true) (h2 : 2 ≤ k) (hk : k < 256) :
    Calls Try.prog 21 #[.pointer (some ⟨mm, 0, none⟩), .int .u64 (a : Int), .int .i64 (k : Int)] X fun e Y => e = .returned (R5.okV (nodeB l1 a k)) ∧ TM w og mb rg i m D L R mm gb rm bb n l1 l2 rows Y := by
  have hz := fun W => R5.zero_dig W
  obtain ⟨ZL, hZL⟩ : ∃ L, L = (List.replicate 32 (0 : UInt8)).map B8 := ⟨_, rfl⟩
  rw [← hZL] at hz
  have HZL : Hid (ZL.length = 32) := by show _ = _; rw [hZL]; simp
  have ha := witness_lt' h.le hw
  have HNO : Hid (∀ rws W, TM w og mb rg i m D L R mm gb rm bb n l1 l2 rws W → Calls Try.prog 39 #[.pointer (some ⟨mm, 0, none⟩)] W fun e w' => e = .returned (.bool false) ∧ w' = W) := fun rws W hW => hW.there.nom
  have HWI : Hid (∀ rws W, TM w og mb rg i m D L R mm gb rm bb n l1 l2 rws W → Calls Try.prog 22 #[.pointer (some ⟨mm, 0, none⟩), .int .u64 (a : Int)] W fun e w' => e = .returned (.bool true) ∧ w' = W) := fun rws W hW => by have q := hW.there.wit a ha; rw [hw] at q; exact q
  have HLI : Hid (∀ rws W, TM w og mb rg i m D L R mm gb rm bb n l1 l2 rws W → Calls Try.prog 40 #[.pointer (some ⟨mm, 0, none⟩), .int .u64 (a : Int), .int .i64 (k : Int)] W fun e Y => e = .returned (.agg ((nodeB l1 a k).map B8).toArray) ∧ TM w og mb rg i m D L R mm gb rm bb n l1 l2 rws Y) := fun rws W hW => hW.lies a k hw hk
  have hok : R5.okV (nodeB l1 a k) = .tuple #[.agg ((nodeB l1 a k).map B8).toArray, .int .i64 0] := rfl
  rw [hok]
  have HAL : Hid (((nodeB l1 a k).map B8).length = 32) := by show _ = _; rw [List.length_map]; exact nodeB_len h.len1 hw hk
  have HA1 : Hid _ := R5.B8_onea (nodeB l1 a k)
  generalize (nodeB l1 a k).map B8 = AL at *
  have hk1 : ¬ (k : Int) < 2 := by omega
  have hk2 : ¬ (255 : Int) < (k : Int) := by omega
  have HT0 : Hid _ := h.alloc X.heap.size rfl 23 ZL
  clear hZL ha hok h hw h2 hk
  go_enter Try.func21, Try.ntmps21
  go_upto_region 1 with fail
  generalize hb6 : X.heap.size = b6 at *
  clear hb6
  generalize World.alloc _ _ = X0 at *
  go_wp2_with fail
  refine Calls.mono (HNO.out _ _ HT0.out) ?_
  rintro e X1 ⟨rfl, hy⟩
  rw [hy]
  clear hy X1 HNO
  go_wp2_with fail
  refine Calls.mono (HWI.out _ _ HT0.out) ?_
  rintro e X1 ⟨rfl, hy⟩
  rw [hy]
  clear hy X1 HWI
  go_wp2_with fail
  refine Calls.mono (HLI.out _ _ HT0.out) ?_
  rintro e X2 ⟨rfl, hT2⟩
  have HT2 : Hid _ := hT2
  clear hT2 HT0 HLI
  go_wp2_with (refine wpList_store_dL rfl (.tmp 6) (.tmp 27) rfl b6 AL ZL rfl rfl (HT2.out.at 0 rfl) HAL.out HZL.out HA1.out ?_; intro X9 e9; subst e9)
  refine bodyPost_ret (v := .tuple #[.agg AL.toArray, .int .i64 0]) ?_ rfl ⟨rfl, (HT2.out.put' 0 rfl AL).drop⟩
  exact R5.results_dig2 Try.results21 _ _ b6 23 _ (0, 0) _ rfl rfl (setRow_heap _ _ _ _ _ _ (HT2.out.at 0 rfl)) (infoDa AL HAL.out)
theorem TM.pwit (h : TM w og mb rg i m D L R mm gb rm bb n l1 l2 rows X) (a : Nat) (ha : a < 18446744073709551616) : Calls Try.prog 22 #[.pointer (some ⟨mm, 0, none⟩), .int .u64 (a : Int)] X fun e w' => e = .returned (.bool (witB n a)) ∧ w' = X := h.there.wit a ha
end
end Go.Proofs.Ytnijjoankahddaa.DC
