/- TreeWays: for any page the statement's function answers true. No condition. -/
import Derived.Test.YtnijjoankahddaaDG
import Derived.Test.YtnijjoankahddaaRows
import Derived.WalkKit
import Derived.ChangeOld
import Derived.ProofKit
import Derived.OpenShut
import Derived.Carry
set_option linter.unusedVariables false
set_option linter.unusedSimpArgs false
namespace Go.Proofs.Ytnijjoankahddaa.treeWays
open Go.ChangeShapes Go.WideShapes Go.ChangeAt Go.RowKit Go.Proofs.Ytnijjoankahddaa.DC
theorem own : ownKnob Try.prog.godebug = none := by kernel_rfl
theorem laidOut : laidOutB Try.prog = true := by kernel_rfl
theorem fi_form {base : Nat} {w : World} {v : Value} {ls : List Int} (h : FI base w v ls) (hne : 0 < ls.length) : ∃ g cap, v = .slice (some ⟨g, 0, none⟩) ls.length cap ∧ ∀ (i : Nat) x, ls[i]? = some x → w.cell? ⟨g, i, none⟩ = some (.int .i64 x) := by
  rcases h.2 with ⟨h1, h2⟩ | ⟨g, cap, cur, h1, h2, h3, h4, h5, h6⟩
  · omega
  · refine ⟨g, cap, h1, fun i a ha => ?_⟩
    have hi := (List.getElem?_eq_some_iff.1 ha).1
    subst h1
    rw [World.ownsRow.cellAt h i (by omega), List.getElem?_map, ha]; rfl
theorem way_at (p k : Nat) (hk : k < 8) : (wayL p)[k]? = some (((128 + p) / 2 ^ k : Nat) : Int) := by unfold wayL; rw [List.getElem?_map, List.getElem?_range hk]; rfl
theorem bes_at (p k : Nat) (hk : k < 7) : (besL p)[k]? = some (bes ((128 + p) / 2 ^ k) : Int) := by unfold besL; rw [List.getElem?_map, List.getElem?_range hk]; rfl
theorem bes_two (x : Nat) : bes x / 2 = x / 2 ∧ x + bes x = 4 * (x / 2) + 1 := by unfold bes; split <;> omega
theorem fx (p k : Nat) (hp : p < 128) (hk : k < 7) : ∃ x y z s q : Int, (wayL p)[k]? = some x ∧ (wayL p)[k + 1]? = some y ∧ (besL p)[k]? = some z ∧ x.tdiv 2 = y ∧ z.tdiv 2 = y ∧ IntKind.i64.wrap y = y ∧ IntKind.i64.wrap (x + z) = s ∧ IntKind.i64.wrap (4 * y) = q ∧ IntKind.i64.wrap (q + 1) = s := by
  have hb := way_bd p k hp
  have e1 : (128 + p) / 2 ^ (k + 1) = (128 + p) / 2 ^ k / 2 := by rw [Nat.pow_succ, Nat.div_div_eq_div_mul]
  have a1 := way_at p k (by omega)
  have a2 := way_at p (k + 1) (by omega)
  have a3 := bes_at p k hk
  rw [e1] at a2
  generalize (128 + p) / 2 ^ k = x at *
  obtain ⟨b1, b2⟩ := bes_two x
  refine ⟨_, _, _, ((x + bes x : Nat) : Int), ((4 * (x / 2) : Nat) : Int), a1, a2, a3, ?_, ?_, ?_, ?_, ?_, ?_⟩
  · rfl
  · rw [← b1]; rfl
  · rw [IntKind.wrap_i64]; omega
  · rw [IntKind.wrap_i64]; omega
  · rw [IntKind.wrap_i64]; omega
  · rw [IntKind.wrap_i64]; omega
set_option maxHeartbeats 2000000 in
set_option maxRecDepth 100000 in
theorem walk_bad (pg : Int) (w : World) (hp : mayP pg = false) : Calls Try.prog 5 #[.int .i64 pg] w fun e w' => e = .returned (.bool true) ∧ Below w.heap.size w w' := by
  have HK : Hid (∀ W, Calls Try.prog 6 #[] W fun e w' => e = .returned (.bool true) ∧ Below W.heap.size W w') := known_any
  have HNM : Hid (∀ n W, Calls Try.prog 13 #[.int .i64 n] W fun x w' => x = .returned (.int .i64 n) ∧ W = w') := num_any
  have HW : Hid (∀ W, Calls Try.prog 23 #[.int .i64 pg] W fun e w' => e = .returned (.tuple #[.slice none 0 0, .int .i64 2]) ∧ w' = W) := fun W => way_bad pg hp W
  have HBS : Hid (∀ W, Calls Try.prog 24 #[.int .i64 pg] W fun e w' => e = .returned (.tuple #[.slice none 0 0, .int .i64 2]) ∧ w' = W) := fun W => beside_bad pg hp W
  have HP : Hid (∀ W, Calls Try.prog 8 #[.int .i64 pg] W fun e w' => e = .returned (.bool false) ∧ w' = W) := fun W => by have q := mayPage_any pg W; rw [hp] at q; exact q
  clear hp
  go_enter Try.func5, Try.ntmps5
  go_wp2_with fail
  refine Calls.mono (HW.out w) ?_
  rintro e W1 ⟨rfl, rfl⟩
  go_wp2_with fail
  refine Calls.mono (HBS.out _) ?_
  rintro e W2 ⟨rfl, rfl⟩
  go_wp2_with fail
  refine Calls.mono (HP.out _) ?_
  rintro e W3 ⟨rfl, rfl⟩
  go_wp2_with fail
  refine Calls.mono (HNM.out 2 _) ?_
  rintro e W4 ⟨rfl, rfl⟩
  go_wp2_with fail
  refine Calls.mono (HNM.out 2 _) ?_
  rintro e W5 ⟨rfl, rfl⟩
  go_wp2_with fail
  refine Calls.mono (HK.out _) ?_
  rintro e W6 ⟨rfl, hb⟩
  have HB : Hid _ := hb
  clear hb
  go_wp2
  go_ret
  exact ⟨rfl, HB.out⟩
set_option maxHeartbeats 2000000 in
set_option maxRecDepth 100000 in
theorem walk_ok (p : Nat) (w : World) (hp : p < 128) : Calls Try.prog 5 #[.int .i64 (p : Int)] w fun e w' => e = .returned (.bool true) ∧ Below w.heap.size w w' := by
  have HK : Hid (∀ W, Calls Try.prog 6 #[] W fun e w' => e = .returned (.bool true) ∧ Below W.heap.size W w') := known_any
  have HNM : Hid (∀ n W, Calls Try.prog 13 #[.int .i64 n] W fun x w' => x = .returned (.int .i64 n) ∧ W = w') := num_any
  have HW : Hid (Calls Try.prog 23 #[.int .i64 (p : Int)] w fun e w' => LEnd w (wayL p) e w') := way_ok p hp w
  have HBS : Hid (∀ W, Calls Try.prog 24 #[.int .i64 (p : Int)] W fun e w' => LEnd W (besL p) e w') := fun W => beside_ok p hp W
  have HP : Hid (∀ W, Calls Try.prog 8 #[.int .i64 (p : Int)] W fun e w' => e = .returned (.bool true) ∧ w' = W) := fun W => by have q := mayPage_any (p : Int) W; rw [show mayP (p : Int) = true from decide_eq_true (by omega)] at q; exact q
  have HLW : Hid ((wayL p).length = 8) := by simp [wayL, Hid]
  have HLB : Hid ((besL p).length = 7) := by simp [besL, Hid]
  have HW7 : Hid ((((128 + p) / 2 ^ 7 : Nat) : Int) = 1) := by
    have h7 : (128 + p) / 2 ^ 7 = 1 := by omega
    show _ = _
    rw [h7]; rfl
  have HFX : Hid (∀ k, k < 7 → ∃ x y z s q : Int, (wayL p)[k]? = some x ∧ (wayL p)[k + 1]? = some y ∧ (besL p)[k]? = some z ∧ x.tdiv 2 = y ∧ z.tdiv 2 = y ∧ IntKind.i64.wrap y = y ∧ IntKind.i64.wrap (x + z) = s ∧ IntKind.i64.wrap (4 * y) = q ∧ IntKind.i64.wrap (q + 1) = s) := fun k hk => fx p k hp hk
  have hwp : IntKind.i64.wrap (128 + (p : Int)) = ((128 + p : Nat) : Int) := by rw [IntKind.wrap_i64]; omega
  have HA0 : Hid ((wayL p)[0]? = some ((128 + p : Nat) : Int)) := by show _ = _; have q := way_at p 0 (by decide); rw [show (128 + p) / 2 ^ 0 = 128 + p by simp] at q; exact q
  have HA7 : Hid ((wayL p)[7]? = some 1) := by have q := way_at p 7 (by decide); rw [HW7.out] at q; exact q
  clear HW7
  generalize ((128 + p : Nat) : Int) = L0 at *
  generalize wayL p = WL at *
  generalize besL p = BL at *
  go_enter Try.func5, Try.ntmps5
  go_wp2_with fail
  refine Calls.mono HW.out ?_
  rintro e X1 ⟨v1, rfl, hf1, hb1⟩
  obtain ⟨g1, c1, rfl, hc1⟩ := fi_form hf1 (by rw [HLW.out]; decide)
  have HB1 : Hid (Below w.heap.size w X1) := hb1
  have HC1 : Hid (∀ (i : Nat) x, WL[i]? = some x → X1.cell? ⟨g1, i, none⟩ = some (.int .i64 x)) := hc1
  rw [HLW.out]
  clear hf1 hb1 hc1 HW
  go_wp2_with fail
  refine Calls.mono (HBS.out X1) ?_
  rintro e X2 ⟨v2, rfl, hf2, hb2⟩
  obtain ⟨g2, c2, rfl, hc2⟩ := fi_form hf2 (by rw [HLB.out]; decide)
  have HB2 : Hid (Below w.heap.size w X2) := HB1.out.trans (hb2.mono HB1.out.size)
  have HC2 : Hid (∀ (i : Nat) x, BL[i]? = some x → X2.cell? ⟨g2, i, none⟩ = some (.int .i64 x)) := hc2
  have HC3 : Hid (∀ (i : Nat) x, WL[i]? = some x → X2.cell? ⟨g1, i, none⟩ = some (.int .i64 x)) := fun i x hx => (hb2.cell (block_lt (HC1.out i x hx))).trans (HC1.out i x hx)
  rw [HLB.out]
  clear hf2 hb2 hc2 HB1 HC1 HBS
  go_wp2_with fail
  refine Calls.mono (HP.out X2) ?_
  rintro e W3 ⟨rfl, rfl⟩
  have hc0 := HC3.out 0 _ HA0.out
  have hc7 := HC3.out 7 _ HA7.out
  go_wp2_with fail
  refine Calls.mono (HNM.out 0 _) ?_
  rintro e W4 ⟨rfl, rfl⟩
  go_wp2_with fail
  refine Calls.mono (HNM.out 0 _) ?_
  rintro e W5 ⟨rfl, rfl⟩
  clear hc0 hc7
  go_wp2
  go_loopw [7] (fun i wr => ∃ k : Nat, k ≤ 7 ∧ i = .int .i64 k ∧ Below W3.heap.size W3 wr) (fun i _ => 7 - (intOf i).toNat)
  case atStart => exact ⟨0, by omega, rfl, Below.refl _ _⟩
  case round =>
    obtain ⟨k, hk, rfl, hB⟩ := hrel
    have HB : Hid _ := hB
    by_cases hlt : k < 7
    · obtain ⟨x, y, z, s, q, h1, h2, h3, f1, f2, f3, f4, f5, f6⟩ := HFX.out k hlt
      have d1 := HC3.out k x h1
      have d2 := HC3.out (k + 1) y h2
      have d3 := HC2.out k z h3
      replace d1 := (hB.cell (block_lt d1)).trans d1
      replace d2 := (hB.cell (block_lt d2)).trans d2
      replace d3 := (hB.cell (block_lt d3)).trans d3
      have hkI : (k : Int) < 7 := by omega
      have hk8 : k + 1 < 8 := by omega
      clear h1 h2 h3 hB
      go_wp2
      go_quiet (fail)
      go_wp2
      go_roundw
      case rel => exact ⟨k + 1, by omega, by go_num, HB.out.trans ⟨rfl, rfl, rfl, Nat.le_refl _, fun _ _ => rfl⟩⟩
      case measure => simp [intOf]; omega
    · have hkI : ¬ ((k : Int) < 7) := by omega
      clear hB
      go_wp2_with fail
      refine Calls.mono (HK.out wr) ?_
      rintro e W6 ⟨rfl, hb⟩
      have HE : Hid (Below w.heap.size w W6) := HB2.out.trans ((HB.out.trans (hb.mono HB.out.size)).mono HB2.out.size)
      clear hb
      go_wp2
      go_ret
      exact ⟨rfl, HE.out⟩
theorem walk (pg : Int) (w : World) {F : Prop} (hf : F) : Calls Try.prog 5 #[.int .i64 pg] w fun e w' => e = .returned (.bool true) ∧ Below w.heap.size w w' := by
  cases h : mayP pg with
  | false => exact walk_bad pg w h
  | true =>
    obtain ⟨p, rfl, hp⟩ := mayP_nat h
    exact walk_ok p w hp
set_option maxRecDepth 100000 in
theorem lifted (os : Os) (started : os.Started) (H : Type) (enc : TypeId × Value → H) :
    ReturnsInHanded {} Try.checked os 5 .any (Rows.treeWaysSpec.pre6 enc Try.prog Try.f5 Rows.treeWaysRow.domain false) (Rows.treeWaysSpec.post enc Try.prog Try.f5 false true false false) := by
  refine returnsInHanded_of_change (C := Try.checked) own started (by kernel_rfl) Try.func5
    (ChangeSpec.witness6 (enc := enc) (C := Try.checked) false ⟨#[], #[.int .i64 0], []⟩ 8 (by kernel_rfl) (by kernel_rfl) (by kernel_rfl) (by kernel_rfl)) ?_
  intro W base args ds gs before hval0 hW hcnd _
  have hval : ∀ (j : Nat) t v, Try.f5.params[j]? = some t → args[j]? = some v → Value.okWide Try.prog W .any base t v := hval0
  have hW' := hW
  obtain ⟨p, q, hA0, hV, rfl, hfz, hnd⟩ := hW
  have hA : DataW.TrodAll enc Try.prog W 0 (fun _ => true) true Try.f5.params.toList args.toList ds p := hA0
  rw [Try.params5] at hA hval
  obtain ⟨v0, vs0, d0, ds0, p0, q0, hargs, rfl, rfl, h0, r0⟩ := trodAll_cons hA
  obtain ⟨rfl, rfl, rfl⟩ := trodAll_nil r0
  obtain rfl : args = #[v0] := by cases args; simp_all
  obtain ⟨rfl, rfl⟩ := trodVars_none hV
  obtain ⟨n0, rfl, rfl, rfl, w0⟩ := open_int Try.underlying3 (hval 0 3 v0 rfl rfl) h0
  clear hA0 hval0
  refine (walk n0 W w0).mono fun e W' ⟨he, bel⟩ => ?_
  subst he
  exact ⟨_, rfl, _, _, _, [], _, [], hW', trodAll_mk1 (shut_bool Try.underlying4 _), (trodAll_cons_mk (shut_int Try.underlying3 w0) trodAll_mk0), rfl, bel.frame _, fun h => by cases h⟩

theorem over : Rows.treeWaysRow.holds Try.pinned (OpenSpec.ofChange Rows.treeWaysSpec) :=
  OpenClaim.holds_of_wide 5 Try.f5 rfl rfl rfl rfl rfl rfl rfl ⟨rfl, rfl, rfl, rfl, rfl⟩ rfl rfl rfl rfl rfl (by kernel_rfl) Try.func5 (by kernel_rfl)
    (of_decide_eq_true (by kernel_rfl)) (by unfold Func.isWrapper; first | (rw [if_pos (by decide +kernel)]; kernel_rfl) | (rw [if_neg (by decide +kernel)]; exact ⟨rfl, rfl⟩))
    (fun os started H enc _ => lifted os started H enc)

end Go.Proofs.Ytnijjoankahddaa.treeWays
namespace Go.Proofs.Ytnijjoankahddaa
theorem treeWays_holds : Rows.TreeWaysSaid := treeWays.over
#print axioms treeWays_holds
end Go.Proofs.Ytnijjoankahddaa
