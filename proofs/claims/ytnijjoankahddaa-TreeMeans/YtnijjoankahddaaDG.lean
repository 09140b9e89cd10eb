/- tree: what the statements know. -/
import Derived.Test.YtnijjoankahddaaDF
set_option linter.unusedVariables false
set_option linter.unusedSimpArgs false
namespace Go.Proofs.Ytnijjoankahddaa.DC
open Go.RowKit

theorem hi_row {w : World} {b : Nat} {t : TypeId} {fr : Nat × Nat} (ls : List Int) (n cap : Nat) (hn : n = ls.length) (h : w.heap[b]? = some (.cells (ls.map I64).toArray t fr)) : HI w (.slice (some ⟨b, 0, none⟩) n cap) ls := by
  subst hn
  refine ⟨_, cap, rfl, fun i x hx => ⟨b, 0, rfl, ?_⟩⟩
  rw [Nat.zero_add, cell_of_row _ _ i _ _ _ h]
  simp [hx, I64]
theorem wayL_0 : wayL 0 = [128, 64, 32, 16, 8, 4, 2, 1] := by decide +kernel
theorem besL_5 : besL 5 = [132, 67, 32, 17, 9, 5, 3] := by decide +kernel
def Z32 : List UInt8 := List.replicate 32 0
theorem hds_nil (w : World) : R5.HDs w (.slice none 0 0) [] := ⟨fun d hd => (List.not_mem_nil hd).elim, none, 0, rfl, fun i hi => by simp at hi⟩
theorem There.of {w X : World} {og mb mm gb n : Nat} {B : Nat} {S : Nat → Prop} {o : R5.Pra} {dv ov : Value} {l : List UInt8} (hp : R5.PO B og mb S w o dv ov) (hb : Below w.heap.size w X) (hm : MC.PM X mm gb n l) (hn : 1 ≤ n) (hn2 : n ≤ 4096) : There og mb mm n X :=
  ⟨(hb.cell (block_lt hp.cells.2.2.2.1)).trans hp.cells.2.2.2.1, ⟨_, _, hm.cell⟩, hn2, hn⟩
set_option maxHeartbeats 2000000 in
set_option maxRecDepth 100000 in
theorem known_any (w : World) : Calls Try.prog 6 #[] w fun e w' => e = .returned (.bool true) ∧ Below w.heap.size w w' := by
  have HW : Hid (Calls Try.prog 23 #[.int .i64 0] w fun e w' => LEnd w [128, 64, 32, 16, 8, 4, 2, 1] e w') := by have q := way_ok 0 (by decide) w; rw [wayL_0] at q; exact q
  have HB5 : Hid (∀ W, Calls Try.prog 24 #[.int .i64 5] W fun e w' => LEnd W [132, 67, 32, 17, 9, 5, 3] e w') := fun W => by have q := beside_ok 5 (by decide) W; rw [besL_5] at q; exact q
  have HNM : Hid (∀ n W, Calls Try.prog 13 #[.int .i64 n] W fun x w' => x = .returned (.int .i64 n) ∧ W = w') := num_any
  have HSM : Hid (∀ v1 v2 (ls : List Int) W, ls.length ≤ 100 → HI W v1 ls → HI W v2 ls → Calls Try.prog 25 #[v1, v2] W fun e w' => e = .returned (.bool true) ∧ Below W.heap.size W w') := same_eq
  have hz := fun W => R5.zero_dig W
  obtain ⟨ZL, hZL⟩ : ∃ L, L = (List.replicate 32 (0 : UInt8)).map B8 := ⟨_, rfl⟩
  rw [← hZL] at hz
  have HZS : Hid (ZL.toArray.size = 32) := by show _ = _; rw [hZL]; simp
  have HZ1 : Hid (ZL.toArray.all (·.oneCell') = true) := by show _ = _; rw [hZL]; exact R5.B8_onea _
  have HBD : Hid (∀ W : World, (Instr.build 23 #[]).run Try.prog W = .ok (.agg ZL.toArray) W) := fun W => by rw [hZL]; exact R5.build_dig W
  have HEV : Hid (∀ c, R5.errV c = .tuple #[.agg ZL.toArray, .int .i64 c]) := fun c => by rw [hZL]; rfl
  have HNW : Hid (∀ W, Calls Try.prog 17 #[.bool true, .agg ZL.toArray, .slice none 0 0] W fun e w' => R5.PNew W true Z32 [] e w') := fun W => by rw [hZL]; exact R5.pnew_any true Z32 none 0 0 [] W (by simp [Z32]) (fun _ => rfl) (by simp) (hds_nil W)
  have HMN : Hid (∀ W, Calls Try.prog 18 #[.int .i64 70] W fun e w' => MC.NewEnd W 70 e w') := fun W => MC.new_ok 70 W (by decide) (by decide)
  have HLY : Hid (∀ og mb mm W, There og mb mm 70 W → ∀ a : Nat, a < 18446744073709551616 → witB 70 a = false → Calls Try.prog 11 #[.pointer (some ⟨og, 0, none⟩), .pointer (some ⟨mm, 0, none⟩), .int .u64 (a : Int)] W fun e w' => e = .returned (.tuple #[.agg ZL.toArray, .int .i64 2]) ∧ Below W.heap.size W w') := fun og mb mm W h a ha hw => by
    rw [← HEV.out]
    refine lay_no _ _ _ 2 W (by decide) (fun X hX => ?_)
    have q := tf_any (h.step hX) a ha
    rw [show tfC 70 a = 2 by unfold tfC; rw [hw]; rfl] at q
    exact q
  have HUP : Hid (∀ og mb mm W, There og mb mm 70 W → Calls Try.prog 20 #[.pointer (some ⟨og, 0, none⟩), .pointer (some ⟨mm, 0, none⟩), .int .u64 0, .int .i64 128, .agg ZL.toArray] W fun e w' => e = .returned (.tuple #[.agg ZL.toArray, .int .i64 2]) ∧ Below W.heap.size W w') := fun og mb mm W h => by
    rw [← HEV.out]
    refine up_no _ _ 0 128 2 _ W (by decide) (fun X hX => ?_)
    have q := tf_any (h.step hX) 0 (by decide)
    rw [show tfC 70 0 = 0 by decide] at q
    have q2 := wf_ok _ _ _ 128 X q
    rw [show mayP 128 = false by decide] at q2
    exact q2
  clear hZL HEV
  go_enter Try.func6, Try.ntmps6
  go_wp2_with fail
  refine Calls.mono HW.out ?_
  rintro e X1 ⟨v1, rfl, hf1, hb1⟩
  have H1 : Hid (HI X1 v1 [128, 64, 32, 16, 8, 4, 2, 1]) := hf1.hi
  have HB1 : Hid (Below w.heap.size w X1) := hb1
  clear hf1 hb1 HW
  go_wp2_with fail
  refine Calls.mono (HB5.out X1) ?_
  rintro e X2 ⟨v2, rfl, hf2, hb2⟩
  have H2 : Hid (HI X2 v2 [132, 67, 32, 17, 9, 5, 3]) := hf2.hi
  have H1b : Hid (HI X2 v1 [128, 64, 32, 16, 8, 4, 2, 1]) := H1.out.keep hb2
  have HB2 : Hid (Below w.heap.size w X2) := HB1.out.trans (hb2.mono HB1.out.size)
  clear hf2 hb2 H1 HB1 HB5
  go_wp2_with (refine R5.wpList_build rfl 23 #[] rfl #[] (.agg ZL.toArray) (by simp) (HBD.out _) ?_)
  refine Calls.mono (HNW.out X2) ?_
  rintro e X3 ⟨og, mb, dv, rfl, hpo, hb3, _⟩
  have HPO : Hid (R5.PO X2.heap.size og mb (fun k => k = og ∨ k = mb) X3 ⟨true, Z32, [], []⟩ dv (.slice none 0 0)) := hpo
  have HB3 : Hid (Below X2.heap.size X2 X3) := hb3
  clear hpo hb3 HNW
  go_wp2_with fail
  refine Calls.mono (HMN.out X3) ?_
  rintro e X4 ⟨mm, gb, rfl, hpm, hm1, hm2, hb4⟩
  have HTH : Hid (There og mb mm 70 X4) := There.of HPO.out hb4 hpm (by decide) (by decide)
  have hb24 : Below X2.heap.size X2 X4 := HB3.out.trans (hb4.mono HB3.out.size)
  have H1c : Hid (HI X4 v1 [128, 64, 32, 16, 8, 4, 2, 1]) := H1b.out.keep hb24
  have H2c : Hid (HI X4 v2 [132, 67, 32, 17, 9, 5, 3]) := H2.out.keep hb24
  have HB4 : Hid (Below w.heap.size w X4) := HB2.out.trans (hb24.mono HB2.out.size)
  clear hpm hm1 hm2 hb4 hb24 HB3 HPO H1b H2 HB2 HMN
  go_wp2_with fail
  refine Calls.mono (HLY.out og mb mm X4 HTH.out 64 (by decide) (by decide)) ?_
  rintro e X5 ⟨rfl, hb5⟩
  have hbn : Below (X4).heap.size X4 ((X5.alloc (.cells ZL.toArray 23 (0, 0))).setRow X5.heap.size ZL.toArray) := below_setRow (hb5.alloc hb5.size _) hb5.size _
  have HR : Hid ((X5.alloc (.cells ZL.toArray 23 (0, 0))).heap[X5.heap.size]? = some (.cells ZL.toArray 23 (0, 0))) := heap_alloc_new _ _
  have HTH2 : Hid _ := HTH.out.step hbn
  have H1d : Hid (HI _ v1 [128, 64, 32, 16, 8, 4, 2, 1]) := H1c.out.keep hbn
  have H2d : Hid (HI _ v2 [132, 67, 32, 17, 9, 5, 3]) := H2c.out.keep hbn
  have HB5 : Hid (Below w.heap.size w _) := HB4.out.trans (hbn.mono HB4.out.size)
  have HSZX6 : Hid (((X5.alloc (.cells ZL.toArray 23 (0, 0))).setRow X5.heap.size ZL.toArray).heap.size = X5.heap.size + 1) := by show _ = _; simp
  clear hb5 hbn HTH H1c H2c HB4
  go_wp2_with (first | (refine R5.wpList_build rfl 23 #[] rfl #[] (.agg ZL.toArray) (by simp) (HBD.out _) ?_) | (refine wpList_store_row rfl 23 _ _ rfl X5.heap.size ZL.toArray rfl rfl 23 ZL.toArray HR.out (R5.info32a _ HZS.out) rfl HZ1.out ?_))
  clear HR
  generalize (X5.alloc (.cells ZL.toArray 23 (0, 0))).setRow X5.heap.size ZL.toArray = X6 at *
  generalize X5.heap.size = nX6 at *
  have HTH : Hid (There og mb mm 70 X6) := HTH2.out
  have H1c : Hid (HI X6 v1 [128, 64, 32, 16, 8, 4, 2, 1]) := H1d.out
  have H2c : Hid (HI X6 v2 [132, 67, 32, 17, 9, 5, 3]) := H2d.out
  have HB4 : Hid (Below w.heap.size w X6) := HB5.out
  clear HTH2 H1d H2d HB5
  refine Calls.mono (HLY.out og mb mm X6 HTH.out 8832 (by decide) (by decide)) ?_
  rintro e X7 ⟨rfl, hb5⟩
  have hbn : Below (X6).heap.size X6 ((X7.alloc (.cells ZL.toArray 23 (0, 0))).setRow X7.heap.size ZL.toArray) := below_setRow (hb5.alloc hb5.size _) hb5.size _
  have HR : Hid ((X7.alloc (.cells ZL.toArray 23 (0, 0))).heap[X7.heap.size]? = some (.cells ZL.toArray 23 (0, 0))) := heap_alloc_new _ _
  have HTH2 : Hid _ := HTH.out.step hbn
  have H1d : Hid (HI _ v1 [128, 64, 32, 16, 8, 4, 2, 1]) := H1c.out.keep hbn
  have H2d : Hid (HI _ v2 [132, 67, 32, 17, 9, 5, 3]) := H2c.out.keep hbn
  have HB5 : Hid (Below w.heap.size w _) := HB4.out.trans (hbn.mono HB4.out.size)
  have HSZX8 : Hid (((X7.alloc (.cells ZL.toArray 23 (0, 0))).setRow X7.heap.size ZL.toArray).heap.size = X7.heap.size + 1) := by show _ = _; simp
  clear hb5 hbn HTH H1c H2c HB4
  go_wp2_with (first | (refine R5.wpList_build rfl 23 #[] rfl #[] (.agg ZL.toArray) (by simp) (HBD.out _) ?_) | (refine wpList_store_row rfl 23 _ _ rfl X7.heap.size ZL.toArray rfl rfl 23 ZL.toArray HR.out (R5.info32a _ HZS.out) rfl HZ1.out ?_))
  clear HR
  generalize (X7.alloc (.cells ZL.toArray 23 (0, 0))).setRow X7.heap.size ZL.toArray = X8 at *
  generalize X7.heap.size = nX8 at *
  have HTH : Hid (There og mb mm 70 X8) := HTH2.out
  have H1c : Hid (HI X8 v1 [128, 64, 32, 16, 8, 4, 2, 1]) := H1d.out
  have H2c : Hid (HI X8 v2 [132, 67, 32, 17, 9, 5, 3]) := H2d.out
  have HB4 : Hid (Below w.heap.size w X8) := HB5.out
  clear HTH2 H1d H2d HB5
  refine Calls.mono (HUP.out og mb mm X8 HTH.out) ?_
  rintro e X9 ⟨rfl, hb5⟩
  have hbn : Below (X8).heap.size X8 ((X9.alloc (.cells ZL.toArray 23 (0, 0))).setRow X9.heap.size ZL.toArray) := below_setRow (hb5.alloc hb5.size _) hb5.size _
  have HR : Hid ((X9.alloc (.cells ZL.toArray 23 (0, 0))).heap[X9.heap.size]? = some (.cells ZL.toArray 23 (0, 0))) := heap_alloc_new _ _
  have HTH2 : Hid _ := HTH.out.step hbn
  have H1d : Hid (HI _ v1 [128, 64, 32, 16, 8, 4, 2, 1]) := H1c.out.keep hbn
  have H2d : Hid (HI _ v2 [132, 67, 32, 17, 9, 5, 3]) := H2c.out.keep hbn
  have HB5 : Hid (Below w.heap.size w _) := HB4.out.trans (hbn.mono HB4.out.size)
  have HSZXA : Hid (((X9.alloc (.cells ZL.toArray 23 (0, 0))).setRow X9.heap.size ZL.toArray).heap.size = X9.heap.size + 1) := by show _ = _; simp
  clear hb5 hbn HTH H1c H2c HB4
  go_wp2_with (first | (refine R5.wpList_build rfl 23 #[] rfl #[] (.agg ZL.toArray) (by simp) (HBD.out _) ?_) | (refine wpList_store_row rfl 23 _ _ rfl X9.heap.size ZL.toArray rfl rfl 23 ZL.toArray HR.out (R5.info32a _ HZS.out) rfl HZ1.out ?_))
  clear HR
  generalize (X9.alloc (.cells ZL.toArray 23 (0, 0))).setRow X9.heap.size ZL.toArray = XA at *
  generalize X9.heap.size = nXA at *
  have HTH : Hid (There og mb mm 70 XA) := HTH2.out
  have H1c : Hid (HI XA v1 [128, 64, 32, 16, 8, 4, 2, 1]) := H1d.out
  have H2c : Hid (HI XA v2 [132, 67, 32, 17, 9, 5, 3]) := H2d.out
  have HB4 : Hid (Below w.heap.size w XA) := HB5.out
  clear HTH2 H1d H2d HB5
  clear HLY HUP HBD HTH HSZX6 HSZX8
  have hba : Below XA.heap.size XA (XA.alloc (.cells (([128, 64, 32, 16, 8, 4, 2, 1] : List Int).map I64).toArray 3 (0, 0))) := (Below.refl _ _).alloc (Nat.le_refl _) _
  have hra : (XA.alloc (.cells (([128, 64, 32, 16, 8, 4, 2, 1] : List Int).map I64).toArray 3 (0, 0))).heap[nXA + 1]? = _ := MC.heap_at _ _ _ HSZXA.out.symm
  refine Calls.mono (HSM.out v1 _ [128, 64, 32, 16, 8, 4, 2, 1] _ (by decide) (H1c.out.keep hba) (hi_row [128, 64, 32, 16, 8, 4, 2, 1] 8 8 rfl hra)) ?_
  rintro e XB ⟨rfl, bB⟩
  have hbb : Below XA.heap.size XA XB := hba.trans (bB.mono hba.size)
  have H2e : Hid (HI XB v2 [132, 67, 32, 17, 9, 5, 3]) := H2c.out.keep hbb
  have HB6 : Hid (Below w.heap.size w XB) := HB4.out.trans (hbb.mono HB4.out.size)
  clear hba hra bB hbb HB4 H2c H1c HSZXA
  go_wp2_with fail
  have hba : Below XB.heap.size XB (XB.alloc (.cells (([132, 67, 32, 17, 9, 5, 3] : List Int).map I64).toArray 3 (0, 0))) := (Below.refl _ _).alloc (Nat.le_refl _) _
  have hra : (XB.alloc (.cells (([132, 67, 32, 17, 9, 5, 3] : List Int).map I64).toArray 3 (0, 0))).heap[XB.heap.size]? = _ := heap_alloc_new _ _
  refine Calls.mono (HSM.out v2 _ [132, 67, 32, 17, 9, 5, 3] _ (by decide) (H2e.out.keep hba) (hi_row [132, 67, 32, 17, 9, 5, 3] 7 7 rfl hra)) ?_
  rintro e XC ⟨rfl, bC⟩
  have hbb : Below XB.heap.size XB XC := hba.trans (bC.mono hba.size)
  have HB7 : Hid (Below w.heap.size w XC) := HB6.out.trans (hbb.mono HB6.out.size)
  clear hba hra bC hbb HB6 H2e HSM
  go_wp2_with fail
  refine Calls.mono (HNM.out 0 XC) ?_
  rintro e W1 ⟨rfl, rfl⟩
  go_wp2_with fail
  refine Calls.mono (HNM.out 0 XC) ?_
  rintro e W1 ⟨rfl, rfl⟩
  go_wp2_with fail
  refine Calls.mono (HNM.out 0 XC) ?_
  rintro e W1 ⟨rfl, rfl⟩
  go_wp2_with fail
  refine Calls.mono (HNM.out 2 XC) ?_
  rintro e W1 ⟨rfl, rfl⟩
  go_wp2_with fail
  refine Calls.mono (HNM.out 2 XC) ?_
  rintro e W1 ⟨rfl, rfl⟩
  go_wp2_with fail
  refine Calls.mono (HNM.out 2 XC) ?_
  rintro e W1 ⟨rfl, rfl⟩
  go_wp2
  go_ret
  exact ⟨rfl, HB7.out⟩
end Go.Proofs.Ytnijjoankahddaa.DC
