/- rec: contract of the statements' out. -/
import Derived.Test.YtpdafjamhccbnaaCR
import Derived.Test.YtpdafjamhccbnaaCS
set_option linter.unusedVariables false
set_option linter.unusedSimpArgs false
namespace Go.Proofs.Ytpdafjamhccbnaa.VC
open Go.RowKit

theorem z_gr : gr Z16 = Z128 := by decide +kernel
def stg (o : Ot) (k : Nat) : List Int := o.re :: (o.ns.take k ++ List.replicate (15 - k) 0)
theorem stg_len {o : Ot} (h : o.ns.length = 4) (k : Nat) (hk : k ≤ 4) : (stg o k).length = 16 := by simp [stg, h]; omega
theorem stg_set {o : Ot} (h : o.ns.length = 4) (k : Nat) (hk : k < 4) : (stg o k).set (1 + k) (o.ns.getD k 0) = stg o (k + 1) := by
  obtain ⟨a, b, c, d, hn⟩ := four h
  unfold stg; rw [hn]
  have : k = 0 ∨ k = 1 ∨ k = 2 ∨ k = 3 := by omega
  rcases this with rfl | rfl | rfl | rfl <;> rfl
theorem stg_yes {o : Ot} (h : o.ns.length = 4) (hw : o.wr = true) : (((stg o 4).set 5 o.ad).set 6 1).set 7 o.ran = ow o := by
  obtain ⟨a, b, c, d, hn⟩ := four h
  unfold stg ow; rw [hn, hw]; rfl
theorem stg_no {o : Ot} (h : o.ns.length = 4) (hw : o.wr = false) : ((stg o 4).set 5 o.ad).set 7 o.ran = ow o := by
  obtain ⟨a, b, c, d, hn⟩ := four h
  unfold stg ow; rw [hn, hw]; rfl
set_option maxHeartbeats 2000000 in
set_option maxRecDepth 100000 in
theorem lout_any (o : Ot) (ho : ook o) (hm : VC.mt o = true) (w : World) : Calls Try.prog 17 #[.agg (oL o).toArray] w fun e w' => e = .returned (.agg ((gr (ow o)).map B8).toArray) ∧ Below w.heap.size w w' := by
  have h4 := ho.n.len
  obtain ⟨hb1, hb2, hb3⟩ := mt_bd hm
  have hz := zero_gr
  rw [← z_gr] at hz
  obtain ⟨ZL, hZL⟩ : ∃ L, L = (gr Z16).map B8 := ⟨_, rfl⟩
  have HZN : Hid (ZL.length = 128) := by show _ = _; rw [hZL, List.length_map, z_gr, z128_len]
  rw [← hZL] at hz
  have HR : Hid (RS w [(w.heap.size + 1 + 1, 45, (gr Z16).map B8), (w.heap.size + 1, 45, ZL), (w.heap.size, 40, oL o)] (((w.alloc (.cells (oL o).toArray 40 (0, 0))).alloc (.cells ZL.toArray 45 (0, 0))).alloc (.cells ZL.toArray 45 (0, 0)))) := by
    rw [← hZL]; exact (((RS.start w).alloc _ rfl 40 (oL o)).alloc (w.heap.size + 1) (by simp) 45 ZL).alloc (w.heap.size + 1 + 1) (by simp) 45 ZL
  have HGL : Hid (((gr (ow o)).map B8).length = 128) := by show _ = _; rw [List.length_map, gr_len, ow_len h4]
  have HG1 : Hid _ := B8_onea (gr (ow o))
  have HO0 : Hid _ := oL_re o
  have HO7 : Hid _ := oL_ran h4
  have HO5 : Hid _ := oL_ad h4
  have HO6 : Hid _ := oL_wr h4
  have hw1 : IntKind.u64.wrap o.re = o.re := by rw [W1.wrap_u64]; omega
  have hw2 : IntKind.u64.wrap o.ran = o.ran := by rw [W1.wrap_u64]; omega
  have HU0 : Hid (u64 o.re) := by show u64 _; unfold u64; omega
  have HUR : Hid (u64 o.ran) := by show u64 _; unfold u64; omega
  have HUA : Hid (u64 o.ad) := ho.a
  have HS0 : Hid (Z16.set 0 o.re = stg o 0) := rfl
  have HSK : Hid (∀ k, k < 4 → (stg o k).set (1 + k) (o.ns.getD k 0) = stg o (k + 1)) := fun k hk => stg_set h4 k hk
  have HSN : Hid (∀ k, k ≤ 4 → (stg o k).length = 16) := fun k hk => stg_len h4 k hk
  have HUN : Hid (∀ k, k < 4 → u64 (o.ns.getD k 0) ∧ (oL o)[1 + k]? = some (.int .u64 (o.ns.getD k 0))) := fun k hk => by
    refine ⟨getD_u ho.n.r k (by omega), ?_⟩
    have h2 : (((oL o).drop 1).take 4)[k]? = some (.int .u64 (o.ns.getD k 0)) := by rw [oL_ns h4]; exact U_get o.ns k (by omega)
    rw [List.getElem?_take_of_lt hk, List.getElem?_drop] at h2
    exact h2
  have HYES : Hid (o.wr = true → (((stg o 4).set 5 o.ad).set 6 1).set 7 o.ran = ow o) := stg_yes h4
  have HNO : Hid (o.wr = false → ((stg o 4).set 5 o.ad).set 7 o.ran = ow o) := stg_no h4
  obtain ⟨SG, hSG⟩ : ∃ S : Nat → List Int, S = stg o := ⟨_, rfl⟩
  rw [← hSG] at HS0 HYES HNO
  simp only [← hSG] at HSK HSN
  obtain ⟨OW, hOW⟩ : ∃ L, L = ow o := ⟨_, rfl⟩
  rw [← hOW] at HYES HNO HGL HG1
  rw [← hOW]
  obtain ⟨GL, hGE⟩ : ∃ L, (gr OW).map B8 = L := ⟨_, rfl⟩
  rw [hGE] at HGL HG1
  rw [hGE]
  have HGE : Hid _ := hGE
  clear hGE
  generalize oL o = OL at *
  generalize o.re = re at *
  generalize o.ran = ran at *
  generalize o.ad = ad at *
  generalize o.wr = wb at *
  clear hb1 hb2 hb3 hZL hSG hOW ho hm h4
  go_enter Try.func17, Try.ntmps17
  have hc0 := HR.out.cell 2 rfl 0 HO0.out
  go_wp2_with fail
  refine Calls.mono (set_any HR.out 0 (w.heap.size + 1 + 1) Z16 rfl rfl 0 (by decide) re HU0.out) ?_
  rintro e Y1 ⟨rfl, r1⟩
  rw [HS0.out] at r1
  have HR1 : Hid (RS w [(w.heap.size + 1 + 1, 45, (gr (SG 0)).map B8), (w.heap.size + 1, 45, ZL), (w.heap.size, 40, OL)] Y1) := r1
  clear r1 HR hc0
  go_wp2
  go_loopw [4] (fun i wr => ∃ k : Nat, k ≤ 4 ∧ i = .int .i64 k ∧ RS w [(w.heap.size + 1 + 1, 45, (gr (SG k)).map B8), (w.heap.size + 1, 45, ZL), (w.heap.size, 40, OL)] wr) (fun i _ => 4 - (intOf i).toNat)
  case atStart => exact ⟨0, by omega, rfl, HR1.out⟩
  case round =>
    obtain ⟨k, hk, rfl, hR⟩ := hrel
    clear HR1
    by_cases hlt : k < 4
    · obtain ⟨hu, hg⟩ := HUN.out k hlt
      have hc := hR.cell 2 rfl (1 + k) hg
      have HSET : Hid _ := set_any hR 0 (w.heap.size + 1 + 1) (SG k) rfl (HSN.out k hk) (1 + k) (by omega) _ hu
      have HS1 : Hid _ := HSK.out k hlt
      rw [HS1.out] at HSET
      have hkI : (k : Int) < 4 := by omega
      have hw3 : IntKind.i64.wrap (1 + (k : Int)) = ((1 + k : Nat) : Int) := by rw [IntKind.wrap_i64]; omega
      generalize o.ns.getD k 0 = x at *
      clear hR hu hg
      go_wp2_with fail
      refine Calls.mono HSET.out ?_
      rintro e Y2 ⟨rfl, r2⟩
      have HR2 : Hid (RS w [(w.heap.size + 1 + 1, 45, (gr (SG (k + 1))).map B8), (w.heap.size + 1, 45, ZL), (w.heap.size, 40, OL)] Y2) := r2
      clear r2 HSET
      go_wp2
      go_roundw
      case rel => exact ⟨k + 1, by omega, by go_num, HR2.out⟩
      case measure => simp [intOf]; omega
    · have hk4 : k = 4 := by omega
      subst hk4
      have hc5 := hR.cell 2 rfl 5 HO5.out
      have HR2 : Hid _ := hR
      have hl4 := HSN.out 4 (by omega)
      clear hR hlt hk
      go_wp2_with fail
      refine Calls.mono (set_any HR2.out 0 (w.heap.size + 1 + 1) (SG 4) rfl hl4 5 (by decide) ad HUA.out) ?_
      rintro e Y3 ⟨rfl, r3⟩
      have HR3 : Hid (RS w [(w.heap.size + 1 + 1, 45, (gr ((SG 4).set 5 ad)).map B8), (w.heap.size + 1, 45, ZL), (w.heap.size, 40, OL)] Y3) := r3
      have hc6 := HR3.out.cell 2 rfl 6 HO6.out
      have hc7 := HR3.out.cell 2 rfl 7 HO7.out
      have HL5 : Hid (((SG 4).set 5 ad).length = 16) := by show _ = _; rw [List.length_set]; exact hl4
      clear r3 HR2 hc5
      cases wb
      · have HF : Hid _ := HNO.out rfl
        generalize (SG 4).set 5 ad = S5 at *
        have HFm : Hid ((gr (S5.set 7 ran)).map B8 = GL) := by show _ = _; rw [HF.out, HGE.out]
        go_wp2_with fail
        refine Calls.mono (set_any HR3.out 0 (w.heap.size + 1 + 1) S5 rfl HL5.out 7 (by decide) ran HUR.out) ?_
        rintro e Y4 ⟨rfl, r4⟩
        have HR9 : Hid (RS w [(w.heap.size + 1 + 1, 45, GL), (w.heap.size + 1, 45, ZL), (w.heap.size, 40, OL)] Y4) := by have z := r4; rw [HFm.out] at z; exact z
        clear r4
        go_wp2_with (first
          | (refine wpList_load_mid rfl 45 (.tmp 3) rfl (w.heap.size + 1 + 1) 0 rfl GL _ (rangeAt_row (HR9.out.at 0 rfl)) Try.underlying45 rfl (info128 GL HGL.out) ?_)
          | (refine wpList_store_row rfl 45 (.tmp 2) (.tmp 30) rfl (w.heap.size + 1) GL.toArray rfl rfl 45 ZL.toArray (HR9.out.at 1 rfl) (info128a GL HGL.out) (by simp [HZN.out, HGL.out]) HG1.out ?_))
        have R8 := HR9.out.put 1 rfl GL
        refine bodyPost_ret (v := .agg GL.toArray) (results1 Try.results17 _ _ (w.heap.size + 1) (R8.at 1 rfl) Try.underlying45 rfl (info128 GL HGL.out) rfl) rfl ⟨rfl, R8.bel⟩
      · have HF : Hid _ := HYES.out rfl
        generalize (SG 4).set 5 ad = S5 at *
        go_wp2_with fail
        refine Calls.mono (set_any HR3.out 0 (w.heap.size + 1 + 1) S5 rfl HL5.out 6 (by decide) 1 (by unfold u64; omega)) ?_
        rintro e Y5 ⟨rfl, r5⟩
        have HR5 : Hid (RS w [(w.heap.size + 1 + 1, 45, (gr (S5.set 6 1)).map B8), (w.heap.size + 1, 45, ZL), (w.heap.size, 40, OL)] Y5) := r5
        have hc8 := HR5.out.cell 2 rfl 7 HO7.out
        have HL6 : Hid ((S5.set 6 1).length = 16) := by show _ = _; rw [List.length_set]; exact HL5.out
        clear r5 HR3 hc6 hc7
        generalize S5.set 6 1 = S6 at *
        have HFm : Hid ((gr (S6.set 7 ran)).map B8 = GL) := by show _ = _; rw [HF.out, HGE.out]
        go_wp2_with fail
        refine Calls.mono (set_any HR5.out 0 (w.heap.size + 1 + 1) S6 rfl HL6.out 7 (by decide) ran HUR.out) ?_
        rintro e Y4 ⟨rfl, r4⟩
        have HR9 : Hid (RS w [(w.heap.size + 1 + 1, 45, GL), (w.heap.size + 1, 45, ZL), (w.heap.size, 40, OL)] Y4) := by have z := r4; rw [HFm.out] at z; exact z
        clear r4
        go_wp2_with (first
          | (refine wpList_load_mid rfl 45 (.tmp 3) rfl (w.heap.size + 1 + 1) 0 rfl GL _ (rangeAt_row (HR9.out.at 0 rfl)) Try.underlying45 rfl (info128 GL HGL.out) ?_)
          | (refine wpList_store_row rfl 45 (.tmp 2) (.tmp 30) rfl (w.heap.size + 1) GL.toArray rfl rfl 45 ZL.toArray (HR9.out.at 1 rfl) (info128a GL HGL.out) (by simp [HZN.out, HGL.out]) HG1.out ?_))
        have R8 := HR9.out.put 1 rfl GL
        refine bodyPost_ret (v := .agg GL.toArray) (results1 Try.results17 _ _ (w.heap.size + 1) (R8.at 1 rfl) Try.underlying45 rfl (info128 GL HGL.out) rfl) rfl ⟨rfl, R8.bel⟩
end Go.Proofs.Ytpdafjamhccbnaa.VC
