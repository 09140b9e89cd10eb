/- realm: counts, the walk. -/
import Derived.Test.YtekbppfocnbhbaaGreatYD
import Derived.Test.YtekbppfocnbhbaaGreatRn
import Derived.Deep.CutRange
set_option linter.unusedVariables false
set_option linter.unusedSimpArgs false
namespace Go.Proofs.YtekbppfocnbhbaaGreat.XC
open Go.RowKit

structure Kp (c : Cx) (l : List En) (I : Nat → Prop) (X : World) (k : Nat) (o : Obj) : Prop where
  i : I k
  nf : ¬ FP c.xb c.mb l k
  row : X.heap[k]? = some o
section
variable {c : Cx} {tn last last' : Nat} {L L' R : Lg} {I J : Nat → Prop} {X Y Z : World} {l l' a b : List En} {rd : Int} {r r' : Rm} {lv : Value} {k : Nat} {o : Obj}
theorem Kp.pd (h : Kp c l I X k o) (hd : PD c tn L' R I X Y l l' last' (fun _ => False)) (hJ : ∀ k, I k → J k) : Kp c l' J Y k o := by
  have hk := PC.row_lt h.row
  exact ⟨hJ k h.i, fun hf => (hd.sub k hf).elim h.nf (fun h2 => by omega), (hd.fr k hk h.i h.nf (fun h => h)).trans h.row⟩
theorem Kp.below (h : Kp c l I X k o) (hb : Below X.heap.size X Y) : Kp c l (up I X Y) Y k o := ⟨.inl h.i, h.nf, (hb.block k (PC.row_lt h.row)).trans h.row⟩
theorem Kp.new (h : JP c tn L R I X l last) (hb : Below X.heap.size X Y) (hk : X.heap.size ≤ k) (hr : Y.heap[k]? = some o) : Kp c l (up I X Y) Y k o := ⟨.inr ⟨hk, PC.row_lt hr⟩, fun hf => by have := h.px.top k hf; omega, hr⟩
theorem Kp.mono (h : Kp c l I X k o) (hJ : ∀ k, I k → J k) : Kp c l J X k o := ⟨hJ k h.i, h.nf, h.row⟩
theorem Kp.cell {A : Array Value} {t : TypeId} (h : Kp c l I X k (.cells A t (0, 0))) {j : Nat} {v : Value} (hv : A[j]? = some v) : X.cell? ⟨k, j, none⟩ = some v := by rw [cell_of_row _ _ _ _ _ _ h.row]; exact hv
end
theorem kp_store {c : Cx} {tn last : Nat} {L R : Lg} {I : Nat → Prop} {X : World} {l : List En} (h : JP c tn L R I X l last) (ZL NL : List Value) : ∀ V, V = (X.alloc (.cells ZL.toArray 47 (0, 0))).setRow X.heap.size NL.toArray → JP c tn L R (up I X V) V l last ∧ Kp c l (up I X V) V X.heap.size (.cells NL.toArray 47 (0, 0)) ∧ Below X.heap.size X V := by
  rintro V rfl
  have hb : Below X.heap.size X ((X.alloc (.cells ZL.toArray 47 (0, 0))).setRow X.heap.size NL.toArray) := below_setRow ((Below.refl _ _).alloc (Nat.le_refl _) _) (Nat.le_refl _) _
  exact ⟨h.grow hb, Kp.new h hb (Nat.le_refl _) (setRow_heap _ _ _ _ _ _ (heap_alloc_new _ _)), hb⟩
set_option maxHeartbeats 4000000 in
set_option maxRecDepth 100000 in
theorem known_any (w : World) : Calls Tryz.prog 8 #[] w fun e w' => e = .returned (.bool true) ∧ Below w.heap.size w w' := by
  have HBG : Hid (Calls Tryz.prog 9 #[.slice none 0 0] w fun e Y => BgEnd w [] e Y) := begin_any none 0 0 [] w (fun _ => rfl) (by simp) ⟨fun d hd => (List.not_mem_nil hd).elim, none, 0, rfl, fun i hi => by simp at hi⟩
  have hzr := fun W => zero_rm W
  obtain ⟨ZL, hZL⟩ : ∃ L, L = rmL zR (.slice none 0 0) := ⟨_, rfl⟩
  rw [← hZL] at hzr
  have HZS : Hid (ZL.toArray.size = 103) := by show _ = _; rw [hZL]; simpa using rmL_len zR_ok _
  have HZ1 : Hid (ZL.toArray.all (·.oneCell') = true) := by show _ = _; rw [hZL]; exact PC.onea (rmL_one _ _ rfl)
  have HZI : Hid ((Tryz.prog.info? 47).map (·.size) = some ZL.toArray.size) := info103a _ HZS.out
  have HZL : Hid (ZL = rmL zR (.slice none 0 0)) := hZL
  have HBP : Hid (∀ W, (Instr.build 36 #[]).run Tryz.prog W = .ok (.agg (PC.rpL PC.Z32 0).toArray) W) := PC.build_rp
  have HBD : Hid (∀ W, (Instr.build 33 #[]).run Tryz.prog W = .ok (.agg (PC.Z32.map B8).toArray) W) := R5.build_dig
  have HBG2 : Hid (∀ W, (Instr.build 38 #[]).run Tryz.prog W = .ok (.agg (PC.Z128.map B8).toArray) W) := PC.build_gr
  have h3 : iOk 3 := by unfold iOk; decide
  clear hZL
  go_enter Tryz.func8, Tryz.ntmps8
  go_wp2_with fail
  refine Calls.mono HBG.out ?_
  rintro e X0 ⟨c, rb, tn, I0, rfl, hcw, hcm, hcD, hJR⟩
  have hJ0 := hJR.jp
  clear hJR HBG
  have hb1 : Below X0.heap.size X0 (X0.alloc (.cells #[.pointer (some ⟨c.og, 0, none⟩), .pointer (some ⟨c.xb, 0, none⟩), .pointer (some ⟨rb, 0, none⟩)] 29 (0, 0))) := (Below.refl _ _).alloc (Nat.le_refl _) _
  have HJ1 : Hid (JP c tn [] [] (up I0 X0 (X0.alloc (.cells #[.pointer (some ⟨c.og, 0, none⟩), .pointer (some ⟨c.xb, 0, none⟩), .pointer (some ⟨rb, 0, none⟩)] 29 (0, 0)))) (X0.alloc (.cells #[.pointer (some ⟨c.og, 0, none⟩), .pointer (some ⟨c.xb, 0, none⟩), .pointer (some ⟨rb, 0, none⟩)] 29 (0, 0))) [] 0) := hJ0.grow hb1
  have HK1 : Hid (Kp c [] (up I0 X0 (X0.alloc (.cells #[.pointer (some ⟨c.og, 0, none⟩), .pointer (some ⟨c.xb, 0, none⟩), .pointer (some ⟨rb, 0, none⟩)] 29 (0, 0)))) (X0.alloc (.cells #[.pointer (some ⟨c.og, 0, none⟩), .pointer (some ⟨c.xb, 0, none⟩), .pointer (some ⟨rb, 0, none⟩)] 29 (0, 0))) X0.heap.size (.cells #[.pointer (some ⟨c.og, 0, none⟩), .pointer (some ⟨c.xb, 0, none⟩), .pointer (some ⟨rb, 0, none⟩)] 29 (0, 0))) := Kp.new hJ0 hb1 (Nat.le_refl _) (heap_alloc_new _ _)
  clear hJ0 hb1
  have hzp : ∀ W, (zeroValue 29).run Tryz.prog W = .ok (.agg #[.pointer none, .pointer none, .pointer none]) W := fun W => by kernel_rfl
  go_wp2_with (first
    | (refine PC.wpList_build rfl 36 _ rfl #[] (.agg (PC.rpL PC.Z32 0).toArray) (by simp) (HBP.out _) ?_)
    | (refine PC.wpList_build rfl 33 _ rfl #[] (.agg (PC.Z32.map B8).toArray) (by simp) (HBD.out _) ?_)
    | (go_at_call 16; fail))
  generalize (X0.alloc (.cells #[.pointer (some ⟨c.og, 0, none⟩), .pointer (some ⟨c.xb, 0, none⟩), .pointer (some ⟨rb, 0, none⟩)] 29 (0, 0))) = X1 at *
  generalize X0.heap.size = pb at *
  refine Calls.mono (cr_ok (rd := 3) (root := 4) HJ1.out PC.Z32 PC.z32_len 0 PC.Z32 PC.z32_len h3 (fun x hx => (List.not_mem_nil hx).elim) (by decide) (by decide) (by decide) (by simp)) ?_
  rintro e X2 ⟨lv1, v1, rfl, hcr⟩
  obtain ⟨J2, hJ2, hIJ2, _⟩ := hcr.ex
  have hK2 := HK1.out.pd hcr.pd hIJ2
  clear HJ1 HK1
  obtain ⟨r1, hr1⟩ : ∃ r1, r1 = newR c [] (0 + 1) 4 PC.Z32 0 PC.Z32 := ⟨_, rfl⟩
  rw [← hr1] at hJ2 hK2 hcr ⊢
  have hst1 : r1.st = 1 := by rw [hr1]; rfl
  have hin1 : r1.inst = 1 := by rw [hr1]; rfl
  have hrc1 : r1.recs = 0 := by rw [hr1]; rfl
  have hok1 : r1.ok := hJ2.px.ok (3, r1, lv1) (by simp)
  have HNN : Hid ((rmL r1 v1).length = 103) := rmL_len hok1 _
  have HN1 : Hid ((rmL r1 v1).toArray.all (·.oneCell') = true) := rmL_onea r1 hcr.hr
  have HI1 : Hid ((rmL r1 v1).toArray[0]? = some (.int .u64 1)) := by show _ = _; rw [List.getElem?_toArray, rmL_0, hin1]; rfl
  obtain ⟨N1, hN1⟩ : ∃ N1, N1 = rmL r1 v1 := ⟨_, rfl⟩
  rw [← hN1] at HNN HN1 HI1 ⊢
  have HRA : Hid ((X2.alloc (.cells ZL.toArray 47 (0, 0))).heap[X2.heap.size]? = some (.cells ZL.toArray 47 (0, 0))) := heap_alloc_new _ _
  have HNS : Hid (N1.toArray.size = 103) := by show _ = _; simpa using HNN.out
  have HNI : Hid ((Tryz.prog.info? 47).map (·.size) = some N1.toArray.size) := info103a _ HNS.out
  have HZN : Hid (ZL.toArray.size = N1.toArray.size) := HZS.out.trans HNS.out.symm
  obtain ⟨X3, hX3⟩ : ∃ V, V = (X2.alloc (.cells ZL.toArray 47 (0, 0))).setRow X2.heap.size N1.toArray := ⟨_, rfl⟩
  obtain ⟨hJ3, hA3, hb3⟩ := kp_store hJ2 ZL N1 X3 hX3
  have HJ3 : Hid (JP c tn (newL c [] (0 + 1) PC.Z32) [] (up J2 X2 X3) X3 ([] ++ [(3, r1, lv1)]) (0 + 1)) := hJ3
  have HA3 : Hid (Kp c ([] ++ [(3, r1, lv1)]) (up J2 X2 X3) X3 X2.heap.size (.cells N1.toArray 47 (0, 0))) := hA3
  have HK3 : Hid (Kp c ([] ++ [(3, r1, lv1)]) (up J2 X2 X3) X3 pb (.cells #[.pointer (some ⟨c.og, 0, none⟩), .pointer (some ⟨c.xb, 0, none⟩), .pointer (some ⟨rb, 0, none⟩)] 29 (0, 0))) := hK2.below hb3
  have hcp : X3.cell? ⟨pb, 1, none⟩ = some (.pointer (some ⟨c.xb, 0, none⟩)) := HK3.out.cell rfl
  have HST1 : Hid (r1.st = 1) := hst1
  have HRC1 : Hid (r1.recs = 0) := hrc1
  rw [hX3] at hcp
  clear hcr hJ2 hIJ2 hK2 hok1 hN1 hr1 hin1 hst1 hrc1 hJ3 hA3 hb3
  go_wp2_with (first
    | (refine wpList_store_row rfl 47 _ _ rfl X2.heap.size N1.toArray rfl rfl 47 ZL.toArray HRA.out HNI.out HZN.out HN1.out ?_)
    | (refine PC.wpList_build rfl 36 _ rfl #[] (.agg (PC.rpL PC.Z32 0).toArray) (by simp) (HBP.out _) ?_)
    | (refine PC.wpList_build rfl 33 _ rfl #[] (.agg (PC.Z32.map B8).toArray) (by simp) (HBD.out _) ?_)
    | (go_at_call 16; fail))
  rw [← hX3]
  clear hX3 hcp HRA HNI HZN HNS
  generalize X2.heap.size = ab at *
  refine Calls.mono (cr_err (rd := 3) (root := 5) HJ3.out PC.Z32 0 PC.Z32 7 (by decide) (fun {J W} hj => cf_is hj h3 r1 lv1 0 (.inr ⟨⟨[], [], rfl⟩, rfl⟩) (by decide) (by decide) rfl)) ?_
  rintro e X4 ⟨rfl, hb4⟩
  have hJ4 : JP c tn (newL c [] (0 + 1) PC.Z32) [] (up (up J2 X2 X3) X3 X4) X4 ([] ++ [(3, r1, lv1)]) (0 + 1) := HJ3.out.grow hb4
  have hA4 := HA3.out.below hb4
  have hK4 := HK3.out.below hb4
  clear HJ3 HA3 HK3
  rw [← HZL.out]
  have HRA : Hid ((X4.alloc (.cells ZL.toArray 47 (0, 0))).heap[X4.heap.size]? = some (.cells ZL.toArray 47 (0, 0))) := heap_alloc_new _ _
  obtain ⟨X5, hX5⟩ : ∃ V, V = (X4.alloc (.cells ZL.toArray 47 (0, 0))).setRow X4.heap.size ZL.toArray := ⟨_, rfl⟩
  obtain ⟨hJ5, _, hb5⟩ := kp_store hJ4 ZL ZL X5 hX5
  have hA5 := hA4.below hb5
  have hK5 := hK4.below hb5
  generalize up (up (up J2 X2 X3) X3 X4) X4 X5 = I5 at *
  have HJ5 : Hid (JP c tn (newL c [] (0 + 1) PC.Z32) [] I5 X5 ([] ++ [(3, r1, lv1)]) (0 + 1)) := hJ5
  have HA5 : Hid (Kp c ([] ++ [(3, r1, lv1)]) I5 X5 ab (.cells N1.toArray 47 (0, 0))) := hA5
  have HK5 : Hid (Kp c ([] ++ [(3, r1, lv1)]) I5 X5 pb (.cells #[.pointer (some ⟨c.og, 0, none⟩), .pointer (some ⟨c.xb, 0, none⟩), .pointer (some ⟨rb, 0, none⟩)] 29 (0, 0))) := hK5
  have hcp : X5.cell? ⟨pb, 1, none⟩ = some (.pointer (some ⟨c.xb, 0, none⟩)) := HK5.out.cell rfl
  rw [hX5] at hcp
  clear hJ4 hA4 hK4 hJ5 hA5 hK5 hb4 hb5
  go_wp2_with (first
    | (refine wpList_store_row rfl 47 _ _ rfl X4.heap.size ZL.toArray rfl rfl 47 ZL.toArray HRA.out HZI.out rfl HZ1.out ?_)
    | (go_at_call 28; fail))
  rw [← hX5]
  clear hX5 hcp HRA
  refine Calls.mono (act_ok (a := []) (b := []) HJ5.out h3 rfl HST1.out) ?_
  rintro e X6 ⟨lv2, rfl, hp6⟩
  obtain ⟨J6, hJ6, hIJ6⟩ := hp6.jp
  have hA6 := HA5.out.pd hp6 hIJ6
  have hK6 := HK5.out.pd hp6 hIJ6
  have HJ6 : Hid (JP c tn (newL c [] (0 + 1) PC.Z32) [] J6 X6 ([] ++ (3, { r1 with st := 2 }, lv2) :: []) (0 + 1)) := hJ6
  have HA6 : Hid (Kp c ([] ++ (3, { r1 with st := 2 }, lv2) :: []) J6 X6 ab (.cells N1.toArray 47 (0, 0))) := hA6
  have HK6 : Hid (Kp c ([] ++ (3, { r1 with st := 2 }, lv2) :: []) J6 X6 pb (.cells #[.pointer (some ⟨c.og, 0, none⟩), .pointer (some ⟨c.xb, 0, none⟩), .pointer (some ⟨rb, 0, none⟩)] 29 (0, 0))) := hK6
  have hcp : X6.cell? ⟨pb, 1, none⟩ = some (.pointer (some ⟨c.xb, 0, none⟩)) := HK6.out.cell rfl
  clear hp6 hJ6 hIJ6 hA6 hK6 HJ5 HA5 HK5
  go_wp2_with (first
    | (refine PC.wpList_build rfl 38 _ rfl #[] (.agg (PC.Z128.map B8).toArray) (by simp) (HBG2.out _) ?_)
    | (go_at_call 25; fail))
  refine Calls.mono (data_st (a := []) (b := []) HJ6.out 0 (by decide) (by decide) PC.Z128 h3 rfl (by show (2 : Int) ≠ 1; decide)) ?_
  rintro e X7 ⟨rfl, hb7⟩
  have HJ7 : Hid (JP c tn (newL c [] (0 + 1) PC.Z32) [] (up J6 X6 X7) X7 ([] ++ (3, { r1 with st := 2 }, lv2) :: []) (0 + 1)) := HJ6.out.grow hb7
  have HA7 : Hid (Kp c ([] ++ (3, { r1 with st := 2 }, lv2) :: []) (up J6 X6 X7) X7 ab (.cells N1.toArray 47 (0, 0))) := HA6.out.below hb7
  have HK7 : Hid (Kp c ([] ++ (3, { r1 with st := 2 }, lv2) :: []) (up J6 X6 X7) X7 pb (.cells #[.pointer (some ⟨c.og, 0, none⟩), .pointer (some ⟨c.xb, 0, none⟩), .pointer (some ⟨rb, 0, none⟩)] 29 (0, 0))) := HK6.out.below hb7
  have hcp : X7.cell? ⟨pb, 1, none⟩ = some (.pointer (some ⟨c.xb, 0, none⟩)) := HK7.out.cell rfl
  clear hb7 HJ6 HA6 HK6
  go_wp2_with fail
  refine Calls.mono (drop_ok (a := []) (b := []) HJ7.out h3 rfl HRC1.out) ?_
  rintro e X8 ⟨rfl, hp8⟩
  obtain ⟨J8, hJ8, hIJ8⟩ := hp8.jp
  have HA8 : Hid (Kp c ([] ++ []) J8 X8 ab (.cells N1.toArray 47 (0, 0))) := HA7.out.pd hp8 hIJ8
  have HK8 : Hid (Kp c ([] ++ []) J8 X8 pb (.cells #[.pointer (some ⟨c.og, 0, none⟩), .pointer (some ⟨c.xb, 0, none⟩), .pointer (some ⟨rb, 0, none⟩)] 29 (0, 0))) := HK7.out.pd hp8 hIJ8
  have HJ8 : Hid (JP c tn (newL c [] (0 + 1) PC.Z32) [] J8 X8 ([] ++ []) (0 + 1)) := hJ8
  have hcp : X8.cell? ⟨pb, 1, none⟩ = some (.pointer (some ⟨c.xb, 0, none⟩)) := HK8.out.cell rfl
  clear hp8 hJ8 hIJ8 HJ7 HA7 HK7
  go_wp2_with (first
    | (refine PC.wpList_build rfl 36 _ rfl #[] (.agg (PC.rpL PC.Z32 0).toArray) (by simp) (HBP.out _) ?_)
    | (refine PC.wpList_build rfl 33 _ rfl #[] (.agg (PC.Z32.map B8).toArray) (by simp) (HBD.out _) ?_)
    | (go_at_call 16; fail))
  have hlen : (newL c [] (0 + 1) PC.Z32).length < 900000 := by
    unfold newL
    have h1 := R5.nx_len c.D (R5.nx c.D [] (cq1 PC.Z32)).2 (cq2 c.m (0 + 1))
    have h2 := R5.nx_len c.D [] (cq1 PC.Z32)
    simp only [List.length_nil] at h2
    omega
  refine Calls.mono (cr_ok (rd := 3) (root := 4) HJ8.out PC.Z32 PC.z32_len 0 PC.Z32 PC.z32_len h3 (fun x hx => (List.not_mem_nil hx).elim) (by decide) (by decide) (by decide) hlen) ?_
  rintro e X9 ⟨lv3, v3, rfl, hcr⟩
  obtain ⟨J9, hJ9, hIJ9, _⟩ := hcr.ex
  have hA9 := HA8.out.pd hcr.pd hIJ9
  obtain ⟨r2, hr2⟩ : ∃ r2, r2 = newR c (newL c [] (0 + 1) PC.Z32) (0 + 1 + 1) 4 PC.Z32 0 PC.Z32 := ⟨_, rfl⟩
  rw [← hr2] at hJ9 hA9 hcr ⊢
  have hin2 : r2.inst = 2 := by rw [hr2]; rfl
  have hok2 : r2.ok := hJ9.px.ok (3, r2, lv3) (by simp)
  have HNN : Hid ((rmL r2 v3).length = 103) := rmL_len hok2 _
  have HN2 : Hid ((rmL r2 v3).toArray.all (·.oneCell') = true) := rmL_onea r2 hcr.hr
  have HI2 : Hid ((rmL r2 v3).toArray[0]? = some (.int .u64 2)) := by show _ = _; rw [List.getElem?_toArray, rmL_0, hin2]; rfl
  obtain ⟨N2, hN2⟩ : ∃ N2, N2 = rmL r2 v3 := ⟨_, rfl⟩
  rw [← hN2] at HNN HN2 HI2 ⊢
  have HRA : Hid ((X9.alloc (.cells ZL.toArray 47 (0, 0))).heap[X9.heap.size]? = some (.cells ZL.toArray 47 (0, 0))) := heap_alloc_new _ _
  have HNS : Hid (N2.toArray.size = 103) := by show _ = _; simpa using HNN.out
  have HNI : Hid ((Tryz.prog.info? 47).map (·.size) = some N2.toArray.size) := info103a _ HNS.out
  have HZN : Hid (ZL.toArray.size = N2.toArray.size) := HZS.out.trans HNS.out.symm
  obtain ⟨X10, hX10⟩ : ∃ V, V = (X9.alloc (.cells ZL.toArray 47 (0, 0))).setRow X9.heap.size N2.toArray := ⟨_, rfl⟩
  obtain ⟨hJ10, hB10, hb10⟩ := kp_store hJ9 ZL N2 X10 hX10
  have hA10 := hA9.below hb10
  have hc1 : X10.cell? ⟨ab, 0, none⟩ = some (.int .u64 1) := hA10.cell HI1.out
  have hc2 : X10.cell? ⟨X9.heap.size, 0, none⟩ = some (.int .u64 2) := hB10.cell HI2.out
  have HBEL : Hid (Below w.heap.size w X10) := by have := hJ10.mm.bel; rw [hcw] at this; exact this
  rw [hX10] at hc1 hc2 HBEL
  clear hcr hJ9 hIJ9 hA9 hok2 hN2 hr2 hin2 hJ10 hB10 hb10 hA10 HJ8 HA8 HK8 hX10 hcp hlen
  go_wp2_with (refine wpList_store_row rfl 47 _ _ rfl X9.heap.size N2.toArray rfl rfl 47 ZL.toArray HRA.out HNI.out HZN.out HN2.out ?_)
  go_ret
  exact ⟨rfl, HBEL.out⟩
end Go.Proofs.YtekbppfocnbhbaaGreat.XC

namespace Go.Proofs.YtekbppfocnbhbaaGreat.XC
open Go.RowKit

theorem ab_split' : ∀ {l : List En} {sa sb : List (Int × Rm)} {rd : Int} {r : Rm}, ab l = sa ++ (rd, r) :: sb → ∃ a lv b, l = a ++ (rd, r, lv) :: b ∧ ab a = sa ∧ ab b = sb
  | [], sa, sb, rd, r, h => by exact absurd h (by simp [ab])
  | x :: l, [], sb, rd, r, h => by
    have h' : (x.1, x.2.1) :: ab l = (rd, r) :: sb := h
    injection h' with h1 h2
    obtain ⟨x1, x2, x3⟩ := x
    simp only [Prod.mk.injEq] at h1
    obtain ⟨rfl, rfl⟩ := h1
    exact ⟨[], x3, l, rfl, rfl, h2⟩
  | x :: l, y :: sa, sb, rd, r, h => by
    have h' : (x.1, x.2.1) :: ab l = y :: (sa ++ (rd, r) :: sb) := h
    injection h' with h1 h2
    obtain ⟨a, lv, b, e1, e2, e3⟩ := ab_split' h2
    refine ⟨x :: a, lv, b, by rw [e1]; rfl, ?_, e3⟩
    show (x.1, x.2.1) :: ab a = y :: sa
    rw [h1, e2]
theorem ab_no' {l : List En} {sl : List (Int × Rm)} {rd : Int} (h : ab l = sl) : (∀ x ∈ sl, x.1 ≠ rd) ↔ NoRd l rd := by
  subst h
  constructor
  · intro h x hx e
    exact h (x.1, x.2.1) (List.mem_map.2 ⟨x, hx, rfl⟩) e
  · intro h x hx e
    obtain ⟨y, hy, rfl⟩ := List.mem_map.1 hx
    exact h y hy e
theorem am_split (sl : List (Int × Rm)) (rd : Int) : (∀ x ∈ sl, x.1 ≠ rd) ∨ ∃ sa r sb, sl = sa ++ (rd, r) :: sb ∧ ∀ x ∈ sa, x.1 ≠ rd := by
  induction sl with
  | nil => exact .inl (fun x hx => by cases hx)
  | cons x l ih =>
    by_cases hx : x.1 = rd
    · obtain ⟨x1, x2⟩ := x
      have hx' : x1 = rd := hx
      subst hx'
      exact .inr ⟨[], x2, l, rfl, fun x hx => by cases hx⟩
    · rcases ih with h | ⟨a, r, b, rfl, hn⟩
      · exact .inl (fun y hy => by
          rcases List.mem_cons.1 hy with rfl | hy
          · exact hx
          · exact h y hy)
      · exact .inr ⟨x :: a, r, b, rfl, fun y hy => by
          rcases List.mem_cons.1 hy with rfl | hy
          · exact hx
          · exact hn y hy⟩
section
variable {c : Cx} {rb tn last last' : Nat} {L R R' L' : Lg} {C C2 I J : Nat → Prop} {X Y Y' Z W : World} {rl rl' l l' : List En} {av av' : Value} {a : Ac} {s s' : Am} {k : Int} {N : Nat} {rd : Int} {r r' : Rm} {sa sb : List (Int × Rm)}
theorem JA.get_no (h : JA c rb s C X) (hrd : iOk rd) (hno : ∀ x ∈ s.l, x.1 ≠ rd) :
    Calls Tryz.prog 12 #[.pointer (some ⟨c.xb, 0, none⟩), .int .i64 rd] X fun e Y => GEnd X zR 6 e Y := by
  obtain ⟨I, l, rl, av, tn, h⟩ := h
  exact get_any h.jr.jp hrd zR (.slice none 0 0) 6 (.inl ⟨(ab_no' h.ab).1 hno, rfl, rfl, rfl⟩) (by decide)
theorem JA.get_is (h : JA c rb s C X) (hB : Bd N s) (hN : N ≤ 1000) (hrd : iOk rd) (hs : s.l = sa ++ (rd, r) :: sb) :
    Calls Tryz.prog 12 #[.pointer (some ⟨c.xb, 0, none⟩), .int .i64 rd] X fun e Y => GEnd X r 0 e Y := by
  obtain ⟨I, l, rl, av, tn, h⟩ := h
  obtain ⟨a, lv, b, hl, _, _⟩ := ab_split' (h.ab.trans hs)
  have := (h.mem hB hl).1
  exact get_any h.jr.jp hrd r lv 0 (.inr ⟨⟨a, b, hl⟩, rfl⟩) (by omega)
theorem JA.rok (h : JA c rb s C X) : ∀ x ∈ s.l, x.2.ok := fun x hx => by
  obtain ⟨I, l, rl, av, tn, h⟩ := h
  rw [← h.ab] at hx
  obtain ⟨y, hy, rfl⟩ := List.mem_map.1 hx
  exact h.jr.jp.px.ok y hy
def PBx (c : Cx) (rb : Nat) (s s' : Am) (C : Nat → Prop) (v : Value) (f : Nat) (args : Array Value) (X : World) (e : Ending) (Y : World) : Prop :=
  e = .returned v ∧ (∀ k, C k → Y.heap[k]? = X.heap[k]?) ∧ Below c.w.heap.size c.w Y ∧ ∀ Y', Below Y.heap.size Y Y' → Calls Tryz.prog f args Y' fun e Z => e = .returned v ∧ JA c rb s' C Z ∧ ∀ k, C k → Z.heap[k]? = Y'.heap[k]?
theorem PBx.go {f : Nat} {args : Array Value} {e : Ending} (h : JB c rb s C I X l rl av tn) (s' : Am) (pd : PD c tn L' s.L I X Y l l' last' (fun _ => False)) (e1 : XC.ab l' = s'.l) (e2 : L' = s'.L) (e3 : last' = s'.last) (v : Value) (he : e = .returned v)
    (hr : ∀ {C' : Nat → Prop} Y' J, JH c rb s' C' J Y' l' rl s.last s.L av tn → Calls Tryz.prog f args Y' fun e Z => e = .returned v ∧ ∃ rl' av', RE c rb s'.L s'.L J Y' Z rl rl' s'.last av av' ∧ XC.ab rl' = s'.l) : PBx c rb s s' C v f args X e Y := by
  refine ⟨he, (h.half pd (Below.refl _ _) e1 e2 e3).2, by obtain ⟨⟨J, hJ⟩, _⟩ := h.half pd (Below.refl _ _) e1 e2 e3; exact hJ.jp.mm.bel, fun Y' hb => ?_⟩
  obtain ⟨⟨J, hJ⟩, _⟩ := h.half pd hb e1 e2 e3
  refine (hr Y' J hJ).mono fun e Z ⟨h1, rl', av', h2, h3⟩ => ⟨h1, ?_⟩
  obtain ⟨q1, q2⟩ := hJ.fin h2 h3
  exact ⟨q1.sub (fun k hk => .inl hk), fun k hk => q2 k (.inl hk)⟩
theorem JA.nxt_no (h : JA c rb s C X) (hB : Bd N s) (hN : N ≤ 1000) (hrd : iOk rd) (hno : ∀ x ∈ s.l, x.1 ≠ rd) :
    Calls Tryz.prog 24 #[.pointer (some ⟨c.xb, 0, none⟩), .int .i64 rd] X fun e Y => PBx c rb s s C (.tuple #[.int .u64 0, .int .i64 6]) 33 #[.pointer (some ⟨rb, 0, none⟩), .int .i64 rd] X e Y := by
  obtain ⟨I, l, rl, av, tn, h⟩ := h
  have hab := h.jr.ab
  obtain ⟨hln, hrn⟩ := h.rln hB
  have hn := (ab_no' h.ab).1 hno
  exact (XC.nxt_no h.jr.jp hrd hn).mono fun e Y ⟨he, hb⟩ => PBx.go h s (PD.refl h.jr.jp hb) h.ab rfl rfl _ he (fun Y' J hH => (rnxt_no hH.rx (by omega) (ab_no hab hn)).mono fun e Z ⟨h1, h2⟩ => ⟨h1, rl, av, by subst h2; exact RE.refl hH.jp.mm hH.rx (Below.refl _ _), hab.trans h.ab⟩)
structure CI (s : Am) (f : Nat → Nat) : Prop where
  lt : ∀ x ∈ s.l, x.2.inst ≤ s.last
  nd : (s.l.map (fun x => x.2.inst)).Nodup
  ct : ∀ x ∈ s.l, f x.2.inst = x.2.ctr
  z : ∀ j, s.last < j → f j = 0
theorem up_inst {k : Int} (h : UP c k r r' L L') : r'.inst = r.inst ∧ (k ≠ 7 → r'.ctr = r.ctr) := by
  cases h with
  | st => exact ⟨rfl, fun _ => rfl⟩
  | recs => exact ⟨rfl, fun _ => rfl⟩
  | ctr hk => exact ⟨rfl, fun h => absurd (by assumption) h⟩
  | tree => exact ⟨rfl, fun _ => rfl⟩
  | grow => exact ⟨rfl, fun _ => rfl⟩
theorem CI.step {f : Nat → Nat} (h : CI s f) (ht : AT c k s s') (hk : k ≠ 7) : CI s' f := by
  have h1 := h.lt
  have h2 := h.nd
  have h3 := h.ct
  have h4 := h.z
  cases ht with
  | same => exact h
  | upd a b rd r r' L L' last hu =>
    obtain ⟨e1, e2⟩ := up_inst hu
    have e2 := e2 hk
    have hm : (rd, r) ∈ a ++ (rd, r) :: b := by simp
    have hin : ∀ x ∈ a ++ (rd, r') :: b, x = (rd, r') ∨ x ∈ a ++ (rd, r) :: b := fun x hx => by
      rcases List.mem_append.1 hx with hx | hx
      · exact .inr (by simp [hx])
      · rcases List.mem_cons.1 hx with hx | hx
        · exact .inl hx
        · exact .inr (by simp [hx])
    refine ⟨fun x hx => ?_, ?_, fun x hx => ?_, h4⟩
    · rcases hin x hx with rfl | hx
      · show r'.inst ≤ last; rw [e1]; exact h1 _ hm
      · exact h1 x hx
    · have e : (a ++ (rd, r') :: b).map (fun x => x.2.inst) = (a ++ (rd, r) :: b).map (fun x => x.2.inst) := by simp [e1]
      show ((a ++ (rd, r') :: b).map (fun x => x.2.inst)).Nodup
      rw [e]; exact h2
    · rcases hin x hx with rfl | hx
      · show f r'.inst = r'.ctr; rw [e1, e2]; exact h3 _ hm
      · exact h3 x hx
  | del a b rd r L last =>
    have hsub : ∀ x ∈ a ++ b, x ∈ a ++ (rd, r) :: b := fun x hx => by rcases List.mem_append.1 hx with hx | hx <;> simp [hx]
    refine ⟨fun x hx => h1 x (hsub x hx), ?_, fun x hx => h3 x (hsub x hx), h4⟩
    have : ((a ++ (rd, r) :: b).map (fun x => x.2.inst)).Nodup := h2
    rw [List.map_append, List.map_cons] at this
    show ((a ++ b).map (fun x => x.2.inst)).Nodup
    rw [List.map_append]
    exact this.sublist (List.Sublist.append_left (List.sublist_cons_self _ _) _)
  | new l last L rd root V nodes tree hV =>
    refine ⟨fun x hx => ?_, ?_, fun x hx => ?_, fun j hj => h4 j (by have : last + 1 < j := hj; show last < j; omega)⟩
    · rcases List.mem_append.1 hx with hx | hx
      · exact Nat.le_succ_of_le (h1 x hx)
      · rw [List.mem_singleton.1 hx]; exact Nat.le_refl _
    · show ((l ++ [(rd, newR c L (last + 1) root V nodes tree)]).map (fun x => x.2.inst)).Nodup
      rw [List.map_append, List.nodup_append]
      refine ⟨h2, by simp, fun x hx y hy e => ?_⟩
      obtain ⟨z, hz, rfl⟩ := List.mem_map.1 hx
      have hy' : y = last + 1 := by simpa [newR] using hy
      have := h1 z hz
      have : z.2.inst ≤ last := this
      omega
    · rcases List.mem_append.1 hx with hx | hx
      · exact h3 x hx
      · rw [List.mem_singleton.1 hx]; exact h4 (last + 1) (Nat.lt_succ_self _)
theorem CI.next {f : Nat → Nat} (h : CI s f) (hs : s.l = sa ++ (rd, r) :: sb) : CI ⟨sa ++ (rd, { r with ctr := r.ctr + 1 }) :: sb, s.last, s.L⟩ (fun k => if k = r.inst then r.ctr + 1 else f k) ∧ f r.inst = r.ctr ∧ r.inst ≤ s.last := by
  have h1 := h.lt
  have h2 := h.nd
  have h3 := h.ct
  rw [hs] at h1 h2 h3
  have hm : (rd, r) ∈ sa ++ (rd, r) :: sb := by simp
  have hlt : r.inst ≤ s.last := h1 _ hm
  rw [List.map_append, List.map_cons, List.nodup_append] at h2
  obtain ⟨n1, n2, n3⟩ := h2
  rw [List.nodup_cons] at n2
  refine ⟨⟨fun x hx => ?_, ?_, fun x hx => ?_, fun j hj => ?_⟩, h3 _ hm, hlt⟩
  · rcases List.mem_append.1 hx with hx | hx
    · exact h1 x (by simp [hx])
    · rcases List.mem_cons.1 hx with rfl | hx
      · exact hlt
      · exact h1 x (by simp [hx])
  · show ((sa ++ (rd, { r with ctr := r.ctr + 1 }) :: sb).map (fun x => x.2.inst)).Nodup
    rw [List.map_append, List.map_cons, List.nodup_append]
    exact ⟨n1, List.nodup_cons.2 n2, n3⟩
  · rcases List.mem_append.1 hx with hx | hx
    · have hne : x.2.inst ≠ r.inst := n3 x.2.inst (List.mem_map.2 ⟨x, hx, rfl⟩) r.inst (by simp)
      simp only [if_neg hne]; exact h3 x (by simp [hx])
    · rcases List.mem_cons.1 hx with rfl | hx
      · simp
      · have hne : x.2.inst ≠ r.inst := fun e => n2.1 (by rw [← e]; exact List.mem_map.2 ⟨x, hx, rfl⟩)
        simp only [if_neg hne]; exact h3 x (by simp [hx])
  · have hj' : s.last < j := hj
    have hne : j ≠ r.inst := by omega
    simp only [if_neg hne]; exact h.z j hj'
end
end Go.Proofs.YtekbppfocnbhbaaGreat.XC

namespace Go.Proofs.YtekbppfocnbhbaaGreat.XC
open Go.RowKit
open Go.ChangeMaps (setBlock heap_setBlock_same heap_setBlock_other)

section
variable {c : Cx} {rb tn last last' : Nat} {L R R' L' : Lg} {C C2 D I J : Nat → Prop} {X Y Y' Z W w : World} {rl rl' l l' : List En} {av av' : Value} {a : Ac} {s s' : Am} {k : Int} {N pb mb q g o : Nat} {rd : Int} {ks ks' : List Nat} {f f' : Nat → Nat}
theorem JA.low (h : JA c rb s C X) : c.n ≤ X.heap.size := by
  obtain ⟨I, l, rl, av, tn, h⟩ := h
  exact h.jr.jp.mm.low.2
structure RB (w : World) (c : Cx) (rb : Nat) (s : Am) (C : Nat → Prop) (pb mb : Nat) (ks : List Nat) (f : Nat → Nat) (X : World) : Prop where
  ja : JA c rb s C X
  cw : c.w = w
  cp : C pb
  cm : C mb
  ne : pb ≠ mb
  cn : ∀ k, C k → c.n ≤ k
  pr : X.heap[pb]? = some (.cells (prL c rb).toArray 29 (0, 0))
  mu : MU X mb ks f
theorem RB.bel (h : RB w c rb s C pb mb ks f X) : Below w.heap.size w X := by
  have := h.ja.bel
  rwa [h.cw] at this
theorem RB.step (h : RB w c rb s C pb mb ks f X) (hb : Below X.heap.size X Y) : RB w c rb s C pb mb ks f Y :=
  ⟨h.ja.below hb, h.cw, h.cp, h.cm, h.ne, h.cn, (hb.block pb (h.ja.lt h.cp)).trans h.pr, h.mu.keep (hb.block mb (h.ja.lt h.cm))⟩
theorem RB.call (h : RB w c rb s C pb mb ks f X) (ja : JA c rb s' C Y) (hk : ∀ k, C k → Y.heap[k]? = X.heap[k]?) : RB w c rb s' C pb mb ks f Y :=
  ⟨ja, h.cw, h.cp, h.cm, h.ne, h.cn, (hk pb h.cp).trans h.pr, h.mu.keep (hk mb h.cm)⟩
theorem RB.sub (h : RB w c rb s C pb mb ks f X) (hD : ∀ k, D k → C k) (dp : D pb) (dm : D mb) : RB w c rb s D pb mb ks f X :=
  ⟨h.ja.sub hD, h.cw, dp, dm, h.ne, fun k hk => h.cn k (hD k hk), h.pr, h.mu⟩
theorem RB.new (h : RB w c rb s C pb mb ks f X) (hb : Below X.heap.size X Y) (hq : X.heap.size ≤ q ∧ q < Y.heap.size) : RB w c rb s (fun k => C k ∨ k = q) pb mb ks f Y := by
  have h1 := h.step hb
  refine ⟨(h.ja.new hb).sub (fun k hk => hk.elim .inl (fun e => .inr (e ▸ hq))), h.cw, .inl h.cp, .inl h.cm, h.ne, fun k hk => ?_, h1.pr, h1.mu⟩
  rcases hk with hk | rfl
  · exact h.cn k hk
  · have := h.ja.low; omega
theorem RB.put (h : RB w c rb s C pb mb ks f X) (hg : X.grownBy Y (some mb)) (hm : MU Y mb ks' f') : RB w c rb s C pb mb ks' f' Y ∧ ∀ k, k < X.heap.size → k ≠ mb → Y.heap[k]? = X.heap[k]? := by
  obtain ⟨g1, g2, g3, g4, g5⟩ := hg
  have hbl : ∀ k, k < X.heap.size → k ≠ mb → Y.heap[k]? = X.heap[k]? := fun k hk hn => g5 k hk (fun e => hn (Option.some.inj e))
  refine ⟨⟨h.ja.write h.cn ⟨g1, g2, g3, g4, fun k hk hn => hbl k hk (fun e => hn (e ▸ h.cm))⟩, h.cw, h.cp, h.cm, h.ne, h.cn, (hbl pb (h.ja.lt h.cp) h.ne).trans h.pr, hm⟩, hbl⟩
structure SQ (c : Cx) (rb pb g o : Nat) (rd : Int) (W : World) : Prop where
  c1 : W.cell? ⟨pb, 1, none⟩ = some (.pointer (some ⟨c.xb, 0, none⟩))
  c2 : W.cell? ⟨pb, 2, none⟩ = some (.pointer (some ⟨rb, 0, none⟩))
  k1 : W.cell? ⟨g, o + 1, none⟩ = some (.int .i64 rd)
theorem sq_mk (hp : W.heap[pb]? = some (.cells (prL c rb).toArray 29 (0, 0))) (hb : Below w.heap.size w W) (hr : w.rangeAt g o (acL a)) : SQ c rb pb g o a.rd W :=
  ⟨by rw [cell_of_row _ _ _ _ _ _ hp]; rfl, by rw [cell_of_row _ _ _ _ _ _ hp]; rfl, R5.rangeAt_below hr hb 1 _ rfl⟩
theorem RB.sq (h : RB w c rb s C pb mb ks f X) (hr : w.rangeAt g o (acL a)) : SQ c rb pb g o a.rd X := sq_mk h.pr h.bel hr
structure SA (c : Cx) (rb pb g o : Nat) (AL : List Value) (W : World) : Prop where
  pr : W.heap[pb]? = some (.cells (prL c rb).toArray 29 (0, 0))
  ra : W.rangeAt g o AL
theorem RB.sa (h : RB w c rb s C pb mb ks f X) (hr : w.rangeAt g o (acL a)) : SA c rb pb g o (acL a) X := ⟨h.pr, R5.rangeAt_below hr h.bel⟩
theorem bd_start : Bd 0 ⟨[], 0, []⟩ := ⟨Nat.le_refl _, Nat.le_refl _, Nat.le_refl _, fun x hx => (List.not_mem_nil hx).elim⟩
end
end Go.Proofs.YtekbppfocnbhbaaGreat.XC

namespace Go.Proofs.YtekbppfocnbhbaaGreat.XC
open Go.RowKit
open Go.ChangeMaps (setBlock heap_setBlock_same heap_setBlock_other)

theorem ac_k0 {w W : World} {g o : Nat} {a : Ac} (hr : w.rangeAt g o (acL a)) (hb : Below w.heap.size w W) : W.cell? ⟨g, o, none⟩ = some (.int .i64 a.kind) := R5.rangeAt_below hr hb 0 _ rfl
end Go.Proofs.YtekbppfocnbhbaaGreat.XC
