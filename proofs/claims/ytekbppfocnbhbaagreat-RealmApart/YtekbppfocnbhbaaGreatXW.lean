import Derived.Test.YtekbppfocnbhbaaGreatYD
set_option linter.unusedVariables false
set_option linter.unusedSimpArgs false
set_option maxHeartbeats 16000000
set_option maxRecDepth 100000
namespace Go.Proofs.YtekbppfocnbhbaaGreat.XC
open Go.RowKit
structure Kp (c : Cx) (l : List En) (I : Nat → Prop) (X : World) (k : Nat) (o : Obj) : Prop where
  i : I k
  nf : ¬ FP c.xb c.mb l k
  row : X.heap[k]? = some o
section
variable {c : Cx} {tn last last' : Nat} {L L' R : Lg} {I J : Nat → Prop} {X Y Z : World} {l l' a b : List En} {rd : Int} {r r' : Rm} {lv : Value} {k : Nat} {o : Obj}
theorem Kp.pd (h : Kp c l I X k o) (hd : PD c tn L' R I X Y l l' last' (fun _ => False)) (hJ : ∀ k, I k → J k) : Kp c l' J Y k o := by
  have hk := PC.row_lt h.row
  exact ⟨hJ k h.i, fun hf => (hd.sub k hf).elim h.nf (fun h2 => by omega), (hd.fr k hk h.i h.nf (fun h => h)).trans h.row⟩
theorem Kp.below (h : Kp c l I X k o) (hb : Below X.heap.size X Y) : Kp c l (up I X Y) Y k o := ⟨.inl h.i, h.nf, (hb.block k (PC.row_lt h.row)).trans h.row⟩
theorem Kp.new (h : JP c tn L R I X l last) (hb : Below X.heap.size X Y) (hk : X.heap.size ≤ k) (hr : Y.heap[k]? = some o) : Kp c l (up I X Y) Y k o := ⟨.inr ⟨hk, PC.row_lt hr⟩, fun hf => by have := h.px.top k hf; omega, hr⟩
theorem Kp.cell {A : Array Value} {t : TypeId} (h : Kp c l I X k (.cells A t (0, 0))) {j : Nat} {v : Value} (hv : A[j]? = some v) : X.cell? ⟨k, j, none⟩ = some v := by rw [cell_of_row _ _ _ _ _ _ h.row]; exact hv
end
theorem kp_store {c : Cx} {tn last : Nat} {L R : Lg} {I : Nat → Prop} {X : World} {l : List En} (h : JP c tn L R I X l last) (ZL NL : List Value) : ∀ V, V = (X.alloc (.cells ZL.toArray 47 (0, 0))).setRow X.heap.size NL.toArray → JP c tn L R (up I X V) V l last ∧ Kp c l (up I X V) V X.heap.size (.cells NL.toArray 47 (0, 0)) ∧ Below X.heap.size X V := by
  rintro V rfl
  have hb : Below X.heap.size X ((X.alloc (.cells ZL.toArray 47 (0, 0))).setRow X.heap.size NL.toArray) := below_setRow ((Below.refl _ _).alloc (Nat.le_refl _) _) (Nat.le_refl _) _
  exact ⟨h.grow hb, Kp.new h hb (Nat.le_refl _) (setRow_heap _ _ _ _ _ _ (heap_alloc_new _ _)), hb⟩
theorem known_any (w : World) : Calls Tryz.prog 8 #[] w fun e w' => e = .returned (.bool true) ∧ Below w.heap.size w w' := by
  have HBG : Hid (Calls Tryz.prog 9 #[.slice none 0 0] w fun e Y => BgEnd w [] e Y) := begin_any none 0 0 [] w (fun _ => rfl) (by simp) ⟨fun d hd => (List.not_mem_nil hd).elim, none, 0, rfl, fun i hi => by simp at hi⟩
  have hzr := fun W => zero_rm W
  obtain ⟨ZL, hZL⟩ : ∃ L, L = rmL zR (.slice none 0 0) := ⟨_, rfl⟩
  rw [← hZL] at hzr
  have HZS : Hid (ZL.toArray.size = 103) := by show _ = _; rw [hZL]; simpa using rmL_len zR_ok _
  have HZ1 : Hid (ZL.toArray.all (·.oneCell') = true) := by show _ = _; rw [hZL]; exact PC.onea (rmL_one _ _ rfl)
  have HZI : Hid ((Tryz.prog.info? 47).map (·.size) = some ZL.toArray.size) := info103a _ HZS.out
  have HZL : Hid (ZL = rmL zR (.slice none 0 0)) := hZL
  have HBP : Hid (∀ W, (Instr.build 36 #[]).run Tryz.prog W = .ok (.agg (PC.rpL PC.Z32 0).toArray) W) := PC.build_rp
  have HBD : Hid (∀ W, (Instr.build 33 #[]).run Tryz.prog W = .ok (.agg (PC.Z32.map B8).toArray) W) := R5.build_dig
  have HBG2 : Hid (∀ W, (Instr.build 38 #[]).run Tryz.prog W = .ok (.agg (PC.Z128.map B8).toArray) W) := PC.build_gr
  have h3 : iOk 3 := by unfold iOk; decide
  clear hZL
  go_enter Tryz.func8, Tryz.ntmps8
  go_wp2_with fail
  refine Calls.mono HBG.out ?_
  rintro e X0 ⟨c, rb, tn, I0, rfl, hcw, hcm, hcD, hJR⟩
  have hJ0 := hJR.jp
  clear hJR HBG
  have hb1 : Below X0.heap.size X0 (X0.alloc (.cells #[.pointer (some ⟨c.og, 0, none⟩), .pointer (some ⟨c.xb, 0, none⟩), .pointer (some ⟨rb, 0, none⟩)] 29 (0, 0))) := (Below.refl _ _).alloc (Nat.le_refl _) _
  have HJ1 : Hid (JP c tn [] [] (up I0 X0 (X0.alloc (.cells #[.pointer (some ⟨c.og, 0, none⟩), .pointer (some ⟨c.xb, 0, none⟩), .pointer (some ⟨rb, 0, none⟩)] 29 (0, 0)))) (X0.alloc (.cells #[.pointer (some ⟨c.og, 0, none⟩), .pointer (some ⟨c.xb, 0, none⟩), .pointer (some ⟨rb, 0, none⟩)] 29 (0, 0))) [] 0) := hJ0.grow hb1
  have HK1 : Hid (Kp c [] (up I0 X0 (X0.alloc (.cells #[.pointer (some ⟨c.og, 0, none⟩), .pointer (some ⟨c.xb, 0, none⟩), .pointer (some ⟨rb, 0, none⟩)] 29 (0, 0)))) (X0.alloc (.cells #[.pointer (some ⟨c.og, 0, none⟩), .pointer (some ⟨c.xb, 0, none⟩), .pointer (some ⟨rb, 0, none⟩)] 29 (0, 0))) X0.heap.size (.cells #[.pointer (some ⟨c.og, 0, none⟩), .pointer (some ⟨c.xb, 0, none⟩), .pointer (some ⟨rb, 0, none⟩)] 29 (0, 0))) := Kp.new hJ0 hb1 (Nat.le_refl _) (heap_alloc_new _ _)
  clear hJ0 hb1
  have hzp : ∀ W, (zeroValue 29).run Tryz.prog W = .ok (.agg #[.pointer none, .pointer none, .pointer none]) W := fun W => by kernel_rfl
  go_wp2_with (first
    | (refine PC.wpList_build rfl 36 _ rfl #[] (.agg (PC.rpL PC.Z32 0).toArray) (by simp) (HBP.out _) ?_)
    | (refine PC.wpList_build rfl 33 _ rfl #[] (.agg (PC.Z32.map B8).toArray) (by simp) (HBD.out _) ?_)
    | (go_at_call 16; fail))
  generalize (X0.alloc (.cells #[.pointer (some ⟨c.og, 0, none⟩), .pointer (some ⟨c.xb, 0, none⟩), .pointer (some ⟨rb, 0, none⟩)] 29 (0, 0))) = X1 at *
  generalize X0.heap.size = pb at *
  refine Calls.mono (cr_ok (rd := 3) (root := 4) HJ1.out PC.Z32 PC.z32_len 0 PC.Z32 PC.z32_len h3 (fun x hx => (List.not_mem_nil hx).elim) (by decide) (by decide) (by decide) (by simp)) ?_
  rintro e X2 ⟨lv1, v1, rfl, hcr⟩
  obtain ⟨J2, hJ2, hIJ2, _⟩ := hcr.ex
  have hK2 := HK1.out.pd hcr.pd hIJ2
  clear HJ1 HK1
  obtain ⟨r1, hr1⟩ : ∃ r1, r1 = newR c [] (0 + 1) 4 PC.Z32 0 PC.Z32 := ⟨_, rfl⟩
  rw [← hr1] at hJ2 hK2 hcr ⊢
  have hst1 : r1.st = 1 := by rw [hr1]; rfl
  have hin1 : r1.inst = 1 := by rw [hr1]; rfl
  have hrc1 : r1.recs = 0 := by rw [hr1]; rfl
  have hok1 : r1.ok := hJ2.px.ok (3, r1, lv1) (by simp)
  have HNN : Hid ((rmL r1 v1).length = 103) := rmL_len hok1 _
  have HN1 : Hid ((rmL r1 v1).toArray.all (·.oneCell') = true) := rmL_onea r1 hcr.hr
  have HI1 : Hid ((rmL r1 v1).toArray[0]? = some (.int .u64 1)) := by show _ = _; rw [List.getElem?_toArray, rmL_0, hin1]; rfl
  obtain ⟨N1, hN1⟩ : ∃ N1, N1 = rmL r1 v1 := ⟨_, rfl⟩
  rw [← hN1] at HNN HN1 HI1 ⊢
  have HRA : Hid ((X2.alloc (.cells ZL.toArray 47 (0, 0))).heap[X2.heap.size]? = some (.cells ZL.toArray 47 (0, 0))) := heap_alloc_new _ _
  have HNS : Hid (N1.toArray.size = 103) := by show _ = _; simpa using HNN.out
  have HNI : Hid ((Tryz.prog.info? 47).map (·.size) = some N1.toArray.size) := info103a _ HNS.out
  have HZN : Hid (ZL.toArray.size = N1.toArray.size) := HZS.out.trans HNS.out.symm
  obtain ⟨X3, hX3⟩ : ∃ V, V = (X2.alloc (.cells ZL.toArray 47 (0, 0))).setRow X2.heap.size N1.toArray := ⟨_, rfl⟩
  obtain ⟨hJ3, hA3, hb3⟩ := kp_store hJ2 ZL N1 X3 hX3
  have HJ3 : Hid (JP c tn (newL c [] (0 + 1) PC.Z32) [] (up J2 X2 X3) X3 ([] ++ [(3, r1, lv1)]) (0 + 1)) := hJ3
  have HA3 : Hid (Kp c ([] ++ [(3, r1, lv1)]) (up J2 X2 X3) X3 X2.heap.size (.cells N1.toArray 47 (0, 0))) := hA3
  have HK3 : Hid (Kp c ([] ++ [(3, r1, lv1)]) (up J2 X2 X3) X3 pb (.cells #[.pointer (some ⟨c.og, 0, none⟩), .pointer (some ⟨c.xb, 0, none⟩), .pointer (some ⟨rb, 0, none⟩)] 29 (0, 0))) := hK2.below hb3
  have hcp : X3.cell? ⟨pb, 1, none⟩ = some (.pointer (some ⟨c.xb, 0, none⟩)) := HK3.out.cell rfl
  have HST1 : Hid (r1.st = 1) := hst1
  have HRC1 : Hid (r1.recs = 0) := hrc1
  rw [hX3] at hcp
  clear hcr hJ2 hIJ2 hK2 hok1 hN1 hr1 hin1 hst1 hrc1 hJ3 hA3 hb3
  go_wp2_with (first
    | (refine wpList_store_row rfl 47 _ _ rfl X2.heap.size N1.toArray rfl rfl 47 ZL.toArray HRA.out HNI.out HZN.out HN1.out ?_)
    | (refine PC.wpList_build rfl 36 _ rfl #[] (.agg (PC.rpL PC.Z32 0).toArray) (by simp) (HBP.out _) ?_)
    | (refine PC.wpList_build rfl 33 _ rfl #[] (.agg (PC.Z32.map B8).toArray) (by simp) (HBD.out _) ?_)
    | (go_at_call 16; fail))
  rw [← hX3]
  clear hX3 hcp HRA HNI HZN HNS
  generalize X2.heap.size = ab at *
  refine Calls.mono (cr_err (rd := 3) (root := 5) HJ3.out PC.Z32 0 PC.Z32 7 (by decide) (fun {J W} hj => cf_is hj h3 r1 lv1 0 (.inr ⟨⟨[], [], rfl⟩, rfl⟩) (by decide) (by decide) rfl)) ?_
  rintro e X4 ⟨rfl, hb4⟩
  have hJ4 : JP c tn (newL c [] (0 + 1) PC.Z32) [] (up (up J2 X2 X3) X3 X4) X4 ([] ++ [(3, r1, lv1)]) (0 + 1) := HJ3.out.grow hb4
  have hA4 := HA3.out.below hb4
  have hK4 := HK3.out.below hb4
  clear HJ3 HA3 HK3
  rw [← HZL.out]
  have HRA : Hid ((X4.alloc (.cells ZL.toArray 47 (0, 0))).heap[X4.heap.size]? = some (.cells ZL.toArray 47 (0, 0))) := heap_alloc_new _ _
  obtain ⟨X5, hX5⟩ : ∃ V, V = (X4.alloc (.cells ZL.toArray 47 (0, 0))).setRow X4.heap.size ZL.toArray := ⟨_, rfl⟩
  obtain ⟨hJ5, _, hb5⟩ := kp_store hJ4 ZL ZL X5 hX5
  have hA5 := hA4.below hb5
  have hK5 := hK4.below hb5
  generalize up (up (up J2 X2 X3) X3 X4) X4 X5 = I5 at *
  have HJ5 : Hid (JP c tn (newL c [] (0 + 1) PC.Z32) [] I5 X5 ([] ++ [(3, r1, lv1)]) (0 + 1)) := hJ5
  have HA5 : Hid (Kp c ([] ++ [(3, r1, lv1)]) I5 X5 ab (.cells N1.toArray 47 (0, 0))) := hA5
  have HK5 : Hid (Kp c ([] ++ [(3, r1, lv1)]) I5 X5 pb (.cells #[.pointer (some ⟨c.og, 0, none⟩), .pointer (some ⟨c.xb, 0, none⟩), .pointer (some ⟨rb, 0, none⟩)] 29 (0, 0))) := hK5
  have hcp : X5.cell? ⟨pb, 1, none⟩ = some (.pointer (some ⟨c.xb, 0, none⟩)) := HK5.out.cell rfl
  rw [hX5] at hcp
  clear hJ4 hA4 hK4 hJ5 hA5 hK5 hb4 hb5
  go_wp2_with (first
    | (refine wpList_store_row rfl 47 _ _ rfl X4.heap.size ZL.toArray rfl rfl 47 ZL.toArray HRA.out HZI.out rfl HZ1.out ?_)
    | (go_at_call 28; fail))
  rw [← hX5]
  clear hX5 hcp HRA
  refine Calls.mono (act_ok (a := []) (b := []) HJ5.out h3 rfl HST1.out) ?_
  rintro e X6 ⟨lv2, rfl, hp6⟩
  obtain ⟨J6, hJ6, hIJ6⟩ := hp6.jp
  have hA6 := HA5.out.pd hp6 hIJ6
  have hK6 := HK5.out.pd hp6 hIJ6
  have HJ6 : Hid (JP c tn (newL c [] (0 + 1) PC.Z32) [] J6 X6 ([] ++ (3, { r1 with st := 2 }, lv2) :: []) (0 + 1)) := hJ6
  have HA6 : Hid (Kp c ([] ++ (3, { r1 with st := 2 }, lv2) :: []) J6 X6 ab (.cells N1.toArray 47 (0, 0))) := hA6
  have HK6 : Hid (Kp c ([] ++ (3, { r1 with st := 2 }, lv2) :: []) J6 X6 pb (.cells #[.pointer (some ⟨c.og, 0, none⟩), .pointer (some ⟨c.xb, 0, none⟩), .pointer (some ⟨rb, 0, none⟩)] 29 (0, 0))) := hK6
  have hcp : X6.cell? ⟨pb, 1, none⟩ = some (.pointer (some ⟨c.xb, 0, none⟩)) := HK6.out.cell rfl
  clear hp6 hJ6 hIJ6 hA6 hK6 HJ5 HA5 HK5
  go_wp2_with (first
    | (refine PC.wpList_build rfl 38 _ rfl #[] (.agg (PC.Z128.map B8).toArray) (by simp) (HBG2.out _) ?_)
    | (go_at_call 25; fail))
  refine Calls.mono (data_st (a := []) (b := []) HJ6.out 0 (by decide) (by decide) PC.Z128 h3 rfl (by show (2 : Int) ≠ 1; decide)) ?_
  rintro e X7 ⟨rfl, hb7⟩
  have HJ7 : Hid (JP c tn (newL c [] (0 + 1) PC.Z32) [] (up J6 X6 X7) X7 ([] ++ (3, { r1 with st := 2 }, lv2) :: []) (0 + 1)) := HJ6.out.grow hb7
  have HA7 : Hid (Kp c ([] ++ (3, { r1 with st := 2 }, lv2) :: []) (up J6 X6 X7) X7 ab (.cells N1.toArray 47 (0, 0))) := HA6.out.below hb7
  have HK7 : Hid (Kp c ([] ++ (3, { r1 with st := 2 }, lv2) :: []) (up J6 X6 X7) X7 pb (.cells #[.pointer (some ⟨c.og, 0, none⟩), .pointer (some ⟨c.xb, 0, none⟩), .pointer (some ⟨rb, 0, none⟩)] 29 (0, 0))) := HK6.out.below hb7
  have hcp : X7.cell? ⟨pb, 1, none⟩ = some (.pointer (some ⟨c.xb, 0, none⟩)) := HK7.out.cell rfl
  clear hb7 HJ6 HA6 HK6
  go_wp2_with fail
  refine Calls.mono (drop_ok (a := []) (b := []) HJ7.out h3 rfl HRC1.out) ?_
  rintro e X8 ⟨rfl, hp8⟩
  obtain ⟨J8, hJ8, hIJ8⟩ := hp8.jp
  have HA8 : Hid (Kp c ([] ++ []) J8 X8 ab (.cells N1.toArray 47 (0, 0))) := HA7.out.pd hp8 hIJ8
  have HK8 : Hid (Kp c ([] ++ []) J8 X8 pb (.cells #[.pointer (some ⟨c.og, 0, none⟩), .pointer (some ⟨c.xb, 0, none⟩), .pointer (some ⟨rb, 0, none⟩)] 29 (0, 0))) := HK7.out.pd hp8 hIJ8
  have HJ8 : Hid (JP c tn (newL c [] (0 + 1) PC.Z32) [] J8 X8 ([] ++ []) (0 + 1)) := hJ8
  have hcp : X8.cell? ⟨pb, 1, none⟩ = some (.pointer (some ⟨c.xb, 0, none⟩)) := HK8.out.cell rfl
  clear hp8 hJ8 hIJ8 HJ7 HA7 HK7
  go_wp2_with (first
    | (refine PC.wpList_build rfl 36 _ rfl #[] (.agg (PC.rpL PC.Z32 0).toArray) (by simp) (HBP.out _) ?_)
    | (refine PC.wpList_build rfl 33 _ rfl #[] (.agg (PC.Z32.map B8).toArray) (by simp) (HBD.out _) ?_)
    | (go_at_call 16; fail))
  have hlen : (newL c [] (0 + 1) PC.Z32).length < 900000 := by
    unfold newL
    have h1 := R5.nx_len c.D (R5.nx c.D [] (cq1 PC.Z32)).2 (cq2 c.m (0 + 1))
    have h2 := R5.nx_len c.D [] (cq1 PC.Z32)
    simp only [List.length_nil] at h2
    omega
  refine Calls.mono (cr_ok (rd := 3) (root := 4) HJ8.out PC.Z32 PC.z32_len 0 PC.Z32 PC.z32_len h3 (fun x hx => (List.not_mem_nil hx).elim) (by decide) (by decide) (by decide) hlen) ?_
  rintro e X9 ⟨lv3, v3, rfl, hcr⟩
  obtain ⟨J9, hJ9, hIJ9, _⟩ := hcr.ex
  have hA9 := HA8.out.pd hcr.pd hIJ9
  obtain ⟨r2, hr2⟩ : ∃ r2, r2 = newR c (newL c [] (0 + 1) PC.Z32) (0 + 1 + 1) 4 PC.Z32 0 PC.Z32 := ⟨_, rfl⟩
  rw [← hr2] at hJ9 hA9 hcr ⊢
  have hin2 : r2.inst = 2 := by rw [hr2]; rfl
  have hok2 : r2.ok := hJ9.px.ok (3, r2, lv3) (by simp)
  have HNN : Hid ((rmL r2 v3).length = 103) := rmL_len hok2 _
  have HN2 : Hid ((rmL r2 v3).toArray.all (·.oneCell') = true) := rmL_onea r2 hcr.hr
  have HI2 : Hid ((rmL r2 v3).toArray[0]? = some (.int .u64 2)) := by show _ = _; rw [List.getElem?_toArray, rmL_0, hin2]; rfl
  obtain ⟨N2, hN2⟩ : ∃ N2, N2 = rmL r2 v3 := ⟨_, rfl⟩
  rw [← hN2] at HNN HN2 HI2 ⊢
  have HRA : Hid ((X9.alloc (.cells ZL.toArray 47 (0, 0))).heap[X9.heap.size]? = some (.cells ZL.toArray 47 (0, 0))) := heap_alloc_new _ _
  have HNS : Hid (N2.toArray.size = 103) := by show _ = _; simpa using HNN.out
  have HNI : Hid ((Tryz.prog.info? 47).map (·.size) = some N2.toArray.size) := info103a _ HNS.out
  have HZN : Hid (ZL.toArray.size = N2.toArray.size) := HZS.out.trans HNS.out.symm
  obtain ⟨X10, hX10⟩ : ∃ V, V = (X9.alloc (.cells ZL.toArray 47 (0, 0))).setRow X9.heap.size N2.toArray := ⟨_, rfl⟩
  obtain ⟨hJ10, hB10, hb10⟩ := kp_store hJ9 ZL N2 X10 hX10
  have hA10 := hA9.below hb10
  have hc1 : X10.cell? ⟨ab, 0, none⟩ = some (.int .u64 1) := hA10.cell HI1.out
  have hc2 : X10.cell? ⟨X9.heap.size, 0, none⟩ = some (.int .u64 2) := hB10.cell HI2.out
  have HBEL : Hid (Below w.heap.size w X10) := by have := hJ10.mm.bel; rw [hcw] at this; exact this
  rw [hX10] at hc1 hc2 HBEL
  clear hcr hJ9 hIJ9 hA9 hok2 hN2 hr2 hin2 hJ10 hB10 hb10 hA10 HJ8 HA8 HK8 hX10 hcp hlen
  go_wp2_with (refine wpList_store_row rfl 47 _ _ rfl X9.heap.size N2.toArray rfl rfl 47 ZL.toArray HRA.out HNI.out HZN.out HN2.out ?_)
  go_ret
  exact ⟨rfl, HBEL.out⟩
end Go.Proofs.YtekbppfocnbhbaaGreat.XC
