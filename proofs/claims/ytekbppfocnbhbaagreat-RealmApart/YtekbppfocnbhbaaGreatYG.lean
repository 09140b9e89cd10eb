import Derived.Test.YtekbppfocnbhbaaGreatYD
set_option linter.unusedVariables false
set_option linter.unusedSimpArgs false
set_option maxHeartbeats 16000000
set_option maxRecDepth 100000
namespace Go.Proofs.YtekbppfocnbhbaaGreat.XC
open Go.RowKit
theorem lgC_app (a b : List Rd) : lgC (a ++ b) = lgC a ++ lgC b := by unfold lgC; rw [List.flatMap_append]
theorem HR.range {w : World} {v : Value} {l : List Rd} (h : HR w v l) (hok : ∀ x ∈ l, x.ok) {i : Nat} {x : Rd} (hx : l[i]? = some x) : ∃ g cap, v = .slice (some ⟨g, 0, none⟩) l.length cap ∧ w.rangeAt g (i * 172) (rdL x) := by
  rcases h with ⟨_, rfl⟩ | ⟨g, cap, e, hc⟩
  · simp at hx
  · refine ⟨g, cap, e, fun j u hu => hc _ u ?_⟩
    obtain ⟨a, b, rfl, rfl⟩ := split_j hx
    have hj : j < (rdL x).length := (List.getElem?_eq_some_iff.1 hu).1
    have ha : ∀ y ∈ a, y.ok := fun y hy => hok y (by simp [hy])
    rw [show a ++ x :: b = (a ++ [x]) ++ b by simp, lgC_app, lgC_snoc, List.getElem?_append_left (by rw [List.length_append, lgC_len ha]; omega), List.getElem?_append_right (by rw [lgC_len ha]; omega), lgC_len ha, Nat.add_sub_cancel_left, hu]
theorem neq_exec (ev : Operand → Value) (o : Oper) (x y : Operand) (ho : o.op = .binOp .neq 69 x y 69) (w : World) (r : Rd) (h : r.ok) (hx : ev x = .agg (rdL r).toArray) (hy : ev y = .agg (rdL r).toArray) : (execOp ev o).run Tryz.prog w = .ok (.value (.bool false)) w := by
  have h0 : (rdL r)[0]? = some (.int .i64 r.kind) := rfl
  have h33 := rdL_33 h
  have hv := rdL_val h
  have hd := rdL_dat h
  have hr := rdL_rec h
  have e1 : (Op.equalIn 9999 33 (.agg (r.value.map B8).toArray) (.agg (r.value.map B8).toArray)).run Tryz.prog w = .ok true w := by
    rw [show true = (r.value == r.value) by simp]
    exact run_equalIn_bytes (P := Tryz.prog) w 9997 33 5 32 Tryz.underlying33 Tryz.underlying5 PC.size_u8 r.value r.value h.v h.v
  have e2 : (Op.equalIn 9999 38 (.agg (r.data.map B8).toArray) (.agg (r.data.map B8).toArray)).run Tryz.prog w = .ok true w := by
    rw [show true = (r.data == r.data) by simp]
    exact run_equalIn_bytes (P := Tryz.prog) w 9997 38 5 128 Tryz.underlying38 Tryz.underlying5 PC.size_u8 r.data r.data h.d h.d
  have g0 : (PC.rcL r.pc r.rs r.run)[0]? = some (.int .u64 (r.pc : Int)) := PC.rcL_pc r.pc r.rs r.run
  have gtk := PC.rcL_rs r.pc r.rs r.run h.s
  have g9 : (PC.rcL r.pc r.rs r.run)[9]? = some (.bool r.run) := PC.rcL_b r.pc r.rs r.run h.s
  have e3 : (Op.equalIn 9998 39 (.agg (r.rs.map PC.U8).toArray) (.agg (r.rs.map PC.U8).toArray)).run Tryz.prog w = .ok true w := PC.eq_ints_self (P := Tryz.prog) w 9995 39 34 8 .u64 Tryz.underlying39 Tryz.underlying34 PC.size_u64 (r.rs.map PC.U8) (by simpa using h.s) (fun v hv => by obtain ⟨x, _, rfl⟩ := List.mem_map.1 hv; exact ⟨_, rfl⟩)
  have hs8 := PC.size_r8
  have hsd := PC.size_dg
  have hsg : ∀ w, (sizeOf 38).run Tryz.prog w = .ok 128 w := fun w => by kernel_rfl
  have hsr : ∀ w, (sizeOf 41).run Tryz.prog w = .ok 10 w := fun w => by kernel_rfl
  unfold execOp
  rw [ho]
  generalize rdL r = PL at *
  generalize PC.rcL r.pc r.rs r.run = RL at *
  generalize r.value.map B8 = VL at *
  generalize r.data.map B8 = DL at *
  generalize r.rs.map PC.U8 = SL at *
  go_simp
theorem samelog_eq (va vb : Value) (l : List Rd) (w : World) (hl : l.length < 1000000) (hok : ∀ x ∈ l, x.ok) (ha : HR w va l) (hb : HR w vb l) :
    Calls Tryz.prog 22 #[va, vb] w fun e w' => e = .returned (.bool true) ∧ Below w.heap.size w w' := by
  obtain ⟨pa, ca, hva⟩ := ha.form
  obtain ⟨pb, cb, hvb⟩ := hb.form
  subst hva hvb
  have HRA : Hid (∀ i x, l[i]? = some x → ∃ g, pa = some ⟨g, 0, none⟩ ∧ w.rangeAt g (i * 172) (rdL x)) := fun i x hx => by
    obtain ⟨g, cap, e, hr⟩ := ha.range hok hx
    injection e with e1 e2 e3
    exact ⟨g, e1, hr⟩
  have HRB : Hid (∀ i x, l[i]? = some x → ∃ g, pb = some ⟨g, 0, none⟩ ∧ w.rangeAt g (i * 172) (rdL x)) := fun i x hx => by
    obtain ⟨g, cap, e, hr⟩ := hb.range hok hx
    injection e with e1 e2 e3
    exact ⟨g, e1, hr⟩
  have HOK : Hid (∀ x ∈ l, x.ok) := hok
  obtain ⟨N, hN⟩ : ∃ N, N = l.length := ⟨_, rfl⟩
  rw [← hN] at hl ⊢
  have HN : Hid (N = l.length) := hN
  have hq : ((N : Int) != (N : Int)) = false := by simp
  clear ha hb hok hN
  go_enter Tryz.func22, Tryz.ntmps22
  go_wp2
  go_loopw [5] (fun i wr => ∃ k : Nat, k ≤ N ∧ i = .int .i64 k ∧ Below w.heap.size w wr) (fun i _ => N - (intOf i).toNat)
  case atStart => exact ⟨0, Nat.zero_le _, rfl, Below.refl _ _⟩
  case round =>
    obtain ⟨k, hk, rfl, hb⟩ := hrel
    by_cases hlt : k < N
    · have hkI : (k : Int) < (N : Int) := by omega
      obtain ⟨x, hx⟩ : ∃ x, l[k]? = some x := ⟨_, List.getElem?_eq_getElem (by rw [← HN.out]; exact hlt)⟩
      obtain ⟨ga, hpa, ra⟩ := HRA.out k x hx
      obtain ⟨gb, hpb, rb⟩ := HRB.out k x hx
      have hxo := HOK.out x (List.mem_of_getElem? hx)
      subst hpa hpb
      have HXA : Hid (w.rangeAt ga (k * 172) (rdL x)) := ra
      have HXB : Hid (w.rangeAt gb (k * 172) (rdL x)) := rb
      have HI : Hid _ := info172 (rdL x) (rdL_len hxo)
      have HEQ : Hid (∀ ev o y z W, o.op = .binOp .neq 69 y z 69 → ev y = .agg (rdL x).toArray → ev z = .agg (rdL x).toArray → (execOp ev o).run Tryz.prog W = .ok (.value (.bool false)) W) := fun ev o y z W h0 h1 h2 => neq_exec ev o y z h0 W x hxo h1 h2
      have HUR : Hid _ := Tryz.underlying69
      have HBd : Hid (Below w.heap.size w wr.drew) := hb.drew
      clear ra rb hxo hx HRA HRB HOK HN hb
      generalize rdL x = XL at *
      go_wp2
      refine wp_region_held_drew (S := fun w' => Below w.heap.size w w') (by kernel_rfl) HBd.out (fun hHeld => ?_)
      generalize wr.drew = W at *
      refine qzI 0 ⟨some 17, .move (.tmp 0), 45, _, #[], none⟩ (.slice (some ⟨ga, 0, none⟩) N ca) rfl (by kernel_rfl) (fun _ _ _ h => h) (by rfl) (fun w' hw' => ?_) hHeld ?_
      · go_simp <;> rfl
      try simp only [Act.put, qT, q0, qS]
      refine qzI 1 ⟨some 18, .move (.tmp 5), 3, _, #[], none⟩ (.int .i64 (k : Int)) rfl (by kernel_rfl) (fun _ _ _ h => h) (by rfl) (fun w' hw' => ?_) hHeld ?_
      · go_simp <;> rfl
      try simp only [Act.put, qT, q0, qS]
      refine qzI 2 ⟨some 19, .indexAddr 45 (.tmp 17) (.tmp 18), 0, _, #[⟨0, .data⟩, ⟨1, .data⟩], none⟩ (.pointer (some ⟨ga, k * 172, none⟩)) rfl (by kernel_rfl) (fun _ _ _ h => h) (by rfl) (fun w' hw' => ?_) hHeld ?_
      · go_simp <;> rfl
      try simp only [Act.put, qT, q0, qS]
      refine qzK 3 ⟨some 20, .load 69 (.tmp 19), 69, _, #[⟨2, .data⟩], none⟩ _ rfl (by kernel_rfl) (fun _ _ _ h => h) (yieldsIf_load_mid (by rfl) 69 (.tmp 19) rfl (ga) (k * 172) rfl (XL) _ (fun _ h => PC.rangeAt_below HXA.out h) HUR.out rfl HI.out) hHeld ?_
      try simp only [Act.put, qT, q0, qS]
      refine qzI 4 ⟨some 21, .move (.tmp 1), 45, _, #[], none⟩ (.slice (some ⟨gb, 0, none⟩) N cb) rfl (by kernel_rfl) (fun _ _ _ h => h) (by rfl) (fun w' hw' => ?_) hHeld ?_
      · go_simp <;> rfl
      try simp only [Act.put, qT, q0, qS]
      refine qzI 5 ⟨some 22, .move (.tmp 5), 3, _, #[], none⟩ (.int .i64 (k : Int)) rfl (by kernel_rfl) (fun _ _ _ h => h) (by rfl) (fun w' hw' => ?_) hHeld ?_
      · go_simp <;> rfl
      try simp only [Act.put, qT, q0, qS]
      refine qzI 6 ⟨some 23, .indexAddr 45 (.tmp 21) (.tmp 22), 0, _, #[⟨4, .data⟩, ⟨5, .data⟩], none⟩ (.pointer (some ⟨gb, k * 172, none⟩)) rfl (by kernel_rfl) (fun _ _ _ h => h) (by rfl) (fun w' hw' => ?_) hHeld ?_
      · go_simp <;> rfl
      try simp only [Act.put, qT, q0, qS]
      refine qzK 7 ⟨some 24, .load 69 (.tmp 23), 69, _, #[⟨6, .data⟩], none⟩ _ rfl (by kernel_rfl) (fun _ _ _ h => h) (yieldsIf_load_mid (by rfl) 69 (.tmp 23) rfl (gb) (k * 172) rfl (XL) _ (fun _ h => PC.rangeAt_below HXB.out h) HUR.out rfl HI.out) hHeld ?_
      try simp only [Act.put, qT, q0, qS]
      refine qzI 8 ⟨some 25, .binOp .neq 69 (.tmp 20) (.tmp 24) 69, 4, _, #[⟨3, .data⟩, ⟨7, .data⟩], none⟩ (.bool false) rfl (by kernel_rfl) (fun _ _ _ h => h) (by rfl) (fun w' hw' => ?_) hHeld ?_
      · exact HEQ.out _ _ _ _ w' rfl rfl rfl
      try simp only [Act.put, qT, q0, qS]
      refine wpAnyH_done (by kernel_rfl) ?_ _
      go_wp2
      go_roundw
      case rel => exact ⟨k + 1, by omega, by go_num, hHeld⟩
      case measure => simp [intOf]; omega
    · have hkI : ¬ (k : Int) < (N : Int) := by omega
      have HBb : Hid (Below w.heap.size w wr) := hb
      clear HRA HRB HOK HN hb
      go_wp2
      go_ret
      exact ⟨rfl, HBb.out⟩
theorem rmL_keyS {r : Rm} (h : r.ok) (lv : Value) : ((rmL r lv).drop 37).take 32 = r.key.map B8 := by
  have e : rmL r lv = ([PC.U8 r.inst, .int .i64 r.st, .int .i64 r.root, PC.U8 r.nodes] ++ r.meas.map B8 ++ [lv]) ++ (r.key.map B8 ++ PC.U8 r.ctr :: (r.tree.map B8 ++ [.int .i64 (r.recs : Int)])) := by simp [rmL]
  rw [e]; exact seg_app _ _ _ 37 32 (by simp [h.m]) (by simp [h.k])
theorem rmL_treeS {r : Rm} (h : r.ok) (lv : Value) : ((rmL r lv).drop 70).take 32 = r.tree.map B8 := by
  have e : rmL r lv = ([PC.U8 r.inst, .int .i64 r.st, .int .i64 r.root, PC.U8 r.nodes] ++ r.meas.map B8 ++ (lv :: r.key.map B8) ++ [PC.U8 r.ctr]) ++ (r.tree.map B8 ++ [.int .i64 (r.recs : Int)]) := by simp [rmL]
  rw [e]; exact seg_app _ _ _ 70 32 (by simp [h.m, h.k]) (by simp [h.t])
theorem same_eq (r : Rm) (la lb : Value) (w : World) (hok : r.ok) (hl : r.log.length < 1000000) (ha : HR w la r.log) (hb : HR w lb r.log) :
    Calls Tryz.prog 14 #[.agg (rmL r la).toArray, .agg (rmL r lb).toArray] w fun e w' => e = .returned (.bool true) ∧ Below w.heap.size w w' := by
  obtain ⟨pa, ca, hla⟩ := ha.form
  obtain ⟨pb, cb, hlb⟩ := hb.form
  obtain ⟨AL, hAL⟩ : ∃ L, L = rmL r la := ⟨_, rfl⟩
  obtain ⟨BL, hBL⟩ : ∃ L, L = rmL r lb := ⟨_, rfl⟩
  rw [← hAL, ← hBL]
  obtain ⟨w1, hw1⟩ : ∃ w1, w1 = (w.alloc (.cells AL.toArray 47 (0, 0))).alloc (.cells BL.toArray 47 (0, 0)) := ⟨_, rfl⟩
  obtain ⟨hb1, hs1, hr0, hr1⟩ := alloc_two w AL.toArray BL.toArray 47 w1 hw1
  have hc0 : w1.cell? ⟨w.heap.size, 36, none⟩ = some (.slice pa r.log.length ca) := by rw [← hla]; exact (PC.rangeAt_row hr0 36 la (by rw [hAL]; exact rmL_36 hok la))
  have hc1 : w1.cell? ⟨w.heap.size + 1, 36, none⟩ = some (.slice pb r.log.length cb) := by rw [← hlb]; exact (PC.rangeAt_row hr1 36 lb (by rw [hBL]; exact rmL_36 hok lb))
  have HCL : Hid (Calls Tryz.prog 22 #[.slice pa r.log.length ca, .slice pb r.log.length cb] w1 fun e w' => e = .returned (.bool true) ∧ Below w1.heap.size w1 w') := by
    rw [← hla, ← hlb]; exact samelog_eq la lb r.log w1 hl hok.l (ha.below hb1) (hb.below hb1)
  have HFA : Hid (∀ W, Below w1.heap.size w1 W → W.rangeAt w.heap.size 0 (rmL r la) ∧ W.rangeAt (w.heap.size + 1) 0 (rmL r lb) ∧ Below w.heap.size w W) := fun W hW => by
    rw [← hAL, ← hBL]
    exact ⟨PC.rangeAt_row ((hW.block _ (by omega)).trans hr0), PC.rangeAt_row ((hW.block _ (by omega)).trans hr1), hb1.trans (hW.mono (by omega))⟩
  rw [hw1] at hc0 hc1 HCL HFA
  have HOK : Hid (r.ok) := hok
  clear hAL hBL hs1 hr0 hr1 hb1 hla hlb ha hb hok hw1 w1
  go_enter Tryz.func14, Tryz.ntmps14
  go_wp2_with fail
  refine Calls.mono HCL.out ?_
  rintro e W ⟨rfl, hW⟩
  obtain ⟨ra, rb, hbel⟩ := HFA.out W hW
  have hok := HOK.out
  have ma : W.rangeAt w.heap.size 4 (r.meas.map B8) := by have := PC.rangeAt_part ra 4 32; rwa [rmL_meas hok, Nat.zero_add] at this
  have mb : W.rangeAt (w.heap.size + 1) 4 (r.meas.map B8) := by have := PC.rangeAt_part rb 4 32; rwa [rmL_meas hok, Nat.zero_add] at this
  have ka : W.rangeAt w.heap.size 37 (r.key.map B8) := by have := PC.rangeAt_part ra 37 32; rwa [rmL_keyS hok, Nat.zero_add] at this
  have kb : W.rangeAt (w.heap.size + 1) 37 (r.key.map B8) := by have := PC.rangeAt_part rb 37 32; rwa [rmL_keyS hok, Nat.zero_add] at this
  have ta : W.rangeAt w.heap.size 70 (r.tree.map B8) := by have := PC.rangeAt_part ra 70 32; rwa [rmL_treeS hok, Nat.zero_add] at this
  have tb : W.rangeAt (w.heap.size + 1) 70 (r.tree.map B8) := by have := PC.rangeAt_part rb 70 32; rwa [rmL_treeS hok, Nat.zero_add] at this
  have a0 : W.cell? ⟨w.heap.size, 0, none⟩ = some (.int .u64 (r.inst : Int)) := ra 0 _ rfl
  have b0 : W.cell? ⟨w.heap.size + 1, 0, none⟩ = some (.int .u64 (r.inst : Int)) := rb 0 _ rfl
  have a1 : W.cell? ⟨w.heap.size, 1, none⟩ = some (.int .i64 r.st) := ra 1 _ rfl
  have b1 : W.cell? ⟨w.heap.size + 1, 1, none⟩ = some (.int .i64 r.st) := rb 1 _ rfl
  have a2 : W.cell? ⟨w.heap.size, 2, none⟩ = some (.int .i64 r.root) := ra 2 _ rfl
  have b2 : W.cell? ⟨w.heap.size + 1, 2, none⟩ = some (.int .i64 r.root) := rb 2 _ rfl
  have a3 : W.cell? ⟨w.heap.size, 3, none⟩ = some (.int .u64 (r.nodes : Int)) := ra 3 _ rfl
  have b3 : W.cell? ⟨w.heap.size + 1, 3, none⟩ = some (.int .u64 (r.nodes : Int)) := rb 3 _ rfl
  have a69 : W.cell? ⟨w.heap.size, 69, none⟩ = some (.int .u64 (r.ctr : Int)) := ra 69 _ (rmL_69 hok la)
  have b69 : W.cell? ⟨w.heap.size + 1, 69, none⟩ = some (.int .u64 (r.ctr : Int)) := rb 69 _ (rmL_69 hok lb)
  have a102 : W.cell? ⟨w.heap.size, 102, none⟩ = some (.int .i64 (r.recs : Int)) := ra 102 _ (rmL_102 hok la)
  have b102 : W.cell? ⟨w.heap.size + 1, 102, none⟩ = some (.int .i64 (r.recs : Int)) := rb 102 _ (rmL_102 hok lb)
  have HMa : Hid (W.rangeAt w.heap.size 4 (r.meas.map B8)) := ma
  have HMb : Hid (W.rangeAt (w.heap.size + 1) 4 (r.meas.map B8)) := mb
  have HKa : Hid (W.rangeAt w.heap.size 37 (r.key.map B8)) := ka
  have HKb : Hid (W.rangeAt (w.heap.size + 1) 37 (r.key.map B8)) := kb
  have HTa : Hid (W.rangeAt w.heap.size 70 (r.tree.map B8)) := ta
  have HTb : Hid (W.rangeAt (w.heap.size + 1) 70 (r.tree.map B8)) := tb
  have HIm : Hid _ := R5.info32 (r.meas.map B8) (by simpa using hok.m)
  have HIk : Hid _ := R5.info32 (r.key.map B8) (by simpa using hok.k)
  have HIt : Hid _ := R5.info32 (r.tree.map B8) (by simpa using hok.t)
  have heq : ∀ (l : List UInt8), l.length = 32 → ∀ V, (Op.equalIn 10000 33 (.agg (l.map B8).toArray) (.agg (l.map B8).toArray)).run Tryz.prog V = .ok true V := fun l h V => by
    rw [show true = (l == l) by simp]
    exact run_equalIn_bytes V 9998 33 5 32 Tryz.underlying33 Tryz.underlying5 PC.size_u8 l l h h
  have em := heq _ hok.m W
  have ek := heq _ hok.k W
  have et := heq _ hok.t W
  have HUD : Hid _ := Tryz.underlying33
  have HBL : Hid (Below w.heap.size w W) := hbel
  clear ra rb ma mb ka kb ta tb hok HOK HFA HCL hbel hW heq hc0 hc1
  generalize r.meas.map B8 = ML at *
  generalize r.key.map B8 = KL at *
  generalize r.tree.map B8 = TL at *
  generalize (r.inst : Int) = i0 at *
  generalize r.st = i1 at *
  generalize r.root = i2 at *
  generalize (r.nodes : Int) = i3 at *
  generalize (r.ctr : Int) = i4 at *
  generalize (r.recs : Int) = i5 at *
  go_wp2_with (first
    | (refine R5.load_mid_g (by rfl) 33 _ rfl w.heap.size 4 rfl ML _ HMa.out HUD.out rfl HIm.out ?_)
    | (refine R5.load_mid_g (by rfl) 33 _ rfl (w.heap.size + 1) 4 rfl ML _ HMb.out HUD.out rfl HIm.out ?_)
    | (refine R5.load_mid_g (by rfl) 33 _ rfl w.heap.size 37 rfl KL _ HKa.out HUD.out rfl HIk.out ?_)
    | (refine R5.load_mid_g (by rfl) 33 _ rfl (w.heap.size + 1) 37 rfl KL _ HKb.out HUD.out rfl HIk.out ?_)
    | (refine R5.load_mid_g (by rfl) 33 _ rfl w.heap.size 70 rfl TL _ HTa.out HUD.out rfl HIt.out ?_)
    | (refine R5.load_mid_g (by rfl) 33 _ rfl (w.heap.size + 1) 70 rfl TL _ HTb.out HUD.out rfl HIt.out ?_))
  go_ret
  exact ⟨rfl, HBL.out⟩
end Go.Proofs.YtekbppfocnbhbaaGreat.XC
