/- realm: counts, the walk. -/
import Derived.Test.YtekbppfocnbhbaaGreatRp
import Derived.Test.YtekbppfocnbhbaaGreatRn
set_option linter.unusedVariables false
set_option linter.unusedSimpArgs false
namespace Go.Proofs.YtekbppfocnbhbaaGreat.XC
open Go.RowKit
open Go.ChangeMaps (setBlock heap_setBlock_same heap_setBlock_other)

theorem wpList_mapUpd {ops : Array Oper} {rest : List Oper} {op : Oper} {a : Act} {w w' : World} {Q : Exit → Act → World → Prop} (hgd : op.guard = none) (m x v : Operand) (t : TypeId) (ho : op.op = Op.mapUpdate t m x v) (mv kv vv : Value) (hm : a.eval m = mv) (hx : a.eval x = kv) (hv : a.eval v = vv)
    (hr : (Instr.mapUpdate t mv kv vv).run Tryz.prog w = .ok () w') (h : wpList Tryz.prog ops Q rest (a.put op.dst undef) w') : wpList Tryz.prog ops Q (op :: rest) a w :=
  wpList_plain hgd fun _ hK => R5.wp_mapUpd m x v t ho mv kv vv hm hx hv hr (hK _ _ h)
theorem ac_k0 {w W : World} {g o : Nat} {a : Ac} (hr : w.rangeAt g o (acL a)) (hb : Below w.heap.size w W) : W.cell? ⟨g, o, none⟩ = some (.int .i64 a.kind) := R5.rangeAt_below hr hb 0 _ rfl
set_option maxHeartbeats 8000000 in
set_option maxRecDepth 100000 in
theorem counts_walk (v : Value) (ls : List Ac) (w : World) (hl : ls.length ≤ 60) (hA : HAc w v ls) :
    Calls Tryz.prog 7 #[v] w fun e w' => e = .returned (.bool true) ∧ Below w.heap.size w w' := by
  obtain ⟨p, cap, rfl, hls⟩ := hA
  have HLS : Hid _ := hls
  have HBG : Hid (Calls Tryz.prog 9 #[.slice none 0 0] w fun e Y => BgEnd w [] e Y) := begin_any none 0 0 [] w (fun _ => rfl) (by simp) ⟨fun d hd => (List.not_mem_nil hd).elim, none, 0, rfl, fun i hi => by simp at hi⟩
  have hz := fun W => zero_rm W
  obtain ⟨ZL, hZL⟩ : ∃ L, L = rmL zR (.slice none 0 0) := ⟨_, rfl⟩
  rw [← hZL] at hz
  have HZS : Hid (ZL.toArray.size = 103) := by show _ = _; rw [hZL]; simpa using rmL_len zR_ok _
  have hlI : ¬ ((60 : Int) < (ls.length : Int)) := by omega
  have hzp : ∀ W, (zeroValue 29).run Tryz.prog W = .ok (.agg #[.pointer none, .pointer none, .pointer none]) W := fun W => by kernel_rfl
  have hmm := @run_makeMap Tryz.prog
  clear hZL hls
  go_enter Tryz.func7, Tryz.ntmps7
  go_wp2_with fail
  refine Calls.mono HBG.out ?_
  rintro e X0 ⟨c, rb, tn, I0, rfl, hcw, hcm, hcD, hJR⟩
  obtain ⟨X2, hX2⟩ : ∃ X2, X2 = (X0.alloc (.cells #[.pointer (some ⟨c.og, 0, none⟩), .pointer (some ⟨c.xb, 0, none⟩), .pointer (some ⟨rb, 0, none⟩)] 29 (0, 0))).alloc (.map #[] 0) := ⟨_, rfl⟩
  have HT0 : Hid (RB w c rb ⟨[], 0, []⟩ (fun k => k = X0.heap.size ∨ k = X0.heap.size + 1) X0.heap.size (X0.heap.size + 1) [] (fun _ => 0) X2) := rb_start hcw hJR rfl hX2
  have HX2 : Hid _ := hX2
  clear hcw hcm hcD hJR HBG hX2
  go_upto_region 5 with fail
  rw [← HX2.out]
  generalize X0.heap.size + 1 = mb at *
  generalize X0.heap.size = pb at *
  clear HX2
  go_wp2
  go_loopw [5] (fun i wr => ∃ (k : Nat) (s : Am) (f : Nat → Nat) (ks : List Nat), k ≤ ls.length ∧ i = .int .i64 k ∧ RB w c rb s (fun k => k = pb ∨ k = mb) pb mb ks f wr ∧ Bd k s ∧ CI s f) (fun i _ => ls.length - (intOf i).toNat)
  case atStart => exact ⟨0, _, _, _, Nat.zero_le _, rfl, HT0.out, bd_start, ci_start⟩
  case round =>
    clear HT0
    obtain ⟨k, s, f, ks, hk, rfl, hRB, hBd, hCI⟩ := hrel
    generalize wr = W at *
    have HT : Hid (RB w c rb s (fun k => k = pb ∨ k = mb) pb mb ks f W) := hRB
    have HBD : Hid (Bd k s) := hBd
    have HCI : Hid (CI s f) := hCI
    by_cases hlt : k < ls.length
    · have hkI : (k : Int) < (ls.length : Int) := by omega
      obtain ⟨ac, hac⟩ : ∃ ac, ls[k]? = some ac := ⟨_, List.getElem?_eq_getElem hlt⟩
      obtain ⟨hok, g, o, rfl, hra⟩ := HLS.out k ac hac
      have hk0 := ac_k0 hra hRB.bel
      have HRA : Hid (w.rangeAt g (o + k * 207) (acL ac)) := hra
      by_cases h7 : ac.kind = 7
      · rw [h7] at hk0
        obtain ⟨rd, hrd⟩ : ∃ rd, rd = ac.rd := ⟨_, rfl⟩
        obtain ⟨r, E, nv, s', hro, hcase, hget, hnx⟩ := nx_both hRB.ja hBd (by omega) hok.rd
        rw [← hrd] at hcase hget hnx
        have HRO : Hid r.ok := hro
        have HCS : Hid _ := hcase
        have HGET : Hid _ := hget
        have HNX : Hid _ := hnx
        have HSQR : Hid (∀ (X : World) (C : Nat → Prop) (s : Am) (ks : List Nat) (f : Nat → Nat), RB w c rb s C pb mb ks f X → SQ c rb pb g (o + k * 207) rd X) := fun X C s ks f h => by rw [hrd]; exact h.sq hra
        have HSQM : Hid (∀ X : World, X.heap[pb]? = some (.cells (prL c rb).toArray 29 (0, 0)) → Below w.heap.size w X → SQ c rb pb g (o + k * 207) rd X) := fun X h1 h2 => by rw [hrd]; exact sq_mk h1 h2 hra
        clear hro hcase hget hnx hrd hra hRB hBd hCI h7 hok
        go_upto_region 11 with fail
        clear hk0
        have HT1 : Hid (RB w c rb s (fun k => k = pb ∨ k = mb) pb mb ks f W.drew) := HT.out.step (Below.refl _ _).drew
        go_cut [6, 7] from 16 to 87 (fun px x X => ∃ q v', px = .pointer (some ⟨q, 0, none⟩) ∧ x = .int .i64 E ∧ RB w c rb s (fun k => (k = pb ∨ k = mb) ∨ k = q) pb mb ks f X ∧ X.heap[q]? = some (.cells (rmL r v').toArray 47 (0, 0)))
        case first =>
          clear HT
          refine wp_region_held_drew (S := SQ c rb pb g (o + k * 207) rd) (by kernel_rfl) (HSQR.out _ _ _ _ _ HT1.out) (fun hHeld => ?_)
          generalize World.drew _ = W1 at *
          have HSQ : Hid (∀ X, Below W1.heap.size W1 X → SQ c rb pb g (o + k * 207) rd X) := fun X hb => HSQR.out _ _ _ _ _ (HT1.out.step hb)
          have HGT : Hid (∀ X, Below W1.heap.size W1 X → Calls Tryz.prog 12 #[.pointer (some ⟨c.xb, 0, none⟩), .int .i64 rd] X fun e Y => GEnd X r E e Y) := fun X hb => HGET.out _ _ (HT1.out.step hb).ja
          refine wpAnyH_take (i := 0) (oi := ⟨some 36, .fieldAddr 29 (.tmp 3) 1, 0, _, #[], none⟩) (v := .pointer (some ⟨pb, 1, none⟩)) rfl (by kernel_rfl) (by kernel_rfl) (by kernel_rfl) (fun _ _ _ h => h) (Or.inl ⟨by rfl, fun w' hw' => ?_⟩) hHeld ?_
          · first | (go_simp; done) | (go_simp; rfl)
          try simp only [Act.put, qT, q0, qS]
          refine wpAnyH_take (i := 1) (oi := ⟨some 37, .load 26 (.tmp 36), 26, _, #[⟨0, .data⟩], none⟩) (v := .pointer (some ⟨c.xb, 0, none⟩)) rfl (by kernel_rfl) (by kernel_rfl) (by kernel_rfl) (fun _ _ _ h => h) (Or.inl ⟨by rfl, fun w' hw' => ?_⟩) hHeld ?_
          · have hcc := hw'.c1; first | (go_simp; done) | (go_simp; rfl)
          try simp only [Act.put, qT, q0, qS]
          refine wpAnyH_take (i := 2) (oi := ⟨some 38, .move (.tmp 0), 23, _, #[], none⟩) (v := .slice (some ⟨g, o, none⟩) ls.length cap) rfl (by kernel_rfl) (by kernel_rfl) (by kernel_rfl) (fun _ _ _ h => h) (Or.inl ⟨by rfl, fun w' hw' => ?_⟩) hHeld ?_
          · first | (go_simp; done) | (go_simp; rfl)
          try simp only [Act.put, qT, q0, qS]
          refine wpAnyH_take (i := 3) (oi := ⟨some 39, .move (.tmp 5), 3, _, #[], none⟩) (v := .int .i64 k) rfl (by kernel_rfl) (by kernel_rfl) (by kernel_rfl) (fun _ _ _ h => h) (Or.inl ⟨by rfl, fun w' hw' => ?_⟩) hHeld ?_
          · first | (go_simp; done) | (go_simp; rfl)
          try simp only [Act.put, qT, q0, qS]
          refine wpAnyH_take (i := 4) (oi := ⟨some 40, .indexAddr 23 (.tmp 38) (.tmp 39), 0, _, #[⟨2, .data⟩, ⟨3, .data⟩], none⟩) (v := .pointer (some ⟨g, o + k * 207, none⟩)) rfl (by kernel_rfl) (by kernel_rfl) (by kernel_rfl) (fun _ _ _ h => h) (Or.inl ⟨by rfl, fun w' hw' => ?_⟩) hHeld ?_
          · first | (go_simp; done) | (go_simp; rfl) | (go_simp; intro hbad; omega)
          try simp only [Act.put, qT, q0, qS]
          refine wpAnyH_take (i := 5) (oi := ⟨some 41, .fieldAddr 43 (.tmp 40) 1, 0, _, #[⟨4, .data⟩], none⟩) (v := .pointer (some ⟨g, o + k * 207 + 1, none⟩)) rfl (by kernel_rfl) (by kernel_rfl) (by kernel_rfl) (fun _ _ _ h => h) (Or.inl ⟨by rfl, fun w' hw' => ?_⟩) hHeld ?_
          · first | (go_simp; done) | (go_simp; rfl)
          try simp only [Act.put, qT, q0, qS]
          refine wpAnyH_take (i := 6) (oi := ⟨some 42, .load 3 (.tmp 41), 3, _, #[⟨5, .data⟩], none⟩) (v := .int .i64 rd) rfl (by kernel_rfl) (by kernel_rfl) (by kernel_rfl) (fun _ _ _ h => h) (Or.inl ⟨by rfl, fun w' hw' => ?_⟩) hHeld ?_
          · have hcc := hw'.k1; first | (go_simp; done) | (go_simp; rfl)
          try simp only [Act.put, qT, q0, qS]
          refine wpAnyH_ready (rs := [7, 11]) (by kernel_rfl) (by simp) ?_
          refine AllReadyH.cons (o := { dst := some 43, op := .call { callee := Go.Callee.value (.func 12), args := #[.tmp 37, .tmp 42], argTypes := #[26, 3] }, type := 49, pos := _, after := #[⟨1, .data⟩, ⟨6, .data⟩], guard := none }) rfl (fun K hK => ?_) (AllReadyH.cons (o := ⟨some 6, .alloc 47, 0, _, #[], none⟩) rfl (fun K hK => ?_) AllReadyH.nil)
          all_goals rw [if_pos (by rfl)]
          · skip
            go_wp2_with fail
            refine Calls.mono (HGT.out W1 (Below.refl _ _)) ?_
            rintro e W2 ⟨v', rfl, hown, hb2⟩
            have hok := HRO.out
            have HNN : Hid ((rmL r v').length = 103) := rmL_len hok _
            have HN1 : Hid ((rmL r v').toArray.all (·.oneCell') = true) := rmL_onea r (HO.hr hown)
            obtain ⟨NL, hNL⟩ : ∃ NL, NL = rmL r v' := ⟨_, rfl⟩
            rw [← hNL] at HNN HN1 ⊢
            have HNL : Hid (NL = rmL r v') := hNL
            have HNS : Hid (NL.toArray.size = 103) := by show _ = _; simpa using HNN.out
            have HNI : Hid ((Tryz.prog.info? 47).map (·.size) = some NL.toArray.size) := info103a _ HNS.out
            have HZM : Hid (ZL.toArray.size = NL.toArray.size) := HZS.out.trans HNS.out.symm
            clear hok hown hNL
            clear hHeld
            have hHeld := HSQ.out _ hb2
            refine hK.out _ _ hHeld (fun _ => ?_)
            clear hK K
            try simp only [Act.put, qT, q0, qS]
            refine wpAnyH_take (i := 8) (oi := ⟨some 35, .move (.tmp 43), 49, _, #[⟨7, .data⟩], none⟩) (v := .tuple #[.agg NL.toArray, .int .i64 E]) rfl (by kernel_rfl) (by kernel_rfl) (by kernel_rfl) (fun _ _ _ h => h) (Or.inl ⟨by rfl, fun w' hw' => ?_⟩) hHeld ?_
            · first | (go_simp; done) | (go_simp; rfl)
            try simp only [Act.put, qT, q0, qS]
            refine wpAnyH_take (i := 9) (oi := ⟨some 44, .extract (.tmp 35) 0, 47, _, #[⟨8, .data⟩], none⟩) (v := .agg NL.toArray) rfl (by kernel_rfl) (by kernel_rfl) (by kernel_rfl) (fun _ _ _ h => h) (Or.inl ⟨by rfl, fun w' hw' => ?_⟩) hHeld ?_
            · first | (go_simp; done) | (go_simp; rfl)
            try simp only [Act.put, qT, q0, qS]
            refine wpAnyH_take (i := 10) (oi := { dst := some 45, op := .extract (.tmp 35) 1, type := 48, pos := _, after := #[⟨8, .data⟩, { on := 12, ground := .gcOnly Go.Departure.lateStores }], guard := none }) (v := .int .i64 E) rfl (by kernel_rfl) (by kernel_rfl) (by kernel_rfl) (fun _ _ _ h => h) (Or.inl ⟨by rfl, fun w' hw' => ?_⟩) hHeld ?_
            · first | (go_simp; done) | (go_simp; rfl)
            try simp only [Act.put, qT, q0, qS]
            refine wpAnyH_ready (rs := [11]) (by kernel_rfl) (by simp) ?_
            refine AllReadyH.cons (o := ⟨some 6, .alloc 47, 0, _, #[], none⟩) rfl (fun K hK => ?_) AllReadyH.nil
            rw [if_pos (by rfl)]
            go_wp2_with fail
            obtain ⟨W3, hW3⟩ : ∃ W3, W3 = W2.alloc (.cells ZL.toArray 47 (0, 0)) := ⟨_, rfl⟩
            have hbW : Below W1.heap.size W1 W3 := by rw [hW3]; exact hb2.alloc hb2.size _
            have hrow : W3.heap[W2.heap.size]? = some (.cells ZL.toArray 47 (0, 0)) := by rw [hW3]; exact heap_alloc_new _ _
            have hq : W1.heap.size ≤ W2.heap.size ∧ W2.heap.size < W3.heap.size := ⟨hb2.size, by rw [hW3]; simp⟩
            rw [← hW3]
            clear hHeld hW3 hb2
            generalize W2.heap.size = q at *
            have hHeld := HSQ.out _ hbW
            refine hK.out _ _ hHeld (fun _ => ?_)
            clear hK K
            try simp only [Act.put, qT, q0, qS]
            refine wpAnyH_ready (rs := [12]) (by kernel_rfl) (by simp) ?_
            refine AllReadyH.cons (o := { dst := none, op := .store 47 (.tmp 6) (.tmp 44), type := 0, pos := _, after := #[⟨11, .data⟩, ⟨9, .data⟩, ⟨7, .chain⟩, ⟨0, .phase⟩, ⟨1, .phase⟩, ⟨2, .phase⟩, ⟨3, .phase⟩, ⟨4, .phase⟩, ⟨5, .phase⟩, ⟨6, .phase⟩, ⟨7, .phase⟩, ⟨8, .phase⟩, ⟨9, .phase⟩, { on := 10, ground := .textOnly Go.Departure.lateStores }, ⟨11, .phase⟩], guard := none }) rfl (fun K hK => ?_) AllReadyH.nil
            rw [if_pos (by rfl)]
            refine wp_store_row 47 _ _ rfl q NL.toArray rfl rfl 47 ZL.toArray hrow HNI.out HZM.out HN1.out ?_
            have hbS := below_setRow hbW hq.1 NL.toArray
            have hT9 := HT1.out.new hbS ⟨hq.1, by simpa using hq.2⟩
            have hrow9 : (W3.setRow q NL.toArray).heap[q]? = some (.cells NL.toArray 47 (0, 0)) := setRow_heap _ _ _ _ _ _ hrow
            clear hHeld
            have hHeld := HSQ.out _ hbS
            refine hK.out _ _ hHeld (fun _ => ?_)
            clear hK K
            try simp only [Act.put, qT, q0, qS]
            refine wpAnyH_ready (rs := [13]) (by kernel_rfl) (by simp) ?_
            refine AllReadyH.cons (o := ⟨some 7, .assign (.tmp 45), 48, _, #[⟨10, .data⟩, ⟨12, .chain⟩, ⟨0, .phase⟩, ⟨1, .phase⟩, ⟨2, .phase⟩, ⟨3, .phase⟩, ⟨4, .phase⟩, ⟨5, .phase⟩, ⟨6, .phase⟩, ⟨7, .phase⟩, ⟨8, .phase⟩, ⟨9, .phase⟩, ⟨10, .phase⟩, ⟨11, .phase⟩, ⟨12, .phase⟩], none⟩) rfl (fun K hK => ?_) AllReadyH.nil
            rw [if_pos (by rfl)]
            go_wp2_with fail
            refine hK.out _ _ hHeld (fun _ => ?_)
            clear hK K
            try simp only [Act.put, qT, q0, qS]
            refine wpAnyH_done (by kernel_rfl) ?_ _
            go_wp2_with fail
            go_meet
            case rel => exact ⟨q, v', rfl, rfl, hT9, by rw [← HNL.out]; exact hrow9⟩
          · skip
            go_wp2_with fail
            obtain ⟨W3, hW3⟩ : ∃ W3, W3 = W1.alloc (.cells ZL.toArray 47 (0, 0)) := ⟨_, rfl⟩
            have hb3 : Below W1.heap.size W1 W3 := by rw [hW3]; exact (Below.refl _ _).alloc (Nat.le_refl _) _
            have hrow0 : W3.heap[W1.heap.size]? = some (.cells ZL.toArray 47 (0, 0)) := by rw [hW3]; exact heap_alloc_new _ _
            have hq0 : W1.heap.size ≤ W1.heap.size ∧ W1.heap.size < W3.heap.size := ⟨Nat.le_refl _, by rw [hW3]; simp⟩
            rw [← hW3]
            clear hHeld hW3
            obtain ⟨q, hqe⟩ : ∃ q, q = W1.heap.size := ⟨_, rfl⟩
            have hrow1 : W3.heap[q]? = some (.cells ZL.toArray 47 (0, 0)) := by rw [hqe]; exact hrow0
            have hq1 : W1.heap.size ≤ q ∧ q < W3.heap.size := by rw [hqe]; exact hq0
            rw [← hqe]
            clear hrow0 hq0 hqe
            have hHeld := HSQ.out _ hb3
            refine hK.out _ _ hHeld (fun _ => ?_)
            clear hK K
            try simp only [Act.put, qT, q0, qS]
            refine wpAnyH_ready (rs := [7]) (by kernel_rfl) (by simp) ?_
            refine AllReadyH.cons (o := { dst := some 43, op := .call { callee := Go.Callee.value (.func 12), args := #[.tmp 37, .tmp 42], argTypes := #[26, 3] }, type := 49, pos := _, after := #[⟨1, .data⟩, ⟨6, .data⟩], guard := none }) rfl (fun K hK => ?_) AllReadyH.nil
            rw [if_pos (by rfl)]
            go_wp2_with fail
            refine Calls.mono (HGT.out W3 hb3) ?_
            rintro e W4 ⟨v', rfl, hown, hb4⟩
            have hbW : Below W1.heap.size W1 W4 := hb3.trans (hb4.mono hb3.size)
            have hrow : W4.heap[q]? = some (.cells ZL.toArray 47 (0, 0)) := (hb4.block q hq1.2).trans hrow1
            have hq : W1.heap.size ≤ q ∧ q < W4.heap.size := ⟨hq1.1, Nat.lt_of_lt_of_le hq1.2 hb4.size⟩
            have hok := HRO.out
            have HNN : Hid ((rmL r v').length = 103) := rmL_len hok _
            have HN1 : Hid ((rmL r v').toArray.all (·.oneCell') = true) := rmL_onea r (HO.hr hown)
            obtain ⟨NL, hNL⟩ : ∃ NL, NL = rmL r v' := ⟨_, rfl⟩
            rw [← hNL] at HNN HN1 ⊢
            have HNL : Hid (NL = rmL r v') := hNL
            have HNS : Hid (NL.toArray.size = 103) := by show _ = _; simpa using HNN.out
            have HNI : Hid ((Tryz.prog.info? 47).map (·.size) = some NL.toArray.size) := info103a _ HNS.out
            have HZM : Hid (ZL.toArray.size = NL.toArray.size) := HZS.out.trans HNS.out.symm
            clear hok hown hNL
            clear hHeld hb3 hb4 hrow1 hq1
            have hHeld := HSQ.out _ hbW
            refine hK.out _ _ hHeld (fun _ => ?_)
            clear hK K
            try simp only [Act.put, qT, q0, qS]
            refine wpAnyH_take (i := 8) (oi := ⟨some 35, .move (.tmp 43), 49, _, #[⟨7, .data⟩], none⟩) (v := .tuple #[.agg NL.toArray, .int .i64 E]) rfl (by kernel_rfl) (by kernel_rfl) (by kernel_rfl) (fun _ _ _ h => h) (Or.inl ⟨by rfl, fun w' hw' => ?_⟩) hHeld ?_
            · first | (go_simp; done) | (go_simp; rfl)
            try simp only [Act.put, qT, q0, qS]
            refine wpAnyH_take (i := 9) (oi := ⟨some 44, .extract (.tmp 35) 0, 47, _, #[⟨8, .data⟩], none⟩) (v := .agg NL.toArray) rfl (by kernel_rfl) (by kernel_rfl) (by kernel_rfl) (fun _ _ _ h => h) (Or.inl ⟨by rfl, fun w' hw' => ?_⟩) hHeld ?_
            · first | (go_simp; done) | (go_simp; rfl)
            try simp only [Act.put, qT, q0, qS]
            refine wpAnyH_take (i := 10) (oi := { dst := some 45, op := .extract (.tmp 35) 1, type := 48, pos := _, after := #[⟨8, .data⟩, { on := 12, ground := .gcOnly Go.Departure.lateStores }], guard := none }) (v := .int .i64 E) rfl (by kernel_rfl) (by kernel_rfl) (by kernel_rfl) (fun _ _ _ h => h) (Or.inl ⟨by rfl, fun w' hw' => ?_⟩) hHeld ?_
            · first | (go_simp; done) | (go_simp; rfl)
            try simp only [Act.put, qT, q0, qS]
            refine wpAnyH_ready (rs := [12]) (by kernel_rfl) (by simp) ?_
            refine AllReadyH.cons (o := { dst := none, op := .store 47 (.tmp 6) (.tmp 44), type := 0, pos := _, after := #[⟨11, .data⟩, ⟨9, .data⟩, ⟨7, .chain⟩, ⟨0, .phase⟩, ⟨1, .phase⟩, ⟨2, .phase⟩, ⟨3, .phase⟩, ⟨4, .phase⟩, ⟨5, .phase⟩, ⟨6, .phase⟩, ⟨7, .phase⟩, ⟨8, .phase⟩, ⟨9, .phase⟩, { on := 10, ground := .textOnly Go.Departure.lateStores }, ⟨11, .phase⟩], guard := none }) rfl (fun K hK => ?_) AllReadyH.nil
            rw [if_pos (by rfl)]
            refine wp_store_row 47 _ _ rfl q NL.toArray rfl rfl 47 ZL.toArray hrow HNI.out HZM.out HN1.out ?_
            have hbS := below_setRow hbW hq.1 NL.toArray
            have hT9 := HT1.out.new hbS ⟨hq.1, by simpa using hq.2⟩
            have hrow9 : (W4.setRow q NL.toArray).heap[q]? = some (.cells NL.toArray 47 (0, 0)) := setRow_heap _ _ _ _ _ _ hrow
            clear hHeld
            have hHeld := HSQ.out _ hbS
            refine hK.out _ _ hHeld (fun _ => ?_)
            clear hK K
            try simp only [Act.put, qT, q0, qS]
            refine wpAnyH_ready (rs := [13]) (by kernel_rfl) (by simp) ?_
            refine AllReadyH.cons (o := ⟨some 7, .assign (.tmp 45), 48, _, #[⟨10, .data⟩, ⟨12, .chain⟩, ⟨0, .phase⟩, ⟨1, .phase⟩, ⟨2, .phase⟩, ⟨3, .phase⟩, ⟨4, .phase⟩, ⟨5, .phase⟩, ⟨6, .phase⟩, ⟨7, .phase⟩, ⟨8, .phase⟩, ⟨9, .phase⟩, ⟨10, .phase⟩, ⟨11, .phase⟩, ⟨12, .phase⟩], none⟩) rfl (fun K hK => ?_) AllReadyH.nil
            rw [if_pos (by rfl)]
            go_wp2_with fail
            refine hK.out _ _ hHeld (fun _ => ?_)
            clear hK K
            try simp only [Act.put, qT, q0, qS]
            refine wpAnyH_done (by kernel_rfl) ?_ _
            go_wp2_with fail
            go_meet
            case rel => exact ⟨q, v', rfl, rfl, hT9, by rw [← HNL.out]; exact hrow9⟩
        case rest =>
          clear HT HT1
          obtain ⟨q, v', rfl, rfl, hT5, hr5⟩ := hcut
          generalize wc = W5 at *
          have HT5 : Hid (RB w c rb s (fun k => (k = pb ∨ k = mb) ∨ k = q) pb mb ks f W5.drew) := hT5.step (Below.refl _ _).drew
          have HR5 : Hid (W5.drew.heap[q]? = some (.cells (rmL r v').toArray 47 (0, 0))) := hr5
          clear hT5 hr5
          go_upto_region 12 with fail
          refine wp_region_held_drew (S := SQ c rb pb g (o + k * 207) rd) (by kernel_rfl) (HSQR.out _ _ _ _ _ HT5.out) (fun hHeld => ?_)
          generalize World.drew _ = W6 at *
          refine wpAnyH_take (i := 0) (oi := ⟨some 47, .fieldAddr 29 (.tmp 3) 1, 0, _, #[], none⟩) (v := .pointer (some ⟨pb, 1, none⟩)) rfl (by kernel_rfl) (by kernel_rfl) (by kernel_rfl) (fun _ _ _ h => h) (Or.inl ⟨by rfl, fun w' hw' => ?_⟩) hHeld ?_
          · first | (go_simp; done) | (go_simp; rfl)
          try simp only [Act.put, qT, q0, qS]
          refine wpAnyH_take (i := 1) (oi := ⟨some 48, .load 26 (.tmp 47), 26, _, #[⟨0, .data⟩], none⟩) (v := .pointer (some ⟨c.xb, 0, none⟩)) rfl (by kernel_rfl) (by kernel_rfl) (by kernel_rfl) (fun _ _ _ h => h) (Or.inl ⟨by rfl, fun w' hw' => ?_⟩) hHeld ?_
          · have hcc := hw'.c1; first | (go_simp; done) | (go_simp; rfl)
          try simp only [Act.put, qT, q0, qS]
          refine wpAnyH_take (i := 2) (oi := ⟨some 49, .move (.tmp 0), 23, _, #[], none⟩) (v := .slice (some ⟨g, o, none⟩) ls.length cap) rfl (by kernel_rfl) (by kernel_rfl) (by kernel_rfl) (fun _ _ _ h => h) (Or.inl ⟨by rfl, fun w' hw' => ?_⟩) hHeld ?_
          · first | (go_simp; done) | (go_simp; rfl)
          try simp only [Act.put, qT, q0, qS]
          refine wpAnyH_take (i := 3) (oi := ⟨some 50, .move (.tmp 5), 3, _, #[], none⟩) (v := .int .i64 k) rfl (by kernel_rfl) (by kernel_rfl) (by kernel_rfl) (fun _ _ _ h => h) (Or.inl ⟨by rfl, fun w' hw' => ?_⟩) hHeld ?_
          · first | (go_simp; done) | (go_simp; rfl)
          try simp only [Act.put, qT, q0, qS]
          refine wpAnyH_take (i := 4) (oi := ⟨some 51, .indexAddr 23 (.tmp 49) (.tmp 50), 0, _, #[⟨2, .data⟩, ⟨3, .data⟩], none⟩) (v := .pointer (some ⟨g, o + k * 207, none⟩)) rfl (by kernel_rfl) (by kernel_rfl) (by kernel_rfl) (fun _ _ _ h => h) (Or.inl ⟨by rfl, fun w' hw' => ?_⟩) hHeld ?_
          · first | (go_simp; done) | (go_simp; rfl) | (go_simp; intro hbad; omega)
          try simp only [Act.put, qT, q0, qS]
          refine wpAnyH_take (i := 5) (oi := ⟨some 52, .fieldAddr 43 (.tmp 51) 1, 0, _, #[⟨4, .data⟩], none⟩) (v := .pointer (some ⟨g, o + k * 207 + 1, none⟩)) rfl (by kernel_rfl) (by kernel_rfl) (by kernel_rfl) (fun _ _ _ h => h) (Or.inl ⟨by rfl, fun w' hw' => ?_⟩) hHeld ?_
          · first | (go_simp; done) | (go_simp; rfl)
          try simp only [Act.put, qT, q0, qS]
          refine wpAnyH_take (i := 6) (oi := ⟨some 53, .load 3 (.tmp 52), 3, _, #[⟨5, .data⟩], none⟩) (v := .int .i64 rd) rfl (by kernel_rfl) (by kernel_rfl) (by kernel_rfl) (fun _ _ _ h => h) (Or.inl ⟨by rfl, fun w' hw' => ?_⟩) hHeld ?_
          · have hcc := hw'.k1; first | (go_simp; done) | (go_simp; rfl)
          try simp only [Act.put, qT, q0, qS]
          refine wpAnyH_ready (rs := [7]) (by kernel_rfl) (by simp) ?_
          refine AllReadyH.cons (o := { dst := some 54, op := .call { callee := Go.Callee.value (.func 24), args := #[.tmp 48, .tmp 53], argTypes := #[26, 3] }, type := 82, pos := _, after := #[⟨1, .data⟩, ⟨6, .data⟩], guard := none }) rfl (fun K hK => ?_) AllReadyH.nil
          rw [if_pos (by rfl)]
          go_wp2_with fail
          refine Calls.mono (HNX.out _ _ HT5.out.ja) ?_
          rintro e W7 ⟨rfl, hfr, hbc, hcont⟩
          rw [HT5.out.cw] at hbc
          clear hHeld
          have hHeld := HSQM.out W7 ((hfr pb (.inl (.inl rfl))).trans HT5.out.pr) hbc
          refine hK.out _ _ hHeld (fun _ => ?_)
          clear hK K
          try simp only [Act.put, qT, q0, qS]
          refine wpAnyH_take (i := 8) (oi := ⟨some 46, .move (.tmp 54), 82, _, #[⟨7, .data⟩], none⟩) (v := .tuple #[.int .u64 (nv : Int), .int .i64 E]) rfl (by kernel_rfl) (by kernel_rfl) (by kernel_rfl) (fun _ _ _ h => h) (Or.inl ⟨by rfl, fun w' hw' => ?_⟩) hHeld ?_
          · first | (go_simp; done) | (go_simp; rfl)
          try simp only [Act.put, qT, q0, qS]
          refine wpAnyH_take (i := 9) (oi := ⟨some 55, .extract (.tmp 46) 0, 34, _, #[⟨8, .data⟩], none⟩) (v := .int .u64 (nv : Int)) rfl (by kernel_rfl) (by kernel_rfl) (by kernel_rfl) (fun _ _ _ h => h) (Or.inl ⟨by rfl, fun w' hw' => ?_⟩) hHeld ?_
          · first | (go_simp; done) | (go_simp; rfl)
          try simp only [Act.put, qT, q0, qS]
          refine wpAnyH_take (i := 10) (oi := { dst := some 56, op := .extract (.tmp 46) 1, type := 48, pos := _, after := #[⟨8, .data⟩, { on := 11, ground := .gcOnly Go.Departure.lateStores }], guard := none }) (v := .int .i64 E) rfl (by kernel_rfl) (by kernel_rfl) (by kernel_rfl) (fun _ _ _ h => h) (Or.inl ⟨by rfl, fun w' hw' => ?_⟩) hHeld ?_
          · first | (go_simp; done) | (go_simp; rfl)
          try simp only [Act.put, qT, q0, qS]
          refine wpAnyH_ready (rs := [11]) (by kernel_rfl) (by simp) ?_
          refine AllReadyH.cons (o := { dst := some 8, op := .assign (.tmp 55), type := 34, pos := _, after := #[⟨9, .data⟩, ⟨7, .chain⟩, ⟨0, .phase⟩, ⟨1, .phase⟩, ⟨2, .phase⟩, ⟨3, .phase⟩, ⟨4, .phase⟩, ⟨5, .phase⟩, ⟨6, .phase⟩, ⟨7, .phase⟩, ⟨8, .phase⟩, ⟨9, .phase⟩, { on := 10, ground := .textOnly Go.Departure.lateStores }], guard := none }) rfl (fun K hK => ?_) AllReadyH.nil
          rw [if_pos (by rfl)]
          go_wp2_with fail
          refine hK.out _ _ hHeld (fun _ => ?_)
          clear hK K
          try simp only [Act.put, qT, q0, qS]
          refine wpAnyH_ready (rs := [12]) (by kernel_rfl) (by simp) ?_
          refine AllReadyH.cons (o := ⟨some 9, .assign (.tmp 56), 48, _, #[⟨10, .data⟩, ⟨11, .chain⟩, ⟨0, .phase⟩, ⟨1, .phase⟩, ⟨2, .phase⟩, ⟨3, .phase⟩, ⟨4, .phase⟩, ⟨5, .phase⟩, ⟨6, .phase⟩, ⟨7, .phase⟩, ⟨8, .phase⟩, ⟨9, .phase⟩, ⟨10, .phase⟩, ⟨11, .phase⟩], none⟩) rfl (fun K hK => ?_) AllReadyH.nil
          rw [if_pos (by rfl)]
          go_wp2_with fail
          refine hK.out _ _ hHeld (fun _ => ?_)
          clear hK K
          try simp only [Act.put, qT, q0, qS]
          refine wpAnyH_done (by kernel_rfl) ?_ _
          have HREF : Hid _ := hcont W7.drew (Below.refl _ _).drew
          have HSD : Hid (SQ c rb pb g (o + k * 207) rd W7.drew) := HSQM.out W7.drew ((hfr pb (.inl (.inl rfl))).trans HT5.out.pr) hbc.drew
          have HFR : Hid (∀ k, ((k = pb ∨ k = mb) ∨ k = q) → W7.drew.heap[k]? = W6.heap[k]?) := hfr
          clear hHeld hfr hbc hcont HNX HGET
          go_upto_region 13 with fail
          refine wp_region_held_drew (S := SQ c rb pb g (o + k * 207) rd) (by kernel_rfl) HSD.out (fun hHeld => ?_)
          generalize W7.drew = W8 at *
          refine wpAnyH_take (i := 0) (oi := ⟨some 57, .fieldAddr 29 (.tmp 3) 2, 0, _, #[], none⟩) (v := .pointer (some ⟨pb, 2, none⟩)) rfl (by kernel_rfl) (by kernel_rfl) (by kernel_rfl) (fun _ _ _ h => h) (Or.inl ⟨by rfl, fun w' hw' => ?_⟩) hHeld ?_
          · first | (go_simp; done) | (go_simp; rfl)
          try simp only [Act.put, qT, q0, qS]
          refine wpAnyH_take (i := 1) (oi := ⟨some 58, .load 27 (.tmp 57), 27, _, #[⟨0, .data⟩], none⟩) (v := .pointer (some ⟨rb, 0, none⟩)) rfl (by kernel_rfl) (by kernel_rfl) (by kernel_rfl) (fun _ _ _ h => h) (Or.inl ⟨by rfl, fun w' hw' => ?_⟩) hHeld ?_
          · have hcc := hw'.c2; first | (go_simp; done) | (go_simp; rfl)
          try simp only [Act.put, qT, q0, qS]
          refine wpAnyH_take (i := 2) (oi := ⟨some 59, .move (.tmp 0), 23, _, #[], none⟩) (v := .slice (some ⟨g, o, none⟩) ls.length cap) rfl (by kernel_rfl) (by kernel_rfl) (by kernel_rfl) (fun _ _ _ h => h) (Or.inl ⟨by rfl, fun w' hw' => ?_⟩) hHeld ?_
          · first | (go_simp; done) | (go_simp; rfl)
          try simp only [Act.put, qT, q0, qS]
          refine wpAnyH_take (i := 3) (oi := ⟨some 60, .move (.tmp 5), 3, _, #[], none⟩) (v := .int .i64 k) rfl (by kernel_rfl) (by kernel_rfl) (by kernel_rfl) (fun _ _ _ h => h) (Or.inl ⟨by rfl, fun w' hw' => ?_⟩) hHeld ?_
          · first | (go_simp; done) | (go_simp; rfl)
          try simp only [Act.put, qT, q0, qS]
          refine wpAnyH_take (i := 4) (oi := ⟨some 61, .indexAddr 23 (.tmp 59) (.tmp 60), 0, _, #[⟨2, .data⟩, ⟨3, .data⟩], none⟩) (v := .pointer (some ⟨g, o + k * 207, none⟩)) rfl (by kernel_rfl) (by kernel_rfl) (by kernel_rfl) (fun _ _ _ h => h) (Or.inl ⟨by rfl, fun w' hw' => ?_⟩) hHeld ?_
          · first | (go_simp; done) | (go_simp; rfl) | (go_simp; intro hbad; omega)
          try simp only [Act.put, qT, q0, qS]
          refine wpAnyH_take (i := 5) (oi := ⟨some 62, .fieldAddr 43 (.tmp 61) 1, 0, _, #[⟨4, .data⟩], none⟩) (v := .pointer (some ⟨g, o + k * 207 + 1, none⟩)) rfl (by kernel_rfl) (by kernel_rfl) (by kernel_rfl) (fun _ _ _ h => h) (Or.inl ⟨by rfl, fun w' hw' => ?_⟩) hHeld ?_
          · first | (go_simp; done) | (go_simp; rfl)
          try simp only [Act.put, qT, q0, qS]
          refine wpAnyH_take (i := 6) (oi := ⟨some 63, .load 3 (.tmp 62), 3, _, #[⟨5, .data⟩], none⟩) (v := .int .i64 rd) rfl (by kernel_rfl) (by kernel_rfl) (by kernel_rfl) (fun _ _ _ h => h) (Or.inl ⟨by rfl, fun w' hw' => ?_⟩) hHeld ?_
          · have hcc := hw'.k1; first | (go_simp; done) | (go_simp; rfl)
          try simp only [Act.put, qT, q0, qS]
          refine wpAnyH_ready (rs := [7]) (by kernel_rfl) (by simp) ?_
          refine AllReadyH.cons (o := { dst := some 64, op := .call { callee := Go.Callee.value (.func 33), args := #[.tmp 58, .tmp 63], argTypes := #[27, 3] }, type := 90, pos := _, after := #[⟨1, .data⟩, ⟨6, .data⟩], guard := none }) rfl (fun K hK => ?_) AllReadyH.nil
          rw [if_pos (by rfl)]
          go_wp2_with fail
          refine Calls.mono HREF.out ?_
          rintro e W9 ⟨rfl, hJA, hfr2⟩
          have hT9 : RB w c rb s' (fun k => (k = pb ∨ k = mb) ∨ k = q) pb mb ks f W9 := HT5.out.call hJA (fun k hk => (hfr2 k hk).trans (HFR.out k hk))
          have hr9 := (hfr2 q (.inr rfl)).trans ((HFR.out q (.inr rfl)).trans HR5.out)
          clear hHeld hfr2 hJA
          have hHeld := HSQR.out _ _ _ _ _ hT9
          refine hK.out _ _ hHeld (fun _ => ?_)
          clear hK K
          try simp only [Act.put, qT, q0, qS]
          refine wpAnyH_done (by kernel_rfl) ?_ _
          have HT9 : Hid _ := hT9
          have HR9 : Hid _ := hr9
          clear hHeld hT9 hr9 HREF HSD HFR HT5 HR5
          have hC9 : ∀ k', (k' = pb ∨ k' = mb) → ((k' = pb ∨ k' = mb) ∨ k' = q) := fun _ h => .inl h
          rcases HCS.out with ⟨rfl, rfl⟩ | ⟨rfl, hnv, sa, sb, hs, rfl⟩
          · clear HCS
            go_wp2
            go_roundw
            case rel => exact ⟨k + 1, _, _, _, by omega, by go_num, HT9.out.sub hC9 (.inl rfl) (.inr rfl), HBD.out.step (AT.same (c := c) (k := 0) _), HCI.out⟩
            case measure => simp [intOf]; omega
          · clear HCS
            obtain ⟨hci, hfi, hle⟩ := HCI.out.next hs
            have hbd' : Bd (k + 1) ⟨sa ++ (rd, { r with ctr := r.ctr + 1 }) :: sb, s.last, s.L⟩ := HBD.out.step (AT.upd' (c := c) (k := 7) hs (UP.ctr _ _ rfl))
            have hlast : s.last ≤ k := HBD.out.last
            have hctr : r.ctr ≤ k := (HBD.out.r (rd, r) (by rw [hs]; simp)).2.2.2
            have hin : r.inst < 18446744073709551616 := by omega
            have hc0 : W9.cell? ⟨q, 0, none⟩ = some (.int .u64 (r.inst : Int)) := by rw [cell_of_row _ _ 0 _ _ _ HR9.out, List.getElem?_toArray, rmL_0]; rfl
            have hlk := mu_get HT9.out.mu hin
            rw [hfi] at hlk
            obtain ⟨ob, ks', hrun, hmu, hgr⟩ := mu_put HT9.out.mu hin (r.ctr + 1)
            obtain ⟨hT10, hbl⟩ := HT9.out.put hgr hmu
            have hqm : q ≠ mb := fun e => by have h1 := HR9.out; rw [e] at h1; obtain ⟨es, cl, h2, _⟩ := HT9.out.mu.ex; rw [h2] at h1; cases h1
            have hr10 := (hbl q (PC.row_lt HR9.out) hqm).trans HR9.out
            have hd0 : (setBlock W9 mb ob).cell? ⟨q, 0, none⟩ = some (.int .u64 (r.inst : Int)) := by rw [cell_of_row _ _ 0 _ _ _ hr10, List.getElem?_toArray, rmL_0]; rfl
            have hd69 : (setBlock W9 mb ob).cell? ⟨q, 69, none⟩ = some (.int .u64 (r.ctr : Int)) := by rw [cell_of_row _ _ 69 _ _ _ hr10, List.getElem?_toArray, rmL_69 HRO.out]; rfl
            have hlk2 := mu_get hT10.mu hin
            rw [if_pos rfl] at hlk2
            have HRUN : Hid _ := hrun
            have HT10 : Hid _ := hT10.sub hC9 (.inl rfl) (.inr rfl)
            have HCI2 : Hid _ := hci
            have HBD2 : Hid _ := hbd'
            have hadd : IntKind.u64.wrap ((r.ctr : Int) + 1) = ((r.ctr + 1 : Nat) : Int) := by rw [IntKind.wrap_u64]; omega
            have hsub : IntKind.u64.wrap (((r.ctr + 1 : Nat) : Int) - 1) = (r.ctr : Int) := by rw [IntKind.wrap_u64]; omega
            subst hnv
            clear hci hbd' hlast hrun hmu hgr hT10 hbl hr10 hs hfi hle hqm HT9 HR9 HBD HCI hin
            obtain ⟨CN, hCN⟩ : ∃ C : Int, C = (r.ctr : Int) := ⟨_, rfl⟩
            obtain ⟨CM, hCM⟩ : ∃ C : Int, C = ((r.ctr + 1 : Nat) : Int) := ⟨_, rfl⟩
            obtain ⟨NI, hNI⟩ : ∃ C : Int, C = (r.inst : Int) := ⟨_, rfl⟩
            rw [← hCM] at hlk2 hadd hsub HRUN ⊢
            rw [← hCN] at hlk hadd hsub hd69
            rw [← hNI] at hlk hlk2 hc0 hd0 HRUN
            have hadd' : IntKind.u64.wrap (CN + 1) = CM := hadd
            have hsub' : IntKind.u64.wrap (CM - 1) = CN := hsub
            clear hCN hCM hNI hadd hsub
            go_wp2_with (refine wpList_mapUpd rfl _ _ _ 89 rfl (.map (some mb)) (.int .u64 NI) (.int .u64 CM) (by rfl) (by rfl) (by first | rfl | (simp [Act.eval]; exact hadd')) HRUN.out ?_)
            go_roundw
            case rel => exact ⟨k + 1, _, _, _, by omega, by go_num, HT10.out, HBD2.out, HCI2.out⟩
            case measure => simp [intOf]; omega
      · have h7b : (ac.kind == 7) = false := by simpa using h7
        have hT1 : RB w c rb s (fun k => k = pb ∨ k = mb) pb mb ks f W.drew := hRB.step (Below.refl _ _).drew
        have HDO : Hid _ := do_any hT1.ja hBd (by omega) hok
        have HT1 : Hid _ := hT1
        have HSA : Hid (∀ (X : World) (s : Am), RB w c rb s (fun k => k = pb ∨ k = mb) pb mb ks f X → SA c rb pb g (o + k * 207) (acL ac) X) := fun X s h => h.sa hra
        obtain ⟨kd, hkd⟩ : ∃ kd, kd = ac.kind := ⟨_, rfl⟩
        have hAN := acL_len hok
        rw [← hkd] at hk0 h7 h7b HDO
        obtain ⟨AL, hAL⟩ : ∃ AL, AL = acL ac := ⟨_, rfl⟩
        rw [← hAL] at HDO HSA hAN
        have HAI : Hid ((Tryz.prog.info? 43).map (·.size) = some AL.length) := by show _ = _; rw [hAN]; kernel_rfl
        obtain ⟨PL, hPL⟩ : ∃ PL, PL = prL c rb := ⟨_, rfl⟩
        rw [← hPL] at HDO
        have HPI : Hid ((Tryz.prog.info? 29).map (·.size) = some PL.length) := by rw [hPL]; show _ = _; kernel_rfl
        have HPL : Hid (PL = prL c rb) := hPL
        have H7 : Hid (kd ≠ 7) := h7
        clear hkd hAN hAL hPL hT1 hRB hBd hCI hok hra HT
        go_upto_region 9 with fail
        clear hk0
        refine wp_region_held_drew (S := SA c rb pb g (o + k * 207) AL) (by kernel_rfl) (HSA.out _ _ HT1.out) (fun hHeld => ?_)
        generalize W.drew = W1 at *
        refine wpAnyH_take (i := 0) (oi := ⟨some 28, .load 29 (.tmp 3), 29, _, #[], none⟩) rfl (by kernel_rfl) (by kernel_rfl) (by kernel_rfl) (fun _ _ _ h => h) (yieldsIf_load_mid (by rfl) 29 (.tmp 3) rfl (pb) (0) rfl (PL) _ (fun _ h => (by rw [HPL.out]; exact PC.rangeAt_row h.pr)) Tryz.underlying29 rfl HPI.out) hHeld ?_
        try simp only [Act.put, qT, q0, qS]
        refine wpAnyH_take (i := 1) (oi := ⟨some 29, .move (.tmp 0), 23, _, #[], none⟩) (v := .slice (some ⟨g, o, none⟩) ls.length cap) rfl (by kernel_rfl) (by kernel_rfl) (by kernel_rfl) (fun _ _ _ h => h) (Or.inl ⟨by rfl, fun w' hw' => ?_⟩) hHeld ?_
        · first | (go_simp; done) | (go_simp; rfl)
        try simp only [Act.put, qT, q0, qS]
        refine wpAnyH_take (i := 2) (oi := ⟨some 30, .move (.tmp 5), 3, _, #[], none⟩) (v := .int .i64 k) rfl (by kernel_rfl) (by kernel_rfl) (by kernel_rfl) (fun _ _ _ h => h) (Or.inl ⟨by rfl, fun w' hw' => ?_⟩) hHeld ?_
        · first | (go_simp; done) | (go_simp; rfl)
        try simp only [Act.put, qT, q0, qS]
        refine wpAnyH_take (i := 3) (oi := ⟨some 31, .indexAddr 23 (.tmp 29) (.tmp 30), 0, _, #[⟨1, .data⟩, ⟨2, .data⟩], none⟩) (v := .pointer (some ⟨g, o + k * 207, none⟩)) rfl (by kernel_rfl) (by kernel_rfl) (by kernel_rfl) (fun _ _ _ h => h) (Or.inl ⟨by rfl, fun w' hw' => ?_⟩) hHeld ?_
        · first | (go_simp; done) | (go_simp; rfl) | (go_simp; intro hbad; omega)
        try simp only [Act.put, qT, q0, qS]
        refine wpAnyH_take (i := 4) (oi := ⟨some 32, .load 43 (.tmp 31), 43, _, #[⟨3, .data⟩], none⟩) rfl (by kernel_rfl) (by kernel_rfl) (by kernel_rfl) (fun _ _ _ h => h) (yieldsIf_load_mid (by rfl) 43 (.tmp 31) rfl (g) (o + k * 207) rfl (AL) _ (fun _ h => h.ra) Tryz.underlying43 rfl HAI.out) hHeld ?_
        try simp only [Act.put, qT, q0, qS]
        refine wpAnyH_ready (rs := [5]) (by kernel_rfl) (by simp) ?_
        refine AllReadyH.cons (o := { dst := some 33, op := .call { callee := Go.Callee.value (.func 10), args := #[.tmp 28, .tmp 32], argTypes := #[29, 43] }, type := 4, pos := _, after := #[⟨0, .data⟩, ⟨4, .data⟩], guard := none }) rfl (fun K hK => ?_) AllReadyH.nil
        rw [if_pos (by rfl)]
        go_wp2_with fail
        refine Calls.mono HDO.out ?_
        rintro e W2 ⟨rfl, s', hat, hJA, hfr⟩
        have hT2 : RB w c rb s' (fun k => k = pb ∨ k = mb) pb mb ks f W2 := HT1.out.call hJA hfr
        have HT2 : Hid _ := hT2
        have HBD2 : Hid _ := HBD.out.step hat
        have HCI2 : Hid _ := HCI.out.step hat H7.out
        clear hHeld hJA hfr hat
        have hHeld := HSA.out _ _ hT2
        refine hK.out _ _ hHeld (fun _ => ?_)
        clear hK K
        try simp only [Act.put, qT, q0, qS]
        refine wpAnyH_take (i := 6) (oi := ⟨some 34, .unOp .not 4 (.tmp 33), 4, _, #[⟨5, .data⟩], none⟩) (v := .bool false) rfl (by kernel_rfl) (by kernel_rfl) (by kernel_rfl) (fun _ _ _ h => h) (Or.inl ⟨by rfl, fun w' hw' => ?_⟩) hHeld ?_
        · first | (go_simp; done) | (go_simp; rfl)
        try simp only [Act.put, qT, q0, qS]
        refine wpAnyH_done (by kernel_rfl) ?_ _
        clear hHeld hT2 HDO HSA
        go_wp2
        go_roundw
        case rel => exact ⟨k + 1, _, _, _, by omega, by go_num, HT2.out, HBD2.out, HCI2.out⟩
        case measure => simp [intOf]; omega
    · have hke : k = ls.length := by omega
      subst hke
      clear hBd hCI HBD HCI hk hlt HLS
      go_wp2_with fail
      refine Calls.mono (known_any W) ?_
      rintro e wk ⟨rfl, hbk⟩
      have hbW := hRB.bel
      have HBF : Hid (Below w.heap.size w wk) := hbW.trans (hbk.mono hbW.size)
      clear hbk hbW hRB HT
      go_wp2
      go_ret
      exact ⟨rfl, HBF.out⟩
end Go.Proofs.YtekbppfocnbhbaaGreat.XC
