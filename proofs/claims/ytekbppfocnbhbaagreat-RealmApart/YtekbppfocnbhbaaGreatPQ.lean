import Derived.Test.YtekbppfocnbhbaaGreatPO
set_option linter.unusedVariables false
set_option linter.unusedSimpArgs false
set_option maxHeartbeats 16000000
set_option maxRecDepth 100000
namespace Go.Proofs.YtekbppfocnbhbaaGreat.PC
open Go.RowKit
theorem fb_below {B : Nat} {v : Value} {l : List UInt8} {w w' : World} (h : FB B w v l) (hb : Below w.heap.size w w') : FB B w' v l :=
  h.kept (row := none) ⟨hb.os, hb.tape, hb.output, hb.size, fun j hj _ => hb.block j hj⟩ (by cases hv : v.ownBlock <;> simp)
theorem RB.below2 {w : World} {tp : TypeId} {PL : List Value} {X Y : World} (h : RB w tp PL X) (hb : Below (w.heap.size + 2) X Y) : RB w tp PL Y := by
  obtain ⟨h1, h2, Z, z1, z2⟩ := h
  exact ⟨h1.trans (hb.mono (by omega)), (hb.block _ (by omega)).trans h2, ⟨Z, z1, (hb.block _ (by omega)).trans z2⟩⟩
theorem RB.size {w : World} {tp : TypeId} {PL : List Value} {X : World} (h : RB w tp PL X) : w.heap.size + 2 ≤ X.heap.size := by
  obtain ⟨_, _, Z, z1, z2⟩ := h
  have := row_lt z2
  omega
def fl (rs : List Nat) (k : Nat) : List UInt8 := (rs.take k).flatMap (W1.le 8)
theorem fl_len (rs : List Nat) (k : Nat) (h : k ≤ rs.length) : (fl rs k).length = 8 * k := by unfold fl; rw [flat_len, List.length_take, Nat.min_eq_left h]
theorem fl_step (rs : List Nat) (k : Nat) (h : k < rs.length) : fl rs k ++ W1.le 8 (rs.getD k 0) = fl rs (k + 1) := by
  unfold fl
  have hg : rs.getD k 0 = rs[k] := by simp [List.getD, List.getElem?_eq_getElem h]
  rw [List.take_succ_eq_append_getElem h, List.flatMap_append, hg]
  simp
theorem granule4 (pc : Nat) (rs : List Nat) (r : Bool) (hr : rs.length = 8) (X : World) (g : Nat) (h : HL X g [[114, 101, 99, 0, 0, 0, 0, 0], W1.le 8 pc, fl rs 8, [if r then 1 else 0]]) :
    Calls Tryz.prog 84 #[.slice (some ⟨g, 0, none⟩) 4 4] X fun e w' => e = .returned (.agg ((cbL pc rs r).map B8).toArray) ∧ Below X.heap.size X w' := by
  have e : cbL pc rs r = pd [[114, 101, 99, 0, 0, 0, 0, 0], W1.le 8 pc, fl rs 8, [if r then 1 else 0]].flatten := by unfold cbL cbP cb0 fl; simp
  rw [e]
  exact granule_any g 4 _ X (by simp) (by simp [fl_len rs 8 (by omega), W1.le_length]) h
theorem rcb_any (pc : Nat) (rs : List Nat) (r : Bool) (w : World) (hr : rs.length = 8) (hp : pc < 18446744073709551616) (hrs : ∀ x ∈ rs, x < 18446744073709551616) :
    Calls Tryz.prog 53 #[.agg (rcL pc rs r).toArray] w fun e w' => e = .returned (.agg ((cbL pc rs r).map B8).toArray) ∧ Below w.heap.size w w' := by
  have hpl := rcL_len pc rs r hr
  have HPP : Hid ((rcL pc rs r)[0]? = some (.int .u64 (pc : Int))) := rcL_pc pc rs r
  have HPR8 : Hid (∀ i, i < 8 → (rcL pc rs r)[1 + i]? = some (.int .u64 ((rs.getD i 0 : Nat) : Int))) := fun i hi => rcL_r pc rs r i (by omega)
  have HPB : Hid ((rcL pc rs r)[9]? = some (.bool r)) := rcL_b pc rs r hr
  generalize rcL pc rs r = PL at *
  have hzg := fun W => zero_gr W
  obtain ⟨ZL, hZL⟩ : ∃ L, L = Z128.map B8 := ⟨_, rfl⟩
  rw [← hZL] at hzg
  have HGL : Hid (ZL.length = 128) := by show _ = _; rw [hZL, List.length_map, z128_len]
  have HZL : Hid _ := hZL
  clear hZL
  obtain ⟨GL, hGL⟩ : ∃ L, L = (cbL pc rs r).map B8 := ⟨_, rfl⟩
  have hgl : GL.length = 128 := by rw [hGL, List.length_map, cbL_len pc rs r hr]
  have HIA : Hid _ := info128a GL.toArray (by simpa using hgl)
  have HI1 : Hid (GL.toArray.all (·.oneCell') = true) := by show _ = _; rw [hGL]; exact B8_onea _
  have HIN : Hid (GL.toArray.size = 128) := by show _ = _; simpa using hgl
  have hGr := granule4 pc rs r hr
  rw [← hGL] at hGr ⊢
  have HGr : Hid _ := hGr
  have hMk := fun W => mark_at ⟨#[114, 101, 99]⟩ 5 [114, 101, 99, 0, 0, 0, 0, 0] W (by decide) (by decide) (by decide)
  have hWd := fun W => word_at pc W hp
  have HNR : Hid (∀ i, i < 8 → rs.getD i 0 < 18446744073709551616) := fun i hi => by
    have h8 : i < rs.length := by omega
    rw [show rs.getD i 0 = rs[i] by simp [List.getD, List.getElem?_eq_getElem h8]]
    exact hrs _ (List.getElem_mem h8)
  have HR0 : Hid _ := RB.start w 41 PL ZL HGL.out
  have HR8 : Hid _ := hr
  generalize hLE : W1.le 8 pc = LE at *
  generalize hMK : ([114, 101, 99, 0, 0, 0, 0, 0] : List UInt8) = MK at *
  clear hGL hgl hpl hr hGr hLE hMK hrs hp
  go_enter Tryz.func53, Tryz.ntmps53
  go_wp2
  go_loopw [3, 4] (fun v i wr => ∃ k : Nat, k ≤ 8 ∧ i = .int .i64 k ∧ Hid (RB w 41 PL wr ∧ FB (w.heap.size + 2) wr v (fl rs k))) (fun _ i _ => 8 - (intOf i).toNat)
  case atStart => exact ⟨0, by omega, rfl, HR0.out, World.ownsRow_nil _ _ _ _⟩
  case round =>
    obtain ⟨k, hk, rfl, HK⟩ := hrel
    clear HR0
    generalize wr = W at *
    obtain ⟨p3, c3, e3⟩ := fb_form HK.out.2
    by_cases hlt : k < 8
    · have HLN : Hid _ := fl_len rs k (by rw [HR8.out]; exact hk)
      rw [HLN.out] at e3
      subst e3
      have hcn : W.cell? ⟨w.heap.size, 1 + k, none⟩ = some (.int .u64 ((rs.getD k 0 : Nat) : Int)) := by
        rw [cell_of_row _ _ (1 + k) _ _ _ HK.out.1.par, List.getElem?_toArray]; exact HPR8.out k hlt
      have hW := fun X => word_at (rs.getD k 0) X (HNR.out k hlt)
      have HST : Hid _ := fl_step rs k (by rw [HR8.out]; exact hlt)
      generalize rs.getD k 0 = x at *
      generalize W1.le 8 x = LX at *
      generalize fl rs k = P0 at *
      obtain ⟨P1, hP1⟩ : ∃ P1, P1 = fl rs (k + 1) := ⟨_, rfl⟩
      rw [← hP1] at HST
      have HP1 : Hid _ := hP1
      clear hP1
      go_wp2_with fail
      refine Calls.mono (hW _) ?_
      rintro e w6 ⟨p6, c6, rfl, hh6, hb6⟩
      have HH6 : Hid (HB w6 (.slice p6 8 c6) LX) := hh6
      have HF6 : Hid (FB (w.heap.size + 2) w6 (.slice p3 (8 * k) c3) P0) := fb_below HK.out.2 hb6
      have HK6 : Hid _ := HK.out.1.below hb6
      have hsz : w.heap.size + 2 ≤ w6.heap.size := HK6.out.size
      have HLX : Hid (LX.length ≤ 8) := by
        obtain ⟨pp, cc, e1, _⟩ := hb_cells hh6
        have : 8 = LX.length := by injection e1
        show _ ≤ _; omega
      clear hh6 hb6 HK hW hcn
      go_wp2_with (at_builtin; refine wpList_appHB rfl (.tmp 10) (.tmp 15) rfl (w.heap.size + 2) _ _ P0 LX rfl rfl HF6.out HH6.out (by have h1 := HLX.out; have h2 := HLN.out; omega) hsz ?_; intro v1 w1 hown1 hgr1)
      have hb1 : Below (w.heap.size + 2) w6 w1 := (Below.refl _ _).grown hgr1 hsz (fun j hj => (fb_ge HF6.out j hj).1)
      have HK7 : Hid _ := HK6.out.below2 hb1
      clear hb1 hgr1 HK6
      go_roundw
      case rel => exact ⟨k + 1, by omega, by go_num, HK7.out, by rw [← HP1.out, ← HST.out]; exact hown1⟩
      case measure => simp [intOf]; omega
    · have hk8 : k = 8 := by omega
      rw [hk8] at HK e3
      rw [fl_len rs 8 (by rw [HR8.out]; decide)] at e3
      subst e3
      have hcb : W.cell? ⟨w.heap.size, 9, none⟩ = some (.bool r) := by
        rw [cell_of_row _ _ 9 _ _ _ HK.out.1.par, List.getElem?_toArray]; exact HPB.out
      have hcb2 : (W.alloc (.cells #[.int .u8 0] 5 (0, 0))).cell? ⟨w.heap.size, 9, none⟩ = some (.bool r) := (((Below.refl _ _).alloc (Nat.le_refl _) _).cell (p := ⟨w.heap.size, 9, none⟩) (by have := HK.out.1.size; show w.heap.size < W.heap.size; omega)).trans hcb
      have HX1 : Hid _ := HK.out.1.below ((Below.refl _ _).alloc (Nat.le_refl _) (.cells #[.int .u8 0] 5 (0, 0)))
      have HXK : Hid _ := HK.out.1
      have HXW : Hid (HB W (.slice p3 (8 * 8) c3) (fl rs 8)) := HK.out.2.hb
      have HXF1 : Hid (HB (W.alloc (.cells #[.int .u8 0] 5 (0, 0))) (.slice p3 (8 * 8) c3) (fl rs 8)) := hb_alloc HK.out.2.hb _
      have hn1 := heap_alloc_new W (.cells #[.int .u8 0] 5 (0, 0))
      have hsz1 : w.heap.size + 2 ≤ W.heap.size := HK.out.1.size
      clear HK hk8 hcb
      generalize fl rs 8 = FL at *
      cases r with
      | false =>
        have HXB1 : Hid (HB (W.alloc (.cells #[.int .u8 0] 5 (0, 0))) (.slice (some ⟨W.heap.size, 0, none⟩) 1 1) [if false then 1 else 0]) := hb_new W [0] _ _ _ 1 rfl rfl (by decide)
        generalize ([if false then 1 else 0] : List UInt8) = BL at *
        have HX : Hid _ := HX1.out.below (Below.refl _ _).drew
        have HXF : Hid (HB (W.alloc (.cells #[.int .u8 0] 5 (0, 0))).drew (.slice p3 64 c3) FL) := HB.below HXF1.out (Below.refl _ _).drew
        have HXB : Hid (HB (W.alloc (.cells #[.int .u8 0] 5 (0, 0))).drew (.slice (some ⟨W.heap.size, 0, none⟩) 1 1) BL) := HB.below HXB1.out (Below.refl _ _).drew
        clear HX1 HXF1 HXB1 HXW
        go_wp2
        generalize hX : W.alloc (.cells #[.int .u8 0] 5 (0, 0)) = X at *
        generalize hb5 : W.heap.size = b5 at *
        clear hX hb5 hcb2 hn1
        refine wp_region_held_drew (S := RB w 41 PL) (by kernel_rfl) HX.out (fun hHeld => ?_)
        refine qzI 1 ⟨some 23, .fieldAddr 41 (.tmp 1) 0, 0, _, #[], none⟩ (.pointer (some ⟨w.heap.size, 0, none⟩)) rfl (by kernel_rfl) (fun _ _ _ h => h) (by rfl) (fun w' hw' => ?_) hHeld ?_
        · go_simp <;> rfl
        try simp only [Act.put, qT, q0, qS]
        refine qzI 2 ⟨some 24, .load 34 (.tmp 23), 34, _, #[⟨1, .data⟩], none⟩ (.int .u64 (pc : Int)) rfl (by kernel_rfl) (fun _ _ _ h => h) (by rfl) (fun w' hw' => ?_) hHeld ?_
        · have hcc : w'.cell? ⟨w.heap.size, 0, none⟩ = some (.int .u64 (pc : Int)) := by { rw [cell_of_row _ _ 0 _ _ _ hw'.par, List.getElem?_toArray]; exact HPP.out }; go_simp <;> rfl
        try simp only [Act.put, qT, q0, qS]
        refine qzI 4 ⟨some 26, .move (.tmp 3), 106, _, #[], none⟩ (.slice p3 64 c3) rfl (by kernel_rfl) (fun _ _ _ h => h) (by rfl) (fun w' hw' => ?_) hHeld ?_
        · go_simp <;> rfl
        try simp only [Act.put, qT, q0, qS]
        refine qzI 5 ⟨some 27, .move (.tmp 5), 106, _, #[], none⟩ (.slice (some ⟨b5, 0, none⟩) 1 1) rfl (by kernel_rfl) (fun _ _ _ h => h) (by rfl) (fun w' hw' => ?_) hHeld ?_
        · go_simp <;> rfl
        try simp only [Act.put, qT, q0, qS]
        refine qzR 0 ⟨some 22, .call ⟨.value (.func 85), #[.const (Go.Value.string { data := #[114, 101, 99] })], #[9]⟩, 106, _, #[], none⟩ (by kernel_rfl) rfl (by rfl) (fun K hK => ?_)
        go_wp2_with fail
        refine Calls.mono (hMk _) ?_
        rintro e w3 ⟨p6, c6, rfl, hh3, hb3⟩
        have hHeld3 := hHeld.below hb3
        have HH3 : Hid (HB w3 (.slice p6 8 c6) MK) := hh3
        have HF3 : Hid (HB w3 (.slice p3 64 c3) FL) := HB.below HXF.out hb3
        have HO3 : Hid (HB w3 (.slice (some ⟨b5, 0, none⟩) 1 1) BL) := HB.below HXB.out hb3
        clear hh3 hb3 hHeld HX HXF HXB
        refine hK.out _ _ hHeld3 (fun _ => ?_)
        clear hK K
        try simp only [Act.put, qT, q0, qS]
        refine qzR 3 ⟨some 25, .call ⟨.value (.func 83), #[.tmp 24], #[34]⟩, 106, _, #[⟨2, .data⟩, ⟨0, .chain⟩], none⟩ (by kernel_rfl) rfl (by rfl) (fun K hK => ?_)
        go_wp2_with fail
        refine Calls.mono (hWd _) ?_
        rintro e w4 ⟨p4, c4, rfl, hh4, hb4⟩
        have hHeld4 := hHeld3.below hb4
        have HH4 : Hid (HB w4 (.slice p4 8 c4) LE) := hh4
        have HM4 : Hid (HB w4 (.slice p6 8 c6) MK) := HB.below HH3.out hb4
        have HF4 : Hid (HB w4 (.slice p3 64 c3) FL) := HB.below HF3.out hb4
        have HO4 : Hid (HB w4 (.slice (some ⟨b5, 0, none⟩) 1 1) BL) := HB.below HO3.out hb4
        clear hh4 hb4 hHeld3 HH3 HF3 HO3
        refine hK.out _ _ hHeld4 (fun _ => ?_)
        clear hK K
        try simp only [Act.put, qT, q0, qS]
        refine qzR 6 ⟨some 28, .buildSlice 144 4 #[(0, .tmp 22), (1, .tmp 25), (2, .tmp 26), (3, .tmp 27)], 144, _, #[⟨0, .data⟩, ⟨3, .data⟩, ⟨4, .data⟩, ⟨5, .data⟩], none⟩ (by kernel_rfl) rfl (by rfl) (fun K hK => ?_)
        go_wp2_with fail
        have HHL : Hid (HL (w4.alloc (.cells #[.slice p6 8 c6, .slice p4 8 c4, .slice p3 64 c3, .slice (some ⟨b5, 0, none⟩) 1 1] 106 (0, 0))) w4.heap.size [MK, LE, FL, BL]) := hl4 w4 _ _ _ _ _ _ _ _ HM4.out HH4.out HF4.out HO4.out
        have hHeld5 := hHeld4.below ((Below.refl _ _).alloc (Nat.le_refl _) (.cells #[.slice p6 8 c6, .slice p4 8 c4, .slice p3 64 c3, .slice (some ⟨b5, 0, none⟩) 1 1] 106 (0, 0)))
        clear hHeld4 HM4 HF4 HO4 HH4
        refine hK.out _ _ hHeld5 (fun _ => ?_)
        clear hK K
        try simp only [Act.put, qT, q0, qS]
        refine qzR 7 ⟨some 29, .call ⟨.value (.func 84), #[.tmp 28], #[144]⟩, 38, _, #[⟨6, .data⟩, ⟨3, .chain⟩], none⟩ (by kernel_rfl) rfl (by rfl) (fun K hK => ?_)
        go_wp2_with fail
        refine Calls.mono (HGr.out _ _ HHL.out) ?_
        rintro e w6 ⟨rfl, hb6⟩
        have hHeld6 := hHeld5.below hb6
        clear hHeld5 HHL hb6
        refine hK.out _ _ hHeld6 (fun _ => ?_)
        clear hK K
        try simp only [Act.put, qT, q0, qS]
        refine qzR 8 ⟨none, .store 38 (.tmp 2) (.tmp 29), 0, _, #[⟨7, .data⟩, ⟨7, .chain⟩, ⟨0, .phase⟩, ⟨1, .phase⟩, ⟨2, .phase⟩, ⟨3, .phase⟩, ⟨4, .phase⟩, ⟨5, .phase⟩, ⟨6, .phase⟩, ⟨7, .phase⟩], none⟩ (by kernel_rfl) rfl (by rfl) (fun K hK => ?_)
        obtain ⟨Z, hz1, hz2⟩ := hHeld6.res
        refine wp_store_row 38 _ _ rfl (w.heap.size + 1) GL.toArray rfl rfl 38 Z hz2 HIA.out (hz1.trans HIN.out.symm) HI1.out ?_
        have hHeld7 := hHeld6.put GL.toArray HIN.out
        have HR7 : Hid _ := setRow_heap _ _ _ GL.toArray _ _ hz2
        have HB7 : Hid _ := hHeld7.bel
        generalize w6.setRow (w.heap.size + 1) GL.toArray = w7 at *
        refine hK.out _ _ hHeld7 (fun _ => ?_)
        clear hK K
        try simp only [Act.put, qT, q0, qS]
        refine wpAnyH_done (by kernel_rfl) ?_ _
        clear hHeld6 hHeld7 hz2 HGr hMk hWd
        go_wp2
        refine bodyPost_ret (v := .agg GL.toArray) (resultsG Tryz.results53 _ _ (w.heap.size + 1) GL.toArray rfl HR7.out HIA.out) rfl ⟨rfl, HB7.out⟩
      | true =>
        have HX2 : Hid _ := HXK.out.below ((Below.refl _ _).alloc (Nat.le_refl _) (.cells #[.int .u8 1] 5 (0, 0)))
        have HXF2 : Hid (HB (W.alloc (.cells #[.int .u8 1] 5 (0, 0))) (.slice p3 64 c3) FL) := hb_alloc HXW.out _
        have HXB1 : Hid (HB (W.alloc (.cells #[.int .u8 1] 5 (0, 0))) (.slice (some ⟨W.heap.size, 0, none⟩) 1 1) [if true then 1 else 0]) := hb_new W [1] _ _ _ 1 rfl rfl (by decide)
        generalize ([if true then 1 else 0] : List UInt8) = BL at *
        have HX : Hid _ := HX2.out.below (Below.refl _ _).drew
        have HXF : Hid (HB (W.alloc (.cells #[.int .u8 1] 5 (0, 0))).drew (.slice p3 64 c3) FL) := HB.below HXF2.out (Below.refl _ _).drew
        have HXB : Hid (HB (W.alloc (.cells #[.int .u8 1] 5 (0, 0))).drew (.slice (some ⟨W.heap.size, 0, none⟩) 1 1) BL) := HB.below HXB1.out (Below.refl _ _).drew
        clear HX1 HXF1 HXB1 HX2 HXF2 HXW
        go_wp2
        generalize hX : W.alloc (.cells #[.int .u8 1] 5 (0, 0)) = X at *
        generalize hb5 : W.heap.size = b5 at *
        clear hX hb5 hcb2 hn1
        refine wp_region_held_drew (S := RB w 41 PL) (by kernel_rfl) HX.out (fun hHeld => ?_)
        refine qzI 1 ⟨some 23, .fieldAddr 41 (.tmp 1) 0, 0, _, #[], none⟩ (.pointer (some ⟨w.heap.size, 0, none⟩)) rfl (by kernel_rfl) (fun _ _ _ h => h) (by rfl) (fun w' hw' => ?_) hHeld ?_
        · go_simp <;> rfl
        try simp only [Act.put, qT, q0, qS]
        refine qzI 2 ⟨some 24, .load 34 (.tmp 23), 34, _, #[⟨1, .data⟩], none⟩ (.int .u64 (pc : Int)) rfl (by kernel_rfl) (fun _ _ _ h => h) (by rfl) (fun w' hw' => ?_) hHeld ?_
        · have hcc : w'.cell? ⟨w.heap.size, 0, none⟩ = some (.int .u64 (pc : Int)) := by { rw [cell_of_row _ _ 0 _ _ _ hw'.par, List.getElem?_toArray]; exact HPP.out }; go_simp <;> rfl
        try simp only [Act.put, qT, q0, qS]
        refine qzI 4 ⟨some 26, .move (.tmp 3), 106, _, #[], none⟩ (.slice p3 64 c3) rfl (by kernel_rfl) (fun _ _ _ h => h) (by rfl) (fun w' hw' => ?_) hHeld ?_
        · go_simp <;> rfl
        try simp only [Act.put, qT, q0, qS]
        refine qzI 5 ⟨some 27, .move (.tmp 5), 106, _, #[], none⟩ (.slice (some ⟨b5, 0, none⟩) 1 1) rfl (by kernel_rfl) (fun _ _ _ h => h) (by rfl) (fun w' hw' => ?_) hHeld ?_
        · go_simp <;> rfl
        try simp only [Act.put, qT, q0, qS]
        refine qzR 0 ⟨some 22, .call ⟨.value (.func 85), #[.const (Go.Value.string { data := #[114, 101, 99] })], #[9]⟩, 106, _, #[], none⟩ (by kernel_rfl) rfl (by rfl) (fun K hK => ?_)
        go_wp2_with fail
        refine Calls.mono (hMk _) ?_
        rintro e w3 ⟨p6, c6, rfl, hh3, hb3⟩
        have hHeld3 := hHeld.below hb3
        have HH3 : Hid (HB w3 (.slice p6 8 c6) MK) := hh3
        have HF3 : Hid (HB w3 (.slice p3 64 c3) FL) := HB.below HXF.out hb3
        have HO3 : Hid (HB w3 (.slice (some ⟨b5, 0, none⟩) 1 1) BL) := HB.below HXB.out hb3
        clear hh3 hb3 hHeld HX HXF HXB
        refine hK.out _ _ hHeld3 (fun _ => ?_)
        clear hK K
        try simp only [Act.put, qT, q0, qS]
        refine qzR 3 ⟨some 25, .call ⟨.value (.func 83), #[.tmp 24], #[34]⟩, 106, _, #[⟨2, .data⟩, ⟨0, .chain⟩], none⟩ (by kernel_rfl) rfl (by rfl) (fun K hK => ?_)
        go_wp2_with fail
        refine Calls.mono (hWd _) ?_
        rintro e w4 ⟨p4, c4, rfl, hh4, hb4⟩
        have hHeld4 := hHeld3.below hb4
        have HH4 : Hid (HB w4 (.slice p4 8 c4) LE) := hh4
        have HM4 : Hid (HB w4 (.slice p6 8 c6) MK) := HB.below HH3.out hb4
        have HF4 : Hid (HB w4 (.slice p3 64 c3) FL) := HB.below HF3.out hb4
        have HO4 : Hid (HB w4 (.slice (some ⟨b5, 0, none⟩) 1 1) BL) := HB.below HO3.out hb4
        clear hh4 hb4 hHeld3 HH3 HF3 HO3
        refine hK.out _ _ hHeld4 (fun _ => ?_)
        clear hK K
        try simp only [Act.put, qT, q0, qS]
        refine qzR 6 ⟨some 28, .buildSlice 144 4 #[(0, .tmp 22), (1, .tmp 25), (2, .tmp 26), (3, .tmp 27)], 144, _, #[⟨0, .data⟩, ⟨3, .data⟩, ⟨4, .data⟩, ⟨5, .data⟩], none⟩ (by kernel_rfl) rfl (by rfl) (fun K hK => ?_)
        go_wp2_with fail
        have HHL : Hid (HL (w4.alloc (.cells #[.slice p6 8 c6, .slice p4 8 c4, .slice p3 64 c3, .slice (some ⟨b5, 0, none⟩) 1 1] 106 (0, 0))) w4.heap.size [MK, LE, FL, BL]) := hl4 w4 _ _ _ _ _ _ _ _ HM4.out HH4.out HF4.out HO4.out
        have hHeld5 := hHeld4.below ((Below.refl _ _).alloc (Nat.le_refl _) (.cells #[.slice p6 8 c6, .slice p4 8 c4, .slice p3 64 c3, .slice (some ⟨b5, 0, none⟩) 1 1] 106 (0, 0)))
        clear hHeld4 HM4 HF4 HO4 HH4
        refine hK.out _ _ hHeld5 (fun _ => ?_)
        clear hK K
        try simp only [Act.put, qT, q0, qS]
        refine qzR 7 ⟨some 29, .call ⟨.value (.func 84), #[.tmp 28], #[144]⟩, 38, _, #[⟨6, .data⟩, ⟨3, .chain⟩], none⟩ (by kernel_rfl) rfl (by rfl) (fun K hK => ?_)
        go_wp2_with fail
        refine Calls.mono (HGr.out _ _ HHL.out) ?_
        rintro e w6 ⟨rfl, hb6⟩
        have hHeld6 := hHeld5.below hb6
        clear hHeld5 HHL hb6
        refine hK.out _ _ hHeld6 (fun _ => ?_)
        clear hK K
        try simp only [Act.put, qT, q0, qS]
        refine qzR 8 ⟨none, .store 38 (.tmp 2) (.tmp 29), 0, _, #[⟨7, .data⟩, ⟨7, .chain⟩, ⟨0, .phase⟩, ⟨1, .phase⟩, ⟨2, .phase⟩, ⟨3, .phase⟩, ⟨4, .phase⟩, ⟨5, .phase⟩, ⟨6, .phase⟩, ⟨7, .phase⟩], none⟩ (by kernel_rfl) rfl (by rfl) (fun K hK => ?_)
        obtain ⟨Z, hz1, hz2⟩ := hHeld6.res
        refine wp_store_row 38 _ _ rfl (w.heap.size + 1) GL.toArray rfl rfl 38 Z hz2 HIA.out (hz1.trans HIN.out.symm) HI1.out ?_
        have hHeld7 := hHeld6.put GL.toArray HIN.out
        have HR7 : Hid _ := setRow_heap _ _ _ GL.toArray _ _ hz2
        have HB7 : Hid _ := hHeld7.bel
        generalize w6.setRow (w.heap.size + 1) GL.toArray = w7 at *
        refine hK.out _ _ hHeld7 (fun _ => ?_)
        clear hK K
        try simp only [Act.put, qT, q0, qS]
        refine wpAnyH_done (by kernel_rfl) ?_ _
        clear hHeld6 hHeld7 hz2 HGr hMk hWd
        go_wp2
        refine bodyPost_ret (v := .agg GL.toArray) (resultsG Tryz.results53 _ _ (w.heap.size + 1) GL.toArray rfl HR7.out HIA.out) rfl ⟨rfl, HB7.out⟩
end Go.Proofs.YtekbppfocnbhbaaGreat.PC
