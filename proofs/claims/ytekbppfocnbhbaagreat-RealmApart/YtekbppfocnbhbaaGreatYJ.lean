import Derived.Test.YtekbppfocnbhbaaGreatYI
set_option linter.unusedVariables false
set_option linter.unusedSimpArgs false
set_option maxHeartbeats 16000000
set_option maxRecDepth 100000
namespace Go.Proofs.YtekbppfocnbhbaaGreat.XC
open Go.RowKit
section
variable {c : Cx} {rb last : Nat} {I J : Nat → Prop} {X Y : World} {rl a b : List En} {av : Value} {rd : Int} {r : Rm} {lv : Value}
def RM (c : Cx) (rb : Nat) (I : Nat → Prop) (X Y : World) (rl : List En) (last : Nat) : Prop := ∃ av', RX c rb (fun k => I k ∨ (X.heap.size ≤ k ∧ k < Y.heap.size)) Y rl last av' ∧ R5.Fr (fun k => k = rb) X Y ∧ ∀ k, av'.ownBlock = some k → X.heap.size ≤ k
theorem rdel_ok (h : RX c rb I X (a ++ (rd, r, lv) :: b) last av) (hs : ∀ k, I k → k < X.heap.size) (hcn : c.n ≤ X.heap.size) (hn : (a ++ (rd, r, lv) :: b).length < 1000000) (hno : NoRd a rd) (hr : r.recs = 0) :
    Calls Tryz.prog 40 #[.pointer (some ⟨rb, 0, none⟩), .int .i64 rd] X fun e Y => e = .returned (.int .i64 0) ∧ RM c rb I X Y (a ++ b) last := by
  obtain ⟨g, cap, hav⟩ := h.slice
  have HC : Hid (Calls Tryz.prog 13 #[.pointer (some ⟨rb, 0, none⟩), .int .i64 rd] X fun e Y => e = .returned (.int .i64 (a.length : Int)) ∧ X = Y) := rat_is h hn hno
  have hc1 := h.cells.2.1
  rw [hav] at hc1
  have hok := h.ok _ (show (rd, r, lv) ∈ a ++ (rd, r, lv) :: b by simp)
  have hao : ∀ y ∈ a, y.2.1.ok := fun y hy => h.ok y (by simp [hy])
  have hbo : ∀ y ∈ b, y.2.1.ok := fun y hy => h.ok y (by simp [hy])
  have hg2 := h.get hav 103 (by decide)
  replace hg2 : X.cell? ⟨g, a.length * 104 + 103, none⟩ = some (.int .i64 0) := by rw [hg2]; show (rmL r lv)[102]? = _; rw [rmL_102 hok lv, hr]; rfl
  obtain ⟨Z, hZ⟩ := h.block hav
  have hrbX : rb < X.heap.size := hs _ h.fI.1
  have hgX : g < X.heap.size := hs _ (h.aI g (by rw [hav]; rfl)).1
  have HC1 : Hid (∀ W, Below X.heap.size X W → W.cell? ⟨rb, 1, none⟩ = some (.slice (some ⟨g, 0, none⟩) (a ++ (rd, r, lv) :: b).length cap)) := fun W hW => by
    rw [← hav]; exact (h.below hs hW).cells.2.1
  have HF1 : Hid (∀ W, Below X.heap.size X W → W.frozen? ⟨rb, 1, none⟩ = false) := fun W hW => frozen_of_row _ _ 1 _ _ (h.below hs hW).row
  have HNA : Hid (∀ W, Below X.heap.size X W → ∀ j u, (itC a)[j]? = some u → W.cell? ((⟨g, 0, none⟩ : Addr).add j) = some u) := fun W hW j u hu => by
    have hj : j < (itC a).length := (List.getElem?_eq_some_iff.1 hu).1
    have := PC.rangeAt_row ((hW.block g hgX).trans hZ) j u (by rw [List.getElem?_append_left hj]; exact hu)
    rw [Addr.add_mid]; exact this
  have HNB : Hid (∀ W, Below X.heap.size X W → ∀ j u, (itC b)[j]? = some u → W.cell? ((⟨g, (a.length + 1) * 104, none⟩ : Addr).add j) = some u) := fun W hW j u hu => by
    have hj : j < (itC b).length := (List.getElem?_eq_some_iff.1 hu).1
    have hl1 := itC_len hao
    have hl2 := itL_len (x := (rd, r, lv)) hok
    have := PC.rangeAt_row ((hW.block g hgX).trans hZ) ((a.length + 1) * 104 + j) u (by
      rw [List.getElem?_append_right (by omega), List.getElem?_append_right (by omega), hl1, hl2, show (a.length + 1) * 104 + j - a.length * 104 - 104 = j by omega, List.getElem?_append_left hj]; exact hu)
    rw [Addr.add_mid]; rwa [Nat.zero_add] at this
  have HA1 : Hid (∀ u ∈ itC a, u.oneCell' = true) := itC_one (fun x hx => ⟨X, h.logs x (by simp [hx])⟩)
  have HB1 : Hid (∀ u ∈ itC b, u.oneCell' = true) := itC_one (fun x hx => ⟨X, h.logs x (by simp [hx])⟩)
  have HAL : Hid ((itC a).length = a.length * 104) := itC_len hao
  have HBLn : Hid ((itC b).length = b.length * 104) := itC_len hbo
  obtain ⟨z0, hz, HZ4⟩ := infoIt
  obtain ⟨i0, hi, hz0, hz1, hz2⟩ := info_parts hz
  have HI0 : Hid _ := hi
  have HIZ : Hid _ := hz0
  have HI2 : Hid _ := hz1
  have HI3 : Hid _ := hz2
  have HI4 : Hid (z0.cells.size = 104) := HZ4
  have hlen : (a ++ (rd, r, lv) :: b).length = a.length + 1 + b.length := by simp; omega
  have hcap : (a ++ (rd, r, lv) :: b).length ≤ cap := by
    rcases h.own.2 with ⟨e1, _⟩ | ⟨g', cap', cur, e1, e2, e3, e4, e5, e6, e7⟩
    · rw [hav] at e1; simp at e1
    · rw [hav] at e1; injection e1 with _ _ e1; omega
  have hmx : (1000000 : Nat) ≤ maxLen := by decide
  have HM1 : Hid (0 + a.length ≤ maxLen) := by show _ ≤ _; omega
  have HM2 : Hid ((0 + a.length) * 176 ≤ 140737488355328) := by show _ ≤ _; omega
  have HM3 : Hid (0 + a.length + b.length ≤ maxLen) := by show _ ≤ _; omega
  have HM4 : Hid ((0 + a.length + b.length) * 176 ≤ 140737488355328) := by show _ ≤ _; omega
  have HSL : Hid (∀ (W : World) v, W.ownsRow X.heap.size 54 104 v (0 + a.length + b.length) ([] ++ itC a ++ itC b) → ∃ p n k, v = .slice p n k) := fun W v hv => by
    rcases hv.2 with ⟨e1, _⟩ | ⟨g', cap', cur, e1, _⟩
    · exact ⟨_, _, _, e1⟩
    · exact ⟨_, _, _, e1⟩
  have HEND : Hid (∀ W v, W.ownsRow X.heap.size 54 104 v (0 + a.length + b.length) ([] ++ itC a ++ itC b) → Below X.heap.size X W → RM c rb I X (W.setCell ⟨rb, 1, none⟩ v) (a ++ b) last) := fun W v hown hW => by
    have hrow := heap_setCell_same W rb 1 _ _ v (h.below hs hW).row
    have hfr : R5.Fr (fun k => k = rb) X (W.setCell ⟨rb, 1, none⟩ v) := R5.Fr.setCell (R5.Fr.ofBelow hW) rb 1 v (.inl rfl)
    refine ⟨v, h.move hrow ?_ (fun x hx => by rcases List.mem_append.1 hx with hx | hx <;> simp [hx]) (fun k hk hne => hfr.block k hk hne) hs hcn, hfr, fun k e => (hown.lt k e).1⟩
    have h1 : W.ownsRow X.heap.size 54 104 v (a ++ b).length (itC (a ++ b)) := by
      rw [itC_app, List.length_append, ← Nat.zero_add a.length]; exact hown
    exact R5.own_keep h1 (fun k e _ => heap_setCell_other _ _ _ _ (by show k ≠ rb; have := (hown.lt k e).1; omega))
  clear hok hao hbo hZ Z h hs hav hi hz hz0 hz1 hz2 HZ4 hr hno hmx
  obtain ⟨Kk, hKk⟩ : ∃ Kk, Kk = a.length := ⟨_, rfl⟩
  obtain ⟨Mb, hMb⟩ : ∃ Mb, Mb = b.length := ⟨_, rfl⟩
  obtain ⟨Nn, hNn⟩ : ∃ Nn, Nn = (a ++ (rd, r, lv) :: b).length := ⟨_, rfl⟩
  rw [← hNn] at hc1 hn hlen hcap HC1
  rw [← hKk] at hlen HC hg2 HNB HAL HM1 HM2 HM3 HM4 HSL HEND
  rw [← hMb] at hlen HBLn HM3 HM4 HSL HEND
  generalize itC a = AL at *
  generalize itC b = BL at *
  obtain ⟨Cb, hCb⟩ : ∃ Cb, cap = Kk + 1 + Cb := ⟨cap - (Kk + 1), by omega⟩
  obtain ⟨QO, hQO⟩ : ∃ QO, QO = if Cb = 0 then 0 else (Kk + 1) * 104 := ⟨_, rfl⟩
  have HQO : Hid ((if Cb = 0 then some (⟨g, 0, none⟩ : Addr) else some ⟨g, (Kk + 1) * 104, none⟩) = some ⟨g, QO, none⟩) := by
    show _ = _
    rw [hQO]; split <;> rfl
  have HNC : Hid (∀ W, Below X.heap.size X W → ∀ j u, BL[j]? = some u → W.cell? ((⟨g, QO, none⟩ : Addr).add j) = some u) := fun W hW j u hu => by
    by_cases h0 : Cb = 0
    · have hj : j < BL.length := (List.getElem?_eq_some_iff.1 hu).1
      have := HBLn.out
      have hm : Mb = 0 := by omega
      rw [hm] at this
      omega
    · rw [hQO, if_neg h0]; exact HNB.out W hW j u hu
  have hneg : ¬ (Kk : Int) < 0 := by omega
  have hltI : (Kk : Int) < (Nn : Int) := by omega
  have hkc : (Kk : Int) ≤ (cap : Int) := by omega
  have hkc2 : ¬ (cap : Int) < (Kk : Int) := by omega
  have hk1 : IntKind.i64.wrap ((Kk : Int) + 1) = (Kk : Int) + 1 := by rw [IntKind.wrap_i64]; omega
  have hkn : (Kk : Int) + 1 ≤ (Nn : Int) := by omega
  have hnc : (Nn : Int) ≤ (cap : Int) := by omega
  have HCB : Hid (cap = Kk + 1 + Cb) := hCb
  have HLEN : Hid (Nn = Kk + 1 + Mb) := hlen
  clear hKk hNn hMb hCb hlen hQO hkn hnc hcap HNB
  go_enter Tryz.func40, Tryz.ntmps40
  go_wp2_with fail
  refine Calls.mono HC.out ?_
  rintro e w1 ⟨rfl, rfl⟩
  clear HC
  go_wp2
  have HBW : Hid (Below X.heap.size X X.drew) := (Below.refl _ _).drew
  refine wp_region_held_drew (S := fun w' => True) (by kernel_rfl) trivial (fun hHeld => ?_)
  generalize X.drew = W at *
  clear hc1 hg2
  refine qzI 0 ⟨some 21, .move (.tmp 0), 27, _, #[], none⟩ (.pointer (some ⟨rb, 0, none⟩)) rfl (by kernel_rfl) (fun _ _ _ h => h) (by rfl) (fun w' hw' => ?_) hHeld ?_
  · go_simp <;> rfl
  try simp only [Act.put, qT, q0, qS]
  refine qzI 1 ⟨some 22, .move (.tmp 0), 27, _, #[], none⟩ (.pointer (some ⟨rb, 0, none⟩)) rfl (by kernel_rfl) (fun _ _ _ h => h) (by rfl) (fun w' hw' => ?_) hHeld ?_
  · go_simp <;> rfl
  try simp only [Act.put, qT, q0, qS]
  refine qzI 2 ⟨some 23, .nilCheck (.tmp 22), 0, _, #[⟨1, .data⟩], none⟩ (.pointer (some ⟨rb, 0, none⟩)) rfl (by kernel_rfl) (fun _ _ _ h => h) (by rfl) (fun w' hw' => ?_) hHeld ?_
  · go_simp <;> rfl
  try simp only [Act.put, qT, q0, qS]
  refine qzI 3 ⟨some 24, .fieldAddr 58 (.tmp 23) 1, 0, _, #[⟨2, .data⟩], none⟩ (.pointer (some ⟨rb, 1, none⟩)) rfl (by kernel_rfl) (fun _ _ _ h => h) (by rfl) (fun w' hw' => ?_) hHeld ?_
  · go_simp <;> rfl
  try simp only [Act.put, qT, q0, qS]
  refine qzI 5 ⟨some 26, .move (.tmp 5), 3, _, #[], none⟩ (.int .i64 (Kk : Int)) rfl (by kernel_rfl) (fun _ _ _ h => h) (by rfl) (fun w' hw' => ?_) hHeld ?_
  · go_simp <;> rfl
  try simp only [Act.put, qT, q0, qS]
  refine qzI 8 ⟨some 29, .move (.tmp 0), 27, _, #[], none⟩ (.pointer (some ⟨rb, 0, none⟩)) rfl (by kernel_rfl) (fun _ _ _ h => h) (by rfl) (fun w' hw' => ?_) hHeld ?_
  · go_simp <;> rfl
  try simp only [Act.put, qT, q0, qS]
  refine qzI 9 ⟨some 30, .nilCheck (.tmp 29), 0, _, #[⟨8, .data⟩], none⟩ (.pointer (some ⟨rb, 0, none⟩)) rfl (by kernel_rfl) (fun _ _ _ h => h) (by rfl) (fun w' hw' => ?_) hHeld ?_
  · go_simp <;> rfl
  try simp only [Act.put, qT, q0, qS]
  refine qzI 10 ⟨some 31, .fieldAddr 58 (.tmp 30) 1, 0, _, #[⟨9, .data⟩], none⟩ (.pointer (some ⟨rb, 1, none⟩)) rfl (by kernel_rfl) (fun _ _ _ h => h) (by rfl) (fun w' hw' => ?_) hHeld ?_
  · go_simp <;> rfl
  try simp only [Act.put, qT, q0, qS]
  refine qzI 12 ⟨some 33, .move (.tmp 5), 3, _, #[], none⟩ (.int .i64 (Kk : Int)) rfl (by kernel_rfl) (fun _ _ _ h => h) (by rfl) (fun w' hw' => ?_) hHeld ?_
  · go_simp <;> rfl
  try simp only [Act.put, qT, q0, qS]
  refine qzI 13 ⟨some 34, .binOp .add 3 (.tmp 33) (.const (Go.Value.int Go.IntKind.i64 1)) 3, 3, _, #[⟨12, .data⟩], none⟩ (.int .i64 ((Kk : Int) + 1)) rfl (by kernel_rfl) (fun _ _ _ h => h) (by rfl) (fun w' hw' => ?_) hHeld ?_
  · go_simp <;> rfl
  try simp only [Act.put, qT, q0, qS]
  refine wpAnyH_ready (rs := [4, 11]) (by kernel_rfl) (by simp) ?_
  refine AllReadyH.cons (o := ⟨some 25, .load 56 (.tmp 24), 56, _, #[⟨3, .data⟩], none⟩) rfl (fun K hK => ?_) (AllReadyH.cons (o := ⟨some 32, .load 56 (.tmp 31), 56, _, #[⟨10, .data⟩], none⟩) rfl (fun K hK => ?_) AllReadyH.nil)
  all_goals rw [if_pos (by rfl)]
  · skip
    have hc4 : W.cell? ⟨rb, 1, none⟩ = some (.slice (some ⟨g, 0, none⟩) Nn cap) := HC1.out _ HBW.out
    go_wp2_with fail
    refine hK.out _ _ hHeld (fun _ => ?_)
    clear hK K
    try simp only [Act.put, qT, q0, qS]
    clear hc4
    refine qzI 6 ⟨some 27, .slice 56 (.tmp 25) none (some (.tmp 26)) none, 56, _, #[⟨4, .data⟩, ⟨5, .data⟩], none⟩ (.slice (some ⟨g, 0, none⟩) Kk cap) rfl (by kernel_rfl) (fun _ _ _ h => h) (by rfl) (fun w' hw' => ?_) hHeld ?_
    · go_simp <;> rfl
    try simp only [Act.put, qT, q0, qS]
    refine wpAnyH_ready (rs := [7, 11]) (by kernel_rfl) (by simp) ?_
    refine AllReadyH.cons (o := ⟨some 28, .call ⟨.builtin Go.Builtin.append, #[.const (Go.Value.slice none 0 0), .tmp 27], #[56, 56]⟩, 56, _, #[⟨6, .data⟩], none⟩) rfl (fun K hK => ?_) (AllReadyH.cons (o := ⟨some 32, .load 56 (.tmp 31), 56, _, #[⟨10, .data⟩], none⟩) rfl (fun K hK => ?_) AllReadyH.nil)
    all_goals rw [if_pos (by rfl)]
    · skip
      refine wp_app_any _ (.const (.slice none 0 0)) (.tmp 27) 56 rfl X.heap.size 54 i0 z0 104 176 Tryz.underlying56 HI0.out HIZ.out HI2.out HI3.out HI4.out (by decide) (.slice none 0 0) 0 [] rfl (World.ownsRow_nil _ _ _ _) ⟨g, 0, none⟩ Kk cap AL rfl HAL.out (HNA.out _ HBW.out) HA1.out HM1.out HM2.out HBW.out.size ?_
      intro v1 W1 hown1 hb1
      have HO1 : Hid (W1.ownsRow X.heap.size 54 104 v1 (0 + Kk) ([] ++ AL)) := hown1
      have HBW1 : Hid (Below X.heap.size X W1) := HBW.out.trans hb1
      clear hown1 hb1
      refine hK.out _ _ hHeld (fun _ => ?_)
      clear hK K
      try simp only [Act.put, qT, q0, qS]
      refine qzR 11 ⟨some 32, .load 56 (.tmp 31), 56, _, #[⟨10, .data⟩], none⟩ (by kernel_rfl) rfl (by rfl) (fun K hK => ?_)
      have hc4 : W1.cell? ⟨rb, 1, none⟩ = some (.slice (some ⟨g, 0, none⟩) Nn cap) := HC1.out _ HBW1.out
      go_wp2_with fail
      refine hK.out _ _ hHeld (fun _ => ?_)
      clear hK K
      try simp only [Act.put, qT, q0, qS]
      clear hc4
      refine qzI 14 ⟨some 35, .slice 56 (.tmp 32) (some (.tmp 34)) none none, 56, _, #[⟨11, .data⟩, ⟨13, .data⟩], none⟩ (.slice (some ⟨g, QO, none⟩) Mb Cb) rfl (by kernel_rfl) (fun _ _ _ h => h) (by rfl) (fun w' hw' => ?_) hHeld ?_
      · have e1 := HCB.out; have e2 := HLEN.out; go_simp; rw [if_pos ⟨by omega, by omega⟩, HQO.out]
      try simp only [Act.put, qT, q0, qS]
      refine qzR 15 ⟨some 36, .call ⟨.builtin Go.Builtin.append, #[.tmp 28, .tmp 35], #[56, 56]⟩, 56, _, #[⟨7, .data⟩, ⟨14, .data⟩, ⟨7, .chain⟩], none⟩ (by kernel_rfl) rfl (by rfl) (fun K hK => ?_)
      refine wp_app_any _ (.tmp 28) (.tmp 35) 56 rfl X.heap.size 54 i0 z0 104 176 Tryz.underlying56 HI0.out HIZ.out HI2.out HI3.out HI4.out (by decide) v1 (0 + Kk) ([] ++ AL) rfl HO1.out ⟨g, QO, none⟩ Mb Cb BL rfl HBLn.out (HNC.out _ HBW1.out) HB1.out HM3.out HM4.out HBW1.out.size ?_
      intro v2 W2 hown2 hb2
      have HO2 : Hid (W2.ownsRow X.heap.size 54 104 v2 (0 + Kk + Mb) ([] ++ AL ++ BL)) := hown2
      have HBW2 : Hid (Below X.heap.size X W2) := HBW1.out.trans hb2
      clear hown2 hb2
      refine hK.out _ _ hHeld (fun _ => ?_)
      clear hK K
      try simp only [Act.put, qT, q0, qS]
      refine qzI 16 ⟨some 37, .nilCheck (.tmp 21), 0, _, #[⟨0, .data⟩, ⟨0, .phase⟩, ⟨1, .phase⟩, ⟨2, .phase⟩, ⟨3, .phase⟩, ⟨4, .phase⟩, ⟨5, .phase⟩, ⟨6, .phase⟩, ⟨7, .phase⟩, ⟨8, .phase⟩, ⟨9, .phase⟩, ⟨10, .phase⟩, ⟨11, .phase⟩, ⟨12, .phase⟩, ⟨13, .phase⟩, ⟨14, .phase⟩, ⟨15, .phase⟩], none⟩ (.pointer (some ⟨rb, 0, none⟩)) rfl (by kernel_rfl) (fun _ _ _ h => h) (by rfl) (fun w' hw' => ?_) hHeld ?_
      · go_simp <;> rfl
      try simp only [Act.put, qT, q0, qS]
      refine qzI 17 ⟨some 38, .fieldAddr 58 (.tmp 37) 1, 0, _, #[⟨16, .data⟩, ⟨0, .phase⟩, ⟨1, .phase⟩, ⟨2, .phase⟩, ⟨3, .phase⟩, ⟨4, .phase⟩, ⟨5, .phase⟩, ⟨6, .phase⟩, ⟨7, .phase⟩, ⟨8, .phase⟩, ⟨9, .phase⟩, ⟨10, .phase⟩, ⟨11, .phase⟩, ⟨12, .phase⟩, ⟨13, .phase⟩, ⟨14, .phase⟩, ⟨15, .phase⟩], none⟩ (.pointer (some ⟨rb, 1, none⟩)) rfl (by kernel_rfl) (fun _ _ _ h => h) (by rfl) (fun w' hw' => ?_) hHeld ?_
      · go_simp <;> rfl
      try simp only [Act.put, qT, q0, qS]
      refine qzR 18 ⟨none, .store 56 (.tmp 38) (.tmp 36), 0, _, #[⟨17, .data⟩, ⟨15, .data⟩, ⟨15, .chain⟩, ⟨0, .phase⟩, ⟨1, .phase⟩, ⟨2, .phase⟩, ⟨3, .phase⟩, ⟨4, .phase⟩, ⟨5, .phase⟩, ⟨6, .phase⟩, ⟨7, .phase⟩, ⟨8, .phase⟩, ⟨9, .phase⟩, ⟨10, .phase⟩, ⟨11, .phase⟩, ⟨12, .phase⟩, ⟨13, .phase⟩, ⟨14, .phase⟩, ⟨15, .phase⟩], none⟩ (by kernel_rfl) rfl (by rfl) (fun K hK => ?_)
      have hc4 : W2.cell? ⟨rb, 1, none⟩ = some (.slice (some ⟨g, 0, none⟩) Nn cap) := HC1.out _ HBW2.out
      have hf4 : W2.frozen? ⟨rb, 1, none⟩ = false := HF1.out _ HBW2.out
      obtain ⟨p2, n2, k2, hv2⟩ := HSL.out _ _ HO2.out
      subst hv2
      have HFIN : Hid (RM c rb I X (W2.setCell ⟨rb, 1, none⟩ (.slice p2 n2 k2)) (a ++ b) last) := HEND.out _ _ HO2.out HBW2.out
      clear HO2 HO1 HBW2 HBW1 HBW
      go_wp2_with fail
      refine hK.out _ _ hHeld (fun _ => ?_)
      clear hK K
      try simp only [Act.put, qT, q0, qS]
      refine wpAnyH_done (by kernel_rfl) ?_ _
      clear hc4 hf4
      go_wp2
      go_ret
      exact ⟨rfl, HFIN.out⟩
    · skip
      have hc4 : W.cell? ⟨rb, 1, none⟩ = some (.slice (some ⟨g, 0, none⟩) Nn cap) := HC1.out _ HBW.out
      go_wp2_with fail
      refine hK.out _ _ hHeld (fun _ => ?_)
      clear hK K
      try simp only [Act.put, qT, q0, qS]
      clear hc4
      refine qzI 14 ⟨some 35, .slice 56 (.tmp 32) (some (.tmp 34)) none none, 56, _, #[⟨11, .data⟩, ⟨13, .data⟩], none⟩ (.slice (some ⟨g, QO, none⟩) Mb Cb) rfl (by kernel_rfl) (fun _ _ _ h => h) (by rfl) (fun w' hw' => ?_) hHeld ?_
      · have e1 := HCB.out; have e2 := HLEN.out; go_simp; rw [if_pos ⟨by omega, by omega⟩, HQO.out]
      try simp only [Act.put, qT, q0, qS]
      refine qzR 7 ⟨some 28, .call ⟨.builtin Go.Builtin.append, #[.const (Go.Value.slice none 0 0), .tmp 27], #[56, 56]⟩, 56, _, #[⟨6, .data⟩], none⟩ (by kernel_rfl) rfl (by rfl) (fun K hK => ?_)
      refine wp_app_any _ (.const (.slice none 0 0)) (.tmp 27) 56 rfl X.heap.size 54 i0 z0 104 176 Tryz.underlying56 HI0.out HIZ.out HI2.out HI3.out HI4.out (by decide) (.slice none 0 0) 0 [] rfl (World.ownsRow_nil _ _ _ _) ⟨g, 0, none⟩ Kk cap AL rfl HAL.out (HNA.out _ HBW.out) HA1.out HM1.out HM2.out HBW.out.size ?_
      intro v1 W1 hown1 hb1
      have HO1 : Hid (W1.ownsRow X.heap.size 54 104 v1 (0 + Kk) ([] ++ AL)) := hown1
      have HBW1 : Hid (Below X.heap.size X W1) := HBW.out.trans hb1
      clear hown1 hb1
      refine hK.out _ _ hHeld (fun _ => ?_)
      clear hK K
      try simp only [Act.put, qT, q0, qS]
      refine qzR 15 ⟨some 36, .call ⟨.builtin Go.Builtin.append, #[.tmp 28, .tmp 35], #[56, 56]⟩, 56, _, #[⟨7, .data⟩, ⟨14, .data⟩, ⟨7, .chain⟩], none⟩ (by kernel_rfl) rfl (by rfl) (fun K hK => ?_)
      refine wp_app_any _ (.tmp 28) (.tmp 35) 56 rfl X.heap.size 54 i0 z0 104 176 Tryz.underlying56 HI0.out HIZ.out HI2.out HI3.out HI4.out (by decide) v1 (0 + Kk) ([] ++ AL) rfl HO1.out ⟨g, QO, none⟩ Mb Cb BL rfl HBLn.out (HNC.out _ HBW1.out) HB1.out HM3.out HM4.out HBW1.out.size ?_
      intro v2 W2 hown2 hb2
      have HO2 : Hid (W2.ownsRow X.heap.size 54 104 v2 (0 + Kk + Mb) ([] ++ AL ++ BL)) := hown2
      have HBW2 : Hid (Below X.heap.size X W2) := HBW1.out.trans hb2
      clear hown2 hb2
      refine hK.out _ _ hHeld (fun _ => ?_)
      clear hK K
      try simp only [Act.put, qT, q0, qS]
      refine qzI 16 ⟨some 37, .nilCheck (.tmp 21), 0, _, #[⟨0, .data⟩, ⟨0, .phase⟩, ⟨1, .phase⟩, ⟨2, .phase⟩, ⟨3, .phase⟩, ⟨4, .phase⟩, ⟨5, .phase⟩, ⟨6, .phase⟩, ⟨7, .phase⟩, ⟨8, .phase⟩, ⟨9, .phase⟩, ⟨10, .phase⟩, ⟨11, .phase⟩, ⟨12, .phase⟩, ⟨13, .phase⟩, ⟨14, .phase⟩, ⟨15, .phase⟩], none⟩ (.pointer (some ⟨rb, 0, none⟩)) rfl (by kernel_rfl) (fun _ _ _ h => h) (by rfl) (fun w' hw' => ?_) hHeld ?_
      · go_simp <;> rfl
      try simp only [Act.put, qT, q0, qS]
      refine qzI 17 ⟨some 38, .fieldAddr 58 (.tmp 37) 1, 0, _, #[⟨16, .data⟩, ⟨0, .phase⟩, ⟨1, .phase⟩, ⟨2, .phase⟩, ⟨3, .phase⟩, ⟨4, .phase⟩, ⟨5, .phase⟩, ⟨6, .phase⟩, ⟨7, .phase⟩, ⟨8, .phase⟩, ⟨9, .phase⟩, ⟨10, .phase⟩, ⟨11, .phase⟩, ⟨12, .phase⟩, ⟨13, .phase⟩, ⟨14, .phase⟩, ⟨15, .phase⟩], none⟩ (.pointer (some ⟨rb, 1, none⟩)) rfl (by kernel_rfl) (fun _ _ _ h => h) (by rfl) (fun w' hw' => ?_) hHeld ?_
      · go_simp <;> rfl
      try simp only [Act.put, qT, q0, qS]
      refine qzR 18 ⟨none, .store 56 (.tmp 38) (.tmp 36), 0, _, #[⟨17, .data⟩, ⟨15, .data⟩, ⟨15, .chain⟩, ⟨0, .phase⟩, ⟨1, .phase⟩, ⟨2, .phase⟩, ⟨3, .phase⟩, ⟨4, .phase⟩, ⟨5, .phase⟩, ⟨6, .phase⟩, ⟨7, .phase⟩, ⟨8, .phase⟩, ⟨9, .phase⟩, ⟨10, .phase⟩, ⟨11, .phase⟩, ⟨12, .phase⟩, ⟨13, .phase⟩, ⟨14, .phase⟩, ⟨15, .phase⟩], none⟩ (by kernel_rfl) rfl (by rfl) (fun K hK => ?_)
      have hc4 : W2.cell? ⟨rb, 1, none⟩ = some (.slice (some ⟨g, 0, none⟩) Nn cap) := HC1.out _ HBW2.out
      have hf4 : W2.frozen? ⟨rb, 1, none⟩ = false := HF1.out _ HBW2.out
      obtain ⟨p2, n2, k2, hv2⟩ := HSL.out _ _ HO2.out
      subst hv2
      have HFIN : Hid (RM c rb I X (W2.setCell ⟨rb, 1, none⟩ (.slice p2 n2 k2)) (a ++ b) last) := HEND.out _ _ HO2.out HBW2.out
      clear HO2 HO1 HBW2 HBW1 HBW
      go_wp2_with fail
      refine hK.out _ _ hHeld (fun _ => ?_)
      clear hK K
      try simp only [Act.put, qT, q0, qS]
      refine wpAnyH_done (by kernel_rfl) ?_ _
      clear hc4 hf4
      go_wp2
      go_ret
      exact ⟨rfl, HFIN.out⟩
  · skip
    have hc4 : W.cell? ⟨rb, 1, none⟩ = some (.slice (some ⟨g, 0, none⟩) Nn cap) := HC1.out _ HBW.out
    go_wp2_with fail
    refine hK.out _ _ hHeld (fun _ => ?_)
    clear hK K
    try simp only [Act.put, qT, q0, qS]
    clear hc4
    refine qzI 14 ⟨some 35, .slice 56 (.tmp 32) (some (.tmp 34)) none none, 56, _, #[⟨11, .data⟩, ⟨13, .data⟩], none⟩ (.slice (some ⟨g, QO, none⟩) Mb Cb) rfl (by kernel_rfl) (fun _ _ _ h => h) (by rfl) (fun w' hw' => ?_) hHeld ?_
    · have e1 := HCB.out; have e2 := HLEN.out; go_simp; rw [if_pos ⟨by omega, by omega⟩, HQO.out]
    try simp only [Act.put, qT, q0, qS]
    refine qzR 4 ⟨some 25, .load 56 (.tmp 24), 56, _, #[⟨3, .data⟩], none⟩ (by kernel_rfl) rfl (by rfl) (fun K hK => ?_)
    have hc4 : W.cell? ⟨rb, 1, none⟩ = some (.slice (some ⟨g, 0, none⟩) Nn cap) := HC1.out _ HBW.out
    go_wp2_with fail
    refine hK.out _ _ hHeld (fun _ => ?_)
    clear hK K
    try simp only [Act.put, qT, q0, qS]
    clear hc4
    refine qzI 6 ⟨some 27, .slice 56 (.tmp 25) none (some (.tmp 26)) none, 56, _, #[⟨4, .data⟩, ⟨5, .data⟩], none⟩ (.slice (some ⟨g, 0, none⟩) Kk cap) rfl (by kernel_rfl) (fun _ _ _ h => h) (by rfl) (fun w' hw' => ?_) hHeld ?_
    · go_simp <;> rfl
    try simp only [Act.put, qT, q0, qS]
    refine qzR 7 ⟨some 28, .call ⟨.builtin Go.Builtin.append, #[.const (Go.Value.slice none 0 0), .tmp 27], #[56, 56]⟩, 56, _, #[⟨6, .data⟩], none⟩ (by kernel_rfl) rfl (by rfl) (fun K hK => ?_)
    refine wp_app_any _ (.const (.slice none 0 0)) (.tmp 27) 56 rfl X.heap.size 54 i0 z0 104 176 Tryz.underlying56 HI0.out HIZ.out HI2.out HI3.out HI4.out (by decide) (.slice none 0 0) 0 [] rfl (World.ownsRow_nil _ _ _ _) ⟨g, 0, none⟩ Kk cap AL rfl HAL.out (HNA.out _ HBW.out) HA1.out HM1.out HM2.out HBW.out.size ?_
    intro v1 W1 hown1 hb1
    have HO1 : Hid (W1.ownsRow X.heap.size 54 104 v1 (0 + Kk) ([] ++ AL)) := hown1
    have HBW1 : Hid (Below X.heap.size X W1) := HBW.out.trans hb1
    clear hown1 hb1
    refine hK.out _ _ hHeld (fun _ => ?_)
    clear hK K
    try simp only [Act.put, qT, q0, qS]
    refine qzR 15 ⟨some 36, .call ⟨.builtin Go.Builtin.append, #[.tmp 28, .tmp 35], #[56, 56]⟩, 56, _, #[⟨7, .data⟩, ⟨14, .data⟩, ⟨7, .chain⟩], none⟩ (by kernel_rfl) rfl (by rfl) (fun K hK => ?_)
    refine wp_app_any _ (.tmp 28) (.tmp 35) 56 rfl X.heap.size 54 i0 z0 104 176 Tryz.underlying56 HI0.out HIZ.out HI2.out HI3.out HI4.out (by decide) v1 (0 + Kk) ([] ++ AL) rfl HO1.out ⟨g, QO, none⟩ Mb Cb BL rfl HBLn.out (HNC.out _ HBW1.out) HB1.out HM3.out HM4.out HBW1.out.size ?_
    intro v2 W2 hown2 hb2
    have HO2 : Hid (W2.ownsRow X.heap.size 54 104 v2 (0 + Kk + Mb) ([] ++ AL ++ BL)) := hown2
    have HBW2 : Hid (Below X.heap.size X W2) := HBW1.out.trans hb2
    clear hown2 hb2
    refine hK.out _ _ hHeld (fun _ => ?_)
    clear hK K
    try simp only [Act.put, qT, q0, qS]
    refine qzI 16 ⟨some 37, .nilCheck (.tmp 21), 0, _, #[⟨0, .data⟩, ⟨0, .phase⟩, ⟨1, .phase⟩, ⟨2, .phase⟩, ⟨3, .phase⟩, ⟨4, .phase⟩, ⟨5, .phase⟩, ⟨6, .phase⟩, ⟨7, .phase⟩, ⟨8, .phase⟩, ⟨9, .phase⟩, ⟨10, .phase⟩, ⟨11, .phase⟩, ⟨12, .phase⟩, ⟨13, .phase⟩, ⟨14, .phase⟩, ⟨15, .phase⟩], none⟩ (.pointer (some ⟨rb, 0, none⟩)) rfl (by kernel_rfl) (fun _ _ _ h => h) (by rfl) (fun w' hw' => ?_) hHeld ?_
    · go_simp <;> rfl
    try simp only [Act.put, qT, q0, qS]
    refine qzI 17 ⟨some 38, .fieldAddr 58 (.tmp 37) 1, 0, _, #[⟨16, .data⟩, ⟨0, .phase⟩, ⟨1, .phase⟩, ⟨2, .phase⟩, ⟨3, .phase⟩, ⟨4, .phase⟩, ⟨5, .phase⟩, ⟨6, .phase⟩, ⟨7, .phase⟩, ⟨8, .phase⟩, ⟨9, .phase⟩, ⟨10, .phase⟩, ⟨11, .phase⟩, ⟨12, .phase⟩, ⟨13, .phase⟩, ⟨14, .phase⟩, ⟨15, .phase⟩], none⟩ (.pointer (some ⟨rb, 1, none⟩)) rfl (by kernel_rfl) (fun _ _ _ h => h) (by rfl) (fun w' hw' => ?_) hHeld ?_
    · go_simp <;> rfl
    try simp only [Act.put, qT, q0, qS]
    refine qzR 18 ⟨none, .store 56 (.tmp 38) (.tmp 36), 0, _, #[⟨17, .data⟩, ⟨15, .data⟩, ⟨15, .chain⟩, ⟨0, .phase⟩, ⟨1, .phase⟩, ⟨2, .phase⟩, ⟨3, .phase⟩, ⟨4, .phase⟩, ⟨5, .phase⟩, ⟨6, .phase⟩, ⟨7, .phase⟩, ⟨8, .phase⟩, ⟨9, .phase⟩, ⟨10, .phase⟩, ⟨11, .phase⟩, ⟨12, .phase⟩, ⟨13, .phase⟩, ⟨14, .phase⟩, ⟨15, .phase⟩], none⟩ (by kernel_rfl) rfl (by rfl) (fun K hK => ?_)
    have hc4 : W2.cell? ⟨rb, 1, none⟩ = some (.slice (some ⟨g, 0, none⟩) Nn cap) := HC1.out _ HBW2.out
    have hf4 : W2.frozen? ⟨rb, 1, none⟩ = false := HF1.out _ HBW2.out
    obtain ⟨p2, n2, k2, hv2⟩ := HSL.out _ _ HO2.out
    subst hv2
    have HFIN : Hid (RM c rb I X (W2.setCell ⟨rb, 1, none⟩ (.slice p2 n2 k2)) (a ++ b) last) := HEND.out _ _ HO2.out HBW2.out
    clear HO2 HO1 HBW2 HBW1 HBW
    go_wp2_with fail
    refine hK.out _ _ hHeld (fun _ => ?_)
    clear hK K
    try simp only [Act.put, qT, q0, qS]
    refine wpAnyH_done (by kernel_rfl) ?_ _
    clear hc4 hf4
    go_wp2
    go_ret
    exact ⟨rfl, HFIN.out⟩
end
end Go.Proofs.YtekbppfocnbhbaaGreat.XC
