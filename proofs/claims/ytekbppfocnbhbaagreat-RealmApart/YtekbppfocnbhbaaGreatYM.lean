import Derived.Test.YtekbppfocnbhbaaGreatYL
set_option linter.unusedVariables false
set_option linter.unusedSimpArgs false
set_option maxHeartbeats 16000000
set_option maxRecDepth 100000
namespace Go.Proofs.YtekbppfocnbhbaaGreat.XC
open Go.RowKit
section
variable {c : Cx} {rb tn : Nat} {I : Nat → Prop} {X : World} {L R : List (R5.Qn × List UInt8)}
theorem infoU8 : (Tryz.prog.info? 5).map (fun i => (i.zero, i.size, i.bytes)) = some (some (.int .u8 0), 1, 1) := by kernel_rfl
theorem B8_one' (l : List UInt8) : ∀ u ∈ l.map B8, u.oneCell' = true := fun u hu => by obtain ⟨x, _, rfl⟩ := List.mem_map.1 hu; rfl
theorem rms_end (h : R5.MM c.w c.n tn c.og c.mo c.rg c.m c.D L R I X X) (hc : X.cell? ⟨rb, 0, none⟩ = some (.pointer (some ⟨c.rg, 0, none⟩))) (hrb : I rb) (hll : R.length < 1000000) (d : Int) (l : List UInt8) (hl : l.length ≤ 1099511627776)
    (hAl : (R5.nx c.D R ⟨1, List.replicate 32 0, d, l⟩).1.length = 32) {X1 : World} (hb1 : Below X.heap.size X X1) (hs1 : X1.heap.size = X.heap.size + 3) {ZL : List Value} (r2 : X1.heap[X.heap.size + 2]? = some (.cells ZL.toArray 33 (0, 0))) :
    (∀ W v, Below X1.heap.size X1 W → HB W v l → (∀ k, v.ownBlock = some k → X.heap.size ≤ k ∧ k < W.heap.size) → Calls Tryz.prog 52 #[.pointer (some ⟨c.rg, 0, none⟩), .int .i64 d, v] W fun e Y => e = .returned (.agg ((R5.nx c.D R ⟨1, List.replicate 32 0, d, l⟩).1.map B8).toArray) ∧ R5.RQ c.w c.n c.og c.mo c.rg c.m c.D L (R5.nx c.D R ⟨1, List.replicate 32 0, d, l⟩).2 (fun k => I k ∨ (X.heap.size ≤ k ∧ k < W.heap.size)) W Y) ∧
    (∀ W Y, Below X1.heap.size X1 W → R5.RQ c.w c.n c.og c.mo c.rg c.m c.D L (R5.nx c.D R ⟨1, List.replicate 32 0, d, l⟩).2 (fun k => I k ∨ (X.heap.size ≤ k ∧ k < W.heap.size)) W Y → Y.heap[X.heap.size + 2]? = some (.cells ZL.toArray 33 (0, 0)) ∧ Y.cell? ⟨rb, 0, none⟩ = some (.pointer (some ⟨c.rg, 0, none⟩)) ∧ ∀ AA, R5.RQ c.w c.n c.og c.mo c.rg c.m c.D L (R5.nx c.D R ⟨1, List.replicate 32 0, d, l⟩).2 I X (Y.setRow (X.heap.size + 2) AA)) ∧
    (∀ W, Below X1.heap.size X1 W → W.cell? ⟨rb, 0, none⟩ = some (.pointer (some ⟨c.rg, 0, none⟩))) ∧ rb ≠ X.heap.size + 2 := by
  have hIl : ∀ k, I k → k < X.heap.size := fun k hk => by
    obtain ⟨S, dv, ov, T, dr, lv, lds, h1, h2, h3, h4, h5, h6⟩ := h.ex
    exact (h5 k hk).2.2
  refine ⟨fun W v hW hv hI => ?_, fun W Y hW hY => ?_, fun W hW => ?_, by have := hIl rb hrb; omega⟩
  · have hbW : Below X.heap.size X W := hb1.trans (hW.mono (by omega))
    exact (h.go (J := fun k => I k ∨ (X.heap.size ≤ k ∧ k < W.heap.size)) (R5.Fr.ofBelow hbW) (fun k hk => hk)).rdig hll d v l hl hv (fun k hk => .inr (hI k hk)) hAl
  · have hsW := hW.size
    have hYk : ∀ k, I k → Y.heap[k]? = X.heap[k]? := fun k hk => by
      rw [hY.2.1 k (.inl hk), hW.block k (by have := hIl k hk; omega), hb1.block k (hIl k hk)]
    refine ⟨?_, ?_, fun AA => ⟨?_, fun k hk => ?_, ?_⟩⟩
    · rw [hY.2.1 _ (.inr ⟨by omega, by omega⟩), hW.block _ (by omega)]; exact r2
    · rw [World.cell?_of_block (w := X) (a := ⟨rb, 0, none⟩) (hYk rb hrb)]; exact hc
    · have hsz : (Y.setRow (X.heap.size + 2) AA).heap.size = Y.heap.size := by simp
      rw [hsz]
      exact hY.1.go (R5.Fr.setRow (R5.Fr.refl _ _) (X.heap.size + 2) AA (.inl ⟨by have := h.low.2; omega, .inr ⟨by omega, by omega⟩⟩)) (fun k hk => .inl (.inl hk))
    · rw [setRow_other _ _ _ _ (by have := hIl k hk; omega)]; exact hYk k hk
    · have hsz : (Y.setRow (X.heap.size + 2) AA).heap.size = Y.heap.size := by simp
      have := hY.2.2
      omega
  · rw [World.cell?_of_block (w := X) (a := ⟨rb, 0, none⟩) ((hW.block rb (by have := hIl rb hrb; omega)).trans (hb1.block rb (hIl rb hrb)))]; exact hc
theorem rms2 (h : R5.MM c.w c.n tn c.og c.mo c.rg c.m c.D L R I X X) (hc : X.cell? ⟨rb, 0, none⟩ = some (.pointer (some ⟨c.rg, 0, none⟩))) (hrb : I rb) (hll : R.length < 1000000) (ml : List UInt8) (hml : ml.length = 32) (rec : Rd) (hok : rec.ok) (hk : rec.kind = 2) (pg : Nat) (hpg : rec.page = (pg : Int)) (hp7 : pg < 128)
    (hAl : (R5.nx c.D R ⟨1, List.replicate 32 0, 2, ml ++ W1.le 8 pg ++ rec.data⟩).1.length = 32) :
    Calls Tryz.prog 18 #[.pointer (some ⟨rb, 0, none⟩), .agg (ml.map B8).toArray, .agg (rdL rec).toArray] X fun e Y => e = .returned (.agg ((R5.nx c.D R ⟨1, List.replicate 32 0, 2, ml ++ W1.le 8 pg ++ rec.data⟩).1.map B8).toArray) ∧ R5.RQ c.w c.n c.og c.mo c.rg c.m c.D L (R5.nx c.D R ⟨1, List.replicate 32 0, 2, ml ++ W1.le 8 pg ++ rec.data⟩).2 I X Y := by
  have hzv := fun W => R5.zero_dig W
  obtain ⟨ZL, hZL⟩ : ∃ L, L = (List.replicate 32 (0 : UInt8)).map B8 := ⟨_, rfl⟩
  rw [← hZL] at hzv
  have HZS : Hid (ZL.toArray.size = 32) := by show _ = _; rw [hZL]; simp
  obtain ⟨X1, hX1⟩ : ∃ X1, X1 = ((X.alloc (.cells (ml.map B8).toArray 33 (0, 0))).alloc (.cells (rdL rec).toArray 69 (0, 0))).alloc (.cells ZL.toArray 33 (0, 0)) := ⟨_, rfl⟩
  obtain ⟨hb1, hs1, r0, r1, r2⟩ := alloc_three X _ _ _ _ _ _ X1 hX1
  have hle := W1.le_length 8 pg
  obtain ⟨LQ, hLQ⟩ : ∃ LQ, LQ = ml ++ W1.le 8 pg ++ rec.data := ⟨_, rfl⟩
  rw [← hLQ] at hAl ⊢
  obtain ⟨e1, e2, e3, e4⟩ := rms_end h hc hrb hll 2 LQ (by rw [hLQ]; simp [hml, hle, hok.d]) hAl hb1 hs1 r2
  have HDIG : Hid _ := e1
  have HC : Hid _ := e2
  have HXc : Hid (∀ W, Below X1.heap.size X1 W → W.cell? ⟨rb, 0, none⟩ = some (.pointer (some ⟨c.rg, 0, none⟩))) := e3
  have HNE : Hid (rb ≠ X.heap.size + 2) := e4
  have HLQ : Hid (LQ = ml ++ W1.le 8 pg ++ rec.data) := hLQ
  have HMR : Hid (X1.rangeAt X.heap.size 0 (ml.map B8)) := PC.rangeAt_row r0
  have HDR : Hid (X1.rangeAt (X.heap.size + 1) 34 (rec.data.map B8)) := by
    have := PC.rangeAt_part (PC.rangeAt_row r1) 34 128
    rwa [rdL_dat hok, Nat.zero_add] at this
  have HPG : Hid (X1.cell? ⟨X.heap.size + 1, 33, none⟩ = some (.int .i64 (pg : Int))) := by
    have := PC.rangeAt_row r1 33 _ (rdL_33 hok)
    rw [hpg] at this; exact this
  have hkd : X1.cell? ⟨X.heap.size + 1, 0, none⟩ = some (.int .i64 2) := by
    have := PC.rangeAt_row r1 0 (.int .i64 rec.kind) rfl
    rw [hk] at this; exact this
  have HPW : Hid (IntKind.u64.wrap (pg : Int) = (pg : Int)) := by show _ = _; rw [IntKind.wrap_u64]; omega
  obtain ⟨i0, hi, hz0, hz1, hz2⟩ := info_parts infoU8
  have HI0 : Hid _ := hi
  have HIZ : Hid _ := hz0
  have HI2 : Hid _ := hz1
  have HI3 : Hid _ := hz2
  have HS1 : Hid (X1.heap.size = X.heap.size + 3) := hs1
  have HAL : Hid ((R5.nx c.D R ⟨1, List.replicate 32 0, 2, LQ⟩).1.length = 32) := hAl
  have HML : Hid (ml.length = 32) := hml
  have HDL : Hid (rec.data.length = 128) := hok.d
  have HLE : Hid ((W1.le 8 pg).length = 8) := hle
  have HX1 : Hid (X1 = ((X.alloc (.cells (ml.map B8).toArray 33 (0, 0))).alloc (.cells (rdL rec).toArray 69 (0, 0))).alloc (.cells ZL.toArray 33 (0, 0))) := hX1
  rw [hX1] at hkd
  generalize R5.nx c.D R ⟨1, List.replicate 32 0, 2, LQ⟩ = NX at *
  generalize (rdL rec).toArray = RA at *
  obtain ⟨MA, hMA⟩ : ∃ MA, MA = (ml.map B8).toArray := ⟨_, rfl⟩
  rw [← hMA] at HX1 hkd ⊢
  generalize rec.data = DT at *
  have HLEC : Hid (∀ V, Calls Tryz.prog 51 #[.int .u64 (pg : Int)] V fun e w' => ∃ v, e = .returned v ∧ FB V.heap.size w' v (W1.le 8 pg) ∧ Below V.heap.size V w') := fun V => R5.le_any pg V (by omega)
  generalize W1.le 8 pg = LE at *
  clear h hb1 hs1 r0 r1 r2 hAl hX1 hZL hk hok e1 e2 e3 e4 hLQ hi hz0 hz1 hz2 hml hle hpg hMA
  go_enter Tryz.func18, Tryz.ntmps18
  go_wp2
  rw [← HX1.out]
  clear HX1 hkd
  refine wp_region_held_drew (S := fun w' => Below X1.heap.size X1 w') (by kernel_rfl) (Below.refl _ _).drew (fun hHeld => ?_)
  generalize X1.drew = W at *
  refine qzI 0 ⟨some 22, .slice 33 (.tmp 4) none none none, 106, _, #[], none⟩ (.slice (some ⟨X.heap.size, 0, none⟩) 32 32) rfl (by kernel_rfl) (fun _ _ _ h => h) (by rfl) (fun w' hw' => ?_) hHeld ?_
  · go_simp <;> rfl
  try simp only [Act.put, qT, q0, qS]
  refine qzI 2 ⟨some 24, .fieldAddr 69 (.tmp 5) 2, 0, _, #[], none⟩ (.pointer (some ⟨X.heap.size + 1, 33, none⟩)) rfl (by kernel_rfl) (fun _ _ _ h => h) (by rfl) (fun w' hw' => ?_) hHeld ?_
  · go_simp <;> rfl
  try simp only [Act.put, qT, q0, qS]
  refine qzI 3 ⟨some 25, .load 3 (.tmp 24), 3, _, #[⟨2, .data⟩], none⟩ (.int .i64 (pg : Int)) rfl (by kernel_rfl) (fun _ _ _ h => h) (by rfl) (fun w' hw' => ?_) hHeld ?_
  · have hq := (Below.cell hw' (block_lt HPG.out)).trans HPG.out; go_simp <;> rfl
  try simp only [Act.put, qT, q0, qS]
  refine qzI 4 ⟨some 26, .convert 3 34 (.tmp 25), 34, _, #[⟨3, .data⟩], none⟩ (.int .u64 (pg : Int)) rfl (by kernel_rfl) (fun _ _ _ h => h) (by rfl) (fun w' hw' => ?_) hHeld ?_
  · have hq := HPW.out; go_simp <;> rfl
  try simp only [Act.put, qT, q0, qS]
  refine qzR 1 ⟨some 23, .call ⟨.builtin Go.Builtin.append, #[.const (Go.Value.slice none 0 0), .tmp 22], #[106, 106]⟩, 106, _, #[⟨0, .data⟩], none⟩ (by kernel_rfl) rfl (by rfl) (fun K hK => ?_)
  refine wp_app_any _ (.const (.slice none 0 0)) (.tmp 22) 106 rfl X1.heap.size 5 i0 (.int .u8 0) 1 1 Tryz.underlying106 HI0.out HIZ.out HI2.out HI3.out rfl (by decide) (.slice none 0 0) 0 [] rfl (World.ownsRow_nil _ _ _ _) ⟨X.heap.size, 0, none⟩ 32 32 (ml.map B8) rfl (by rw [List.length_map, HML.out]) (fun j u hu => by rw [Addr.add_mid]; exact R5.rangeAt_below HMR.out hHeld j u hu) (B8_one' ml) (by decide) (by decide) hHeld.size ?_
  intro v1 V1 hown1 hb1
  have HO1 : Hid (V1.ownsRow X1.heap.size 5 1 v1 (0 + 32) ([] ++ ml.map B8)) := hown1
  have hHeld1 : Below X1.heap.size X1 V1 := hHeld.trans hb1
  clear hown1 hb1
  refine hK.out _ _ hHeld1 (fun _ => ?_)
  clear hK K
  try simp only [Act.put, qT, q0, qS]
  refine qzR 5 ⟨some 27, .call ⟨.value (.func 51), #[.tmp 26], #[34]⟩, 106, _, #[⟨4, .data⟩, ⟨1, .chain⟩], none⟩ (by kernel_rfl) rfl (by rfl) (fun K hK => ?_)
  go_wp2_with fail
  refine Calls.mono (HLEC.out V1) ?_
  rintro e V2 ⟨v5, rfl, hf5, hb2⟩
  have HO2 : Hid (V2.ownsRow X1.heap.size 5 1 v1 (0 + 32) ([] ++ ml.map B8)) := R5.own_keep HO1.out (fun k e hl => hb2.block k hl)
  have hHeld2 : Below X1.heap.size X1 V2 := hHeld1.trans (hb2.mono hHeld1.size)
  have hf5' : V2.ownsRow V1.heap.size 5 1 v5 8 (LE.map B8) := by have := hf5; unfold FB at this; rwa [HLE.out] at this
  obtain ⟨g5, c5, hv5, _⟩ := World.ownsRow.form hf5' (by decide)
  subst hv5
  have HN5 : Hid (∀ j u, (LE.map B8)[j]? = some u → V2.cell? ((⟨g5, 0, none⟩ : Addr).add j) = some u) := hf5'.cells rfl
  clear hf5 hf5' hb2 HO1 HLEC
  refine hK.out _ _ hHeld2 (fun _ => ?_)
  clear hK K
  try simp only [Act.put, qT, q0, qS]
  refine qzR 6 ⟨some 28, .call ⟨.builtin Go.Builtin.append, #[.tmp 23, .tmp 27], #[106, 106]⟩, 106, _, #[⟨1, .data⟩, ⟨5, .data⟩, ⟨5, .chain⟩], none⟩ (by kernel_rfl) rfl (by rfl) (fun K hK => ?_)
  refine wp_app_any _ (.tmp 23) (.tmp 27) 106 rfl X1.heap.size 5 i0 (.int .u8 0) 1 1 Tryz.underlying106 HI0.out HIZ.out HI2.out HI3.out rfl (by decide) v1 (0 + 32) ([] ++ ml.map B8) rfl HO2.out ⟨g5, 0, none⟩ 8 c5 (LE.map B8) rfl (by rw [List.length_map, HLE.out]) HN5.out (B8_one' LE) (by decide) (by decide) hHeld2.size ?_
  intro v6 V3 hown6 hb3
  have HO3 : Hid (V3.ownsRow X1.heap.size 5 1 v6 (0 + 32 + 8) ([] ++ ml.map B8 ++ LE.map B8)) := hown6
  have hHeld3 : Below X1.heap.size X1 V3 := hHeld2.trans hb3
  clear hown6 hb3 HO2 HN5 hHeld1 hHeld2 hHeld
  refine hK.out _ _ hHeld3 (fun _ => ?_)
  clear hK K
  try simp only [Act.put, qT, q0, qS]
  have hHeld := hHeld3
  refine qzI 7 ⟨some 7, .assign (.tmp 28), 106, _, #[⟨6, .data⟩, ⟨6, .chain⟩, ⟨0, .phase⟩, ⟨1, .phase⟩, ⟨2, .phase⟩, ⟨3, .phase⟩, ⟨4, .phase⟩, ⟨5, .phase⟩, ⟨6, .phase⟩], none⟩ (v6) rfl (by kernel_rfl) (fun _ _ _ h => h) (by rfl) (fun w' hw' => ?_) hHeld ?_
  · go_simp <;> rfl
  try simp only [Act.put, qT, q0, qS]
  refine wpAnyH_done (by kernel_rfl) ?_ _
  have HBW : Hid (Below X1.heap.size X1 V3.drew) := hHeld3.drew
  have HO4 : Hid (V3.drew.ownsRow X1.heap.size 5 1 v6 (0 + 32 + 8) ([] ++ ml.map B8 ++ LE.map B8)) := HO3.out.drew
  clear hHeld hHeld3 HO3
  obtain ⟨g6, c6, hv6, _⟩ := World.ownsRow.form HO4.out (by decide)
  subst hv6
  go_wp2
  refine wp_region_held_drew (S := fun w' => w'.cell? ⟨rb, 0, none⟩ = some (.pointer (some ⟨c.rg, 0, none⟩))) (by kernel_rfl) (HXc.out _ HBW.out) (fun hHeld => ?_)
  generalize V3.drew = U at *
  refine qzI 0 ⟨some 29, .move (.tmp 0), 27, _, #[], none⟩ (.pointer (some ⟨rb, 0, none⟩)) rfl (by kernel_rfl) (fun _ _ _ h => h) (by rfl) (fun w' hw' => ?_) hHeld ?_
  · go_simp <;> rfl
  try simp only [Act.put, qT, q0, qS]
  refine qzI 1 ⟨some 30, .nilCheck (.tmp 29), 0, _, #[⟨0, .data⟩], none⟩ (.pointer (some ⟨rb, 0, none⟩)) rfl (by kernel_rfl) (fun _ _ _ h => h) (by rfl) (fun w' hw' => ?_) hHeld ?_
  · go_simp <;> rfl
  try simp only [Act.put, qT, q0, qS]
  refine qzI 2 ⟨some 31, .fieldAddr 58 (.tmp 30) 0, 0, _, #[⟨1, .data⟩], none⟩ (.pointer (some ⟨rb, 0, none⟩)) rfl (by kernel_rfl) (fun _ _ _ h => h) (by rfl) (fun w' hw' => ?_) hHeld ?_
  · go_simp <;> rfl
  try simp only [Act.put, qT, q0, qS]
  refine qzI 3 ⟨some 32, .load 55 (.tmp 31), 55, _, #[⟨2, .data⟩], none⟩ (.pointer (some ⟨c.rg, 0, none⟩)) rfl (by kernel_rfl) (fun _ _ _ h => h) (by rfl) (fun w' hw' => ?_) hHeld ?_
  · have hq := hw'; go_simp <;> rfl
  try simp only [Act.put, qT, q0, qS]
  refine qzI 4 ⟨some 33, .move (.tmp 7), 106, _, #[], none⟩ (.slice (some ⟨g6, 0, none⟩) (0 + 32 + 8) c6) rfl (by kernel_rfl) (fun _ _ _ h => h) (by rfl) (fun w' hw' => ?_) hHeld ?_
  · go_simp <;> rfl
  try simp only [Act.put, qT, q0, qS]
  refine qzI 5 ⟨some 34, .fieldAddr 69 (.tmp 5) 3, 0, _, #[], none⟩ (.pointer (some ⟨X.heap.size + 1, 34, none⟩)) rfl (by kernel_rfl) (fun _ _ _ h => h) (by rfl) (fun w' hw' => ?_) hHeld ?_
  · go_simp <;> rfl
  try simp only [Act.put, qT, q0, qS]
  refine qzI 6 ⟨some 35, .slice 38 (.tmp 34) none none none, 106, _, #[⟨5, .data⟩], none⟩ (.slice (some ⟨X.heap.size + 1, 34, none⟩) 128 128) rfl (by kernel_rfl) (fun _ _ _ h => h) (by rfl) (fun w' hw' => ?_) hHeld ?_
  · go_simp <;> rfl
  try simp only [Act.put, qT, q0, qS]
  refine qzR 7 ⟨some 36, .call ⟨.builtin Go.Builtin.append, #[.tmp 33, .tmp 35], #[106, 106]⟩, 106, _, #[⟨4, .data⟩, ⟨6, .data⟩], none⟩ (by kernel_rfl) rfl (by rfl) (fun K hK => ?_)
  refine wp_app_any _ (.tmp 33) (.tmp 35) 106 rfl X1.heap.size 5 i0 (.int .u8 0) 1 1 Tryz.underlying106 HI0.out HIZ.out HI2.out HI3.out rfl (by decide) (.slice (some ⟨g6, 0, none⟩) (0 + 32 + 8) c6) (0 + 32 + 8) ([] ++ ml.map B8 ++ LE.map B8) rfl HO4.out ⟨X.heap.size + 1, 34, none⟩ 128 128 (DT.map B8) rfl (by rw [List.length_map, HDL.out]) (fun j u hu => by rw [Addr.add_mid]; exact R5.rangeAt_below HDR.out HBW.out j u hu) (B8_one' DT) (by decide) (by decide) HBW.out.size ?_
  intro v7 V4 hown7 hb4
  have hbV4 : Below X1.heap.size X1 V4 := HBW.out.trans hb4
  have hFB : FB X1.heap.size V4 v7 LQ := by
    unfold FB
    rw [HLQ.out]
    simpa [HML.out, HLE.out, HDL.out] using hown7
  have hlt7 : ∀ k, v7.ownBlock = some k → X.heap.size ≤ k ∧ k < V4.heap.size := fun k hk => by
    have := hown7.lt k hk
    have := HS1.out
    omega
  have HD8 : Hid _ := HDIG.out V4 v7 hbV4 hFB.hb hlt7
  have HBV4 : Hid (Below X1.heap.size X1 V4) := hbV4
  have hH4 := HXc.out V4 hbV4
  clear hown7 hb4 hFB hlt7 HDIG hbV4
  refine hK.out _ _ hH4 (fun _ => ?_)
  clear hK K
  try simp only [Act.put, qT, q0, qS]
  refine qzR 8 ⟨some 37, .call ⟨.value (.func 52), #[.tmp 32, .const (Go.Value.int Go.IntKind.i64 2), .tmp 36], #[55, 105, 106]⟩, 33, _, #[⟨3, .data⟩, ⟨7, .data⟩, ⟨7, .chain⟩], none⟩ (by kernel_rfl) rfl (by rfl) (fun K hK => ?_)
  go_wp2_with fail
  refine Calls.mono HD8.out ?_
  rintro e Y ⟨rfl, hY⟩
  obtain ⟨hr2, hcY, hfin⟩ := HC.out V4 Y HBV4.out hY
  have HR2 : Hid (Y.heap[X.heap.size + 2]? = some (.cells ZL.toArray 33 (0, 0))) := hr2
  have HFIN : Hid (R5.RQ c.w c.n c.og c.mo c.rg c.m c.D L NX.2 I X (Y.setRow (X.heap.size + 2) (NX.1.map B8).toArray)) := hfin _
  have HAS : Hid ((NX.1.map B8).toArray.size = 32) := by show _ = _; simpa using HAL.out
  have HA1 : Hid _ := R5.B8_onea NX.1
  clear hr2 hfin hY HD8 HC HAL HXc hH4
  obtain ⟨AA, hAA⟩ : ∃ AA, AA = (NX.1.map B8).toArray := ⟨_, rfl⟩
  rw [← hAA] at HFIN HAS HA1 ⊢
  have HAA : Hid (AA = (NX.1.map B8).toArray) := hAA
  clear hAA
  refine hK.out _ _ hcY (fun _ => ?_)
  clear hK K
  try simp only [Act.put, qT, q0, qS]
  refine qzR 9 ⟨none, .store 33 (.tmp 6) (.tmp 37), 0, _, #[⟨8, .data⟩, ⟨8, .chain⟩, ⟨0, .phase⟩, ⟨1, .phase⟩, ⟨2, .phase⟩, ⟨3, .phase⟩, ⟨4, .phase⟩, ⟨5, .phase⟩, ⟨6, .phase⟩, ⟨7, .phase⟩, ⟨8, .phase⟩], none⟩ (by kernel_rfl) rfl (by rfl) (fun K hK => ?_)
  refine wp_store_row 33 _ _ rfl (X.heap.size + 2) AA rfl rfl 33 ZL.toArray HR2.out (R5.info32a _ HAS.out) (HZS.out.trans HAS.out.symm) HA1.out ?_
  have hcZ : (Y.setRow (X.heap.size + 2) AA).cell? ⟨rb, 0, none⟩ = some (.pointer (some ⟨c.rg, 0, none⟩)) := by
    rw [World.cell?_of_block (w := Y) (a := ⟨rb, 0, none⟩) (setRow_other _ _ _ _ HNE.out)]; exact hcY
  refine hK.out _ _ hcZ (fun _ => ?_)
  clear hK K
  try simp only [Act.put, qT, q0, qS]
  refine wpAnyH_done (by kernel_rfl) ?_ _
  clear hcY hcZ hHeld HNE
  go_wp2
  refine bodyPost_ret (v := .agg AA) ?_ rfl ⟨by rw [HAA.out], HFIN.out⟩
  exact results_cell_row Tryz.results18 _ _ (X.heap.size + 2) 33 _ (0, 0) _ rfl (setRow_heap _ _ _ _ _ _ HR2.out) Tryz.underlying33 rfl (R5.info32a _ HAS.out)
end
end Go.Proofs.YtekbppfocnbhbaaGreat.XC
