import Derived.Test.YtekbppfocnbhbaaGreatYR
set_option linter.unusedVariables false
set_option linter.unusedSimpArgs false
set_option maxHeartbeats 16000000
set_option maxRecDepth 100000
namespace Go.Proofs.YtekbppfocnbhbaaGreat.XC
open Go.RowKit
section
variable {c : Cx} {rb tn last : Nat} {I J : Nat → Prop} {X Y V W : World} {rl a b : List En} {av : Value} {rd : Int} {r : Rm} {lv : Value} {L R : List (R5.Qn × List UInt8)}
theorem gv_facts {s : Nat} {RA : Array Value} {rec : Rd} (hrec : rec.ok) (h : GV c rb s L R I X V (a ++ (rd, r, lv) :: b) last av RA) {g cap gl cl : Nat} (hav : av = .slice (some ⟨g, 0, none⟩) (a ++ (rd, r, lv) :: b).length cap) (hlv : lv = .slice (some ⟨gl, 0, none⟩) r.log.length cl) (hgs : g ≠ s) :
    (∀ U, Below V.heap.size V U → U.cell? ⟨g, a.length * 104 + 37, none⟩ = some (.slice (some ⟨gl, 0, none⟩) r.log.length cl)) ∧ (∀ U, Below V.heap.size V U → U.frozen? ⟨g, a.length * 104 + 37, none⟩ = false) ∧ (∀ U, Below V.heap.size V U → ∀ j u, (lgC r.log)[j]? = some u → U.cell? ((⟨gl, 0, none⟩ : Addr).add j) = some u) ∧
    (∀ U, Below V.heap.size V U → U.heap[s]? = some (.cells RA 69 (0, 0))) ∧ (∀ U, Below V.heap.size V U → ∀ v, (U.setCell ⟨g, a.length * 104 + 37, none⟩ v).heap[s]? = some (.cells RA 69 (0, 0))) ∧
    (∀ U v, Below V.heap.size V U → U.ownsRow V.heap.size 69 172 v (0 + r.log.length + 1) ([] ++ lgC r.log ++ rdL rec) → GE c rb L R I X (U.setCell ⟨g, a.length * 104 + 37, none⟩ v) a b rd { r with log := r.log ++ [rec] } last av) := by
  have hIl : ∀ k, (I k ∨ k = s) → k < V.heap.size := fun k hk => by
    obtain ⟨S, dv, ov, T, dr, lv, lds, h1, h2, h3, h4, h5, h6⟩ := h.mm.ex
    exact (h5 k hk).2.2
  have h0 : (rd, r, lv) ∈ a ++ (rd, r, lv) :: b := by simp
  have hok := h.rx.ok _ h0
  have hU : ∀ U, Below V.heap.size V U → RX c rb I U (a ++ (rd, r, lv) :: b) last av := fun U hb => h.rx.below (fun k hk => hIl k (.inl hk)) hb
  have hbx : ∀ U, Below V.heap.size V U → U.heap[s]? = some (.cells RA 69 (0, 0)) := fun U hb => (hb.block s (hIl s (.inr rfl))).trans h.box
  refine ⟨fun U hb => ?_, fun U hb => (hU U hb).frz hav _, fun U hb j u hu => ?_, hbx, fun U hb v => (heap_setCell_other _ _ _ _ (by show s ≠ g; exact hgs.symm)).trans (hbx U hb), fun U v hb hown => ?_⟩
  · rw [(hU U hb).get hav 37 (by decide), ← hlv]
    show (rmL r lv)[36]? = _
    exact rmL_36 hok lv
  · rcases (hU U hb).logs _ h0 with ⟨e, _⟩ | ⟨gl', cl', e, hc⟩
    · rw [show (rd, r, lv).2.2 = lv from rfl, hlv] at e; simp at e
    · rw [show (rd, r, lv).2.2 = lv from rfl, hlv] at e
      injection e with e1 e2 e3
      injection e1 with e1
      injection e1 with e1
      subst e1
      rw [Addr.add_mid, Nat.zero_add]
      exact hc j u hu
  · refine gv_log h hav (l' := r.log ++ [rec]) (fun x hx => ?_) hb ?_
    · rcases List.mem_append.1 hx with hx | hx
      · exact hok.l x hx
      · rw [List.mem_singleton.1 hx]; exact hrec
    · rw [lgC_snoc, List.length_append, List.length_singleton, ← Nat.zero_add r.log.length]
      exact hown
theorem rgrow_ok (h : RX c rb I X (a ++ (rd, r, lv) :: b) last av) (hM : R5.MM c.w c.n tn c.og c.mo c.rg c.m c.D L R I X X) (hn : (a ++ (rd, r, lv) :: b).length < 1000000) (hno : NoRd a rd) (hst : r.st = 1) (rec : Rd) (hrec : rec.ok) (hlog : r.log.length < 100000) (hne : r.log ≠ [])
    (NX : List UInt8 × List (R5.Qn × List UInt8)) (hNX : NX.1.length = 32)
    (hMs : ∀ W J, R5.MM c.w c.n tn c.og c.mo c.rg c.m c.D L R J W W → W.cell? ⟨rb, 0, none⟩ = some (.pointer (some ⟨c.rg, 0, none⟩)) → J rb → Calls Tryz.prog 18 #[.pointer (some ⟨rb, 0, none⟩), .agg (r.meas.map B8).toArray, .agg (rdL rec).toArray] W fun e Y => e = .returned (.agg (NX.1.map B8).toArray) ∧ R5.RQ c.w c.n c.og c.mo c.rg c.m c.D L NX.2 J W Y) :
    Calls Tryz.prog 73 #[.pointer (some ⟨rb, 0, none⟩), .int .i64 rd, .agg (rdL rec).toArray] X fun e Y => e = .returned (.int .i64 0) ∧ GE c rb L NX.2 I X Y a b rd { r with meas := NX.1, log := r.log ++ [rec] } last av := by
  have hs : ∀ k, I k → k < X.heap.size := fun k hk => by
    obtain ⟨S, dv, ov, T, dr, lv, lds, h1, h2, h3, h4, h5, h6⟩ := hM.ex
    exact (h5 k hk).2.2
  obtain ⟨X1, hX1⟩ : ∃ X1, X1 = X.alloc (.cells (rdL rec).toArray 69 (0, 0)) := ⟨_, rfl⟩
  have hb1 : Below X.heap.size X X1 := by rw [hX1]; exact (Below.refl _ _).alloc (Nat.le_refl _) _
  have hs1 : X1.heap.size = X.heap.size + 1 := by rw [hX1]; simp
  have hbx : X1.heap[X.heap.size]? = some (.cells (rdL rec).toArray 69 (0, 0)) := by rw [hX1]; exact heap_alloc_new _ _
  have h1 := h.below hs hb1
  have hs2 : ∀ k, I k → k < X1.heap.size := fun k hk => by have := hs k hk; omega
  have M1 : R5.MM c.w c.n tn c.og c.mo c.rg c.m c.D L R (fun k => I k ∨ k = X.heap.size) X1 X1 := hM.go (R5.Fr.ofBelow hb1) (fun k hk => hk.elim .inl (fun e => .inr (by omega)))
  obtain ⟨g, cap, hav⟩ := h1.slice
  have hgo : av.ownBlock = some g := by rw [hav]; rfl
  have hgX : g < X.heap.size := hs _ (h.aI g hgo).1
  have hok := h.ok _ (show (rd, r, lv) ∈ a ++ (rd, r, lv) :: b by simp)
  obtain ⟨gl, cl, hlv⟩ : ∃ gl cl, lv = .slice (some ⟨gl, 0, none⟩) r.log.length cl := by
    rcases h.logs _ (show (rd, r, lv) ∈ a ++ (rd, r, lv) :: b by simp) with ⟨_, e⟩ | ⟨gl, cl, e, _⟩
    · exact absurd e hne
    · exact ⟨gl, cl, e⟩
  have HMSC : Hid (∀ W, Below X1.heap.size X1 W → Calls Tryz.prog 18 #[.pointer (some ⟨rb, 0, none⟩), .agg (r.meas.map B8).toArray, .agg (rdL rec).toArray] W fun e Y => e = .returned (.agg (NX.1.map B8).toArray) ∧ R5.RQ c.w c.n c.og c.mo c.rg c.m c.D L NX.2 (fun k => I k ∨ k = X.heap.size) W Y) := fun W hW => hMs W _ ((M1.step hW).fix) ((h1.below hs2 hW).cells.1) (.inl h.fI.1)
  have HME : Hid (∀ W, Below X1.heap.size X1 W → W.rangeAt g (a.length * 104 + 5) (r.meas.map B8)) := fun W hW => (h1.below hs2 hW).meas hav
  have HGV : Hid (∀ W Y, Below X1.heap.size X1 W → R5.RQ c.w c.n c.og c.mo c.rg c.m c.D L NX.2 (fun k => I k ∨ k = X.heap.size) W Y → ∃ RL : List Value, Y.heap[g]? = some (.cells RL.toArray 54 (0, 0)) ∧ Y.heap[X.heap.size]? = some (.cells (rdL rec).toArray 69 (0, 0)) ∧ a.length * 104 + 5 + (NX.1.map B8).toArray.size ≤ RL.length ∧
      ∀ V, V = Y.setRow g (splice RL (a.length * 104 + 5) (NX.1.map B8).toArray.toList).toArray → GV c rb X.heap.size L NX.2 I X V (a ++ (rd, { r with meas := NX.1 }, lv) :: b) last av (rdL rec).toArray) := fun W Y hW hY => by
    obtain ⟨Z, e1, e2, e3, e4⟩ := gv_meas h hs hav hb1 hs1 hbx hNX hW hY
    exact ⟨_, e1, e2, e3, e4⟩
  have HGF : Hid (∀ V, GV c rb X.heap.size L NX.2 I X V (a ++ (rd, { r with meas := NX.1 }, lv) :: b) last av (rdL rec).toArray → (∀ U, Below V.heap.size V U → U.cell? ⟨g, a.length * 104 + 37, none⟩ = some (.slice (some ⟨gl, 0, none⟩) r.log.length cl)) ∧ (∀ U, Below V.heap.size V U → U.frozen? ⟨g, a.length * 104 + 37, none⟩ = false) ∧ (∀ U, Below V.heap.size V U → ∀ j u, (lgC r.log)[j]? = some u → U.cell? ((⟨gl, 0, none⟩ : Addr).add j) = some u) ∧
    (∀ U, Below V.heap.size V U → U.heap[X.heap.size]? = some (.cells (rdL rec).toArray 69 (0, 0))) ∧ (∀ U, Below V.heap.size V U → ∀ v, (U.setCell ⟨g, a.length * 104 + 37, none⟩ v).heap[X.heap.size]? = some (.cells (rdL rec).toArray 69 (0, 0))) ∧
    (∀ U v, Below V.heap.size V U → U.ownsRow V.heap.size 69 172 v (0 + r.log.length + 1) ([] ++ lgC r.log ++ rdL rec) → GE c rb L NX.2 I X (U.setCell ⟨g, a.length * 104 + 37, none⟩ v) a b rd { r with meas := NX.1, log := r.log ++ [rec] } last av)) := fun V hV =>
    gv_facts (r := { r with meas := NX.1 }) (g := g) (cap := cap) (gl := gl) (cl := cl) hrec hV (by rw [hav]; simp) hlv (by omega)
  have HC : Hid (Calls Tryz.prog 13 #[.pointer (some ⟨rb, 0, none⟩), .int .i64 rd] X1 fun e Y => e = .returned (.int .i64 (a.length : Int)) ∧ X1 = Y) := rat_is h1 hn hno
  have hc1 := h1.cells.2.1
  rw [hav] at hc1
  have hg2 := h1.get hav 2 (by decide)
  replace hg2 : X1.cell? ⟨g, a.length * 104 + 2, none⟩ = some (.int .i64 1) := by rw [hg2, ← hst]; rfl
  have hlt : a.length < (a ++ (rd, r, lv) :: b).length := by simp
  have HAI : Hid _ := info172 (rdL rec) (rdL_len hrec)
  have HFA : Hid _ := fill_rd (rdL rec) (rdL_len hrec)
  have HAN : Hid ((rdL rec).length = 1 * 172) := by show _ = _; rw [rdL_len hrec]
  have HA1 : Hid (∀ u ∈ rdL rec, u.oneCell' = true) := fun u hu => lgC_one [rec] u (by simpa [lgC] using hu)
  have HLL : Hid ((lgC r.log).length = r.log.length * 172) := lgC_len hok.l
  have HL1 : Hid (∀ u ∈ lgC r.log, u.oneCell' = true) := lgC_one r.log
  have HMI : Hid _ := R5.info32 (r.meas.map B8) (by simpa using hok.m)
  have HNI : Hid ((Tryz.prog.info? 33).map (·.size) = some (NX.1.map B8).toArray.size) := R5.info32a _ (by simpa using hNX)
  have HN1 : Hid _ := R5.B8_onea NX.1
  obtain ⟨i0, hi, hz0, hz1, hz2⟩ := info_parts infoRd
  have HI0 : Hid _ := hi
  have HIZ : Hid _ := hz0
  have HI2 : Hid _ := hz1
  have HI3 : Hid _ := hz2
  have hmx : (1000000 : Nat) ≤ maxLen := by decide
  have HM1 : Hid (0 + r.log.length ≤ maxLen) := by show _ ≤ _; omega
  have HM2 : Hid ((0 + r.log.length) * 256 ≤ 140737488355328) := by show _ ≤ _; omega
  have HM3 : Hid (0 + r.log.length + 1 ≤ maxLen) := by show _ ≤ _; omega
  have HM4 : Hid ((0 + r.log.length + 1) * 256 ≤ 140737488355328) := by show _ ≤ _; omega
  have HGX : Hid (g < X.heap.size) := hgX
  rw [hX1] at HC hc1 hg2
  have HX1 : Hid (X1 = X.alloc (.cells (rdL rec).toArray 69 (0, 0))) := hX1
  clear h h1 hM M1 hs hs1 hs2 hb1 hbx hav hgo hok hlv hMs hst hrec hlog hne hi hz0 hz1 hz2 hmx hX1 hno hNX
  obtain ⟨Kk, hKk⟩ : ∃ Kk, Kk = a.length := ⟨_, rfl⟩
  obtain ⟨Nn, hNn⟩ : ∃ Nn, Nn = (a ++ (rd, r, lv) :: b).length := ⟨_, rfl⟩
  obtain ⟨Ln, hLn⟩ : ∃ Ln, Ln = r.log.length := ⟨_, rfl⟩
  rw [← hNn] at hc1 hlt hn
  rw [← hKk] at hlt HC hg2 HME HGV HGF
  rw [← hLn] at HGF HLL HM1 HM2 HM3 HM4
  have hneg : ¬ (Kk : Int) < 0 := by omega
  have hltI : (Kk : Int) < (Nn : Int) := by omega
  clear hKk hNn hLn
  generalize lgC r.log = LL at *
  generalize rdL rec = AL at *
  generalize r.meas.map B8 = ML at *
  generalize hNA : (NX.1.map B8).toArray = NA at *
  clear hNA
  go_enter Tryz.func73, Tryz.ntmps73
  go_wp2_with fail
  refine Calls.mono HC.out ?_
  rintro e w1 ⟨rfl, rfl⟩
  clear HC
  go_wp2
  rw [← HX1.out]
  have HXB : Hid (X1.heap[X.heap.size]? = some (.cells AL.toArray 69 (0, 0))) := by rw [HX1.out]; exact heap_alloc_new _ _
  clear hc1 hg2 HX1
  have HBW : Hid (Below X1.heap.size X1 X1.drew) := (Below.refl _ _).drew
  refine wp_region_held_drew (S := fun w' => w'.heap[X.heap.size]? = some (.cells AL.toArray 69 (0, 0))) (by kernel_rfl) HXB.out (fun hHeld => ?_)
  generalize X1.drew = W at *
  refine qzI 0 ⟨some 26, .move (.tmp 8), 104, _, #[], none⟩ (.pointer (some ⟨g, Kk * 104 + 1, none⟩)) rfl (by kernel_rfl) (fun _ _ _ h => h) (by rfl) (fun w' hw' => ?_) hHeld ?_
  · go_simp <;> rfl
  try simp only [Act.put, qT, q0, qS]
  refine qzI 1 ⟨some 27, .move (.tmp 0), 27, _, #[], none⟩ (.pointer (some ⟨rb, 0, none⟩)) rfl (by kernel_rfl) (fun _ _ _ h => h) (by rfl) (fun w' hw' => ?_) hHeld ?_
  · go_simp <;> rfl
  try simp only [Act.put, qT, q0, qS]
  refine qzI 2 ⟨some 28, .move (.tmp 8), 104, _, #[], none⟩ (.pointer (some ⟨g, Kk * 104 + 1, none⟩)) rfl (by kernel_rfl) (fun _ _ _ h => h) (by rfl) (fun w' hw' => ?_) hHeld ?_
  · go_simp <;> rfl
  try simp only [Act.put, qT, q0, qS]
  refine qzI 3 ⟨some 29, .nilCheck (.tmp 28), 0, _, #[⟨2, .data⟩], none⟩ (.pointer (some ⟨g, Kk * 104 + 1, none⟩)) rfl (by kernel_rfl) (fun _ _ _ h => h) (by rfl) (fun w' hw' => ?_) hHeld ?_
  · go_simp <;> rfl
  try simp only [Act.put, qT, q0, qS]
  refine qzI 4 ⟨some 30, .fieldAddr 47 (.tmp 29) 4, 0, _, #[⟨3, .data⟩], none⟩ (.pointer (some ⟨g, Kk * 104 + 5, none⟩)) rfl (by kernel_rfl) (fun _ _ _ h => h) (by rfl) (fun w' hw' => ?_) hHeld ?_
  · go_simp <;> rfl
  try simp only [Act.put, qT, q0, qS]
  refine qzK 6 ⟨some 32, .load 69 (.tmp 5), 69, _, #[], none⟩ _ rfl (by kernel_rfl) (fun _ _ _ h => h) (yieldsIf_load_mid (by rfl) 69 (.tmp 5) rfl (X.heap.size) (0) rfl (AL) _ (fun _ h => PC.rangeAt_row h) Tryz.underlying69 rfl HAI.out) hHeld ?_
  try simp only [Act.put, qT, q0, qS]
  refine qzR 5 ⟨some 31, .load 33 (.tmp 30), 33, _, #[⟨4, .data⟩], none⟩ (by kernel_rfl) rfl (by rfl) (fun K hK => ?_)
  refine wp_load_mid 33 _ rfl g (Kk * 104 + 5) rfl ML _ (HME.out _ HBW.out) Tryz.underlying33 rfl HMI.out ?_
  refine hK.out _ _ hHeld (fun _ => ?_)
  clear hK K
  try simp only [Act.put, qT, q0, qS]
  refine qzR 7 ⟨some 33, .call ⟨.value (.func 18), #[.tmp 27, .tmp 31, .tmp 32], #[27, 33, 69]⟩, 33, _, #[⟨1, .data⟩, ⟨5, .data⟩, ⟨6, .data⟩], none⟩ (by kernel_rfl) rfl (by rfl) (fun K hK => ?_)
  go_wp2_with fail
  refine Calls.mono (HMSC.out W HBW.out) ?_
  rintro e Y ⟨rfl, hY⟩
  obtain ⟨RL, hRL, hbY, hfit, hfin⟩ := HGV.out W Y HBW.out hY
  clear HMSC HME hY
  refine hK.out _ _ hbY (fun _ => ?_)
  clear hK K
  try simp only [Act.put, qT, q0, qS]
  have hHeld := hbY
  refine qzI 8 ⟨some 34, .nilCheck (.tmp 26), 0, _, #[⟨0, .data⟩, ⟨0, .phase⟩, ⟨1, .phase⟩, ⟨2, .phase⟩, ⟨3, .phase⟩, ⟨4, .phase⟩, ⟨5, .phase⟩, ⟨6, .phase⟩, ⟨7, .phase⟩], none⟩ (.pointer (some ⟨g, Kk * 104 + 1, none⟩)) rfl (by kernel_rfl) (fun _ _ _ h => h) (by rfl) (fun w' hw' => ?_) hHeld ?_
  · go_simp <;> rfl
  try simp only [Act.put, qT, q0, qS]
  refine qzI 9 ⟨some 35, .fieldAddr 47 (.tmp 34) 4, 0, _, #[⟨8, .data⟩, ⟨0, .phase⟩, ⟨1, .phase⟩, ⟨2, .phase⟩, ⟨3, .phase⟩, ⟨4, .phase⟩, ⟨5, .phase⟩, ⟨6, .phase⟩, ⟨7, .phase⟩], none⟩ (.pointer (some ⟨g, Kk * 104 + 5, none⟩)) rfl (by kernel_rfl) (fun _ _ _ h => h) (by rfl) (fun w' hw' => ?_) hHeld ?_
  · go_simp <;> rfl
  try simp only [Act.put, qT, q0, qS]
  refine qzR 10 ⟨none, .store 33 (.tmp 35) (.tmp 33), 0, _, #[⟨9, .data⟩, ⟨7, .data⟩, ⟨7, .chain⟩, ⟨0, .phase⟩, ⟨1, .phase⟩, ⟨2, .phase⟩, ⟨3, .phase⟩, ⟨4, .phase⟩, ⟨5, .phase⟩, ⟨6, .phase⟩, ⟨7, .phase⟩], none⟩ (by kernel_rfl) rfl (by rfl) (fun K hK => ?_)
  refine wp_store_seg 33 _ _ rfl g (Kk * 104 + 5) NA RL 54 rfl rfl hRL HNI.out hfit HN1.out ?_
  obtain ⟨V, hV⟩ : ∃ V, V = Y.setRow g (splice RL (Kk * 104 + 5) NA.toList).toArray := ⟨_, rfl⟩
  have hGV := hfin V hV
  have hbV := hGV.box
  rw [← hV]
  obtain ⟨f1, f2, f3, f4, f5, f6⟩ := HGF.out V hGV
  have HL4 : Hid (∀ U, Below V.heap.size V U → U.cell? ⟨g, Kk * 104 + 37, none⟩ = some (.slice (some ⟨gl, 0, none⟩) Ln cl)) := f1
  have HF4 : Hid (∀ U, Below V.heap.size V U → U.frozen? ⟨g, Kk * 104 + 37, none⟩ = false) := f2
  have HLN : Hid (∀ U, Below V.heap.size V U → ∀ j u, LL[j]? = some u → U.cell? ((⟨gl, 0, none⟩ : Addr).add j) = some u) := f3
  have HSB : Hid (∀ U, Below V.heap.size V U → U.heap[X.heap.size]? = some (.cells AL.toArray 69 (0, 0))) := f4
  have HSS : Hid (∀ U, Below V.heap.size V U → ∀ v, (U.setCell ⟨g, Kk * 104 + 37, none⟩ v).heap[X.heap.size]? = some (.cells AL.toArray 69 (0, 0))) := f5
  have HEND : Hid (∀ U v, Below V.heap.size V U → U.ownsRow V.heap.size 69 172 v (0 + Ln + 1) ([] ++ LL ++ AL) → GE c rb L NX.2 I X (U.setCell ⟨g, Kk * 104 + 37, none⟩ v) a b rd { r with meas := NX.1, log := r.log ++ [rec] } last av) := f6
  clear hGV hfin hfit hRL hV f1 f2 f3 f4 f5 f6 HGF HGV hbY
  refine hK.out _ _ hbV (fun _ => ?_)
  clear hK K
  try simp only [Act.put, qT, q0, qS]
  refine wpAnyH_done (by kernel_rfl) ?_ _
  clear hHeld
  go_wp2
  have HBV : Hid (Below V.heap.size V V.drew) := (Below.refl _ _).drew
  refine wp_region_held_drew (S := fun w' => w'.heap[X.heap.size]? = some (.cells AL.toArray 69 (0, 0))) (by kernel_rfl) (HSB.out _ HBV.out) (fun hHeld => ?_)
  generalize V.drew = U at *
  refine qzI 0 ⟨some 36, .move (.tmp 8), 104, _, #[], none⟩ (.pointer (some ⟨g, Kk * 104 + 1, none⟩)) rfl (by kernel_rfl) (fun _ _ _ h => h) (by rfl) (fun w' hw' => ?_) hHeld ?_
  · go_simp <;> rfl
  try simp only [Act.put, qT, q0, qS]
  refine qzI 1 ⟨some 37, .move (.tmp 8), 104, _, #[], none⟩ (.pointer (some ⟨g, Kk * 104 + 1, none⟩)) rfl (by kernel_rfl) (fun _ _ _ h => h) (by rfl) (fun w' hw' => ?_) hHeld ?_
  · go_simp <;> rfl
  try simp only [Act.put, qT, q0, qS]
  refine qzI 2 ⟨some 38, .nilCheck (.tmp 37), 0, _, #[⟨1, .data⟩], none⟩ (.pointer (some ⟨g, Kk * 104 + 1, none⟩)) rfl (by kernel_rfl) (fun _ _ _ h => h) (by rfl) (fun w' hw' => ?_) hHeld ?_
  · go_simp <;> rfl
  try simp only [Act.put, qT, q0, qS]
  refine qzI 3 ⟨some 39, .fieldAddr 47 (.tmp 38) 5, 0, _, #[⟨2, .data⟩], none⟩ (.pointer (some ⟨g, Kk * 104 + 37, none⟩)) rfl (by kernel_rfl) (fun _ _ _ h => h) (by rfl) (fun w' hw' => ?_) hHeld ?_
  · go_simp <;> rfl
  try simp only [Act.put, qT, q0, qS]
  refine qzK 6 ⟨some 42, .load 69 (.tmp 5), 69, _, #[], none⟩ _ rfl (by kernel_rfl) (fun _ _ _ h => h) (yieldsIf_load_mid (by rfl) 69 (.tmp 5) rfl (X.heap.size) (0) rfl (AL) _ (fun _ h => PC.rangeAt_row h) Tryz.underlying69 rfl HAI.out) hHeld ?_
  try simp only [Act.put, qT, q0, qS]
  refine wpAnyH_ready (rs := [4, 7]) (by kernel_rfl) (by simp) ?_
  refine AllReadyH.cons (o := ⟨some 40, .load 45 (.tmp 39), 45, _, #[⟨3, .data⟩], none⟩) rfl (fun K hK => ?_) (AllReadyH.cons (o := ⟨some 43, .buildSlice 45 1 #[(0, .tmp 42)], 45, _, #[⟨6, .data⟩], none⟩) rfl (fun K hK => ?_) AllReadyH.nil)
  all_goals rw [if_pos (by rfl)]
  · skip
    have hc4 : U.cell? ⟨g, Kk * 104 + 37, none⟩ = some (.slice (some ⟨gl, 0, none⟩) Ln cl) := HL4.out _ HBV.out
    go_wp2_with fail
    refine hK.out _ _ hHeld (fun _ => ?_)
    clear hK K
    try simp only [Act.put, qT, q0, qS]
    clear hc4
    refine wpAnyH_ready (rs := [5, 7]) (by kernel_rfl) (by simp) ?_
    refine AllReadyH.cons (o := ⟨some 41, .call ⟨.builtin Go.Builtin.append, #[.const (Go.Value.slice none 0 0), .tmp 40], #[45, 45]⟩, 45, _, #[⟨4, .data⟩], none⟩) rfl (fun K hK => ?_) (AllReadyH.cons (o := ⟨some 43, .buildSlice 45 1 #[(0, .tmp 42)], 45, _, #[⟨6, .data⟩], none⟩) rfl (fun K hK => ?_) AllReadyH.nil)
    all_goals rw [if_pos (by rfl)]
    · skip
      refine wp_app_any _ (.const (.slice none 0 0)) (.tmp 40) 45 rfl (U).heap.size 69 i0 (.agg zRd) 172 256 Tryz.underlying45 HI0.out HIZ.out HI2.out HI3.out rfl (by decide) (.slice none 0 0) 0 [] rfl (World.ownsRow_nil _ _ _ _) ⟨gl, 0, none⟩ Ln cl LL rfl HLL.out (HLN.out _ HBV.out) HL1.out HM1.out HM2.out (Nat.le_refl _) ?_
      intro v1 U1 hown1 hb1
      have HO1 : Hid (U1.ownsRow V.heap.size 69 172 v1 (0 + Ln) ([] ++ LL)) := ⟨hown1.1, hown1.2.elim Or.inl (fun ⟨q1, q2, q3, q4, q5, q6⟩ => Or.inr ⟨q1, q2, q3, q4, Nat.le_trans (HBV.out).size q5, q6⟩)⟩
      have HBU1 : Hid (Below V.heap.size V U1) := (HBV.out).trans (hb1.mono (HBV.out).size)
      have HBA : Hid (Below (U).heap.size U U1) := hb1
      have hH5 := HSB.out _ HBU1.out
      clear hown1 hb1
      refine hK.out _ _ hH5 (fun _ => ?_)
      clear hK K
      try simp only [Act.put, qT, q0, qS]
      refine qzR 7 ⟨some 43, .buildSlice 45 1 #[(0, .tmp 42)], 45, _, #[⟨6, .data⟩], none⟩ (by kernel_rfl) rfl (by rfl) (fun K hK => ?_)
      refine wp_buildSlice 45 69 1 _ rfl AL.toArray i0 (.agg zRd) Tryz.underlying45 HI0.out HIZ.out (by rw [HI2.out]; decide) (by rw [HI2.out]; decide) (by rw [HI2.out]; refine (congrArg (Instr.fill _ _) ?_).trans HFA.out; simp; rfl) ?_
      have HB7 : Hid (Below V.heap.size V (U1.alloc (.cells AL.toArray 69 (0, 0)))) := (HBU1.out).alloc (HBU1.out).size _
      have HN7 : Hid (∀ j u, AL[j]? = some u → (U1.alloc (.cells AL.toArray 69 (0, 0))).cell? ((⟨U1.heap.size, 0, none⟩ : Addr).add j) = some u) := fun j u hu => by
        have h := PC.rangeAt_row (heap_alloc_new U1 (.cells AL.toArray 69 (0, 0))) j u hu
        rwa [Addr.add_mid]
      have hH7 := HSB.out _ HB7.out
      refine hK.out _ _ hH7 (fun _ => ?_)
      clear hK K
      try simp only [Act.put, qT, q0, qS]
      refine qzR 8 ⟨some 44, .call ⟨.builtin Go.Builtin.append, #[.tmp 41, .tmp 43], #[45, 45]⟩, 45, _, #[⟨5, .data⟩, ⟨7, .data⟩, ⟨5, .chain⟩], none⟩ (by kernel_rfl) rfl (by rfl) (fun K hK => ?_)
      refine wp_app_any _ (.tmp 41) (.tmp 43) 45 rfl V.heap.size 69 i0 (.agg zRd) 172 256 Tryz.underlying45 HI0.out HIZ.out HI2.out HI3.out rfl (by decide) v1 (0 + Ln) ([] ++ LL) rfl (World.ownsRow.alloc HO1.out _) ⟨U1.heap.size, 0, none⟩ 1 1 AL rfl HAN.out HN7.out HA1.out HM3.out HM4.out (HB7.out).size ?_
      intro v8 U3 hown8 hb8
      have hB8 : Below V.heap.size V U3 := (HB7.out).trans hb8
      have HE8 : Hid (U3.ownsRow V.heap.size 69 172 v8 (0 + Ln + 1) ([] ++ LL ++ AL)) := hown8
      have HB8 : Hid (Below V.heap.size V U3) := hB8
      have hH8 := HSB.out _ hB8
      clear hown8 hb8 hB8
      refine hK.out _ _ hH8 (fun _ => ?_)
      clear hK K
      try simp only [Act.put, qT, q0, qS]
      have hHeld := hH8
      refine qzI 9 ⟨some 45, .nilCheck (.tmp 36), 0, _, #[⟨0, .data⟩, ⟨0, .phase⟩, ⟨1, .phase⟩, ⟨2, .phase⟩, ⟨3, .phase⟩, ⟨4, .phase⟩, ⟨5, .phase⟩, ⟨6, .phase⟩, ⟨7, .phase⟩, ⟨8, .phase⟩], none⟩ (.pointer (some ⟨g, Kk * 104 + 1, none⟩)) rfl (by kernel_rfl) (fun _ _ _ h => h) (by rfl) (fun w' hw' => ?_) hHeld ?_
      · go_simp <;> rfl
      try simp only [Act.put, qT, q0, qS]
      refine qzI 10 ⟨some 46, .fieldAddr 47 (.tmp 45) 5, 0, _, #[⟨9, .data⟩, ⟨0, .phase⟩, ⟨1, .phase⟩, ⟨2, .phase⟩, ⟨3, .phase⟩, ⟨4, .phase⟩, ⟨5, .phase⟩, ⟨6, .phase⟩, ⟨7, .phase⟩, ⟨8, .phase⟩], none⟩ (.pointer (some ⟨g, Kk * 104 + 37, none⟩)) rfl (by kernel_rfl) (fun _ _ _ h => h) (by rfl) (fun w' hw' => ?_) hHeld ?_
      · go_simp <;> rfl
      try simp only [Act.put, qT, q0, qS]
      refine qzR 11 ⟨none, .store 45 (.tmp 46) (.tmp 44), 0, _, #[⟨10, .data⟩, ⟨8, .data⟩, ⟨8, .chain⟩, ⟨0, .phase⟩, ⟨1, .phase⟩, ⟨2, .phase⟩, ⟨3, .phase⟩, ⟨4, .phase⟩, ⟨5, .phase⟩, ⟨6, .phase⟩, ⟨7, .phase⟩, ⟨8, .phase⟩], none⟩ (by kernel_rfl) rfl (by rfl) (fun K hK => ?_)
      have hc9 : U3.cell? ⟨g, Kk * 104 + 37, none⟩ = some (.slice (some ⟨gl, 0, none⟩) Ln cl) := HL4.out _ HB8.out
      have hf9 : U3.frozen? ⟨g, Kk * 104 + 37, none⟩ = false := HF4.out _ HB8.out
      obtain ⟨g8, c8, hv8, _⟩ := World.ownsRow.form HE8.out (by omega)
      obtain ⟨N8, hN8⟩ : ∃ N8, N8 = 0 + Ln + 1 := ⟨_, rfl⟩
      rw [← hN8] at hv8
      subst hv8
      clear hN8
      have HFIN : Hid _ := HEND.out _ _ HB8.out HE8.out
      have hH9 := HSS.out _ HB8.out (.slice (some ⟨g8, 0, none⟩) N8 c8)
      go_wp2_with fail
      refine hK.out _ _ hH9 (fun _ => ?_)
      clear hK K
      try simp only [Act.put, qT, q0, qS]
      refine wpAnyH_done (by kernel_rfl) ?_ _
      clear hc9 hf9 hH9 hH8 hHeld
      go_wp2
      go_ret
      exact ⟨rfl, HFIN.out⟩
    · skip
      refine wp_buildSlice 45 69 1 _ rfl AL.toArray i0 (.agg zRd) Tryz.underlying45 HI0.out HIZ.out (by rw [HI2.out]; decide) (by rw [HI2.out]; decide) (by rw [HI2.out]; refine (congrArg (Instr.fill _ _) ?_).trans HFA.out; simp; rfl) ?_
      have HB7 : Hid (Below V.heap.size V (U.alloc (.cells AL.toArray 69 (0, 0)))) := (HBV.out).alloc (HBV.out).size _
      have HN7 : Hid (∀ j u, AL[j]? = some u → (U.alloc (.cells AL.toArray 69 (0, 0))).cell? ((⟨U.heap.size, 0, none⟩ : Addr).add j) = some u) := fun j u hu => by
        have h := PC.rangeAt_row (heap_alloc_new U (.cells AL.toArray 69 (0, 0))) j u hu
        rwa [Addr.add_mid]
      have hH7 := HSB.out _ HB7.out
      refine hK.out _ _ hH7 (fun _ => ?_)
      clear hK K
      try simp only [Act.put, qT, q0, qS]
      refine qzR 5 ⟨some 41, .call ⟨.builtin Go.Builtin.append, #[.const (Go.Value.slice none 0 0), .tmp 40], #[45, 45]⟩, 45, _, #[⟨4, .data⟩], none⟩ (by kernel_rfl) rfl (by rfl) (fun K hK => ?_)
      refine wp_app_any _ (.const (.slice none 0 0)) (.tmp 40) 45 rfl ((U.alloc (.cells AL.toArray 69 (0, 0)))).heap.size 69 i0 (.agg zRd) 172 256 Tryz.underlying45 HI0.out HIZ.out HI2.out HI3.out rfl (by decide) (.slice none 0 0) 0 [] rfl (World.ownsRow_nil _ _ _ _) ⟨gl, 0, none⟩ Ln cl LL rfl HLL.out (HLN.out _ HB7.out) HL1.out HM1.out HM2.out (Nat.le_refl _) ?_
      intro v1 U1 hown1 hb1
      have HO1 : Hid (U1.ownsRow V.heap.size 69 172 v1 (0 + Ln) ([] ++ LL)) := ⟨hown1.1, hown1.2.elim Or.inl (fun ⟨q1, q2, q3, q4, q5, q6⟩ => Or.inr ⟨q1, q2, q3, q4, Nat.le_trans (HB7.out).size q5, q6⟩)⟩
      have HBU1 : Hid (Below V.heap.size V U1) := (HB7.out).trans (hb1.mono (HB7.out).size)
      have HBA : Hid (Below ((U.alloc (.cells AL.toArray 69 (0, 0)))).heap.size (U.alloc (.cells AL.toArray 69 (0, 0))) U1) := hb1
      have hH5 := HSB.out _ HBU1.out
      clear hown1 hb1
      refine hK.out _ _ hH5 (fun _ => ?_)
      clear hK K
      try simp only [Act.put, qT, q0, qS]
      have HN8 : Hid (∀ j u, AL[j]? = some u → U1.cell? ((⟨U.heap.size, 0, none⟩ : Addr).add j) = some u) := fun j u hu => (HBA.out.cell (block_lt (HN7.out j u hu))).trans (HN7.out j u hu)
      refine qzR 8 ⟨some 44, .call ⟨.builtin Go.Builtin.append, #[.tmp 41, .tmp 43], #[45, 45]⟩, 45, _, #[⟨5, .data⟩, ⟨7, .data⟩, ⟨5, .chain⟩], none⟩ (by kernel_rfl) rfl (by rfl) (fun K hK => ?_)
      refine wp_app_any _ (.tmp 41) (.tmp 43) 45 rfl V.heap.size 69 i0 (.agg zRd) 172 256 Tryz.underlying45 HI0.out HIZ.out HI2.out HI3.out rfl (by decide) v1 (0 + Ln) ([] ++ LL) rfl HO1.out ⟨U.heap.size, 0, none⟩ 1 1 AL rfl HAN.out HN8.out HA1.out HM3.out HM4.out (HBU1.out).size ?_
      intro v8 U3 hown8 hb8
      have hB8 : Below V.heap.size V U3 := (HBU1.out).trans hb8
      have HE8 : Hid (U3.ownsRow V.heap.size 69 172 v8 (0 + Ln + 1) ([] ++ LL ++ AL)) := hown8
      have HB8 : Hid (Below V.heap.size V U3) := hB8
      have hH8 := HSB.out _ hB8
      clear hown8 hb8 hB8
      refine hK.out _ _ hH8 (fun _ => ?_)
      clear hK K
      try simp only [Act.put, qT, q0, qS]
      have hHeld := hH8
      refine qzI 9 ⟨some 45, .nilCheck (.tmp 36), 0, _, #[⟨0, .data⟩, ⟨0, .phase⟩, ⟨1, .phase⟩, ⟨2, .phase⟩, ⟨3, .phase⟩, ⟨4, .phase⟩, ⟨5, .phase⟩, ⟨6, .phase⟩, ⟨7, .phase⟩, ⟨8, .phase⟩], none⟩ (.pointer (some ⟨g, Kk * 104 + 1, none⟩)) rfl (by kernel_rfl) (fun _ _ _ h => h) (by rfl) (fun w' hw' => ?_) hHeld ?_
      · go_simp <;> rfl
      try simp only [Act.put, qT, q0, qS]
      refine qzI 10 ⟨some 46, .fieldAddr 47 (.tmp 45) 5, 0, _, #[⟨9, .data⟩, ⟨0, .phase⟩, ⟨1, .phase⟩, ⟨2, .phase⟩, ⟨3, .phase⟩, ⟨4, .phase⟩, ⟨5, .phase⟩, ⟨6, .phase⟩, ⟨7, .phase⟩, ⟨8, .phase⟩], none⟩ (.pointer (some ⟨g, Kk * 104 + 37, none⟩)) rfl (by kernel_rfl) (fun _ _ _ h => h) (by rfl) (fun w' hw' => ?_) hHeld ?_
      · go_simp <;> rfl
      try simp only [Act.put, qT, q0, qS]
      refine qzR 11 ⟨none, .store 45 (.tmp 46) (.tmp 44), 0, _, #[⟨10, .data⟩, ⟨8, .data⟩, ⟨8, .chain⟩, ⟨0, .phase⟩, ⟨1, .phase⟩, ⟨2, .phase⟩, ⟨3, .phase⟩, ⟨4, .phase⟩, ⟨5, .phase⟩, ⟨6, .phase⟩, ⟨7, .phase⟩, ⟨8, .phase⟩], none⟩ (by kernel_rfl) rfl (by rfl) (fun K hK => ?_)
      have hc9 : U3.cell? ⟨g, Kk * 104 + 37, none⟩ = some (.slice (some ⟨gl, 0, none⟩) Ln cl) := HL4.out _ HB8.out
      have hf9 : U3.frozen? ⟨g, Kk * 104 + 37, none⟩ = false := HF4.out _ HB8.out
      obtain ⟨g8, c8, hv8, _⟩ := World.ownsRow.form HE8.out (by omega)
      obtain ⟨N8, hN8⟩ : ∃ N8, N8 = 0 + Ln + 1 := ⟨_, rfl⟩
      rw [← hN8] at hv8
      subst hv8
      clear hN8
      have HFIN : Hid _ := HEND.out _ _ HB8.out HE8.out
      have hH9 := HSS.out _ HB8.out (.slice (some ⟨g8, 0, none⟩) N8 c8)
      go_wp2_with fail
      refine hK.out _ _ hH9 (fun _ => ?_)
      clear hK K
      try simp only [Act.put, qT, q0, qS]
      refine wpAnyH_done (by kernel_rfl) ?_ _
      clear hc9 hf9 hH9 hH8 hHeld
      go_wp2
      go_ret
      exact ⟨rfl, HFIN.out⟩
  · skip
    refine wp_buildSlice 45 69 1 _ rfl AL.toArray i0 (.agg zRd) Tryz.underlying45 HI0.out HIZ.out (by rw [HI2.out]; decide) (by rw [HI2.out]; decide) (by rw [HI2.out]; refine (congrArg (Instr.fill _ _) ?_).trans HFA.out; simp; rfl) ?_
    have HB7 : Hid (Below V.heap.size V (U.alloc (.cells AL.toArray 69 (0, 0)))) := (HBV.out).alloc (HBV.out).size _
    have HN7 : Hid (∀ j u, AL[j]? = some u → (U.alloc (.cells AL.toArray 69 (0, 0))).cell? ((⟨U.heap.size, 0, none⟩ : Addr).add j) = some u) := fun j u hu => by
      have h := PC.rangeAt_row (heap_alloc_new U (.cells AL.toArray 69 (0, 0))) j u hu
      rwa [Addr.add_mid]
    have hH7 := HSB.out _ HB7.out
    refine hK.out _ _ hH7 (fun _ => ?_)
    clear hK K
    try simp only [Act.put, qT, q0, qS]
    refine qzR 4 ⟨some 40, .load 45 (.tmp 39), 45, _, #[⟨3, .data⟩], none⟩ (by kernel_rfl) rfl (by rfl) (fun K hK => ?_)
    have hc4 : (U.alloc (.cells AL.toArray 69 (0, 0))).cell? ⟨g, Kk * 104 + 37, none⟩ = some (.slice (some ⟨gl, 0, none⟩) Ln cl) := HL4.out _ HB7.out
    go_wp2_with fail
    refine hK.out _ _ hH7 (fun _ => ?_)
    clear hK K
    try simp only [Act.put, qT, q0, qS]
    clear hc4
    refine qzR 5 ⟨some 41, .call ⟨.builtin Go.Builtin.append, #[.const (Go.Value.slice none 0 0), .tmp 40], #[45, 45]⟩, 45, _, #[⟨4, .data⟩], none⟩ (by kernel_rfl) rfl (by rfl) (fun K hK => ?_)
    refine wp_app_any _ (.const (.slice none 0 0)) (.tmp 40) 45 rfl ((U.alloc (.cells AL.toArray 69 (0, 0)))).heap.size 69 i0 (.agg zRd) 172 256 Tryz.underlying45 HI0.out HIZ.out HI2.out HI3.out rfl (by decide) (.slice none 0 0) 0 [] rfl (World.ownsRow_nil _ _ _ _) ⟨gl, 0, none⟩ Ln cl LL rfl HLL.out (HLN.out _ HB7.out) HL1.out HM1.out HM2.out (Nat.le_refl _) ?_
    intro v1 U1 hown1 hb1
    have HO1 : Hid (U1.ownsRow V.heap.size 69 172 v1 (0 + Ln) ([] ++ LL)) := ⟨hown1.1, hown1.2.elim Or.inl (fun ⟨q1, q2, q3, q4, q5, q6⟩ => Or.inr ⟨q1, q2, q3, q4, Nat.le_trans (HB7.out).size q5, q6⟩)⟩
    have HBU1 : Hid (Below V.heap.size V U1) := (HB7.out).trans (hb1.mono (HB7.out).size)
    have HBA : Hid (Below ((U.alloc (.cells AL.toArray 69 (0, 0)))).heap.size (U.alloc (.cells AL.toArray 69 (0, 0))) U1) := hb1
    have hH5 := HSB.out _ HBU1.out
    clear hown1 hb1
    refine hK.out _ _ hH5 (fun _ => ?_)
    clear hK K
    try simp only [Act.put, qT, q0, qS]
    have HN8 : Hid (∀ j u, AL[j]? = some u → U1.cell? ((⟨U.heap.size, 0, none⟩ : Addr).add j) = some u) := fun j u hu => (HBA.out.cell (block_lt (HN7.out j u hu))).trans (HN7.out j u hu)
    refine qzR 8 ⟨some 44, .call ⟨.builtin Go.Builtin.append, #[.tmp 41, .tmp 43], #[45, 45]⟩, 45, _, #[⟨5, .data⟩, ⟨7, .data⟩, ⟨5, .chain⟩], none⟩ (by kernel_rfl) rfl (by rfl) (fun K hK => ?_)
    refine wp_app_any _ (.tmp 41) (.tmp 43) 45 rfl V.heap.size 69 i0 (.agg zRd) 172 256 Tryz.underlying45 HI0.out HIZ.out HI2.out HI3.out rfl (by decide) v1 (0 + Ln) ([] ++ LL) rfl HO1.out ⟨U.heap.size, 0, none⟩ 1 1 AL rfl HAN.out HN8.out HA1.out HM3.out HM4.out (HBU1.out).size ?_
    intro v8 U3 hown8 hb8
    have hB8 : Below V.heap.size V U3 := (HBU1.out).trans hb8
    have HE8 : Hid (U3.ownsRow V.heap.size 69 172 v8 (0 + Ln + 1) ([] ++ LL ++ AL)) := hown8
    have HB8 : Hid (Below V.heap.size V U3) := hB8
    have hH8 := HSB.out _ hB8
    clear hown8 hb8 hB8
    refine hK.out _ _ hH8 (fun _ => ?_)
    clear hK K
    try simp only [Act.put, qT, q0, qS]
    have hHeld := hH8
    refine qzI 9 ⟨some 45, .nilCheck (.tmp 36), 0, _, #[⟨0, .data⟩, ⟨0, .phase⟩, ⟨1, .phase⟩, ⟨2, .phase⟩, ⟨3, .phase⟩, ⟨4, .phase⟩, ⟨5, .phase⟩, ⟨6, .phase⟩, ⟨7, .phase⟩, ⟨8, .phase⟩], none⟩ (.pointer (some ⟨g, Kk * 104 + 1, none⟩)) rfl (by kernel_rfl) (fun _ _ _ h => h) (by rfl) (fun w' hw' => ?_) hHeld ?_
    · go_simp <;> rfl
    try simp only [Act.put, qT, q0, qS]
    refine qzI 10 ⟨some 46, .fieldAddr 47 (.tmp 45) 5, 0, _, #[⟨9, .data⟩, ⟨0, .phase⟩, ⟨1, .phase⟩, ⟨2, .phase⟩, ⟨3, .phase⟩, ⟨4, .phase⟩, ⟨5, .phase⟩, ⟨6, .phase⟩, ⟨7, .phase⟩, ⟨8, .phase⟩], none⟩ (.pointer (some ⟨g, Kk * 104 + 37, none⟩)) rfl (by kernel_rfl) (fun _ _ _ h => h) (by rfl) (fun w' hw' => ?_) hHeld ?_
    · go_simp <;> rfl
    try simp only [Act.put, qT, q0, qS]
    refine qzR 11 ⟨none, .store 45 (.tmp 46) (.tmp 44), 0, _, #[⟨10, .data⟩, ⟨8, .data⟩, ⟨8, .chain⟩, ⟨0, .phase⟩, ⟨1, .phase⟩, ⟨2, .phase⟩, ⟨3, .phase⟩, ⟨4, .phase⟩, ⟨5, .phase⟩, ⟨6, .phase⟩, ⟨7, .phase⟩, ⟨8, .phase⟩], none⟩ (by kernel_rfl) rfl (by rfl) (fun K hK => ?_)
    have hc9 : U3.cell? ⟨g, Kk * 104 + 37, none⟩ = some (.slice (some ⟨gl, 0, none⟩) Ln cl) := HL4.out _ HB8.out
    have hf9 : U3.frozen? ⟨g, Kk * 104 + 37, none⟩ = false := HF4.out _ HB8.out
    obtain ⟨g8, c8, hv8, _⟩ := World.ownsRow.form HE8.out (by omega)
    obtain ⟨N8, hN8⟩ : ∃ N8, N8 = 0 + Ln + 1 := ⟨_, rfl⟩
    rw [← hN8] at hv8
    subst hv8
    clear hN8
    have HFIN : Hid _ := HEND.out _ _ HB8.out HE8.out
    have hH9 := HSS.out _ HB8.out (.slice (some ⟨g8, 0, none⟩) N8 c8)
    go_wp2_with fail
    refine hK.out _ _ hH9 (fun _ => ?_)
    clear hK K
    try simp only [Act.put, qT, q0, qS]
    refine wpAnyH_done (by kernel_rfl) ?_ _
    clear hc9 hf9 hH9 hH8 hHeld
    go_wp2
    go_ret
    exact ⟨rfl, HFIN.out⟩
end
end Go.Proofs.YtekbppfocnbhbaaGreat.XC
