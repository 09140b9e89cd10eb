/- The document's Stream of 128 bytes, in concrete mode. -/
import Derived.Test.YtbmmibmfjhehhaaGreatBW
import Derived.Test.YtbmmibmfjhehhaaGreatAi
set_option linter.unusedVariables false
set_option linter.unusedSimpArgs false
namespace Go.Proofs.YtbmmibmfjhehhaaGreat.BC
open Go.RowKit

theorem zero_8 (w : World) : (zeroValue 87).run Tryz.prog w = .ok (.agg ((List.replicate 8 (0 : UInt8)).map B8).toArray) w := by kernel_rfl
theorem slice_16 (w : World) (b : Nat) : (Instr.sliceAt 86 (.pointer (some ⟨b, 0, none⟩)) none none none).run Tryz.prog w = .ok (.slice (some ⟨b, 0, none⟩) 16 16) w := by kernel_rfl
theorem slice_8 (w : World) (b : Nat) : (Instr.sliceAt 87 (.pointer (some ⟨b, 0, none⟩)) none none none).run Tryz.prog w = .ok (.slice (some ⟨b, 0, none⟩) 8 8) w := by kernel_rfl
theorem slice_k (w : World) (b : Nat) : (Instr.sliceAt 23 (.pointer (some ⟨b, 1, none⟩)) none (some (.int .i64 16)) none).run Tryz.prog w = .ok (.slice (some ⟨b, 1, none⟩) 16 32) w := by
  have ha : Tryz.prog.arrayLen 23 = 32 := by kernel_rfl
  have hu : Tryz.prog.underlying 23 = some (.array (Tryz.prog.arrayLen 23) (Tryz.prog.elem 23)) := by kernel_rfl
  have he : Tryz.prog.elem 23 = 5 := by kernel_rfl
  rw [run_sliceAt_array_h w 23 _ hu .i64 _ (by decide) (by rw [ha]; decide), he, size_u8, ha]
  have hadd : (⟨b, 1, none⟩ : Addr).add (0 * 1) = ⟨b, 1, none⟩ := by unfold Addr.add; split <;> simp_all
  simp only [Result.andThen, slicedAt]
  rw [if_neg (by decide), hadd]
  rfl
theorem addr_at (b o j : Nat) : (⟨b, o, none⟩ : Addr).add j = ⟨b, o + j, none⟩ := by unfold Addr.add; split <;> simp_all
theorem B8_one' (l : List UInt8) : ∀ u ∈ l.map B8, u.oneCell' = true := fun u hu => by
  obtain ⟨x, _, rfl⟩ := List.mem_map.1 hu
  rfl
def SQE (B og : Nat) (S : Nat → Prop) (w : World) (r : List UInt8 × R5.Ora) (dv : Value) (t : TypeId) (e : Ending) (w' : World) : Prop :=
  ∃ v, e = .returned v ∧ HB w' v r.1 ∧ R5.Fr S w w' ∧ ∃ lv' lds', R5.OR B og (fun k => S k ∨ (w.heap.size ≤ k ∧ k < w'.heap.size)) w' r.2 dv lv' lds' t

set_option maxHeartbeats 4000000 in
set_option maxRecDepth 100000 in
theorem rstream_conc (B og : Nat) (S : Nat → Prop) (dq dv lv : Value) (o : R5.Ora) (lds : List Value) (t : TypeId) (q : R5.Qn) (w : World) (hid : o.ideal = false) (hll : o.log.length < 1000000) (hu : o.used < 1000000) (hql : q.data.length ≤ 1000000) (hB : B ≤ w.heap.size)
    (ho : R5.OR B og S w o dv lv lds t) (hk : q.key.length = 32) (hd : HB w dq q.data) (hqo : q.data ≠ [] → dq.ownBlock ≠ some og) :
    Calls Tryz.prog 24 #[.pointer (some ⟨og, 0, none⟩), .agg (R5.qL q dq).toArray, .int .i64 128] w fun e w' => SQE B og S w (cst q, (R5.askC o q (bg (cst q))).2) dv t e w' := by
  obtain ⟨CS, hCS⟩ : ∃ c, c = cst q := ⟨_, rfl⟩
  obtain ⟨SA, hSA⟩ : ∃ c, c = shaL (R5.textQ q) := ⟨_, rfl⟩
  have hcl : CS.length = 128 := by rw [hCS]; exact cst_len hk
  have hsa : SA.length = 32 := by rw [hSA]; exact shaL_len _
  rw [← hCS]
  have hog := R5.row_lt ho.row
  have hc0 : w.cell? ⟨og, 0, none⟩ = some (.bool false) := by rw [cell_of_row _ _ 0 _ _ _ ho.row, ← hid]; exact R5.oL_0 _ _ _ _ _
  have HC0 : Hid (∀ X, Below w.heap.size w X → X.cell? ⟨og, 0, none⟩ = some (.bool false)) := fun X hX => (hX.cell (show (⟨og, 0, none⟩ : Addr).block < w.heap.size from hog)).trans hc0
  have hz16 := fun W => zero_16 W
  have hz8 := fun W => zero_8 W
  have hzd := fun W => R5.zero_dig W
  obtain ⟨ZH, hZH⟩ : ∃ L, L = (List.replicate 16 (0 : UInt8)).map B8 := ⟨_, rfl⟩
  obtain ⟨ZE, hZE⟩ : ∃ L, L = (List.replicate 8 (0 : UInt8)).map B8 := ⟨_, rfl⟩
  obtain ⟨ZL, hZL⟩ : ∃ L, L = (List.replicate 32 (0 : UInt8)).map B8 := ⟨_, rfl⟩
  rw [← hZH] at hz16
  rw [← hZE] at hz8
  rw [← hZL] at hzd
  have HZH : Hid (ZH.length = 16) := by show _ = _; rw [hZH]; simp
  have HZE : Hid (ZE.length = 8) := by show _ = _; rw [hZE]; simp
  have HZS : Hid (ZL.length = 32) := by show _ = _; rw [hZL]; simp
  have HQN : Hid ((R5.qL q dq).length = 35) := R5.qL_len q dq hk
  have hTL := R5.textQ_len q hk
  have hTL2 : (R5.textQ q).length ≤ 4294967296 := by omega
  have HTX : Hid (∀ W, Below w.heap.size w W → Calls Tryz.prog 42 #[.agg (R5.qL q dq).toArray] W fun e w' => ∃ u, e = .returned u ∧ FB W.heap.size w' u (R5.textQ q) ∧ Below W.heap.size W w') := fun W hW => R5.rtext_any _ q W (by omega) ⟨hk, dq, rfl, hd.below hW⟩
  have HSH : Hid (∀ u W, HB W u (R5.textQ q) → Calls Tryz.prog 41 #[u] W fun e w' => e = .returned (.agg (SA.map B8).toArray) ∧ Below W.heap.size W w') := fun u W hu => by
    rw [hSA]
    exact refSum_any u _ W hTL2 hu
  have HAE : Hid (∀ W, Calls Tryz.prog 43 #[.agg ((q.key.take 16).map B8).toArray, .agg ((SA.take 8).map B8).toArray, .int .i64 128] W fun e w' => ∃ v, e = .returned v ∧ HB w' v (CS) ∧ Below W.heap.size W w' ∧ ∀ j, v.ownBlock = some j → W.heap.size ≤ j) := fun W => by
    rw [hCS, hSA]
    exact AE.rstream_own (q.key.take 16) ((shaL (R5.textQ q)).take 8) 128 W (by rw [List.length_take, hk]; decide) (by rw [List.length_take, shaL_len]; decide) (by decide)
  clear hCS hSA hTL2
  have HANS : Hid (∀ W, Below w.heap.size w W → Calls Tryz.prog 40 #[.pointer (some ⟨og, 0, none⟩), .agg (R5.qL q dq).toArray, .agg ((bg (CS)).map B8).toArray] W fun e w' => R5.QEnd B og S W (R5.askC o q (bg (CS))) dv t e w') := fun W hb => R5.answer_anyC B og S dq dv lv o lds t q (bg (CS)) W (bg_len hcl) hid hll hu (by omega) (Nat.le_trans hB hb.size) (ho.keep hb.size (fun k hk _ => hb.block k hk)) hk (hd.below hb) hqo
  have HFIN : Hid (∀ (v : Value) (X Y : World), Below w.heap.size w X → HB X v (CS) → (∀ j, v.ownBlock = some j → w.heap.size ≤ j) → R5.Fr S X Y → (∃ lv' lds', R5.OR B og (fun k => S k ∨ (X.heap.size ≤ k ∧ k < Y.heap.size)) Y (R5.askC o q (bg (CS))).2 dv lv' lds' t) → SQE B og S w (CS, (R5.askC o q (bg (CS))).2) dv t (.returned v) Y) := fun v X Y hX hv hown hfr hor =>
    ⟨v, rfl, R5.hb_keep hv (fun j e hl => hfr.block j hl (fun h => by have := ho.top _ h; have := hown j e; omega)), R5.rfin ho hB hX hfr hor (R5.Fr.refl _ _)⟩
  have HK1 : Hid (((q.key.take 16).map B8).length = 16) := by show _ = _; rw [List.length_map, List.length_take, hk]; decide
  have HO1 : Hid _ := B8_one' (q.key.take 16)
  have HSN : Hid ((SA.map B8).length = 32) := by show _ = _; rw [List.length_map, hsa]
  have HSO : Hid _ := B8_onea SA
  have HN9 : Hid ((((SA.take 8)).map B8).length = 8) := by show _ = _; rw [List.length_map, List.length_take, hsa]; decide
  have HN1 : Hid _ := B8_one' (SA.take 8)
  have HBN : Hid (((bg (CS)).map B8).length = 32) := by show _ = _; rw [List.length_map, bg_len hcl]
  have HBO : Hid _ := B8_one' (bg (CS))
  have HSPK : Hid (splice ZH 0 ((q.key.take 16).map B8) = (q.key.take 16).map B8) := splice_whole _ _ (HK1.out.trans HZH.out.symm)
  have HSPN : Hid (splice ZE 0 ((SA.take 8).map B8) = (SA.take 8).map B8) := splice_whole _ _ (HN9.out.trans HZE.out.symm)
  have HSPB : Hid (splice ZL 0 ((bg (CS)).map B8) = (bg (CS)).map B8) := splice_whole _ _ (HBN.out.trans HZS.out.symm)
  have HRK : Hid (∀ X : World, X.heap[w.heap.size]? = some (.cells (R5.qL q dq).toArray 66 (0, 0)) → ∀ (j : Nat) u, ((q.key.take 16).map B8)[j]? = some u → X.cell? ((⟨w.heap.size, 1, none⟩ : Addr).add j) = some u) := fun X hX j u hu => by
    have h := (R5.q_facts hk hX).2.1
    rw [List.map_take] at hu
    have hj : j < 16 := by have := (List.getElem?_eq_some_iff.1 hu).1; rw [List.length_take] at this; omega
    rw [addr_at]
    exact h j u (by rwa [List.getElem?_take_of_lt hj] at hu)
  have HRN : Hid (∀ (X : World) (b : Nat), X.heap[b]? = some (.cells (SA.map B8).toArray 23 (0, 0)) → ∀ (j : Nat) u, ((SA.take 8).map B8)[j]? = some u → X.cell? ((⟨b, 0, none⟩ : Addr).add j) = some u) := fun X b hX j u hu => by
    have h := rangeAt_row hX
    rw [List.map_take] at hu
    have hj : j < 8 := by have := (List.getElem?_eq_some_iff.1 hu).1; rw [List.length_take] at this; omega
    rw [addr_at]
    exact h j u (by rwa [List.getElem?_take_of_lt hj] at hu)
  have HRB : Hid (∀ X v, HB X v (CS) → ∃ p cap ad, v = .slice p 128 cap ∧ p = some ad ∧ ∀ Y, Below X.heap.size X Y → ∀ (j : Nat) u, ((bg (CS)).map B8)[j]? = some u → Y.cell? (ad.add j) = some u) := fun X v hv => by
    generalize CS = l at *
    obtain ⟨p, cap, hve, _, hcx⟩ := R5.hb_cells hv
    rw [hcl] at hve
    rcases p with _ | ad
    · rcases hv with ⟨h, _⟩ | ⟨b, o, c, h, _⟩
      · rw [h] at hcl; simp at hcl
      · rw [hve] at h; simp at h
    · refine ⟨_, cap, ad, hve, rfl, fun Y hY j u hu => ?_⟩
      have h1 : (l.map B8)[j]? = some u := by
        unfold bg at hu
        rw [List.map_take] at hu
        have hj : j < 32 := by have := (List.getElem?_eq_some_iff.1 hu).1; rw [List.length_take] at this; omega
        rwa [List.getElem?_take_of_lt hj] at hu
      have h2 := hcx ad rfl j u h1
      exact (hY.cell (block_lt h2)).trans h2
  have HT0 : Hid _ := (RS.start w).alloc w.heap.size rfl 66 (R5.qL q dq)
  have HCL : Hid ((CS).length = 128) := hcl
  clear hZL hZH hZE hd hk hql hTL hsa ho hid hll hu hqo hog hc0 hcl
  generalize R5.qL q dq = QL at *
  generalize (q.key.take 16).map B8 = K1 at *
  generalize (SA.take 8).map B8 = N8 at *
  generalize SA.map B8 = SL at *
  generalize R5.askC o q (bg (CS)) = RR at *
  generalize (bg (CS)).map B8 = BL at *
  generalize R5.textQ q = TX at *
  go_enter Tryz.func24, Tryz.ntmps24
  go_upto_region 1 with fail
  generalize World.alloc _ _ = X0 at *
  have h0 := HC0.out X0 HT0.out.bel
  go_upto_region 13 with fail
  have HT1 : Hid _ := (HT0.out.alloc X0.heap.size rfl 86 ZH).alloc (X0.heap.size + 1) (by simp) 87 ZE
  clear HT0 h0 HC0
  refine wp_region_held_drew (S := fun _ => True) (by kernel_rfl) trivial (fun hHeld => ?_)
  have HT2 : Hid _ := HT1.out.step (Below.refl _ _).drew
  clear HT1
  generalize World.drew _ = Y0 at *
  generalize X0.heap.size = g11 at *
  generalize g11 + 1 = g12 at *
  have hs1 := fun W => slice_16 W g11
  have hs2 := fun W => slice_k W w.heap.size
  have hs3 := fun W => slice_8 W g12
  refine wpAnyH_take (i := 0) (oi := ⟨some 44, .slice 86 (.tmp 11) none none none, 64, _, #[], none⟩) (v := .slice (some ⟨g11, 0, none⟩) 16 16) rfl (by kernel_rfl) (by kernel_rfl) (by kernel_rfl) (fun _ _ _ h => h) (Or.inl ⟨by rfl, fun w' hw' => ?_⟩) hHeld ?_
  · first | (go_simp; done) | (go_simp; rfl)
  try simp only [Act.put, qT, q0, qS]
  refine wpAnyH_take (i := 1) (oi := ⟨some 45, .fieldAddr 66 (.tmp 4) 1, 0, _, #[], none⟩) (v := .pointer (some ⟨w.heap.size, 1, none⟩)) rfl (by kernel_rfl) (by kernel_rfl) (by kernel_rfl) (fun _ _ _ h => h) (Or.inl ⟨by rfl, fun w' hw' => ?_⟩) hHeld ?_
  · first | (go_simp; done) | (go_simp; rfl)
  try simp only [Act.put, qT, q0, qS]
  refine wpAnyH_take (i := 2) (oi := ⟨some 46, .slice 23 (.tmp 45) none (some (.const (Go.Value.int Go.IntKind.i64 16))) none, 64, _, #[⟨1, .data⟩], none⟩) (v := .slice (some ⟨w.heap.size, 1, none⟩) 16 32) rfl (by kernel_rfl) (by kernel_rfl) (by kernel_rfl) (fun _ _ _ h => h) (Or.inl ⟨by rfl, fun w' hw' => ?_⟩) hHeld ?_
  · first | (go_simp; done) | (go_simp; rfl)
  try simp only [Act.put, qT, q0, qS]
  refine wpAnyH_ready (rs := [3]) (by kernel_rfl) (by simp) ?_
  refine AllReadyH.cons (o := { dst := some 47, op := .call { callee := Go.Callee.builtin Go.Builtin.copy, args := #[.tmp 44, .tmp 46], argTypes := #[64, 64] }, type := 3, pos := _, after := #[⟨0, .data⟩, ⟨2, .data⟩], guard := none }) rfl (fun K hK => ?_) AllReadyH.nil
  rw [if_pos (by rfl)]
  refine R5.wp_copy_seg (.tmp 44) (.tmp 46) rfl g11 0 16 16 (some ⟨w.heap.size, 1, none⟩) 16 32 rfl rfl ZH 86 (HT2.out.at 1 rfl) K1 (by rw [HK1.out]; rfl) (fun _ => ⟨_, rfl, HRK.out Y0 (HT2.out.at 2 rfl)⟩) (by rw [HK1.out, HZH.out]; decide) HO1.out ?_
  rw [HSPK.out]
  have HT3 : Hid _ := HT2.out.put 1 rfl K1
  refine hK.out _ _ trivial (fun _ => ?_)
  clear hK K
  try simp only [Act.put, qT, q0, qS]
  refine wpAnyH_done (by kernel_rfl) ?_ _
  clear hHeld HT2 HRK
  generalize Y0.setRow g11 K1.toArray = Y1 at *
  go_wp2_with (refine wpList_load_mid rfl 66 (.tmp 4) rfl w.heap.size 0 rfl QL _ (rangeAt_row (HT3.out.at 2 rfl)) Tryz.underlying66 rfl (R5.info35 QL HQN.out) ?_)
  refine Calls.mono (HTX.out Y1 HT3.out.bel) ?_
  rintro e Y2 ⟨u, rfl, hf, hb⟩
  have HT4 : Hid _ := HT3.out.step hb
  have HU : Hid (HB Y2 u TX) := hf.hb
  clear hf hb HT3 HTX
  go_wp2_with fail
  refine Calls.mono (HSH.out u Y2 HU.out) ?_
  rintro e Y3 ⟨rfl, hb⟩
  have HT5 : Hid _ := (HT4.out.step hb).alloc Y3.heap.size rfl 23 ZL
  clear hb HT4 HU HSH
  go_upto_region 15 with (refine R5.wpList_store_rowL rfl 23 _ _ rfl Y3.heap.size SL.toArray rfl rfl 23 ZL.toArray (HT5.out.at 0 rfl) (R5.info32a _ (by simp [HSN.out])) (by simp [HSN.out, HZS.out]) HSO.out ?_; intro Y4 e4; have HT6 : Hid _ := HT5.out.put 0 rfl SL; rw [← e4] at HT6; clear e4)
  clear HT5
  generalize Y3.heap.size = g13 at *
  have hs4 := fun W => R5.PS.sliceTo W g13 8 (by decide)
  refine wp_region_held_drew (S := fun _ => True) (by kernel_rfl) trivial (fun hHeld => ?_)
  have HT7 : Hid _ := HT6.out.step (Below.refl _ _).drew
  clear HT6
  generalize World.drew _ = Y5 at *
  refine wpAnyH_take (i := 0) (oi := ⟨some 51, .slice 87 (.tmp 12) none none none, 64, _, #[], none⟩) (v := .slice (some ⟨g12, 0, none⟩) 8 8) rfl (by kernel_rfl) (by kernel_rfl) (by kernel_rfl) (fun _ _ _ h => h) (Or.inl ⟨by rfl, fun w' hw' => ?_⟩) hHeld ?_
  · first | (go_simp; done) | (go_simp; rfl)
  try simp only [Act.put, qT, q0, qS]
  refine wpAnyH_take (i := 1) (oi := ⟨some 52, .slice 23 (.tmp 13) none (some (.const (Go.Value.int Go.IntKind.i64 8))) none, 64, _, #[], none⟩) (v := .slice (some ⟨g13, 0, none⟩) 8 32) rfl (by kernel_rfl) (by kernel_rfl) (by kernel_rfl) (fun _ _ _ h => h) (Or.inl ⟨by rfl, fun w' hw' => ?_⟩) hHeld ?_
  · first | (go_simp; done) | (go_simp; rfl)
  try simp only [Act.put, qT, q0, qS]
  refine wpAnyH_ready (rs := [2]) (by kernel_rfl) (by simp) ?_
  refine AllReadyH.cons (o := { dst := some 53, op := .call { callee := Go.Callee.builtin Go.Builtin.copy, args := #[.tmp 51, .tmp 52], argTypes := #[64, 64] }, type := 3, pos := _, after := #[⟨0, .data⟩, ⟨1, .data⟩], guard := none }) rfl (fun K hK => ?_) AllReadyH.nil
  rw [if_pos (by rfl)]
  refine R5.wp_copy_seg (.tmp 51) (.tmp 52) rfl g12 0 8 8 (some ⟨g13, 0, none⟩) 8 32 rfl rfl ZE 87 (HT7.out.at 1 rfl) N8 (by rw [HN9.out]; rfl) (fun _ => ⟨_, rfl, HRN.out Y5 g13 (HT7.out.at 0 rfl)⟩) (by rw [HN9.out, HZE.out]; decide) HN1.out ?_
  rw [HSPN.out]
  have HT8 : Hid _ := HT7.out.put 1 rfl N8
  refine hK.out _ _ trivial (fun _ => ?_)
  clear hK K
  try simp only [Act.put, qT, q0, qS]
  refine wpAnyH_done (by kernel_rfl) ?_ _
  clear hHeld HT7 HRN
  generalize Y5.setRow g12 N8.toArray = Y6 at *
  go_wp2_with (first
    | (refine wpList_load_mid rfl 86 (.tmp 11) rfl g11 0 rfl K1 _ (rangeAt_row (HT8.out.at 2 rfl)) Tryz.underlying86 rfl (info16 K1 HK1.out) ?_)
    | (refine wpList_load_mid rfl 87 (.tmp 12) rfl g12 0 rfl N8 _ (rangeAt_row (HT8.out.at 1 rfl)) Tryz.underlying87 rfl (info8 N8 HN9.out) ?_))
  refine Calls.mono (HAE.out Y6) ?_
  rintro e Y7 ⟨v, rfl, hv, hb, hown⟩
  have hs6 := HT8.out.bel.size
  have HOW : Hid (∀ j, v.ownBlock = some j → w.heap.size ≤ j) := fun j e => by have := hown j e; omega
  have HV7 : Hid (HB Y7 v CS) := hv
  obtain ⟨p, cap, ad, rfl, rfl, hcx⟩ := HRB.out Y7 v hv
  have HT9 : Hid _ := (HT8.out.step hb).alloc Y7.heap.size rfl 23 ZL
  have hb7 : Below Y7.heap.size Y7 (Y7.alloc (.cells ZL.toArray 23 (0, 0))) := (Below.refl _ _).alloc (Nat.le_refl _) _
  have HV8 : Hid (HB (Y7.alloc (.cells ZL.toArray 23 (0, 0))) _ CS) := hv.below hb7
  have HCX : Hid (∀ (j : Nat) u, BL[j]? = some u → (Y7.alloc (.cells ZL.toArray 23 (0, 0))).cell? (ad.add j) = some u) := hcx _ hb7
  have HNE : Hid (∀ j, (Value.slice (some ad) 128 cap).ownBlock = some j → j ≠ Y7.heap.size) := fun j e => by
    have hl := R5.hb_lt hv (fun e0 => by have := HCL.out; rw [e0] at this; simp at this) j e
    omega
  clear hv hb hb7 hown hcx hs6 HAE HT8 HRB HV7
  go_upto_region 18 with fail
  generalize Y7.alloc (.cells ZL.toArray 23 (0, 0)) = Y8 at *
  generalize Y7.heap.size = g14 at *
  have hsl := fun W => R5.sliceDig W g14 0
  go_wp2_with (first
    | (refine wpList_copy_segL rfl (.tmp 58) (.tmp 59) rfl g14 0 32 32 (some ad) 128 cap rfl rfl ZL 23 (HT9.out.at 0 rfl) BL (by rw [HBN.out]; rfl) (fun _ => ⟨ad, rfl, HCX.out⟩) (by rw [HBN.out, HZS.out]; decide) HBO.out ?_; intro Y9 e9; rw [HSPB.out] at e9; have HTA : Hid _ := HT9.out.put 0 rfl BL; rw [← e9] at HTA; have HVA : Hid (HB Y9 (.slice (some ad) 128 cap) CS) := R5.hb_keep HV8.out (fun j e hl => by rw [e9]; exact setRow_other _ _ _ _ (HNE.out j e)); clear e9)
    | (refine wpList_load_mid rfl 66 (.tmp 4) rfl w.heap.size 0 rfl QL _ (rangeAt_row (HTA.out.at 4 rfl)) Tryz.underlying66 rfl (R5.info35 QL HQN.out) ?_)
    | (refine wpList_load_mid rfl 23 (.tmp 14) rfl g14 0 rfl BL _ (rangeAt_row (HTA.out.at 0 rfl)) Tryz.underlying23 rfl (R5.info32 BL HBN.out) ?_))
  refine Calls.mono (HANS.out Y9 HTA.out.bel) ?_
  rintro e YB ⟨rfl, hfr, hor⟩
  have HEND : Hid _ := HFIN.out _ Y9 YB HTA.out.bel HVA.out HOW.out hfr hor
  clear hfr hor HANS HFIN HTA HVA HV8 HCX HOW HNE
  go_wp2
  go_ret
  exact HEND.out
end Go.Proofs.YtbmmibmfjhehhaaGreat.BC
