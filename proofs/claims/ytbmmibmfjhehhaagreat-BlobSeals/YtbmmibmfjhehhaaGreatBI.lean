/- blob: what the statements know. -/
import Derived.Test.YtbmmibmfjhehhaaGreatBH
set_option linter.unusedVariables false
set_option linter.unusedSimpArgs false
namespace Go.Proofs.YtbmmibmfjhehhaaGreat.BC
open Go.RowKit

set_option maxHeartbeats 8000000 in
set_option maxRecDepth 100000 in
theorem fill_four (w : World) (X Y Z V : List Value) (h1 : X.length = 32) (h2 : Y.length = 32) (h3 : Z.length = 32) (h4 : V.length = 32) : (Instr.buildSlice 24 4 #[(0, .agg X.toArray), (1, .agg Y.toArray), (2, .agg Z.toArray), (3, .agg V.toArray)]).run Tryz.prog w = .ok (.slice (some ⟨w.heap.size, 0, none⟩) 4 4) (w.alloc (.cells (X ++ Y ++ Z ++ V).toArray 23 (0, 0))) := by
  iterate 32 (obtain ⟨_, _, e, g⟩ := R5.cons_of h1; clear h1; subst e; have h1 := g; clear g)
  obtain rfl := List.eq_nil_of_length_eq_zero h1
  iterate 32 (obtain ⟨_, _, e, g⟩ := R5.cons_of h2; clear h2; subst e; have h2 := g; clear g)
  obtain rfl := List.eq_nil_of_length_eq_zero h2
  iterate 32 (obtain ⟨_, _, e, g⟩ := R5.cons_of h3; clear h3; subst e; have h3 := g; clear g)
  obtain rfl := List.eq_nil_of_length_eq_zero h3
  iterate 32 (obtain ⟨_, _, e, g⟩ := R5.cons_of h4; clear h4; subst e; have h4 := g; clear g)
  obtain rfl := List.eq_nil_of_length_eq_zero h4
  show _ = _
  kernel_rfl
theorem flat_part : ∀ (ls : List (List UInt8)) (k : Nat), (∀ l ∈ ls, l.length = 32) → k < ls.length → (ls.flatten.drop (k * 32)).take 32 = ls.getD k []
  | [], k, _, hk => absurd hk (Nat.not_lt_zero _)
  | l :: ls, 0, h, _ => by
    have := h l (List.mem_cons_self ..)
    rw [List.flatten_cons, Nat.zero_mul, List.drop_zero, List.take_append_of_le_length (by omega), List.take_of_length_le (by omega)]; rfl
  | l :: ls, k + 1, h, hk => by
    have := h l (List.mem_cons_self ..)
    rw [List.flatten_cons, show (k + 1) * 32 = l.length + k * 32 by omega, ← List.drop_drop, List.drop_left, flat_part ls k (fun x hx => h x (List.mem_cons_of_mem _ hx)) (by simpa using hk)]; rfl
theorem hds_row {w : World} {g n : Nat} {t : TypeId} (ds : List (List UInt8)) (hn : n = ds.length) (h : ∀ d ∈ ds, d.length = 32) (hr : w.heap[g]? = some (.cells (ds.flatten.map B8).toArray t (0, 0))) : R5.HDs w (.slice (some ⟨g, 0, none⟩) n n) ds := by
  subst hn
  refine ⟨h, _, _, rfl, fun i hi => ⟨g, 0, rfl, fun j v hv => ?_⟩⟩
  rw [← flat_part ds i h hi] at hv
  have hj := (List.getElem?_eq_some_iff.1 hv).1
  rw [List.length_map, List.length_take] at hj
  rw [List.map_take, List.map_drop, List.getElem?_take_of_lt (by omega), List.getElem?_drop] at hv
  rw [Nat.zero_add, cell_of_row _ _ _ _ _ _ hr, List.getElem?_toArray]
  exact hv
theorem num_any (n : Int) (w : World) : Calls Tryz.prog 10 #[.int .i64 n] w fun x w' => x = .returned (.int .i64 n) ∧ w = w' := by
  go_enter Tryz.func10, Tryz.ntmps10
  go_wp2
  go_ret
  exact ⟨rfl, rfl⟩
def Z32 : List UInt8 := List.replicate 32 0
def kD : List (List UInt8) := [ones 1, ones 2, ones 3, ones 4]
def kO : R5.Pra := ⟨true, Z32, kD, []⟩
def kM : List UInt8 := ones 1 ++ ones 2 ++ ones 3 ++ ones 4
theorem kM_len : kM.length = 128 := by kernel_rfl
theorem kS_eq : (stI kO ⟨4, Z32, 10, W1.le 8 0 ++ W1.le 8 0⟩).1 = kM := by kernel_rfl
set_option maxRecDepth 100000 in
theorem kM_eq : mx Z128 (stI kO ⟨4, Z32, 10, W1.le 8 0 ++ W1.le 8 0⟩).1 = kM := by
  rw [kS_eq]
  exact mx_zero kM 128 kM_len
theorem Fr.bel {B : Nat} {S : Nat → Prop} {w X Y : World} (hb : Below w.heap.size w X) (hf : R5.Fr S X Y) (hl : ∀ k, S k → w.heap.size ≤ k) : Below w.heap.size w Y :=
  ⟨hf.os.trans hb.os, hf.tape.trans hb.tape, hf.output.trans hb.output, Nat.le_trans hb.size hf.size, fun k hk => (hf.block k (Nat.lt_of_lt_of_le hk hb.size) (fun h => by have := hl k h; omega)).trans (hb.block k hk)⟩
set_option maxHeartbeats 4000000 in
set_option maxRecDepth 100000 in
theorem known_any (w : World) : Calls Tryz.prog 5 #[] w fun e w' => e = .returned (.bool true) ∧ Below w.heap.size w w' := by
  have hz := fun W => zero_gr W
  have HNM : Hid (∀ n W, Calls Tryz.prog 10 #[.int .i64 n] W fun x w' => x = .returned (.int .i64 n) ∧ W = w') := num_any
  obtain ⟨GL, hGL⟩ : ∃ L, L = Z128.map B8 := ⟨_, rfl⟩
  rw [← hGL] at hz
  have HBG : Hid (∀ W : World, (Instr.build 29 #[]).run Tryz.prog W = .ok (.agg GL.toArray) W) := fun W => by rw [hGL]; exact build_gr W
  have HGN : Hid (GL.length = 128) := by show _ = _; rw [hGL]; simp [z128_len]
  have HG1 : Hid (GL.toArray.all (·.oneCell') = true) := by show _ = _; rw [hGL]; exact B8_onea _
  obtain ⟨ZL, hZL⟩ : ∃ L, L = Z32.map B8 := ⟨_, rfl⟩
  have HBD : Hid (∀ W : World, (Instr.build 23 #[]).run Tryz.prog W = .ok (.agg ZL.toArray) W) := fun W => by rw [hZL]; exact R5.build_dig W
  obtain ⟨L1, hL1⟩ : ∃ L, L = (ones 1).map B8 := ⟨_, rfl⟩
  obtain ⟨L2, hL2⟩ : ∃ L, L = (ones 2).map B8 := ⟨_, rfl⟩
  obtain ⟨L3, hL3⟩ : ∃ L, L = (ones 3).map B8 := ⟨_, rfl⟩
  obtain ⟨L4, hL4⟩ : ∃ L, L = (ones 4).map B8 := ⟨_, rfl⟩
  have HON1 : Hid (∀ W, Calls Tryz.prog 19 #[.int .u8 1] W fun e w' => e = .returned (.agg L1.toArray) ∧ Below W.heap.size W w') := fun W => by rw [hL1]; exact ones_any 1 W
  have HON2 : Hid (∀ W, Calls Tryz.prog 19 #[.int .u8 2] W fun e w' => e = .returned (.agg L2.toArray) ∧ Below W.heap.size W w') := fun W => by rw [hL2]; exact ones_any 2 W
  have HON3 : Hid (∀ W, Calls Tryz.prog 19 #[.int .u8 3] W fun e w' => e = .returned (.agg L3.toArray) ∧ Below W.heap.size W w') := fun W => by rw [hL3]; exact ones_any 3 W
  have HON4 : Hid (∀ W, Calls Tryz.prog 19 #[.int .u8 4] W fun e w' => e = .returned (.agg L4.toArray) ∧ Below W.heap.size W w') := fun W => by rw [hL4]; exact ones_any 4 W
  obtain ⟨LL, hLL⟩ : ∃ L, L = L1 ++ L2 ++ L3 ++ L4 := ⟨_, rfl⟩
  have HFF : Hid (∀ W : World, (Instr.buildSlice 24 4 #[(0, .agg L1.toArray), (1, .agg L2.toArray), (2, .agg L3.toArray), (3, .agg L4.toArray)]).run Tryz.prog W = .ok (.slice (some ⟨W.heap.size, 0, none⟩) 4 4) (W.alloc (.cells LL.toArray 23 (0, 0)))) := fun W => by rw [hLL]; exact fill_four W L1 L2 L3 L4 (by rw [hL1]; rfl) (by rw [hL2]; rfl) (by rw [hL3]; rfl) (by rw [hL4]; rfl)
  have HNEW : Hid (∀ W : World, Calls Tryz.prog 18 #[.bool true, .agg ZL.toArray, .slice (some ⟨W.heap.size, 0, none⟩) 4 4] (W.alloc (.cells LL.toArray 23 (0, 0))) fun e w' => R5.PNew (W.alloc (.cells LL.toArray 23 (0, 0))) true Z32 kD e w') := fun W => by
    rw [hZL]
    refine R5.pnew_any true Z32 _ 4 4 kD _ rfl (fun h => by cases h) (by decide) (hds_row kD rfl (fun d hd => by simp [kD] at hd; rcases hd with rfl | rfl | rfl | rfl <;> exact ones_len _) (t := 23) ?_)
    rw [heap_alloc_new, hLL, hL1, hL2, hL3, hL4]
    simp [kD]
  obtain ⟨ML, hML⟩ : ∃ L, L = kM.map B8 := ⟨_, rfl⟩
  have HMN : Hid (ML.length = 128) := by show _ = _; rw [hML]; rfl
  have HM1 : Hid (ML.toArray.all (·.oneCell') = true) := by show _ = _; rw [hML]; exact B8_onea _
  have HMC : Hid (ML[0]? = some (.int .u8 1) ∧ ML[32]? = some (.int .u8 2) ∧ ML[64]? = some (.int .u8 3) ∧ ML[127]? = some (.int .u8 4)) := by rw [hML]; exact ⟨rfl, rfl, rfl, rfl⟩
  have HMX : Hid (∀ W, Calls Tryz.prog 20 #[.agg ML.toArray, .agg ML.toArray] W fun e w' => e = .returned (.agg GL.toArray) ∧ Below W.heap.size W w') := fun W => by
    have q := pmix_any kM kM W rfl rfl
    rw [mx_self, show List.replicate kM.length (0 : UInt8) = Z128 from rfl, ← hML, ← hGL] at q
    exact q
  have HEQ : Hid (∀ W, (Op.equalIn 10000 29 (.agg GL.toArray) (.agg GL.toArray)).run Tryz.prog W = .ok true W) := fun W => by rw [hGL]; exact eq_gr W Z128 Z128 z128_len z128_len true (beq_self_eq_true _)
  have HS1 : Hid (∀ (X : World) og mb dv, R5.PO X.heap.size og mb (fun k => k = og ∨ k = mb) X kO dv (.slice none 0 0) → True) := fun _ _ _ _ _ => trivial
  have HSEAL : Hid (∀ (X Y : World) og mb dv, X.heap.size ≤ Y.heap.size → R5.PO X.heap.size og mb (fun k => k = og ∨ k = mb) Y kO dv (.slice none 0 0) → Calls Tryz.prog 7 #[.pointer (some ⟨og, 0, none⟩), .agg ZL.toArray, .int .i64 0, .int .u64 0, .agg GL.toArray] Y fun e w' => e = .returned (.tuple #[.agg ML.toArray, .int .i64 0]) ∧ Below X.heap.size Y w' ∧ w'.cell? ⟨og, 35, none⟩ = some (.map (some mb))) := fun X Y og mb dv hXY hp => by
    rw [hZL, hGL, hML]
    refine (seal_ok X.heap.size og mb _ Z32 Z128 0 0 (stI kO ⟨4, Z32, 10, W1.le 8 0 ++ W1.le 8 0⟩) dv _ kO Y rfl rfl (by decide) (by decide) hXY hp (stI_len hp _) (fun W dq hW hd hown => pstr_I X.heap.size og mb _ Z32 _ dq dv _ kO Y W rfl rfl (by simp [W1.le_length]) hXY (by decide) hp hW hd hown)).mono ?_
    rintro e w' ⟨rfl, hf, ov', hp2⟩
    refine ⟨by rw [kM_eq]; rfl, ⟨hf.os, hf.tape, hf.output, hf.size, fun k hk => hf.block k (by omega) (fun h => by have := hp.low k h; omega)⟩, hp2.cells.2.2.2.1⟩
  have HSN : Hid (∀ (W : World) og mb, W.cell? ⟨og, 35, none⟩ = some (.map (some mb)) → Calls Tryz.prog 7 #[.pointer (some ⟨og, 0, none⟩), .agg ZL.toArray, .int .i64 128, .int .u64 0, .agg GL.toArray] W fun e w' => e = .returned (.tuple #[.agg GL.toArray, .int .i64 2]) ∧ Below W.heap.size W w') := fun W og mb hc => by
    rw [hZL, hGL]
    exact seal_no (some ⟨og, 0, none⟩) Z32 Z128 128 0 2 W rfl rfl (by decide) (fun X hX => fault_no og mb 128 0 X ((hX.cell (block_lt hc)).trans hc))
  have HS0 : Hid (∀ (W : World), Calls Tryz.prog 7 #[.pointer none, .agg ZL.toArray, .int .i64 0, .int .u64 0, .agg GL.toArray] W fun e w' => e = .returned (.tuple #[.agg GL.toArray, .int .i64 1]) ∧ Below W.heap.size W w') := fun W => by
    rw [hZL, hGL]
    exact seal_no none Z32 Z128 0 0 1 W rfl rfl (by decide) (fun X hX => fault_nil 0 0 X)
  clear hLL hGL hZL hL1 hL2 hL3 hL4 hML HS1
  have HB0 : Hid (Below w.heap.size w w) := Below.refl _ _
  go_enter Tryz.func5, Tryz.ntmps5
  go_wp2_with (refine R5.wpList_build rfl 23 #[] rfl #[] (.agg ZL.toArray) (by simp) (HBD.out _) ?_)
  refine Calls.mono (HON1.out _) ?_
  rintro e X1 ⟨rfl, hb⟩
  have HBX1 : Hid (Below w.heap.size w X1) := HB0.out.trans (hb.mono HB0.out.size)
  clear hb
  go_wp2_with fail
  refine Calls.mono (HON2.out _) ?_
  rintro e X2 ⟨rfl, hb⟩
  have HBX2 : Hid (Below w.heap.size w X2) := HBX1.out.trans (hb.mono HBX1.out.size)
  clear hb
  go_wp2_with fail
  refine Calls.mono (HON3.out _) ?_
  rintro e X3 ⟨rfl, hb⟩
  have HBX3 : Hid (Below w.heap.size w X3) := HBX2.out.trans (hb.mono HBX2.out.size)
  clear hb
  go_wp2_with fail
  refine Calls.mono (HON4.out _) ?_
  rintro e X4 ⟨rfl, hb⟩
  have HB4 : Hid (Below w.heap.size w X4) := HBX3.out.trans (hb.mono HBX3.out.size)
  clear hb HBX1 HBX2 HBX3 HB0
  go_wp2_with (refine R5.wpList_bslice rfl 24 4 _ rfl _ _ (by simp; exact ⟨rfl, rfl, rfl, rfl⟩) (HFF.out _) ?_)
  refine Calls.mono (HNEW.out _) ?_
  rintro e X5 ⟨og, mb, dv, rfl, hpo, hb5, _⟩
  have hba : Below w.heap.size w (X4.alloc (.cells LL.toArray 23 (0, 0))) := HB4.out.alloc HB4.out.size _
  have HB5 : Hid (Below w.heap.size w X5) := hba.trans (hb5.mono hba.size)
  have HSL := HSEAL.out _ X5 og mb dv hb5.size hpo
  have HSL : Hid (Calls Tryz.prog 7 #[.pointer (some ⟨og, 0, none⟩), .agg ZL.toArray, .int .i64 0, .int .u64 0, .agg GL.toArray] X5 fun e w' => e = .returned (.tuple #[.agg ML.toArray, .int .i64 0]) ∧ Below w.heap.size w w' ∧ w'.cell? ⟨og, 35, none⟩ = some (.map (some mb))) := HSL.mono (fun e w' ⟨h1, h2, h3⟩ => ⟨h1, HB5.out.trans (h2.mono hba.size), h3⟩)
  clear hpo hb5 hba HB4 HSEAL HNEW HFF
  go_wp2_with (first
    | (refine R5.wpList_build rfl 23 #[] rfl #[] (.agg ZL.toArray) (by simp) (HBD.out _) ?_)
    | (refine R5.wpList_build rfl 29 #[] rfl #[] (.agg GL.toArray) (by simp) (HBG.out _) ?_))
  refine Calls.mono HSL.out ?_
  rintro e X6 ⟨rfl, hb6, hc6⟩
  have HT6 : Hid (RS w [] X6) := ⟨hb6, fun r h => (List.not_mem_nil h).elim, List.nodup_nil, fun r h => (List.not_mem_nil h).elim⟩
  have HC6 : Hid (X6.cell? ⟨og, 35, none⟩ = some (.map (some mb))) := hc6
  have HT7 : Hid _ := HT6.out.alloc X6.heap.size rfl 29 GL
  have HT8 : Hid _ := HT7.out.put 0 rfl ML
  have HC8 : Hid (((X6.alloc (.cells GL.toArray 29 (0, 0))).setRow X6.heap.size ML.toArray).cell? ⟨og, 35, none⟩ = some (.map (some mb))) := by
    have hb : Below X6.heap.size X6 ((X6.alloc (.cells GL.toArray 29 (0, 0))).setRow X6.heap.size ML.toArray) := below_setRow ((Below.refl _ _).alloc (Nat.le_refl _) _) (Nat.le_refl _) _
    exact (hb.cell (block_lt hc6)).trans hc6
  clear hb6 hc6 HSL HB5 HC6
  go_upto_region 3 with (refine wpList_store_row rfl 29 _ _ rfl X6.heap.size ML.toArray rfl rfl 29 GL.toArray (HT7.out.at 0 rfl) (info128a ML HMN.out) (by simp [HMN.out, HGN.out]) HM1.out ?_)
  generalize (X6.alloc (.cells GL.toArray 29 (0, 0))).setRow X6.heap.size ML.toArray = X8 at *
  clear HT7 HT6
  generalize X6.heap.size = g2 at *
  go_wp2_with (first
    | (refine R5.wpList_build rfl 23 #[] rfl #[] (.agg ZL.toArray) (by simp) (HBD.out _) ?_)
    | (refine R5.wpList_build rfl 29 #[] rfl #[] (.agg GL.toArray) (by simp) (HBG.out _) ?_))
  refine Calls.mono (HSN.out X8 og mb HC8.out) ?_
  rintro e X9 ⟨rfl, hb9⟩
  have HT9 : Hid _ := (HT8.out.step hb9).alloc X9.heap.size rfl 29 GL
  clear hb9 HT8 HC8 HSN
  go_upto_region 4 with (refine R5.wpList_store_rowL rfl 29 _ _ rfl X9.heap.size GL.toArray rfl rfl 29 GL.toArray (HT9.out.at 0 rfl) (info128a GL HGN.out) rfl HG1.out ?_; intro X10 e10; have HT10 : Hid _ := HT9.out.put 0 rfl GL; rw [← e10] at HT10; clear e10)
  have HT11 : Hid (RS w [(g2, 29, ML)] X10) := RS.tail HT10.out
  clear HT9 HT10
  go_wp2_with (first
    | (refine R5.wpList_build rfl 23 #[] rfl #[] (.agg ZL.toArray) (by simp) (HBD.out _) ?_)
    | (refine R5.wpList_build rfl 29 #[] rfl #[] (.agg GL.toArray) (by simp) (HBG.out _) ?_))
  refine Calls.mono (HS0.out X10) ?_
  rintro e X12 ⟨rfl, hb12⟩
  have HT12 : Hid _ := (HT11.out.step hb12).alloc X12.heap.size rfl 29 GL
  clear hb12 HT11 HS0
  go_upto_region 5 with (refine R5.wpList_store_rowL rfl 29 _ _ rfl X12.heap.size GL.toArray rfl rfl 29 GL.toArray (HT12.out.at 0 rfl) (info128a GL HGN.out) rfl HG1.out ?_; intro X13 e13; have HT13 : Hid _ := HT12.out.put 0 rfl GL; rw [← e13] at HT13; clear e13)
  have HT14 : Hid (RS w [(g2, 29, ML)] X13) := RS.tail HT13.out
  clear HT12 HT13
  obtain ⟨c0, c1, c2, c3⟩ := HMC.out
  have g0 := HT14.out.cell 0 rfl 0 c0
  have g1 := HT14.out.cell 0 rfl 32 c1
  have g2' := HT14.out.cell 0 rfl 64 c2
  have g3 := HT14.out.cell 0 rfl 127 c3
  clear c0 c1 c2 c3
  go_wp2_with fail
  refine Calls.mono (HNM.out 0 X13) ?_
  rintro e W1 ⟨rfl, rfl⟩
  go_wp2_with fail
  refine Calls.mono (HNM.out 2 X13) ?_
  rintro e W1 ⟨rfl, rfl⟩
  go_wp2_with fail
  refine Calls.mono (HNM.out 1 X13) ?_
  rintro e W1 ⟨rfl, rfl⟩
  go_wp2_with (refine R5.load_mid_g (by rfl) 29 (.tmp 2) rfl g2 0 rfl ML _ (rangeAt_row (HT14.out.at 0 rfl)) Tryz.underlying29 rfl (info128 ML HMN.out) ?_)
  refine Calls.mono (HMX.out X13) ?_
  rintro e X15 ⟨rfl, hb15⟩
  have HB15 : Hid (Below w.heap.size w X15) := (HT14.out.step hb15).bel
  have heq := HEQ.out X15
  clear hb15 HT14 g0 g1 g2' g3 HEQ HMX
  go_wp2_with (refine R5.wpList_buildg (by rfl) 29 #[] rfl #[] (.agg GL.toArray) (by simp) (HBG.out _) ?_)
  go_ret
  exact ⟨rfl, HB15.out⟩
end Go.Proofs.YtbmmibmfjhehhaaGreat.BC
