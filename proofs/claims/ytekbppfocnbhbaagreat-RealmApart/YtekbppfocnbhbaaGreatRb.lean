import Derived.Test.YtekbppfocnbhbaaGreatRa
import Derived.Deep.CutRange
set_option linter.unusedVariables false
set_option linter.unusedSimpArgs false
set_option maxHeartbeats 16000000
set_option maxRecDepth 100000
namespace Go.Proofs.YtekbppfocnbhbaaGreat.XC
open Go.RowKit
abbrev rw5 (S b4 : Nat) (PL TL ZL AL ML : List Value) : List RwT := [(b4, 33, ML), (S + 1 + 1 + 1, 69, AL), (S + 1 + 1, 47, ZL), (S + 1, 33, TL), (S, 36, PL)]
section
variable {c : Cx} {rb tn last : Nat} {L R R' : Lg} {I J : Nat → Prop} {X Y Z : World} {rl : List En} {av : Value} {rows : List RwT} {rd root : Int}
def rN (i : Nat) (root : Int) (nodes : Nat) (tree M V : List UInt8) : Rm := ⟨i, 1, root, nodes, M, [rec1 V], PC.Z32, 0, tree, 0⟩
theorem build_rm1 (w : World) (i n : Int) (root : Int) (ML TL : List Value) (p : Option Addr) (k m : Nat) (hm : ML.length = 32) (h : TL.length = 32) : (Instr.build 47 #[(0, .int .u64 i), (1, .int .i64 1), (2, .int .i64 root), (3, .int .u64 n), (4, .agg ML.toArray), (5, .slice p k m), (8, .agg TL.toArray)]).run Tryz.prog w = .ok (.agg (.int .u64 i :: .int .i64 1 :: .int .i64 root :: .int .u64 n :: (ML ++ (.slice p k m :: (PC.Z32.map B8 ++ (.int .u64 0 :: (TL ++ [.int .i64 0])))))).toArray) w := by
  iterate 32 (obtain ⟨_, _, e, g⟩ := R5.cons_of hm; clear hm; subst e; have hm := g; clear g)
  obtain rfl := List.eq_nil_of_length_eq_zero hm
  iterate 32 (obtain ⟨_, _, e, g⟩ := R5.cons_of h; clear h; subst e; have h := g; clear g)
  obtain rfl := List.eq_nil_of_length_eq_zero h
  show _ = _
  kernel_rfl
def zIt : Array Value := (itL (0, zR, .slice none 0 0)).toArray
theorem infoIt2 : (Tryz.prog.info? 54).map (fun i => (i.zero, i.size, i.bytes)) = some (some (.agg zIt), 104, 176) := by kernel_rfl
theorem fill_it (AL : List Value) (h : AL.length = 104) : Instr.fill (fun i => some (i * 104, 104)) ((Array.range (1 * 104)).map ((Value.agg zIt).cells[· % (Value.agg zIt).cells.size]!)) [(0, .agg AL.toArray)] = some AL.toArray := by
  iterate 104 (obtain ⟨_, _, e, g⟩ := R5.cons_of h; clear h; subst e; have h := g; clear g)
  obtain rfl := List.eq_nil_of_length_eq_zero h
  show _ = _
  kernel_rfl
theorem build_it (w : World) (rd : Int) (RL : List Value) (h : RL.length = 103) : (Instr.build 54 #[(0, .int .i64 rd), (1, .agg RL.toArray)]).run Tryz.prog w = .ok (.agg (.int .i64 rd :: RL).toArray) w := by
  iterate 103 (obtain ⟨_, _, e, g⟩ := R5.cons_of h; clear h; subst e; have h := g; clear g)
  obtain rfl := List.eq_nil_of_length_eq_zero h
  show _ = _
  kernel_rfl
theorem rcr_ok (h : RX c rb I X rl last av) (hM : R5.MM c.w c.n tn c.og c.mo c.rg c.m c.D L R I X X) (hn : rl.length < 100000) (hno : NoRd rl rd) (h0 : ¬ rd < 0) (h1 : ¬ root < 0) (V : List UInt8) (hV : V.length = 32) (nodes : Nat) (tree : List UInt8) (ht : tree.length = 32) (hlast : last < 100000) (hL : R.length < 900000) (hAl1 : (R5.nx c.D R (cq1 V)).1.length = 32) (hAl2 : (R5.nx c.D (R5.nx c.D R (cq1 V)).2 (cq2 c.m (last + 1))).1.length = 32) :
    Calls Tryz.prog 17 #[.pointer (some ⟨rb, 0, none⟩), .int .i64 rd, .int .i64 root, .agg (PC.rpL V nodes).toArray, .agg (tree.map B8).toArray] X fun e Z => ∃ lv av', e = .returned (.tuple #[.agg (rmL (newR c R (last + 1) root V nodes tree) lv).toArray, .int .i64 0]) ∧ RE c rb L (newL c R (last + 1) V) I X Z rl (rl ++ [(rd, newR c R (last + 1) root V nodes tree, lv)]) (last + 1) av av' ∧ HR Z lv [rec1 V] := by
  obtain ⟨p0, cap0, rfl, _⟩ := h.form
  have HNOK : Hid (newR c R (last + 1) root V nodes tree).ok := ⟨hAl1, hAl2, ht, fun x hx => by rw [List.mem_singleton.1 hx]; exact rec1_ok hV⟩
  have hmx : (1000000 : Nat) ≤ maxLen := by decide
  have HM3 : Hid (rl.length + 1 ≤ maxLen) := by show _ ≤ _; omega
  have HM4 : Hid ((rl.length + 1) * 176 ≤ 140737488355328) := by show _ ≤ _; omega
  clear hmx
  have hz := fun W => zero_rm W
  obtain ⟨ZL, hZL⟩ : ∃ L, L = rmL zR (.slice none 0 0) := ⟨_, rfl⟩
  rw [← hZL] at hz
  have HZN : Hid (ZL.length = 103) := by show _ = _; rw [hZL]; exact rmL_len zR_ok _
  have HZS : Hid (ZL.toArray.size = 103) := by show _ = _; simpa using HZN.out
  have HPN : Hid ((PC.rpL V nodes)[32]? = some (.int .u64 (nodes : Int))) := PC.rpL_n V nodes hV
  have HPV : Hid (((PC.rpL V nodes).drop 0).take 32 = V.map B8) := PC.rpL_v V nodes hV
  have HTI : Hid _ := R5.info32 (tree.map B8) (by simpa using ht)
  have HVI : Hid _ := R5.info32 (V.map B8) (by simpa using hV)
  have HR1 : Hid (∀ W, (Instr.build 69 #[(0, .int .i64 1), (1, .agg (V.map B8).toArray)]).run Tryz.prog W = .ok (.agg (rdL (rec1 V)).toArray) W) := fun W => build_rd1 W (V.map B8) (by simpa using hV)
  have HBD : Hid (∀ W, (Instr.build 33 #[]).run Tryz.prog W = .ok (.agg ((List.replicate 32 (0 : UInt8)).map B8).toArray) W) := R5.build_dig
  have hzd := fun W => R5.zero_dig W
  have hzr := fun W => zero_rd W
  have HVN : Hid (V.length = 32) := hV
  have HAK : Hid ((R5.nx c.D (R5.nx c.D R (cq1 V)).2 (cq2 c.m (last + 1))).1.length = 32) := hAl2
  have HR1L : Hid ((R5.nx c.D R (cq1 V)).2.length < 1000000) := by show _ < _; have := R5.nx_len c.D R (cq1 V); omega
  have HTN : Hid (tree.length = 32) := ht
  have HAN : Hid ((rdL (rec1 V)).length = 172) := rdL_len (rec1_ok hV)
  have HA1 : Hid ((rdL (rec1 V)).toArray.all (·.oneCell') = true) := PC.onea (rdL_one _)
  have HZR : Hid (zRd.size = 172) := by show _ = _; decide
  obtain ⟨ZR, hZR⟩ : ∃ ZR : List Value, zRd = ZR.toArray := ⟨zRd.toList, by simp⟩
  rw [hZR] at hzr HZR
  obtain ⟨PL, hPL⟩ : ∃ PL, PL = PC.rpL V nodes := ⟨_, rfl⟩
  obtain ⟨TL, hTL⟩ : ∃ TL, TL = tree.map B8 := ⟨_, rfl⟩
  obtain ⟨VL, hVL⟩ : ∃ VL, VL = V.map B8 := ⟨_, rfl⟩
  obtain ⟨AL, hAL⟩ : ∃ AL, AL = rdL (rec1 V) := ⟨_, rfl⟩
  obtain ⟨DL, hDL⟩ : ∃ DL, DL = (List.replicate 32 (0 : UInt8)).map B8 := ⟨_, rfl⟩
  rw [← hPL] at HPN HPV ⊢
  rw [← hTL] at HTI ⊢
  rw [← hVL] at HVI HPV HR1
  rw [← hAL] at HR1 HAN HA1
  rw [← hDL] at HBD hzd
  have HDN : Hid (DL.length = 32) := by show _ = _; rw [hDL]; simp
  have HAL : Hid (AL = rdL (rec1 V)) := hAL
  have HFA : Hid _ := fill_rd AL HAN.out
  obtain ⟨i0, hi, hz0, hz1, hz2⟩ := info_parts infoRd
  have HI0 : Hid _ := hi
  have HIZ : Hid _ := hz0
  have HI2 : Hid _ := hz1
  clear hi hz0 hz1 hz2
  have HTL : Hid (TL = tree.map B8) := hTL
  have HAI : Hid _ := info172 AL HAN.out
  have HAJ : Hid ((Tryz.prog.info? 69).map (·.size) = some AL.toArray.size) := info172a _ (by simpa using HAN.out)
  have HZA : Hid (ZR.toArray.size = AL.toArray.size) := by have := HZR.out; have := HAN.out; simp_all
  have C3 := (((RC.start h hM).alloc 36 PL).alloc 33 TL).alloc 47 ZL
  obtain ⟨X3, hX3⟩ : ∃ X3, X3 = ((X.alloc (.cells PL.toArray 36 (0, 0))).alloc (.cells TL.toArray 33 (0, 0))).alloc (.cells ZL.toArray 47 (0, 0)) := ⟨_, rfl⟩
  rw [← hX3] at C3
  have hs1 : (X.alloc (.cells PL.toArray 36 (0, 0))).heap.size = X.heap.size + 1 := by simp
  have hs2 : ((X.alloc (.cells PL.toArray 36 (0, 0))).alloc (.cells TL.toArray 33 (0, 0))).heap.size = X.heap.size + 1 + 1 := by simp
  have hs3 : X3.heap.size = X.heap.size + 1 + 1 + 1 := by rw [hX3]; simp
  rw [hs1, hs2] at C3
  have HAT : Hid (Calls Tryz.prog 13 #[.pointer (some ⟨rb, 0, none⟩), .int .i64 rd] X3 fun e Y => e = .returned (.int .i64 (-1)) ∧ X3 = Y) := rat_no C3.rx (by omega) hno
  have HX3 : Hid _ := hX3
  have HS3 : Hid _ := hs3
  have HVP : Hid (X3.rangeAt X.heap.size 0 VL) := by
    have := PC.rangeAt_part (C3.at 2 rfl) 0 32
    rwa [HPV.out] at this
  have C4 := (C3.alloc 69 ZR).poke 0 rfl AL
  rw [hs3] at C4
  simp only [List.set_cons_zero] at C4
  obtain ⟨X4, hX4⟩ : ∃ X4, X4 = (X3.alloc (.cells ZR.toArray 69 (0, 0))).setRow (X.heap.size + 1 + 1 + 1) AL.toArray := ⟨_, rfl⟩
  rw [← hX4] at C4
  have HC4 : Hid _ := C4
  have HX4 : Hid _ := hX4
  have HRZ : Hid ((X3.alloc (.cells ZR.toArray 69 (0, 0))).heap[X.heap.size + 1 + 1 + 1]? = some (.cells ZR.toArray 69 (0, 0))) := by have := heap_alloc_new X3 (.cells ZR.toArray 69 (0, 0)); rwa [hs3] at this
  rw [hX3] at HAT HVP HRZ
  have HAR4 : Hid (X4.rangeAt (X.heap.size + 1 + 1 + 1) 0 AL) := C4.at 0 rfl
  obtain ⟨NX, hNX⟩ : ∃ NX, NX = R5.nx c.D R (cq1 V) := ⟨_, rfl⟩
  have HNX : Hid (NX = R5.nx c.D R (cq1 V)) := hNX
  rw [← hNX] at HR1L HAK
  have HM32 : Hid (NX.1.length = 32) := by show _ = _; rw [hNX]; exact hAl1
  have HMS : Hid (Calls Tryz.prog 18 #[.pointer (some ⟨rb, 0, none⟩), .agg DL.toArray, .agg AL.toArray] X4 fun e Y => e = .returned (.agg (NX.1.map B8).toArray) ∧ R5.RQ c.w c.n c.og c.mo c.rg c.m c.D L NX.2 (RJ I [(X.heap.size + 1 + 1 + 1, 69, AL), (X.heap.size + 1 + 1, 47, ZL), (X.heap.size + 1, 33, TL), (X.heap.size, 36, PL)]) X4 Y) := by
    show Calls _ _ _ _ _
    have := rms1 C4.mm C4.rx.cells.1 (.inl C4.rx.fI.1) (by omega) DL.toArray (rec1 V) (rec1_ok hV) rfl hAl1
    rw [← hAL] at this
    rw [hNX]
    exact this
  clear h hM hno hV ht hPL hTL hVL hAL hDL hZL hZR C3 C4 hs1 hs2 hs3 hX3 hX4
  go_enter Tryz.func17, Tryz.ntmps17
  go_wp2_with fail
  refine Calls.mono HAT.out ?_
  rintro e w1 ⟨rfl, rfl⟩
  go_upto_region 6 with (first
    | (refine wpList_load_mid rfl 33 _ rfl X.heap.size 0 rfl VL _ HVP.out Tryz.underlying33 rfl HVI.out ?_)
    | (refine PC.wpList_build rfl 69 _ rfl _ (.agg AL.toArray) (by simp; exact ⟨rfl, rfl⟩) (HR1.out _) ?_)
    | (refine wpList_store_row rfl 69 _ _ rfl (X.heap.size + 1 + 1 + 1) AL.toArray rfl rfl 69 ZR.toArray HRZ.out HAJ.out HZA.out HA1.out ?_))
  rw [← HX3.out, ← HX4.out]
  clear HAT HVP HRZ HR1 HX3 HX4
  go_upto_region 7 with (first
    | (refine PC.wpList_build rfl 33 _ rfl #[] (.agg DL.toArray) (by simp) (HBD.out _) ?_)
    | (refine wpList_load_mid rfl 69 _ rfl (X.heap.size + 1 + 1 + 1) 0 rfl AL _ HAR4.out Tryz.underlying69 rfl HAI.out ?_))
  refine Calls.mono HMS.out ?_
  rintro e Y5 ⟨rfl, hq5⟩
  have C5 := HC4.out.ask hq5
  have hs5 : X.heap.size + 1 + 1 + 1 + 1 ≤ Y5.heap.size := by have := PC.row_lt (C5.row 0 rfl); omega
  have C6 := (C5.alloc 33 DL).poke 0 rfl (NX.1.map B8)
  simp only [List.set_cons_zero] at C6
  have HRD : Hid ((Y5.alloc (.cells DL.toArray 33 (0, 0))).heap[Y5.heap.size]? = some (.cells DL.toArray 33 (0, 0))) := heap_alloc_new _ _
  obtain ⟨ML, hML⟩ : ∃ ML, ML = NX.1.map B8 := ⟨_, rfl⟩
  have HML : Hid (ML = NX.1.map B8) := hML
  have HMN : Hid (ML.length = 32) := by show _ = _; rw [hML]; simpa using HM32.out
  have HM1 : Hid (ML.toArray.all (·.oneCell') = true) := by show _ = _; rw [hML]; exact R5.B8_onea _
  have HDS : Hid (DL.toArray.size = ML.toArray.size) := by have := HMN.out; have := HDN.out; simp_all
  have HMI : Hid _ := R5.info32 ML HMN.out
  have HMJ : Hid ((Tryz.prog.info? 33).map (·.size) = some ML.toArray.size) := R5.info32a _ (by simpa using HMN.out)
  rw [← hML] at C6 ⊢
  obtain ⟨X6, hX6⟩ : ∃ X6, X6 = (Y5.alloc (.cells DL.toArray 33 (0, 0))).setRow Y5.heap.size ML.toArray := ⟨_, rfl⟩
  rw [← hX6] at C6
  have HX6 : Hid _ := hX6
  have HC6 : Hid _ := C6
  have HBR : Hid (∀ (bA : Nat) W, (Instr.build 47 #[(0, .int .u64 ((last + 1 : Nat) : Int)), (1, .int .i64 1), (2, .int .i64 root), (3, .int .u64 (nodes : Int)), (4, .agg ML.toArray), (5, .slice (some ⟨bA, 0, none⟩) 1 1), (8, .agg TL.toArray)]).run Tryz.prog W = .ok (.agg (rmL (rN (last + 1) root nodes tree NX.1 V) (.slice (some ⟨bA, 0, none⟩) 1 1)).toArray) W) := fun bA W => by
    rw [build_rm1 W _ _ root ML TL _ _ _ HMN.out (by rw [HTL.out]; simpa using HTN.out), HML.out, HTL.out]; rfl
  have hRok : (rN (last + 1) root nodes tree NX.1 V).ok := ⟨HM32.out, PC.z32_len, HTN.out, fun x hx => by rw [List.mem_singleton.1 hx]; exact rec1_ok HVN.out⟩
  have HNS : Hid (∀ bA : Nat, (rmL (rN (last + 1) root nodes tree NX.1 V) (.slice (some ⟨bA, 0, none⟩) 1 1)).toArray.size = 103) := fun bA => by simpa using rmL_len hRok _
  have HN1 : Hid (∀ bA : Nat, (rmL (rN (last + 1) root nodes tree NX.1 V) (.slice (some ⟨bA, 0, none⟩) 1 1)).toArray.all (·.oneCell') = true) := fun bA => PC.onea (rmL_one _ _ rfl)
  have HRO : Hid _ := hRok
  clear hML C5 C6 hq5 HMS HC4 hX6 hRok
  go_upto_region 7 with (refine wpList_store_row rfl 33 _ _ rfl Y5.heap.size ML.toArray rfl rfl 33 DL.toArray HRD.out HMJ.out HDS.out HM1.out ?_)
  rw [← HX6.out]
  clear HRD HX6
  generalize Y5.heap.size = b4 at *
  have C6 := HC6.out
  have hcl := C6.rx.cells.2.2
  have hfz := frozen_of_row _ _ 2 _ _ C6.rx.row
  have hwr : IntKind.u64.wrap ((last : Int) + 1) = ((last + 1 : Nat) : Int) := by rw [IntKind.wrap_u64]; omega
  have C7 : RC c rb L NX.2 I X (X6.setCell ⟨rb, 2, none⟩ (.int .u64 ((last : Int) + 1))) rl (last + 1) (.slice p0 rl.length cap0) (rw5 X.heap.size b4 PL TL ZL AL ML) := C6.num (last + 1)
  have HC7 : Hid _ := C7
  clear C6 C7 HC6
  go_upto_region 8 with fail
  have C8 := HC7.out.step (Below.refl _ _).drew
  have HC8 : Hid _ := C8
  clear C8 HC7 hcl hfz hwr
  go_cut [14] from 41 to 52 (fun p W => ∃ bA bR : Nat, p = .pointer (some ⟨bR, 0, none⟩) ∧ RC c rb L NX.2 I X W rl (last + 1) (.slice p0 rl.length cap0) ((bR, 47, rmL (rN (last + 1) root nodes tree NX.1 V) (.slice (some ⟨bA, 0, none⟩) 1 1)) :: (bA, 69, AL) :: rw5 X.heap.size b4 PL TL ZL AL ML))
  case first =>
    refine wp_region_held_drew (S := fun W => RC c rb L NX.2 I X W rl (last + 1) (.slice p0 rl.length cap0) (rw5 X.heap.size b4 PL TL ZL AL ML)) (by kernel_rfl) HC8.out (fun hHeld => ?_)
    generalize World.drew _ = U at *
    have hN := hHeld
    refine qzI 0 ⟨some 41, .move (.tmp 0), 27, _, #[], none⟩ (.pointer (some ⟨rb, 0, none⟩)) rfl (by kernel_rfl) (fun _ _ _ h => h) (by rfl) (fun w' hw' => ?_) hHeld ?_
    · go_simp <;> rfl
    try simp only [Act.put, qT, q0, qS]
    refine qzI 1 ⟨some 42, .nilCheck (.tmp 41), 0, _, #[⟨0, .data⟩], none⟩ (.pointer (some ⟨rb, 0, none⟩)) rfl (by kernel_rfl) (fun _ _ _ h => h) (by rfl) (fun w' hw' => ?_) hHeld ?_
    · go_simp <;> rfl
    try simp only [Act.put, qT, q0, qS]
    refine qzI 2 ⟨some 43, .fieldAddr 58 (.tmp 42) 2, 0, _, #[⟨1, .data⟩], none⟩ (.pointer (some ⟨rb, 2, none⟩)) rfl (by kernel_rfl) (fun _ _ _ h => h) (by rfl) (fun w' hw' => ?_) hHeld ?_
    · go_simp <;> rfl
    try simp only [Act.put, qT, q0, qS]
    refine qzI 3 ⟨some 44, .load 34 (.tmp 43), 34, _, #[⟨2, .data⟩], none⟩ (.int .u64 ((last + 1 : Nat) : Int)) rfl (by kernel_rfl) (fun _ _ _ h => h) (by rfl) (fun w' hw' => ?_) hHeld ?_
    · have hcc := hw'.rx.cells.2.2; go_simp <;> rfl
    try simp only [Act.put, qT, q0, qS]
    refine qzI 4 ⟨some 45, .move (.tmp 2), 3, _, #[], none⟩ (.int .i64 root) rfl (by kernel_rfl) (fun _ _ _ h => h) (by rfl) (fun w' hw' => ?_) hHeld ?_
    · go_simp <;> rfl
    try simp only [Act.put, qT, q0, qS]
    refine qzI 5 ⟨some 46, .fieldAddr 36 (.tmp 8) 1, 0, _, #[], none⟩ (.pointer (some ⟨X.heap.size, 32, none⟩)) rfl (by kernel_rfl) (fun _ _ _ h => h) (by rfl) (fun w' hw' => ?_) hHeld ?_
    · go_simp <;> rfl
    try simp only [Act.put, qT, q0, qS]
    refine qzI 6 ⟨some 47, .load 34 (.tmp 46), 34, _, #[⟨5, .data⟩], none⟩ (.int .u64 (nodes : Int)) rfl (by kernel_rfl) (fun _ _ _ h => h) (by rfl) (fun w' hw' => ?_) hHeld ?_
    · have hcc := hw'.cell 4 rfl HPN.out; go_simp <;> rfl
    try simp only [Act.put, qT, q0, qS]
    refine qzK 7 ⟨some 48, .load 33 (.tmp 13), 33, _, #[], none⟩ _ rfl (by kernel_rfl) (fun _ _ _ h => h) (yieldsIf_load_mid (by rfl) 33 (.tmp 13) rfl (b4) (0) rfl (ML) _ (fun _ h => (h.at 0 rfl)) Tryz.underlying33 rfl HMI.out) hHeld ?_
    try simp only [Act.put, qT, q0, qS]
    refine qzK 8 ⟨some 49, .load 69 (.tmp 12), 69, _, #[], none⟩ _ rfl (by kernel_rfl) (fun _ _ _ h => h) (yieldsIf_load_mid (by rfl) 69 (.tmp 12) rfl (X.heap.size + 1 + 1 + 1) (0) rfl (AL) _ (fun _ h => (h.at 1 rfl)) Tryz.underlying69 rfl HAI.out) hHeld ?_
    try simp only [Act.put, qT, q0, qS]
    refine qzK 10 ⟨some 51, .load 33 (.tmp 9), 33, _, #[], none⟩ _ rfl (by kernel_rfl) (fun _ _ _ h => h) (yieldsIf_load_mid (by rfl) 33 (.tmp 9) rfl (X.heap.size + 1) (0) rfl (TL) _ (fun _ h => (h.at 3 rfl)) Tryz.underlying33 rfl HTI.out) hHeld ?_
    try simp only [Act.put, qT, q0, qS]
    refine wpAnyH_ready (rs := [9, 12]) (by kernel_rfl) (by simp) ?_
    refine AllReadyH.cons (o := ⟨some 50, .buildSlice 45 1 #[(0, .tmp 49)], 45, _, #[⟨8, .data⟩], none⟩) rfl (fun K hK => ?_) (AllReadyH.cons (o := ⟨some 14, .alloc 47, 0, _, #[], none⟩) rfl (fun K hK => ?_) AllReadyH.nil)
    all_goals rw [if_pos (by rfl)]
    · skip
      refine wp_buildSlice 45 69 1 _ rfl AL.toArray i0 (.agg zRd) Tryz.underlying45 HI0.out HIZ.out (by rw [HI2.out]; decide) (by rw [HI2.out]; decide) (by rw [HI2.out]; refine (congrArg (Instr.fill _ _) ?_).trans HFA.out; simp; rfl) ?_
      have hN0 := hN.alloc 69 AL
      clear hN hHeld
      have hN := hN0
      clear hN0
      generalize (U).alloc (.cells AL.toArray 69 (0, 0)) = U1 at *
      generalize (U).heap.size = bA at *
      have hHeld := hN.drop
      refine hK.out _ _ hHeld (fun _ => ?_)
      clear hK K
      try simp only [Act.put, qT, q0, qS]
      refine qzI 11 ⟨some 52, .build 47 #[(0, .tmp 44), (1, .const (Go.Value.int Go.IntKind.i64 1)), (2, .tmp 45), (3, .tmp 47), (4, .tmp 48), (5, .tmp 50), (8, .tmp 51)], 47, _, #[⟨3, .data⟩, ⟨4, .data⟩, ⟨6, .data⟩, ⟨7, .data⟩, ⟨9, .data⟩, ⟨10, .data⟩], none⟩ (.agg (rmL (rN (last + 1) root nodes tree NX.1 V) (.slice (some ⟨bA, 0, none⟩) 1 1)).toArray) rfl (by kernel_rfl) (fun _ _ _ h => h) (by rfl) (fun w' hw' => ?_) hHeld ?_
      · exact PC.exec_build _ _ 47 _ _ _ w' rfl (by simp; first | done | rfl | exact ⟨rfl, rfl, rfl, rfl, rfl, rfl, rfl⟩) (HBR.out bA w')
      try simp only [Act.put, qT, q0, qS]
      refine qzR 12 ⟨some 14, .alloc 47, 0, _, #[], none⟩ (by kernel_rfl) rfl (by rfl) (fun K hK => ?_)
      go_wp2_with fail
      have hN0 := hN.alloc 47 ZL
      clear hN hHeld
      have hN := hN0
      clear hN0
      generalize (U1).alloc (.cells ZL.toArray 47 (0, 0)) = U2 at *
      generalize (U1).heap.size = bR at *
      have hHeld := hN.drop.drop
      refine hK.out _ _ hHeld (fun _ => ?_)
      clear hK K
      try simp only [Act.put, qT, q0, qS]
      refine qzR 13 ⟨none, .store 47 (.tmp 14) (.tmp 52), 0, _, #[⟨12, .data⟩, ⟨11, .data⟩, ⟨0, .phase⟩, ⟨1, .phase⟩, ⟨2, .phase⟩, ⟨3, .phase⟩, ⟨4, .phase⟩, ⟨5, .phase⟩, ⟨6, .phase⟩, ⟨7, .phase⟩, ⟨8, .phase⟩, ⟨9, .phase⟩, ⟨10, .phase⟩, ⟨11, .phase⟩, ⟨12, .phase⟩], none⟩ (by kernel_rfl) rfl (by rfl) (fun K hK => ?_)
      refine wp_store_row 47 _ _ rfl bR (rmL (rN (last + 1) root nodes tree NX.1 V) (.slice (some ⟨bA, 0, none⟩) 1 1)).toArray rfl rfl 47 ZL.toArray (hN.row 0 rfl) (info103a _ (HNS.out bA)) (HZS.out.trans (HNS.out bA).symm) (HN1.out bA) ?_
      have hN2 := hN.poke 0 rfl (rmL (rN (last + 1) root nodes tree NX.1 V) (.slice (some ⟨bA, 0, none⟩) 1 1))
      have hH2 := hN2.drop.drop
      refine hK.out _ _ hH2 (fun _ => ?_)
      clear hK K
      try simp only [Act.put, qT, q0, qS]
      refine wpAnyH_done (by kernel_rfl) ?_ _
      go_wp2_with fail
      go_meet
      case rel => exact ⟨_, _, rfl, hN2⟩
    · skip
      go_wp2_with fail
      have hN0 := hN.alloc 47 ZL
      clear hN hHeld
      have hN := hN0
      clear hN0
      generalize (U).alloc (.cells ZL.toArray 47 (0, 0)) = U3 at *
      generalize (U).heap.size = bR at *
      have hHeld := hN.drop
      refine hK.out _ _ hHeld (fun _ => ?_)
      clear hK K
      try simp only [Act.put, qT, q0, qS]
      refine qzR 9 ⟨some 50, .buildSlice 45 1 #[(0, .tmp 49)], 45, _, #[⟨8, .data⟩], none⟩ (by kernel_rfl) rfl (by rfl) (fun K hK => ?_)
      refine wp_buildSlice 45 69 1 _ rfl AL.toArray i0 (.agg zRd) Tryz.underlying45 HI0.out HIZ.out (by rw [HI2.out]; decide) (by rw [HI2.out]; decide) (by rw [HI2.out]; refine (congrArg (Instr.fill _ _) ?_).trans HFA.out; simp; rfl) ?_
      have hN0 := hN.alloc 69 AL
      clear hN hHeld
      have hN := hN0
      clear hN0
      generalize (U3).alloc (.cells AL.toArray 69 (0, 0)) = U4 at *
      generalize (U3).heap.size = bA at *
      have hHeld := hN.drop.drop
      refine hK.out _ _ hHeld (fun _ => ?_)
      clear hK K
      try simp only [Act.put, qT, q0, qS]
      have hN := hN.swap
      refine qzI 11 ⟨some 52, .build 47 #[(0, .tmp 44), (1, .const (Go.Value.int Go.IntKind.i64 1)), (2, .tmp 45), (3, .tmp 47), (4, .tmp 48), (5, .tmp 50), (8, .tmp 51)], 47, _, #[⟨3, .data⟩, ⟨4, .data⟩, ⟨6, .data⟩, ⟨7, .data⟩, ⟨9, .data⟩, ⟨10, .data⟩], none⟩ (.agg (rmL (rN (last + 1) root nodes tree NX.1 V) (.slice (some ⟨bA, 0, none⟩) 1 1)).toArray) rfl (by kernel_rfl) (fun _ _ _ h => h) (by rfl) (fun w' hw' => ?_) hHeld ?_
      · exact PC.exec_build _ _ 47 _ _ _ w' rfl (by simp; first | done | rfl | exact ⟨rfl, rfl, rfl, rfl, rfl, rfl, rfl⟩) (HBR.out bA w')
      try simp only [Act.put, qT, q0, qS]
      refine qzR 13 ⟨none, .store 47 (.tmp 14) (.tmp 52), 0, _, #[⟨12, .data⟩, ⟨11, .data⟩, ⟨0, .phase⟩, ⟨1, .phase⟩, ⟨2, .phase⟩, ⟨3, .phase⟩, ⟨4, .phase⟩, ⟨5, .phase⟩, ⟨6, .phase⟩, ⟨7, .phase⟩, ⟨8, .phase⟩, ⟨9, .phase⟩, ⟨10, .phase⟩, ⟨11, .phase⟩, ⟨12, .phase⟩], none⟩ (by kernel_rfl) rfl (by rfl) (fun K hK => ?_)
      refine wp_store_row 47 _ _ rfl bR (rmL (rN (last + 1) root nodes tree NX.1 V) (.slice (some ⟨bA, 0, none⟩) 1 1)).toArray rfl rfl 47 ZL.toArray (hN.row 0 rfl) (info103a _ (HNS.out bA)) (HZS.out.trans (HNS.out bA).symm) (HN1.out bA) ?_
      have hN2 := hN.poke 0 rfl (rmL (rN (last + 1) root nodes tree NX.1 V) (.slice (some ⟨bA, 0, none⟩) 1 1))
      have hH2 := hN2.drop.drop
      refine hK.out _ _ hH2 (fun _ => ?_)
      clear hK K
      try simp only [Act.put, qT, q0, qS]
      refine wpAnyH_done (by kernel_rfl) ?_ _
      go_wp2_with fail
      go_meet
      case rel => exact ⟨_, _, rfl, hN2⟩
  case rest =>
    obtain ⟨bA, bR, rfl, hC⟩ := hcut
    generalize wc = W8 at *
    have HC9 : Hid _ := hC.step (Below.refl _ _).drew
    clear hC HC8 HBR HN1 HNS HFA HIZ HI2 HI0 i0
    go_upto_region 9 with fail
    refine wp_region_held_drew (S := fun W => ∃ R' V', RC c rb L R' I X W rl (last + 1) (.slice p0 rl.length cap0) ((bR, 47, V') :: (bA, 69, AL) :: rw5 X.heap.size b4 PL TL ZL AL ML)) (by kernel_rfl) ⟨_, _, HC9.out⟩ (fun hHeld => ?_)
    have hN := HC9.out
    clear HC9
    generalize World.drew _ = U at *
    refine qzI 0 ⟨some 53, .move (.tmp 0), 27, _, #[], none⟩ (.pointer (some ⟨rb, 0, none⟩)) rfl (by kernel_rfl) (fun _ _ _ h => h) (by rfl) (fun w' hw' => ?_) hHeld ?_
    · go_simp <;> rfl
    try simp only [Act.put, qT, q0, qS]
    refine qzI 1 ⟨some 54, .nilCheck (.tmp 53), 0, _, #[⟨0, .data⟩], none⟩ (.pointer (some ⟨rb, 0, none⟩)) rfl (by kernel_rfl) (fun _ _ _ h => h) (by rfl) (fun w' hw' => ?_) hHeld ?_
    · go_simp <;> rfl
    try simp only [Act.put, qT, q0, qS]
    refine qzI 2 ⟨some 55, .fieldAddr 58 (.tmp 54) 0, 0, _, #[⟨1, .data⟩], none⟩ (.pointer (some ⟨rb, 0, none⟩)) rfl (by kernel_rfl) (fun _ _ _ h => h) (by rfl) (fun w' hw' => ?_) hHeld ?_
    · go_simp <;> rfl
    try simp only [Act.put, qT, q0, qS]
    refine qzI 3 ⟨some 56, .load 55 (.tmp 55), 55, _, #[⟨2, .data⟩], none⟩ (.pointer (some ⟨c.rg, 0, none⟩)) rfl (by kernel_rfl) (fun _ _ _ h => h) (by rfl) (fun w' hw' => ?_) hHeld ?_
    · have hcc := hw'.choose_spec.choose_spec.rx.cells.1; go_simp <;> rfl
    try simp only [Act.put, qT, q0, qS]
    refine qzI 4 ⟨some 57, .move (.tmp 0), 27, _, #[], none⟩ (.pointer (some ⟨rb, 0, none⟩)) rfl (by kernel_rfl) (fun _ _ _ h => h) (by rfl) (fun w' hw' => ?_) hHeld ?_
    · go_simp <;> rfl
    try simp only [Act.put, qT, q0, qS]
    refine qzI 5 ⟨some 58, .nilCheck (.tmp 57), 0, _, #[⟨4, .data⟩], none⟩ (.pointer (some ⟨rb, 0, none⟩)) rfl (by kernel_rfl) (fun _ _ _ h => h) (by rfl) (fun w' hw' => ?_) hHeld ?_
    · go_simp <;> rfl
    try simp only [Act.put, qT, q0, qS]
    refine qzI 6 ⟨some 59, .fieldAddr 58 (.tmp 58) 2, 0, _, #[⟨5, .data⟩], none⟩ (.pointer (some ⟨rb, 2, none⟩)) rfl (by kernel_rfl) (fun _ _ _ h => h) (by rfl) (fun w' hw' => ?_) hHeld ?_
    · go_simp <;> rfl
    try simp only [Act.put, qT, q0, qS]
    refine qzI 7 ⟨some 60, .load 34 (.tmp 59), 34, _, #[⟨6, .data⟩], none⟩ (.int .u64 ((last + 1 : Nat) : Int)) rfl (by kernel_rfl) (fun _ _ _ h => h) (by rfl) (fun w' hw' => ?_) hHeld ?_
    · have hcc := hw'.choose_spec.choose_spec.rx.cells.2.2; go_simp <;> rfl
    try simp only [Act.put, qT, q0, qS]
    refine qzR 8 ⟨some 61, .call ⟨.value (.func 51), #[.tmp 60], #[34]⟩, 106, _, #[⟨7, .data⟩], none⟩ (by kernel_rfl) rfl (by rfl) (fun K hK => ?_)
    go_wp2_with fail
    refine Calls.mono (R5.le_any (last + 1) U (by omega)) ?_
    rintro e V1 ⟨v, rfl, hfb, hb1⟩
    have hN1 := hN.step hb1
    have hKEY := hN.rkey hb1 HR1L.out hfb HAK.out
    clear hN hHeld
    have hHeld : ∃ R' V', RC c rb L R' I X V1 rl (last + 1) (.slice p0 rl.length cap0) ((bR, 47, V') :: (bA, 69, AL) :: rw5 X.heap.size b4 PL TL ZL AL ML) := ⟨_, _, hN1⟩
    refine hK.out _ _ hHeld (fun _ => ?_)
    clear hK K
    try simp only [Act.put, qT, q0, qS]
    refine qzR 9 ⟨some 62, .call ⟨.value (.func 50), #[.tmp 56, .const (Go.Value.int Go.IntKind.i64 8), .tmp 61], #[55, 105, 106]⟩, 33, _, #[⟨3, .data⟩, ⟨8, .data⟩, ⟨8, .chain⟩], none⟩ (by kernel_rfl) rfl (by rfl) (fun K hK => ?_)
    go_wp2_with fail
    refine Calls.mono hKEY ?_
    rintro e V2 ⟨rfl, hC2⟩
    obtain ⟨NK, hNK⟩ : ∃ NK, NK = R5.nx c.D NX.2 (cq2 c.m (last + 1)) := ⟨_, rfl⟩
    have HNK : Hid (NK = R5.nx c.D NX.2 (cq2 c.m (last + 1))) := hNK
    have HK32 : Hid (NK.1.length = 32) := by show _ = _; rw [hNK]; exact HAK.out
    rw [← hNK] at hC2 ⊢
    clear hN1 hHeld hKEY hNK hfb hb1
    have hN := hC2
    clear hC2
    have HKI : Hid ((Tryz.prog.info? 33).map (·.size) = some (NK.1.map B8).toArray.size) := R5.info32a _ (by simpa using HK32.out)
    have hHeld : ∃ R' V', RC c rb L R' I X V2 rl (last + 1) (.slice p0 rl.length cap0) ((bR, 47, V') :: (bA, 69, AL) :: rw5 X.heap.size b4 PL TL ZL AL ML) := ⟨_, _, hN⟩
    refine hK.out _ _ hHeld (fun _ => ?_)
    clear hK K
    try simp only [Act.put, qT, q0, qS]
    refine qzI 10 ⟨some 63, .fieldAddr 47 (.tmp 14) 6, 0, _, #[⟨0, .phase⟩, ⟨1, .phase⟩, ⟨2, .phase⟩, ⟨3, .phase⟩, ⟨4, .phase⟩, ⟨5, .phase⟩, ⟨6, .phase⟩, ⟨7, .phase⟩, ⟨8, .phase⟩, ⟨9, .phase⟩], none⟩ (.pointer (some ⟨bR, 37, none⟩)) rfl (by kernel_rfl) (fun _ _ _ h => h) (by rfl) (fun w' hw' => ?_) hHeld ?_
    · go_simp <;> rfl
    try simp only [Act.put, qT, q0, qS]
    refine qzR 11 ⟨none, .store 33 (.tmp 63) (.tmp 62), 0, _, #[⟨10, .data⟩, ⟨9, .data⟩, ⟨9, .chain⟩, ⟨0, .phase⟩, ⟨1, .phase⟩, ⟨2, .phase⟩, ⟨3, .phase⟩, ⟨4, .phase⟩, ⟨5, .phase⟩, ⟨6, .phase⟩, ⟨7, .phase⟩, ⟨8, .phase⟩, ⟨9, .phase⟩], none⟩ (by kernel_rfl) rfl (by rfl) (fun K hK => ?_)
    have hN2 := hN.poke 0 rfl (rmL { rN (last + 1) root nodes tree NX.1 V with key := NK.1 } (.slice (some ⟨bA, 0, none⟩) 1 1))
    simp only [List.set_cons_zero] at hN2
    have hspl : (splice (rmL (rN (last + 1) root nodes tree NX.1 V) (.slice (some ⟨bA, 0, none⟩) 1 1)) 37 (NK.1.map B8).toArray.toList).toArray = (rmL { rN (last + 1) root nodes tree NX.1 V with key := NK.1 } (.slice (some ⟨bA, 0, none⟩) 1 1)).toArray := by simp [rmL_splK HRO.out _ NK.1 HK32.out]
    refine wp_store_seg 33 _ _ rfl bR 37 (NK.1.map B8).toArray (rmL (rN (last + 1) root nodes tree NX.1 V) (.slice (some ⟨bA, 0, none⟩) 1 1)) 47 rfl rfl (hN.row 0 rfl) HKI.out (by rw [rmL_len HRO.out]; simp [HK32.out]) (R5.B8_onea NK.1) ?_
    rw [hspl]
    have hHeld2 : ∃ R' V', RC c rb L R' I X (V2.setRow bR (rmL { rN (last + 1) root nodes tree NX.1 V with key := NK.1 } (.slice (some ⟨bA, 0, none⟩) 1 1)).toArray) rl (last + 1) (.slice p0 rl.length cap0) ((bR, 47, V') :: (bA, 69, AL) :: rw5 X.heap.size b4 PL TL ZL AL ML) := ⟨_, _, hN2⟩
    refine hK.out _ _ hHeld2 (fun _ => ?_)
    clear hK K
    try simp only [Act.put, qT, q0, qS]
    refine wpAnyH_done (by kernel_rfl) ?_ _
    have hrw : ({ rN (last + 1) root nodes tree NX.1 V with key := NK.1 } : Rm) = newR c R (last + 1) root V nodes tree := by
      have e1 := HNK.out
      rw [HNX.out] at e1
      show _ = _
      unfold newR
      rw [← HNX.out, HNK.out]
      rfl
    have hLw : NK.2 = newL c R (last + 1) V := by
      unfold newL
      rw [← HNX.out, ← HNK.out]
    rw [hrw, hLw] at hN2
    rw [hrw]
    obtain ⟨W9, hW9⟩ : ∃ W9, W9 = V2.setRow bR (rmL (newR c R (last + 1) root V nodes tree) (.slice (some ⟨bA, 0, none⟩) 1 1)).toArray := ⟨_, rfl⟩
    rw [← hW9] at hN2 ⊢
    clear hW9 hHeld hHeld2 hspl hN hrw hLw
    have HC10 : Hid _ := hN2
    clear hN2
    go_upto_region 10 with fail
    have C11 := HC10.out.step (Below.refl _ _).drew
    have HRN2 : Hid ((rmL (newR c R (last + 1) root V nodes tree) (.slice (some ⟨bA, 0, none⟩) 1 1)).length = 103) := rmL_len HNOK.out _
    have HR11 : Hid ((rmL (newR c R (last + 1) root V nodes tree) (.slice (some ⟨bA, 0, none⟩) 1 1)).toArray.all (·.oneCell') = true) := PC.onea (rmL_one _ _ rfl)
    obtain ⟨RL, hRL⟩ : ∃ RL, RL = rmL (newR c R (last + 1) root V nodes tree) (.slice (some ⟨bA, 0, none⟩) 1 1) := ⟨_, rfl⟩
    rw [← hRL] at C11 HRN2 HR11
    have HRL : Hid _ := hRL
    have HBI : Hid _ := fun W => build_it W rd RL HRN2.out
    obtain ⟨IL, hIL⟩ : ∃ IL, IL = .int .i64 rd :: RL := ⟨_, rfl⟩
    rw [← hIL] at HBI
    have HIL : Hid (IL = .int .i64 rd :: RL) := hIL
    have HILN : Hid (IL.length = 1 * 104) := by show _ = _; rw [hIL, List.length_cons, HRN2.out]
    have HIL1 : Hid (∀ u ∈ IL, u.oneCell' = true) := fun u hu => by
      rw [hIL] at hu
      rcases List.mem_cons.1 hu with rfl | hu
      · rfl
      · rw [hRL] at hu; exact rmL_one _ _ rfl u hu
    have HRI : Hid _ := info103 RL HRN2.out
    have HFI : Hid _ := fill_it IL (by have := HILN.out; omega)
    obtain ⟨i0, hi, hz0, hz1, hz2⟩ := info_parts infoIt2
    have HI0 : Hid _ := hi
    have HIZ : Hid _ := hz0
    have HI2 : Hid _ := hz1
    have HI3 : Hid _ := hz2
    have hN := C11
    clear C11 HC10 hi hz0 hz1 hz2 hRL hIL
    refine wp_region_held_drew (S := fun W => W.rangeAt bR 0 RL) (by kernel_rfl) (hN.at 0 rfl) (fun hHeld => ?_)
    generalize World.drew _ = U at *
    refine qzI 0 ⟨some 64, .move (.tmp 0), 27, _, #[], none⟩ (.pointer (some ⟨rb, 0, none⟩)) rfl (by kernel_rfl) (fun _ _ _ h => h) (by rfl) (fun w' hw' => ?_) hHeld ?_
    · go_simp <;> rfl
    try simp only [Act.put, qT, q0, qS]
    refine qzI 1 ⟨some 65, .move (.tmp 0), 27, _, #[], none⟩ (.pointer (some ⟨rb, 0, none⟩)) rfl (by kernel_rfl) (fun _ _ _ h => h) (by rfl) (fun w' hw' => ?_) hHeld ?_
    · go_simp <;> rfl
    try simp only [Act.put, qT, q0, qS]
    refine qzI 2 ⟨some 66, .nilCheck (.tmp 65), 0, _, #[⟨1, .data⟩], none⟩ (.pointer (some ⟨rb, 0, none⟩)) rfl (by kernel_rfl) (fun _ _ _ h => h) (by rfl) (fun w' hw' => ?_) hHeld ?_
    · go_simp <;> rfl
    try simp only [Act.put, qT, q0, qS]
    refine qzI 3 ⟨some 67, .fieldAddr 58 (.tmp 66) 1, 0, _, #[⟨2, .data⟩], none⟩ (.pointer (some ⟨rb, 1, none⟩)) rfl (by kernel_rfl) (fun _ _ _ h => h) (by rfl) (fun w' hw' => ?_) hHeld ?_
    · go_simp <;> rfl
    try simp only [Act.put, qT, q0, qS]
    refine qzI 5 ⟨some 69, .move (.tmp 1), 3, _, #[], none⟩ (.int .i64 rd) rfl (by kernel_rfl) (fun _ _ _ h => h) (by rfl) (fun w' hw' => ?_) hHeld ?_
    · go_simp <;> rfl
    try simp only [Act.put, qT, q0, qS]
    refine qzK 6 ⟨some 70, .load 47 (.tmp 14), 47, _, #[], none⟩ _ rfl (by kernel_rfl) (fun _ _ _ h => h) (yieldsIf_load_mid (by rfl) 47 (.tmp 14) rfl (bR) (0) rfl (RL) _ (fun _ h => h) Tryz.underlying47 rfl HRI.out) hHeld ?_
    try simp only [Act.put, qT, q0, qS]
    refine qzI 7 ⟨some 71, .build 54 #[(0, .tmp 69), (1, .tmp 70)], 54, _, #[⟨5, .data⟩, ⟨6, .data⟩], none⟩ (.agg IL.toArray) rfl (by kernel_rfl) (fun _ _ _ h => h) (by rfl) (fun w' hw' => ?_) hHeld ?_
    · exact PC.exec_build _ _ 54 _ _ _ w' rfl (by simp; first | done | rfl | exact ⟨rfl, rfl⟩) (HBI.out w')
    try simp only [Act.put, qT, q0, qS]
    refine wpAnyH_ready (rs := [4, 8]) (by kernel_rfl) (by simp) ?_
    refine AllReadyH.cons (o := ⟨some 68, .load 56 (.tmp 67), 56, _, #[⟨3, .data⟩], none⟩) rfl (fun K hK => ?_) (AllReadyH.cons (o := ⟨some 72, .buildSlice 56 1 #[(0, .tmp 71)], 56, _, #[⟨7, .data⟩], none⟩) rfl (fun K hK => ?_) AllReadyH.nil)
    all_goals rw [if_pos (by rfl)]
    · skip
      have hc4 := hN.rx.cells.2.1
      go_wp2_with fail
      refine hK.out _ _ hHeld (fun _ => ?_)
      clear hK K
      try simp only [Act.put, qT, q0, qS]
      clear hc4
      refine qzR 8 ⟨some 72, .buildSlice 56 1 #[(0, .tmp 71)], 56, _, #[⟨7, .data⟩], none⟩ (by kernel_rfl) rfl (by rfl) (fun K hK => ?_)
      refine wp_buildSlice 56 54 1 _ rfl IL.toArray i0 (.agg zIt) Tryz.underlying56 HI0.out HIZ.out (by rw [HI2.out]; decide) (by rw [HI2.out]; decide) (by rw [HI2.out]; refine (congrArg (Instr.fill _ _) ?_).trans HFI.out; simp; rfl) ?_
      have hN0 := hN.alloc 54 IL
      clear hN hHeld
      have hN := hN0
      clear hN0
      generalize (U).alloc (.cells IL.toArray 54 (0, 0)) = U1 at *
      generalize (U).heap.size = bI at *
      have hHeld := hN.at 1 rfl
      refine hK.out _ _ hHeld (fun _ => ?_)
      clear hK K
      try simp only [Act.put, qT, q0, qS]
      refine qzR 9 ⟨some 73, .call ⟨.builtin Go.Builtin.append, #[.tmp 68, .tmp 72], #[56, 56]⟩, 56, _, #[⟨4, .data⟩, ⟨8, .data⟩], none⟩ (by kernel_rfl) rfl (by rfl) (fun K hK => ?_)
      refine wp_app_keep _ (.tmp 68) (.tmp 72) 56 rfl 0 54 i0 (.agg zIt) 104 176 Tryz.underlying56 HI0.out HIZ.out HI2.out HI3.out (by decide) (by decide) (.slice p0 rl.length cap0) rl.length (itC rl) rfl hN.rx.own ⟨bI, 0, none⟩ 1 1 IL rfl HILN.out (fun j u hu => by rw [Addr.add_mid]; exact hN.at 0 rfl j u hu) HIL1.out (by decide) HM3.out HM4.out (Nat.zero_le _) ?_
      intro g cap W hown hg hg2 hlt
      have hbR := hN.row 1 rfl
      have hHeld2 : W.rangeAt bR 0 RL := PC.rangeAt_row ((hg.block bR (PC.row_lt hbR) (fun e => by have := hN.lo.1 bR (hN.rx.aI bR e.symm).1; have := (hN.rw _ (List.mem_of_getElem? (i := 1) rfl)).2; omega)).trans hbR)
      have hrbW : W.heap[rb]? = some (.cells #[.pointer (some ⟨c.rg, 0, none⟩), .slice p0 rl.length cap0, PC.U8 (last + 1)] 58 (0, 0)) := (hg.block rb (PC.row_lt hN.rx.row) (fun e => (hN.rx.aI rb e.symm).2.2 rfl)).trans hN.rx.row
      refine hK.out _ _ hHeld2 (fun _ => ?_)
      clear hK K
      try simp only [Act.put, qT, q0, qS]
      clear hHeld
      have hHeld := hHeld2
      clear hHeld2
      refine qzI 10 ⟨some 74, .nilCheck (.tmp 64), 0, _, #[⟨0, .data⟩, ⟨0, .phase⟩, ⟨1, .phase⟩, ⟨2, .phase⟩, ⟨3, .phase⟩, ⟨4, .phase⟩, ⟨5, .phase⟩, ⟨6, .phase⟩, ⟨7, .phase⟩, ⟨8, .phase⟩, ⟨9, .phase⟩], none⟩ (.pointer (some ⟨rb, 0, none⟩)) rfl (by kernel_rfl) (fun _ _ _ h => h) (by rfl) (fun w' hw' => ?_) hHeld ?_
      · go_simp <;> rfl
      try simp only [Act.put, qT, q0, qS]
      refine qzI 11 ⟨some 75, .fieldAddr 58 (.tmp 74) 1, 0, _, #[⟨10, .data⟩, ⟨0, .phase⟩, ⟨1, .phase⟩, ⟨2, .phase⟩, ⟨3, .phase⟩, ⟨4, .phase⟩, ⟨5, .phase⟩, ⟨6, .phase⟩, ⟨7, .phase⟩, ⟨8, .phase⟩, ⟨9, .phase⟩], none⟩ (.pointer (some ⟨rb, 1, none⟩)) rfl (by kernel_rfl) (fun _ _ _ h => h) (by rfl) (fun w' hw' => ?_) hHeld ?_
      · go_simp <;> rfl
      try simp only [Act.put, qT, q0, qS]
      refine qzR 12 ⟨none, .store 56 (.tmp 75) (.tmp 73), 0, _, #[⟨11, .data⟩, ⟨9, .data⟩, ⟨9, .chain⟩, ⟨0, .phase⟩, ⟨1, .phase⟩, ⟨2, .phase⟩, ⟨3, .phase⟩, ⟨4, .phase⟩, ⟨5, .phase⟩, ⟨6, .phase⟩, ⟨7, .phase⟩, ⟨8, .phase⟩, ⟨9, .phase⟩], none⟩ (by kernel_rfl) rfl (by rfl) (fun K hK => ?_)
      have hc9 : W.cell? ⟨rb, 1, none⟩ = some (.slice p0 rl.length cap0) := by rw [cell_of_row _ _ 1 _ _ _ hrbW]; rfl
      have hf9 : W.frozen? ⟨rb, 1, none⟩ = false := frozen_of_row _ _ 1 _ _ hrbW
      go_wp2_with fail
      have hHeld3 : (W.setCell ⟨rb, 1, none⟩ (.slice (some ⟨g, 0, none⟩) (rl.length + 1) cap)).rangeAt bR 0 RL := by
        have h0 : bR ≠ rb := by have := hN.lo.1 rb hN.rx.fI.1; have := (hN.rw _ (List.mem_of_getElem? (i := 1) rfl)).2; omega
        have h1 : W.heap[bR]? = some (.cells RL.toArray 47 (0, 0)) := (hg.block bR (PC.row_lt hbR) (fun e => by have := hN.lo.1 bR (hN.rx.aI bR e.symm).1; have := (hN.rw _ (List.mem_of_getElem? (i := 1) rfl)).2; omega)).trans hbR
        exact PC.rangeAt_row ((heap_setCell_other _ _ _ _ h0).trans h1)
      refine hK.out _ _ hHeld3 (fun _ => ?_)
      clear hK K
      try simp only [Act.put, qT, q0, qS]
      refine wpAnyH_done (by kernel_rfl) ?_ _
      have hlv : HR U1 (.slice (some ⟨bA, 0, none⟩) 1 1) (newR c R (last + 1) root V nodes tree).log := .inr ⟨bA, 1, rfl, fun j u hu => by
        have e1 : lgC (newR c R (last + 1) root V nodes tree).log = AL := by rw [HAL.out]; simp [newR, lgC]
        rw [e1] at hu
        have := hN.at 2 rfl j u hu
        rwa [Nat.zero_add] at this⟩
      have hIX : IL = itL (rd, newR c R (last + 1) root V nodes tree, .slice (some ⟨bA, 0, none⟩) 1 1) := by rw [HIL.out, HRL.out]; rfl
      have hsA : X.heap.size + 1 + 1 ≠ bA := fun e => by
        have h1 := hN.row 2 rfl
        have h2 := hN.row 5 rfl
        rw [e, h1] at h2
        simp at h2
      rw [hIX] at hown
      have hE := hN.app (Z := (W.setCell ⟨rb, 1, none⟩ (.slice (some ⟨g, 0, none⟩) (rl.length + 1) cap)).setRow (X.heap.size + 1 + 1) RL.toArray) (x := (rd, newR c R (last + 1) root V nodes tree, .slice (some ⟨bA, 0, none⟩) 1 1)) HNOK.out hlv (fun k e => by simpa [Value.ownBlock] using e.symm) ⟨_, List.mem_of_getElem? (i := 2) rfl, rfl⟩ ⟨_, List.mem_of_getElem? (i := 5) rfl, rfl⟩ hsA hown hg (hg2.imp id (·.1)) hlt RL.toArray rfl
      have HE : Hid _ := hE
      have HS2 : Hid ((W.setCell ⟨rb, 1, none⟩ (.slice (some ⟨g, 0, none⟩) (rl.length + 1) cap)).heap[X.heap.size + 1 + 1]? = some (.cells ZL.toArray 47 (0, 0))) := by
        have h5 := hN.rw _ (List.mem_of_getElem? (i := 5) rfl)
        have h5r := hN.row 5 rfl
        have h5X : X.heap.size ≤ X.heap.size + 1 + 1 := by omega
        exact (heap_setCell_other _ _ _ _ (by show X.heap.size + 1 + 1 ≠ rb; have := hN.lo.1 rb hN.rx.fI.1; omega)).trans ((hg.block _ (PC.row_lt h5r) (fun e => by have := hN.lo.1 _ (hN.rx.aI _ e.symm).1; omega)).trans h5r)
      have HH3 : Hid _ := hHeld3
      clear hE hlv hIX hsA hown hg hg2 hlt hHeld hHeld3 hrbW hbR hc9 hf9
      generalize W.setCell ⟨rb, 1, none⟩ (.slice (some ⟨g, 0, none⟩) (rl.length + 1) cap) = W2 at *
      go_wp2_with (first
        | (refine wpList_load_mid rfl 47 _ rfl bR 0 rfl RL _ HH3.out Tryz.underlying47 rfl HRI.out ?_)
        | (refine wpList_store_row rfl 47 _ _ rfl (X.heap.size + 1 + 1) RL.toArray rfl rfl 47 ZL.toArray HS2.out (info103a _ (by simpa using HRN2.out)) (HZS.out.trans (by simpa using HRN2.out.symm)) HR11.out ?_))
      refine bodyPost_ret (v := .tuple #[.agg RL.toArray, .int .i64 0]) ?_ rfl ⟨.slice (some ⟨bA, 0, none⟩) 1 1, .slice (some ⟨g, 0, none⟩) (rl.length + 1) cap, by rw [HRL.out], HE.out, HE.out.ex.choose_spec.1.logs (rd, newR c R (last + 1) root V nodes tree, .slice (some ⟨bA, 0, none⟩) 1 1) (by simp)⟩
      exact PC.results2 Tryz.results17 _ _ (X.heap.size + 1 + 1) 47 _ (0, 0) _ rfl rfl (setRow_heap _ _ _ _ _ _ HS2.out) Tryz.underlying47 rfl (info103 _ HRN2.out)
    · skip
      refine wp_buildSlice 56 54 1 _ rfl IL.toArray i0 (.agg zIt) Tryz.underlying56 HI0.out HIZ.out (by rw [HI2.out]; decide) (by rw [HI2.out]; decide) (by rw [HI2.out]; refine (congrArg (Instr.fill _ _) ?_).trans HFI.out; simp; rfl) ?_
      have hN0 := hN.alloc 54 IL
      clear hN hHeld
      have hN := hN0
      clear hN0
      generalize (U).alloc (.cells IL.toArray 54 (0, 0)) = U1 at *
      generalize (U).heap.size = bI at *
      have hHeld := hN.at 1 rfl
      refine hK.out _ _ hHeld (fun _ => ?_)
      clear hK K
      try simp only [Act.put, qT, q0, qS]
      refine qzR 4 ⟨some 68, .load 56 (.tmp 67), 56, _, #[⟨3, .data⟩], none⟩ (by kernel_rfl) rfl (by rfl) (fun K hK => ?_)
      have hc4 := hN.rx.cells.2.1
      go_wp2_with fail
      refine hK.out _ _ hHeld (fun _ => ?_)
      clear hK K
      try simp only [Act.put, qT, q0, qS]
      clear hc4
      refine qzR 9 ⟨some 73, .call ⟨.builtin Go.Builtin.append, #[.tmp 68, .tmp 72], #[56, 56]⟩, 56, _, #[⟨4, .data⟩, ⟨8, .data⟩], none⟩ (by kernel_rfl) rfl (by rfl) (fun K hK => ?_)
      refine wp_app_keep _ (.tmp 68) (.tmp 72) 56 rfl 0 54 i0 (.agg zIt) 104 176 Tryz.underlying56 HI0.out HIZ.out HI2.out HI3.out (by decide) (by decide) (.slice p0 rl.length cap0) rl.length (itC rl) rfl hN.rx.own ⟨bI, 0, none⟩ 1 1 IL rfl HILN.out (fun j u hu => by rw [Addr.add_mid]; exact hN.at 0 rfl j u hu) HIL1.out (by decide) HM3.out HM4.out (Nat.zero_le _) ?_
      intro g cap W hown hg hg2 hlt
      have hbR := hN.row 1 rfl
      have hHeld2 : W.rangeAt bR 0 RL := PC.rangeAt_row ((hg.block bR (PC.row_lt hbR) (fun e => by have := hN.lo.1 bR (hN.rx.aI bR e.symm).1; have := (hN.rw _ (List.mem_of_getElem? (i := 1) rfl)).2; omega)).trans hbR)
      have hrbW : W.heap[rb]? = some (.cells #[.pointer (some ⟨c.rg, 0, none⟩), .slice p0 rl.length cap0, PC.U8 (last + 1)] 58 (0, 0)) := (hg.block rb (PC.row_lt hN.rx.row) (fun e => (hN.rx.aI rb e.symm).2.2 rfl)).trans hN.rx.row
      refine hK.out _ _ hHeld2 (fun _ => ?_)
      clear hK K
      try simp only [Act.put, qT, q0, qS]
      clear hHeld
      have hHeld := hHeld2
      clear hHeld2
      refine qzI 10 ⟨some 74, .nilCheck (.tmp 64), 0, _, #[⟨0, .data⟩, ⟨0, .phase⟩, ⟨1, .phase⟩, ⟨2, .phase⟩, ⟨3, .phase⟩, ⟨4, .phase⟩, ⟨5, .phase⟩, ⟨6, .phase⟩, ⟨7, .phase⟩, ⟨8, .phase⟩, ⟨9, .phase⟩], none⟩ (.pointer (some ⟨rb, 0, none⟩)) rfl (by kernel_rfl) (fun _ _ _ h => h) (by rfl) (fun w' hw' => ?_) hHeld ?_
      · go_simp <;> rfl
      try simp only [Act.put, qT, q0, qS]
      refine qzI 11 ⟨some 75, .fieldAddr 58 (.tmp 74) 1, 0, _, #[⟨10, .data⟩, ⟨0, .phase⟩, ⟨1, .phase⟩, ⟨2, .phase⟩, ⟨3, .phase⟩, ⟨4, .phase⟩, ⟨5, .phase⟩, ⟨6, .phase⟩, ⟨7, .phase⟩, ⟨8, .phase⟩, ⟨9, .phase⟩], none⟩ (.pointer (some ⟨rb, 1, none⟩)) rfl (by kernel_rfl) (fun _ _ _ h => h) (by rfl) (fun w' hw' => ?_) hHeld ?_
      · go_simp <;> rfl
      try simp only [Act.put, qT, q0, qS]
      refine qzR 12 ⟨none, .store 56 (.tmp 75) (.tmp 73), 0, _, #[⟨11, .data⟩, ⟨9, .data⟩, ⟨9, .chain⟩, ⟨0, .phase⟩, ⟨1, .phase⟩, ⟨2, .phase⟩, ⟨3, .phase⟩, ⟨4, .phase⟩, ⟨5, .phase⟩, ⟨6, .phase⟩, ⟨7, .phase⟩, ⟨8, .phase⟩, ⟨9, .phase⟩], none⟩ (by kernel_rfl) rfl (by rfl) (fun K hK => ?_)
      have hc9 : W.cell? ⟨rb, 1, none⟩ = some (.slice p0 rl.length cap0) := by rw [cell_of_row _ _ 1 _ _ _ hrbW]; rfl
      have hf9 : W.frozen? ⟨rb, 1, none⟩ = false := frozen_of_row _ _ 1 _ _ hrbW
      go_wp2_with fail
      have hHeld3 : (W.setCell ⟨rb, 1, none⟩ (.slice (some ⟨g, 0, none⟩) (rl.length + 1) cap)).rangeAt bR 0 RL := by
        have h0 : bR ≠ rb := by have := hN.lo.1 rb hN.rx.fI.1; have := (hN.rw _ (List.mem_of_getElem? (i := 1) rfl)).2; omega
        have h1 : W.heap[bR]? = some (.cells RL.toArray 47 (0, 0)) := (hg.block bR (PC.row_lt hbR) (fun e => by have := hN.lo.1 bR (hN.rx.aI bR e.symm).1; have := (hN.rw _ (List.mem_of_getElem? (i := 1) rfl)).2; omega)).trans hbR
        exact PC.rangeAt_row ((heap_setCell_other _ _ _ _ h0).trans h1)
      refine hK.out _ _ hHeld3 (fun _ => ?_)
      clear hK K
      try simp only [Act.put, qT, q0, qS]
      refine wpAnyH_done (by kernel_rfl) ?_ _
      have hlv : HR U1 (.slice (some ⟨bA, 0, none⟩) 1 1) (newR c R (last + 1) root V nodes tree).log := .inr ⟨bA, 1, rfl, fun j u hu => by
        have e1 : lgC (newR c R (last + 1) root V nodes tree).log = AL := by rw [HAL.out]; simp [newR, lgC]
        rw [e1] at hu
        have := hN.at 2 rfl j u hu
        rwa [Nat.zero_add] at this⟩
      have hIX : IL = itL (rd, newR c R (last + 1) root V nodes tree, .slice (some ⟨bA, 0, none⟩) 1 1) := by rw [HIL.out, HRL.out]; rfl
      have hsA : X.heap.size + 1 + 1 ≠ bA := fun e => by
        have h1 := hN.row 2 rfl
        have h2 := hN.row 5 rfl
        rw [e, h1] at h2
        simp at h2
      rw [hIX] at hown
      have hE := hN.app (Z := (W.setCell ⟨rb, 1, none⟩ (.slice (some ⟨g, 0, none⟩) (rl.length + 1) cap)).setRow (X.heap.size + 1 + 1) RL.toArray) (x := (rd, newR c R (last + 1) root V nodes tree, .slice (some ⟨bA, 0, none⟩) 1 1)) HNOK.out hlv (fun k e => by simpa [Value.ownBlock] using e.symm) ⟨_, List.mem_of_getElem? (i := 2) rfl, rfl⟩ ⟨_, List.mem_of_getElem? (i := 5) rfl, rfl⟩ hsA hown hg (hg2.imp id (·.1)) hlt RL.toArray rfl
      have HE : Hid _ := hE
      have HS2 : Hid ((W.setCell ⟨rb, 1, none⟩ (.slice (some ⟨g, 0, none⟩) (rl.length + 1) cap)).heap[X.heap.size + 1 + 1]? = some (.cells ZL.toArray 47 (0, 0))) := by
        have h5 := hN.rw _ (List.mem_of_getElem? (i := 5) rfl)
        have h5r := hN.row 5 rfl
        have h5X : X.heap.size ≤ X.heap.size + 1 + 1 := by omega
        exact (heap_setCell_other _ _ _ _ (by show X.heap.size + 1 + 1 ≠ rb; have := hN.lo.1 rb hN.rx.fI.1; omega)).trans ((hg.block _ (PC.row_lt h5r) (fun e => by have := hN.lo.1 _ (hN.rx.aI _ e.symm).1; omega)).trans h5r)
      have HH3 : Hid _ := hHeld3
      clear hE hlv hIX hsA hown hg hg2 hlt hHeld hHeld3 hrbW hbR hc9 hf9
      generalize W.setCell ⟨rb, 1, none⟩ (.slice (some ⟨g, 0, none⟩) (rl.length + 1) cap) = W2 at *
      go_wp2_with (first
        | (refine wpList_load_mid rfl 47 _ rfl bR 0 rfl RL _ HH3.out Tryz.underlying47 rfl HRI.out ?_)
        | (refine wpList_store_row rfl 47 _ _ rfl (X.heap.size + 1 + 1) RL.toArray rfl rfl 47 ZL.toArray HS2.out (info103a _ (by simpa using HRN2.out)) (HZS.out.trans (by simpa using HRN2.out.symm)) HR11.out ?_))
      refine bodyPost_ret (v := .tuple #[.agg RL.toArray, .int .i64 0]) ?_ rfl ⟨.slice (some ⟨bA, 0, none⟩) 1 1, .slice (some ⟨g, 0, none⟩) (rl.length + 1) cap, by rw [HRL.out], HE.out, HE.out.ex.choose_spec.1.logs (rd, newR c R (last + 1) root V nodes tree, .slice (some ⟨bA, 0, none⟩) 1 1) (by simp)⟩
      exact PC.results2 Tryz.results17 _ _ (X.heap.size + 1 + 1) 47 _ (0, 0) _ rfl rfl (setRow_heap _ _ _ _ _ _ HS2.out) Tryz.underlying47 rfl (info103 _ HRN2.out)
end
end Go.Proofs.YtekbppfocnbhbaaGreat.XC
