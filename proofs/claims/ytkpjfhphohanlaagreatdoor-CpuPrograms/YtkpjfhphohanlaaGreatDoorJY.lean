/- cpu: the statements' known. -/
import Derived.Test.YtkpjfhphohanlaaGreatDoorJX
set_option linter.unusedVariables false
set_option linter.unusedSimpArgs false
namespace Go.Proofs.YtkpjfhphohanlaaGreatDoor.JC
open Go.RowKit
open Go.Proofs.YtkpjfhphohanlaaGreatDoor.EC (row_lt heap_at rangeAt_below rangeAt_row ret_bool ret_i64 beq_int)

/-- A row that stays. -/
def Rw (X : World) (b : Nat) (L : List Value) (t : TypeId) : Prop := X.heap[b]? = some (.cells L.toArray t (0, 0))
theorem Rw.below {X Y : World} {b : Nat} {L : List Value} {t : TypeId} (h : Rw X b L t) (hb : Below X.heap.size X Y) : Rw Y b L t := (hb.block _ (row_lt h)).trans h
theorem load_row_g {ops : Array Oper} {rest : List Oper} {o : Oper} {a : Act} {w : World} {Q : Exit → Act → World → Prop} (hw : Region.wanted o (yielded ops a.tmps) = true) (ty : TypeId) (x : Operand) (ho : o.op = .load ty x)
    (b off : Nat) (hx : a.eval x = .pointer (some ⟨b, off, none⟩)) (cs : List Value) (d : TypeDesc) (hc : w.rangeAt b off cs) (hu : Tryz.prog.underlying ty = some d) (hd : d.isRow = true) (hi : (Tryz.prog.info? ty).map (·.size) = some cs.length)
    (h : wpList Tryz.prog ops Q rest (a.put o.dst (.agg cs.toArray)) w) : wpList Tryz.prog ops Q (o :: rest) a w :=
  wpList_step fun K hK => by rw [if_pos hw]; exact wp_load_mid ty x ho b off hx cs d hc hu hd hi (hK _ _ h)
theorem build_g {ops : Array Oper} {rest : List Oper} {o : Oper} {a : Act} {Q : Exit → Act → World → Prop} {w : World} (hw : Region.wanted o (yielded ops a.tmps) = true) (t : TypeId) (parts : Array (Nat × Operand)) (ho : o.op = .build t parts) (vals : Array (Nat × Value)) (v : Value) (hp : (parts.map fun (i, x) => (i, a.eval x)) = vals)
    (hr : (Instr.build t vals).run Tryz.prog w = .ok v w) (h : wpList Tryz.prog ops Q rest (a.put o.dst v) w) : wpList Tryz.prog ops Q (o :: rest) a w :=
  wpList_step fun K hK => by
    rw [if_pos hw]
    unfold Oper.wp
    rw [exec_build a.eval o t parts vals v w ho hp hr]
    exact hK _ _ h
set_option maxHeartbeats 2000000 in
set_option maxRecDepth 100000 in
theorem known_any (w : World) (hG : GV w) : Calls Tryz.prog 4 #[] w fun e w' => e = .returned (.bool true) ∧ Below w.heap.size w w' := by
  have hzI := fun W => zeroI W
  have hzN := fun W => zero3 W
  have hzC := fun W => zero9 W
  have hzE := fun W => zero2 W
  have k1 := fun W => kn1 W
  have k2 := fun W => kn2 0 (by decide) (by decide) (by decide) W
  have k3 := fun W => kn2 2050 (by decide) (by decide) (by decide) W
  have k4 := fun W => kn4 W
  have k5 := fun W => kn5 W
  have k6 : ∀ W, GV W → Calls Tryz.prog 15 #[sV b1] W fun e w' => e = .returned (.tuple #[.agg (iL ⟨4, 0, 1, 2, 0⟩).toArray, .int .i64 0]) ∧ Below W.heap.size W w' := fun W hW => by
    have h := untext_any b1 (by decide) W hW
    rw [unt1] at h; exact h
  have k7 : ∀ W, GV W → Calls Tryz.prog 15 #[sV b2] W fun e w' => e = .returned (.tuple #[.agg (iL ⟨0, 0, 0, 0, 0⟩).toArray, .int .i64 4]) ∧ Below W.heap.size W w' := fun W hW => by
    have h := untext_any b2 (by decide) W hW
    rw [unt2] at h; exact h
  have k8 : ∀ W, GV W → Calls Tryz.prog 15 #[sV b3] W fun e w' => e = .returned (.tuple #[.agg (iL ⟨0, 0, 0, 0, 0⟩).toArray, .int .i64 4]) ∧ Below W.heap.size W w' := fun W hW => by
    have h := untext_any b3 (by decide) W hW
    rw [unt3] at h; exact h
  have qN := fun W => eqN W
  have qC := fun W => eqC W
  have qI := fun W => eqI W
  have HbC : Hid _ := fun W => bC W
  have HbN : Hid _ := fun W => bN W
  have HbI : Hid _ := fun W => bI W
  have HbIC : Hid _ := fun W => bIC W
  have HbIA : Hid _ := fun W => bIA W
  have HbIB : Hid _ := fun W => bIB W
  have HbR : Hid _ := fun W => bR W
  have HbSA : Hid _ := fun W => bSA W
  have HbSB : Hid _ := fun W => bSB W
  have hIC : iV iC = .agg (iL iC).toArray := rfl
  have hIA : iV iA = .agg (iL iA).toArray := rfl
  have hIB : iV iB = .agg (iL iB).toArray := rfl
  have hZ9 : Z9 = sL sZ := rfl
  rw [hIC] at k1
  rw [hIA] at k4
  rw [hIB] at k5
  rw [hZ9] at hzC
  clear hIC hIA hIB hZ9
  obtain ⟨ZI, hZI⟩ : ∃ L, L = iL ⟨0, 0, 0, 0, 0⟩ := ⟨_, rfl⟩
  obtain ⟨ZN, hZN⟩ : ∃ L, L = nL 0 0 0 := ⟨_, rfl⟩
  obtain ⟨NR, hNR⟩ : ∃ L, L = nL 1 8 0 := ⟨_, rfl⟩
  obtain ⟨CR, hCR⟩ : ∃ L, L = sL sZ := ⟨_, rfl⟩
  obtain ⟨EZ, hEZ⟩ : ∃ L, L = eL 0 0 := ⟨_, rfl⟩
  obtain ⟨IR, hIR⟩ : ∃ L, L = iL ⟨4, 0, 1, 2, 0⟩ := ⟨_, rfl⟩
  obtain ⟨LC, hLC⟩ : ∃ L, L = iL iC := ⟨_, rfl⟩
  obtain ⟨LA, hLA⟩ : ∃ L, L = iL iA := ⟨_, rfl⟩
  obtain ⟨LB, hLB⟩ : ∃ L, L = iL iB := ⟨_, rfl⟩
  obtain ⟨SA, hSA⟩ : ∃ L, L = sL sA := ⟨_, rfl⟩
  obtain ⟨SB', hSB⟩ : ∃ L, L = sL sB := ⟨_, rfl⟩
  obtain ⟨R8, hR8⟩ : ∃ L, L = r8 := ⟨_, rfl⟩
  have HII : ∀ L : List Value, L.length = 5 → (Tryz.prog.info? 41).map (·.size) = some L.length := fun L h => by rw [h]; kernel_rfl
  have HIIa : ∀ L : List Value, L.length = 5 → (Tryz.prog.info? 41).map (·.size) = some L.toArray.size := fun L h => by rw [List.size_toArray, h]; kernel_rfl
  have nZI : Hid (ZI.length = 5) := by rw [hZI]; rfl
  have nIR : Hid (IR.length = 5) := by rw [hIR]; rfl
  have nZN : Hid (ZN.length = 3) := by rw [hZN]; rfl
  have nNR : Hid (NR.length = 3) := by rw [hNR]; rfl
  have nCR : Hid (CR.length = 9) := by rw [hCR]; rfl
  have nEZ : Hid (EZ.length = 2) := by rw [hEZ]; rfl
  have oZI : Hid (ZI.toArray.all (·.oneCell') = true) := by show _ = _; rw [hZI]; exact iL_one _
  have oIR : Hid (IR.toArray.all (·.oneCell') = true) := by show _ = _; rw [hIR]; exact iL_one _
  have oNR : Hid (NR.toArray.all (·.oneCell') = true) := by show _ = _; rw [hNR]; exact nL_one _ _ _
  have oCR : Hid (CR.toArray.all (·.oneCell') = true) := by show _ = _; rw [hCR]; exact sL_one _
  have oEZ : Hid (EZ.toArray.all (·.oneCell') = true) := by show _ = _; rw [hEZ]; exact eL_one _ _
  have hII5 : Hid _ := HII
  have hII5a : Hid _ := HIIa
  rw [← hZI] at hzI k2 k3 k7 k8
  rw [← hZN] at hzN
  rw [← hCR] at hzC k5 qC HbC
  rw [← hEZ] at hzE k5
  rw [← hNR] at k4 qN HbN
  rw [← hIR] at k6 qI HbI
  rw [← hLC] at k1 HbIC
  rw [← hLA] at k4 HbIA
  rw [← hLB] at k5 HbIB
  rw [← hSA] at k4 HbSA
  rw [← hSB] at k5 HbSB
  rw [← hR8] at HbR HbSA
  have K6 : Hid _ := k6
  have K7 : Hid _ := k7
  have K8 : Hid _ := k8
  have HG : Hid _ := hG
  clear hG hZI hZN hNR hCR hEZ hIR hLC hLA hLB hSA hSB hR8 HII HIIa k6 k7 k8
  unfold sV b1 b2 b3 at *
  go_enter Tryz.func4, Tryz.ntmps4
  go_wp2_with (refine wpList_build rfl 41 #[(0, .const (.int .i64 2)), (1, .const (.int .i64 1)), (4, .const (.int .i64 (-1)))] rfl #[(0, .int .i64 2), (1, .int .i64 1), (4, .int .i64 (-1))] (.agg LC.toArray) (by simp [Act.eval]) (HbIC.out _) ?_)
  refine Calls.mono (k1 _) ?_
  rintro e X1 ⟨rfl, hX1⟩
  have HB1 : Hid (Below w.heap.size w X1) := hX1
  clear hX1 HbIC k1
  go_wp2_with fail
  refine Calls.mono (k2 _) ?_
  rintro e X2 ⟨rfl, hbX2⟩
  have HB2 : Hid (Below w.heap.size w X2) := HB1.out.trans (hbX2.mono HB1.out.size)
  clear hbX2 HB1
  obtain ⟨pX2, rX2⟩ := put_row X2 ZI ZI 41
  have HC2 : Hid (Below w.heap.size w ((X2.alloc (.cells ZI.toArray 41 (0, 0))).setRow X2.heap.size ZI.toArray)) := HB2.out.trans (pX2.mono HB2.out.size)
  have HQX2 : Hid ((X2.alloc (.cells ZI.toArray 41 (0, 0))).heap[X2.heap.size]? = some (.cells ZI.toArray 41 (0, 0))) := heap_alloc_new _ _
  clear pX2 HB2
  clear rX2
  go_wp2_with (refine wpList_store_row rfl 41 _ _ rfl X2.heap.size ZI.toArray rfl rfl 41 ZI.toArray HQX2.out (hII5a.out ZI nZI.out) (by simp [nZI.out, nZI.out]) oZI.out ?_)
  clear HQX2
  generalize (X2.alloc (.cells ZI.toArray 41 (0, 0))).setRow X2.heap.size ZI.toArray = Y2 at *
  refine Calls.mono (k3 _) ?_
  rintro e X3 ⟨rfl, hbX3⟩
  have HB3 : Hid (Below w.heap.size w X3) := HC2.out.trans (hbX3.mono HC2.out.size)
  clear hbX3 HC2
  obtain ⟨pX3, rX3⟩ := put_row X3 ZI ZI 41
  have HC3 : Hid (Below w.heap.size w ((X3.alloc (.cells ZI.toArray 41 (0, 0))).setRow X3.heap.size ZI.toArray)) := HB3.out.trans (pX3.mono HB3.out.size)
  have HQX3 : Hid ((X3.alloc (.cells ZI.toArray 41 (0, 0))).heap[X3.heap.size]? = some (.cells ZI.toArray 41 (0, 0))) := heap_alloc_new _ _
  clear pX3 HB3
  clear rX3
  go_wp2_with (first
    | (refine wpList_store_row rfl 41 _ _ rfl X3.heap.size ZI.toArray rfl rfl 41 ZI.toArray HQX3.out (hII5a.out ZI nZI.out) (by simp [nZI.out, nZI.out]) oZI.out ?_)
    | (refine wpList_build rfl 48 #[(0, .const (.int .u64 0)), (1, .const (.int .u64 16))] rfl #[(0, .int .u64 0), (1, .int .u64 16)] (.agg R8.toArray) (by simp [Act.eval]) (HbR.out _) ?_)
    | (refine wpList_build rfl 50 #[(0, .tmp 29)] rfl #[(0, .agg R8.toArray)] (.agg SA.toArray) (by simp [Act.eval]; rfl) (HbSA.out _) ?_)
    | (refine wpList_build rfl 41 #[(0, .const (.int .i64 11)), (2, .const (.int .i64 1)), (4, .const (.int .i64 (-8)))] rfl #[(0, .int .i64 11), (2, .int .i64 1), (4, .int .i64 (-8))] (.agg LA.toArray) (by simp [Act.eval]) (HbIA.out _) ?_))
  clear HQX3
  generalize (X3.alloc (.cells ZI.toArray 41 (0, 0))).setRow X3.heap.size ZI.toArray = Y3 at *
  refine Calls.mono (k4 _) ?_
  rintro e X4 ⟨rfl, hX4⟩
  have HB4 : Hid (Below w.heap.size w X4) := HC3.out.trans (hX4.mono HC3.out.size)
  obtain ⟨p4, r4⟩ := put_row X4 ZN NR 46
  have HC4 : Hid (Below w.heap.size w ((X4.alloc (.cells ZN.toArray 46 (0, 0))).setRow X4.heap.size NR.toArray)) := HB4.out.trans (p4.mono HB4.out.size)
  have HN4 : Hid (Rw ((X4.alloc (.cells ZN.toArray 46 (0, 0))).setRow X4.heap.size NR.toArray) X4.heap.size NR 46) := r4
  have HQ4 : Hid ((X4.alloc (.cells ZN.toArray 46 (0, 0))).heap[X4.heap.size]? = some (.cells ZN.toArray 46 (0, 0))) := heap_alloc_new _ _
  clear hX4 p4 r4 HC3 HB4 k4
  go_wp2_with (first
    | (refine wpList_store_row rfl 46 _ _ rfl X4.heap.size NR.toArray rfl rfl 46 ZN.toArray HQ4.out (info3a NR nNR.out) (by simp [nZN.out, nNR.out]) oNR.out ?_)
    | (refine wpList_build rfl 50 #[(1, .const (.int .u64 8))] rfl #[(1, .int .u64 8)] (.agg SB'.toArray) (by simp [Act.eval]) (HbSB.out _) ?_)
    | (refine wpList_build rfl 41 #[(0, .const (.int .i64 13)), (4, .const (.int .i64 (-8)))] rfl #[(0, .int .i64 13), (4, .int .i64 (-8))] (.agg LB.toArray) (by simp [Act.eval]) (HbIB.out _) ?_))
  refine Calls.mono (k5 _) ?_
  rintro e X5 ⟨rfl, hX5⟩
  have HN5 : Hid (Rw X5 X4.heap.size NR 46) := HN4.out.below hX5
  have HB5 : Hid (Below w.heap.size w X5) := HC4.out.trans (hX5.mono HC4.out.size)
  have HQ5 : Hid (((X5.alloc (.cells CR.toArray 50 (0, 0))).alloc (.cells EZ.toArray 53 (0, 0))).heap[X5.heap.size]? = some (.cells CR.toArray 50 (0, 0))) := (heap_alloc_old _ _ (by simp)).trans (heap_alloc_new _ _)
  have HQ6 : Hid ((((X5.alloc (.cells CR.toArray 50 (0, 0))).alloc (.cells EZ.toArray 53 (0, 0))).setRow X5.heap.size CR.toArray).heap[X5.heap.size + 1]? = some (.cells EZ.toArray 53 (0, 0))) := (setRow_other _ _ _ _ (by omega)).trans (heap_at _ _ _ (by simp))
  have h5 : Below X5.heap.size X5 ((((X5.alloc (.cells CR.toArray 50 (0, 0))).alloc (.cells EZ.toArray 53 (0, 0))).setRow X5.heap.size CR.toArray).setRow (X5.heap.size + 1) EZ.toArray) := below_setRow (below_setRow (((Below.refl _ _).alloc (Nat.le_refl _) _).alloc (by simp) _) (Nat.le_refl _) _) (by omega) _
  have HN6 : Hid (Rw ((((X5.alloc (.cells CR.toArray 50 (0, 0))).alloc (.cells EZ.toArray 53 (0, 0))).setRow X5.heap.size CR.toArray).setRow (X5.heap.size + 1) EZ.toArray) X4.heap.size NR 46) := HN5.out.below h5
  have HP6 : Hid (Rw ((((X5.alloc (.cells CR.toArray 50 (0, 0))).alloc (.cells EZ.toArray 53 (0, 0))).setRow X5.heap.size CR.toArray).setRow (X5.heap.size + 1) EZ.toArray) X5.heap.size CR 50) := (setRow_other _ _ _ _ (by omega)).trans (setRow_heap _ _ _ _ _ _ HQ5.out)
  have HC5 : Hid (Below w.heap.size w ((((X5.alloc (.cells CR.toArray 50 (0, 0))).alloc (.cells EZ.toArray 53 (0, 0))).setRow X5.heap.size CR.toArray).setRow (X5.heap.size + 1) EZ.toArray)) := HB5.out.trans (h5.mono HB5.out.size)
  clear hX5 HN4 HN5 h5 HB5 HC4 k5 HQ4
  go_wp2_with (first
    | (refine wpList_store_row rfl 50 _ _ rfl X5.heap.size CR.toArray rfl rfl 50 CR.toArray HQ5.out (info9a CR nCR.out) rfl oCR.out ?_)
    | (refine wpList_store_row rfl 53 _ _ rfl (X5.heap.size + 1) EZ.toArray rfl rfl 53 EZ.toArray HQ6.out (info2a EZ nEZ.out) rfl oEZ.out ?_))
  generalize ((((X5.alloc (.cells CR.toArray 50 (0, 0))).alloc (.cells EZ.toArray 53 (0, 0))).setRow X5.heap.size CR.toArray).setRow (X5.heap.size + 1) EZ.toArray) = Y5 at *
  clear HQ5 HQ6
  refine Calls.mono (K6.out _ (HG.out.below HC5.out)) ?_
  rintro e X6 ⟨rfl, hX6⟩
  have HN7 : Hid (Rw X6 X4.heap.size NR 46) := HN6.out.below hX6
  have HP7 : Hid (Rw X6 X5.heap.size CR 50) := HP6.out.below hX6
  have HB6 : Hid (Below w.heap.size w X6) := HC5.out.trans (hX6.mono HC5.out.size)
  clear hX6 HN6 HP6 HC5 K6
  have pp6 := (put_row X6 ZI IR 41).1
  have HN8 : Hid (Rw ((X6.alloc (.cells ZI.toArray 41 (0, 0))).setRow X6.heap.size IR.toArray) X4.heap.size NR 46) := HN7.out.below pp6
  have HP8 : Hid (Rw ((X6.alloc (.cells ZI.toArray 41 (0, 0))).setRow X6.heap.size IR.toArray) X5.heap.size CR 50) := HP7.out.below pp6
  have HR8 : Hid (Rw ((X6.alloc (.cells ZI.toArray 41 (0, 0))).setRow X6.heap.size IR.toArray) X6.heap.size IR 41) := (put_row X6 ZI IR 41).2
  clear pp6 HN7 HP7
  obtain ⟨pX6, rX6⟩ := put_row X6 ZI IR 41
  have HC6 : Hid (Below w.heap.size w ((X6.alloc (.cells ZI.toArray 41 (0, 0))).setRow X6.heap.size IR.toArray)) := HB6.out.trans (pX6.mono HB6.out.size)
  have HQX6 : Hid ((X6.alloc (.cells ZI.toArray 41 (0, 0))).heap[X6.heap.size]? = some (.cells ZI.toArray 41 (0, 0))) := heap_alloc_new _ _
  clear pX6 HB6
  clear rX6
  go_wp2_with (refine wpList_store_row rfl 41 _ _ rfl X6.heap.size IR.toArray rfl rfl 41 ZI.toArray HQX6.out (hII5a.out IR nIR.out) (by simp [nZI.out, nIR.out]) oIR.out ?_)
  clear HQX6
  generalize (X6.alloc (.cells ZI.toArray 41 (0, 0))).setRow X6.heap.size IR.toArray = Y6 at *
  refine Calls.mono (K7.out _ (HG.out.below HC6.out)) ?_
  rintro e X7 ⟨rfl, hX7⟩
  have HB7 : Hid (Below w.heap.size w X7) := HC6.out.trans (hX7.mono HC6.out.size)
  have pp := hX7.trans ((put_row X7 ZI ZI 41).1.mono hX7.size)
  have HN9 : Hid (Rw ((X7.alloc (.cells ZI.toArray 41 (0, 0))).setRow X7.heap.size ZI.toArray) X4.heap.size NR 46) := HN8.out.below pp
  have HP9 : Hid (Rw ((X7.alloc (.cells ZI.toArray 41 (0, 0))).setRow X7.heap.size ZI.toArray) X5.heap.size CR 50) := HP8.out.below pp
  have HR9 : Hid (Rw ((X7.alloc (.cells ZI.toArray 41 (0, 0))).setRow X7.heap.size ZI.toArray) X6.heap.size IR 41) := HR8.out.below pp
  clear pp hX7 HN8 HP8 HR8 HC6
  obtain ⟨pX7, rX7⟩ := put_row X7 ZI ZI 41
  have HC7 : Hid (Below w.heap.size w ((X7.alloc (.cells ZI.toArray 41 (0, 0))).setRow X7.heap.size ZI.toArray)) := HB7.out.trans (pX7.mono HB7.out.size)
  have HQX7 : Hid ((X7.alloc (.cells ZI.toArray 41 (0, 0))).heap[X7.heap.size]? = some (.cells ZI.toArray 41 (0, 0))) := heap_alloc_new _ _
  clear pX7 HB7
  clear rX7
  go_wp2_with (refine wpList_store_row rfl 41 _ _ rfl X7.heap.size ZI.toArray rfl rfl 41 ZI.toArray HQX7.out (hII5a.out ZI nZI.out) (by simp [nZI.out, nZI.out]) oZI.out ?_)
  clear HQX7
  generalize (X7.alloc (.cells ZI.toArray 41 (0, 0))).setRow X7.heap.size ZI.toArray = Y7 at *
  refine Calls.mono (K8.out _ (HG.out.below HC7.out)) ?_
  rintro e X8 ⟨rfl, hX8⟩
  have HB8 : Hid (Below w.heap.size w X8) := HC7.out.trans (hX8.mono HC7.out.size)
  have pp := hX8.trans ((put_row X8 ZI ZI 41).1.mono hX8.size)
  have HN10 : Hid (Rw ((X8.alloc (.cells ZI.toArray 41 (0, 0))).setRow X8.heap.size ZI.toArray) X4.heap.size NR 46) := HN9.out.below pp
  have HP10 : Hid (Rw ((X8.alloc (.cells ZI.toArray 41 (0, 0))).setRow X8.heap.size ZI.toArray) X5.heap.size CR 50) := HP9.out.below pp
  have HR10 : Hid (Rw ((X8.alloc (.cells ZI.toArray 41 (0, 0))).setRow X8.heap.size ZI.toArray) X6.heap.size IR 41) := HR9.out.below pp
  clear pp hX8 HN9 HP9 HR9 HC7
  obtain ⟨pX8, rX8⟩ := put_row X8 ZI ZI 41
  have HC8 : Hid (Below w.heap.size w ((X8.alloc (.cells ZI.toArray 41 (0, 0))).setRow X8.heap.size ZI.toArray)) := HB8.out.trans (pX8.mono HB8.out.size)
  have HQX8 : Hid ((X8.alloc (.cells ZI.toArray 41 (0, 0))).heap[X8.heap.size]? = some (.cells ZI.toArray 41 (0, 0))) := heap_alloc_new _ _
  clear pX8 HB8
  clear rX8
  go_wp2_with (refine wpList_store_row rfl 41 _ _ rfl X8.heap.size ZI.toArray rfl rfl 41 ZI.toArray HQX8.out (hII5a.out ZI nZI.out) (by simp [nZI.out, nZI.out]) oZI.out ?_)
  clear HQX8
  generalize (X8.alloc (.cells ZI.toArray 41 (0, 0))).setRow X8.heap.size ZI.toArray = Y8 at *
  go_wp2_with (first
    | (go_at_call 8; refine Calls.mono (num_any _ _) ?_; rintro e wq ⟨rfl, rfl⟩)
    | (refine load_row_g (by rfl) 46 _ rfl X4.heap.size 0 rfl NR _ (rangeAt_row HN10.out) Tryz.underlying46 rfl (info3 NR nNR.out) ?_)
    | (refine load_row_g (by rfl) 50 _ rfl X5.heap.size 0 rfl CR _ (rangeAt_row HP10.out) Tryz.underlying50 rfl (info9 CR nCR.out) ?_)
    | (refine load_row_g (by rfl) 41 _ rfl X6.heap.size 0 rfl IR _ (rangeAt_row HR10.out) Tryz.underlying41 rfl (hII5.out IR nIR.out) ?_)
    | (refine build_g (by rfl) 46 #[(0, .const (.int .i64 1)), (1, .const (.int .u64 8))] rfl #[(0, .int .i64 1), (1, .int .u64 8)] (.agg NR.toArray) (by simp [Act.eval]) (HbN.out _) ?_)
    | (refine build_g (by rfl) 50 #[] rfl #[] (.agg CR.toArray) (by simp [Act.eval]) (HbC.out _) ?_)
    | (refine build_g (by rfl) 41 #[(0, .const (.int .i64 4)), (2, .const (.int .i64 1)), (3, .const (.int .i64 2))] rfl #[(0, .int .i64 4), (2, .int .i64 1), (3, .int .i64 2)] (.agg IR.toArray) (by simp [Act.eval]) (HbI.out _) ?_))
  go_ret
  exact ⟨rfl, HC8.out⟩
end Go.Proofs.YtkpjfhphohanlaaGreatDoor.JC
