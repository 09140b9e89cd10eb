/- Contract of the statements' known. -/
import Derived.Test.YtefhjjjjbkkedaaGreatWd
set_option linter.unusedVariables false
set_option linter.unusedSimpArgs false
namespace Go.Proofs.YtefhjjjjbkkedaaGreat.R5
open scoped Classical
open Go.RowKit

def kA : List UInt8 := 1 :: List.replicate 31 0
def kB : List UInt8 := 2 :: List.replicate 31 0
def kZ : List UInt8 := 2 :: List.replicate 30 0 ++ [1]
def z32 : List UInt8 := List.replicate 32 0
def kO0 : Pra := ⟨true, z32, [kA, kB], []⟩
def kQ1 : Qn := ⟨1, z32, 2, [120]⟩
def kQ2 : Qn := ⟨1, z32, 2, [121]⟩
def kQ3 : Qn := ⟨1, z32, 3, [120]⟩
def kO1 : Pra := ⟨true, z32, [kA, kB], [(kQ1, kA)]⟩
def kO2 : Pra := ⟨true, z32, [kA, kB], [(kQ1, kA), (kQ2, kB)]⟩
def kO3 : Pra := ⟨true, z32, [kA, kB], [(kQ1, kA), (kQ2, kB), (kQ3, kZ)]⟩
theorem k1 : pAsk kO0 kQ1 (drawD kO0.draws kO0.log.length) = (kA, kO1) := by kernel_rfl
theorem k2 : pAsk kO1 kQ2 (drawD kO1.draws kO1.log.length) = (kB, kO2) := by kernel_rfl
theorem k3 : pAsk kO2 kQ1 (drawD kO2.draws kO2.log.length) = (kA, kO2) := by kernel_rfl
theorem k4 : pAsk kO2 kQ3 (drawD kO2.draws kO2.log.length) = (kZ, kO3) := by kernel_rfl
theorem build_d1 (w : World) : (Instr.build 29 #[(0, .int .u8 1)]).run Tryz.prog w = .ok (.agg (kA.map B8).toArray) w := by kernel_rfl
theorem build_d2 (w : World) : (Instr.build 29 #[(0, .int .u8 2)]).run Tryz.prog w = .ok (.agg (kB.map B8).toArray) w := by kernel_rfl
theorem build_dz (w : World) : (Instr.build 29 #[(0, .int .u8 2), (31, .int .u8 1)]).run Tryz.prog w = .ok (.agg (kZ.map B8).toArray) w := by kernel_rfl
theorem build_k1 (w : World) : (Instr.build 39 #[(0, .int .i64 1)]).run Tryz.prog w = .ok (.agg (qL ⟨1, z32, 0, []⟩ (.slice none 0 0)).toArray) w := by kernel_rfl
theorem build_k4 (w : World) : (Instr.build 39 #[(0, .int .i64 4), (2, .int .i64 1)]).run Tryz.prog w = .ok (.agg (qL ⟨4, z32, 1, []⟩ (.slice none 0 0)).toArray) w := by kernel_rfl
set_option maxHeartbeats 4000000 in
set_option maxRecDepth 100000 in
theorem fill_two (w : World) (X Y : List Value) (h1 : X.length = 32) (h2 : Y.length = 32) : (Instr.buildSlice 22 2 #[(0, .agg X.toArray), (1, .agg Y.toArray)]).run Tryz.prog w = .ok (.slice (some ⟨w.heap.size, 0, none⟩) 2 2) (w.alloc (.cells (X ++ Y).toArray 29 (0, 0))) := by
  iterate 32 (obtain ⟨_, _, e, g⟩ := cons_of h1; clear h1; subst e; have h1 := g; clear g)
  obtain rfl := List.eq_nil_of_length_eq_zero h1
  iterate 32 (obtain ⟨_, _, e, g⟩ := cons_of h2; clear h2; subst e; have h2 := g; clear g)
  obtain rfl := List.eq_nil_of_length_eq_zero h2
  show _ = _
  kernel_rfl
theorem hds_two (w : World) (a b : List UInt8) (ha : a.length = 32) (hb : b.length = 32) (g : Nat) (t : TypeId) (h : w.heap[g]? = some (.cells (a.map B8 ++ b.map B8).toArray t (0, 0))) : HDs w (.slice (some ⟨g, 0, none⟩) 2 2) [a, b] := by
  refine ⟨fun d hd => by simp at hd; rcases hd with rfl | rfl <;> assumption, _, 2, rfl, fun i hi => ⟨g, 0, rfl, fun j u hu => ?_⟩⟩
  rw [cell_of_row _ _ _ _ _ _ h, List.getElem?_toArray]
  have : i = 0 ∨ i = 1 := by simp at hi; omega
  rcases this with rfl | rfl
  · have hj : j < a.length := by have := (List.getElem?_eq_some_iff.1 hu).1; simpa using this
    rw [List.getElem?_append_left (by simp; omega)]
    rw [show 0 + 0 * 32 + j = j by omega]; exact hu
  · rw [List.getElem?_append_right (by simp; omega), List.length_map, ha, show 0 + 1 * 32 + j - 32 = j by omega]; exact hu
theorem wpList_bslice {ops : Array Oper} {rest : List Oper} {o : Oper} {a : Act} {Q : Exit → Act → World → Prop} {w w' : World} (hgd : o.guard = none) (t : TypeId) (n : Nat) (parts : Array (Nat × Operand)) (ho : o.op = .buildSlice t n parts) (vals : Array (Nat × Value)) (v : Value) (hp : (parts.map fun (i, x) => (i, a.eval x)) = vals)
    (hr : (Instr.buildSlice t n vals).run Tryz.prog w = .ok v w') (h : wpList Tryz.prog ops Q rest (a.put o.dst v) w') : wpList Tryz.prog ops Q (o :: rest) a w := by
  refine wpList_plain hgd fun K' hK' => ?_
  unfold Oper.wp execOp
  simp only [ho, Sem.run_bind, hp, hr, Result.andThen_ok]
  exact hK' _ _ h
theorem bs_byte (w : World) (c : Int) : (Instr.buildSlice 37 1 #[(0, .int .u8 c)]).run Tryz.prog w = .ok (.slice (some ⟨w.heap.size, 0, none⟩) 1 1) (w.alloc (.cells #[.int .u8 c] 5 (0, 0))) := by kernel_rfl
theorem bs_part (w : World) (p : Option Addr) (n c : Nat) : (Instr.buildSlice 83 1 #[(0, .slice p n c)]).run Tryz.prog w = .ok (.slice (some ⟨w.heap.size, 0, none⟩) 1 1) (w.alloc (.cells #[.slice p n c] 37 (0, 0))) := by kernel_rfl
theorem conv_lit (w : World) (C : Array Value) (n : Nat) : (convert 37 37 (.slice (some ⟨w.heap.size, 0, none⟩) n n)).run Tryz.prog (w.alloc (.cells C 5)) = .ok (.slice (some ⟨w.heap.size, 0, none⟩) n n) (w.alloc (.cells C 5 (C.size, C.size + 1))) := by
  have hsh : (w.alloc (.cells C 5)).shape? w.heap.size = some (5, C.size) := by
    have : (w.alloc (.cells C 5)).heap[w.heap.size]? = some (.cells C 5) := by
      show (w.heap.push (.cells C 5))[w.heap.size]? = _
      simp
    unfold World.shape?
    rw [this]
  have hfr : (w.alloc (.cells C 5)).freeze ⟨w.heap.size, C.size, none⟩ 1 = w.alloc (.cells C 5 (C.size, C.size + 1)) := by
    have hm : ∀ (a : Array Obj) (x : Obj) (f : Obj → Obj), (a.push x).modify a.size f = a.push (f x) := by
      intro a x f
      apply Array.ext
      · simp
      · intro i h1 h2
        simp only [Array.getElem_modify, Array.getElem_push]
        by_cases h : a.size = i
        · subst h
          simp
        · have hi : i < a.size := by simp at h1; omega
          simp [h, hi]
    unfold World.freeze
    rw [if_neg (by decide)]
    show ({ w.alloc (.cells C 5) with heap := (w.heap.push (.cells C 5)).modify w.heap.size _ } : World) = _
    rw [hm]
    rfl
  simp [convert, run_underlying Tryz.underlying37, run_underlying Tryz.underlying5, markStringish, hsh]
  exact hfr
/-- One byte in a slice, in a slice. -/
theorem hp_one (X : World) (c : UInt8) : HP ((X.alloc (.cells #[B8 c] 5 (1, 2))).alloc (.cells #[.slice (some ⟨X.heap.size, 0, none⟩) 1 1] 37 (0, 0))) (.slice (some ⟨X.heap.size + 1, 0, none⟩) 1 1) [[c]] := by
  refine ⟨_, 1, rfl, fun i hi => ⟨X.heap.size + 1, .slice (some ⟨X.heap.size, 0, none⟩) 1 1, rfl, ?_, ?_⟩⟩
  · have : i = 0 := by simpa using hi
    subst this
    rw [cell_of_row _ _ 0 _ _ _ (heap_at _ _ _ (by simp))]; rfl
  · have : i = 0 := by simpa using hi
    subst this
    refine .inr ⟨_, 0, _, rfl, Nat.le_refl _, by unfold maxLen; simp, fun i hi => ?_⟩
    have : i = 0 := by simpa using hi
    subst this
    rw [cell_of_row _ _ _ _ _ _ (alloc2_first X _ _)]
    rfl
/-- What known's rows look like ahead of New. -/
theorem k_two (w : World) (ZL AL BL : List Value) : ∀ X, X = (((w.alloc (.cells ZL.toArray 29 (0, 0))).alloc (.cells ZL.toArray 29 (0, 0))).setRow w.heap.size AL.toArray).setRow (w.heap.size + 1) BL.toArray →
    Below w.heap.size w X ∧ X.heap.size = w.heap.size + 2 ∧ X.heap[w.heap.size]? = some (.cells AL.toArray 29 (0, 0)) ∧ X.heap[w.heap.size + 1]? = some (.cells BL.toArray 29 (0, 0)) := by
  rintro X rfl
  refine ⟨below_setRow (below_setRow (((Below.refl _ _).alloc (Nat.le_refl _) _).alloc (by simp) _) (Nat.le_refl _) _) (by omega) _, by simp, ?_, ?_⟩
  · rw [setRow_other _ _ _ _ (by omega)]; exact setRow_heap _ _ _ _ _ _ (alloc2_first _ _ _)
  · exact setRow_heap _ _ _ _ _ _ ((setRow_other _ _ _ _ (by omega)).trans (heap_at _ _ _ (by simp)))

theorem wpList_store_rowL {ops : Array Oper} {rest : List Oper} {o : Oper} {a : Act} {w : World} {Q : Exit → Act → World → Prop} (hgd : o.guard = none) (ty : TypeId) (x y : Operand) (ho : o.op = .store ty x y)
    (g : Nat) (cells : Array Value) (hx : a.eval x = .pointer (some ⟨g, 0, none⟩)) (hy : a.eval y = .agg cells)
    (t : TypeId) (old : Array Value) (hg : w.heap[g]? = some (.cells old t (0, 0))) (hi : (Tryz.prog.info? ty).map (·.size) = some cells.size)
    (hold : old.size = cells.size) (h1 : cells.all (·.oneCell') = true)
    (h : ∀ W', W' = w.setRow g cells → wpList Tryz.prog ops Q rest (a.put o.dst undef) W') : wpList Tryz.prog ops Q (o :: rest) a w :=
  wpList_store_row hgd ty x y ho g cells hx hy t old hg hi hold h1 (h _ rfl)

theorem wpList_buildg {ops : Array Oper} {rest : List Oper} {o : Oper} {a : Act} {Q : Exit → Act → World → Prop} {w : World} (hw : Region.wanted o (yielded ops a.tmps) = true) (t : TypeId) (parts : Array (Nat × Operand)) (ho : o.op = .build t parts) (vals : Array (Nat × Value)) (v : Value) (hp : (parts.map fun (i, x) => (i, a.eval x)) = vals)
    (hr : (Instr.build t vals).run Tryz.prog w = .ok v w) (h : wpList Tryz.prog ops Q rest (a.put o.dst v) w) : wpList Tryz.prog ops Q (o :: rest) a w := by
  refine wpList_step fun K hK => ?_
  rw [if_pos hw]
  unfold Oper.wp
  rw [exec_build a.eval o t parts vals v w ho hp hr]
  exact hK _ _ h
set_option maxHeartbeats 8000000 in
set_option maxRecDepth 100000 in
theorem known_any (w : World) : Calls Tryz.prog 6 #[] w fun e w' => e = .returned (.bool true) ∧ Below w.heap.size w w' := by
  have hzv := fun W => zero_dig W
  have hbd := fun W => build_dig W
  have hd1 := fun W => build_d1 W
  have hd2 := fun W => build_d2 W
  have hdz := fun W => build_dz W
  have hq1 := fun W => build_k1 W
  have hq4 := fun W => build_k4 W
  have hkA : (kA.map B8).length = 32 := rfl
  have hkB : (kB.map B8).length = 32 := rfl
  obtain ⟨ZL, hZL⟩ : ∃ L, L = (List.replicate 32 (0 : UInt8)).map B8 := ⟨_, rfl⟩
  have HZL : Hid (ZL = z32.map B8) := hZL
  rw [← hZL] at hzv hbd
  have HZS : Hid (ZL.toArray.size = 32) := by show _ = _; rw [hZL]; simp
  obtain ⟨AL, hAL⟩ : ∃ L, L = kA.map B8 := ⟨_, rfl⟩
  obtain ⟨BL, hBL⟩ : ∃ L, L = kB.map B8 := ⟨_, rfl⟩
  rw [← hAL] at hd1 hkA
  rw [← hBL] at hd2 hkB
  have HAL : Hid _ := hAL
  have HBL : Hid _ := hBL
  have HA1 : Hid (AL.toArray.all (·.oneCell') = true) := by show _ = _; rw [hAL]; exact B8_onea _
  have HB1 : Hid (BL.toArray.all (·.oneCell') = true) := by show _ = _; rw [hBL]; exact B8_onea _
  have HAS : Hid (AL.toArray.size = 32) := by show _ = _; simpa using hkA
  have HBS : Hid (BL.toArray.size = 32) := by show _ = _; simpa using hkB
  have hbs := fun W => fill_two W AL BL hkA hkB
  obtain ⟨Q1, hQ1⟩ : ∃ L, L = qL ⟨1, z32, 0, []⟩ (.slice none 0 0) := ⟨_, rfl⟩
  obtain ⟨Q4, hQ4⟩ : ∃ L, L = qL ⟨4, z32, 1, []⟩ (.slice none 0 0) := ⟨_, rfl⟩
  rw [← hQ1] at hq1
  rw [← hQ4] at hq4
  have HQ1 : Hid _ := hQ1
  have HQ4 : Hid _ := hQ4
  have HBD : Hid _ := hbs
  have HD1 : Hid _ := hd1
  have HD2 : Hid _ := hd2
  have HDZ : Hid _ := hdz
  have HBQ1 : Hid _ := hq1
  have HBQ4 : Hid _ := hq4
  have HAI : Hid _ := info32 AL hkA
  have HBI : Hid _ := info32 BL hkB
  clear hZL hAL hBL hQ1 hQ4 hbs hd1 hd2 hdz hq1 hq4
  have HX1 : Hid (((w.alloc (.cells ZL.toArray 29 (0, 0))).alloc (.cells ZL.toArray 29 (0, 0))).heap[w.heap.size]? = some (.cells ZL.toArray 29 (0, 0))) := alloc2_first _ _ _
  go_enter Tryz.func6, Tryz.ntmps6
  go_wp2_with (first
    | (refine wpList_build rfl 29 #[(0, .const (.int .u8 1))] rfl #[(0, .int .u8 1)] (.agg AL.toArray) (by simp; first | done | rfl) (HD1.out _) ?_)
    | (refine wpList_build rfl 29 #[(0, .const (.int .u8 2))] rfl #[(0, .int .u8 2)] (.agg BL.toArray) (by simp; first | done | rfl) (HD2.out _) ?_)
    | (refine wpList_store_rowL rfl 29 _ (.tmp 18) rfl w.heap.size AL.toArray rfl rfl 29 ZL.toArray HX1.out (info32a _ HAS.out) (HZS.out.trans HAS.out.symm) HA1.out ?_; intro X0 hX0; have HX0 : Hid _ := hX0; have HX2 : Hid (X0.heap[w.heap.size + 1]? = some (.cells ZL.toArray 29 (0, 0))) := (by rw [hX0]; exact (setRow_other _ _ _ _ (by omega)).trans (heap_at _ _ _ (by simp))); clear hX0)
    | (refine wpList_store_rowL rfl 29 _ (.tmp 19) rfl (w.heap.size + 1) BL.toArray rfl rfl 29 ZL.toArray HX2.out (info32a _ HBS.out) (HZS.out.trans HBS.out.symm) HB1.out ?_; intro X hX; rw [HX0.out] at hX; have HKT : Hid _ := k_two w ZL AL BL X hX; clear hX)
    | (refine wpList_load_mid rfl 29 (.tmp 1) rfl w.heap.size 0 rfl AL _ (rangeAt_row HKT.out.2.2.1) Tryz.underlying29 rfl HAI.out ?_)
    | (refine wpList_load_mid rfl 29 (.tmp 2) rfl (w.heap.size + 1) 0 rfl BL _ (rangeAt_row HKT.out.2.2.2) Tryz.underlying29 rfl HBI.out ?_)
    | (refine wpList_bslice rfl 22 2 _ rfl _ _ (by simp; exact ⟨rfl, rfl⟩) (HBD.out _) ?_)
    | (go_at_call 7; fail))
  have hnew := pnew_any true z32 (some ⟨X.heap.size, 0, none⟩) 2 2 [kA, kB] (X.alloc (.cells (AL ++ BL).toArray 29 (0, 0))) rfl (fun h => by cases h) (by decide) (hds_two _ kA kB rfl rfl _ 29 (by rw [← HAL.out, ← HBL.out]; exact heap_alloc_new _ _))
  rw [← HZL.out] at hnew
  refine Calls.mono hnew ?_
  rintro e w3 ⟨og, mb, dv, rfl, hpo, hb3, _⟩
  obtain ⟨hbX, hsx, hrA, hrB⟩ := HKT.out
  have HK0 : Hid (KN w og mb kO0 [(w.heap.size + 1, kB), (w.heap.size, kA)] w3) := KN.ofNew (hbX.alloc (by rw [hsx]; omega) _) hpo hb3 (fun r hr => by
    simp only [List.mem_cons, List.not_mem_nil, or_false] at hr
    rcases hr with rfl | rfl
    · exact (heap_alloc_old _ _ (by show w.heap.size + 1 < _; omega)).trans (by rw [← HBL.out]; exact hrB)
    · exact (heap_alloc_old _ _ (by show w.heap.size < _; omega)).trans (by rw [← HAL.out]; exact hrA))
  clear hpo hb3 hnew hbX hsx hrA hrB HKT HX0 HX1 HX2
  have hcl := fun W C n => conv_lit W C n
  go_wp2_with (first
    | (refine wpList_bslice rfl 37 1 _ rfl _ _ (by simp; first | done | rfl) (bs_byte _ _) ?_)
    | (refine wpList_bslice rfl 83 1 _ rfl _ _ (by simp; first | done | rfl) (bs_part _ _ _ _) ?_))
  refine Calls.mono (KN.dig ((HK0.out.alloc (.cells #[.int .u8 120] 5 (1, 2))).alloc (.cells #[.slice (some ⟨w3.heap.size, 0, none⟩) 1 1] 37 (0, 0))) rfl (by decide) 2 (by decide) _ [120] (by decide) (hp_one w3 120)) ?_
  rintro e w4 ⟨rfl, hK⟩
  rw [show (⟨1, List.replicate 32 0, 2, [120]⟩ : Qn) = kQ1 from rfl, k1] at hK ⊢
  simp only at hK
  clear HK0
  unfold okV dV
  -- w4 the world behind the call, kA its answer, hK the fact hK, HK1 the new fact, V4 the new world's letter
  have HRW : Hid ((w4.alloc (.cells ZL.toArray 29 (0, 0))).heap[w4.heap.size]? = some (.cells ZL.toArray 29 (0, 0))) := heap_alloc_new _ _
  have HKN : Hid _ := hK.newrow (ZL := ZL) kA
  have HWS : Hid ((kA.map B8).toArray.size = 32) := rfl
  have HW1 : Hid _ := B8_onea kA
  clear hK
  obtain ⟨RW, hRW⟩ : ∃ A, A = (kA.map B8).toArray := ⟨_, rfl⟩
  rw [← hRW] at HKN HWS HW1 ⊢
  clear hRW
  go_wp2_with (first
    | (refine wpList_store_rowL rfl 29 _ _ rfl w4.heap.size RW rfl rfl 29 ZL.toArray HRW.out (info32a _ HWS.out) (HZS.out.trans HWS.out.symm) HW1.out ?_; intro V4 hV; rw [← hV] at HKN; clear hV)
    | (refine wpList_bslice rfl 37 1 _ rfl _ _ (by simp; first | done | rfl) (bs_byte _ _) ?_)
    | (refine wpList_bslice rfl 83 1 _ rfl _ _ (by simp; first | done | rfl) (bs_part _ _ _ _) ?_)
    | (refine wpList_build rfl 39 #[(0, .const (.int .i64 1))] rfl #[(0, .int .i64 1)] (.agg Q1.toArray) (by simp; first | done | rfl) (HBQ1.out _) ?_)
    | (refine wpList_build rfl 39 #[(0, .const (.int .i64 4)), (2, .const (.int .i64 1))] rfl #[(0, .int .i64 4), (2, .int .i64 1)] (.agg Q4.toArray) (by simp; first | done | rfl | exact ⟨rfl, rfl⟩) (HBQ4.out _) ?_))
  have HK1 : Hid _ := HKN.out
  clear HKN HRW HWS HW1
  refine Calls.mono (KN.dig ((HK1.out.alloc (.cells #[.int .u8 121] 5 (1, 2))).alloc (.cells #[.slice (some ⟨V4.heap.size, 0, none⟩) 1 1] 37 (0, 0))) rfl (by decide) 2 (by decide) _ [121] (by decide) (hp_one V4 121)) ?_
  rintro e w5 ⟨rfl, hK⟩
  rw [show (⟨1, List.replicate 32 0, 2, [121]⟩ : Qn) = kQ2 from rfl, k2] at hK ⊢
  simp only at hK
  clear HK1
  unfold okV dV
  -- w5 the world behind the call, kB its answer, hK the fact hK, HK2 the new fact, V5 the new world's letter
  have HRW : Hid ((w5.alloc (.cells ZL.toArray 29 (0, 0))).heap[w5.heap.size]? = some (.cells ZL.toArray 29 (0, 0))) := heap_alloc_new _ _
  have HKN : Hid _ := hK.newrow (ZL := ZL) kB
  have HWS : Hid ((kB.map B8).toArray.size = 32) := rfl
  have HW1 : Hid _ := B8_onea kB
  clear hK
  obtain ⟨RW, hRW⟩ : ∃ A, A = (kB.map B8).toArray := ⟨_, rfl⟩
  rw [← hRW] at HKN HWS HW1 ⊢
  clear hRW
  go_wp2_with (first
    | (refine wpList_store_rowL rfl 29 _ _ rfl w5.heap.size RW rfl rfl 29 ZL.toArray HRW.out (info32a _ HWS.out) (HZS.out.trans HWS.out.symm) HW1.out ?_; intro V5 hV; rw [← hV] at HKN; clear hV)
    | (refine wpList_bslice rfl 37 1 _ rfl _ _ (by simp; first | done | rfl) (bs_byte _ _) ?_)
    | (refine wpList_bslice rfl 83 1 _ rfl _ _ (by simp; first | done | rfl) (bs_part _ _ _ _) ?_)
    | (refine wpList_build rfl 39 #[(0, .const (.int .i64 1))] rfl #[(0, .int .i64 1)] (.agg Q1.toArray) (by simp; first | done | rfl) (HBQ1.out _) ?_)
    | (refine wpList_build rfl 39 #[(0, .const (.int .i64 4)), (2, .const (.int .i64 1))] rfl #[(0, .int .i64 4), (2, .int .i64 1)] (.agg Q4.toArray) (by simp; first | done | rfl | exact ⟨rfl, rfl⟩) (HBQ4.out _) ?_))
  have HK2 : Hid _ := HKN.out
  clear HKN HRW HWS HW1
  refine Calls.mono (KN.dig ((HK2.out.alloc (.cells #[.int .u8 120] 5 (1, 2))).alloc (.cells #[.slice (some ⟨V5.heap.size, 0, none⟩) 1 1] 37 (0, 0))) rfl (by decide) 2 (by decide) _ [120] (by decide) (hp_one V5 120)) ?_
  rintro e w6 ⟨rfl, hK⟩
  rw [show (⟨1, List.replicate 32 0, 2, [120]⟩ : Qn) = kQ1 from rfl, k3] at hK ⊢
  simp only at hK
  clear HK2
  unfold okV dV
  -- w6 the world behind the call, kA its answer, hK the fact hK, HK3 the new fact, V6 the new world's letter
  have HRW : Hid ((w6.alloc (.cells ZL.toArray 29 (0, 0))).heap[w6.heap.size]? = some (.cells ZL.toArray 29 (0, 0))) := heap_alloc_new _ _
  have HKN : Hid _ := hK.newrow (ZL := ZL) kA
  have HWS : Hid ((kA.map B8).toArray.size = 32) := rfl
  have HW1 : Hid _ := B8_onea kA
  clear hK
  obtain ⟨RW, hRW⟩ : ∃ A, A = (kA.map B8).toArray := ⟨_, rfl⟩
  rw [← hRW] at HKN HWS HW1 ⊢
  clear hRW
  go_wp2_with (first
    | (refine wpList_store_rowL rfl 29 _ _ rfl w6.heap.size RW rfl rfl 29 ZL.toArray HRW.out (info32a _ HWS.out) (HZS.out.trans HWS.out.symm) HW1.out ?_; intro V6 hV; rw [← hV] at HKN; clear hV)
    | (refine wpList_bslice rfl 37 1 _ rfl _ _ (by simp; first | done | rfl) (bs_byte _ _) ?_)
    | (refine wpList_bslice rfl 83 1 _ rfl _ _ (by simp; first | done | rfl) (bs_part _ _ _ _) ?_)
    | (refine wpList_build rfl 39 #[(0, .const (.int .i64 1))] rfl #[(0, .int .i64 1)] (.agg Q1.toArray) (by simp; first | done | rfl) (HBQ1.out _) ?_)
    | (refine wpList_build rfl 39 #[(0, .const (.int .i64 4)), (2, .const (.int .i64 1))] rfl #[(0, .int .i64 4), (2, .int .i64 1)] (.agg Q4.toArray) (by simp; first | done | rfl | exact ⟨rfl, rfl⟩) (HBQ4.out _) ?_))
  have HK3 : Hid _ := HKN.out
  clear HKN HRW HWS HW1
  refine Calls.mono (KN.dig ((HK3.out.alloc (.cells #[.int .u8 120] 5 (1, 2))).alloc (.cells #[.slice (some ⟨V6.heap.size, 0, none⟩) 1 1] 37 (0, 0))) rfl (by decide) 3 (by decide) _ [120] (by decide) (hp_one V6 120)) ?_
  rintro e w7 ⟨rfl, hK⟩
  rw [show (⟨1, List.replicate 32 0, 3, [120]⟩ : Qn) = kQ3 from rfl, k4] at hK ⊢
  simp only at hK
  clear HK3
  unfold okV dV
  -- w7 the world behind the call, kZ its answer, hK the fact hK, HK4 the new fact, V7 the new world's letter
  have HRW : Hid ((w7.alloc (.cells ZL.toArray 29 (0, 0))).heap[w7.heap.size]? = some (.cells ZL.toArray 29 (0, 0))) := heap_alloc_new _ _
  have HKN : Hid _ := hK.newrow (ZL := ZL) kZ
  have HWS : Hid ((kZ.map B8).toArray.size = 32) := rfl
  have HW1 : Hid _ := B8_onea kZ
  clear hK
  obtain ⟨RW, hRW⟩ : ∃ A, A = (kZ.map B8).toArray := ⟨_, rfl⟩
  rw [← hRW] at HKN HWS HW1 ⊢
  clear hRW
  go_wp2_with (first
    | (refine wpList_store_rowL rfl 29 _ _ rfl w7.heap.size RW rfl rfl 29 ZL.toArray HRW.out (info32a _ HWS.out) (HZS.out.trans HWS.out.symm) HW1.out ?_; intro V7 hV; rw [← hV] at HKN; clear hV)
    | (refine wpList_bslice rfl 37 1 _ rfl _ _ (by simp; first | done | rfl) (bs_byte _ _) ?_)
    | (refine wpList_bslice rfl 83 1 _ rfl _ _ (by simp; first | done | rfl) (bs_part _ _ _ _) ?_)
    | (refine wpList_build rfl 39 #[(0, .const (.int .i64 1))] rfl #[(0, .int .i64 1)] (.agg Q1.toArray) (by simp; first | done | rfl) (HBQ1.out _) ?_)
    | (refine wpList_build rfl 39 #[(0, .const (.int .i64 4)), (2, .const (.int .i64 1))] rfl #[(0, .int .i64 4), (2, .int .i64 1)] (.agg Q4.toArray) (by simp; first | done | rfl | exact ⟨rfl, rfl⟩) (HBQ4.out _) ?_))
  have HK4 : Hid _ := HKN.out
  clear HKN HRW HWS HW1
  rw [HQ1.out]
  refine Calls.mono (KN.ask_bad HK4.out (.slice none 0 0) ⟨1, z32, 0, []⟩ rfl (by decide)) ?_
  rintro e w8 ⟨rfl, hK⟩
  clear HK4
  rw [← HQ1.out]
  unfold errV dV
  -- w8 the world behind the call, (List.replicate 32 (0 : UInt8)) its answer, hK the fact hK, HK5 the new fact, V8 the new world's letter
  have HRW : Hid ((w8.alloc (.cells ZL.toArray 29 (0, 0))).heap[w8.heap.size]? = some (.cells ZL.toArray 29 (0, 0))) := heap_alloc_new _ _
  have HKN : Hid _ := hK.newrow (ZL := ZL) (List.replicate 32 (0 : UInt8))
  have HWS : Hid (((List.replicate 32 (0 : UInt8)).map B8).toArray.size = 32) := rfl
  have HW1 : Hid _ := B8_onea (List.replicate 32 (0 : UInt8))
  clear hK
  obtain ⟨RW, hRW⟩ : ∃ A, A = ((List.replicate 32 (0 : UInt8)).map B8).toArray := ⟨_, rfl⟩
  rw [← hRW] at HKN HWS HW1 ⊢
  clear hRW
  go_wp2_with (first
    | (refine wpList_store_rowL rfl 29 _ _ rfl w8.heap.size RW rfl rfl 29 ZL.toArray HRW.out (info32a _ HWS.out) (HZS.out.trans HWS.out.symm) HW1.out ?_; intro V8 hV; rw [← hV] at HKN; clear hV)
    | (refine wpList_bslice rfl 37 1 _ rfl _ _ (by simp; first | done | rfl) (bs_byte _ _) ?_)
    | (refine wpList_bslice rfl 83 1 _ rfl _ _ (by simp; first | done | rfl) (bs_part _ _ _ _) ?_)
    | (refine wpList_build rfl 39 #[(0, .const (.int .i64 1))] rfl #[(0, .int .i64 1)] (.agg Q1.toArray) (by simp; first | done | rfl) (HBQ1.out _) ?_)
    | (refine wpList_build rfl 39 #[(0, .const (.int .i64 4)), (2, .const (.int .i64 1))] rfl #[(0, .int .i64 4), (2, .int .i64 1)] (.agg Q4.toArray) (by simp; first | done | rfl | exact ⟨rfl, rfl⟩) (HBQ4.out _) ?_))
  have HK5 : Hid _ := HKN.out
  clear HKN HRW HWS HW1
  rw [HQ4.out]
  refine Calls.mono (KN.ask_bad HK5.out (.slice none 0 0) ⟨4, z32, 1, []⟩ rfl (by decide)) ?_
  rintro e w9 ⟨rfl, hK⟩
  clear HK5
  rw [← HQ4.out]
  unfold errV dV
  -- w9 the world behind the call, (List.replicate 32 (0 : UInt8)) its answer, hK the fact hK, HK6 the new fact, V9 the new world's letter
  have HRW : Hid ((w9.alloc (.cells ZL.toArray 29 (0, 0))).heap[w9.heap.size]? = some (.cells ZL.toArray 29 (0, 0))) := heap_alloc_new _ _
  have HKN : Hid _ := hK.newrow (ZL := ZL) (List.replicate 32 (0 : UInt8))
  have HWS : Hid (((List.replicate 32 (0 : UInt8)).map B8).toArray.size = 32) := rfl
  have HW1 : Hid _ := B8_onea (List.replicate 32 (0 : UInt8))
  clear hK
  obtain ⟨RW, hRW⟩ : ∃ A, A = ((List.replicate 32 (0 : UInt8)).map B8).toArray := ⟨_, rfl⟩
  rw [← hRW] at HKN HWS HW1 ⊢
  clear hRW
  go_wp2_with (first
    | (refine wpList_store_rowL rfl 29 _ _ rfl w9.heap.size RW rfl rfl 29 ZL.toArray HRW.out (info32a _ HWS.out) (HZS.out.trans HWS.out.symm) HW1.out ?_; intro V9 hV; rw [← hV] at HKN; clear hV)
    | (refine wpList_bslice rfl 37 1 _ rfl _ _ (by simp; first | done | rfl) (bs_byte _ _) ?_)
    | (refine wpList_bslice rfl 83 1 _ rfl _ _ (by simp; first | done | rfl) (bs_part _ _ _ _) ?_)
    | (refine wpList_build rfl 39 #[(0, .const (.int .i64 1))] rfl #[(0, .int .i64 1)] (.agg Q1.toArray) (by simp; first | done | rfl) (HBQ1.out _) ?_)
    | (refine wpList_build rfl 39 #[(0, .const (.int .i64 4)), (2, .const (.int .i64 1))] rfl #[(0, .int .i64 4), (2, .int .i64 1)] (.agg Q4.toArray) (by simp; first | done | rfl | exact ⟨rfl, rfl⟩) (HBQ4.out _) ?_))
  have HK6 : Hid _ := HKN.out
  clear HKN HRW HWS HW1
  rw [HQ4.out]
  refine Calls.mono (KN.stream_bad HK6.out (.slice none 0 0) ⟨4, z32, 1, []⟩ 1025 rfl (by decide)) ?_
  rintro e w10 ⟨rfl, hK⟩
  clear HK6
  rw [← HQ4.out]
  unfold errS
  have HKE : Hid _ := hK
  have HUS : Hid (Calls Tryz.prog 11 #[.pointer (some ⟨og, 0, none⟩)] w10 fun e Y => e = .returned (.int .i64 3) ∧ Y = w10) := KN.used hK rfl
  obtain ⟨CL, hCL⟩ : ∃ L, L = kZ.map B8 := ⟨_, rfl⟩
  have HCI : Hid _ := info32 CL (by rw [hCL]; rfl)
  have hea : ∀ W, (binOp .eql 29 (.agg AL.toArray) (.agg AL.toArray)).run Tryz.prog W = .ok (.bool true) W := fun W => by rw [HAL.out]; exact eql_digest W kA kA rfl rfl
  have heb : ∀ W, (binOp .eql 29 (.agg BL.toArray) (.agg BL.toArray)).run Tryz.prog W = .ok (.bool true) W := fun W => by rw [HBL.out]; exact eql_digest W kB kB rfl rfl
  have hec : ∀ W, (binOp .eql 29 (.agg CL.toArray) (.agg CL.toArray)).run Tryz.prog W = .ok (.bool true) W := fun W => by rw [hCL]; exact eql_digest W kZ kZ rfl rfl
  have HR1 : Hid (w10.rangeAt w.heap.size 0 AL) := by rw [HAL.out]; exact hK.row (r := (w.heap.size, kA)) (by simp)
  have HR2 : Hid (w10.rangeAt (w.heap.size + 1) 0 BL) := by rw [HBL.out]; exact hK.row (r := (w.heap.size + 1, kB)) (by simp)
  have HR4 : Hid (w10.rangeAt w4.heap.size 0 AL) := by rw [HAL.out]; exact hK.row (r := (w4.heap.size, kA)) (by simp)
  have HR5 : Hid (w10.rangeAt w5.heap.size 0 BL) := by rw [HBL.out]; exact hK.row (r := (w5.heap.size, kB)) (by simp)
  have HR6 : Hid (w10.rangeAt w6.heap.size 0 AL) := by rw [HAL.out]; exact hK.row (r := (w6.heap.size, kA)) (by simp)
  have HR7 : Hid (w10.rangeAt w7.heap.size 0 CL) := by rw [hCL]; exact hK.row (r := (w7.heap.size, kZ)) (by simp)
  have HBE : Hid _ := hK.bel
  rw [← hCL] at HDZ
  clear hK hCL
  go_wp2_with (first
    | (refine wpList_load_mid rfl 29 (.tmp 4) rfl w4.heap.size 0 rfl AL _ HR4.out Tryz.underlying29 rfl HAI.out ?_)
    | (refine wpList_load_mid rfl 29 (.tmp 1) rfl w.heap.size 0 rfl AL _ HR1.out Tryz.underlying29 rfl HAI.out ?_)
    | (refine load_mid_g (by rfl) 29 (.tmp 1) rfl w.heap.size 0 rfl AL _ HR1.out Tryz.underlying29 rfl HAI.out ?_)
    | (refine load_mid_g (by rfl) 29 (.tmp 2) rfl (w.heap.size + 1) 0 rfl BL _ HR2.out Tryz.underlying29 rfl HBI.out ?_)
    | (refine load_mid_g (by rfl) 29 (.tmp 6) rfl w5.heap.size 0 rfl BL _ HR5.out Tryz.underlying29 rfl HBI.out ?_)
    | (refine load_mid_g (by rfl) 29 (.tmp 8) rfl w6.heap.size 0 rfl AL _ HR6.out Tryz.underlying29 rfl HAI.out ?_)
    | (refine load_mid_g (by rfl) 29 (.tmp 10) rfl w7.heap.size 0 rfl CL _ HR7.out Tryz.underlying29 rfl HCI.out ?_)
    | (refine wpList_buildg (by rfl) 29 #[(0, .const (.int .u8 2)), (31, .const (.int .u8 1))] rfl #[(0, .int .u8 2), (31, .int .u8 1)] (.agg CL.toArray) (by simp; first | done | rfl | exact ⟨rfl, rfl⟩) (HDZ.out _) ?_)
    | (go_at_call 11; refine Calls.mono HUS.out ?_; rintro e w11 ⟨rfl, rfl⟩))
  go_ret
  exact ⟨rfl, HBE.out⟩
end Go.Proofs.YtefhjjjjbkkedaaGreat.R5
