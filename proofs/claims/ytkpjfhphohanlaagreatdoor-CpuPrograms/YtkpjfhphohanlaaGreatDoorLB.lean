/- cpu: the reference's forms, registers, and which instructions may be. -/
import Derived.Test.YtkpjfhphohanlaaGreatDoorJZ
set_option linter.unusedVariables false
set_option linter.unusedSimpArgs false
namespace Go.Proofs.YtkpjfhphohanlaaGreatDoor.JC
open Go.RowKit
open Go.Proofs.YtkpjfhphohanlaaGreatDoor.EC (row_lt heap_at rangeAt_below rangeAt_row ret_bool ret_i64 beq_int)

theorem wpList_bslice {ops : Array Oper} {rest : List Oper} {o : Oper} {a : Act} {Q : Exit → Act → World → Prop} {w w' : World} (hgd : o.guard = none) (t : TypeId) (n : Nat) (parts : Array (Nat × Operand)) (ho : o.op = .buildSlice t n parts) (vals : Array (Nat × Value)) (v : Value) (hp : (parts.map fun (i, x) => (i, a.eval x)) = vals)
    (hr : (Instr.buildSlice t n vals).run Tryz.prog w = .ok v w') (h : wpList Tryz.prog ops Q rest (a.put o.dst v) w') : wpList Tryz.prog ops Q (o :: rest) a w := by
  refine wpList_plain hgd fun K' hK' => ?_
  unfold Oper.wp execOp
  simp only [ho, Sem.run_bind, hp, hr, Result.andThen_ok]
  exact hK' _ _ h
/-- A form's row. -/
def fL (d a b m : Bool) (s : List UInt8) : List Value := [.bool d, .bool a, .bool b, .bool m, sV s]
def ofL (op : Int) : List Value := fL (fd op) (fa op) (fb op) (fi op) (nm op)
theorem fL_one (d a b m : Bool) (s : List UInt8) : (fL d a b m s).toArray.all (·.oneCell') = true := by simp [fL, sV, Value.oneCell']
theorem info5 (L : List Value) (h : L.length = 5) : (Tryz.prog.info? 88).map (·.size) = some L.length := by rw [h]; kernel_rfl
theorem info5a (L : List Value) (h : L.length = 5) : (Tryz.prog.info? 88).map (·.size) = some L.toArray.size := by rw [List.size_toArray, h]; kernel_rfl
def zF : List Value := fL false false false false []
theorem zero5 (W : World) : (zeroValue 88).run Tryz.prog W = .ok (.agg zF.toArray) W := by kernel_rfl
def w7 : List Value := [.string ⟨#[97, 100, 100]⟩, .string ⟨#[115, 117, 98]⟩, .string ⟨#[120, 111, 114]⟩, .string ⟨#[97, 110, 100]⟩, .string ⟨#[109, 117, 108]⟩, .string ⟨#[115, 104, 108]⟩, .string ⟨#[115, 104, 114]⟩]
theorem bs_w7 (w : World) : (Instr.buildSlice 60 7 #[(0, .string ⟨#[97, 100, 100]⟩), (1, .string ⟨#[115, 117, 98]⟩), (2, .string ⟨#[120, 111, 114]⟩), (3, .string ⟨#[97, 110, 100]⟩), (4, .string ⟨#[109, 117, 108]⟩), (5, .string ⟨#[115, 104, 108]⟩), (6, .string ⟨#[115, 104, 114]⟩)]).run Tryz.prog w = .ok (.slice (some ⟨w.heap.size, 0, none⟩) 7 7) (w.alloc (.cells w7.toArray 9 (0, 0))) := by kernel_rfl
theorem bF0 (W : World) : (Instr.build 88 #[]).run Tryz.prog W = .ok (.agg (ofL 0).toArray) W := by kernel_rfl
theorem bF1 (W : World) : (Instr.build 88 #[(4, .string ⟨#[110, 111, 112]⟩)]).run Tryz.prog W = .ok (.agg (ofL 1).toArray) W := by kernel_rfl
theorem bF2 (W : World) : (Instr.build 88 #[(0, .bool true), (3, .bool true), (4, .string ⟨#[115, 101, 116]⟩)]).run Tryz.prog W = .ok (.agg (ofL 2).toArray) W := by kernel_rfl
theorem bF3 (W : World) : (Instr.build 88 #[(0, .bool true), (1, .bool true), (4, .string ⟨#[109, 111, 118]⟩)]).run Tryz.prog W = .ok (.agg (ofL 3).toArray) W := by kernel_rfl
theorem bF4 (W : World) : (Instr.build 88 #[(0, .bool true), (1, .bool true), (2, .bool true), (4, .string ⟨#[97, 100, 100]⟩)]).run Tryz.prog W = .ok (.agg (ofL 4).toArray) W := by kernel_rfl
theorem bF5 (W : World) : (Instr.build 88 #[(0, .bool true), (1, .bool true), (2, .bool true), (4, .string ⟨#[115, 117, 98]⟩)]).run Tryz.prog W = .ok (.agg (ofL 5).toArray) W := by kernel_rfl
theorem bF6 (W : World) : (Instr.build 88 #[(0, .bool true), (1, .bool true), (2, .bool true), (4, .string ⟨#[120, 111, 114]⟩)]).run Tryz.prog W = .ok (.agg (ofL 6).toArray) W := by kernel_rfl
theorem bF7 (W : World) : (Instr.build 88 #[(0, .bool true), (1, .bool true), (2, .bool true), (4, .string ⟨#[97, 110, 100]⟩)]).run Tryz.prog W = .ok (.agg (ofL 7).toArray) W := by kernel_rfl
theorem bF8 (W : World) : (Instr.build 88 #[(0, .bool true), (1, .bool true), (2, .bool true), (4, .string ⟨#[109, 117, 108]⟩)]).run Tryz.prog W = .ok (.agg (ofL 8).toArray) W := by kernel_rfl
theorem bF9 (W : World) : (Instr.build 88 #[(0, .bool true), (1, .bool true), (2, .bool true), (4, .string ⟨#[115, 104, 108]⟩)]).run Tryz.prog W = .ok (.agg (ofL 9).toArray) W := by kernel_rfl
theorem bF10 (W : World) : (Instr.build 88 #[(0, .bool true), (1, .bool true), (2, .bool true), (4, .string ⟨#[115, 104, 114]⟩)]).run Tryz.prog W = .ok (.agg (ofL 10).toArray) W := by kernel_rfl
theorem bF11 (W : World) : (Instr.build 88 #[(0, .bool true), (1, .bool true), (3, .bool true), (4, .string ⟨#[108, 111, 97, 100]⟩)]).run Tryz.prog W = .ok (.agg (ofL 11).toArray) W := by kernel_rfl
theorem bF12 (W : World) : (Instr.build 88 #[(1, .bool true), (2, .bool true), (3, .bool true), (4, .string ⟨#[115, 116, 111, 114, 101]⟩)]).run Tryz.prog W = .ok (.agg (ofL 12).toArray) W := by kernel_rfl
theorem bF13 (W : World) : (Instr.build 88 #[(3, .bool true), (4, .string ⟨#[106, 117, 109, 112]⟩)]).run Tryz.prog W = .ok (.agg (ofL 13).toArray) W := by kernel_rfl
theorem bF14 (W : World) : (Instr.build 88 #[(1, .bool true), (3, .bool true), (4, .string ⟨#[98, 114, 97, 110, 99, 104]⟩)]).run Tryz.prog W = .ok (.agg (ofL 14).toArray) W := by kernel_rfl
theorem bF15 (W : World) : (Instr.build 88 #[(0, .bool true), (4, .string ⟨#[101, 110, 116, 114, 111, 112, 121]⟩)]).run Tryz.prog W = .ok (.agg (ofL 15).toArray) W := by kernel_rfl
theorem bF16 (W : World) : (Instr.build 88 #[(3, .bool true), (4, .string ⟨#[115, 101, 114, 118, 105, 99, 101]⟩)]).run Tryz.prog W = .ok (.agg (ofL 16).toArray) W := by kernel_rfl
theorem bF17 (W : World) : (Instr.build 88 #[(4, .string ⟨#[115, 116, 111, 112]⟩)]).run Tryz.prog W = .ok (.agg (ofL 17).toArray) W := by kernel_rfl
set_option maxHeartbeats 1000000 in
set_option maxRecDepth 100000 in
theorem of_1 (w : World) : Calls Tryz.prog 34 #[.int .i64 1] w fun e w' => e = .returned (.agg (ofL 1).toArray) ∧ Below w.heap.size w w' := by
  obtain ⟨ZL, hZL⟩ : ∃ L, L = zF := ⟨_, rfl⟩
  have hzv := fun W => zero5 W
  rw [← hZL] at hzv
  have HZN : Hid (ZL.length = 5) := by rw [hZL]; rfl
  have HS : Hid _ := fun W => bs_w7 W
  obtain ⟨SL, hSL⟩ : ∃ L, L = w7 := ⟨_, rfl⟩
  rw [← hSL] at HS
  obtain ⟨FL, hFL⟩ : ∃ L, L = ofL 1 := ⟨_, rfl⟩
  have HBF : Hid _ := fun W => bF1 W
  rw [← hFL] at HBF ⊢
  have HFN : Hid (FL.length = 5) := by rw [hFL]; rfl
  have HF1 : Hid (FL.toArray.all (·.oneCell') = true) := by show _ = _; rw [hFL]; exact fL_one _ _ _ _ _
  have hb0 : Below w.heap.size w ((w.alloc (.cells ZL.toArray 88 (0, 0))).alloc (.cells SL.toArray 9 (0, 0))) := ((Below.refl _ _).alloc (Nat.le_refl _) _).alloc (by simp) _
  have HB : Hid _ := hb0
  have HR : Hid (((w.alloc (.cells ZL.toArray 88 (0, 0))).alloc (.cells SL.toArray 9 (0, 0))).heap[w.heap.size]? = some (.cells ZL.toArray 88 (0, 0))) := (heap_alloc_old _ _ (by simp)).trans (heap_alloc_new _ _)
  skip
  clear hZL hSL hFL hb0
  go_enter Tryz.func34, Tryz.ntmps34
  go_wp2_with (first
    | (refine wpList_bslice rfl 60 7 #[(0, .const (.string ⟨#[97, 100, 100]⟩)), (1, .const (.string ⟨#[115, 117, 98]⟩)), (2, .const (.string ⟨#[120, 111, 114]⟩)), (3, .const (.string ⟨#[97, 110, 100]⟩)), (4, .const (.string ⟨#[109, 117, 108]⟩)), (5, .const (.string ⟨#[115, 104, 108]⟩)), (6, .const (.string ⟨#[115, 104, 114]⟩))] rfl #[(0, .string ⟨#[97, 100, 100]⟩), (1, .string ⟨#[115, 117, 98]⟩), (2, .string ⟨#[120, 111, 114]⟩), (3, .string ⟨#[97, 110, 100]⟩), (4, .string ⟨#[109, 117, 108]⟩), (5, .string ⟨#[115, 104, 108]⟩), (6, .string ⟨#[115, 104, 114]⟩)] _ (by simp [Act.eval]) (HS.out _) ?_)
    | (refine wpList_build rfl 88 #[(4, .const (.string ⟨#[110, 111, 112]⟩))] rfl #[(4, .string ⟨#[110, 111, 112]⟩)] (.agg FL.toArray) (by simp [Act.eval]) (HBF.out _) ?_)
    | (refine wpList_store_row rfl 88 _ _ rfl w.heap.size FL.toArray rfl rfl 88 ZL.toArray HR.out (info5a FL HFN.out) (by simp [HZN.out, HFN.out]) HF1.out ?_))
  exact bodyPost_ret (v := .agg FL.toArray) (results1 Tryz.results34 _ _ w.heap.size (setRow_heap _ _ _ _ _ _ HR.out) Tryz.underlying88 rfl (info5 FL HFN.out) rfl) rfl ⟨rfl, below_setRow HB.out (Nat.le_refl _) _⟩
set_option maxHeartbeats 1000000 in
set_option maxRecDepth 100000 in
theorem of_2 (w : World) : Calls Tryz.prog 34 #[.int .i64 2] w fun e w' => e = .returned (.agg (ofL 2).toArray) ∧ Below w.heap.size w w' := by
  obtain ⟨ZL, hZL⟩ : ∃ L, L = zF := ⟨_, rfl⟩
  have hzv := fun W => zero5 W
  rw [← hZL] at hzv
  have HZN : Hid (ZL.length = 5) := by rw [hZL]; rfl
  have HS : Hid _ := fun W => bs_w7 W
  obtain ⟨SL, hSL⟩ : ∃ L, L = w7 := ⟨_, rfl⟩
  rw [← hSL] at HS
  obtain ⟨FL, hFL⟩ : ∃ L, L = ofL 2 := ⟨_, rfl⟩
  have HBF : Hid _ := fun W => bF2 W
  rw [← hFL] at HBF ⊢
  have HFN : Hid (FL.length = 5) := by rw [hFL]; rfl
  have HF1 : Hid (FL.toArray.all (·.oneCell') = true) := by show _ = _; rw [hFL]; exact fL_one _ _ _ _ _
  have hb0 : Below w.heap.size w ((w.alloc (.cells ZL.toArray 88 (0, 0))).alloc (.cells SL.toArray 9 (0, 0))) := ((Below.refl _ _).alloc (Nat.le_refl _) _).alloc (by simp) _
  have HB : Hid _ := hb0
  have HR : Hid (((w.alloc (.cells ZL.toArray 88 (0, 0))).alloc (.cells SL.toArray 9 (0, 0))).heap[w.heap.size]? = some (.cells ZL.toArray 88 (0, 0))) := (heap_alloc_old _ _ (by simp)).trans (heap_alloc_new _ _)
  skip
  clear hZL hSL hFL hb0
  go_enter Tryz.func34, Tryz.ntmps34
  go_wp2_with (first
    | (refine wpList_bslice rfl 60 7 #[(0, .const (.string ⟨#[97, 100, 100]⟩)), (1, .const (.string ⟨#[115, 117, 98]⟩)), (2, .const (.string ⟨#[120, 111, 114]⟩)), (3, .const (.string ⟨#[97, 110, 100]⟩)), (4, .const (.string ⟨#[109, 117, 108]⟩)), (5, .const (.string ⟨#[115, 104, 108]⟩)), (6, .const (.string ⟨#[115, 104, 114]⟩))] rfl #[(0, .string ⟨#[97, 100, 100]⟩), (1, .string ⟨#[115, 117, 98]⟩), (2, .string ⟨#[120, 111, 114]⟩), (3, .string ⟨#[97, 110, 100]⟩), (4, .string ⟨#[109, 117, 108]⟩), (5, .string ⟨#[115, 104, 108]⟩), (6, .string ⟨#[115, 104, 114]⟩)] _ (by simp [Act.eval]) (HS.out _) ?_)
    | (refine wpList_build rfl 88 #[(0, .const (.bool true)), (3, .const (.bool true)), (4, .const (.string ⟨#[115, 101, 116]⟩))] rfl #[(0, .bool true), (3, .bool true), (4, .string ⟨#[115, 101, 116]⟩)] (.agg FL.toArray) (by simp [Act.eval]) (HBF.out _) ?_)
    | (refine wpList_store_row rfl 88 _ _ rfl w.heap.size FL.toArray rfl rfl 88 ZL.toArray HR.out (info5a FL HFN.out) (by simp [HZN.out, HFN.out]) HF1.out ?_))
  exact bodyPost_ret (v := .agg FL.toArray) (results1 Tryz.results34 _ _ w.heap.size (setRow_heap _ _ _ _ _ _ HR.out) Tryz.underlying88 rfl (info5 FL HFN.out) rfl) rfl ⟨rfl, below_setRow HB.out (Nat.le_refl _) _⟩
set_option maxHeartbeats 1000000 in
set_option maxRecDepth 100000 in
theorem of_3 (w : World) : Calls Tryz.prog 34 #[.int .i64 3] w fun e w' => e = .returned (.agg (ofL 3).toArray) ∧ Below w.heap.size w w' := by
  obtain ⟨ZL, hZL⟩ : ∃ L, L = zF := ⟨_, rfl⟩
  have hzv := fun W => zero5 W
  rw [← hZL] at hzv
  have HZN : Hid (ZL.length = 5) := by rw [hZL]; rfl
  have HS : Hid _ := fun W => bs_w7 W
  obtain ⟨SL, hSL⟩ : ∃ L, L = w7 := ⟨_, rfl⟩
  rw [← hSL] at HS
  obtain ⟨FL, hFL⟩ : ∃ L, L = ofL 3 := ⟨_, rfl⟩
  have HBF : Hid _ := fun W => bF3 W
  rw [← hFL] at HBF ⊢
  have HFN : Hid (FL.length = 5) := by rw [hFL]; rfl
  have HF1 : Hid (FL.toArray.all (·.oneCell') = true) := by show _ = _; rw [hFL]; exact fL_one _ _ _ _ _
  have hb0 : Below w.heap.size w ((w.alloc (.cells ZL.toArray 88 (0, 0))).alloc (.cells SL.toArray 9 (0, 0))) := ((Below.refl _ _).alloc (Nat.le_refl _) _).alloc (by simp) _
  have HB : Hid _ := hb0
  have HR : Hid (((w.alloc (.cells ZL.toArray 88 (0, 0))).alloc (.cells SL.toArray 9 (0, 0))).heap[w.heap.size]? = some (.cells ZL.toArray 88 (0, 0))) := (heap_alloc_old _ _ (by simp)).trans (heap_alloc_new _ _)
  skip
  clear hZL hSL hFL hb0
  go_enter Tryz.func34, Tryz.ntmps34
  go_wp2_with (first
    | (refine wpList_bslice rfl 60 7 #[(0, .const (.string ⟨#[97, 100, 100]⟩)), (1, .const (.string ⟨#[115, 117, 98]⟩)), (2, .const (.string ⟨#[120, 111, 114]⟩)), (3, .const (.string ⟨#[97, 110, 100]⟩)), (4, .const (.string ⟨#[109, 117, 108]⟩)), (5, .const (.string ⟨#[115, 104, 108]⟩)), (6, .const (.string ⟨#[115, 104, 114]⟩))] rfl #[(0, .string ⟨#[97, 100, 100]⟩), (1, .string ⟨#[115, 117, 98]⟩), (2, .string ⟨#[120, 111, 114]⟩), (3, .string ⟨#[97, 110, 100]⟩), (4, .string ⟨#[109, 117, 108]⟩), (5, .string ⟨#[115, 104, 108]⟩), (6, .string ⟨#[115, 104, 114]⟩)] _ (by simp [Act.eval]) (HS.out _) ?_)
    | (refine wpList_build rfl 88 #[(0, .const (.bool true)), (1, .const (.bool true)), (4, .const (.string ⟨#[109, 111, 118]⟩))] rfl #[(0, .bool true), (1, .bool true), (4, .string ⟨#[109, 111, 118]⟩)] (.agg FL.toArray) (by simp [Act.eval]) (HBF.out _) ?_)
    | (refine wpList_store_row rfl 88 _ _ rfl w.heap.size FL.toArray rfl rfl 88 ZL.toArray HR.out (info5a FL HFN.out) (by simp [HZN.out, HFN.out]) HF1.out ?_))
  exact bodyPost_ret (v := .agg FL.toArray) (results1 Tryz.results34 _ _ w.heap.size (setRow_heap _ _ _ _ _ _ HR.out) Tryz.underlying88 rfl (info5 FL HFN.out) rfl) rfl ⟨rfl, below_setRow HB.out (Nat.le_refl _) _⟩
set_option maxHeartbeats 1000000 in
set_option maxRecDepth 100000 in
theorem of_4 (w : World) : Calls Tryz.prog 34 #[.int .i64 4] w fun e w' => e = .returned (.agg (ofL 4).toArray) ∧ Below w.heap.size w w' := by
  obtain ⟨ZL, hZL⟩ : ∃ L, L = zF := ⟨_, rfl⟩
  have hzv := fun W => zero5 W
  rw [← hZL] at hzv
  have HZN : Hid (ZL.length = 5) := by rw [hZL]; rfl
  have HS : Hid _ := fun W => bs_w7 W
  obtain ⟨SL, hSL⟩ : ∃ L, L = w7 := ⟨_, rfl⟩
  rw [← hSL] at HS
  obtain ⟨FL, hFL⟩ : ∃ L, L = ofL 4 := ⟨_, rfl⟩
  have HBF : Hid _ := fun W => bF4 W
  rw [← hFL] at HBF ⊢
  have HFN : Hid (FL.length = 5) := by rw [hFL]; rfl
  have HF1 : Hid (FL.toArray.all (·.oneCell') = true) := by show _ = _; rw [hFL]; exact fL_one _ _ _ _ _
  have hb0 : Below w.heap.size w ((w.alloc (.cells ZL.toArray 88 (0, 0))).alloc (.cells SL.toArray 9 (0, 0))) := ((Below.refl _ _).alloc (Nat.le_refl _) _).alloc (by simp) _
  have HB : Hid _ := hb0
  have HR : Hid (((w.alloc (.cells ZL.toArray 88 (0, 0))).alloc (.cells SL.toArray 9 (0, 0))).heap[w.heap.size]? = some (.cells ZL.toArray 88 (0, 0))) := (heap_alloc_old _ _ (by simp)).trans (heap_alloc_new _ _)
  have hcw : ((w.alloc (.cells ZL.toArray 88 (0, 0))).alloc (.cells SL.toArray 9 (0, 0))).cell? ⟨w.heap.size + 1, 0, none⟩ = some (.string ⟨#[97, 100, 100]⟩) := (fields5 _ _ _ _ _ (heap_at _ _ _ (by simp)) 0).trans (by rw [hSL]; rfl)
  clear hZL hSL hFL hb0
  go_enter Tryz.func34, Tryz.ntmps34
  go_wp2_with (first
    | (refine wpList_bslice rfl 60 7 #[(0, .const (.string ⟨#[97, 100, 100]⟩)), (1, .const (.string ⟨#[115, 117, 98]⟩)), (2, .const (.string ⟨#[120, 111, 114]⟩)), (3, .const (.string ⟨#[97, 110, 100]⟩)), (4, .const (.string ⟨#[109, 117, 108]⟩)), (5, .const (.string ⟨#[115, 104, 108]⟩)), (6, .const (.string ⟨#[115, 104, 114]⟩))] rfl #[(0, .string ⟨#[97, 100, 100]⟩), (1, .string ⟨#[115, 117, 98]⟩), (2, .string ⟨#[120, 111, 114]⟩), (3, .string ⟨#[97, 110, 100]⟩), (4, .string ⟨#[109, 117, 108]⟩), (5, .string ⟨#[115, 104, 108]⟩), (6, .string ⟨#[115, 104, 114]⟩)] _ (by simp [Act.eval]) (HS.out _) ?_)
    | (refine wpList_build rfl 88 #[(0, .const (.bool true)), (1, .const (.bool true)), (2, .const (.bool true)), (4, .tmp 28)] rfl #[(0, .bool true), (1, .bool true), (2, .bool true), (4, .string ⟨#[97, 100, 100]⟩)] (.agg FL.toArray) (by simp [Act.eval]) (HBF.out _) ?_)
    | (refine wpList_store_row rfl 88 _ _ rfl w.heap.size FL.toArray rfl rfl 88 ZL.toArray HR.out (info5a FL HFN.out) (by simp [HZN.out, HFN.out]) HF1.out ?_))
  exact bodyPost_ret (v := .agg FL.toArray) (results1 Tryz.results34 _ _ w.heap.size (setRow_heap _ _ _ _ _ _ HR.out) Tryz.underlying88 rfl (info5 FL HFN.out) rfl) rfl ⟨rfl, below_setRow HB.out (Nat.le_refl _) _⟩
set_option maxHeartbeats 1000000 in
set_option maxRecDepth 100000 in
theorem of_5 (w : World) : Calls Tryz.prog 34 #[.int .i64 5] w fun e w' => e = .returned (.agg (ofL 5).toArray) ∧ Below w.heap.size w w' := by
  obtain ⟨ZL, hZL⟩ : ∃ L, L = zF := ⟨_, rfl⟩
  have hzv := fun W => zero5 W
  rw [← hZL] at hzv
  have HZN : Hid (ZL.length = 5) := by rw [hZL]; rfl
  have HS : Hid _ := fun W => bs_w7 W
  obtain ⟨SL, hSL⟩ : ∃ L, L = w7 := ⟨_, rfl⟩
  rw [← hSL] at HS
  obtain ⟨FL, hFL⟩ : ∃ L, L = ofL 5 := ⟨_, rfl⟩
  have HBF : Hid _ := fun W => bF5 W
  rw [← hFL] at HBF ⊢
  have HFN : Hid (FL.length = 5) := by rw [hFL]; rfl
  have HF1 : Hid (FL.toArray.all (·.oneCell') = true) := by show _ = _; rw [hFL]; exact fL_one _ _ _ _ _
  have hb0 : Below w.heap.size w ((w.alloc (.cells ZL.toArray 88 (0, 0))).alloc (.cells SL.toArray 9 (0, 0))) := ((Below.refl _ _).alloc (Nat.le_refl _) _).alloc (by simp) _
  have HB : Hid _ := hb0
  have HR : Hid (((w.alloc (.cells ZL.toArray 88 (0, 0))).alloc (.cells SL.toArray 9 (0, 0))).heap[w.heap.size]? = some (.cells ZL.toArray 88 (0, 0))) := (heap_alloc_old _ _ (by simp)).trans (heap_alloc_new _ _)
  have hcw : ((w.alloc (.cells ZL.toArray 88 (0, 0))).alloc (.cells SL.toArray 9 (0, 0))).cell? ⟨w.heap.size + 1, 1, none⟩ = some (.string ⟨#[115, 117, 98]⟩) := (fields5 _ _ _ _ _ (heap_at _ _ _ (by simp)) 1).trans (by rw [hSL]; rfl)
  clear hZL hSL hFL hb0
  go_enter Tryz.func34, Tryz.ntmps34
  go_wp2_with (first
    | (refine wpList_bslice rfl 60 7 #[(0, .const (.string ⟨#[97, 100, 100]⟩)), (1, .const (.string ⟨#[115, 117, 98]⟩)), (2, .const (.string ⟨#[120, 111, 114]⟩)), (3, .const (.string ⟨#[97, 110, 100]⟩)), (4, .const (.string ⟨#[109, 117, 108]⟩)), (5, .const (.string ⟨#[115, 104, 108]⟩)), (6, .const (.string ⟨#[115, 104, 114]⟩))] rfl #[(0, .string ⟨#[97, 100, 100]⟩), (1, .string ⟨#[115, 117, 98]⟩), (2, .string ⟨#[120, 111, 114]⟩), (3, .string ⟨#[97, 110, 100]⟩), (4, .string ⟨#[109, 117, 108]⟩), (5, .string ⟨#[115, 104, 108]⟩), (6, .string ⟨#[115, 104, 114]⟩)] _ (by simp [Act.eval]) (HS.out _) ?_)
    | (refine wpList_build rfl 88 #[(0, .const (.bool true)), (1, .const (.bool true)), (2, .const (.bool true)), (4, .tmp 28)] rfl #[(0, .bool true), (1, .bool true), (2, .bool true), (4, .string ⟨#[115, 117, 98]⟩)] (.agg FL.toArray) (by simp [Act.eval]) (HBF.out _) ?_)
    | (refine wpList_store_row rfl 88 _ _ rfl w.heap.size FL.toArray rfl rfl 88 ZL.toArray HR.out (info5a FL HFN.out) (by simp [HZN.out, HFN.out]) HF1.out ?_))
  exact bodyPost_ret (v := .agg FL.toArray) (results1 Tryz.results34 _ _ w.heap.size (setRow_heap _ _ _ _ _ _ HR.out) Tryz.underlying88 rfl (info5 FL HFN.out) rfl) rfl ⟨rfl, below_setRow HB.out (Nat.le_refl _) _⟩
set_option maxHeartbeats 1000000 in
set_option maxRecDepth 100000 in
theorem of_6 (w : World) : Calls Tryz.prog 34 #[.int .i64 6] w fun e w' => e = .returned (.agg (ofL 6).toArray) ∧ Below w.heap.size w w' := by
  obtain ⟨ZL, hZL⟩ : ∃ L, L = zF := ⟨_, rfl⟩
  have hzv := fun W => zero5 W
  rw [← hZL] at hzv
  have HZN : Hid (ZL.length = 5) := by rw [hZL]; rfl
  have HS : Hid _ := fun W => bs_w7 W
  obtain ⟨SL, hSL⟩ : ∃ L, L = w7 := ⟨_, rfl⟩
  rw [← hSL] at HS
  obtain ⟨FL, hFL⟩ : ∃ L, L = ofL 6 := ⟨_, rfl⟩
  have HBF : Hid _ := fun W => bF6 W
  rw [← hFL] at HBF ⊢
  have HFN : Hid (FL.length = 5) := by rw [hFL]; rfl
  have HF1 : Hid (FL.toArray.all (·.oneCell') = true) := by show _ = _; rw [hFL]; exact fL_one _ _ _ _ _
  have hb0 : Below w.heap.size w ((w.alloc (.cells ZL.toArray 88 (0, 0))).alloc (.cells SL.toArray 9 (0, 0))) := ((Below.refl _ _).alloc (Nat.le_refl _) _).alloc (by simp) _
  have HB : Hid _ := hb0
  have HR : Hid (((w.alloc (.cells ZL.toArray 88 (0, 0))).alloc (.cells SL.toArray 9 (0, 0))).heap[w.heap.size]? = some (.cells ZL.toArray 88 (0, 0))) := (heap_alloc_old _ _ (by simp)).trans (heap_alloc_new _ _)
  have hcw : ((w.alloc (.cells ZL.toArray 88 (0, 0))).alloc (.cells SL.toArray 9 (0, 0))).cell? ⟨w.heap.size + 1, 2, none⟩ = some (.string ⟨#[120, 111, 114]⟩) := (fields5 _ _ _ _ _ (heap_at _ _ _ (by simp)) 2).trans (by rw [hSL]; rfl)
  clear hZL hSL hFL hb0
  go_enter Tryz.func34, Tryz.ntmps34
  go_wp2_with (first
    | (refine wpList_bslice rfl 60 7 #[(0, .const (.string ⟨#[97, 100, 100]⟩)), (1, .const (.string ⟨#[115, 117, 98]⟩)), (2, .const (.string ⟨#[120, 111, 114]⟩)), (3, .const (.string ⟨#[97, 110, 100]⟩)), (4, .const (.string ⟨#[109, 117, 108]⟩)), (5, .const (.string ⟨#[115, 104, 108]⟩)), (6, .const (.string ⟨#[115, 104, 114]⟩))] rfl #[(0, .string ⟨#[97, 100, 100]⟩), (1, .string ⟨#[115, 117, 98]⟩), (2, .string ⟨#[120, 111, 114]⟩), (3, .string ⟨#[97, 110, 100]⟩), (4, .string ⟨#[109, 117, 108]⟩), (5, .string ⟨#[115, 104, 108]⟩), (6, .string ⟨#[115, 104, 114]⟩)] _ (by simp [Act.eval]) (HS.out _) ?_)
    | (refine wpList_build rfl 88 #[(0, .const (.bool true)), (1, .const (.bool true)), (2, .const (.bool true)), (4, .tmp 28)] rfl #[(0, .bool true), (1, .bool true), (2, .bool true), (4, .string ⟨#[120, 111, 114]⟩)] (.agg FL.toArray) (by simp [Act.eval]) (HBF.out _) ?_)
    | (refine wpList_store_row rfl 88 _ _ rfl w.heap.size FL.toArray rfl rfl 88 ZL.toArray HR.out (info5a FL HFN.out) (by simp [HZN.out, HFN.out]) HF1.out ?_))
  exact bodyPost_ret (v := .agg FL.toArray) (results1 Tryz.results34 _ _ w.heap.size (setRow_heap _ _ _ _ _ _ HR.out) Tryz.underlying88 rfl (info5 FL HFN.out) rfl) rfl ⟨rfl, below_setRow HB.out (Nat.le_refl _) _⟩
set_option maxHeartbeats 1000000 in
set_option maxRecDepth 100000 in
theorem of_7 (w : World) : Calls Tryz.prog 34 #[.int .i64 7] w fun e w' => e = .returned (.agg (ofL 7).toArray) ∧ Below w.heap.size w w' := by
  obtain ⟨ZL, hZL⟩ : ∃ L, L = zF := ⟨_, rfl⟩
  have hzv := fun W => zero5 W
  rw [← hZL] at hzv
  have HZN : Hid (ZL.length = 5) := by rw [hZL]; rfl
  have HS : Hid _ := fun W => bs_w7 W
  obtain ⟨SL, hSL⟩ : ∃ L, L = w7 := ⟨_, rfl⟩
  rw [← hSL] at HS
  obtain ⟨FL, hFL⟩ : ∃ L, L = ofL 7 := ⟨_, rfl⟩
  have HBF : Hid _ := fun W => bF7 W
  rw [← hFL] at HBF ⊢
  have HFN : Hid (FL.length = 5) := by rw [hFL]; rfl
  have HF1 : Hid (FL.toArray.all (·.oneCell') = true) := by show _ = _; rw [hFL]; exact fL_one _ _ _ _ _
  have hb0 : Below w.heap.size w ((w.alloc (.cells ZL.toArray 88 (0, 0))).alloc (.cells SL.toArray 9 (0, 0))) := ((Below.refl _ _).alloc (Nat.le_refl _) _).alloc (by simp) _
  have HB : Hid _ := hb0
  have HR : Hid (((w.alloc (.cells ZL.toArray 88 (0, 0))).alloc (.cells SL.toArray 9 (0, 0))).heap[w.heap.size]? = some (.cells ZL.toArray 88 (0, 0))) := (heap_alloc_old _ _ (by simp)).trans (heap_alloc_new _ _)
  have hcw : ((w.alloc (.cells ZL.toArray 88 (0, 0))).alloc (.cells SL.toArray 9 (0, 0))).cell? ⟨w.heap.size + 1, 3, none⟩ = some (.string ⟨#[97, 110, 100]⟩) := (fields5 _ _ _ _ _ (heap_at _ _ _ (by simp)) 3).trans (by rw [hSL]; rfl)
  clear hZL hSL hFL hb0
  go_enter Tryz.func34, Tryz.ntmps34
  go_wp2_with (first
    | (refine wpList_bslice rfl 60 7 #[(0, .const (.string ⟨#[97, 100, 100]⟩)), (1, .const (.string ⟨#[115, 117, 98]⟩)), (2, .const (.string ⟨#[120, 111, 114]⟩)), (3, .const (.string ⟨#[97, 110, 100]⟩)), (4, .const (.string ⟨#[109, 117, 108]⟩)), (5, .const (.string ⟨#[115, 104, 108]⟩)), (6, .const (.string ⟨#[115, 104, 114]⟩))] rfl #[(0, .string ⟨#[97, 100, 100]⟩), (1, .string ⟨#[115, 117, 98]⟩), (2, .string ⟨#[120, 111, 114]⟩), (3, .string ⟨#[97, 110, 100]⟩), (4, .string ⟨#[109, 117, 108]⟩), (5, .string ⟨#[115, 104, 108]⟩), (6, .string ⟨#[115, 104, 114]⟩)] _ (by simp [Act.eval]) (HS.out _) ?_)
    | (refine wpList_build rfl 88 #[(0, .const (.bool true)), (1, .const (.bool true)), (2, .const (.bool true)), (4, .tmp 28)] rfl #[(0, .bool true), (1, .bool true), (2, .bool true), (4, .string ⟨#[97, 110, 100]⟩)] (.agg FL.toArray) (by simp [Act.eval]) (HBF.out _) ?_)
    | (refine wpList_store_row rfl 88 _ _ rfl w.heap.size FL.toArray rfl rfl 88 ZL.toArray HR.out (info5a FL HFN.out) (by simp [HZN.out, HFN.out]) HF1.out ?_))
  exact bodyPost_ret (v := .agg FL.toArray) (results1 Tryz.results34 _ _ w.heap.size (setRow_heap _ _ _ _ _ _ HR.out) Tryz.underlying88 rfl (info5 FL HFN.out) rfl) rfl ⟨rfl, below_setRow HB.out (Nat.le_refl _) _⟩
set_option maxHeartbeats 1000000 in
set_option maxRecDepth 100000 in
theorem of_8 (w : World) : Calls Tryz.prog 34 #[.int .i64 8] w fun e w' => e = .returned (.agg (ofL 8).toArray) ∧ Below w.heap.size w w' := by
  obtain ⟨ZL, hZL⟩ : ∃ L, L = zF := ⟨_, rfl⟩
  have hzv := fun W => zero5 W
  rw [← hZL] at hzv
  have HZN : Hid (ZL.length = 5) := by rw [hZL]; rfl
  have HS : Hid _ := fun W => bs_w7 W
  obtain ⟨SL, hSL⟩ : ∃ L, L = w7 := ⟨_, rfl⟩
  rw [← hSL] at HS
  obtain ⟨FL, hFL⟩ : ∃ L, L = ofL 8 := ⟨_, rfl⟩
  have HBF : Hid _ := fun W => bF8 W
  rw [← hFL] at HBF ⊢
  have HFN : Hid (FL.length = 5) := by rw [hFL]; rfl
  have HF1 : Hid (FL.toArray.all (·.oneCell') = true) := by show _ = _; rw [hFL]; exact fL_one _ _ _ _ _
  have hb0 : Below w.heap.size w ((w.alloc (.cells ZL.toArray 88 (0, 0))).alloc (.cells SL.toArray 9 (0, 0))) := ((Below.refl _ _).alloc (Nat.le_refl _) _).alloc (by simp) _
  have HB : Hid _ := hb0
  have HR : Hid (((w.alloc (.cells ZL.toArray 88 (0, 0))).alloc (.cells SL.toArray 9 (0, 0))).heap[w.heap.size]? = some (.cells ZL.toArray 88 (0, 0))) := (heap_alloc_old _ _ (by simp)).trans (heap_alloc_new _ _)
  have hcw : ((w.alloc (.cells ZL.toArray 88 (0, 0))).alloc (.cells SL.toArray 9 (0, 0))).cell? ⟨w.heap.size + 1, 4, none⟩ = some (.string ⟨#[109, 117, 108]⟩) := (fields5 _ _ _ _ _ (heap_at _ _ _ (by simp)) 4).trans (by rw [hSL]; rfl)
  clear hZL hSL hFL hb0
  go_enter Tryz.func34, Tryz.ntmps34
  go_wp2_with (first
    | (refine wpList_bslice rfl 60 7 #[(0, .const (.string ⟨#[97, 100, 100]⟩)), (1, .const (.string ⟨#[115, 117, 98]⟩)), (2, .const (.string ⟨#[120, 111, 114]⟩)), (3, .const (.string ⟨#[97, 110, 100]⟩)), (4, .const (.string ⟨#[109, 117, 108]⟩)), (5, .const (.string ⟨#[115, 104, 108]⟩)), (6, .const (.string ⟨#[115, 104, 114]⟩))] rfl #[(0, .string ⟨#[97, 100, 100]⟩), (1, .string ⟨#[115, 117, 98]⟩), (2, .string ⟨#[120, 111, 114]⟩), (3, .string ⟨#[97, 110, 100]⟩), (4, .string ⟨#[109, 117, 108]⟩), (5, .string ⟨#[115, 104, 108]⟩), (6, .string ⟨#[115, 104, 114]⟩)] _ (by simp [Act.eval]) (HS.out _) ?_)
    | (refine wpList_build rfl 88 #[(0, .const (.bool true)), (1, .const (.bool true)), (2, .const (.bool true)), (4, .tmp 28)] rfl #[(0, .bool true), (1, .bool true), (2, .bool true), (4, .string ⟨#[109, 117, 108]⟩)] (.agg FL.toArray) (by simp [Act.eval]) (HBF.out _) ?_)
    | (refine wpList_store_row rfl 88 _ _ rfl w.heap.size FL.toArray rfl rfl 88 ZL.toArray HR.out (info5a FL HFN.out) (by simp [HZN.out, HFN.out]) HF1.out ?_))
  exact bodyPost_ret (v := .agg FL.toArray) (results1 Tryz.results34 _ _ w.heap.size (setRow_heap _ _ _ _ _ _ HR.out) Tryz.underlying88 rfl (info5 FL HFN.out) rfl) rfl ⟨rfl, below_setRow HB.out (Nat.le_refl _) _⟩
set_option maxHeartbeats 1000000 in
set_option maxRecDepth 100000 in
theorem of_9 (w : World) : Calls Tryz.prog 34 #[.int .i64 9] w fun e w' => e = .returned (.agg (ofL 9).toArray) ∧ Below w.heap.size w w' := by
  obtain ⟨ZL, hZL⟩ : ∃ L, L = zF := ⟨_, rfl⟩
  have hzv := fun W => zero5 W
  rw [← hZL] at hzv
  have HZN : Hid (ZL.length = 5) := by rw [hZL]; rfl
  have HS : Hid _ := fun W => bs_w7 W
  obtain ⟨SL, hSL⟩ : ∃ L, L = w7 := ⟨_, rfl⟩
  rw [← hSL] at HS
  obtain ⟨FL, hFL⟩ : ∃ L, L = ofL 9 := ⟨_, rfl⟩
  have HBF : Hid _ := fun W => bF9 W
  rw [← hFL] at HBF ⊢
  have HFN : Hid (FL.length = 5) := by rw [hFL]; rfl
  have HF1 : Hid (FL.toArray.all (·.oneCell') = true) := by show _ = _; rw [hFL]; exact fL_one _ _ _ _ _
  have hb0 : Below w.heap.size w ((w.alloc (.cells ZL.toArray 88 (0, 0))).alloc (.cells SL.toArray 9 (0, 0))) := ((Below.refl _ _).alloc (Nat.le_refl _) _).alloc (by simp) _
  have HB : Hid _ := hb0
  have HR : Hid (((w.alloc (.cells ZL.toArray 88 (0, 0))).alloc (.cells SL.toArray 9 (0, 0))).heap[w.heap.size]? = some (.cells ZL.toArray 88 (0, 0))) := (heap_alloc_old _ _ (by simp)).trans (heap_alloc_new _ _)
  have hcw : ((w.alloc (.cells ZL.toArray 88 (0, 0))).alloc (.cells SL.toArray 9 (0, 0))).cell? ⟨w.heap.size + 1, 5, none⟩ = some (.string ⟨#[115, 104, 108]⟩) := (fields5 _ _ _ _ _ (heap_at _ _ _ (by simp)) 5).trans (by rw [hSL]; rfl)
  clear hZL hSL hFL hb0
  go_enter Tryz.func34, Tryz.ntmps34
  go_wp2_with (first
    | (refine wpList_bslice rfl 60 7 #[(0, .const (.string ⟨#[97, 100, 100]⟩)), (1, .const (.string ⟨#[115, 117, 98]⟩)), (2, .const (.string ⟨#[120, 111, 114]⟩)), (3, .const (.string ⟨#[97, 110, 100]⟩)), (4, .const (.string ⟨#[109, 117, 108]⟩)), (5, .const (.string ⟨#[115, 104, 108]⟩)), (6, .const (.string ⟨#[115, 104, 114]⟩))] rfl #[(0, .string ⟨#[97, 100, 100]⟩), (1, .string ⟨#[115, 117, 98]⟩), (2, .string ⟨#[120, 111, 114]⟩), (3, .string ⟨#[97, 110, 100]⟩), (4, .string ⟨#[109, 117, 108]⟩), (5, .string ⟨#[115, 104, 108]⟩), (6, .string ⟨#[115, 104, 114]⟩)] _ (by simp [Act.eval]) (HS.out _) ?_)
    | (refine wpList_build rfl 88 #[(0, .const (.bool true)), (1, .const (.bool true)), (2, .const (.bool true)), (4, .tmp 28)] rfl #[(0, .bool true), (1, .bool true), (2, .bool true), (4, .string ⟨#[115, 104, 108]⟩)] (.agg FL.toArray) (by simp [Act.eval]) (HBF.out _) ?_)
    | (refine wpList_store_row rfl 88 _ _ rfl w.heap.size FL.toArray rfl rfl 88 ZL.toArray HR.out (info5a FL HFN.out) (by simp [HZN.out, HFN.out]) HF1.out ?_))
  exact bodyPost_ret (v := .agg FL.toArray) (results1 Tryz.results34 _ _ w.heap.size (setRow_heap _ _ _ _ _ _ HR.out) Tryz.underlying88 rfl (info5 FL HFN.out) rfl) rfl ⟨rfl, below_setRow HB.out (Nat.le_refl _) _⟩
set_option maxHeartbeats 1000000 in
set_option maxRecDepth 100000 in
theorem of_10 (w : World) : Calls Tryz.prog 34 #[.int .i64 10] w fun e w' => e = .returned (.agg (ofL 10).toArray) ∧ Below w.heap.size w w' := by
  obtain ⟨ZL, hZL⟩ : ∃ L, L = zF := ⟨_, rfl⟩
  have hzv := fun W => zero5 W
  rw [← hZL] at hzv
  have HZN : Hid (ZL.length = 5) := by rw [hZL]; rfl
  have HS : Hid _ := fun W => bs_w7 W
  obtain ⟨SL, hSL⟩ : ∃ L, L = w7 := ⟨_, rfl⟩
  rw [← hSL] at HS
  obtain ⟨FL, hFL⟩ : ∃ L, L = ofL 10 := ⟨_, rfl⟩
  have HBF : Hid _ := fun W => bF10 W
  rw [← hFL] at HBF ⊢
  have HFN : Hid (FL.length = 5) := by rw [hFL]; rfl
  have HF1 : Hid (FL.toArray.all (·.oneCell') = true) := by show _ = _; rw [hFL]; exact fL_one _ _ _ _ _
  have hb0 : Below w.heap.size w ((w.alloc (.cells ZL.toArray 88 (0, 0))).alloc (.cells SL.toArray 9 (0, 0))) := ((Below.refl _ _).alloc (Nat.le_refl _) _).alloc (by simp) _
  have HB : Hid _ := hb0
  have HR : Hid (((w.alloc (.cells ZL.toArray 88 (0, 0))).alloc (.cells SL.toArray 9 (0, 0))).heap[w.heap.size]? = some (.cells ZL.toArray 88 (0, 0))) := (heap_alloc_old _ _ (by simp)).trans (heap_alloc_new _ _)
  have hcw : ((w.alloc (.cells ZL.toArray 88 (0, 0))).alloc (.cells SL.toArray 9 (0, 0))).cell? ⟨w.heap.size + 1, 6, none⟩ = some (.string ⟨#[115, 104, 114]⟩) := (fields5 _ _ _ _ _ (heap_at _ _ _ (by simp)) 6).trans (by rw [hSL]; rfl)
  clear hZL hSL hFL hb0
  go_enter Tryz.func34, Tryz.ntmps34
  go_wp2_with (first
    | (refine wpList_bslice rfl 60 7 #[(0, .const (.string ⟨#[97, 100, 100]⟩)), (1, .const (.string ⟨#[115, 117, 98]⟩)), (2, .const (.string ⟨#[120, 111, 114]⟩)), (3, .const (.string ⟨#[97, 110, 100]⟩)), (4, .const (.string ⟨#[109, 117, 108]⟩)), (5, .const (.string ⟨#[115, 104, 108]⟩)), (6, .const (.string ⟨#[115, 104, 114]⟩))] rfl #[(0, .string ⟨#[97, 100, 100]⟩), (1, .string ⟨#[115, 117, 98]⟩), (2, .string ⟨#[120, 111, 114]⟩), (3, .string ⟨#[97, 110, 100]⟩), (4, .string ⟨#[109, 117, 108]⟩), (5, .string ⟨#[115, 104, 108]⟩), (6, .string ⟨#[115, 104, 114]⟩)] _ (by simp [Act.eval]) (HS.out _) ?_)
    | (refine wpList_build rfl 88 #[(0, .const (.bool true)), (1, .const (.bool true)), (2, .const (.bool true)), (4, .tmp 28)] rfl #[(0, .bool true), (1, .bool true), (2, .bool true), (4, .string ⟨#[115, 104, 114]⟩)] (.agg FL.toArray) (by simp [Act.eval]) (HBF.out _) ?_)
    | (refine wpList_store_row rfl 88 _ _ rfl w.heap.size FL.toArray rfl rfl 88 ZL.toArray HR.out (info5a FL HFN.out) (by simp [HZN.out, HFN.out]) HF1.out ?_))
  exact bodyPost_ret (v := .agg FL.toArray) (results1 Tryz.results34 _ _ w.heap.size (setRow_heap _ _ _ _ _ _ HR.out) Tryz.underlying88 rfl (info5 FL HFN.out) rfl) rfl ⟨rfl, below_setRow HB.out (Nat.le_refl _) _⟩
set_option maxHeartbeats 1000000 in
set_option maxRecDepth 100000 in
theorem of_11 (w : World) : Calls Tryz.prog 34 #[.int .i64 11] w fun e w' => e = .returned (.agg (ofL 11).toArray) ∧ Below w.heap.size w w' := by
  obtain ⟨ZL, hZL⟩ : ∃ L, L = zF := ⟨_, rfl⟩
  have hzv := fun W => zero5 W
  rw [← hZL] at hzv
  have HZN : Hid (ZL.length = 5) := by rw [hZL]; rfl
  have HS : Hid _ := fun W => bs_w7 W
  obtain ⟨SL, hSL⟩ : ∃ L, L = w7 := ⟨_, rfl⟩
  rw [← hSL] at HS
  obtain ⟨FL, hFL⟩ : ∃ L, L = ofL 11 := ⟨_, rfl⟩
  have HBF : Hid _ := fun W => bF11 W
  rw [← hFL] at HBF ⊢
  have HFN : Hid (FL.length = 5) := by rw [hFL]; rfl
  have HF1 : Hid (FL.toArray.all (·.oneCell') = true) := by show _ = _; rw [hFL]; exact fL_one _ _ _ _ _
  have hb0 : Below w.heap.size w ((w.alloc (.cells ZL.toArray 88 (0, 0))).alloc (.cells SL.toArray 9 (0, 0))) := ((Below.refl _ _).alloc (Nat.le_refl _) _).alloc (by simp) _
  have HB : Hid _ := hb0
  have HR : Hid (((w.alloc (.cells ZL.toArray 88 (0, 0))).alloc (.cells SL.toArray 9 (0, 0))).heap[w.heap.size]? = some (.cells ZL.toArray 88 (0, 0))) := (heap_alloc_old _ _ (by simp)).trans (heap_alloc_new _ _)
  skip
  clear hZL hSL hFL hb0
  go_enter Tryz.func34, Tryz.ntmps34
  go_wp2_with (first
    | (refine wpList_bslice rfl 60 7 #[(0, .const (.string ⟨#[97, 100, 100]⟩)), (1, .const (.string ⟨#[115, 117, 98]⟩)), (2, .const (.string ⟨#[120, 111, 114]⟩)), (3, .const (.string ⟨#[97, 110, 100]⟩)), (4, .const (.string ⟨#[109, 117, 108]⟩)), (5, .const (.string ⟨#[115, 104, 108]⟩)), (6, .const (.string ⟨#[115, 104, 114]⟩))] rfl #[(0, .string ⟨#[97, 100, 100]⟩), (1, .string ⟨#[115, 117, 98]⟩), (2, .string ⟨#[120, 111, 114]⟩), (3, .string ⟨#[97, 110, 100]⟩), (4, .string ⟨#[109, 117, 108]⟩), (5, .string ⟨#[115, 104, 108]⟩), (6, .string ⟨#[115, 104, 114]⟩)] _ (by simp [Act.eval]) (HS.out _) ?_)
    | (refine wpList_build rfl 88 #[(0, .const (.bool true)), (1, .const (.bool true)), (3, .const (.bool true)), (4, .const (.string ⟨#[108, 111, 97, 100]⟩))] rfl #[(0, .bool true), (1, .bool true), (3, .bool true), (4, .string ⟨#[108, 111, 97, 100]⟩)] (.agg FL.toArray) (by simp [Act.eval]) (HBF.out _) ?_)
    | (refine wpList_store_row rfl 88 _ _ rfl w.heap.size FL.toArray rfl rfl 88 ZL.toArray HR.out (info5a FL HFN.out) (by simp [HZN.out, HFN.out]) HF1.out ?_))
  exact bodyPost_ret (v := .agg FL.toArray) (results1 Tryz.results34 _ _ w.heap.size (setRow_heap _ _ _ _ _ _ HR.out) Tryz.underlying88 rfl (info5 FL HFN.out) rfl) rfl ⟨rfl, below_setRow HB.out (Nat.le_refl _) _⟩
set_option maxHeartbeats 1000000 in
set_option maxRecDepth 100000 in
theorem of_12 (w : World) : Calls Tryz.prog 34 #[.int .i64 12] w fun e w' => e = .returned (.agg (ofL 12).toArray) ∧ Below w.heap.size w w' := by
  obtain ⟨ZL, hZL⟩ : ∃ L, L = zF := ⟨_, rfl⟩
  have hzv := fun W => zero5 W
  rw [← hZL] at hzv
  have HZN : Hid (ZL.length = 5) := by rw [hZL]; rfl
  have HS : Hid _ := fun W => bs_w7 W
  obtain ⟨SL, hSL⟩ : ∃ L, L = w7 := ⟨_, rfl⟩
  rw [← hSL] at HS
  obtain ⟨FL, hFL⟩ : ∃ L, L = ofL 12 := ⟨_, rfl⟩
  have HBF : Hid _ := fun W => bF12 W
  rw [← hFL] at HBF ⊢
  have HFN : Hid (FL.length = 5) := by rw [hFL]; rfl
  have HF1 : Hid (FL.toArray.all (·.oneCell') = true) := by show _ = _; rw [hFL]; exact fL_one _ _ _ _ _
  have hb0 : Below w.heap.size w ((w.alloc (.cells ZL.toArray 88 (0, 0))).alloc (.cells SL.toArray 9 (0, 0))) := ((Below.refl _ _).alloc (Nat.le_refl _) _).alloc (by simp) _
  have HB : Hid _ := hb0
  have HR : Hid (((w.alloc (.cells ZL.toArray 88 (0, 0))).alloc (.cells SL.toArray 9 (0, 0))).heap[w.heap.size]? = some (.cells ZL.toArray 88 (0, 0))) := (heap_alloc_old _ _ (by simp)).trans (heap_alloc_new _ _)
  skip
  clear hZL hSL hFL hb0
  go_enter Tryz.func34, Tryz.ntmps34
  go_wp2_with (first
    | (refine wpList_bslice rfl 60 7 #[(0, .const (.string ⟨#[97, 100, 100]⟩)), (1, .const (.string ⟨#[115, 117, 98]⟩)), (2, .const (.string ⟨#[120, 111, 114]⟩)), (3, .const (.string ⟨#[97, 110, 100]⟩)), (4, .const (.string ⟨#[109, 117, 108]⟩)), (5, .const (.string ⟨#[115, 104, 108]⟩)), (6, .const (.string ⟨#[115, 104, 114]⟩))] rfl #[(0, .string ⟨#[97, 100, 100]⟩), (1, .string ⟨#[115, 117, 98]⟩), (2, .string ⟨#[120, 111, 114]⟩), (3, .string ⟨#[97, 110, 100]⟩), (4, .string ⟨#[109, 117, 108]⟩), (5, .string ⟨#[115, 104, 108]⟩), (6, .string ⟨#[115, 104, 114]⟩)] _ (by simp [Act.eval]) (HS.out _) ?_)
    | (refine wpList_build rfl 88 #[(1, .const (.bool true)), (2, .const (.bool true)), (3, .const (.bool true)), (4, .const (.string ⟨#[115, 116, 111, 114, 101]⟩))] rfl #[(1, .bool true), (2, .bool true), (3, .bool true), (4, .string ⟨#[115, 116, 111, 114, 101]⟩)] (.agg FL.toArray) (by simp [Act.eval]) (HBF.out _) ?_)
    | (refine wpList_store_row rfl 88 _ _ rfl w.heap.size FL.toArray rfl rfl 88 ZL.toArray HR.out (info5a FL HFN.out) (by simp [HZN.out, HFN.out]) HF1.out ?_))
  exact bodyPost_ret (v := .agg FL.toArray) (results1 Tryz.results34 _ _ w.heap.size (setRow_heap _ _ _ _ _ _ HR.out) Tryz.underlying88 rfl (info5 FL HFN.out) rfl) rfl ⟨rfl, below_setRow HB.out (Nat.le_refl _) _⟩
set_option maxHeartbeats 1000000 in
set_option maxRecDepth 100000 in
theorem of_13 (w : World) : Calls Tryz.prog 34 #[.int .i64 13] w fun e w' => e = .returned (.agg (ofL 13).toArray) ∧ Below w.heap.size w w' := by
  obtain ⟨ZL, hZL⟩ : ∃ L, L = zF := ⟨_, rfl⟩
  have hzv := fun W => zero5 W
  rw [← hZL] at hzv
  have HZN : Hid (ZL.length = 5) := by rw [hZL]; rfl
  have HS : Hid _ := fun W => bs_w7 W
  obtain ⟨SL, hSL⟩ : ∃ L, L = w7 := ⟨_, rfl⟩
  rw [← hSL] at HS
  obtain ⟨FL, hFL⟩ : ∃ L, L = ofL 13 := ⟨_, rfl⟩
  have HBF : Hid _ := fun W => bF13 W
  rw [← hFL] at HBF ⊢
  have HFN : Hid (FL.length = 5) := by rw [hFL]; rfl
  have HF1 : Hid (FL.toArray.all (·.oneCell') = true) := by show _ = _; rw [hFL]; exact fL_one _ _ _ _ _
  have hb0 : Below w.heap.size w ((w.alloc (.cells ZL.toArray 88 (0, 0))).alloc (.cells SL.toArray 9 (0, 0))) := ((Below.refl _ _).alloc (Nat.le_refl _) _).alloc (by simp) _
  have HB : Hid _ := hb0
  have HR : Hid (((w.alloc (.cells ZL.toArray 88 (0, 0))).alloc (.cells SL.toArray 9 (0, 0))).heap[w.heap.size]? = some (.cells ZL.toArray 88 (0, 0))) := (heap_alloc_old _ _ (by simp)).trans (heap_alloc_new _ _)
  skip
  clear hZL hSL hFL hb0
  go_enter Tryz.func34, Tryz.ntmps34
  go_wp2_with (first
    | (refine wpList_bslice rfl 60 7 #[(0, .const (.string ⟨#[97, 100, 100]⟩)), (1, .const (.string ⟨#[115, 117, 98]⟩)), (2, .const (.string ⟨#[120, 111, 114]⟩)), (3, .const (.string ⟨#[97, 110, 100]⟩)), (4, .const (.string ⟨#[109, 117, 108]⟩)), (5, .const (.string ⟨#[115, 104, 108]⟩)), (6, .const (.string ⟨#[115, 104, 114]⟩))] rfl #[(0, .string ⟨#[97, 100, 100]⟩), (1, .string ⟨#[115, 117, 98]⟩), (2, .string ⟨#[120, 111, 114]⟩), (3, .string ⟨#[97, 110, 100]⟩), (4, .string ⟨#[109, 117, 108]⟩), (5, .string ⟨#[115, 104, 108]⟩), (6, .string ⟨#[115, 104, 114]⟩)] _ (by simp [Act.eval]) (HS.out _) ?_)
    | (refine wpList_build rfl 88 #[(3, .const (.bool true)), (4, .const (.string ⟨#[106, 117, 109, 112]⟩))] rfl #[(3, .bool true), (4, .string ⟨#[106, 117, 109, 112]⟩)] (.agg FL.toArray) (by simp [Act.eval]) (HBF.out _) ?_)
    | (refine wpList_store_row rfl 88 _ _ rfl w.heap.size FL.toArray rfl rfl 88 ZL.toArray HR.out (info5a FL HFN.out) (by simp [HZN.out, HFN.out]) HF1.out ?_))
  exact bodyPost_ret (v := .agg FL.toArray) (results1 Tryz.results34 _ _ w.heap.size (setRow_heap _ _ _ _ _ _ HR.out) Tryz.underlying88 rfl (info5 FL HFN.out) rfl) rfl ⟨rfl, below_setRow HB.out (Nat.le_refl _) _⟩
set_option maxHeartbeats 1000000 in
set_option maxRecDepth 100000 in
theorem of_14 (w : World) : Calls Tryz.prog 34 #[.int .i64 14] w fun e w' => e = .returned (.agg (ofL 14).toArray) ∧ Below w.heap.size w w' := by
  obtain ⟨ZL, hZL⟩ : ∃ L, L = zF := ⟨_, rfl⟩
  have hzv := fun W => zero5 W
  rw [← hZL] at hzv
  have HZN : Hid (ZL.length = 5) := by rw [hZL]; rfl
  have HS : Hid _ := fun W => bs_w7 W
  obtain ⟨SL, hSL⟩ : ∃ L, L = w7 := ⟨_, rfl⟩
  rw [← hSL] at HS
  obtain ⟨FL, hFL⟩ : ∃ L, L = ofL 14 := ⟨_, rfl⟩
  have HBF : Hid _ := fun W => bF14 W
  rw [← hFL] at HBF ⊢
  have HFN : Hid (FL.length = 5) := by rw [hFL]; rfl
  have HF1 : Hid (FL.toArray.all (·.oneCell') = true) := by show _ = _; rw [hFL]; exact fL_one _ _ _ _ _
  have hb0 : Below w.heap.size w ((w.alloc (.cells ZL.toArray 88 (0, 0))).alloc (.cells SL.toArray 9 (0, 0))) := ((Below.refl _ _).alloc (Nat.le_refl _) _).alloc (by simp) _
  have HB : Hid _ := hb0
  have HR : Hid (((w.alloc (.cells ZL.toArray 88 (0, 0))).alloc (.cells SL.toArray 9 (0, 0))).heap[w.heap.size]? = some (.cells ZL.toArray 88 (0, 0))) := (heap_alloc_old _ _ (by simp)).trans (heap_alloc_new _ _)
  skip
  clear hZL hSL hFL hb0
  go_enter Tryz.func34, Tryz.ntmps34
  go_wp2_with (first
    | (refine wpList_bslice rfl 60 7 #[(0, .const (.string ⟨#[97, 100, 100]⟩)), (1, .const (.string ⟨#[115, 117, 98]⟩)), (2, .const (.string ⟨#[120, 111, 114]⟩)), (3, .const (.string ⟨#[97, 110, 100]⟩)), (4, .const (.string ⟨#[109, 117, 108]⟩)), (5, .const (.string ⟨#[115, 104, 108]⟩)), (6, .const (.string ⟨#[115, 104, 114]⟩))] rfl #[(0, .string ⟨#[97, 100, 100]⟩), (1, .string ⟨#[115, 117, 98]⟩), (2, .string ⟨#[120, 111, 114]⟩), (3, .string ⟨#[97, 110, 100]⟩), (4, .string ⟨#[109, 117, 108]⟩), (5, .string ⟨#[115, 104, 108]⟩), (6, .string ⟨#[115, 104, 114]⟩)] _ (by simp [Act.eval]) (HS.out _) ?_)
    | (refine wpList_build rfl 88 #[(1, .const (.bool true)), (3, .const (.bool true)), (4, .const (.string ⟨#[98, 114, 97, 110, 99, 104]⟩))] rfl #[(1, .bool true), (3, .bool true), (4, .string ⟨#[98, 114, 97, 110, 99, 104]⟩)] (.agg FL.toArray) (by simp [Act.eval]) (HBF.out _) ?_)
    | (refine wpList_store_row rfl 88 _ _ rfl w.heap.size FL.toArray rfl rfl 88 ZL.toArray HR.out (info5a FL HFN.out) (by simp [HZN.out, HFN.out]) HF1.out ?_))
  exact bodyPost_ret (v := .agg FL.toArray) (results1 Tryz.results34 _ _ w.heap.size (setRow_heap _ _ _ _ _ _ HR.out) Tryz.underlying88 rfl (info5 FL HFN.out) rfl) rfl ⟨rfl, below_setRow HB.out (Nat.le_refl _) _⟩
set_option maxHeartbeats 1000000 in
set_option maxRecDepth 100000 in
theorem of_15 (w : World) : Calls Tryz.prog 34 #[.int .i64 15] w fun e w' => e = .returned (.agg (ofL 15).toArray) ∧ Below w.heap.size w w' := by
  obtain ⟨ZL, hZL⟩ : ∃ L, L = zF := ⟨_, rfl⟩
  have hzv := fun W => zero5 W
  rw [← hZL] at hzv
  have HZN : Hid (ZL.length = 5) := by rw [hZL]; rfl
  have HS : Hid _ := fun W => bs_w7 W
  obtain ⟨SL, hSL⟩ : ∃ L, L = w7 := ⟨_, rfl⟩
  rw [← hSL] at HS
  obtain ⟨FL, hFL⟩ : ∃ L, L = ofL 15 := ⟨_, rfl⟩
  have HBF : Hid _ := fun W => bF15 W
  rw [← hFL] at HBF ⊢
  have HFN : Hid (FL.length = 5) := by rw [hFL]; rfl
  have HF1 : Hid (FL.toArray.all (·.oneCell') = true) := by show _ = _; rw [hFL]; exact fL_one _ _ _ _ _
  have hb0 : Below w.heap.size w ((w.alloc (.cells ZL.toArray 88 (0, 0))).alloc (.cells SL.toArray 9 (0, 0))) := ((Below.refl _ _).alloc (Nat.le_refl _) _).alloc (by simp) _
  have HB : Hid _ := hb0
  have HR : Hid (((w.alloc (.cells ZL.toArray 88 (0, 0))).alloc (.cells SL.toArray 9 (0, 0))).heap[w.heap.size]? = some (.cells ZL.toArray 88 (0, 0))) := (heap_alloc_old _ _ (by simp)).trans (heap_alloc_new _ _)
  skip
  clear hZL hSL hFL hb0
  go_enter Tryz.func34, Tryz.ntmps34
  go_wp2_with (first
    | (refine wpList_bslice rfl 60 7 #[(0, .const (.string ⟨#[97, 100, 100]⟩)), (1, .const (.string ⟨#[115, 117, 98]⟩)), (2, .const (.string ⟨#[120, 111, 114]⟩)), (3, .const (.string ⟨#[97, 110, 100]⟩)), (4, .const (.string ⟨#[109, 117, 108]⟩)), (5, .const (.string ⟨#[115, 104, 108]⟩)), (6, .const (.string ⟨#[115, 104, 114]⟩))] rfl #[(0, .string ⟨#[97, 100, 100]⟩), (1, .string ⟨#[115, 117, 98]⟩), (2, .string ⟨#[120, 111, 114]⟩), (3, .string ⟨#[97, 110, 100]⟩), (4, .string ⟨#[109, 117, 108]⟩), (5, .string ⟨#[115, 104, 108]⟩), (6, .string ⟨#[115, 104, 114]⟩)] _ (by simp [Act.eval]) (HS.out _) ?_)
    | (refine wpList_build rfl 88 #[(0, .const (.bool true)), (4, .const (.string ⟨#[101, 110, 116, 114, 111, 112, 121]⟩))] rfl #[(0, .bool true), (4, .string ⟨#[101, 110, 116, 114, 111, 112, 121]⟩)] (.agg FL.toArray) (by simp [Act.eval]) (HBF.out _) ?_)
    | (refine wpList_store_row rfl 88 _ _ rfl w.heap.size FL.toArray rfl rfl 88 ZL.toArray HR.out (info5a FL HFN.out) (by simp [HZN.out, HFN.out]) HF1.out ?_))
  exact bodyPost_ret (v := .agg FL.toArray) (results1 Tryz.results34 _ _ w.heap.size (setRow_heap _ _ _ _ _ _ HR.out) Tryz.underlying88 rfl (info5 FL HFN.out) rfl) rfl ⟨rfl, below_setRow HB.out (Nat.le_refl _) _⟩
set_option maxHeartbeats 1000000 in
set_option maxRecDepth 100000 in
theorem of_16 (w : World) : Calls Tryz.prog 34 #[.int .i64 16] w fun e w' => e = .returned (.agg (ofL 16).toArray) ∧ Below w.heap.size w w' := by
  obtain ⟨ZL, hZL⟩ : ∃ L, L = zF := ⟨_, rfl⟩
  have hzv := fun W => zero5 W
  rw [← hZL] at hzv
  have HZN : Hid (ZL.length = 5) := by rw [hZL]; rfl
  have HS : Hid _ := fun W => bs_w7 W
  obtain ⟨SL, hSL⟩ : ∃ L, L = w7 := ⟨_, rfl⟩
  rw [← hSL] at HS
  obtain ⟨FL, hFL⟩ : ∃ L, L = ofL 16 := ⟨_, rfl⟩
  have HBF : Hid _ := fun W => bF16 W
  rw [← hFL] at HBF ⊢
  have HFN : Hid (FL.length = 5) := by rw [hFL]; rfl
  have HF1 : Hid (FL.toArray.all (·.oneCell') = true) := by show _ = _; rw [hFL]; exact fL_one _ _ _ _ _
  have hb0 : Below w.heap.size w ((w.alloc (.cells ZL.toArray 88 (0, 0))).alloc (.cells SL.toArray 9 (0, 0))) := ((Below.refl _ _).alloc (Nat.le_refl _) _).alloc (by simp) _
  have HB : Hid _ := hb0
  have HR : Hid (((w.alloc (.cells ZL.toArray 88 (0, 0))).alloc (.cells SL.toArray 9 (0, 0))).heap[w.heap.size]? = some (.cells ZL.toArray 88 (0, 0))) := (heap_alloc_old _ _ (by simp)).trans (heap_alloc_new _ _)
  skip
  clear hZL hSL hFL hb0
  go_enter Tryz.func34, Tryz.ntmps34
  go_wp2_with (first
    | (refine wpList_bslice rfl 60 7 #[(0, .const (.string ⟨#[97, 100, 100]⟩)), (1, .const (.string ⟨#[115, 117, 98]⟩)), (2, .const (.string ⟨#[120, 111, 114]⟩)), (3, .const (.string ⟨#[97, 110, 100]⟩)), (4, .const (.string ⟨#[109, 117, 108]⟩)), (5, .const (.string ⟨#[115, 104, 108]⟩)), (6, .const (.string ⟨#[115, 104, 114]⟩))] rfl #[(0, .string ⟨#[97, 100, 100]⟩), (1, .string ⟨#[115, 117, 98]⟩), (2, .string ⟨#[120, 111, 114]⟩), (3, .string ⟨#[97, 110, 100]⟩), (4, .string ⟨#[109, 117, 108]⟩), (5, .string ⟨#[115, 104, 108]⟩), (6, .string ⟨#[115, 104, 114]⟩)] _ (by simp [Act.eval]) (HS.out _) ?_)
    | (refine wpList_build rfl 88 #[(3, .const (.bool true)), (4, .const (.string ⟨#[115, 101, 114, 118, 105, 99, 101]⟩))] rfl #[(3, .bool true), (4, .string ⟨#[115, 101, 114, 118, 105, 99, 101]⟩)] (.agg FL.toArray) (by simp [Act.eval]) (HBF.out _) ?_)
    | (refine wpList_store_row rfl 88 _ _ rfl w.heap.size FL.toArray rfl rfl 88 ZL.toArray HR.out (info5a FL HFN.out) (by simp [HZN.out, HFN.out]) HF1.out ?_))
  exact bodyPost_ret (v := .agg FL.toArray) (results1 Tryz.results34 _ _ w.heap.size (setRow_heap _ _ _ _ _ _ HR.out) Tryz.underlying88 rfl (info5 FL HFN.out) rfl) rfl ⟨rfl, below_setRow HB.out (Nat.le_refl _) _⟩
set_option maxHeartbeats 1000000 in
set_option maxRecDepth 100000 in
theorem of_17 (w : World) : Calls Tryz.prog 34 #[.int .i64 17] w fun e w' => e = .returned (.agg (ofL 17).toArray) ∧ Below w.heap.size w w' := by
  obtain ⟨ZL, hZL⟩ : ∃ L, L = zF := ⟨_, rfl⟩
  have hzv := fun W => zero5 W
  rw [← hZL] at hzv
  have HZN : Hid (ZL.length = 5) := by rw [hZL]; rfl
  have HS : Hid _ := fun W => bs_w7 W
  obtain ⟨SL, hSL⟩ : ∃ L, L = w7 := ⟨_, rfl⟩
  rw [← hSL] at HS
  obtain ⟨FL, hFL⟩ : ∃ L, L = ofL 17 := ⟨_, rfl⟩
  have HBF : Hid _ := fun W => bF17 W
  rw [← hFL] at HBF ⊢
  have HFN : Hid (FL.length = 5) := by rw [hFL]; rfl
  have HF1 : Hid (FL.toArray.all (·.oneCell') = true) := by show _ = _; rw [hFL]; exact fL_one _ _ _ _ _
  have hb0 : Below w.heap.size w ((w.alloc (.cells ZL.toArray 88 (0, 0))).alloc (.cells SL.toArray 9 (0, 0))) := ((Below.refl _ _).alloc (Nat.le_refl _) _).alloc (by simp) _
  have HB : Hid _ := hb0
  have HR : Hid (((w.alloc (.cells ZL.toArray 88 (0, 0))).alloc (.cells SL.toArray 9 (0, 0))).heap[w.heap.size]? = some (.cells ZL.toArray 88 (0, 0))) := (heap_alloc_old _ _ (by simp)).trans (heap_alloc_new _ _)
  skip
  clear hZL hSL hFL hb0
  go_enter Tryz.func34, Tryz.ntmps34
  go_wp2_with (first
    | (refine wpList_bslice rfl 60 7 #[(0, .const (.string ⟨#[97, 100, 100]⟩)), (1, .const (.string ⟨#[115, 117, 98]⟩)), (2, .const (.string ⟨#[120, 111, 114]⟩)), (3, .const (.string ⟨#[97, 110, 100]⟩)), (4, .const (.string ⟨#[109, 117, 108]⟩)), (5, .const (.string ⟨#[115, 104, 108]⟩)), (6, .const (.string ⟨#[115, 104, 114]⟩))] rfl #[(0, .string ⟨#[97, 100, 100]⟩), (1, .string ⟨#[115, 117, 98]⟩), (2, .string ⟨#[120, 111, 114]⟩), (3, .string ⟨#[97, 110, 100]⟩), (4, .string ⟨#[109, 117, 108]⟩), (5, .string ⟨#[115, 104, 108]⟩), (6, .string ⟨#[115, 104, 114]⟩)] _ (by simp [Act.eval]) (HS.out _) ?_)
    | (refine wpList_build rfl 88 #[(4, .const (.string ⟨#[115, 116, 111, 112]⟩))] rfl #[(4, .string ⟨#[115, 116, 111, 112]⟩)] (.agg FL.toArray) (by simp [Act.eval]) (HBF.out _) ?_)
    | (refine wpList_store_row rfl 88 _ _ rfl w.heap.size FL.toArray rfl rfl 88 ZL.toArray HR.out (info5a FL HFN.out) (by simp [HZN.out, HFN.out]) HF1.out ?_))
  exact bodyPost_ret (v := .agg FL.toArray) (results1 Tryz.results34 _ _ w.heap.size (setRow_heap _ _ _ _ _ _ HR.out) Tryz.underlying88 rfl (info5 FL HFN.out) rfl) rfl ⟨rfl, below_setRow HB.out (Nat.le_refl _) _⟩
theorem of_none {op : Int} (h : isOp op = false) : ofL op = ofL 0 := by
  have h' : ¬ (1 ≤ op ∧ op ≤ 17) := by unfold isOp at h; simpa using h
  have e1 : fd op = false := by unfold fd; rw [Bool.eq_false_iff]; simp; omega
  have e2 : fa op = false := by unfold fa; rw [Bool.eq_false_iff]; simp; omega
  have e3 : fb op = false := by unfold fb; rw [Bool.eq_false_iff]; simp; omega
  have e4 : fi op = false := by unfold fi; rw [Bool.eq_false_iff]; simp; omega
  have e5 : nm op = [] := by
    unfold nm
    by_cases h0 : op ≤ 0
    · rw [Int.toNat_of_nonpos h0]; rfl
    · rw [List.getD_eq_getElem?_getD, List.getElem?_eq_none (by show 18 ≤ op.toNat; omega)]; rfl
  unfold ofL; rw [e1, e2, e3, e4, e5]; rfl
set_option maxHeartbeats 1000000 in
set_option maxRecDepth 100000 in
theorem of_bad (op : Int) (h : isOp op = false) (w : World) : Calls Tryz.prog 34 #[.int .i64 op] w fun e w' => e = .returned (.agg (ofL 0).toArray) ∧ Below w.heap.size w w' := by
  have h' : ¬ (1 ≤ op ∧ op ≤ 17) := by unfold isOp at h; simpa using h
  have hk : ∀ k : Int, 1 ≤ k → k ≤ 17 → (op == k) = false := fun k h1 h2 => by rw [beq_eq_false_iff_ne]; omega
  have k1 := hk 1 (by decide) (by decide); have k2 := hk 2 (by decide) (by decide); have k3 := hk 3 (by decide) (by decide)
  have k4 := hk 11 (by decide) (by decide); have k5 := hk 12 (by decide) (by decide); have k6 := hk 13 (by decide) (by decide)
  have k7 := hk 14 (by decide) (by decide); have k8 := hk 15 (by decide) (by decide); have k9 := hk 16 (by decide) (by decide); have k10 := hk 17 (by decide) (by decide)
  by_cases hg : 4 ≤ op
  · have hg1 : decide ((4 : Int) ≤ op) = true := decide_eq_true hg
    have hg2 : decide (op ≤ (10 : Int)) = false := decide_eq_false (by omega)
    clear hk h' h
    obtain ⟨ZL, hZL⟩ : ∃ L, L = zF := ⟨_, rfl⟩
    have hzv := fun W => zero5 W
    rw [← hZL] at hzv
    have HZN : Hid (ZL.length = 5) := by rw [hZL]; rfl
    have HS : Hid _ := fun W => bs_w7 W
    obtain ⟨SL, hSL⟩ : ∃ L, L = w7 := ⟨_, rfl⟩
    rw [← hSL] at HS
    obtain ⟨FL, hFL⟩ : ∃ L, L = ofL 0 := ⟨_, rfl⟩
    have HBF : Hid _ := fun W => bF0 W
    rw [← hFL] at HBF ⊢
    have HFN : Hid (FL.length = 5) := by rw [hFL]; rfl
    have HF1 : Hid (FL.toArray.all (·.oneCell') = true) := by show _ = _; rw [hFL]; exact fL_one _ _ _ _ _
    have hb0 : Below w.heap.size w ((w.alloc (.cells ZL.toArray 88 (0, 0))).alloc (.cells SL.toArray 9 (0, 0))) := ((Below.refl _ _).alloc (Nat.le_refl _) _).alloc (by simp) _
    have HB : Hid _ := hb0
    have HR : Hid (((w.alloc (.cells ZL.toArray 88 (0, 0))).alloc (.cells SL.toArray 9 (0, 0))).heap[w.heap.size]? = some (.cells ZL.toArray 88 (0, 0))) := (heap_alloc_old _ _ (by simp)).trans (heap_alloc_new _ _)
    skip
    clear hZL hSL hFL hb0
    go_enter Tryz.func34, Tryz.ntmps34
    go_wp2_with (first
      | (refine wpList_bslice rfl 60 7 #[(0, .const (.string ⟨#[97, 100, 100]⟩)), (1, .const (.string ⟨#[115, 117, 98]⟩)), (2, .const (.string ⟨#[120, 111, 114]⟩)), (3, .const (.string ⟨#[97, 110, 100]⟩)), (4, .const (.string ⟨#[109, 117, 108]⟩)), (5, .const (.string ⟨#[115, 104, 108]⟩)), (6, .const (.string ⟨#[115, 104, 114]⟩))] rfl #[(0, .string ⟨#[97, 100, 100]⟩), (1, .string ⟨#[115, 117, 98]⟩), (2, .string ⟨#[120, 111, 114]⟩), (3, .string ⟨#[97, 110, 100]⟩), (4, .string ⟨#[109, 117, 108]⟩), (5, .string ⟨#[115, 104, 108]⟩), (6, .string ⟨#[115, 104, 114]⟩)] _ (by simp [Act.eval]) (HS.out _) ?_)
      | (refine wpList_build rfl 88 #[] rfl #[] (.agg FL.toArray) (by simp [Act.eval]) (HBF.out _) ?_)
      | (refine wpList_store_row rfl 88 _ _ rfl w.heap.size FL.toArray rfl rfl 88 ZL.toArray HR.out (info5a FL HFN.out) (by simp [HZN.out, HFN.out]) HF1.out ?_))
    exact bodyPost_ret (v := .agg FL.toArray) (results1 Tryz.results34 _ _ w.heap.size (setRow_heap _ _ _ _ _ _ HR.out) Tryz.underlying88 rfl (info5 FL HFN.out) rfl) rfl ⟨rfl, below_setRow HB.out (Nat.le_refl _) _⟩
  · have hg1 : decide ((4 : Int) ≤ op) = false := decide_eq_false hg
    clear hk h' h
    obtain ⟨ZL, hZL⟩ : ∃ L, L = zF := ⟨_, rfl⟩
    have hzv := fun W => zero5 W
    rw [← hZL] at hzv
    have HZN : Hid (ZL.length = 5) := by rw [hZL]; rfl
    have HS : Hid _ := fun W => bs_w7 W
    obtain ⟨SL, hSL⟩ : ∃ L, L = w7 := ⟨_, rfl⟩
    rw [← hSL] at HS
    obtain ⟨FL, hFL⟩ : ∃ L, L = ofL 0 := ⟨_, rfl⟩
    have HBF : Hid _ := fun W => bF0 W
    rw [← hFL] at HBF ⊢
    have HFN : Hid (FL.length = 5) := by rw [hFL]; rfl
    have HF1 : Hid (FL.toArray.all (·.oneCell') = true) := by show _ = _; rw [hFL]; exact fL_one _ _ _ _ _
    have hb0 : Below w.heap.size w ((w.alloc (.cells ZL.toArray 88 (0, 0))).alloc (.cells SL.toArray 9 (0, 0))) := ((Below.refl _ _).alloc (Nat.le_refl _) _).alloc (by simp) _
    have HB : Hid _ := hb0
    have HR : Hid (((w.alloc (.cells ZL.toArray 88 (0, 0))).alloc (.cells SL.toArray 9 (0, 0))).heap[w.heap.size]? = some (.cells ZL.toArray 88 (0, 0))) := (heap_alloc_old _ _ (by simp)).trans (heap_alloc_new _ _)
    skip
    clear hZL hSL hFL hb0
    go_enter Tryz.func34, Tryz.ntmps34
    go_wp2_with (first
      | (refine wpList_bslice rfl 60 7 #[(0, .const (.string ⟨#[97, 100, 100]⟩)), (1, .const (.string ⟨#[115, 117, 98]⟩)), (2, .const (.string ⟨#[120, 111, 114]⟩)), (3, .const (.string ⟨#[97, 110, 100]⟩)), (4, .const (.string ⟨#[109, 117, 108]⟩)), (5, .const (.string ⟨#[115, 104, 108]⟩)), (6, .const (.string ⟨#[115, 104, 114]⟩))] rfl #[(0, .string ⟨#[97, 100, 100]⟩), (1, .string ⟨#[115, 117, 98]⟩), (2, .string ⟨#[120, 111, 114]⟩), (3, .string ⟨#[97, 110, 100]⟩), (4, .string ⟨#[109, 117, 108]⟩), (5, .string ⟨#[115, 104, 108]⟩), (6, .string ⟨#[115, 104, 114]⟩)] _ (by simp [Act.eval]) (HS.out _) ?_)
      | (refine wpList_build rfl 88 #[] rfl #[] (.agg FL.toArray) (by simp [Act.eval]) (HBF.out _) ?_)
      | (refine wpList_store_row rfl 88 _ _ rfl w.heap.size FL.toArray rfl rfl 88 ZL.toArray HR.out (info5a FL HFN.out) (by simp [HZN.out, HFN.out]) HF1.out ?_))
    exact bodyPost_ret (v := .agg FL.toArray) (results1 Tryz.results34 _ _ w.heap.size (setRow_heap _ _ _ _ _ _ HR.out) Tryz.underlying88 rfl (info5 FL HFN.out) rfl) rfl ⟨rfl, below_setRow HB.out (Nat.le_refl _) _⟩
theorem of_any (op : Int) (w : World) : Calls Tryz.prog 34 #[.int .i64 op] w fun e w' => e = .returned (.agg (ofL op).toArray) ∧ Below w.heap.size w w' := by
  cases h : isOp op
  · rw [of_none h]; exact of_bad op h w
  · rcases isOp_cases h with rfl | rfl | rfl | rfl | rfl | rfl | rfl | rfl | rfl | rfl | rfl | rfl | rfl | rfl | rfl | rfl | rfl
    · exact of_1 w
    · exact of_2 w
    · exact of_3 w
    · exact of_4 w
    · exact of_5 w
    · exact of_6 w
    · exact of_7 w
    · exact of_8 w
    · exact of_9 w
    · exact of_10 w
    · exact of_11 w
    · exact of_12 w
    · exact of_13 w
    · exact of_14 w
    · exact of_15 w
    · exact of_16 w
    · exact of_17 w
end Go.Proofs.YtkpjfhphohanlaaGreatDoor.JC
