/- cpu: states; what goOn, jump and stop do. -/
import Derived.Test.YtkpjfhphohanlaaGreatDoorJK
set_option linter.unusedVariables false
set_option linter.unusedSimpArgs false
namespace Go.Proofs.YtkpjfhphohanlaaGreatDoor.JC
open Go.RowKit
open Go.Proofs.YtkpjfhphohanlaaGreatDoor.EC (row_lt heap_at rangeAt_below rangeAt_row ret_bool ret_i64 beq_int)

/-- A vCPU's state. -/
structure St where
  rs : List Int
  pc : Int
def U (x : Int) : Value := .int .u64 x
def sL (s : St) : List Value := s.rs.map U ++ [U s.pc]
def u64 (x : Int) : Prop := 0 ≤ x ∧ x < 18446744073709551616
structure swf (s : St) : Prop where
  len : s.rs.length = 8
  r : ∀ x ∈ s.rs, u64 x
  p : u64 s.pc
theorem sL_len {s : St} (h : swf s) : (sL s).length = 9 := by simp [sL, h.len]
theorem sL_pc {s : St} (h : swf s) : (sL s)[8]? = some (U s.pc) := by
  unfold sL; rw [List.getElem?_append_right (by simp [h.len])]; simp [h.len]
theorem sL_reg {s : St} (h : swf s) (k : Nat) (hk : k < 8) : (sL s)[k]? = some (U (s.rs.getD k 0)) := by
  have hk' : k < s.rs.length := by rw [h.len]; exact hk
  unfold sL; rw [List.getElem?_append_left (by simpa using hk')]
  simp [List.getElem?_eq_getElem hk', List.getD]
theorem sL_setpc {s : St} (h : swf s) (x : Int) : (sL s).set 8 (U x) = sL ⟨s.rs, x⟩ := by
  unfold sL; rw [List.set_append_right _ _ (by simp [h.len])]; simp [h.len]
theorem sL_setreg {s : St} (h : swf s) (k : Nat) (hk : k < 8) (x : Int) : (sL s).set k (U x) = sL ⟨s.rs.set k x, s.pc⟩ := by
  unfold sL; rw [List.set_append_left _ _ (by simp [h.len, hk])]; simp [List.map_set]
theorem info9 (L : List Value) (h : L.length = 9) : (Tryz.prog.info? 50).map (·.size) = some L.length := by rw [h]; kernel_rfl
theorem info9a (L : List Value) (h : L.length = 9) : (Tryz.prog.info? 50).map (·.size) = some L.toArray.size := by rw [List.size_toArray, h]; kernel_rfl
theorem info2 (L : List Value) (h : L.length = 2) : (Tryz.prog.info? 53).map (·.size) = some L.length := by rw [h]; kernel_rfl
theorem info2a (L : List Value) (h : L.length = 2) : (Tryz.prog.info? 53).map (·.size) = some L.toArray.size := by rw [List.size_toArray, h]; kernel_rfl
theorem sL_one (s : St) : (sL s).toArray.all (·.oneCell') = true := by
  simp only [List.all_toArray, List.all_eq_true]
  intro v hv
  unfold sL at hv
  rcases List.mem_append.1 hv with h | h
  · obtain ⟨x, _, rfl⟩ := List.mem_map.1 h; rfl
  · obtain rfl : v = _ := by simpa using h
    rfl
def eL (k n : Int) : List Value := [.int .i64 k, .int .i64 n]
theorem eL_one (k n : Int) : (eL k n).toArray.all (·.oneCell') = true := by simp [eL, Value.oneCell']
/-- While something is done: the state, the result, the event. -/
structure SW (w : World) (CL RL EL : List Value) (X : World) : Prop where
  bel : Below w.heap.size w X
  sz : w.heap.size + 3 ≤ X.heap.size
  c : X.heap[w.heap.size]? = some (.cells CL.toArray 50 (0, 0))
  r : X.heap[w.heap.size + 1]? = some (.cells RL.toArray 50 (0, 0))
  e : X.heap[w.heap.size + 1 + 1]? = some (.cells EL.toArray 53 (0, 0))
def Z9 : List Value := sL ⟨[0, 0, 0, 0, 0, 0, 0, 0], 0⟩
theorem SW.new (w : World) (CL : List Value) : SW w CL Z9 (eL 0 0) (((w.alloc (.cells CL.toArray 50 (0, 0))).alloc (.cells Z9.toArray 50 (0, 0))).alloc (.cells (eL 0 0).toArray 53 (0, 0))) :=
  ⟨(((Below.refl _ _).alloc (Nat.le_refl _) _).alloc (by simp) _).alloc (by simp; omega) _, by simp, ((heap_alloc_old _ _ (by simp; omega)).trans (heap_alloc_old _ _ (by simp))).trans (heap_alloc_new _ _), (heap_alloc_old _ _ (by simp)).trans (heap_at _ _ _ (by simp)), heap_at _ _ _ (by simp)⟩
theorem SW.below {w : World} {CL RL EL : List Value} {X Y : World} (h : SW w CL RL EL X) (hb : Below X.heap.size X Y) : SW w CL RL EL Y :=
  ⟨h.bel.trans (hb.mono h.bel.size), Nat.le_trans h.sz hb.size, (hb.block _ (row_lt h.c)).trans h.c, (hb.block _ (row_lt h.r)).trans h.r, (hb.block _ (row_lt h.e)).trans h.e⟩
theorem SW.cellc {w : World} {CL RL EL : List Value} {X : World} (h : SW w CL RL EL X) (i : Nat) (x : Value) (L : List Value) (hL : CL.set i x = L) : SW w L RL EL (X.setCell ⟨w.heap.size, i, none⟩ x) := by
  have kp : ∀ j, j ≠ w.heap.size → (X.setCell ⟨w.heap.size, i, none⟩ x).heap[j]? = X.heap[j]? := fun j hj => heap_setCell_other _ _ _ _ (by show j ≠ w.heap.size; exact hj)
  have hsz : (X.setCell ⟨w.heap.size, i, none⟩ x).heap.size = X.heap.size := by simp [World.setCell]
  refine ⟨h.bel.setCell (p := ⟨w.heap.size, i, none⟩) (Nat.le_refl _) _, by rw [hsz]; exact h.sz, ?_, (kp _ (by omega)).trans h.r, (kp _ (by omega)).trans h.e⟩
  rw [← hL, ← List.setIfInBounds_toArray]
  exact heap_setCell_same _ _ i _ _ _ h.c
theorem setRow_size (X : World) (b : Nat) (A : Array Value) : (X.setRow b A).heap.size = X.heap.size := by simp [World.setRow]
theorem setRow_other (X : World) (b j : Nat) (A : Array Value) (h : j ≠ b) : (X.setRow b A).heap[j]? = X.heap[j]? := by
  simp [World.setRow, Array.getElem?_modify, Ne.symm h]
theorem SW.rowc {w : World} {CL RL EL : List Value} {X : World} (h : SW w CL RL EL X) (L : List Value) : SW w L RL EL (X.setRow w.heap.size L.toArray) :=
  ⟨below_setRow h.bel (Nat.le_refl _) _, by rw [setRow_size]; exact h.sz, setRow_heap _ _ _ _ _ _ h.c, (setRow_other _ _ _ _ (by omega)).trans h.r, (setRow_other _ _ _ _ (by omega)).trans h.e⟩
theorem SW.rowr {w : World} {CL RL EL : List Value} {X : World} (h : SW w CL RL EL X) (L : List Value) : SW w CL L EL (X.setRow (w.heap.size + 1) L.toArray) :=
  ⟨below_setRow h.bel (by omega) _, by rw [setRow_size]; exact h.sz, (setRow_other _ _ _ _ (by omega)).trans h.c, setRow_heap _ _ _ _ _ _ h.r, (setRow_other _ _ _ _ (by omega)).trans h.e⟩
theorem SW.rowe {w : World} {CL RL EL : List Value} {X : World} (h : SW w CL RL EL X) (L : List Value) : SW w CL RL L (X.setRow (w.heap.size + 1 + 1) L.toArray) :=
  ⟨below_setRow h.bel (by omega) _, by rw [setRow_size]; exact h.sz, (setRow_other _ _ _ _ (by omega)).trans h.c, (setRow_other _ _ _ _ (by omega)).trans h.r, setRow_heap _ _ _ _ _ _ h.e⟩
theorem results_cell2 {fn : Func} {p u : Tmp} {ty ty2 : TypeId} (h : fn.results = #[.cell p ty, .cell u ty2]) (tmps : Array Value) (P : Program) (w : World) :
    (results fn tmps).run P w = ((asAddr (tmps.getD p undef)).run P w).andThen fun a w₁ => ((loadVar ty a).run P w₁).andThen fun v w₂ => ((asAddr (tmps.getD u undef)).run P w₂).andThen fun b w₃ => ((loadVar ty2 b).run P w₃).andThen fun v2 w₄ => .ok (.tuple #[v, v2]) w₄ := by
  simp only [results, h]
  simp [Sem.run_bind, Result.andThen]
theorem results22 {fn : Func} {p u : Tmp} (h : fn.results = #[.cell p 50, .cell u 53]) (tmps : Array Value) (w X : World) {CL RL EL : List Value} (hS : SW w CL RL EL X) (hr : RL.length = 9) (he : EL.length = 2)
    (hp : tmps.getD p undef = .pointer (some ⟨w.heap.size + 1, 0, none⟩)) (hu : tmps.getD u undef = .pointer (some ⟨w.heap.size + 1 + 1, 0, none⟩)) : (results fn tmps).run Tryz.prog X = .ok (.tuple #[.agg RL.toArray, .agg EL.toArray]) X := by
  have e1 : (asAddr (tmps.getD p undef)).run Tryz.prog X = .ok ⟨w.heap.size + 1, 0, none⟩ X := by rw [hp]; rfl
  have e2 : (asAddr (tmps.getD u undef)).run Tryz.prog X = .ok ⟨w.heap.size + 1 + 1, 0, none⟩ X := by rw [hu]; rfl
  have e3 := run_loadVar_mid X (w.heap.size + 1) 0 50 RL _ (rangeAt_row hS.r) Tryz.underlying50 rfl (info9 RL hr)
  have e4 := run_loadVar_mid X (w.heap.size + 1 + 1) 0 53 EL _ (rangeAt_row hS.e) Tryz.underlying53 rfl (info2 EL he)
  rw [results_cell2 h, e1, Result.andThen_ok, e3, Result.andThen_ok, e2, Result.andThen_ok, e4, Result.andThen_ok]
/-- How a deed ends. -/
def DoEnd (s : St) (k n : Int) (w : World) (e : Ending) (w' : World) : Prop := e = .returned (.tuple #[.agg (sL s).toArray, .agg (eL k n).toArray]) ∧ Below w.heap.size w w'
def St.go (s : St) : St := ⟨s.rs, IntKind.u64.wrap (s.pc + 8)⟩
theorem zero2 (W : World) : (zeroValue 53).run Tryz.prog W = .ok (.agg (eL 0 0).toArray) W := by kernel_rfl
theorem zero9 (W : World) : (zeroValue 50).run Tryz.prog W = .ok (.agg Z9.toArray) W := by kernel_rfl
set_option maxHeartbeats 2000000 in
set_option maxRecDepth 100000 in
theorem goOn_any (s : St) (h : swf s) (w : World) : Calls Tryz.prog 47 #[.agg (sL s).toArray] w fun e w' => DoEnd s.go 0 0 w e w' := by
  have hzv := fun W => zero9 W
  have hz2 := fun W => zero2 W
  obtain ⟨ZL, hZL⟩ : ∃ L, L = Z9 := ⟨_, rfl⟩
  have HN0 : Hid (∀ L : List Value, SW w L Z9 (eL 0 0) (((w.alloc (.cells L.toArray 50 (0, 0))).alloc (.cells Z9.toArray 50 (0, 0))).alloc (.cells (eL 0 0).toArray 53 (0, 0)))) := fun L => SW.new w L
  have HZN : Hid (ZL.length = 9) := by rw [hZL]; rfl
  rw [← hZL] at hzv HN0
  obtain ⟨EZ, hEZ⟩ : ∃ L, L = eL 0 0 := ⟨_, rfl⟩
  have HEN : Hid (EZ.length = 2) := by rw [hEZ]; rfl
  rw [← hEZ] at hz2 HN0
  have HEZ : Hid _ := hEZ
  have HE1 : Hid (EZ.toArray.all (·.oneCell') = true) := by show _ = _; rw [hEZ]; exact eL_one 0 0
  clear hEZ
  have HPC : Hid _ := sL_pc h
  have HLEN : Hid _ := sL_len h
  have HONE : Hid _ := sL_one s
  have HSP : Hid (∀ x, (sL s).set 8 (U x) = sL ⟨s.rs, x⟩) := fun x => sL_setpc h x
  clear hZL
  generalize hCL : sL s = CL at *
  have hcell8 := (fields5 _ _ _ _ _ (HN0.out CL).c 8).trans (show _ = some (.int .u64 (s.pc)) by rw [List.getElem?_toArray]; exact HPC.out)
  have hfr8 := frozen_of_row _ _ 8 _ _ (HN0.out CL).c
  obtain ⟨CL2, hset⟩ : ∃ L, CL.set 8 (.int .u64 (IntKind.u64.wrap (s.pc + 8))) = L := ⟨_, rfl⟩
  have hCL2 : sL s.go = CL2 := by rw [← hset]; exact (HSP.out _).symm
  have HLEN2 : Hid (CL2.length = 9) := by show _ = _; rw [← hCL2]; simp [sL, St.go, h.len]
  have HONE2 : Hid (CL2.toArray.all (·.oneCell') = true) := by show _ = _; rw [← hCL2]; exact sL_one _
  have HSW : Hid _ := HN0.out CL2
  clear HPC HSP HLEN HONE
  go_enter Tryz.func47, Tryz.ntmps47
  go_wp2_with (first
    | (refine wpList_load_mid rfl 50 _ rfl w.heap.size 0 rfl CL2 _ (rangeAt_row HSW.out.c) Tryz.underlying50 rfl (info9 CL2 HLEN2.out) ?_)
    | (refine wpList_store_row rfl 50 _ _ rfl (w.heap.size + 1) CL2.toArray rfl rfl 50 ZL.toArray HSW.out.r (info9a CL2 HLEN2.out) (by simp [HZN.out, HLEN2.out]) HONE2.out ?_)
    | (refine wpList_store_row rfl 53 _ _ rfl (w.heap.size + 1 + 1) EZ.toArray rfl rfl 53 EZ.toArray (HSW.out.rowr CL2).e (info2a EZ HEN.out) rfl HE1.out ?_))
  refine bodyPost_ret (v := .tuple #[.agg CL2.toArray, .agg EZ.toArray]) (results22 Tryz.results47 _ w _ ((HSW.out.rowr CL2).rowe EZ) HLEN2.out HEN.out rfl rfl) rfl ⟨by rw [hCL2, HEZ.out], ((HSW.out.rowr CL2).rowe EZ).bel⟩
end Go.Proofs.YtkpjfhphohanlaaGreatDoor.JC
