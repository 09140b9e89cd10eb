/- measure: ofRealm, ofData, ofRec, May. -/
import Derived.Test.YtpmknkagnkagpaaGreatZA
set_option linter.unusedVariables false
set_option linter.unusedSimpArgs false
namespace Go.Proofs.YtpmknkagnkagpaaGreat.ZC
open Go.RowKit

def rec1 (V : List UInt8) : Rd := ⟨1, V, 0, PC.Z128, 0, PC.Z8, false⟩
def rec2 (pg : Int) (g : List UInt8) : Rd := ⟨2, PC.Z32, pg, g, 0, PC.Z8, false⟩
def rec3 (pc : Nat) (rs : List Nat) (run : Bool) : Rd := ⟨3, PC.Z32, 0, PC.Z128, pc, rs, run⟩
theorem rec1_ok {V : List UInt8} (h : V.length = 32) : (rec1 V).ok := ⟨h, PC.z128_len, PC.z8_len, by show (0 : Nat) < _; decide, z8_lt⟩
theorem rec2_ok (pg : Int) {g : List UInt8} (h : g.length = 128) : (rec2 pg g).ok := ⟨PC.z32_len, h, PC.z8_len, by show (0 : Nat) < _; decide, z8_lt⟩
theorem rec3_ok {pc : Nat} {rs : List Nat} (run : Bool) (h : rs.length = 8) (hp : pc < 18446744073709551616) (hx : ∀ x ∈ rs, x < 18446744073709551616) : (rec3 pc rs run).ok := ⟨PC.z32_len, PC.z128_len, h, hp, hx⟩
set_option maxHeartbeats 8000000 in
set_option maxRecDepth 100000 in
theorem build_rd1 (w : World) (VL : List Value) (h : VL.length = 32) : (Instr.build 33 #[(0, .int .i64 1), (1, .agg VL.toArray)]).run Tryz.prog w = .ok (.agg (.int .i64 1 :: (VL ++ (.int .i64 0 :: (PC.Z128.map B8 ++ PC.rcL 0 PC.Z8 false)))).toArray) w := by
  iterate 32 (obtain ⟨_, _, e, g⟩ := R5.cons_of h; clear h; subst e; have h := g; clear g)
  obtain rfl := List.eq_nil_of_length_eq_zero h
  show _ = _
  kernel_rfl
set_option maxHeartbeats 8000000 in
set_option maxRecDepth 100000 in
theorem build_rd2 (w : World) (P : Int) (GL : List Value) (h : GL.length = 128) : (Instr.build 33 #[(0, .int .i64 2), (2, .int .i64 P), (3, .agg GL.toArray)]).run Tryz.prog w = .ok (.agg (.int .i64 2 :: (PC.Z32.map B8 ++ (.int .i64 P :: (GL ++ PC.rcL 0 PC.Z8 false)))).toArray) w := by
  iterate 128 (obtain ⟨_, _, e, g⟩ := R5.cons_of h; clear h; subst e; have h := g; clear g)
  obtain rfl := List.eq_nil_of_length_eq_zero h
  show _ = _
  kernel_rfl
set_option maxHeartbeats 8000000 in
set_option maxRecDepth 100000 in
theorem build_rd3 (w : World) (PL : List Value) (h : PL.length = 10) : (Instr.build 33 #[(0, .int .i64 3), (4, .agg PL.toArray)]).run Tryz.prog w = .ok (.agg (.int .i64 3 :: (PC.Z32.map B8 ++ (.int .i64 0 :: (PC.Z128.map B8 ++ PL)))).toArray) w := by
  iterate 10 (obtain ⟨_, _, e, g⟩ := R5.cons_of h; clear h; subst e; have h := g; clear g)
  obtain rfl := List.eq_nil_of_length_eq_zero h
  show _ = _
  kernel_rfl
theorem alloc2 (w : World) (A B : Array Value) (t u : TypeId) : Below w.heap.size w ((w.alloc (.cells A t (0, 0))).alloc (.cells B u (0, 0))) ∧ ((w.alloc (.cells A t (0, 0))).alloc (.cells B u (0, 0))).heap[w.heap.size]? = some (.cells A t (0, 0)) ∧ ((w.alloc (.cells A t (0, 0))).alloc (.cells B u (0, 0))).heap[w.heap.size + 1]? = some (.cells B u (0, 0)) :=
  ⟨((Below.refl _ _).alloc (Nat.le_refl _) _).alloc (by simp) _, (Below.heap_alloc _ _ _ (by simp)).trans (heap_alloc_new _ _), PC.heap_at _ _ _ (by simp)⟩
set_option maxHeartbeats 1000000 in
set_option maxRecDepth 100000 in
theorem ofRealm_any (V : List UInt8) (w : World) (hV : V.length = 32) : Calls Tryz.prog 26 #[.agg (V.map B8).toArray] w fun e w' => e = .returned (.agg (rdL (rec1 V)).toArray) ∧ Below w.heap.size w w' := by
  obtain ⟨RL, hRL⟩ : ∃ L, L = rdL (rec1 V) := ⟨_, rfl⟩
  have HRN : Hid (RL.length = 172) := by show _ = _; rw [hRL]; exact rdL_len (rec1_ok hV)
  have HR1 : Hid (RL.toArray.all (·.oneCell') = true) := by show _ = _; rw [hRL]; exact PC.onea (rdL_one _)
  have HRA : Hid ((Tryz.prog.info? 33).map (·.size) = some RL.toArray.size) := info172a _ (by simpa using HRN.out)
  have HRI : Hid _ := info172 RL HRN.out
  have hz := fun W => zero_rd W
  obtain ⟨ZL, hZL⟩ : ∃ L, L = rdL zD := ⟨_, rfl⟩
  rw [← hZL] at hz
  have HZN : Hid (ZL.length = 172) := by show _ = _; rw [hZL]; exact rdL_len zD_ok
  have HZS : Hid (ZL.toArray.size = 172) := by show _ = _; simpa using HZN.out
  have HZ1 : Hid (ZL.toArray.all (·.oneCell') = true) := by show _ = _; rw [hZL]; exact PC.onea (rdL_one _)
  clear hZL
  have HSS : Hid (ZL.toArray.size = RL.toArray.size) := by show _ = _; rw [HZS.out]; simpa using HRN.out.symm
  rw [← hRL]
  have HBK : Hid (∀ W, (Instr.build 33 #[(0, .int .i64 1), (1, .agg (V.map B8).toArray)]).run Tryz.prog W = .ok (.agg RL.toArray) W) := fun W => by rw [hRL]; exact build_rd1 W _ (by simpa using hV)
  have HVI : Hid _ := R5.info32 (V.map B8) (by simpa using hV)
  clear hRL hV
  generalize V.map B8 = VL at *
  obtain ⟨hb0, h0, h1⟩ := alloc2 w VL.toArray ZL.toArray 24 33
  have H0 : Hid _ := PC.rangeAt_row h0
  have H1 : Hid _ := h1
  have HB0 : Hid (Below w.heap.size w ((w.alloc (.cells VL.toArray 24 (0, 0))).alloc (.cells ZL.toArray 33 (0, 0)))) := hb0
  clear hb0 h0 h1
  go_enter Tryz.func26, Tryz.ntmps26
  go_wp2_with (first
    | (refine wpList_load_mid rfl 24 _ rfl w.heap.size 0 rfl VL _ H0.out Tryz.underlying24 rfl HVI.out ?_)
    | (refine PC.wpList_build rfl 33 _ rfl #[(0, .int .i64 1), (1, .agg VL.toArray)] (.agg RL.toArray) (by simp; first | done | exact ⟨rfl, rfl⟩ | exact ⟨rfl, rfl, rfl⟩) (HBK.out _) ?_)
    | (refine wpList_store_row rfl 33 _ _ rfl (w.heap.size + 1) RL.toArray rfl rfl 33 ZL.toArray H1.out HRA.out HSS.out HR1.out ?_))
  refine bodyPost_ret (v := .agg RL.toArray) ?_ rfl ⟨rfl, below_setRow HB0.out (by omega) _⟩
  exact results_cell_row Tryz.results26 _ _ (w.heap.size + 1) 33 _ (0, 0) _ rfl (setRow_heap _ _ _ _ _ _ H1.out) Tryz.underlying33 rfl HRA.out
set_option maxHeartbeats 1000000 in
set_option maxRecDepth 100000 in
theorem ofData_any (pg : Int) (g : List UInt8) (w : World) (hg : g.length = 128) : Calls Tryz.prog 27 #[.int .i64 pg, .agg (g.map B8).toArray] w fun e w' => e = .returned (.agg (rdL (rec2 pg g)).toArray) ∧ Below w.heap.size w w' := by
  obtain ⟨RL, hRL⟩ : ∃ L, L = rdL (rec2 pg g) := ⟨_, rfl⟩
  have HRN : Hid (RL.length = 172) := by show _ = _; rw [hRL]; exact rdL_len (rec2_ok pg hg)
  have HR1 : Hid (RL.toArray.all (·.oneCell') = true) := by show _ = _; rw [hRL]; exact PC.onea (rdL_one _)
  have HRA : Hid ((Tryz.prog.info? 33).map (·.size) = some RL.toArray.size) := info172a _ (by simpa using HRN.out)
  have HRI : Hid _ := info172 RL HRN.out
  have hz := fun W => zero_rd W
  obtain ⟨ZL, hZL⟩ : ∃ L, L = rdL zD := ⟨_, rfl⟩
  rw [← hZL] at hz
  have HZN : Hid (ZL.length = 172) := by show _ = _; rw [hZL]; exact rdL_len zD_ok
  have HZS : Hid (ZL.toArray.size = 172) := by show _ = _; simpa using HZN.out
  have HZ1 : Hid (ZL.toArray.all (·.oneCell') = true) := by show _ = _; rw [hZL]; exact PC.onea (rdL_one _)
  clear hZL
  have HSS : Hid (ZL.toArray.size = RL.toArray.size) := by show _ = _; rw [HZS.out]; simpa using HRN.out.symm
  rw [← hRL]
  have HBK : Hid (∀ W, (Instr.build 33 #[(0, .int .i64 2), (2, .int .i64 pg), (3, .agg (g.map B8).toArray)]).run Tryz.prog W = .ok (.agg RL.toArray) W) := fun W => by rw [hRL]; exact build_rd2 W _ _ (by simpa using hg)
  have HVI : Hid _ := PC.info128 (g.map B8) (by simpa using hg)
  clear hRL hg
  generalize g.map B8 = VL at *
  obtain ⟨hb0, h0, h1⟩ := alloc2 w VL.toArray ZL.toArray 27 33
  have H0 : Hid _ := PC.rangeAt_row h0
  have H1 : Hid _ := h1
  have HB0 : Hid (Below w.heap.size w ((w.alloc (.cells VL.toArray 27 (0, 0))).alloc (.cells ZL.toArray 33 (0, 0)))) := hb0
  clear hb0 h0 h1
  go_enter Tryz.func27, Tryz.ntmps27
  go_wp2_with (first
    | (refine wpList_load_mid rfl 27 _ rfl w.heap.size 0 rfl VL _ H0.out Tryz.underlying27 rfl HVI.out ?_)
    | (refine PC.wpList_build rfl 33 _ rfl #[(0, .int .i64 2), (2, .int .i64 pg), (3, .agg VL.toArray)] (.agg RL.toArray) (by simp; first | done | exact ⟨rfl, rfl⟩ | exact ⟨rfl, rfl, rfl⟩) (HBK.out _) ?_)
    | (refine wpList_store_row rfl 33 _ _ rfl (w.heap.size + 1) RL.toArray rfl rfl 33 ZL.toArray H1.out HRA.out HSS.out HR1.out ?_))
  refine bodyPost_ret (v := .agg RL.toArray) ?_ rfl ⟨rfl, below_setRow HB0.out (by omega) _⟩
  exact results_cell_row Tryz.results27 _ _ (w.heap.size + 1) 33 _ (0, 0) _ rfl (setRow_heap _ _ _ _ _ _ H1.out) Tryz.underlying33 rfl HRA.out
set_option maxHeartbeats 1000000 in
set_option maxRecDepth 100000 in
theorem ofRec_any (pc : Nat) (rs : List Nat) (run : Bool) (w : World) (hs : rs.length = 8) (hp : pc < 18446744073709551616) (hx : ∀ x ∈ rs, x < 18446744073709551616) : Calls Tryz.prog 28 #[.agg (PC.rcL pc rs run).toArray] w fun e w' => e = .returned (.agg (rdL (rec3 pc rs run)).toArray) ∧ Below w.heap.size w w' := by
  obtain ⟨RL, hRL⟩ : ∃ L, L = rdL (rec3 pc rs run) := ⟨_, rfl⟩
  have HRN : Hid (RL.length = 172) := by show _ = _; rw [hRL]; exact rdL_len (rec3_ok run hs hp hx)
  have HR1 : Hid (RL.toArray.all (·.oneCell') = true) := by show _ = _; rw [hRL]; exact PC.onea (rdL_one _)
  have HRA : Hid ((Tryz.prog.info? 33).map (·.size) = some RL.toArray.size) := info172a _ (by simpa using HRN.out)
  have HRI : Hid _ := info172 RL HRN.out
  have hz := fun W => zero_rd W
  obtain ⟨ZL, hZL⟩ : ∃ L, L = rdL zD := ⟨_, rfl⟩
  rw [← hZL] at hz
  have HZN : Hid (ZL.length = 172) := by show _ = _; rw [hZL]; exact rdL_len zD_ok
  have HZS : Hid (ZL.toArray.size = 172) := by show _ = _; simpa using HZN.out
  have HZ1 : Hid (ZL.toArray.all (·.oneCell') = true) := by show _ = _; rw [hZL]; exact PC.onea (rdL_one _)
  clear hZL
  have HSS : Hid (ZL.toArray.size = RL.toArray.size) := by show _ = _; rw [HZS.out]; simpa using HRN.out.symm
  rw [← hRL]
  have HBK : Hid (∀ W, (Instr.build 33 #[(0, .int .i64 3), (4, .agg (PC.rcL pc rs run).toArray)]).run Tryz.prog W = .ok (.agg RL.toArray) W) := fun W => by rw [hRL]; exact build_rd3 W _ (PC.rcL_len _ _ _ hs)
  have HVI : Hid _ := PC.info10 (PC.rcL pc rs run) (PC.rcL_len _ _ _ hs)
  clear hRL hs hp hx
  generalize PC.rcL pc rs run = VL at *
  obtain ⟨hb0, h0, h1⟩ := alloc2 w VL.toArray ZL.toArray 31 33
  have H0 : Hid _ := PC.rangeAt_row h0
  have H1 : Hid _ := h1
  have HB0 : Hid (Below w.heap.size w ((w.alloc (.cells VL.toArray 31 (0, 0))).alloc (.cells ZL.toArray 33 (0, 0)))) := hb0
  clear hb0 h0 h1
  go_enter Tryz.func28, Tryz.ntmps28
  go_wp2_with (first
    | (refine wpList_load_mid rfl 31 _ rfl w.heap.size 0 rfl VL _ H0.out Tryz.underlying31 rfl HVI.out ?_)
    | (refine PC.wpList_build rfl 33 _ rfl #[(0, .int .i64 3), (4, .agg VL.toArray)] (.agg RL.toArray) (by simp; first | done | exact ⟨rfl, rfl⟩ | exact ⟨rfl, rfl, rfl⟩) (HBK.out _) ?_)
    | (refine wpList_store_row rfl 33 _ _ rfl (w.heap.size + 1) RL.toArray rfl rfl 33 ZL.toArray H1.out HRA.out HSS.out HR1.out ?_))
  refine bodyPost_ret (v := .agg RL.toArray) ?_ rfl ⟨rfl, below_setRow HB0.out (by omega) _⟩
  exact results_cell_row Tryz.results28 _ _ (w.heap.size + 1) 33 _ (0, 0) _ rfl (setRow_heap _ _ _ _ _ _ H1.out) Tryz.underlying33 rfl HRA.out
def mayD (r : Rd) : Bool := if r.kind = 1 then rdEq r (rec1 r.value) else if r.kind = 2 then rdEq r (rec2 r.page r.data) && decide (0 ≤ r.page ∧ r.page < 128) else if r.kind = 3 then rdEq r (rec3 r.pc r.rs r.run) && PC.mayC r.pc else false
structure SB (w : World) (RL : List Value) (X : World) : Prop where
  b : Below w.heap.size w X
  r : X.heap[w.heap.size]? = some (.cells RL.toArray 33 (0, 0))
theorem SB.step {w : World} {RL : List Value} {X Y : World} (h : SB w RL X) (hb : Below X.heap.size X Y) : SB w RL Y := ⟨h.b.trans (hb.mono h.b.size), (hb.block _ (PC.row_lt h.r)).trans h.r⟩
set_option maxHeartbeats 1000000 in
set_option maxRecDepth 100000 in
theorem may_1 (r : Rd) (w : World) (h : r.ok) (hk : r.kind = 1) (b : Bool) (hb : rdEq r (rec1 r.value) = b) : Calls Tryz.prog 8 #[.agg (rdL r).toArray] w fun e w' => e = .returned (.bool b) ∧ Below w.heap.size w w' := by
  have hk1 : (r.kind == 1) = true := by simp [hk]
  have HC : Hid (∀ W, Calls Tryz.prog 26 #[.agg (r.value.map B8).toArray] W fun e w' => e = .returned (.agg (rdL (rec1 r.value)).toArray) ∧ Below W.heap.size W w') := fun W => ofRealm_any r.value W h.v
  have HOK : Hid r.ok := h
  have HE : Hid (∀ W, (binOp .eql 33 (.agg (rdL r).toArray) (.agg (rdL (rec1 r.value)).toArray)).run Tryz.prog W = .ok (.bool b) W) := fun W => by rw [← hb]; exact eql_rd W r _ h (rec1_ok h.v)
  have HRI : Hid _ := info172 (rdL r) (rdL_len h)
  have hc0 : ((w.alloc (.cells (rdL r).toArray 33 (0, 0)))).cell? ⟨w.heap.size, 0, none⟩ = some (.int .i64 r.kind) := by have := PC.rangeAt_row (heap_alloc_new w (.cells (rdL r).toArray 33 (0, 0))) 0 _ (rdL_0 r); rwa [Nat.zero_add] at this
  have HC33 : Hid ((rdL r)[33]? = some (.int .i64 r.page)) := rdL_33 h
  have HVAL : Hid (((rdL r).drop 1).take 32 = r.value.map B8) := by show _ = _; rw [List.drop_one]; exact rdL_val h
  have HDAT : Hid (((rdL r).drop 34).take 128 = r.data.map B8) := rdL_dat h
  have HREC : Hid (((rdL r).drop 162).take 10 = PC.rcL r.pc r.rs r.run) := rdL_rec h
  have HSB : Hid (SB w (rdL r) (w.alloc (.cells (rdL r).toArray 33 (0, 0))).drew) := ⟨((Below.refl _ _).alloc (Nat.le_refl _) _).drew, heap_alloc_new _ _⟩
  have HV32 : Hid _ := R5.info32 (r.value.map B8) (by simpa using h.v)
  have HD128 : Hid _ := PC.info128 (r.data.map B8) (by simpa using h.d)
  have HR10 : Hid _ := PC.info10 (PC.rcL r.pc r.rs r.run) (PC.rcL_len _ _ _ h.s)
  generalize rdL r = RL at *
  generalize rdL (rec1 r.value) = QL at *
  clear h hk hb
  go_enter Tryz.func8, Tryz.ntmps8
  go_wp2
  refine wp_region_held_drew (S := SB w RL) (by kernel_rfl) HSB.out (fun hHeld => ?_)
  generalize (w.alloc (.cells RL.toArray 33 (0, 0))).drew = X at *
  refine wpAnyH_take (i := 0) (oi := ⟨some 7, .load 33 (.tmp 1), 33, _, #[], none⟩) rfl (by kernel_rfl) (by kernel_rfl) (by kernel_rfl) (fun _ _ _ h => h) (yieldsIf_load_mid (by rfl) 33 (.tmp 1) rfl (w.heap.size) (0) rfl (RL) _ (fun _ h => PC.rangeAt_row h.r) Tryz.underlying33 rfl HRI.out) hHeld ?_
  try simp only [Act.put, qT, q0, qS]
  refine wpAnyH_take (i := 1) (oi := ⟨some 8, .fieldAddr 33 (.tmp 1) 1, 0, _, #[], none⟩) (v := .pointer (some ⟨w.heap.size, 1, none⟩)) rfl (by kernel_rfl) (by kernel_rfl) (by kernel_rfl) (fun _ _ _ h => h) (Or.inl ⟨by rfl, fun w' hw' => ?_⟩) hHeld ?_
  · first | (go_simp; done) | (go_simp; rfl)
  try simp only [Act.put, qT, q0, qS]
  refine wpAnyH_take (i := 2) (oi := ⟨some 9, .load 24 (.tmp 8), 24, _, #[⟨1, .data⟩], none⟩) rfl (by kernel_rfl) (by kernel_rfl) (by kernel_rfl) (fun _ _ _ h => h) (yieldsIf_load_mid (by rfl) 24 (.tmp 8) rfl (w.heap.size) (1) rfl (r.value.map B8) _ (fun _ h => (by have h3 := PC.rangeAt_part (PC.rangeAt_row h.r) 1 32; rw [HVAL.out] at h3; exact h3)) Tryz.underlying24 rfl HV32.out) hHeld ?_
  try simp only [Act.put, qT, q0, qS]
  refine wpAnyH_ready (rs := [3]) (by kernel_rfl) (by simp) ?_
  refine AllReadyH.cons (o := { dst := some 10, op := .call { callee := Go.Callee.value (.func 26), args := #[.tmp 9], argTypes := #[24] }, type := 33, pos := _, after := #[⟨2, .data⟩], guard := none }) rfl (fun K hK => ?_) AllReadyH.nil
  rw [if_pos (by rfl)]
  go_wp2_with fail
  refine Calls.mono (HC.out _) ?_
  rintro e Y ⟨rfl, hb⟩
  have hS := hHeld.step hb
  clear hHeld hb
  refine hK.out _ _ hS (fun _ => ?_)
  clear hK K
  try simp only [Act.put, qT, q0, qS]
  have hHeld := hS
  have he := HE.out
  refine wpAnyH_take (i := 4) (oi := ⟨some 11, .binOp .eql 33 (.tmp 7) (.tmp 10) 33, 4, _, #[⟨0, .data⟩, ⟨3, .data⟩], none⟩) (v := .bool b) rfl (by kernel_rfl) (by kernel_rfl) (by kernel_rfl) (fun _ _ _ h => h) (Or.inl ⟨by rfl, fun w' hw' => ?_⟩) hHeld ?_
  · first | (go_simp; done) | (go_simp; rfl)
  try simp only [Act.put, qT, q0, qS]
  refine wpAnyH_take (i := 5) (oi := ⟨some 2, .assign (.tmp 11), 4, _, #[⟨4, .data⟩, ⟨3, .chain⟩, ⟨0, .phase⟩, ⟨1, .phase⟩, ⟨2, .phase⟩, ⟨3, .phase⟩, ⟨4, .phase⟩], none⟩) (v := .bool b) rfl (by kernel_rfl) (by kernel_rfl) (by kernel_rfl) (fun _ _ _ h => h) (Or.inl ⟨by rfl, fun w' hw' => ?_⟩) hHeld ?_
  · first | (go_simp; done) | (go_simp; rfl)
  try simp only [Act.put, qT, q0, qS]
  refine wpAnyH_done (by kernel_rfl) ?_ _
  have HB : Hid _ := hS.b
  clear hS hHeld he
  go_wp2
  go_ret
  exact ⟨rfl, HB.out⟩
set_option maxHeartbeats 1000000 in
set_option maxRecDepth 100000 in
theorem may_2f (r : Rd) (w : World) (h : r.ok) (hk : r.kind = 2) (b : Bool) (hb : rdEq r (rec2 r.page r.data) = b) (hb0 : b = false) : Calls Tryz.prog 8 #[.agg (rdL r).toArray] w fun e w' => e = .returned (.bool false) ∧ Below w.heap.size w w' := by
  subst hb0
  have hk1 : (r.kind == 1) = false := by simp [hk]
  have hk2 : (r.kind == 2) = true := by simp [hk]
  have HC : Hid (∀ W, Calls Tryz.prog 27 #[.int .i64 r.page, .agg (r.data.map B8).toArray] W fun e w' => e = .returned (.agg (rdL (rec2 r.page r.data)).toArray) ∧ Below W.heap.size W w') := fun W => ofData_any r.page r.data W h.d
  have HOK : Hid r.ok := h
  have HE : Hid (∀ W, (binOp .eql 33 (.agg (rdL r).toArray) (.agg (rdL (rec2 r.page r.data)).toArray)).run Tryz.prog W = .ok (.bool false) W) := fun W => by rw [← hb]; exact eql_rd W r _ h (rec2_ok r.page h.d)
  have HRI : Hid _ := info172 (rdL r) (rdL_len h)
  have hc0 : ((w.alloc (.cells (rdL r).toArray 33 (0, 0)))).cell? ⟨w.heap.size, 0, none⟩ = some (.int .i64 r.kind) := by have := PC.rangeAt_row (heap_alloc_new w (.cells (rdL r).toArray 33 (0, 0))) 0 _ (rdL_0 r); rwa [Nat.zero_add] at this
  have HC33 : Hid ((rdL r)[33]? = some (.int .i64 r.page)) := rdL_33 h
  have HVAL : Hid (((rdL r).drop 1).take 32 = r.value.map B8) := by show _ = _; rw [List.drop_one]; exact rdL_val h
  have HDAT : Hid (((rdL r).drop 34).take 128 = r.data.map B8) := rdL_dat h
  have HREC : Hid (((rdL r).drop 162).take 10 = PC.rcL r.pc r.rs r.run) := rdL_rec h
  have HSB : Hid (SB w (rdL r) (w.alloc (.cells (rdL r).toArray 33 (0, 0))).drew) := ⟨((Below.refl _ _).alloc (Nat.le_refl _) _).drew, heap_alloc_new _ _⟩
  have HV32 : Hid _ := R5.info32 (r.value.map B8) (by simpa using h.v)
  have HD128 : Hid _ := PC.info128 (r.data.map B8) (by simpa using h.d)
  have HR10 : Hid _ := PC.info10 (PC.rcL r.pc r.rs r.run) (PC.rcL_len _ _ _ h.s)
  generalize rdL r = RL at *
  generalize rdL (rec2 r.page r.data) = QL at *
  clear h hk hb
  go_enter Tryz.func8, Tryz.ntmps8
  go_wp2
  refine wp_region_held_drew (S := SB w RL) (by kernel_rfl) HSB.out (fun hHeld => ?_)
  generalize (w.alloc (.cells RL.toArray 33 (0, 0))).drew = X at *
  refine wpAnyH_take (i := 0) (oi := ⟨some 14, .load 33 (.tmp 1), 33, _, #[], none⟩) rfl (by kernel_rfl) (by kernel_rfl) (by kernel_rfl) (fun _ _ _ h => h) (yieldsIf_load_mid (by rfl) 33 (.tmp 1) rfl (w.heap.size) (0) rfl (RL) _ (fun _ h => PC.rangeAt_row h.r) Tryz.underlying33 rfl HRI.out) hHeld ?_
  try simp only [Act.put, qT, q0, qS]
  refine wpAnyH_take (i := 1) (oi := ⟨some 15, .fieldAddr 33 (.tmp 1) 2, 0, _, #[], none⟩) (v := .pointer (some ⟨w.heap.size, 33, none⟩)) rfl (by kernel_rfl) (by kernel_rfl) (by kernel_rfl) (fun _ _ _ h => h) (Or.inl ⟨by rfl, fun w' hw' => ?_⟩) hHeld ?_
  · first | (go_simp; done) | (go_simp; rfl)
  try simp only [Act.put, qT, q0, qS]
  refine wpAnyH_take (i := 2) (oi := ⟨some 16, .load 3 (.tmp 15), 3, _, #[⟨1, .data⟩], none⟩) (v := .int .i64 r.page) rfl (by kernel_rfl) (by kernel_rfl) (by kernel_rfl) (fun _ _ _ h => h) (Or.inl ⟨by rfl, fun w' hw' => ?_⟩) hHeld ?_
  · have h33 := (PC.rangeAt_row hw'.r) 33 _ HC33.out; rw [Nat.zero_add] at h33; first | (go_simp; done) | (go_simp; rfl)
  try simp only [Act.put, qT, q0, qS]
  refine wpAnyH_take (i := 3) (oi := ⟨some 17, .fieldAddr 33 (.tmp 1) 3, 0, _, #[], none⟩) (v := .pointer (some ⟨w.heap.size, 34, none⟩)) rfl (by kernel_rfl) (by kernel_rfl) (by kernel_rfl) (fun _ _ _ h => h) (Or.inl ⟨by rfl, fun w' hw' => ?_⟩) hHeld ?_
  · first | (go_simp; done) | (go_simp; rfl)
  try simp only [Act.put, qT, q0, qS]
  refine wpAnyH_take (i := 4) (oi := ⟨some 18, .load 27 (.tmp 17), 27, _, #[⟨3, .data⟩], none⟩) rfl (by kernel_rfl) (by kernel_rfl) (by kernel_rfl) (fun _ _ _ h => h) (yieldsIf_load_mid (by rfl) 27 (.tmp 17) rfl (w.heap.size) (34) rfl (r.data.map B8) _ (fun _ h => (by have h3 := PC.rangeAt_part (PC.rangeAt_row h.r) 34 128; rw [HDAT.out] at h3; exact h3)) Tryz.underlying27 rfl HD128.out) hHeld ?_
  try simp only [Act.put, qT, q0, qS]
  refine wpAnyH_ready (rs := [5]) (by kernel_rfl) (by simp) ?_
  refine AllReadyH.cons (o := { dst := some 19, op := .call { callee := Go.Callee.value (.func 27), args := #[.tmp 16, .tmp 18], argTypes := #[3, 27] }, type := 33, pos := _, after := #[⟨2, .data⟩, ⟨4, .data⟩], guard := none }) rfl (fun K hK => ?_) AllReadyH.nil
  rw [if_pos (by rfl)]
  go_wp2_with fail
  refine Calls.mono (HC.out _) ?_
  rintro e Y ⟨rfl, hbY⟩
  have hS := hHeld.step hbY
  clear hHeld hbY
  refine hK.out _ _ hS (fun _ => ?_)
  clear hK K
  try simp only [Act.put, qT, q0, qS]
  have hHeld := hS
  have he := HE.out
  refine wpAnyH_take (i := 6) (oi := ⟨some 20, .binOp .eql 33 (.tmp 14) (.tmp 19) 33, 4, _, #[⟨0, .data⟩, ⟨5, .data⟩], none⟩) (v := .bool false) rfl (by kernel_rfl) (by kernel_rfl) (by kernel_rfl) (fun _ _ _ h => h) (Or.inl ⟨by rfl, fun w' hw' => ?_⟩) hHeld ?_
  · first | (go_simp; done) | (go_simp; rfl)
  try simp only [Act.put, qT, q0, qS]
  refine wpAnyH_take (i := 7) (oi := ⟨some 21, .move (.tmp 20), 4, _, #[⟨6, .data⟩, ⟨5, .chain⟩], none⟩) (v := .bool false) rfl (by kernel_rfl) (by kernel_rfl) (by kernel_rfl) (fun _ _ _ h => h) (Or.inl ⟨by rfl, fun w' hw' => ?_⟩) hHeld ?_
  · first | (go_simp; done) | (go_simp; rfl)
  try simp only [Act.put, qT, q0, qS]
  refine wpAnyH_take (i := 8) (oi := ⟨some 22, .fieldAddr 33 (.tmp 1) 2, 0, _, #[⟨7, .guard⟩], some (7, true)⟩) (v := undef) rfl (by kernel_rfl) (by kernel_rfl) (by kernel_rfl) (fun _ _ _ h => h) (Or.inr ⟨by rfl, rfl⟩) hHeld ?_
  try simp only [Act.put, qT, q0, qS]
  refine wpAnyH_take (i := 9) (oi := ⟨some 23, .load 3 (.tmp 22), 3, _, #[⟨8, .data⟩, ⟨7, .guard⟩], some (7, true)⟩) (v := undef) rfl (by kernel_rfl) (by kernel_rfl) (by kernel_rfl) (fun _ _ _ h => h) (Or.inr ⟨by rfl, rfl⟩) hHeld ?_
  try simp only [Act.put, qT, q0, qS]
  refine wpAnyH_take (i := 10) (oi := ⟨some 24, .binOp .geq 3 (.tmp 23) (.const (Go.Value.int Go.IntKind.i64 0)) 3, 4, _, #[⟨9, .data⟩, ⟨7, .guard⟩], some (7, true)⟩) (v := undef) rfl (by kernel_rfl) (by kernel_rfl) (by kernel_rfl) (fun _ _ _ h => h) (Or.inr ⟨by rfl, rfl⟩) hHeld ?_
  try simp only [Act.put, qT, q0, qS]
  refine wpAnyH_take (i := 11) (oi := ⟨some 25, .pick (.tmp 21) (.tmp 24) (.const (Go.Value.bool false)), 4, _, #[⟨7, .data⟩, ⟨10, .data⟩], none⟩) (v := .bool false) rfl (by kernel_rfl) (by kernel_rfl) (by kernel_rfl) (fun _ _ _ h => h) (Or.inl ⟨by rfl, fun w' hw' => ?_⟩) hHeld ?_
  · first | (go_simp; done) | (go_simp; rfl)
  try simp only [Act.put, qT, q0, qS]
  refine wpAnyH_take (i := 12) (oi := ⟨some 26, .move (.tmp 25), 4, _, #[⟨11, .data⟩, ⟨7, .chain⟩], none⟩) (v := .bool false) rfl (by kernel_rfl) (by kernel_rfl) (by kernel_rfl) (fun _ _ _ h => h) (Or.inl ⟨by rfl, fun w' hw' => ?_⟩) hHeld ?_
  · first | (go_simp; done) | (go_simp; rfl)
  try simp only [Act.put, qT, q0, qS]
  refine wpAnyH_take (i := 13) (oi := ⟨some 27, .fieldAddr 33 (.tmp 1) 2, 0, _, #[⟨12, .guard⟩], some (12, true)⟩) (v := undef) rfl (by kernel_rfl) (by kernel_rfl) (by kernel_rfl) (fun _ _ _ h => h) (Or.inr ⟨by rfl, rfl⟩) hHeld ?_
  try simp only [Act.put, qT, q0, qS]
  refine wpAnyH_take (i := 14) (oi := ⟨some 28, .load 3 (.tmp 27), 3, _, #[⟨13, .data⟩, ⟨12, .guard⟩], some (12, true)⟩) (v := undef) rfl (by kernel_rfl) (by kernel_rfl) (by kernel_rfl) (fun _ _ _ h => h) (Or.inr ⟨by rfl, rfl⟩) hHeld ?_
  try simp only [Act.put, qT, q0, qS]
  refine wpAnyH_take (i := 15) (oi := ⟨some 29, .binOp .lss 3 (.tmp 28) (.const (Go.Value.int Go.IntKind.i64 128)) 3, 4, _, #[⟨14, .data⟩, ⟨12, .guard⟩], some (12, true)⟩) (v := undef) rfl (by kernel_rfl) (by kernel_rfl) (by kernel_rfl) (fun _ _ _ h => h) (Or.inr ⟨by rfl, rfl⟩) hHeld ?_
  try simp only [Act.put, qT, q0, qS]
  refine wpAnyH_take (i := 16) (oi := ⟨some 30, .pick (.tmp 26) (.tmp 29) (.const (Go.Value.bool false)), 4, _, #[⟨12, .data⟩, ⟨15, .data⟩], none⟩) (v := .bool false) rfl (by kernel_rfl) (by kernel_rfl) (by kernel_rfl) (fun _ _ _ h => h) (Or.inl ⟨by rfl, fun w' hw' => ?_⟩) hHeld ?_
  · first | (go_simp; done) | (go_simp; rfl)
  try simp only [Act.put, qT, q0, qS]
  refine wpAnyH_take (i := 17) (oi := ⟨some 2, .assign (.tmp 30), 4, _, #[⟨16, .data⟩, ⟨12, .chain⟩, ⟨0, .phase⟩, ⟨1, .phase⟩, ⟨2, .phase⟩, ⟨3, .phase⟩, ⟨4, .phase⟩, ⟨5, .phase⟩, ⟨6, .phase⟩, ⟨7, .phase⟩, ⟨8, .phase⟩, ⟨9, .phase⟩, ⟨10, .phase⟩, ⟨11, .phase⟩, ⟨12, .phase⟩, ⟨13, .phase⟩, ⟨14, .phase⟩, ⟨15, .phase⟩, ⟨16, .phase⟩], none⟩) (v := .bool false) rfl (by kernel_rfl) (by kernel_rfl) (by kernel_rfl) (fun _ _ _ h => h) (Or.inl ⟨by rfl, fun w' hw' => ?_⟩) hHeld ?_
  · first | (go_simp; done) | (go_simp; rfl)
  try simp only [Act.put, qT, q0, qS]
  refine wpAnyH_done (by kernel_rfl) ?_ _
  have HB : Hid _ := hS.b
  clear hS hHeld he
  go_wp2
  go_ret
  exact ⟨rfl, HB.out⟩
set_option maxHeartbeats 1000000 in
set_option maxRecDepth 100000 in
theorem may_2n (r : Rd) (w : World) (h : r.ok) (hk : r.kind = 2) (b : Bool) (hb : rdEq r (rec2 r.page r.data) = b) (hb0 : b = true) (hp : ¬ 0 ≤ r.page) : Calls Tryz.prog 8 #[.agg (rdL r).toArray] w fun e w' => e = .returned (.bool false) ∧ Below w.heap.size w w' := by
  subst hb0
  have hk1 : (r.kind == 1) = false := by simp [hk]
  have hk2 : (r.kind == 2) = true := by simp [hk]
  have HC : Hid (∀ W, Calls Tryz.prog 27 #[.int .i64 r.page, .agg (r.data.map B8).toArray] W fun e w' => e = .returned (.agg (rdL (rec2 r.page r.data)).toArray) ∧ Below W.heap.size W w') := fun W => ofData_any r.page r.data W h.d
  have HOK : Hid r.ok := h
  have HE : Hid (∀ W, (binOp .eql 33 (.agg (rdL r).toArray) (.agg (rdL (rec2 r.page r.data)).toArray)).run Tryz.prog W = .ok (.bool true) W) := fun W => by rw [← hb]; exact eql_rd W r _ h (rec2_ok r.page h.d)
  have HRI : Hid _ := info172 (rdL r) (rdL_len h)
  have hc0 : ((w.alloc (.cells (rdL r).toArray 33 (0, 0)))).cell? ⟨w.heap.size, 0, none⟩ = some (.int .i64 r.kind) := by have := PC.rangeAt_row (heap_alloc_new w (.cells (rdL r).toArray 33 (0, 0))) 0 _ (rdL_0 r); rwa [Nat.zero_add] at this
  have HC33 : Hid ((rdL r)[33]? = some (.int .i64 r.page)) := rdL_33 h
  have HVAL : Hid (((rdL r).drop 1).take 32 = r.value.map B8) := by show _ = _; rw [List.drop_one]; exact rdL_val h
  have HDAT : Hid (((rdL r).drop 34).take 128 = r.data.map B8) := rdL_dat h
  have HREC : Hid (((rdL r).drop 162).take 10 = PC.rcL r.pc r.rs r.run) := rdL_rec h
  have HSB : Hid (SB w (rdL r) (w.alloc (.cells (rdL r).toArray 33 (0, 0))).drew) := ⟨((Below.refl _ _).alloc (Nat.le_refl _) _).drew, heap_alloc_new _ _⟩
  have HV32 : Hid _ := R5.info32 (r.value.map B8) (by simpa using h.v)
  have HD128 : Hid _ := PC.info128 (r.data.map B8) (by simpa using h.d)
  have HR10 : Hid _ := PC.info10 (PC.rcL r.pc r.rs r.run) (PC.rcL_len _ _ _ h.s)
  generalize rdL r = RL at *
  generalize rdL (rec2 r.page r.data) = QL at *
  clear h hk hb
  go_enter Tryz.func8, Tryz.ntmps8
  go_wp2
  refine wp_region_held_drew (S := SB w RL) (by kernel_rfl) HSB.out (fun hHeld => ?_)
  generalize (w.alloc (.cells RL.toArray 33 (0, 0))).drew = X at *
  refine wpAnyH_take (i := 0) (oi := ⟨some 14, .load 33 (.tmp 1), 33, _, #[], none⟩) rfl (by kernel_rfl) (by kernel_rfl) (by kernel_rfl) (fun _ _ _ h => h) (yieldsIf_load_mid (by rfl) 33 (.tmp 1) rfl (w.heap.size) (0) rfl (RL) _ (fun _ h => PC.rangeAt_row h.r) Tryz.underlying33 rfl HRI.out) hHeld ?_
  try simp only [Act.put, qT, q0, qS]
  refine wpAnyH_take (i := 1) (oi := ⟨some 15, .fieldAddr 33 (.tmp 1) 2, 0, _, #[], none⟩) (v := .pointer (some ⟨w.heap.size, 33, none⟩)) rfl (by kernel_rfl) (by kernel_rfl) (by kernel_rfl) (fun _ _ _ h => h) (Or.inl ⟨by rfl, fun w' hw' => ?_⟩) hHeld ?_
  · first | (go_simp; done) | (go_simp; rfl)
  try simp only [Act.put, qT, q0, qS]
  refine wpAnyH_take (i := 2) (oi := ⟨some 16, .load 3 (.tmp 15), 3, _, #[⟨1, .data⟩], none⟩) (v := .int .i64 r.page) rfl (by kernel_rfl) (by kernel_rfl) (by kernel_rfl) (fun _ _ _ h => h) (Or.inl ⟨by rfl, fun w' hw' => ?_⟩) hHeld ?_
  · have h33 := (PC.rangeAt_row hw'.r) 33 _ HC33.out; rw [Nat.zero_add] at h33; first | (go_simp; done) | (go_simp; rfl)
  try simp only [Act.put, qT, q0, qS]
  refine wpAnyH_take (i := 3) (oi := ⟨some 17, .fieldAddr 33 (.tmp 1) 3, 0, _, #[], none⟩) (v := .pointer (some ⟨w.heap.size, 34, none⟩)) rfl (by kernel_rfl) (by kernel_rfl) (by kernel_rfl) (fun _ _ _ h => h) (Or.inl ⟨by rfl, fun w' hw' => ?_⟩) hHeld ?_
  · first | (go_simp; done) | (go_simp; rfl)
  try simp only [Act.put, qT, q0, qS]
  refine wpAnyH_take (i := 4) (oi := ⟨some 18, .load 27 (.tmp 17), 27, _, #[⟨3, .data⟩], none⟩) rfl (by kernel_rfl) (by kernel_rfl) (by kernel_rfl) (fun _ _ _ h => h) (yieldsIf_load_mid (by rfl) 27 (.tmp 17) rfl (w.heap.size) (34) rfl (r.data.map B8) _ (fun _ h => (by have h3 := PC.rangeAt_part (PC.rangeAt_row h.r) 34 128; rw [HDAT.out] at h3; exact h3)) Tryz.underlying27 rfl HD128.out) hHeld ?_
  try simp only [Act.put, qT, q0, qS]
  refine wpAnyH_ready (rs := [5]) (by kernel_rfl) (by simp) ?_
  refine AllReadyH.cons (o := { dst := some 19, op := .call { callee := Go.Callee.value (.func 27), args := #[.tmp 16, .tmp 18], argTypes := #[3, 27] }, type := 33, pos := _, after := #[⟨2, .data⟩, ⟨4, .data⟩], guard := none }) rfl (fun K hK => ?_) AllReadyH.nil
  rw [if_pos (by rfl)]
  go_wp2_with fail
  refine Calls.mono (HC.out _) ?_
  rintro e Y ⟨rfl, hbY⟩
  have hS := hHeld.step hbY
  clear hHeld hbY
  refine hK.out _ _ hS (fun _ => ?_)
  clear hK K
  try simp only [Act.put, qT, q0, qS]
  have hHeld := hS
  have he := HE.out
  refine wpAnyH_take (i := 6) (oi := ⟨some 20, .binOp .eql 33 (.tmp 14) (.tmp 19) 33, 4, _, #[⟨0, .data⟩, ⟨5, .data⟩], none⟩) (v := .bool true) rfl (by kernel_rfl) (by kernel_rfl) (by kernel_rfl) (fun _ _ _ h => h) (Or.inl ⟨by rfl, fun w' hw' => ?_⟩) hHeld ?_
  · first | (go_simp; done) | (go_simp; rfl)
  try simp only [Act.put, qT, q0, qS]
  refine wpAnyH_take (i := 7) (oi := ⟨some 21, .move (.tmp 20), 4, _, #[⟨6, .data⟩, ⟨5, .chain⟩], none⟩) (v := .bool true) rfl (by kernel_rfl) (by kernel_rfl) (by kernel_rfl) (fun _ _ _ h => h) (Or.inl ⟨by rfl, fun w' hw' => ?_⟩) hHeld ?_
  · first | (go_simp; done) | (go_simp; rfl)
  try simp only [Act.put, qT, q0, qS]
  refine wpAnyH_take (i := 8) (oi := ⟨some 22, .fieldAddr 33 (.tmp 1) 2, 0, _, #[⟨7, .guard⟩], some (7, true)⟩) (v := .pointer (some ⟨w.heap.size, 33, none⟩)) rfl (by kernel_rfl) (by kernel_rfl) (by kernel_rfl) (fun _ _ _ h => h) (Or.inl ⟨by rfl, fun w' hw' => ?_⟩) hHeld ?_
  · first | (go_simp; done) | (go_simp; rfl)
  try simp only [Act.put, qT, q0, qS]
  refine wpAnyH_take (i := 9) (oi := ⟨some 23, .load 3 (.tmp 22), 3, _, #[⟨8, .data⟩, ⟨7, .guard⟩], some (7, true)⟩) (v := .int .i64 r.page) rfl (by kernel_rfl) (by kernel_rfl) (by kernel_rfl) (fun _ _ _ h => h) (Or.inl ⟨by rfl, fun w' hw' => ?_⟩) hHeld ?_
  · have h33 := (PC.rangeAt_row hw'.r) 33 _ HC33.out; rw [Nat.zero_add] at h33; first | (go_simp; done) | (go_simp; rfl)
  try simp only [Act.put, qT, q0, qS]
  refine wpAnyH_take (i := 10) (oi := ⟨some 24, .binOp .geq 3 (.tmp 23) (.const (Go.Value.int Go.IntKind.i64 0)) 3, 4, _, #[⟨9, .data⟩, ⟨7, .guard⟩], some (7, true)⟩) (v := .bool false) rfl (by kernel_rfl) (by kernel_rfl) (by kernel_rfl) (fun _ _ _ h => h) (Or.inl ⟨by rfl, fun w' hw' => ?_⟩) hHeld ?_
  · first | (go_simp; done) | (go_simp; rfl)
  try simp only [Act.put, qT, q0, qS]
  refine wpAnyH_take (i := 11) (oi := ⟨some 25, .pick (.tmp 21) (.tmp 24) (.const (Go.Value.bool false)), 4, _, #[⟨7, .data⟩, ⟨10, .data⟩], none⟩) (v := .bool false) rfl (by kernel_rfl) (by kernel_rfl) (by kernel_rfl) (fun _ _ _ h => h) (Or.inl ⟨by rfl, fun w' hw' => ?_⟩) hHeld ?_
  · first | (go_simp; done) | (go_simp; rfl)
  try simp only [Act.put, qT, q0, qS]
  refine wpAnyH_take (i := 12) (oi := ⟨some 26, .move (.tmp 25), 4, _, #[⟨11, .data⟩, ⟨7, .chain⟩], none⟩) (v := .bool false) rfl (by kernel_rfl) (by kernel_rfl) (by kernel_rfl) (fun _ _ _ h => h) (Or.inl ⟨by rfl, fun w' hw' => ?_⟩) hHeld ?_
  · first | (go_simp; done) | (go_simp; rfl)
  try simp only [Act.put, qT, q0, qS]
  refine wpAnyH_take (i := 13) (oi := ⟨some 27, .fieldAddr 33 (.tmp 1) 2, 0, _, #[⟨12, .guard⟩], some (12, true)⟩) (v := undef) rfl (by kernel_rfl) (by kernel_rfl) (by kernel_rfl) (fun _ _ _ h => h) (Or.inr ⟨by rfl, rfl⟩) hHeld ?_
  try simp only [Act.put, qT, q0, qS]
  refine wpAnyH_take (i := 14) (oi := ⟨some 28, .load 3 (.tmp 27), 3, _, #[⟨13, .data⟩, ⟨12, .guard⟩], some (12, true)⟩) (v := undef) rfl (by kernel_rfl) (by kernel_rfl) (by kernel_rfl) (fun _ _ _ h => h) (Or.inr ⟨by rfl, rfl⟩) hHeld ?_
  try simp only [Act.put, qT, q0, qS]
  refine wpAnyH_take (i := 15) (oi := ⟨some 29, .binOp .lss 3 (.tmp 28) (.const (Go.Value.int Go.IntKind.i64 128)) 3, 4, _, #[⟨14, .data⟩, ⟨12, .guard⟩], some (12, true)⟩) (v := undef) rfl (by kernel_rfl) (by kernel_rfl) (by kernel_rfl) (fun _ _ _ h => h) (Or.inr ⟨by rfl, rfl⟩) hHeld ?_
  try simp only [Act.put, qT, q0, qS]
  refine wpAnyH_take (i := 16) (oi := ⟨some 30, .pick (.tmp 26) (.tmp 29) (.const (Go.Value.bool false)), 4, _, #[⟨12, .data⟩, ⟨15, .data⟩], none⟩) (v := .bool false) rfl (by kernel_rfl) (by kernel_rfl) (by kernel_rfl) (fun _ _ _ h => h) (Or.inl ⟨by rfl, fun w' hw' => ?_⟩) hHeld ?_
  · first | (go_simp; done) | (go_simp; rfl)
  try simp only [Act.put, qT, q0, qS]
  refine wpAnyH_take (i := 17) (oi := ⟨some 2, .assign (.tmp 30), 4, _, #[⟨16, .data⟩, ⟨12, .chain⟩, ⟨0, .phase⟩, ⟨1, .phase⟩, ⟨2, .phase⟩, ⟨3, .phase⟩, ⟨4, .phase⟩, ⟨5, .phase⟩, ⟨6, .phase⟩, ⟨7, .phase⟩, ⟨8, .phase⟩, ⟨9, .phase⟩, ⟨10, .phase⟩, ⟨11, .phase⟩, ⟨12, .phase⟩, ⟨13, .phase⟩, ⟨14, .phase⟩, ⟨15, .phase⟩, ⟨16, .phase⟩], none⟩) (v := .bool false) rfl (by kernel_rfl) (by kernel_rfl) (by kernel_rfl) (fun _ _ _ h => h) (Or.inl ⟨by rfl, fun w' hw' => ?_⟩) hHeld ?_
  · first | (go_simp; done) | (go_simp; rfl)
  try simp only [Act.put, qT, q0, qS]
  refine wpAnyH_done (by kernel_rfl) ?_ _
  have HB : Hid _ := hS.b
  clear hS hHeld he
  go_wp2
  go_ret
  exact ⟨rfl, HB.out⟩
set_option maxHeartbeats 1000000 in
set_option maxRecDepth 100000 in
theorem may_2p (r : Rd) (w : World) (h : r.ok) (hk : r.kind = 2) (b : Bool) (hb : rdEq r (rec2 r.page r.data) = b) (hb0 : b = true) (hp : 0 ≤ r.page) (c : Bool) (hc : decide (r.page < 128) = c) : Calls Tryz.prog 8 #[.agg (rdL r).toArray] w fun e w' => e = .returned (.bool c) ∧ Below w.heap.size w w' := by
  subst hb0
  have hk1 : (r.kind == 1) = false := by simp [hk]
  have hk2 : (r.kind == 2) = true := by simp [hk]
  have HC : Hid (∀ W, Calls Tryz.prog 27 #[.int .i64 r.page, .agg (r.data.map B8).toArray] W fun e w' => e = .returned (.agg (rdL (rec2 r.page r.data)).toArray) ∧ Below W.heap.size W w') := fun W => ofData_any r.page r.data W h.d
  have HOK : Hid r.ok := h
  have HE : Hid (∀ W, (binOp .eql 33 (.agg (rdL r).toArray) (.agg (rdL (rec2 r.page r.data)).toArray)).run Tryz.prog W = .ok (.bool true) W) := fun W => by rw [← hb]; exact eql_rd W r _ h (rec2_ok r.page h.d)
  have HRI : Hid _ := info172 (rdL r) (rdL_len h)
  have hc0 : ((w.alloc (.cells (rdL r).toArray 33 (0, 0)))).cell? ⟨w.heap.size, 0, none⟩ = some (.int .i64 r.kind) := by have := PC.rangeAt_row (heap_alloc_new w (.cells (rdL r).toArray 33 (0, 0))) 0 _ (rdL_0 r); rwa [Nat.zero_add] at this
  have HC33 : Hid ((rdL r)[33]? = some (.int .i64 r.page)) := rdL_33 h
  have HVAL : Hid (((rdL r).drop 1).take 32 = r.value.map B8) := by show _ = _; rw [List.drop_one]; exact rdL_val h
  have HDAT : Hid (((rdL r).drop 34).take 128 = r.data.map B8) := rdL_dat h
  have HREC : Hid (((rdL r).drop 162).take 10 = PC.rcL r.pc r.rs r.run) := rdL_rec h
  have HSB : Hid (SB w (rdL r) (w.alloc (.cells (rdL r).toArray 33 (0, 0))).drew) := ⟨((Below.refl _ _).alloc (Nat.le_refl _) _).drew, heap_alloc_new _ _⟩
  have HV32 : Hid _ := R5.info32 (r.value.map B8) (by simpa using h.v)
  have HD128 : Hid _ := PC.info128 (r.data.map B8) (by simpa using h.d)
  have HR10 : Hid _ := PC.info10 (PC.rcL r.pc r.rs r.run) (PC.rcL_len _ _ _ h.s)
  generalize rdL r = RL at *
  generalize rdL (rec2 r.page r.data) = QL at *
  clear h hk hb
  go_enter Tryz.func8, Tryz.ntmps8
  go_wp2
  refine wp_region_held_drew (S := SB w RL) (by kernel_rfl) HSB.out (fun hHeld => ?_)
  generalize (w.alloc (.cells RL.toArray 33 (0, 0))).drew = X at *
  refine wpAnyH_take (i := 0) (oi := ⟨some 14, .load 33 (.tmp 1), 33, _, #[], none⟩) rfl (by kernel_rfl) (by kernel_rfl) (by kernel_rfl) (fun _ _ _ h => h) (yieldsIf_load_mid (by rfl) 33 (.tmp 1) rfl (w.heap.size) (0) rfl (RL) _ (fun _ h => PC.rangeAt_row h.r) Tryz.underlying33 rfl HRI.out) hHeld ?_
  try simp only [Act.put, qT, q0, qS]
  refine wpAnyH_take (i := 1) (oi := ⟨some 15, .fieldAddr 33 (.tmp 1) 2, 0, _, #[], none⟩) (v := .pointer (some ⟨w.heap.size, 33, none⟩)) rfl (by kernel_rfl) (by kernel_rfl) (by kernel_rfl) (fun _ _ _ h => h) (Or.inl ⟨by rfl, fun w' hw' => ?_⟩) hHeld ?_
  · first | (go_simp; done) | (go_simp; rfl)
  try simp only [Act.put, qT, q0, qS]
  refine wpAnyH_take (i := 2) (oi := ⟨some 16, .load 3 (.tmp 15), 3, _, #[⟨1, .data⟩], none⟩) (v := .int .i64 r.page) rfl (by kernel_rfl) (by kernel_rfl) (by kernel_rfl) (fun _ _ _ h => h) (Or.inl ⟨by rfl, fun w' hw' => ?_⟩) hHeld ?_
  · have h33 := (PC.rangeAt_row hw'.r) 33 _ HC33.out; rw [Nat.zero_add] at h33; first | (go_simp; done) | (go_simp; rfl)
  try simp only [Act.put, qT, q0, qS]
  refine wpAnyH_take (i := 3) (oi := ⟨some 17, .fieldAddr 33 (.tmp 1) 3, 0, _, #[], none⟩) (v := .pointer (some ⟨w.heap.size, 34, none⟩)) rfl (by kernel_rfl) (by kernel_rfl) (by kernel_rfl) (fun _ _ _ h => h) (Or.inl ⟨by rfl, fun w' hw' => ?_⟩) hHeld ?_
  · first | (go_simp; done) | (go_simp; rfl)
  try simp only [Act.put, qT, q0, qS]
  refine wpAnyH_take (i := 4) (oi := ⟨some 18, .load 27 (.tmp 17), 27, _, #[⟨3, .data⟩], none⟩) rfl (by kernel_rfl) (by kernel_rfl) (by kernel_rfl) (fun _ _ _ h => h) (yieldsIf_load_mid (by rfl) 27 (.tmp 17) rfl (w.heap.size) (34) rfl (r.data.map B8) _ (fun _ h => (by have h3 := PC.rangeAt_part (PC.rangeAt_row h.r) 34 128; rw [HDAT.out] at h3; exact h3)) Tryz.underlying27 rfl HD128.out) hHeld ?_
  try simp only [Act.put, qT, q0, qS]
  refine wpAnyH_ready (rs := [5]) (by kernel_rfl) (by simp) ?_
  refine AllReadyH.cons (o := { dst := some 19, op := .call { callee := Go.Callee.value (.func 27), args := #[.tmp 16, .tmp 18], argTypes := #[3, 27] }, type := 33, pos := _, after := #[⟨2, .data⟩, ⟨4, .data⟩], guard := none }) rfl (fun K hK => ?_) AllReadyH.nil
  rw [if_pos (by rfl)]
  go_wp2_with fail
  refine Calls.mono (HC.out _) ?_
  rintro e Y ⟨rfl, hbY⟩
  have hS := hHeld.step hbY
  clear hHeld hbY
  refine hK.out _ _ hS (fun _ => ?_)
  clear hK K
  try simp only [Act.put, qT, q0, qS]
  have hHeld := hS
  have he := HE.out
  refine wpAnyH_take (i := 6) (oi := ⟨some 20, .binOp .eql 33 (.tmp 14) (.tmp 19) 33, 4, _, #[⟨0, .data⟩, ⟨5, .data⟩], none⟩) (v := .bool true) rfl (by kernel_rfl) (by kernel_rfl) (by kernel_rfl) (fun _ _ _ h => h) (Or.inl ⟨by rfl, fun w' hw' => ?_⟩) hHeld ?_
  · first | (go_simp; done) | (go_simp; rfl)
  try simp only [Act.put, qT, q0, qS]
  refine wpAnyH_take (i := 7) (oi := ⟨some 21, .move (.tmp 20), 4, _, #[⟨6, .data⟩, ⟨5, .chain⟩], none⟩) (v := .bool true) rfl (by kernel_rfl) (by kernel_rfl) (by kernel_rfl) (fun _ _ _ h => h) (Or.inl ⟨by rfl, fun w' hw' => ?_⟩) hHeld ?_
  · first | (go_simp; done) | (go_simp; rfl)
  try simp only [Act.put, qT, q0, qS]
  refine wpAnyH_take (i := 8) (oi := ⟨some 22, .fieldAddr 33 (.tmp 1) 2, 0, _, #[⟨7, .guard⟩], some (7, true)⟩) (v := .pointer (some ⟨w.heap.size, 33, none⟩)) rfl (by kernel_rfl) (by kernel_rfl) (by kernel_rfl) (fun _ _ _ h => h) (Or.inl ⟨by rfl, fun w' hw' => ?_⟩) hHeld ?_
  · first | (go_simp; done) | (go_simp; rfl)
  try simp only [Act.put, qT, q0, qS]
  refine wpAnyH_take (i := 9) (oi := ⟨some 23, .load 3 (.tmp 22), 3, _, #[⟨8, .data⟩, ⟨7, .guard⟩], some (7, true)⟩) (v := .int .i64 r.page) rfl (by kernel_rfl) (by kernel_rfl) (by kernel_rfl) (fun _ _ _ h => h) (Or.inl ⟨by rfl, fun w' hw' => ?_⟩) hHeld ?_
  · have h33 := (PC.rangeAt_row hw'.r) 33 _ HC33.out; rw [Nat.zero_add] at h33; first | (go_simp; done) | (go_simp; rfl)
  try simp only [Act.put, qT, q0, qS]
  refine wpAnyH_take (i := 10) (oi := ⟨some 24, .binOp .geq 3 (.tmp 23) (.const (Go.Value.int Go.IntKind.i64 0)) 3, 4, _, #[⟨9, .data⟩, ⟨7, .guard⟩], some (7, true)⟩) (v := .bool true) rfl (by kernel_rfl) (by kernel_rfl) (by kernel_rfl) (fun _ _ _ h => h) (Or.inl ⟨by rfl, fun w' hw' => ?_⟩) hHeld ?_
  · first | (go_simp; done) | (go_simp; rfl)
  try simp only [Act.put, qT, q0, qS]
  refine wpAnyH_take (i := 11) (oi := ⟨some 25, .pick (.tmp 21) (.tmp 24) (.const (Go.Value.bool false)), 4, _, #[⟨7, .data⟩, ⟨10, .data⟩], none⟩) (v := .bool true) rfl (by kernel_rfl) (by kernel_rfl) (by kernel_rfl) (fun _ _ _ h => h) (Or.inl ⟨by rfl, fun w' hw' => ?_⟩) hHeld ?_
  · first | (go_simp; done) | (go_simp; rfl)
  try simp only [Act.put, qT, q0, qS]
  refine wpAnyH_take (i := 12) (oi := ⟨some 26, .move (.tmp 25), 4, _, #[⟨11, .data⟩, ⟨7, .chain⟩], none⟩) (v := .bool true) rfl (by kernel_rfl) (by kernel_rfl) (by kernel_rfl) (fun _ _ _ h => h) (Or.inl ⟨by rfl, fun w' hw' => ?_⟩) hHeld ?_
  · first | (go_simp; done) | (go_simp; rfl)
  try simp only [Act.put, qT, q0, qS]
  refine wpAnyH_take (i := 13) (oi := ⟨some 27, .fieldAddr 33 (.tmp 1) 2, 0, _, #[⟨12, .guard⟩], some (12, true)⟩) (v := .pointer (some ⟨w.heap.size, 33, none⟩)) rfl (by kernel_rfl) (by kernel_rfl) (by kernel_rfl) (fun _ _ _ h => h) (Or.inl ⟨by rfl, fun w' hw' => ?_⟩) hHeld ?_
  · first | (go_simp; done) | (go_simp; rfl)
  try simp only [Act.put, qT, q0, qS]
  refine wpAnyH_take (i := 14) (oi := ⟨some 28, .load 3 (.tmp 27), 3, _, #[⟨13, .data⟩, ⟨12, .guard⟩], some (12, true)⟩) (v := .int .i64 r.page) rfl (by kernel_rfl) (by kernel_rfl) (by kernel_rfl) (fun _ _ _ h => h) (Or.inl ⟨by rfl, fun w' hw' => ?_⟩) hHeld ?_
  · have h33 := (PC.rangeAt_row hw'.r) 33 _ HC33.out; rw [Nat.zero_add] at h33; first | (go_simp; done) | (go_simp; rfl)
  try simp only [Act.put, qT, q0, qS]
  refine wpAnyH_take (i := 15) (oi := ⟨some 29, .binOp .lss 3 (.tmp 28) (.const (Go.Value.int Go.IntKind.i64 128)) 3, 4, _, #[⟨14, .data⟩, ⟨12, .guard⟩], some (12, true)⟩) (v := .bool c) rfl (by kernel_rfl) (by kernel_rfl) (by kernel_rfl) (fun _ _ _ h => h) (Or.inl ⟨by rfl, fun w' hw' => ?_⟩) hHeld ?_
  · first | (go_simp; done) | (go_simp; rfl)
  try simp only [Act.put, qT, q0, qS]
  refine wpAnyH_take (i := 16) (oi := ⟨some 30, .pick (.tmp 26) (.tmp 29) (.const (Go.Value.bool false)), 4, _, #[⟨12, .data⟩, ⟨15, .data⟩], none⟩) (v := .bool c) rfl (by kernel_rfl) (by kernel_rfl) (by kernel_rfl) (fun _ _ _ h => h) (Or.inl ⟨by rfl, fun w' hw' => ?_⟩) hHeld ?_
  · first | (go_simp; done) | (go_simp; rfl)
  try simp only [Act.put, qT, q0, qS]
  refine wpAnyH_take (i := 17) (oi := ⟨some 2, .assign (.tmp 30), 4, _, #[⟨16, .data⟩, ⟨12, .chain⟩, ⟨0, .phase⟩, ⟨1, .phase⟩, ⟨2, .phase⟩, ⟨3, .phase⟩, ⟨4, .phase⟩, ⟨5, .phase⟩, ⟨6, .phase⟩, ⟨7, .phase⟩, ⟨8, .phase⟩, ⟨9, .phase⟩, ⟨10, .phase⟩, ⟨11, .phase⟩, ⟨12, .phase⟩, ⟨13, .phase⟩, ⟨14, .phase⟩, ⟨15, .phase⟩, ⟨16, .phase⟩], none⟩) (v := .bool c) rfl (by kernel_rfl) (by kernel_rfl) (by kernel_rfl) (fun _ _ _ h => h) (Or.inl ⟨by rfl, fun w' hw' => ?_⟩) hHeld ?_
  · first | (go_simp; done) | (go_simp; rfl)
  try simp only [Act.put, qT, q0, qS]
  refine wpAnyH_done (by kernel_rfl) ?_ _
  have HB : Hid _ := hS.b
  clear hS hHeld he
  go_wp2
  go_ret
  exact ⟨rfl, HB.out⟩
end Go.Proofs.YtpmknkagnkagpaaGreat.ZC
