/- CpuDoes: for any state, any instruction, any word, the tables of the program's as its text lays them, the statement's function answers true. -/
import Derived.Test.YtkpjfhphohanlaaDoorLA
import Derived.Test.YtkpjfhphohanlaaDoorLN
import Derived.Test.YtkpjfhphohanlaaDoorLF
import Derived.Test.YtkpjfhphohanlaaDoorLL
set_option linter.unusedVariables false
set_option linter.unusedSimpArgs false
namespace Go.Proofs.YtkpjfhphohanlaaDoor.JC
open Go.RowKit
open Go.Proofs.YtkpjfhphohanlaaDoor.EC (row_lt heap_at rangeAt_below rangeAt_row ret_bool ret_i64 beq_int)
theorem eq_ev (w : World) (k n : Int) : (Op.equalIn 10000 48 (.agg (eL k n).toArray) (.agg (eL k n).toArray)).run Tryd.prog w = .ok true w := by
  rw [run_equalIn_struct w 9999 _ _ _ (by kernel_rfl) (by kernel_rfl)]
  unfold eL
  go_simp
theorem eq_need (w : World) (k a x : Int) : (Op.equalIn 10000 53 (.agg (nL k a x).toArray) (.agg (nL k a x).toArray)).run Tryd.prog w = .ok true w := by
  rw [run_equalIn_struct w 9999 _ _ _ (by kernel_rfl) (by kernel_rfl)]
  unfold nL
  go_simp
/-- The state's row, the instruction's, and what stood ahead of them. -/
structure DW (w : World) (CL IL : List Value) (X : World) : Prop where
  bel : Below w.heap.size w X
  c : X.heap[w.heap.size]? = some (.cells CL.toArray 45 (0, 0))
  i : X.heap[w.heap.size + 1]? = some (.cells IL.toArray 24 (0, 0))
theorem DW.new (w : World) (CL IL : List Value) : DW w CL IL ((w.alloc (.cells CL.toArray 45 (0, 0))).alloc (.cells IL.toArray 24 (0, 0))) :=
  ⟨((Below.refl _ _).alloc (Nat.le_refl _) _).alloc (by simp) _, (heap_alloc_old _ _ (by simp)).trans (heap_alloc_new _ _), heap_at _ _ _ (by simp)⟩
theorem DW.below {w : World} {CL IL : List Value} {X Y : World} (h : DW w CL IL X) (hb : Below X.heap.size X Y) : DW w CL IL Y :=
  ⟨h.bel.trans (hb.mono h.bel.size), (hb.block _ (row_lt h.c)).trans h.c, (hb.block _ (row_lt h.i)).trans h.i⟩
/-- What Do answered: its two rows. -/
structure RW (b : Nat) (CR EV : List Value) (X : World) : Prop where
  r : X.heap[b]? = some (.cells CR.toArray 45 (0, 0))
  e : X.heap[b + 1]? = some (.cells EV.toArray 48 (0, 0))
theorem RW.below {b : Nat} {CR EV : List Value} {X Y : World} (h : RW b CR EV X) (hb : Below X.heap.size X Y) : RW b CR EV Y := ⟨(hb.block _ (row_lt h.r)).trans h.r, (hb.block _ (row_lt h.e)).trans h.e⟩
theorem put_two (Y : World) (ZL EZ CR EV : List Value) : Below Y.heap.size Y ((((Y.alloc (.cells ZL.toArray 45 (0, 0))).alloc (.cells EZ.toArray 48 (0, 0))).setRow Y.heap.size CR.toArray).setRow (Y.heap.size + 1) EV.toArray) ∧ RW Y.heap.size CR EV ((((Y.alloc (.cells ZL.toArray 45 (0, 0))).alloc (.cells EZ.toArray 48 (0, 0))).setRow Y.heap.size CR.toArray).setRow (Y.heap.size + 1) EV.toArray) := by
  have h1 : ((Y.alloc (.cells ZL.toArray 45 (0, 0))).alloc (.cells EZ.toArray 48 (0, 0))).heap[Y.heap.size]? = some (.cells ZL.toArray 45 (0, 0)) := (heap_alloc_old _ _ (by simp)).trans (heap_alloc_new _ _)
  have h2 : ((Y.alloc (.cells ZL.toArray 45 (0, 0))).alloc (.cells EZ.toArray 48 (0, 0))).heap[Y.heap.size + 1]? = some (.cells EZ.toArray 48 (0, 0)) := heap_at _ _ _ (by simp)
  refine ⟨below_setRow (below_setRow (((Below.refl _ _).alloc (Nat.le_refl _) _).alloc (by simp) _) (Nat.le_refl _) _) (by omega) _, ?_, ?_⟩
  · rw [setRow_other _ _ _ _ (by omega)]; exact setRow_heap _ _ _ _ _ _ h1
  · exact setRow_heap _ _ _ _ _ _ ((setRow_other _ _ _ _ (by omega)).trans h2)
/-- All of it. -/
structure FW (w : World) (CL IL : List Value) (b1 b2 : Nat) (CR EV : List Value) (X : World) : Prop where
  d : DW w CL IL X
  a : RW b1 CR EV X
  b : RW b2 CR EV X
theorem FW.below {w : World} {CL IL : List Value} {b1 b2 : Nat} {CR EV : List Value} {X Y : World} (h : FW w CL IL b1 b2 CR EV X) (hb : Below X.heap.size X Y) : FW w CL IL b1 b2 CR EV Y := ⟨h.d.below hb, h.a.below hb, h.b.below hb⟩
end Go.Proofs.YtkpjfhphohanlaaDoor.JC
namespace Go.Proofs.YtkpjfhphohanlaaDoor.cpuDoes
open Go.ChangeShapes Go.WideShapes Go.ChangeAt Go.RowKit
open Go.Proofs.YtkpjfhphohanlaaDoor.JC
open Go.Proofs.YtkpjfhphohanlaaDoor.EC (row_lt heap_at rangeAt_below rangeAt_row ret_bool ret_i64 beq_int)

set_option maxHeartbeats 2000000 in
set_option maxRecDepth 100000 in
theorem walk (s : St) (i : Ins) (x : Int) (w : World) (hs : swf s) (hi : iwf i) (hx : (Lit.int .u64 x).wf = true) (hG : GV w) : Calls Tryd.prog 5 #[.agg (sL s).toArray, .agg (iL i).toArray, .int .u64 x] w fun e w' => e = .returned (.bool true) ∧ Below w.heap.size w w' := by
  have HK : Hid (∀ W, GV W → Calls Tryd.prog 13 #[] W fun e w' => e = .returned (.bool true) ∧ Below W.heap.size W w') := fun W hW => known_any W hW
  have hu : u64 x := JC.bounds_u64 hx
  have hP := fun W => do_any s hs i hi x hu W
  have hR := fun W => rdo_any s hs i x hu W
  have hN := fun W => need_any s hs i hi W
  have hM := fun W => rneed_any s hs i hi W
  have hw2 : swf (doR s i x).1 := doR_wf hs i x hu
  have hqC := fun W => eq_cpu W _ hw2
  have hqE := fun W => eq_ev W (doR s i x).2.1 (doR s i x).2.2
  have hqN := fun W => eq_need W (ndK i) (ndA s i) (ndW s i)
  have HCN : Hid _ := sL_len hw2
  have HC1 : Hid _ := sL_one (doR s i x).1
  have HEN : Hid ((eL (doR s i x).2.1 (doR s i x).2.2).length = 2) := rfl
  have HE1 : Hid _ := eL_one (doR s i x).2.1 (doR s i x).2.2
  have HLN : Hid _ := sL_len hs
  have HIN : Hid _ := ins_info i
  have hiV : iV i = .agg (iL i).toArray := rfl
  unfold DoEnd at hP hR
  rw [hiV] at hP hR hN hM
  generalize sL (doR s i x).1 = CR at *
  generalize eL (doR s i x).2.1 (doR s i x).2.2 = EV at *
  generalize nL (ndK i) (ndA s i) (ndW s i) = NV at *
  generalize sL s = CL at *
  generalize iL i = IL at *
  clear hw2 hiV hu hx hs hi
  have hzC := fun W => zero9 W
  obtain ⟨ZL, hZL⟩ : ∃ L, L = Z9 := ⟨_, rfl⟩
  rw [← hZL] at hzC
  have HZN : Hid (ZL.length = 9) := by rw [hZL]; rfl
  have hzE := fun W => zero2 W
  obtain ⟨EZ, hEZ⟩ : ∃ L, L = eL 0 0 := ⟨_, rfl⟩
  rw [← hEZ] at hzE
  have HZE : Hid (EZ.length = 2) := by rw [hEZ]; rfl
  clear hZL hEZ
  have HQC : Hid _ := hqC
  have HQE : Hid _ := hqE
  have HQN : Hid _ := hqN
  have HB0 : Hid _ := DW.new w CL IL
  have HGV : Hid (∀ X, DW w CL IL X → GV X) := fun X hX => hG.below hX.bel
  clear hG hqC hqE hqN
  go_enter Tryd.func5, Tryd.ntmps5
  go_wp2_with (first
    | (refine wpList_load_mid rfl 45 _ rfl w.heap.size 0 rfl CL _ (rangeAt_row HB0.out.c) Tryd.underlying45 rfl (info9 CL HLN.out) ?_)
    | (refine wpList_load_mid rfl 24 _ rfl (w.heap.size + 1) 0 rfl IL _ (rangeAt_row HB0.out.i) Tryd.underlying24 rfl HIN.out ?_))
  refine Calls.mono (hP _) ?_
  rintro e Y1 ⟨rfl, hb1⟩
  have HQ1 : Hid (((Y1.alloc (.cells ZL.toArray 45 (0, 0))).alloc (.cells EZ.toArray 48 (0, 0))).heap[Y1.heap.size]? = some (.cells ZL.toArray 45 (0, 0))) := (heap_alloc_old _ _ (by simp)).trans (heap_alloc_new _ _)
  have HR1 : Hid ((((Y1.alloc (.cells ZL.toArray 45 (0, 0))).alloc (.cells EZ.toArray 48 (0, 0))).setRow Y1.heap.size CR.toArray).heap[Y1.heap.size + 1]? = some (.cells EZ.toArray 48 (0, 0))) := (setRow_other _ _ _ _ (by omega)).trans (heap_at _ _ _ (by simp))
  obtain ⟨pT, rT⟩ := put_two Y1 ZL EZ CR EV
  have hd1 := HB0.out.below hb1
  have HB1 : Hid (DW w CL IL ((((Y1.alloc (.cells ZL.toArray 45 (0, 0))).alloc (.cells EZ.toArray 48 (0, 0))).setRow Y1.heap.size CR.toArray).setRow (Y1.heap.size + 1) EV.toArray)) := hd1.below pT
  have HA1 : Hid (RW Y1.heap.size CR EV ((((Y1.alloc (.cells ZL.toArray 45 (0, 0))).alloc (.cells EZ.toArray 48 (0, 0))).setRow Y1.heap.size CR.toArray).setRow (Y1.heap.size + 1) EV.toArray)) := rT
  clear pT rT hb1 hd1 hP HB0
  go_wp2_with (first
    | (refine wpList_store_row rfl 45 (.tmp 7) (.tmp 16) rfl Y1.heap.size CR.toArray rfl rfl 45 ZL.toArray HQ1.out (info9a CR HCN.out) (by simp [HZN.out, HCN.out]) HC1.out ?_)
    | (refine wpList_store_row rfl 48 (.tmp 8) (.tmp 17) rfl (Y1.heap.size + 1) EV.toArray rfl rfl 48 EZ.toArray HR1.out (info2a EV HEN.out) (by simp [HZE.out, HEN.out]) HE1.out ?_)
    | (refine wpList_load_mid rfl 45 (.tmp 3) rfl w.heap.size 0 rfl CL _ (rangeAt_row HB1.out.c) Tryd.underlying45 rfl (info9 CL HLN.out) ?_)
    | (refine wpList_load_mid rfl 24 (.tmp 4) rfl (w.heap.size + 1) 0 rfl IL _ (rangeAt_row HB1.out.i) Tryd.underlying24 rfl HIN.out ?_))
  refine Calls.mono (hR _) ?_
  rintro e Y2 ⟨rfl, hb2⟩
  have HQ2 : Hid (((Y2.alloc (.cells ZL.toArray 45 (0, 0))).alloc (.cells EZ.toArray 48 (0, 0))).heap[Y2.heap.size]? = some (.cells ZL.toArray 45 (0, 0))) := (heap_alloc_old _ _ (by simp)).trans (heap_alloc_new _ _)
  have HR2 : Hid ((((Y2.alloc (.cells ZL.toArray 45 (0, 0))).alloc (.cells EZ.toArray 48 (0, 0))).setRow Y2.heap.size CR.toArray).heap[Y2.heap.size + 1]? = some (.cells EZ.toArray 48 (0, 0))) := (setRow_other _ _ _ _ (by omega)).trans (heap_at _ _ _ (by simp))
  obtain ⟨pT, rT⟩ := put_two Y2 ZL EZ CR EV
  have hd2 := HB1.out.below hb2
  have ha2 := HA1.out.below hb2
  have HF : Hid (FW w CL IL Y1.heap.size Y2.heap.size CR EV ((((Y2.alloc (.cells ZL.toArray 45 (0, 0))).alloc (.cells EZ.toArray 48 (0, 0))).setRow Y2.heap.size CR.toArray).setRow (Y2.heap.size + 1) EV.toArray)) := ⟨hd2.below pT, ha2.below pT, rT⟩
  clear pT rT hb2 hd2 ha2 hR HB1 HA1 HQ1 HR1
  generalize Y1.heap.size = n1 at *
  go_wp2_with (first
    | (refine wpList_store_row rfl 45 (.tmp 9) (.tmp 23) rfl Y2.heap.size CR.toArray rfl rfl 45 ZL.toArray HQ2.out (info9a CR HCN.out) (by simp [HZN.out, HCN.out]) HC1.out ?_)
    | (refine wpList_store_row rfl 48 (.tmp 10) (.tmp 24) rfl (Y2.heap.size + 1) EV.toArray rfl rfl 48 EZ.toArray HR2.out (info2a EV HEN.out) (by simp [HZE.out, HEN.out]) HE1.out ?_))
  have HS3 : Hid (FW w CL IL n1 Y2.heap.size CR EV (((((Y2.alloc (.cells ZL.toArray 45 (0, 0))).alloc (.cells EZ.toArray 48 (0, 0))).setRow Y2.heap.size CR.toArray).setRow (Y2.heap.size + 1) EV.toArray).drew)) := HF.out.below (Below.drew (Below.refl _ _))
  clear HF HQ2 HR2
  refine wp_region_held_drew (S := FW w CL IL n1 Y2.heap.size CR EV) (by kernel_rfl) HS3.out (fun hHeld => ?_)
  generalize ((((Y2.alloc (.cells ZL.toArray 45 (0, 0))).alloc (.cells EZ.toArray 48 (0, 0))).setRow Y2.heap.size CR.toArray).setRow (Y2.heap.size + 1) EV.toArray).drew = W at *
  generalize Y2.heap.size = n2 at *
  refine wpAnyH_take (i := 0) (oi := { dst := some 25, op := Go.Op.load 45 (Go.Operand.tmp 3), type := 45, pos := _, after := #[], guard := none }) rfl (by kernel_rfl) (by kernel_rfl) (by kernel_rfl) (fun _ _ _ h => h) (yieldsIf_load_mid (by rfl) 45 (.tmp 3) rfl (w.heap.size) (0) rfl (CL) _ (fun _ h => rangeAt_row h.d.c) Tryd.underlying45 rfl (info9 CL HLN.out)) hHeld ?_
  try simp only [Act.put, List.setIfInBounds_toArray, List.set_cons_zero, List.set_cons_succ]
  refine wpAnyH_take (i := 1) (oi := { dst := some 26, op := Go.Op.load 24 (Go.Operand.tmp 4), type := 24, pos := _, after := #[], guard := none }) rfl (by kernel_rfl) (by kernel_rfl) (by kernel_rfl) (fun _ _ _ h => h) (yieldsIf_load_mid (by rfl) 24 (.tmp 4) rfl (w.heap.size + 1) (0) rfl (IL) _ (fun _ h => rangeAt_row h.d.i) Tryd.underlying24 rfl HIN.out) hHeld ?_
  try simp only [Act.put, List.setIfInBounds_toArray, List.set_cons_zero, List.set_cons_succ]
  refine wpAnyH_take (i := 3) (oi := { dst := some 28, op := Go.Op.load 45 (Go.Operand.tmp 3), type := 45, pos := _, after := #[], guard := none }) rfl (by kernel_rfl) (by kernel_rfl) (by kernel_rfl) (fun _ _ _ h => h) (yieldsIf_load_mid (by rfl) 45 (.tmp 3) rfl (w.heap.size) (0) rfl (CL) _ (fun _ h => rangeAt_row h.d.c) Tryd.underlying45 rfl (info9 CL HLN.out)) hHeld ?_
  try simp only [Act.put, List.setIfInBounds_toArray, List.set_cons_zero, List.set_cons_succ]
  refine wpAnyH_take (i := 4) (oi := { dst := some 29, op := Go.Op.load 24 (Go.Operand.tmp 4), type := 24, pos := _, after := #[], guard := none }) rfl (by kernel_rfl) (by kernel_rfl) (by kernel_rfl) (fun _ _ _ h => h) (yieldsIf_load_mid (by rfl) 24 (.tmp 4) rfl (w.heap.size + 1) (0) rfl (IL) _ (fun _ h => rangeAt_row h.d.i) Tryd.underlying24 rfl HIN.out) hHeld ?_
  try simp only [Act.put, List.setIfInBounds_toArray, List.set_cons_zero, List.set_cons_succ]
  refine wpAnyH_ready (rs := [2]) (by kernel_rfl) (by simp) ?_
  refine AllReadyH.cons (o := { dst := some 27, op := Go.Op.call { callee := Go.Callee.value (Go.Operand.func 22), args := #[Go.Operand.tmp 25, Go.Operand.tmp 26], argTypes := #[45, 24] }, type := 53, pos := _, after := #[{ on := 0, ground := Go.Ground.data }, { on := 1, ground := Go.Ground.data }], guard := none }) rfl (fun K hK => ?_) AllReadyH.nil
  rw [if_pos (by rfl)]
  go_wp2_with fail
  refine Calls.mono (hN _) ?_
  rintro e X3 ⟨rfl, hb3⟩
  have HB3 : Hid (FW w CL IL n1 n2 CR EV X3) := HS3.out.below hb3
  clear hb3 hN
  refine hK.out _ _ HB3.out (fun _ => ?_)
  clear hK K
  try simp only [Act.put, List.setIfInBounds_toArray, List.set_cons_zero, List.set_cons_succ]
  clear hHeld
  have hHeld := HB3.out
  refine wpAnyH_ready (rs := [5]) (by kernel_rfl) (by simp) ?_
  refine AllReadyH.cons (o := { dst := some 30, op := Go.Op.call { callee := Go.Callee.value (Go.Operand.func 23), args := #[Go.Operand.tmp 28, Go.Operand.tmp 29], argTypes := #[45, 24] }, type := 53, pos := _, after := #[{ on := 3, ground := Go.Ground.data }, { on := 4, ground := Go.Ground.data }, { on := 2, ground := Go.Ground.chain }], guard := none }) rfl (fun K hK => ?_) AllReadyH.nil
  rw [if_pos (by rfl)]
  go_wp2_with fail
  refine Calls.mono (hM _) ?_
  rintro e X4 ⟨rfl, hb4⟩
  have HB4 : Hid (FW w CL IL n1 n2 CR EV X4) := HB3.out.below hb4
  clear hb4 hM
  refine hK.out _ _ HB4.out (fun _ => ?_)
  clear hK K
  try simp only [Act.put, List.setIfInBounds_toArray, List.set_cons_zero, List.set_cons_succ]
  clear hHeld
  have hHeld := HB4.out
  refine wpAnyH_take (i := 6) (oi := { dst := some 31, op := Go.Op.binOp Go.BinOp.eql 53 (Go.Operand.tmp 27) (Go.Operand.tmp 30) 53, type := 4, pos := _, after := #[{ on := 2, ground := Go.Ground.data }, { on := 5, ground := Go.Ground.data }], guard := none }) (v := .bool true) rfl (by kernel_rfl) (by kernel_rfl) (by kernel_rfl) (fun _ _ _ h => h) (Or.inl ⟨by rfl, fun w' hw' => ?_⟩) hHeld ?_
  · exact run_eql rfl rfl rfl gN (HQN.out w')
  try simp only [Act.put, List.setIfInBounds_toArray, List.set_cons_zero, List.set_cons_succ]
  refine wpAnyH_take (i := 7) (oi := { dst := some 32, op := Go.Op.move (Go.Operand.tmp 31), type := 4, pos := _, after := #[{ on := 6, ground := Go.Ground.data }, { on := 5, ground := Go.Ground.chain }], guard := none }) (v := .bool true) rfl (by kernel_rfl) (by kernel_rfl) (by kernel_rfl) (fun _ _ _ h => h) (Or.inl ⟨by rfl, fun w' hw' => ?_⟩) hHeld ?_
  · first | (go_simp; done) | (go_simp; rfl)
  try simp only [Act.put, List.setIfInBounds_toArray, List.set_cons_zero, List.set_cons_succ]
  refine wpAnyH_take (i := 8) (oi := { dst := some 33, op := Go.Op.load 45 (Go.Operand.tmp 7), type := 45, pos := _, after := #[{ on := 7, ground := Go.Ground.guard }], guard := some (7, true) }) rfl (by kernel_rfl) (by kernel_rfl) (by kernel_rfl) (fun _ _ _ h => h) (yieldsIf_load_mid (by rfl) 45 (.tmp 7) rfl (n1) (0) rfl (CR) _ (fun _ h => rangeAt_row h.a.r) Tryd.underlying45 rfl (info9 CR HCN.out)) hHeld ?_
  try simp only [Act.put, List.setIfInBounds_toArray, List.set_cons_zero, List.set_cons_succ]
  refine wpAnyH_take (i := 9) (oi := { dst := some 34, op := Go.Op.load 45 (Go.Operand.tmp 9), type := 45, pos := _, after := #[{ on := 7, ground := Go.Ground.guard }], guard := some (7, true) }) rfl (by kernel_rfl) (by kernel_rfl) (by kernel_rfl) (fun _ _ _ h => h) (yieldsIf_load_mid (by rfl) 45 (.tmp 9) rfl (n2) (0) rfl (CR) _ (fun _ h => rangeAt_row h.b.r) Tryd.underlying45 rfl (info9 CR HCN.out)) hHeld ?_
  try simp only [Act.put, List.setIfInBounds_toArray, List.set_cons_zero, List.set_cons_succ]
  refine wpAnyH_take (i := 10) (oi := { dst := some 35, op := Go.Op.binOp Go.BinOp.eql 45 (Go.Operand.tmp 33) (Go.Operand.tmp 34) 45, type := 4, pos := _, after := #[{ on := 8, ground := Go.Ground.data }, { on := 9, ground := Go.Ground.data }, { on := 7, ground := Go.Ground.guard }], guard := some (7, true) }) (v := .bool true) rfl (by kernel_rfl) (by kernel_rfl) (by kernel_rfl) (fun _ _ _ h => h) (Or.inl ⟨by rfl, fun w' hw' => ?_⟩) hHeld ?_
  · exact run_eql rfl rfl rfl gC (HQC.out w')
  try simp only [Act.put, List.setIfInBounds_toArray, List.set_cons_zero, List.set_cons_succ]
  refine wpAnyH_take (i := 11) (oi := { dst := some 36, op := Go.Op.pick (Go.Operand.tmp 32) (Go.Operand.tmp 35) (Go.Operand.const (Go.Value.bool false)), type := 4, pos := _, after := #[{ on := 7, ground := Go.Ground.data }, { on := 10, ground := Go.Ground.data }], guard := none }) (v := .bool true) rfl (by kernel_rfl) (by kernel_rfl) (by kernel_rfl) (fun _ _ _ h => h) (Or.inl ⟨by rfl, fun w' hw' => ?_⟩) hHeld ?_
  · first | (go_simp; done) | (go_simp; rfl)
  try simp only [Act.put, List.setIfInBounds_toArray, List.set_cons_zero, List.set_cons_succ]
  refine wpAnyH_take (i := 12) (oi := { dst := some 37, op := Go.Op.move (Go.Operand.tmp 36), type := 4, pos := _, after := #[{ on := 11, ground := Go.Ground.data }, { on := 7, ground := Go.Ground.chain }], guard := none }) (v := .bool true) rfl (by kernel_rfl) (by kernel_rfl) (by kernel_rfl) (fun _ _ _ h => h) (Or.inl ⟨by rfl, fun w' hw' => ?_⟩) hHeld ?_
  · first | (go_simp; done) | (go_simp; rfl)
  try simp only [Act.put, List.setIfInBounds_toArray, List.set_cons_zero, List.set_cons_succ]
  refine wpAnyH_take (i := 13) (oi := { dst := some 38, op := Go.Op.load 48 (Go.Operand.tmp 8), type := 48, pos := _, after := #[{ on := 12, ground := Go.Ground.guard }], guard := some (12, true) }) rfl (by kernel_rfl) (by kernel_rfl) (by kernel_rfl) (fun _ _ _ h => h) (yieldsIf_load_mid (by rfl) 48 (.tmp 8) rfl (n1 + 1) (0) rfl (EV) _ (fun _ h => rangeAt_row h.a.e) Tryd.underlying48 rfl (info2 EV HEN.out)) hHeld ?_
  try simp only [Act.put, List.setIfInBounds_toArray, List.set_cons_zero, List.set_cons_succ]
  refine wpAnyH_take (i := 14) (oi := { dst := some 39, op := Go.Op.load 48 (Go.Operand.tmp 10), type := 48, pos := _, after := #[{ on := 12, ground := Go.Ground.guard }], guard := some (12, true) }) rfl (by kernel_rfl) (by kernel_rfl) (by kernel_rfl) (fun _ _ _ h => h) (yieldsIf_load_mid (by rfl) 48 (.tmp 10) rfl (n2 + 1) (0) rfl (EV) _ (fun _ h => rangeAt_row h.b.e) Tryd.underlying48 rfl (info2 EV HEN.out)) hHeld ?_
  try simp only [Act.put, List.setIfInBounds_toArray, List.set_cons_zero, List.set_cons_succ]
  refine wpAnyH_take (i := 15) (oi := { dst := some 40, op := Go.Op.binOp Go.BinOp.eql 48 (Go.Operand.tmp 38) (Go.Operand.tmp 39) 48, type := 4, pos := _, after := #[{ on := 13, ground := Go.Ground.data }, { on := 14, ground := Go.Ground.data }, { on := 12, ground := Go.Ground.guard }], guard := some (12, true) }) (v := .bool true) rfl (by kernel_rfl) (by kernel_rfl) (by kernel_rfl) (fun _ _ _ h => h) (Or.inl ⟨by rfl, fun w' hw' => ?_⟩) hHeld ?_
  · exact run_eql rfl rfl rfl gE (HQE.out w')
  try simp only [Act.put, List.setIfInBounds_toArray, List.set_cons_zero, List.set_cons_succ]
  refine wpAnyH_take (i := 16) (oi := { dst := some 41, op := Go.Op.pick (Go.Operand.tmp 37) (Go.Operand.tmp 40) (Go.Operand.const (Go.Value.bool false)), type := 4, pos := _, after := #[{ on := 12, ground := Go.Ground.data }, { on := 15, ground := Go.Ground.data }], guard := none }) (v := .bool true) rfl (by kernel_rfl) (by kernel_rfl) (by kernel_rfl) (fun _ _ _ h => h) (Or.inl ⟨by rfl, fun w' hw' => ?_⟩) hHeld ?_
  · first | (go_simp; done) | (go_simp; rfl)
  try simp only [Act.put, List.setIfInBounds_toArray, List.set_cons_zero, List.set_cons_succ]
  refine wpAnyH_take (i := 17) (oi := { dst := some 42, op := Go.Op.move (Go.Operand.tmp 41), type := 4, pos := _, after := #[{ on := 16, ground := Go.Ground.data }, { on := 12, ground := Go.Ground.chain }], guard := none }) (v := .bool true) rfl (by kernel_rfl) (by kernel_rfl) (by kernel_rfl) (fun _ _ _ h => h) (Or.inl ⟨by rfl, fun w' hw' => ?_⟩) hHeld ?_
  · first | (go_simp; done) | (go_simp; rfl)
  try simp only [Act.put, List.setIfInBounds_toArray, List.set_cons_zero, List.set_cons_succ]
  refine wpAnyH_ready (rs := [18]) (by kernel_rfl) (by simp) ?_
  refine AllReadyH.cons (o := { dst := some 43, op := Go.Op.call { callee := Go.Callee.value (Go.Operand.func 13), args := #[], argTypes := #[] }, type := 4, pos := _, after := #[{ on := 17, ground := Go.Ground.chain }, { on := 17, ground := Go.Ground.guard }], guard := some (17, true) }) rfl (fun K hK => ?_) AllReadyH.nil
  rw [if_pos (by rfl)]
  go_wp2_with fail
  refine Calls.mono (HK.out _ (HGV.out _ HB4.out.d)) ?_
  rintro e X5 ⟨rfl, hb5⟩
  have HB5 : Hid (FW w CL IL n1 n2 CR EV X5) := HB4.out.below hb5
  clear hb5
  refine hK.out _ _ HB5.out (fun _ => ?_)
  clear hK K
  try simp only [Act.put, List.setIfInBounds_toArray, List.set_cons_zero, List.set_cons_succ]
  clear hHeld
  have hHeld := HB5.out
  refine wpAnyH_take (i := 19) (oi := { dst := some 44, op := Go.Op.pick (Go.Operand.tmp 42) (Go.Operand.tmp 43) (Go.Operand.const (Go.Value.bool false)), type := 4, pos := _, after := #[{ on := 17, ground := Go.Ground.data }, { on := 18, ground := Go.Ground.data }], guard := none }) (v := .bool true) rfl (by kernel_rfl) (by kernel_rfl) (by kernel_rfl) (fun _ _ _ h => h) (Or.inl ⟨by rfl, fun w' hw' => ?_⟩) hHeld ?_
  · first | (go_simp; done) | (go_simp; rfl)
  try simp only [Act.put, List.setIfInBounds_toArray, List.set_cons_zero, List.set_cons_succ]
  refine wpAnyH_take (i := 20) (oi := { dst := some 6, op := Go.Op.assign (Go.Operand.tmp 44), type := 4, pos := _, after := #[{ on := 19, ground := Go.Ground.data }, { on := 18, ground := Go.Ground.chain }, { on := 0, ground := Go.Ground.phase }, { on := 1, ground := Go.Ground.phase }, { on := 2, ground := Go.Ground.phase }, { on := 3, ground := Go.Ground.phase }, { on := 4, ground := Go.Ground.phase }, { on := 5, ground := Go.Ground.phase }, { on := 6, ground := Go.Ground.phase }, { on := 7, ground := Go.Ground.phase }, { on := 8, ground := Go.Ground.phase }, { on := 9, ground := Go.Ground.phase }, { on := 10, ground := Go.Ground.phase }, { on := 11, ground := Go.Ground.phase }, { on := 12, ground := Go.Ground.phase }, { on := 13, ground := Go.Ground.phase }, { on := 14, ground := Go.Ground.phase }, { on := 15, ground := Go.Ground.phase }, { on := 16, ground := Go.Ground.phase }, { on := 17, ground := Go.Ground.phase }, { on := 18, ground := Go.Ground.phase }, { on := 19, ground := Go.Ground.phase }], guard := none }) (v := .bool true) rfl (by kernel_rfl) (by kernel_rfl) (by kernel_rfl) (fun _ _ _ h => h) (Or.inl ⟨by rfl, fun w' hw' => ?_⟩) hHeld ?_
  · first | (go_simp; done) | (go_simp; rfl)
  try simp only [Act.put, List.setIfInBounds_toArray, List.set_cons_zero, List.set_cons_succ]
  refine wpAnyH_done (by kernel_rfl) ?_ _
  clear hHeld
  go_wp2
  go_ret
  exact ⟨rfl, HB5.out.d.bel⟩
set_option maxRecDepth 100000 in
theorem lifted (os : Os) (started : os.Started) (H : Type) (enc : TypeId × Value → H) :
    ReturnsInHanded {} Tryd.checked os 5 .any (fun w args => (Rows.cpuDoesSpec.pre enc Tryd.prog Tryd.f5 [] false w args ∧ laidMetH Tryd.prog Rows.cpuDoesRow.laid w) ∧ sizedMet enc Tryd.prog Tryd.f5 (OpenSpec.ofChange Rows.cpuDoesSpec) false w args) (Rows.cpuDoesSpec.post enc Tryd.prog Tryd.f5 false true false false) := by
  refine returnsInHanded_of_change_and (C := Tryd.checked) (X := fun w _ => laidMetH Tryd.prog Rows.cpuDoesRow.laid w) (fun _ _ _ hh h => h.of_heap hh) own started (by kernel_rfl) Tryd.func5
    (ChangeSpec.witness_shaped (enc := enc) (C := Tryd.checked) (os := os) (X := fun w _ => laidMetH Tryd.prog Rows.cpuDoesRow.laid w) false (World.doorLaid Tryd.prog 400 os) #[.agg (Array.replicate 9 (.int .u64 0)), .agg (Array.replicate 5 (.int .i64 0)), .int .u64 0] 8 rfl (World.shaped_of_RefB (by kernel_rfl) (by kernel_rfl)) (by kernel_rfl) (by kernel_rfl) (by kernel_rfl) (door_met os _)) ?_
  intro W base args ds gs before hval0 hW hcnd _ hL _
  have hval : ∀ (j : Nat) t v, Tryd.f5.params[j]? = some t → args[j]? = some v → Value.okWide Tryd.prog W .any base t v := hval0
  have hW' := hW
  obtain ⟨p, q, hA0, hV, rfl, hfz, hnd⟩ := hW
  have hA : DataW.TrodAll enc Tryd.prog W 0 (fun _ => true) true Tryd.f5.params.toList args.toList ds p := hA0
  rw [Tryd.params5] at hA hval
  obtain ⟨v0, vs0, d0, ds0, p0, q0, hargs, rfl, rfl, h0, r0⟩ := trodAll_cons hA
  obtain ⟨v1, vs1, d1, ds1, p1, q1, rfl, rfl, rfl, h1, r1⟩ := trodAll_cons r0
  obtain ⟨v2, vs2, d2, ds2, p2, q2, rfl, rfl, rfl, h2, r2⟩ := trodAll_cons r1
  obtain ⟨rfl, rfl, rfl⟩ := trodAll_nil r2
  obtain rfl : args = #[v0, v1, v2] := by cases args; simp_all
  obtain ⟨rfl, rfl⟩ := trodVars_none hV
  have k0 := h0
  have lt0 : ∀ x ∈ p0, x.block < W.heap.size := by obtain ⟨m, hm⟩ := k0; exact DataW.trod_lt m _ _ _ hm
  obtain ⟨xs0, rfl⟩ := JC.okWide_str Tryd.underlying45 (hval 0 45 v0 rfl rfl)
  obtain ⟨s0, rfl, hl0⟩ : ∃ s : JC.St, xs0 = (JC.sL s).toArray ∧ JC.swf s := by obtain ⟨fuel, hf⟩ := h0; obtain ⟨s, e, h1⟩ := JC.open_cpu hf; exact ⟨s, by rw [← Array.toList_inj]; exact e, h1⟩
  have k1 := h1
  have lt1 : ∀ x ∈ p1, x.block < W.heap.size := by obtain ⟨m, hm⟩ := k1; exact DataW.trod_lt m _ _ _ hm
  obtain ⟨xs1, rfl⟩ := JC.okWide_str Tryd.underlying24 (hval 1 24 v1 rfl rfl)
  obtain ⟨i1, rfl, hl1⟩ : ∃ i : JC.Ins, xs1 = (JC.iL i).toArray ∧ JC.iwf i := by obtain ⟨fuel, hf⟩ := h1; obtain ⟨s, e, h1⟩ := JC.open_ins hf; exact ⟨s, by rw [← Array.toList_inj]; exact e, h1⟩
  obtain ⟨n2, rfl, rfl, rfl, w2⟩ := open_int Tryd.underlying25 (hval 2 25 v2 rfl rfl) h2
  clear hA0 hval0
  refine (walk s0 i1 n2 W hl0 hl1 w2 (of_laid hL)).mono fun e W' ⟨he, bel⟩ => ?_
  subst he
  exact ⟨_, rfl, _, _, _, [], _, [], hW', trodAll_mk1 (shut_bool Tryd.underlying4 _), (trodAll_cons_mk (Below.trod laidOut (by kernel_rfl) (of_decide_eq_true (by kernel_rfl)) k0 bel lt0) (trodAll_cons_mk (Below.trod laidOut (by kernel_rfl) (of_decide_eq_true (by kernel_rfl)) k1 bel lt1) (trodAll_cons_mk (shut_int Tryd.underlying25 w2) trodAll_mk0))), rfl, bel.frame _, fun h => by cases h⟩

theorem over : Rows.cpuDoesRow.holds Tryd.pinned (OpenSpec.ofChange Rows.cpuDoesSpec) :=
  OpenClaim.holds_of_wide 5 Tryd.f5 rfl rfl rfl rfl rfl rfl rfl ⟨rfl, rfl, rfl, rfl, rfl⟩ rfl rfl rfl rfl rfl (by kernel_rfl) Tryd.func5 (by kernel_rfl)
    (of_decide_eq_true (by kernel_rfl)) (by unfold Func.isWrapper; first | (rw [if_pos (by decide +kernel)]; kernel_rfl) | (rw [if_neg (by decide +kernel)]; exact ⟨rfl, rfl⟩))
    (fun os started H enc _ => lifted os started H enc)

theorem card : Rows.CpuDoesCardSaid :=
  Claim7.holds_tied_plain_at .later [] Rows.cpuDoesCard.laidKinds true Rows.cpuDoesCard.stood.harness Rows.cpuDoesCard.stood.looks
    over (fun _ h => by cases h) (by kernel_rfl) (fun _ h => by cases h) cpuDoes_row_tie rfl ⟨rfl, rfl⟩ (by kernel_rfl) rfl
    (fun f fn hf hfn => by
      obtain rfl : f = 5 := Option.some.inj ((show Tryd.prog.funcNamed Rows.cpuDoesRow.func = some 5 by kernel_rfl).symm.trans hf) |>.symm
      obtain rfl : fn = Tryd.f5 := (Option.some.inj (Tryd.func5.symm.trans hfn)).symm
      exact ⟨by kernel_rfl, fun j t ht => by
        rw [Tryd.params5] at ht
        have hm : t ∈ [45, 24, 25] := by simpa using Array.mem_of_getElem? ht
        have hall : ([45, 24, 25].all fun u => !Tryd.prog.wantsStandIn u) = true := by kernel_rfl
        exact (show Tryd.prog.wantsStandIn t = false by simpa using List.all_eq_true.1 hall t hm)⟩)
    (by kernel_rfl)
end Go.Proofs.YtkpjfhphohanlaaDoor.cpuDoes
namespace Go.Proofs.YtkpjfhphohanlaaDoor
theorem cpuDoes_holds : Rows.CpuDoesCardSaid := cpuDoes.card
#print axioms cpuDoes_holds
end Go.Proofs.YtkpjfhphohanlaaDoor
