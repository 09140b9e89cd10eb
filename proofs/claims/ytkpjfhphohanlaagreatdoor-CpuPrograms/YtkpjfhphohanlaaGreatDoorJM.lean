/- cpu: what the closures of deeds do: jump, stop, what is reckoned. -/
import Derived.Test.YtkpjfhphohanlaaGreatDoorJL
set_option linter.unusedVariables false
set_option linter.unusedSimpArgs false
namespace Go.Proofs.YtkpjfhphohanlaaGreatDoor.JC
open Go.RowKit
open Go.Proofs.YtkpjfhphohanlaaGreatDoor.EC (row_lt heap_at rangeAt_below rangeAt_row ret_bool ret_i64 beq_int)

def St.jump (s : St) (M : Int) : St := ⟨s.rs, IntKind.u64.wrap (s.pc + M)⟩
theorem chain_cell (w : World) (L ZL EZ : List Value) (b k : Nat) (v : Value) (h : w.cell? ⟨b, k, none⟩ = some v) : (((w.alloc (.cells L.toArray 50 (0, 0))).alloc (.cells ZL.toArray 50 (0, 0))).alloc (.cells EZ.toArray 53 (0, 0))).cell? ⟨b, k, none⟩ = some v := by
  have hb : Below w.heap.size w (((w.alloc (.cells L.toArray 50 (0, 0))).alloc (.cells ZL.toArray 50 (0, 0))).alloc (.cells EZ.toArray 53 (0, 0))) := (((Below.refl _ _).alloc (Nat.le_refl _) _).alloc (by simp) _).alloc (by simp; omega) _
  exact (hb.cell (block_lt h)).trans h
set_option maxHeartbeats 2000000 in
set_option maxRecDepth 100000 in
theorem jump_any (s : St) (h : swf s) (M : Int) (b : Nat) (w : World) (hM : w.cell? ⟨b, 0, none⟩ = some (.int .u64 M)) : Calls Tryz.prog 48 #[.agg (sL s).toArray, pB b] w fun e w' => DoEnd (s.jump M) 0 0 w e w' := by
  have hzv := fun W => zero9 W
  have hz2 := fun W => zero2 W
  obtain ⟨ZL, hZL⟩ : ∃ L, L = Z9 := ⟨_, rfl⟩
  have HN0 : Hid (∀ L : List Value, SW w L Z9 (eL 0 0) (((w.alloc (.cells L.toArray 50 (0, 0))).alloc (.cells Z9.toArray 50 (0, 0))).alloc (.cells (eL 0 0).toArray 53 (0, 0)))) := fun L => SW.new w L
  have HZN : Hid (ZL.length = 9) := by rw [hZL]; rfl
  rw [← hZL] at hzv HN0
  obtain ⟨EZ, hEZ⟩ : ∃ L, L = eL 0 0 := ⟨_, rfl⟩
  have HEN : Hid (EZ.length = 2) := by rw [hEZ]; rfl
  rw [← hEZ] at hz2 HN0
  have HEZ : Hid _ := hEZ
  have HE1 : Hid (EZ.toArray.all (·.oneCell') = true) := by show _ = _; rw [hEZ]; exact eL_one 0 0
  clear hEZ
  have HPC : Hid _ := sL_pc h
  have HLEN : Hid _ := sL_len h
  have HONE : Hid _ := sL_one s
  have HSP : Hid (∀ x, (sL s).set 8 (U x) = sL ⟨s.rs, x⟩) := fun x => sL_setpc h x
  clear hZL
  generalize hCL : sL s = CL at *
  have hcell8 := (fields5 _ _ _ _ _ (HN0.out CL).c 8).trans (show _ = some (.int .u64 (s.pc)) by rw [List.getElem?_toArray]; exact HPC.out)
  have hfr8 := frozen_of_row _ _ 8 _ _ (HN0.out CL).c
  have hcM := chain_cell w CL ZL EZ b 0 _ hM
  obtain ⟨CL2, hset⟩ : ∃ L, CL.set 8 (.int .u64 (IntKind.u64.wrap (s.pc + M))) = L := ⟨_, rfl⟩
  have hCL2 : sL (s.jump M) = CL2 := by rw [← hset]; exact (HSP.out _).symm
  have HLEN2 : Hid (CL2.length = 9) := by show _ = _; rw [← hCL2]; simp [sL, St.jump, h.len]
  have HONE2 : Hid (CL2.toArray.all (·.oneCell') = true) := by show _ = _; rw [← hCL2]; exact sL_one _
  have HSW : Hid _ := HN0.out CL2
  clear HPC HSP HLEN HONE hM
  unfold pB
  go_enter Tryz.func48, Tryz.ntmps48
  go_wp2_with (first
    | (refine wpList_load_mid rfl 50 _ rfl w.heap.size 0 rfl CL2 _ (rangeAt_row HSW.out.c) Tryz.underlying50 rfl (info9 CL2 HLEN2.out) ?_)
    | (refine wpList_store_row rfl 50 _ _ rfl (w.heap.size + 1) CL2.toArray rfl rfl 50 ZL.toArray HSW.out.r (info9a CL2 HLEN2.out) (by simp [HZN.out, HLEN2.out]) HONE2.out ?_)
    | (refine wpList_store_row rfl 53 _ _ rfl (w.heap.size + 1 + 1) EZ.toArray rfl rfl 53 EZ.toArray (HSW.out.rowr CL2).e (info2a EZ HEN.out) rfl HE1.out ?_))
  refine bodyPost_ret (v := .tuple #[.agg CL2.toArray, .agg EZ.toArray]) (results22 Tryz.results48 _ w _ ((HSW.out.rowr CL2).rowe EZ) HLEN2.out HEN.out rfl rfl) rfl ⟨by rw [hCL2, HEZ.out], ((HSW.out.rowr CL2).rowe EZ).bel⟩
theorem bld48 (k n : Int) (W : World) : (Instr.build 53 #[(0, .int .i64 k), (1, .int .i64 n)]).run Tryz.prog W = .ok (.agg (eL k n).toArray) W := by kernel_rfl
theorem bld48a (k : Int) (W : World) : (Instr.build 53 #[(0, .int .i64 k)]).run Tryz.prog W = .ok (.agg (eL k 0).toArray) W := by kernel_rfl
theorem exec_build (ev : Operand → Value) (o : Oper) (t : TypeId) (parts : Array (Nat × Operand)) (vals : Array (Nat × Value)) (v : Value) (w : World) (ho : o.op = .build t parts) (hp : (parts.map fun (i, x) => (i, ev x)) = vals)
    (hr : (Instr.build t vals).run Tryz.prog w = .ok v w) : (execOp ev o).run Tryz.prog w = .ok (.value v) w := by
  unfold execOp
  simp only [ho, Sem.run_bind, hp, hr, Result.andThen_ok]
  rfl
theorem wpList_build {ops : Array Oper} {rest : List Oper} {o : Oper} {a : Act} {Q : Exit → Act → World → Prop} {w : World} (hgd : o.guard = none) (t : TypeId) (parts : Array (Nat × Operand)) (ho : o.op = .build t parts) (vals : Array (Nat × Value)) (v : Value) (hp : (parts.map fun (i, x) => (i, a.eval x)) = vals)
    (hr : (Instr.build t vals).run Tryz.prog w = .ok v w) (h : wpList Tryz.prog ops Q rest (a.put o.dst v) w) : wpList Tryz.prog ops Q (o :: rest) a w := by
  refine wpList_plain hgd fun K' hK' => ?_
  unfold Oper.wp
  rw [exec_build a.eval o t parts vals v w ho hp hr]
  exact hK' _ _ h
set_option maxHeartbeats 2000000 in
set_option maxRecDepth 100000 in
theorem stop_any (s : St) (h : swf s) (w : World) : Calls Tryz.prog 64 #[.agg (sL s).toArray] w fun e w' => DoEnd s 3 0 w e w' := by
  have hzv := fun W => zero9 W
  have hz2 := fun W => zero2 W
  obtain ⟨ZL, hZL⟩ : ∃ L, L = Z9 := ⟨_, rfl⟩
  have HN0 : Hid (∀ L : List Value, SW w L Z9 (eL 0 0) (((w.alloc (.cells L.toArray 50 (0, 0))).alloc (.cells Z9.toArray 50 (0, 0))).alloc (.cells (eL 0 0).toArray 53 (0, 0)))) := fun L => SW.new w L
  have HZN : Hid (ZL.length = 9) := by rw [hZL]; rfl
  rw [← hZL] at hzv HN0
  obtain ⟨EZ, hEZ⟩ : ∃ L, L = eL 0 0 := ⟨_, rfl⟩
  have HEN : Hid (EZ.length = 2) := by rw [hEZ]; rfl
  rw [← hEZ] at hz2 HN0
  have HEZ : Hid _ := hEZ
  have HE1 : Hid (EZ.toArray.all (·.oneCell') = true) := by show _ = _; rw [hEZ]; exact eL_one 0 0
  clear hEZ
  have HPC : Hid _ := sL_pc h
  have HLEN : Hid _ := sL_len h
  have HONE : Hid _ := sL_one s
  have HSP : Hid (∀ x, (sL s).set 8 (U x) = sL ⟨s.rs, x⟩) := fun x => sL_setpc h x
  clear hZL
  generalize hCL : sL s = CL at *
  have HSW : Hid _ := HN0.out CL
  clear HPC HSP
  obtain ⟨EV, hEV⟩ : ∃ L, L = eL 3 0 := ⟨_, rfl⟩
  have HEVN : Hid (EV.length = 2) := by rw [hEV]; rfl
  have HEV1 : Hid (EV.toArray.all (·.oneCell') = true) := by show _ = _; rw [hEV]; exact eL_one 3 0
  have HBL : Hid (∀ W, (Instr.build 53 #[(0, .int .i64 3)]).run Tryz.prog W = .ok (.agg EV.toArray) W) := fun W => by rw [hEV]; exact bld48a 3 W
  go_enter Tryz.func64, Tryz.ntmps64
  go_wp2_with (first
    | (refine wpList_load_mid rfl 50 _ rfl w.heap.size 0 rfl CL _ (rangeAt_row HSW.out.c) Tryz.underlying50 rfl (info9 CL HLEN.out) ?_)
    | (refine wpList_build rfl 53 #[(0, .const (.int .i64 3))] rfl #[(0, .int .i64 3)] (.agg EV.toArray) (by simp [Act.eval]) (HBL.out _) ?_)
    | (refine wpList_store_row rfl 50 _ _ rfl (w.heap.size + 1) CL.toArray rfl rfl 50 ZL.toArray HSW.out.r (info9a CL HLEN.out) (by simp [HZN.out, HLEN.out]) HONE.out ?_)
    | (refine wpList_store_row rfl 53 _ _ rfl (w.heap.size + 1 + 1) EV.toArray rfl rfl 53 EZ.toArray (HSW.out.rowr CL).e (info2a EV HEVN.out) (by simp [HEN.out, HEVN.out]) HEV1.out ?_))
  refine bodyPost_ret (v := .tuple #[.agg CL.toArray, .agg EV.toArray]) (results22 Tryz.results64 _ w _ ((HSW.out.rowr CL).rowe EV) HLEN.out HEVN.out rfl rfl) rfl ⟨by rw [hCL, hEV], ((HSW.out.rowr CL).rowe EV).bel⟩
/-- What is reckoned. -/
def rk (k : Nat) (M ld A B : Int) : Int := match k with
  | 2 => M
  | 3 => A
  | 4 => IntKind.u64.wrap (A + B)
  | 5 => IntKind.u64.wrap (A - B)
  | 6 => bits .xor .u64 A B
  | 7 => bits .and .u64 A B
  | 8 => IntKind.u64.wrap (A * B)
  | 9 => IntKind.u64.wrap (A * 2 ^ (B % 64).toNat)
  | 10 => A / 2 ^ (B % 64).toNat
  | _ => ld
def RkC (f : Nat) (caps : Array Value) (X : World) (A B R : Int) : Prop := Calls Tryz.prog f (#[.int .u64 A, .int .u64 B] ++ caps) X fun e w' => e = .returned (.int .u64 R) ∧ X = w'
set_option maxHeartbeats 2000000 in
set_option maxRecDepth 100000 in
theorem rk_any (E : Env) (X : World) (hS : SB E X) (k : Nat) (hk : 2 ≤ k ∧ k ≤ 11) (A B : Int) (hA : u64 A) (hB : u64 B) : ∃ f caps, E.fv k = cV f caps ∧ Enters Tryz.prog f ∧ RkC f caps X A B (rk k (IntKind.u64.wrap E.i.imm) E.ld A B) := by
  have h5 : X.cell? ⟨E.b5, 0, none⟩ = some (.int .u64 (IntKind.u64.wrap E.i.imm)) := (fields5 _ _ _ _ _ hS.imm 0).trans rfl
  have h3 : X.cell? ⟨E.b3, 0, none⟩ = some (.int .u64 E.ld) := (fields5 _ _ _ _ _ hS.ld 0).trans rfl
  obtain ⟨a0, a1⟩ := hA
  obtain ⟨b0, b1⟩ := hB
  have hc : k = 2 ∨ k = 3 ∨ k = 4 ∨ k = 5 ∨ k = 6 ∨ k = 7 ∨ k = 8 ∨ k = 9 ∨ k = 10 ∨ k = 11 := by omega
  have HS : Hid _ := hS
  clear hk hS
  rcases hc with rfl | rfl | rfl | rfl | rfl | rfl | rfl | rfl | rfl | rfl
  · refine ⟨_, _, rfl, enters_of Tryz.func53 (by kernel_rfl) rfl, ?_⟩
    show Calls _ _ #[.int .u64 A, .int .u64 B, .pointer (some ⟨E.b5, 0, none⟩)] _ _
    go_enter Tryz.func53, Tryz.ntmps53
    go_wp2
    all_goals go_ret
    all_goals exact ⟨rfl, rfl⟩
  · refine ⟨_, _, rfl, enters_of Tryz.func54 (by kernel_rfl) rfl, ?_⟩
    show Calls _ _ #[.int .u64 A, .int .u64 B] _ _
    go_enter Tryz.func54, Tryz.ntmps54
    go_wp2
    all_goals go_ret
    all_goals exact ⟨rfl, rfl⟩
  · refine ⟨_, _, rfl, enters_of Tryz.func55 (by kernel_rfl) rfl, ?_⟩
    show Calls _ _ #[.int .u64 A, .int .u64 B] _ _
    go_enter Tryz.func55, Tryz.ntmps55
    go_wp2
    all_goals go_ret
    all_goals exact ⟨rfl, rfl⟩
  · refine ⟨_, _, rfl, enters_of Tryz.func56 (by kernel_rfl) rfl, ?_⟩
    show Calls _ _ #[.int .u64 A, .int .u64 B] _ _
    go_enter Tryz.func56, Tryz.ntmps56
    go_wp2
    all_goals go_ret
    all_goals exact ⟨rfl, rfl⟩
  · refine ⟨_, _, rfl, enters_of Tryz.func57 (by kernel_rfl) rfl, ?_⟩
    show Calls _ _ #[.int .u64 A, .int .u64 B] _ _
    go_enter Tryz.func57, Tryz.ntmps57
    go_wp2
    all_goals go_ret
    all_goals exact ⟨rfl, rfl⟩
  · refine ⟨_, _, rfl, enters_of Tryz.func58 (by kernel_rfl) rfl, ?_⟩
    show Calls _ _ #[.int .u64 A, .int .u64 B] _ _
    go_enter Tryz.func58, Tryz.ntmps58
    go_wp2
    all_goals go_ret
    all_goals exact ⟨rfl, rfl⟩
  · refine ⟨_, _, rfl, enters_of Tryz.func59 (by kernel_rfl) rfl, ?_⟩
    show Calls _ _ #[.int .u64 A, .int .u64 B] _ _
    go_enter Tryz.func59, Tryz.ntmps59
    go_wp2
    all_goals go_ret
    all_goals exact ⟨rfl, rfl⟩
  · refine ⟨_, _, rfl, enters_of Tryz.func60 (by kernel_rfl) rfl, ?_⟩
    show Calls _ _ #[.int .u64 A, .int .u64 B] _ _
    go_enter Tryz.func60, Tryz.ntmps60
    go_wp2
    all_goals go_ret
    all_goals exact ⟨rfl, rfl⟩
  · refine ⟨_, _, rfl, enters_of Tryz.func61 (by kernel_rfl) rfl, ?_⟩
    show Calls _ _ #[.int .u64 A, .int .u64 B] _ _
    go_enter Tryz.func61, Tryz.ntmps61
    go_wp2
    all_goals go_ret
    all_goals exact ⟨rfl, rfl⟩
  · refine ⟨_, _, rfl, enters_of Tryz.func62 (by kernel_rfl) rfl, ?_⟩
    show Calls _ _ #[.int .u64 A, .int .u64 B, .pointer (some ⟨E.b3, 0, none⟩)] _ _
    go_enter Tryz.func62, Tryz.ntmps62
    go_wp2
    all_goals go_ret
    all_goals exact ⟨rfl, rfl⟩
end Go.Proofs.YtkpjfhphohanlaaGreatDoor.JC
