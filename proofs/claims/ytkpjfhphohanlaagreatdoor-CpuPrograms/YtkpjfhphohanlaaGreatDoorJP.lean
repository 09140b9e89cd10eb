/- cpu: what the closures of deeds do: ask. -/
import Derived.Test.YtkpjfhphohanlaaGreatDoorJO
set_option linter.unusedVariables false
set_option linter.unusedSimpArgs false
namespace Go.Proofs.YtkpjfhphohanlaaGreatDoor.JC
open Go.RowKit
open Go.Proofs.YtkpjfhphohanlaaGreatDoor.EC (row_lt heap_at rangeAt_below rangeAt_row ret_bool ret_i64 beq_int)

structure S59 (w : World) (r : Nat) (ev x : Int) (CL : List Value) (X : World) : Prop where
  sw : ∃ RL EL, RL.length = 9 ∧ EL.length = 2 ∧ SW w CL RL EL X
  k : X.heap[r]? = some (.cells #[.int .i64 ev] 51 (0, 0))
  n : X.heap[r + 1]? = some (.cells #[.int .i64 x] 3 (0, 0))
theorem S59.rng {w : World} {r : Nat} {ev x : Int} {CL : List Value} {X : World} (h : S59 w r ev x CL X) : X.rangeAt w.heap.size 0 CL := by
  obtain ⟨RL, EL, _, _, hs⟩ := h.sw; exact rangeAt_row hs.c
theorem wp_bld48 {o : Oper} {a : Act} {w : World} {x y : Operand} {k n : Int} (ho : o.op = .build 53 #[(0, x), (1, y)]) (hx : a.eval x = .int .i64 k) (hy : a.eval y = .int .i64 n) : (execOp a.eval o).run Tryz.prog w = .ok (.value (.agg (eL k n).toArray)) w :=
  exec_build a.eval o _ _ #[(0, .int .i64 k), (1, .int .i64 n)] _ w ho (by simp [hx, hy]) (bld48 k n w)
set_option maxHeartbeats 1000000 in
set_option maxRecDepth 100000 in
theorem ask1_any (s : St) (h : swf s) (E : Env) (r : Nat) (ev x : Int) (w : World) (hS : SB E w) (hk : w.heap[r]? = some (.cells #[.int .i64 ev] 51 (0, 0))) (hn : w.heap[r + 1]? = some (.cells #[.int .i64 x] 3 (0, 0))) : Calls Tryz.prog 52 #[.agg (sL s).toArray, pB E.b6, pB r, pB (r + 1)] w fun e w' => DoEnd s.go ev x w e w' := by
  have hs2 := h
  have hzv := fun W => zero9 W
  have hz2 := fun W => zero2 W
  obtain ⟨ZL, hZL⟩ : ∃ L, L = Z9 := ⟨_, rfl⟩
  have HN0 : Hid (∀ L : List Value, SW w L Z9 (eL 0 0) (((w.alloc (.cells L.toArray 50 (0, 0))).alloc (.cells Z9.toArray 50 (0, 0))).alloc (.cells (eL 0 0).toArray 53 (0, 0)))) := fun L => SW.new w L
  have HZN : Hid (ZL.length = 9) := by rw [hZL]; rfl
  rw [← hZL] at hzv HN0
  obtain ⟨EZ, hEZ⟩ : ∃ L, L = eL 0 0 := ⟨_, rfl⟩
  have HEN : Hid (EZ.length = 2) := by rw [hEZ]; rfl
  rw [← hEZ] at hz2 HN0
  have HEZ : Hid _ := hEZ
  have HE1 : Hid (EZ.toArray.all (·.oneCell') = true) := by show _ = _; rw [hEZ]; exact eL_one 0 0
  clear hEZ
  have HPC : Hid _ := sL_pc h
  have HLEN : Hid _ := sL_len h
  have HONE : Hid _ := sL_one s
  have HSP : Hid (∀ x, (sL s).set 8 (U x) = sL ⟨s.rs, x⟩) := fun x => sL_setpc h x
  clear hZL
  generalize hCL : sL s = CL at *
  obtain ⟨CLX, hCLX⟩ : ∃ L, sL s = L := ⟨_, rfl⟩
  have hCC : CLX = CL := by rw [← hCL, hCLX]
  have HX : Hid _ := HN0.out CL
  rw [← hCC] at HX
  have hSX : SB E _ := hS.keep (Kc.of_below HX.out.bel)
  have hcg := (fields5 _ _ _ _ _ hSX.go 0).trans (show _ = some (Value.func (.func 47) #[] #[]) by rfl)
  subst hCC
  have HKX : Hid _ := (HX.out.bel.block _ (row_lt hk)).trans hk
  have HNX : Hid _ := (HX.out.bel.block _ (row_lt hn)).trans hn
  have HRL : Hid (r ≠ w.heap.size ∧ r + 1 ≠ w.heap.size ∧ r ≠ w.heap.size + 1 ∧ r + 1 ≠ w.heap.size + 1 ∧ r ≠ w.heap.size + 1 + 1 ∧ r + 1 ≠ w.heap.size + 1 + 1) := by have := row_lt hk; have := row_lt hn; show _ ∧ _; omega
  clear hSX HPC HSP HN0 hS hk hn
  have HGO : Hid (∀ W, Calls Tryz.prog 47 #[.agg CLX.toArray] W fun e w' => e = .returned (.tuple #[.agg (sL (St.go s)).toArray, .agg EZ.toArray]) ∧ Below W.heap.size W w') := fun W => by rw [← hCLX, HEZ.out]; exact goOn_any _ hs2 W
  have HXN : Hid (CLX.length = 9) := by show _ = _; rw [← hCLX]; exact sL_len hs2
  have H3N : Hid ((sL (St.go s)).length = 9) := sL_len hs2.go
  have H31 : Hid ((sL (St.go s)).toArray.all (·.oneCell') = true) := sL_one _
  obtain ⟨CL3, hCL3⟩ : ∃ L, sL (St.go s) = L := ⟨_, rfl⟩
  rw [hCL3] at HGO H3N H31
  have H3E : Hid _ := hCL3
  clear hCL3
  clear hCLX
  unfold pB
  go_enter Tryz.func52, Tryz.ntmps52
  go_wp2_with (first
    | (refine wpList_load_mid rfl 50 _ rfl w.heap.size 0 rfl CLX _ (rangeAt_row HX.out.c) Tryz.underlying50 rfl (info9 CLX HXN.out) ?_)
    | (go_at_call 47; refine Calls.mono (HGO.out _) ?_; rintro e Y ⟨rfl, hbY⟩; (have HY : Hid (SW w CLX ZL EZ Y) := HX.out.below hbY); (have HKY : Hid _ := (hbY.block _ (row_lt HKX.out)).trans HKX.out); (have HNY : Hid _ := (hbY.block _ (row_lt HNX.out)).trans HNX.out); clear hbY)
    | (refine wpList_store_row rfl 50 _ _ rfl w.heap.size CL3.toArray rfl rfl 50 CLX.toArray HY.out.c (info9a CL3 H3N.out) (by simp [HXN.out, H3N.out]) H31.out ?_))
  have HS9 : Hid (S59 w r ev x CL3 (Y.setRow w.heap.size CL3.toArray).drew) := ⟨⟨ZL, EZ, HZN.out, HEN.out, (HY.out.rowc CL3).below (Below.drew (Below.refl _ _))⟩, (setRow_other _ _ _ _ HRL.out.1).trans HKY.out, (setRow_other _ _ _ _ HRL.out.2.1).trans HNY.out⟩
  have HW1 : Hid _ := (HY.out.rowc CL3).below (Below.drew (Below.refl _ _))
  clear HX HKX HNX HY HKY HNY hcg HGO
  refine wp_region_held_drew (S := S59 w r ev x CL3) (by kernel_rfl) HS9.out (fun hHeld => ?_)
  generalize (Y.setRow w.heap.size CL3.toArray).drew = W at *
  obtain ⟨EV, hEV⟩ : ∃ L, L = eL ev x := ⟨_, rfl⟩
  have HEVN : Hid (EV.length = 2) := by rw [hEV]; rfl
  have HEV1 : Hid (EV.toArray.all (·.oneCell') = true) := by show _ = _; rw [hEV]; exact eL_one ev x
  have HEVE : Hid _ := hEV
  clear hEV
  refine wpAnyH_take (i := 0) (oi := { dst := some 13, op := Go.Op.load 50 (Go.Operand.tmp 4), type := 50, pos := _, after := #[], guard := none }) rfl (by kernel_rfl) (by kernel_rfl) (by kernel_rfl) (fun _ _ _ h => h) (yieldsIf_load_mid (by rfl) 50 (.tmp 4) rfl (w.heap.size) (0) rfl (CL3) _ (fun _ h => h.rng) Tryz.underlying50 rfl (info9 CL3 H3N.out)) hHeld ?_
  try simp only [Act.put, List.setIfInBounds_toArray, List.set_cons_zero, List.set_cons_succ]
  refine wpAnyH_take (i := 1) (oi := { dst := some 14, op := Go.Op.load 51 (Go.Operand.tmp 2), type := 51, pos := _, after := #[{ on := 4, ground := Go.Ground.gcOnly Go.Departure.lateStores }], guard := none }) (v := .int .i64 ev) rfl (by kernel_rfl) (by kernel_rfl) (by kernel_rfl) (fun _ _ _ h => h) (Or.inl ⟨by rfl, fun w' hw' => ?_⟩) hHeld ?_
  · have hcc : w'.cell? ⟨r, 0, none⟩ = some (.int .i64 ev) := (fields5 _ _ _ _ _ hw'.k 0).trans rfl; first | (go_simp; done) | (go_simp; rfl)
  try simp only [Act.put, List.setIfInBounds_toArray, List.set_cons_zero, List.set_cons_succ]
  refine wpAnyH_take (i := 2) (oi := { dst := some 15, op := Go.Op.load 3 (Go.Operand.tmp 3), type := 3, pos := _, after := #[{ on := 4, ground := Go.Ground.gcOnly Go.Departure.lateStores }], guard := none }) (v := .int .i64 x) rfl (by kernel_rfl) (by kernel_rfl) (by kernel_rfl) (fun _ _ _ h => h) (Or.inl ⟨by rfl, fun w' hw' => ?_⟩) hHeld ?_
  · have hcc : w'.cell? ⟨r + 1, 0, none⟩ = some (.int .i64 x) := (fields5 _ _ _ _ _ hw'.n 0).trans rfl; first | (go_simp; done) | (go_simp; rfl)
  try simp only [Act.put, List.setIfInBounds_toArray, List.set_cons_zero, List.set_cons_succ]
  refine wpAnyH_take (i := 3) (oi := { dst := some 16, op := Go.Op.build 53 #[(0, Go.Operand.tmp 14), (1, Go.Operand.tmp 15)], type := 53, pos := _, after := #[{ on := 1, ground := Go.Ground.data }, { on := 2, ground := Go.Ground.data }, { on := 4, ground := Go.Ground.gcOnly Go.Departure.lateStores }], guard := none }) (v := .agg EV.toArray) rfl (by kernel_rfl) (by kernel_rfl) (by kernel_rfl) (fun _ _ _ h => h) (Or.inl ⟨by rfl, fun w' hw' => ?_⟩) hHeld ?_
  · rw [HEVE.out]; exact wp_bld48 rfl rfl rfl
  try simp only [Act.put, List.setIfInBounds_toArray, List.set_cons_zero, List.set_cons_succ]
  refine wpAnyH_ready (rs := [4]) (by kernel_rfl) (by simp) ?_
  refine AllReadyH.cons (o := { dst := none, op := Go.Op.store 50 (Go.Operand.tmp 5) (Go.Operand.tmp 13), type := 0, pos := _, after := #[{ on := 0, ground := Go.Ground.data }, { on := 0, ground := Go.Ground.phase }, { on := 1, ground := Go.Ground.textOnly Go.Departure.lateStores }, { on := 2, ground := Go.Ground.textOnly Go.Departure.lateStores }, { on := 3, ground := Go.Ground.textOnly Go.Departure.lateStores }], guard := none }) rfl (fun K hK => ?_) AllReadyH.nil
  rw [if_pos (by rfl)]
  refine wp_store_row 50 _ _ rfl (w.heap.size + 1) CL3.toArray rfl rfl 50 ZL.toArray HW1.out.r (info9a CL3 H3N.out) (by simp [HZN.out, H3N.out]) H31.out ?_
  have hH4 : S59 w r ev x CL3 (W.setRow (w.heap.size + 1) CL3.toArray) := ⟨⟨CL3, EZ, H3N.out, HEN.out, HW1.out.rowr CL3⟩, (setRow_other _ _ _ _ HRL.out.2.2.1).trans hHeld.k, (setRow_other _ _ _ _ HRL.out.2.2.2.1).trans hHeld.n⟩
  refine hK.out _ _ hH4 (fun _ => ?_)
  clear hK K
  try simp only [Act.put, List.setIfInBounds_toArray, List.set_cons_zero, List.set_cons_succ]
  refine wpAnyH_ready (rs := [5]) (by kernel_rfl) (by simp) ?_
  refine AllReadyH.cons (o := { dst := none, op := Go.Op.store 53 (Go.Operand.tmp 6) (Go.Operand.tmp 16), type := 0, pos := _, after := #[{ on := 3, ground := Go.Ground.data }, { on := 4, ground := Go.Ground.chain }, { on := 0, ground := Go.Ground.phase }, { on := 1, ground := Go.Ground.phase }, { on := 2, ground := Go.Ground.phase }, { on := 3, ground := Go.Ground.phase }, { on := 4, ground := Go.Ground.phase }], guard := none }) rfl (fun K hK => ?_) AllReadyH.nil
  rw [if_pos (by rfl)]
  refine wp_store_row 53 _ _ rfl (w.heap.size + 1 + 1) EV.toArray rfl rfl 53 EZ.toArray (HW1.out.rowr CL3).e (info2a EV HEVN.out) (by simp [HEN.out, HEVN.out]) HEV1.out ?_
  have hH5 : S59 w r ev x CL3 ((W.setRow (w.heap.size + 1) CL3.toArray).setRow (w.heap.size + 1 + 1) EV.toArray) := ⟨⟨CL3, EV, H3N.out, HEVN.out, (HW1.out.rowr CL3).rowe EV⟩, (setRow_other _ _ _ _ HRL.out.2.2.2.2.1).trans hH4.k, (setRow_other _ _ _ _ HRL.out.2.2.2.2.2).trans hH4.n⟩
  refine hK.out _ _ hH5 (fun _ => ?_)
  clear hK K
  try simp only [Act.put, List.setIfInBounds_toArray, List.set_cons_zero, List.set_cons_succ]
  refine wpAnyH_done (by kernel_rfl) ?_ _
  clear hHeld hH4 hH5
  go_wp2
  refine bodyPost_ret (v := .tuple #[.agg CL3.toArray, .agg EV.toArray]) (results22 Tryz.results52 _ w _ ((HW1.out.rowr CL3).rowe EV) H3N.out HEVN.out rfl rfl) rfl ⟨by rw [H3E.out, HEVE.out], ((HW1.out.rowr CL3).rowe EV).bel⟩
/-- What an instruction that may be does. -/
def doS (s : St) (i : Ins) (ld : Int) : St × Int × Int :=
  if i.op = 1 ∨ i.op = 12 then (s.go, 0, 0)
  else if i.op = 13 then (s.jump (IntKind.u64.wrap i.imm), 0, 0)
  else if i.op = 14 then (s.br i.a.toNat (IntKind.u64.wrap i.imm), 0, 0)
  else if i.op = 17 then (s, 3, 0)
  else if i.op = 15 then (s.go, 2, i.d)
  else if i.op = 16 then (s.go, 1, i.imm)
  else (St.go ⟨s.rs.set i.d.toNat (rk i.op.toNat (IntKind.u64.wrap i.imm) ld (s.rs.getD i.a.toNat 0) (s.rs.getD i.b.toNat 0)), s.pc⟩, 0, 0)
theorem rs_u {s : St} (h : swf s) (k : Nat) : u64 (s.rs.getD k 0) := by
  by_cases hk : k < s.rs.length
  · rw [List.getD_eq_getElem?_getD, List.getElem?_eq_getElem hk]; exact h.r _ (List.getElem_mem hk)
  · rw [List.getD_eq_getElem?_getD, List.getElem?_eq_none (by omega)]; constructor <;> decide
theorem rk_u (k : Nat) (M ld A B : Int) (hM : u64 M) (hl : u64 ld) (hA : u64 A) (hB : u64 B) : u64 (rk k M ld A B) := by
  have hbits : ∀ op, op = .xor ∨ op = .and → u64 (bits op .u64 A B) := fun op ho => by
    have : ∀ n : Nat, n < 2 ^ 64 → u64 (IntKind.u64.wrap (n : Int)) := fun n _ => wrap_u _
    rcases ho with rfl | rfl <;> exact wrap_u _
  unfold rk
  split
  · exact hM
  · exact hA
  · exact wrap_u _
  · exact wrap_u _
  · exact hbits _ (.inl rfl)
  · exact hbits _ (.inr rfl)
  · exact wrap_u _
  · exact wrap_u _
  · obtain ⟨h0, h1⟩ := hA
    have hp : (1 : Int) ≤ 2 ^ (B % 64).toNat := by
      have : 1 ≤ 2 ^ (B % 64).toNat := Nat.one_le_two_pow
      exact_mod_cast this
    exact ⟨Int.ediv_nonneg h0 (by omega), Int.lt_of_le_of_lt (Int.ediv_le_self _ h0) h1⟩
  · exact hl
theorem deed_call (s : St) (h : swf s) (i : Ins) (ld : Int) (hl : u64 ld) (hm : may i = true) (E : Env) (hEi : E.i = i) (hEl : E.ld = ld) (X : World) (hS : SB E X) (v : Value) (hG : G E i.op X v) :
    ∃ f caps, v = cV f caps ∧ Enters Tryz.prog f ∧ Calls Tryz.prog f (#[.agg (sL s).toArray] ++ caps) X fun e w' => DoEnd (doS s i ld).1 (doS s i ld).2.1 (doS s i ld).2.2 X e w' := by
  obtain ⟨m1, m2, m3, m4, m5, m6, m7, m8, _, _⟩ := may_bd hm
  obtain ⟨dn, hdn⟩ : ∃ n : Nat, i.d = n := ⟨i.d.toNat, by omega⟩
  obtain ⟨an, han⟩ : ∃ n : Nat, i.a = n := ⟨i.a.toNat, by omega⟩
  obtain ⟨bn, hbn⟩ : ∃ n : Nat, i.b = n := ⟨i.b.toNat, by omega⟩
  rcases hG with ⟨hk, rfl⟩ | ⟨hk, rfl⟩ | ⟨hk, rfl⟩ | ⟨hk, rfl⟩ | ⟨r, hk1, hk2, rfl, hr⟩ | ⟨r, ev, x, hk, rfl, hr1, hr2⟩
  · refine ⟨_, _, rfl, enters_of Tryz.func47 (by kernel_rfl) rfl, ?_⟩
    have e : doS s i ld = (s.go, 0, 0) := by unfold doS; rw [if_pos hk]
    rw [e]; exact goOn_any s h X
  · refine ⟨_, _, rfl, enters_of Tryz.func48 (by kernel_rfl) rfl, ?_⟩
    have e : doS s i ld = (s.jump (IntKind.u64.wrap i.imm), 0, 0) := by unfold doS; rw [if_neg (by omega), if_pos hk]
    rw [e, ← hEi]; exact jump_any s h _ E.b5 X ((fields5 _ _ _ _ _ hS.imm 0).trans rfl)
  · refine ⟨_, _, rfl, enters_of Tryz.func63 (by kernel_rfl) rfl, ?_⟩
    have e : doS s i ld = (s.br an (IntKind.u64.wrap i.imm), 0, 0) := by unfold doS; rw [if_neg (by omega), if_neg (by omega), if_pos hk, han]; rfl
    rw [e, ← hEi]; exact br_any s h E an (by omega) (by rw [hEi, han]) X hS
  · refine ⟨_, _, rfl, enters_of Tryz.func64 (by kernel_rfl) rfl, ?_⟩
    have e : doS s i ld = (s, 3, 0) := by unfold doS; rw [if_neg (by omega), if_neg (by omega), if_neg (by omega), if_pos hk]
    rw [e]; exact stop_any s h X
  · refine ⟨_, _, rfl, enters_of Tryz.func50 (by kernel_rfl) rfl, ?_⟩
    have e : doS s i ld = (St.go ⟨s.rs.set dn (rk i.op.toNat (IntKind.u64.wrap i.imm) ld (s.rs.getD an 0) (s.rs.getD bn 0)), s.pc⟩, 0, 0) := by
      unfold doS; rw [if_neg (by omega), if_neg (by omega), if_neg (by omega), if_neg (by omega), if_neg (by omega), if_neg (by omega), hdn, han, hbn]; rfl
    rw [e]
    obtain ⟨f, caps, hf, he, _⟩ := rk_any E X hS i.op.toNat (by omega) _ _ (rs_u h an) (rs_u h bn)
    rw [hf] at hr
    refine put1_any s h E r f caps dn an bn (by omega) (by omega) (by omega) (by rw [hEi, hdn]) (by rw [hEi, han]) (by rw [hEi, hbn]) _ X hS hr he (rk_u _ _ _ _ _ (wrap_u _) hl (rs_u h an) (rs_u h bn)) (fun Y hY => ?_)
    obtain ⟨f', caps', hf', _, hc⟩ := rk_any E Y hY i.op.toNat (by omega) _ _ (rs_u h an) (rs_u h bn)
    have e2 := hf.symm.trans hf'
    unfold cV at e2
    simp only [Value.func.injEq, Fn.func.injEq, true_and] at e2
    rw [e2.1, e2.2]
    rw [hEi, hEl] at hc
    exact hc
  · refine ⟨_, _, rfl, enters_of Tryz.func52 (by kernel_rfl) rfl, ?_⟩
    have e : doS s i ld = (s.go, ev, x) := by
      unfold doS
      rcases hk with ⟨h1, h2, h3⟩ | ⟨h1, h2, h3⟩
      · rw [if_neg (by omega), if_neg (by omega), if_neg (by omega), if_neg (by omega), if_pos h1, h2, h3, hEi]
      · rw [if_neg (by omega), if_neg (by omega), if_neg (by omega), if_neg (by omega), if_neg (by omega), if_pos h1, h2, h3, hEi]
    rw [e]; exact ask1_any s h E r ev x X hS hr1 hr2
end Go.Proofs.YtkpjfhphohanlaaGreatDoor.JC
