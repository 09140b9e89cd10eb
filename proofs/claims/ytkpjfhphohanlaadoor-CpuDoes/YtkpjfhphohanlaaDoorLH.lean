/- cpu: the reference's Do, by operation. -/
import Derived.Test.YtkpjfhphohanlaaDoorLG
set_option linter.unusedVariables false
set_option linter.unusedSimpArgs false
namespace Go.Proofs.YtkpjfhphohanlaaDoor.JC
open Go.RowKit
open Go.Proofs.YtkpjfhphohanlaaDoor.EC (row_lt heap_at rangeAt_below rangeAt_row ret_bool ret_i64 beq_int)

set_option maxHeartbeats 1000000 in
set_option maxRecDepth 100000 in
theorem rdo_1 (s : St) (h : swf s) (i : Ins) (ld : Int) (hl : u64 ld) (hm : may i = true) (ho : i.op = 1) (w : World) : Calls Tryd.prog 21 #[.agg (sL s).toArray, iV i, .int .u64 ld] w fun e w' => DoEnd (doS s i ld).1 (doS s i ld).2.1 (doS s i ld).2.2 w e w' := by
  have hD : doS s i ld = (s.go, 0, 0) := by unfold doS; rw [ho]; simp
  have hW2 : swf (doS s i ld).1 := doS_wf h i ld hl
  rw [hD] at hW2 ⊢
  simp only at hW2 ⊢
  have HCN0 : (sL s.go).length = 9 := sL_len hW2
  have HC10 := sL_one s.go
  have hS8 : ∀ x, (sL s).set 8 (.int .u64 x) = sL ⟨s.rs, x⟩ := fun x => sL_setpc h x
  have hE : (sL s).set 8 (.int .u64 (IntKind.u64.wrap (s.pc + 8))) = sL s.go := hS8 _
  clear hD hW2 hS8
  obtain ⟨CR, hCR⟩ : ∃ L, L = sL s.go := ⟨_, rfl⟩
  rw [← hCR] at hE HCN0 HC10
  have HCE : Hid _ := hCR
  clear hCR
  have hM := fun W => rmay_any i W
  rw [hm] at hM
  obtain ⟨m1, m2, m3, m4, m5, m6, m7, m8, _, _⟩ := may_bd hm
  obtain ⟨dn, hdn⟩ : ∃ n : Nat, i.d = n := ⟨i.d.toNat, by omega⟩
  obtain ⟨an, han⟩ : ∃ n : Nat, i.a = n := ⟨i.a.toNat, by omega⟩
  obtain ⟨bn, hbn⟩ : ∃ n : Nat, i.b = n := ⟨i.b.toNat, by omega⟩
  have HRA : Hid _ := sL_reg h an (by omega)
  have HRB : Hid _ := sL_reg h bn (by omega)
  have HRD : Hid _ := sL_reg h dn (by omega)
  have HPC : Hid _ := sL_pc h
  have hai : ((an : Int) < 8) := by omega
  have hbi : ((bn : Int) < 8) := by omega
  have hdi : ((dn : Int) < 8) := by omega
  have HDL : Hid (dn < 9) := by show dn < 9; omega
  have ed : i.d.toNat = dn := by omega
  have ea : i.a.toNat = an := by omega
  have eb : i.b.toNat = bn := by omega
  try rw [ea] at hE
  try rw [eb] at hE
  try rw [ed] at hE
  clear ed ea eb
  have hzv := fun W => zero9 W
  have hz2 := fun W => zero2 W
  obtain ⟨ZL, hZL⟩ : ∃ L, L = Z9 := ⟨_, rfl⟩
  have HZN : Hid (ZL.length = 9) := by rw [hZL]; rfl
  rw [← hZL] at hzv
  obtain ⟨EZ, hEZ⟩ : ∃ L, L = eL 0 0 := ⟨_, rfl⟩
  have HEN : Hid (EZ.length = 2) := by rw [hEZ]; rfl
  rw [← hEZ] at hz2
  have HEZ : Hid _ := hEZ
  have HE1 : Hid (EZ.toArray.all (·.oneCell') = true) := by show _ = _; rw [hEZ]; exact eL_one 0 0
  have HBL : Hid (∀ W, (Instr.build 48 #[]).run Tryd.prog W = .ok (.agg EZ.toArray) W) := fun W => by rw [hEZ]; exact bld48z W
  clear hZL hEZ
  have HLEN : Hid _ := sL_len h
  have HONE : Hid _ := sL_one s
  generalize hCL : sL s = CL at *
  have HIN : Hid _ := ins_info i
  have hiV : iV i = .agg (iL i).toArray := rfl
  rw [hiV] at hM ⊢
  have HI0 : Hid ((iL i)[0]? = some (.int .i64 i.op)) := rfl
  have HI1 : Hid ((iL i)[1]? = some (.int .i64 i.d)) := rfl
  have HI2 : Hid ((iL i)[2]? = some (.int .i64 i.a)) := rfl
  have HI3 : Hid ((iL i)[3]? = some (.int .i64 i.b)) := rfl
  have HI4 : Hid ((iL i)[4]? = some (.int .i64 i.imm)) := rfl
  generalize iL i = IL at *
  have HX : Hid _ := SQ.new w CL IL ZL EZ
  rw [ho] at HI0
  rw [hdn] at HI1
  rw [han] at HI2
  rw [hbn] at HI3
  unfold U at HRA HRB HRD HPC
  generalize s.rs.getD an 0 = xa at *
  generalize s.rs.getD bn 0 = xb at *
  generalize s.rs.getD dn 0 = xd at *
  generalize s.pc = pc at *
  generalize i.imm = imm at *
  obtain ⟨P8, hP8⟩ : ∃ P8, IntKind.u64.wrap (pc + 8) = P8 := ⟨_, rfl⟩
  rw [hP8] at hE
  clear h hm m1 m2 m3 m4 m5 m6 m7 m8 hdn han hbn ho
  go_enter Tryd.func21, Tryd.ntmps21
  go_wp2_with (first
    | (refine wpList_load_mid rfl 24 _ rfl (w.heap.size + 1) 0 rfl IL _ (rangeAt_row HX.out.i) Tryd.underlying24 rfl HIN.out ?_))
  refine Calls.mono (hM _) ?_
  rintro e Y ⟨rfl, hbY⟩
  have HY : Hid _ := HX.out.below hbY
  clear hbY HX hM
  have hc0 : Y.cell? ⟨w.heap.size + 1, 0, none⟩ = some (.int .i64 1) := (fields5 _ _ _ _ _ HY.out.i 0).trans (by rw [List.getElem?_toArray]; exact HI0.out)
  have hc2 : Y.cell? ⟨w.heap.size + 1, 2, none⟩ = some (.int .i64 (an : Int)) := (fields5 _ _ _ _ _ HY.out.i 2).trans (by rw [List.getElem?_toArray]; exact HI2.out)
  have hc3 : Y.cell? ⟨w.heap.size + 1, 3, none⟩ = some (.int .i64 (bn : Int)) := (fields5 _ _ _ _ _ HY.out.i 3).trans (by rw [List.getElem?_toArray]; exact HI3.out)
  have hcr : Y.cell? ⟨w.heap.size, an, none⟩ = some (.int .u64 xa) := (fields5 _ _ _ _ _ HY.out.c an).trans (by rw [List.getElem?_toArray]; exact HRA.out)
  have hcs : Y.cell? ⟨w.heap.size, bn, none⟩ = some (.int .u64 xb) := (fields5 _ _ _ _ _ HY.out.c bn).trans (by rw [List.getElem?_toArray]; exact HRB.out)
  go_wp2
  go_quiet (fail)
  have HZ : Hid (SQ w CL IL ZL EZ (Y.drewN nq)) := HY.out.below ⟨rfl, rfl, rfl, Nat.le_refl _, fun _ _ => rfl⟩
  clear hc0 hc2 hc3 hcr hcs HY
  generalize Y.drewN nq = Z at *
  have HZA : Hid ((Z.alloc (.cells ZL.toArray 45 (0, 0))).heap[Z.heap.size]? = some (.cells ZL.toArray 45 (0, 0))) := heap_alloc_new _ _
  have HPE : Hid _ := hE
  have HCN : Hid _ := HCN0
  have HC1 : Hid _ := HC10
  clear hE HCN0 HC10
  go_wp2_with (first
    | (refine wpList_load_mid rfl 45 (.tmp 3) rfl w.heap.size 0 rfl CL _ (rangeAt_row HZ.out.c) Tryd.underlying45 rfl (info9 CL HLEN.out) ?_)
    | (refine wpList_store_rowL rfl 45 (.tmp 10) (.tmp 31) rfl Z.heap.size CL.toArray rfl rfl 45 ZL.toArray HZA.out (info9a CL HLEN.out) (by simp [HZN.out, HLEN.out]) HONE.out ?_; intro T hT; (have HO : Hid (SO w CL IL ZL EZ Z.heap.size CL T) := by rw [hT]; exact SO.new HZ.out ZL); (have cpc := HO.out.cc 8 _ HPC.out); clear hT HZA)
    | (refine wpList_store_cL rfl (.tmp 35) (.tmp 34) rfl Z.heap.size 8 P8 rfl rfl CL _ HO.out.o (by rw [HLEN.out]; decide) ?_; intro T1 hT1; (have HO1 : Hid (SO w CL IL ZL EZ Z.heap.size (CL.set 8 (.int .u64 P8)) T1) := by rw [hT1]; exact HO.out.set 8 _); (have c0 := HO1.out.ci 0 _ HI0.out); (have c1 := HO1.out.ci 1 _ HI1.out); (have c4 := HO1.out.ci 4 _ HI4.out); (have c8 := HO1.out.cc 8 _ HPC.out); (have HOF : Hid (SO w CL IL ZL EZ Z.heap.size CR T1) := by rw [← HPE.out]; exact HO1.out); clear hT1 HO cpc)
    | fail
    | (refine wpList_load_mid rfl 45 (.tmp 10) rfl Z.heap.size 0 rfl CR _ (rangeAt_row HOF.out.o) Tryd.underlying45 rfl (info9 CR HCN.out) ?_)
    | (refine wpList_build rfl 48 #[] rfl #[] (.agg EZ.toArray) (by simp [Act.eval]) (HBL.out _) ?_)
    | (refine wpList_store_row rfl 45 (.tmp 6) (.tmp 158) rfl (w.heap.size + 1 + 1) CR.toArray rfl rfl 45 ZL.toArray HOF.out.q.r (info9a CR HCN.out) (by simp [HZN.out, HCN.out]) HC1.out ?_)
    | (refine wpList_store_row rfl 48 (.tmp 7) (.tmp 159) rfl (w.heap.size + 1 + 1 + 1) EZ.toArray rfl rfl 48 EZ.toArray (HOF.out.rowr CR).q.e (info2a EZ HEN.out) rfl HE1.out ?_))
  refine bodyPost_ret (v := .tuple #[.agg CR.toArray, .agg EZ.toArray]) (results23 Tryd.results21 _ _ _ _ ((HOF.out.rowr CR).rowe EZ).q.r ((HOF.out.rowr CR).rowe EZ).q.e HCN.out HEN.out rfl rfl) rfl ⟨by rw [HCE.out, HEZ.out], ((HOF.out.rowr CR).rowe EZ).q.bel⟩
set_option maxHeartbeats 1000000 in
set_option maxRecDepth 100000 in
theorem rdo_2 (s : St) (h : swf s) (i : Ins) (ld : Int) (hl : u64 ld) (hm : may i = true) (ho : i.op = 2) (w : World) : Calls Tryd.prog 21 #[.agg (sL s).toArray, iV i, .int .u64 ld] w fun e w' => DoEnd (doS s i ld).1 (doS s i ld).2.1 (doS s i ld).2.2 w e w' := by
  have hD : doS s i ld = ((St.go ⟨s.rs.set i.d.toNat (rk 2 (IntKind.u64.wrap i.imm) ld (s.rs.getD i.a.toNat 0) (s.rs.getD i.b.toNat 0)), s.pc⟩), 0, 0) := by unfold doS; rw [ho]; simp
  have hW2 : swf (doS s i ld).1 := doS_wf h i ld hl
  rw [hD] at hW2 ⊢
  simp only at hW2 ⊢
  have HCN0 : (sL (St.go ⟨s.rs.set i.d.toNat (rk 2 (IntKind.u64.wrap i.imm) ld (s.rs.getD i.a.toNat 0) (s.rs.getD i.b.toNat 0)), s.pc⟩)).length = 9 := sL_len hW2
  have HC10 := sL_one (St.go ⟨s.rs.set i.d.toNat (rk 2 (IntKind.u64.wrap i.imm) ld (s.rs.getD i.a.toNat 0) (s.rs.getD i.b.toNat 0)), s.pc⟩)
  have hS8 : ∀ x, (sL s).set 8 (.int .u64 x) = sL ⟨s.rs, x⟩ := fun x => sL_setpc h x
  have hE : ((sL s).set 8 (.int .u64 (IntKind.u64.wrap (s.pc + 8)))).set i.d.toNat (.int .u64 (rk 2 (IntKind.u64.wrap i.imm) ld (s.rs.getD i.a.toNat 0) (s.rs.getD i.b.toNat 0))) = sL (St.go ⟨s.rs.set i.d.toNat (rk 2 (IntKind.u64.wrap i.imm) ld (s.rs.getD i.a.toNat 0) (s.rs.getD i.b.toNat 0)), s.pc⟩) := by
    have hgo : swf s.go := h.go
    rw [hS8]
    exact sL_setreg hgo i.d.toNat (by have := (may_bd hm); omega) _
  clear hD hW2 hS8
  obtain ⟨CR, hCR⟩ : ∃ L, L = sL (St.go ⟨s.rs.set i.d.toNat (rk 2 (IntKind.u64.wrap i.imm) ld (s.rs.getD i.a.toNat 0) (s.rs.getD i.b.toNat 0)), s.pc⟩) := ⟨_, rfl⟩
  rw [← hCR] at hE HCN0 HC10
  have HCE : Hid _ := hCR
  clear hCR
  have hM := fun W => rmay_any i W
  rw [hm] at hM
  obtain ⟨m1, m2, m3, m4, m5, m6, m7, m8, _, _⟩ := may_bd hm
  obtain ⟨dn, hdn⟩ : ∃ n : Nat, i.d = n := ⟨i.d.toNat, by omega⟩
  obtain ⟨an, han⟩ : ∃ n : Nat, i.a = n := ⟨i.a.toNat, by omega⟩
  obtain ⟨bn, hbn⟩ : ∃ n : Nat, i.b = n := ⟨i.b.toNat, by omega⟩
  have HRA : Hid _ := sL_reg h an (by omega)
  have HRB : Hid _ := sL_reg h bn (by omega)
  have HRD : Hid _ := sL_reg h dn (by omega)
  have HPC : Hid _ := sL_pc h
  have hai : ((an : Int) < 8) := by omega
  have hbi : ((bn : Int) < 8) := by omega
  have hdi : ((dn : Int) < 8) := by omega
  have HDL : Hid (dn < 9) := by show dn < 9; omega
  have ed : i.d.toNat = dn := by omega
  have ea : i.a.toNat = an := by omega
  have eb : i.b.toNat = bn := by omega
  try rw [ea] at hE
  try rw [eb] at hE
  try rw [ed] at hE
  clear ed ea eb
  have hzv := fun W => zero9 W
  have hz2 := fun W => zero2 W
  obtain ⟨ZL, hZL⟩ : ∃ L, L = Z9 := ⟨_, rfl⟩
  have HZN : Hid (ZL.length = 9) := by rw [hZL]; rfl
  rw [← hZL] at hzv
  obtain ⟨EZ, hEZ⟩ : ∃ L, L = eL 0 0 := ⟨_, rfl⟩
  have HEN : Hid (EZ.length = 2) := by rw [hEZ]; rfl
  rw [← hEZ] at hz2
  have HEZ : Hid _ := hEZ
  have HE1 : Hid (EZ.toArray.all (·.oneCell') = true) := by show _ = _; rw [hEZ]; exact eL_one 0 0
  have HBL : Hid (∀ W, (Instr.build 48 #[]).run Tryd.prog W = .ok (.agg EZ.toArray) W) := fun W => by rw [hEZ]; exact bld48z W
  clear hZL hEZ
  have HLEN : Hid _ := sL_len h
  have HONE : Hid _ := sL_one s
  generalize hCL : sL s = CL at *
  have HIN : Hid _ := ins_info i
  have hiV : iV i = .agg (iL i).toArray := rfl
  rw [hiV] at hM ⊢
  have HI0 : Hid ((iL i)[0]? = some (.int .i64 i.op)) := rfl
  have HI1 : Hid ((iL i)[1]? = some (.int .i64 i.d)) := rfl
  have HI2 : Hid ((iL i)[2]? = some (.int .i64 i.a)) := rfl
  have HI3 : Hid ((iL i)[3]? = some (.int .i64 i.b)) := rfl
  have HI4 : Hid ((iL i)[4]? = some (.int .i64 i.imm)) := rfl
  generalize iL i = IL at *
  have HX : Hid _ := SQ.new w CL IL ZL EZ
  rw [ho] at HI0
  rw [hdn] at HI1
  rw [han] at HI2
  rw [hbn] at HI3
  unfold U at HRA HRB HRD HPC
  generalize s.rs.getD an 0 = xa at *
  generalize s.rs.getD bn 0 = xb at *
  generalize s.rs.getD dn 0 = xd at *
  generalize s.pc = pc at *
  generalize i.imm = imm at *
  obtain ⟨P8, hP8⟩ : ∃ P8, IntKind.u64.wrap (pc + 8) = P8 := ⟨_, rfl⟩
  rw [hP8] at hE
  clear h hm m1 m2 m3 m4 m5 m6 m7 m8 hdn han hbn ho
  go_enter Tryd.func21, Tryd.ntmps21
  go_wp2_with (first
    | (refine wpList_load_mid rfl 24 _ rfl (w.heap.size + 1) 0 rfl IL _ (rangeAt_row HX.out.i) Tryd.underlying24 rfl HIN.out ?_))
  refine Calls.mono (hM _) ?_
  rintro e Y ⟨rfl, hbY⟩
  have HY : Hid _ := HX.out.below hbY
  clear hbY HX hM
  have hc0 : Y.cell? ⟨w.heap.size + 1, 0, none⟩ = some (.int .i64 2) := (fields5 _ _ _ _ _ HY.out.i 0).trans (by rw [List.getElem?_toArray]; exact HI0.out)
  have hc2 : Y.cell? ⟨w.heap.size + 1, 2, none⟩ = some (.int .i64 (an : Int)) := (fields5 _ _ _ _ _ HY.out.i 2).trans (by rw [List.getElem?_toArray]; exact HI2.out)
  have hc3 : Y.cell? ⟨w.heap.size + 1, 3, none⟩ = some (.int .i64 (bn : Int)) := (fields5 _ _ _ _ _ HY.out.i 3).trans (by rw [List.getElem?_toArray]; exact HI3.out)
  have hcr : Y.cell? ⟨w.heap.size, an, none⟩ = some (.int .u64 xa) := (fields5 _ _ _ _ _ HY.out.c an).trans (by rw [List.getElem?_toArray]; exact HRA.out)
  have hcs : Y.cell? ⟨w.heap.size, bn, none⟩ = some (.int .u64 xb) := (fields5 _ _ _ _ _ HY.out.c bn).trans (by rw [List.getElem?_toArray]; exact HRB.out)
  go_wp2
  go_quiet (fail)
  have HZ : Hid (SQ w CL IL ZL EZ (Y.drewN nq)) := HY.out.below ⟨rfl, rfl, rfl, Nat.le_refl _, fun _ _ => rfl⟩
  clear hc0 hc2 hc3 hcr hcs HY
  generalize Y.drewN nq = Z at *
  have HZA : Hid ((Z.alloc (.cells ZL.toArray 45 (0, 0))).heap[Z.heap.size]? = some (.cells ZL.toArray 45 (0, 0))) := heap_alloc_new _ _
  have HPE : Hid _ := hE
  have HCN : Hid _ := HCN0
  have HC1 : Hid _ := HC10
  clear hE HCN0 HC10
  go_wp2_with (first
    | (refine wpList_load_mid rfl 45 (.tmp 3) rfl w.heap.size 0 rfl CL _ (rangeAt_row HZ.out.c) Tryd.underlying45 rfl (info9 CL HLEN.out) ?_)
    | (refine wpList_store_rowL rfl 45 (.tmp 10) (.tmp 31) rfl Z.heap.size CL.toArray rfl rfl 45 ZL.toArray HZA.out (info9a CL HLEN.out) (by simp [HZN.out, HLEN.out]) HONE.out ?_; intro T hT; (have HO : Hid (SO w CL IL ZL EZ Z.heap.size CL T) := by rw [hT]; exact SO.new HZ.out ZL); (have cpc := HO.out.cc 8 _ HPC.out); clear hT HZA)
    | (refine wpList_store_cL rfl (.tmp 35) (.tmp 34) rfl Z.heap.size 8 P8 rfl rfl CL _ HO.out.o (by rw [HLEN.out]; decide) ?_; intro T1 hT1; (have HO1 : Hid (SO w CL IL ZL EZ Z.heap.size (CL.set 8 (.int .u64 P8)) T1) := by rw [hT1]; exact HO.out.set 8 _); (have c0 := HO1.out.ci 0 _ HI0.out); (have c1 := HO1.out.ci 1 _ HI1.out); (have c4 := HO1.out.ci 4 _ HI4.out); (have c8 := HO1.out.cc 8 _ HPC.out); skip; clear hT1 HO cpc)
    | (refine wpList_store_cL rfl (.tmp 46) (.tmp 44) rfl Z.heap.size dn (IntKind.u64.wrap imm) rfl rfl (CL.set 8 (.int .u64 P8)) _ HO1.out.o (by rw [List.length_set, HLEN.out]; exact HDL.out) ?_; intro T2 hT2; (have HOF : Hid (SO w CL IL ZL EZ Z.heap.size CR T2) := by rw [hT2, ← HPE.out]; exact HO1.out.set dn _); clear hT2 HO1 c0 c1 c4 c8)
    | (refine wpList_load_mid rfl 45 (.tmp 10) rfl Z.heap.size 0 rfl CR _ (rangeAt_row HOF.out.o) Tryd.underlying45 rfl (info9 CR HCN.out) ?_)
    | (refine wpList_build rfl 48 #[] rfl #[] (.agg EZ.toArray) (by simp [Act.eval]) (HBL.out _) ?_)
    | (refine wpList_store_row rfl 45 (.tmp 6) (.tmp 158) rfl (w.heap.size + 1 + 1) CR.toArray rfl rfl 45 ZL.toArray HOF.out.q.r (info9a CR HCN.out) (by simp [HZN.out, HCN.out]) HC1.out ?_)
    | (refine wpList_store_row rfl 48 (.tmp 7) (.tmp 159) rfl (w.heap.size + 1 + 1 + 1) EZ.toArray rfl rfl 48 EZ.toArray (HOF.out.rowr CR).q.e (info2a EZ HEN.out) rfl HE1.out ?_))
  refine bodyPost_ret (v := .tuple #[.agg CR.toArray, .agg EZ.toArray]) (results23 Tryd.results21 _ _ _ _ ((HOF.out.rowr CR).rowe EZ).q.r ((HOF.out.rowr CR).rowe EZ).q.e HCN.out HEN.out rfl rfl) rfl ⟨by rw [HCE.out, HEZ.out], ((HOF.out.rowr CR).rowe EZ).q.bel⟩
set_option maxHeartbeats 1000000 in
set_option maxRecDepth 100000 in
theorem rdo_3 (s : St) (h : swf s) (i : Ins) (ld : Int) (hl : u64 ld) (hm : may i = true) (ho : i.op = 3) (w : World) : Calls Tryd.prog 21 #[.agg (sL s).toArray, iV i, .int .u64 ld] w fun e w' => DoEnd (doS s i ld).1 (doS s i ld).2.1 (doS s i ld).2.2 w e w' := by
  have hD : doS s i ld = ((St.go ⟨s.rs.set i.d.toNat (rk 3 (IntKind.u64.wrap i.imm) ld (s.rs.getD i.a.toNat 0) (s.rs.getD i.b.toNat 0)), s.pc⟩), 0, 0) := by unfold doS; rw [ho]; simp
  have hW2 : swf (doS s i ld).1 := doS_wf h i ld hl
  rw [hD] at hW2 ⊢
  simp only at hW2 ⊢
  have HCN0 : (sL (St.go ⟨s.rs.set i.d.toNat (rk 3 (IntKind.u64.wrap i.imm) ld (s.rs.getD i.a.toNat 0) (s.rs.getD i.b.toNat 0)), s.pc⟩)).length = 9 := sL_len hW2
  have HC10 := sL_one (St.go ⟨s.rs.set i.d.toNat (rk 3 (IntKind.u64.wrap i.imm) ld (s.rs.getD i.a.toNat 0) (s.rs.getD i.b.toNat 0)), s.pc⟩)
  have hS8 : ∀ x, (sL s).set 8 (.int .u64 x) = sL ⟨s.rs, x⟩ := fun x => sL_setpc h x
  have hE : ((sL s).set 8 (.int .u64 (IntKind.u64.wrap (s.pc + 8)))).set i.d.toNat (.int .u64 (rk 3 (IntKind.u64.wrap i.imm) ld (s.rs.getD i.a.toNat 0) (s.rs.getD i.b.toNat 0))) = sL (St.go ⟨s.rs.set i.d.toNat (rk 3 (IntKind.u64.wrap i.imm) ld (s.rs.getD i.a.toNat 0) (s.rs.getD i.b.toNat 0)), s.pc⟩) := by
    have hgo : swf s.go := h.go
    rw [hS8]
    exact sL_setreg hgo i.d.toNat (by have := (may_bd hm); omega) _
  clear hD hW2 hS8
  obtain ⟨CR, hCR⟩ : ∃ L, L = sL (St.go ⟨s.rs.set i.d.toNat (rk 3 (IntKind.u64.wrap i.imm) ld (s.rs.getD i.a.toNat 0) (s.rs.getD i.b.toNat 0)), s.pc⟩) := ⟨_, rfl⟩
  rw [← hCR] at hE HCN0 HC10
  have HCE : Hid _ := hCR
  clear hCR
  have hM := fun W => rmay_any i W
  rw [hm] at hM
  obtain ⟨m1, m2, m3, m4, m5, m6, m7, m8, _, _⟩ := may_bd hm
  obtain ⟨dn, hdn⟩ : ∃ n : Nat, i.d = n := ⟨i.d.toNat, by omega⟩
  obtain ⟨an, han⟩ : ∃ n : Nat, i.a = n := ⟨i.a.toNat, by omega⟩
  obtain ⟨bn, hbn⟩ : ∃ n : Nat, i.b = n := ⟨i.b.toNat, by omega⟩
  have HRA : Hid _ := sL_reg h an (by omega)
  have HRB : Hid _ := sL_reg h bn (by omega)
  have HRD : Hid _ := sL_reg h dn (by omega)
  have HPC : Hid _ := sL_pc h
  have hai : ((an : Int) < 8) := by omega
  have hbi : ((bn : Int) < 8) := by omega
  have hdi : ((dn : Int) < 8) := by omega
  have HDL : Hid (dn < 9) := by show dn < 9; omega
  have ed : i.d.toNat = dn := by omega
  have ea : i.a.toNat = an := by omega
  have eb : i.b.toNat = bn := by omega
  try rw [ea] at hE
  try rw [eb] at hE
  try rw [ed] at hE
  clear ed ea eb
  have hzv := fun W => zero9 W
  have hz2 := fun W => zero2 W
  obtain ⟨ZL, hZL⟩ : ∃ L, L = Z9 := ⟨_, rfl⟩
  have HZN : Hid (ZL.length = 9) := by rw [hZL]; rfl
  rw [← hZL] at hzv
  obtain ⟨EZ, hEZ⟩ : ∃ L, L = eL 0 0 := ⟨_, rfl⟩
  have HEN : Hid (EZ.length = 2) := by rw [hEZ]; rfl
  rw [← hEZ] at hz2
  have HEZ : Hid _ := hEZ
  have HE1 : Hid (EZ.toArray.all (·.oneCell') = true) := by show _ = _; rw [hEZ]; exact eL_one 0 0
  have HBL : Hid (∀ W, (Instr.build 48 #[]).run Tryd.prog W = .ok (.agg EZ.toArray) W) := fun W => by rw [hEZ]; exact bld48z W
  clear hZL hEZ
  have HLEN : Hid _ := sL_len h
  have HONE : Hid _ := sL_one s
  generalize hCL : sL s = CL at *
  have HIN : Hid _ := ins_info i
  have hiV : iV i = .agg (iL i).toArray := rfl
  rw [hiV] at hM ⊢
  have HI0 : Hid ((iL i)[0]? = some (.int .i64 i.op)) := rfl
  have HI1 : Hid ((iL i)[1]? = some (.int .i64 i.d)) := rfl
  have HI2 : Hid ((iL i)[2]? = some (.int .i64 i.a)) := rfl
  have HI3 : Hid ((iL i)[3]? = some (.int .i64 i.b)) := rfl
  have HI4 : Hid ((iL i)[4]? = some (.int .i64 i.imm)) := rfl
  generalize iL i = IL at *
  have HX : Hid _ := SQ.new w CL IL ZL EZ
  rw [ho] at HI0
  rw [hdn] at HI1
  rw [han] at HI2
  rw [hbn] at HI3
  unfold U at HRA HRB HRD HPC
  generalize s.rs.getD an 0 = xa at *
  generalize s.rs.getD bn 0 = xb at *
  generalize s.rs.getD dn 0 = xd at *
  generalize s.pc = pc at *
  generalize i.imm = imm at *
  obtain ⟨P8, hP8⟩ : ∃ P8, IntKind.u64.wrap (pc + 8) = P8 := ⟨_, rfl⟩
  rw [hP8] at hE
  clear h hm m1 m2 m3 m4 m5 m6 m7 m8 hdn han hbn ho
  go_enter Tryd.func21, Tryd.ntmps21
  go_wp2_with (first
    | (refine wpList_load_mid rfl 24 _ rfl (w.heap.size + 1) 0 rfl IL _ (rangeAt_row HX.out.i) Tryd.underlying24 rfl HIN.out ?_))
  refine Calls.mono (hM _) ?_
  rintro e Y ⟨rfl, hbY⟩
  have HY : Hid _ := HX.out.below hbY
  clear hbY HX hM
  have hc0 : Y.cell? ⟨w.heap.size + 1, 0, none⟩ = some (.int .i64 3) := (fields5 _ _ _ _ _ HY.out.i 0).trans (by rw [List.getElem?_toArray]; exact HI0.out)
  have hc2 : Y.cell? ⟨w.heap.size + 1, 2, none⟩ = some (.int .i64 (an : Int)) := (fields5 _ _ _ _ _ HY.out.i 2).trans (by rw [List.getElem?_toArray]; exact HI2.out)
  have hc3 : Y.cell? ⟨w.heap.size + 1, 3, none⟩ = some (.int .i64 (bn : Int)) := (fields5 _ _ _ _ _ HY.out.i 3).trans (by rw [List.getElem?_toArray]; exact HI3.out)
  have hcr : Y.cell? ⟨w.heap.size, an, none⟩ = some (.int .u64 xa) := (fields5 _ _ _ _ _ HY.out.c an).trans (by rw [List.getElem?_toArray]; exact HRA.out)
  have hcs : Y.cell? ⟨w.heap.size, bn, none⟩ = some (.int .u64 xb) := (fields5 _ _ _ _ _ HY.out.c bn).trans (by rw [List.getElem?_toArray]; exact HRB.out)
  go_wp2
  go_quiet (fail)
  have HZ : Hid (SQ w CL IL ZL EZ (Y.drewN nq)) := HY.out.below ⟨rfl, rfl, rfl, Nat.le_refl _, fun _ _ => rfl⟩
  clear hc0 hc2 hc3 hcr hcs HY
  generalize Y.drewN nq = Z at *
  have HZA : Hid ((Z.alloc (.cells ZL.toArray 45 (0, 0))).heap[Z.heap.size]? = some (.cells ZL.toArray 45 (0, 0))) := heap_alloc_new _ _
  have HPE : Hid _ := hE
  have HCN : Hid _ := HCN0
  have HC1 : Hid _ := HC10
  clear hE HCN0 HC10
  go_wp2_with (first
    | (refine wpList_load_mid rfl 45 (.tmp 3) rfl w.heap.size 0 rfl CL _ (rangeAt_row HZ.out.c) Tryd.underlying45 rfl (info9 CL HLEN.out) ?_)
    | (refine wpList_store_rowL rfl 45 (.tmp 10) (.tmp 31) rfl Z.heap.size CL.toArray rfl rfl 45 ZL.toArray HZA.out (info9a CL HLEN.out) (by simp [HZN.out, HLEN.out]) HONE.out ?_; intro T hT; (have HO : Hid (SO w CL IL ZL EZ Z.heap.size CL T) := by rw [hT]; exact SO.new HZ.out ZL); (have cpc := HO.out.cc 8 _ HPC.out); clear hT HZA)
    | (refine wpList_store_cL rfl (.tmp 35) (.tmp 34) rfl Z.heap.size 8 P8 rfl rfl CL _ HO.out.o (by rw [HLEN.out]; decide) ?_; intro T1 hT1; (have HO1 : Hid (SO w CL IL ZL EZ Z.heap.size (CL.set 8 (.int .u64 P8)) T1) := by rw [hT1]; exact HO.out.set 8 _); (have c0 := HO1.out.ci 0 _ HI0.out); (have c1 := HO1.out.ci 1 _ HI1.out); (have c4 := HO1.out.ci 4 _ HI4.out); (have c8 := HO1.out.cc 8 _ HPC.out); skip; clear hT1 HO cpc)
    | (refine wpList_store_cL rfl (.tmp 53) (.tmp 51) rfl Z.heap.size dn (xa) rfl rfl (CL.set 8 (.int .u64 P8)) _ HO1.out.o (by rw [List.length_set, HLEN.out]; exact HDL.out) ?_; intro T2 hT2; (have HOF : Hid (SO w CL IL ZL EZ Z.heap.size CR T2) := by rw [hT2, ← HPE.out]; exact HO1.out.set dn _); clear hT2 HO1 c0 c1 c4 c8)
    | (refine wpList_load_mid rfl 45 (.tmp 10) rfl Z.heap.size 0 rfl CR _ (rangeAt_row HOF.out.o) Tryd.underlying45 rfl (info9 CR HCN.out) ?_)
    | (refine wpList_build rfl 48 #[] rfl #[] (.agg EZ.toArray) (by simp [Act.eval]) (HBL.out _) ?_)
    | (refine wpList_store_row rfl 45 (.tmp 6) (.tmp 158) rfl (w.heap.size + 1 + 1) CR.toArray rfl rfl 45 ZL.toArray HOF.out.q.r (info9a CR HCN.out) (by simp [HZN.out, HCN.out]) HC1.out ?_)
    | (refine wpList_store_row rfl 48 (.tmp 7) (.tmp 159) rfl (w.heap.size + 1 + 1 + 1) EZ.toArray rfl rfl 48 EZ.toArray (HOF.out.rowr CR).q.e (info2a EZ HEN.out) rfl HE1.out ?_))
  refine bodyPost_ret (v := .tuple #[.agg CR.toArray, .agg EZ.toArray]) (results23 Tryd.results21 _ _ _ _ ((HOF.out.rowr CR).rowe EZ).q.r ((HOF.out.rowr CR).rowe EZ).q.e HCN.out HEN.out rfl rfl) rfl ⟨by rw [HCE.out, HEZ.out], ((HOF.out.rowr CR).rowe EZ).q.bel⟩
set_option maxHeartbeats 1000000 in
set_option maxRecDepth 100000 in
theorem rdo_4 (s : St) (h : swf s) (i : Ins) (ld : Int) (hl : u64 ld) (hm : may i = true) (ho : i.op = 4) (w : World) : Calls Tryd.prog 21 #[.agg (sL s).toArray, iV i, .int .u64 ld] w fun e w' => DoEnd (doS s i ld).1 (doS s i ld).2.1 (doS s i ld).2.2 w e w' := by
  have hD : doS s i ld = ((St.go ⟨s.rs.set i.d.toNat (rk 4 (IntKind.u64.wrap i.imm) ld (s.rs.getD i.a.toNat 0) (s.rs.getD i.b.toNat 0)), s.pc⟩), 0, 0) := by unfold doS; rw [ho]; simp
  have hW2 : swf (doS s i ld).1 := doS_wf h i ld hl
  rw [hD] at hW2 ⊢
  simp only at hW2 ⊢
  have HCN0 : (sL (St.go ⟨s.rs.set i.d.toNat (rk 4 (IntKind.u64.wrap i.imm) ld (s.rs.getD i.a.toNat 0) (s.rs.getD i.b.toNat 0)), s.pc⟩)).length = 9 := sL_len hW2
  have HC10 := sL_one (St.go ⟨s.rs.set i.d.toNat (rk 4 (IntKind.u64.wrap i.imm) ld (s.rs.getD i.a.toNat 0) (s.rs.getD i.b.toNat 0)), s.pc⟩)
  have hS8 : ∀ x, (sL s).set 8 (.int .u64 x) = sL ⟨s.rs, x⟩ := fun x => sL_setpc h x
  have hE : ((sL s).set 8 (.int .u64 (IntKind.u64.wrap (s.pc + 8)))).set i.d.toNat (.int .u64 (rk 4 (IntKind.u64.wrap i.imm) ld (s.rs.getD i.a.toNat 0) (s.rs.getD i.b.toNat 0))) = sL (St.go ⟨s.rs.set i.d.toNat (rk 4 (IntKind.u64.wrap i.imm) ld (s.rs.getD i.a.toNat 0) (s.rs.getD i.b.toNat 0)), s.pc⟩) := by
    have hgo : swf s.go := h.go
    rw [hS8]
    exact sL_setreg hgo i.d.toNat (by have := (may_bd hm); omega) _
  clear hD hW2 hS8
  obtain ⟨CR, hCR⟩ : ∃ L, L = sL (St.go ⟨s.rs.set i.d.toNat (rk 4 (IntKind.u64.wrap i.imm) ld (s.rs.getD i.a.toNat 0) (s.rs.getD i.b.toNat 0)), s.pc⟩) := ⟨_, rfl⟩
  rw [← hCR] at hE HCN0 HC10
  have HCE : Hid _ := hCR
  clear hCR
  have hM := fun W => rmay_any i W
  rw [hm] at hM
  obtain ⟨m1, m2, m3, m4, m5, m6, m7, m8, _, _⟩ := may_bd hm
  obtain ⟨dn, hdn⟩ : ∃ n : Nat, i.d = n := ⟨i.d.toNat, by omega⟩
  obtain ⟨an, han⟩ : ∃ n : Nat, i.a = n := ⟨i.a.toNat, by omega⟩
  obtain ⟨bn, hbn⟩ : ∃ n : Nat, i.b = n := ⟨i.b.toNat, by omega⟩
  have HRA : Hid _ := sL_reg h an (by omega)
  have HRB : Hid _ := sL_reg h bn (by omega)
  have HRD : Hid _ := sL_reg h dn (by omega)
  have HPC : Hid _ := sL_pc h
  have hai : ((an : Int) < 8) := by omega
  have hbi : ((bn : Int) < 8) := by omega
  have hdi : ((dn : Int) < 8) := by omega
  have HDL : Hid (dn < 9) := by show dn < 9; omega
  have ed : i.d.toNat = dn := by omega
  have ea : i.a.toNat = an := by omega
  have eb : i.b.toNat = bn := by omega
  try rw [ea] at hE
  try rw [eb] at hE
  try rw [ed] at hE
  clear ed ea eb
  have hzv := fun W => zero9 W
  have hz2 := fun W => zero2 W
  obtain ⟨ZL, hZL⟩ : ∃ L, L = Z9 := ⟨_, rfl⟩
  have HZN : Hid (ZL.length = 9) := by rw [hZL]; rfl
  rw [← hZL] at hzv
  obtain ⟨EZ, hEZ⟩ : ∃ L, L = eL 0 0 := ⟨_, rfl⟩
  have HEN : Hid (EZ.length = 2) := by rw [hEZ]; rfl
  rw [← hEZ] at hz2
  have HEZ : Hid _ := hEZ
  have HE1 : Hid (EZ.toArray.all (·.oneCell') = true) := by show _ = _; rw [hEZ]; exact eL_one 0 0
  have HBL : Hid (∀ W, (Instr.build 48 #[]).run Tryd.prog W = .ok (.agg EZ.toArray) W) := fun W => by rw [hEZ]; exact bld48z W
  clear hZL hEZ
  have HLEN : Hid _ := sL_len h
  have HONE : Hid _ := sL_one s
  generalize hCL : sL s = CL at *
  have HIN : Hid _ := ins_info i
  have hiV : iV i = .agg (iL i).toArray := rfl
  rw [hiV] at hM ⊢
  have HI0 : Hid ((iL i)[0]? = some (.int .i64 i.op)) := rfl
  have HI1 : Hid ((iL i)[1]? = some (.int .i64 i.d)) := rfl
  have HI2 : Hid ((iL i)[2]? = some (.int .i64 i.a)) := rfl
  have HI3 : Hid ((iL i)[3]? = some (.int .i64 i.b)) := rfl
  have HI4 : Hid ((iL i)[4]? = some (.int .i64 i.imm)) := rfl
  generalize iL i = IL at *
  have HX : Hid _ := SQ.new w CL IL ZL EZ
  rw [ho] at HI0
  rw [hdn] at HI1
  rw [han] at HI2
  rw [hbn] at HI3
  unfold U at HRA HRB HRD HPC
  generalize s.rs.getD an 0 = xa at *
  generalize s.rs.getD bn 0 = xb at *
  generalize s.rs.getD dn 0 = xd at *
  generalize s.pc = pc at *
  generalize i.imm = imm at *
  obtain ⟨P8, hP8⟩ : ∃ P8, IntKind.u64.wrap (pc + 8) = P8 := ⟨_, rfl⟩
  rw [hP8] at hE
  clear h hm m1 m2 m3 m4 m5 m6 m7 m8 hdn han hbn ho
  go_enter Tryd.func21, Tryd.ntmps21
  go_wp2_with (first
    | (refine wpList_load_mid rfl 24 _ rfl (w.heap.size + 1) 0 rfl IL _ (rangeAt_row HX.out.i) Tryd.underlying24 rfl HIN.out ?_))
  refine Calls.mono (hM _) ?_
  rintro e Y ⟨rfl, hbY⟩
  have HY : Hid _ := HX.out.below hbY
  clear hbY HX hM
  have hc0 : Y.cell? ⟨w.heap.size + 1, 0, none⟩ = some (.int .i64 4) := (fields5 _ _ _ _ _ HY.out.i 0).trans (by rw [List.getElem?_toArray]; exact HI0.out)
  have hc2 : Y.cell? ⟨w.heap.size + 1, 2, none⟩ = some (.int .i64 (an : Int)) := (fields5 _ _ _ _ _ HY.out.i 2).trans (by rw [List.getElem?_toArray]; exact HI2.out)
  have hc3 : Y.cell? ⟨w.heap.size + 1, 3, none⟩ = some (.int .i64 (bn : Int)) := (fields5 _ _ _ _ _ HY.out.i 3).trans (by rw [List.getElem?_toArray]; exact HI3.out)
  have hcr : Y.cell? ⟨w.heap.size, an, none⟩ = some (.int .u64 xa) := (fields5 _ _ _ _ _ HY.out.c an).trans (by rw [List.getElem?_toArray]; exact HRA.out)
  have hcs : Y.cell? ⟨w.heap.size, bn, none⟩ = some (.int .u64 xb) := (fields5 _ _ _ _ _ HY.out.c bn).trans (by rw [List.getElem?_toArray]; exact HRB.out)
  go_wp2
  go_quiet (fail)
  have HZ : Hid (SQ w CL IL ZL EZ (Y.drewN nq)) := HY.out.below ⟨rfl, rfl, rfl, Nat.le_refl _, fun _ _ => rfl⟩
  clear hc0 hc2 hc3 hcr hcs HY
  generalize Y.drewN nq = Z at *
  have HZA : Hid ((Z.alloc (.cells ZL.toArray 45 (0, 0))).heap[Z.heap.size]? = some (.cells ZL.toArray 45 (0, 0))) := heap_alloc_new _ _
  have HPE : Hid _ := hE
  have HCN : Hid _ := HCN0
  have HC1 : Hid _ := HC10
  clear hE HCN0 HC10
  go_wp2_with (first
    | (refine wpList_load_mid rfl 45 (.tmp 3) rfl w.heap.size 0 rfl CL _ (rangeAt_row HZ.out.c) Tryd.underlying45 rfl (info9 CL HLEN.out) ?_)
    | (refine wpList_store_rowL rfl 45 (.tmp 10) (.tmp 31) rfl Z.heap.size CL.toArray rfl rfl 45 ZL.toArray HZA.out (info9a CL HLEN.out) (by simp [HZN.out, HLEN.out]) HONE.out ?_; intro T hT; (have HO : Hid (SO w CL IL ZL EZ Z.heap.size CL T) := by rw [hT]; exact SO.new HZ.out ZL); (have cpc := HO.out.cc 8 _ HPC.out); clear hT HZA)
    | (refine wpList_store_cL rfl (.tmp 35) (.tmp 34) rfl Z.heap.size 8 P8 rfl rfl CL _ HO.out.o (by rw [HLEN.out]; decide) ?_; intro T1 hT1; (have HO1 : Hid (SO w CL IL ZL EZ Z.heap.size (CL.set 8 (.int .u64 P8)) T1) := by rw [hT1]; exact HO.out.set 8 _); (have c0 := HO1.out.ci 0 _ HI0.out); (have c1 := HO1.out.ci 1 _ HI1.out); (have c4 := HO1.out.ci 4 _ HI4.out); (have c8 := HO1.out.cc 8 _ HPC.out); skip; clear hT1 HO cpc)
    | (refine wpList_store_cL rfl (.tmp 62) (.tmp 60) rfl Z.heap.size dn (IntKind.u64.wrap (xa + xb)) rfl rfl (CL.set 8 (.int .u64 P8)) _ HO1.out.o (by rw [List.length_set, HLEN.out]; exact HDL.out) ?_; intro T2 hT2; (have HOF : Hid (SO w CL IL ZL EZ Z.heap.size CR T2) := by rw [hT2, ← HPE.out]; exact HO1.out.set dn _); clear hT2 HO1 c0 c1 c4 c8)
    | (refine wpList_load_mid rfl 45 (.tmp 10) rfl Z.heap.size 0 rfl CR _ (rangeAt_row HOF.out.o) Tryd.underlying45 rfl (info9 CR HCN.out) ?_)
    | (refine wpList_build rfl 48 #[] rfl #[] (.agg EZ.toArray) (by simp [Act.eval]) (HBL.out _) ?_)
    | (refine wpList_store_row rfl 45 (.tmp 6) (.tmp 158) rfl (w.heap.size + 1 + 1) CR.toArray rfl rfl 45 ZL.toArray HOF.out.q.r (info9a CR HCN.out) (by simp [HZN.out, HCN.out]) HC1.out ?_)
    | (refine wpList_store_row rfl 48 (.tmp 7) (.tmp 159) rfl (w.heap.size + 1 + 1 + 1) EZ.toArray rfl rfl 48 EZ.toArray (HOF.out.rowr CR).q.e (info2a EZ HEN.out) rfl HE1.out ?_))
  refine bodyPost_ret (v := .tuple #[.agg CR.toArray, .agg EZ.toArray]) (results23 Tryd.results21 _ _ _ _ ((HOF.out.rowr CR).rowe EZ).q.r ((HOF.out.rowr CR).rowe EZ).q.e HCN.out HEN.out rfl rfl) rfl ⟨by rw [HCE.out, HEZ.out], ((HOF.out.rowr CR).rowe EZ).q.bel⟩
end Go.Proofs.YtkpjfhphohanlaaDoor.JC
