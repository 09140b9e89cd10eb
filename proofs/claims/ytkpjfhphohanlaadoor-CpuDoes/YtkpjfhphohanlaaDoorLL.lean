/- cpu: the reference's Do, of any. -/
import Derived.Test.YtkpjfhphohanlaaDoorLH
import Derived.Test.YtkpjfhphohanlaaDoorLI
import Derived.Test.YtkpjfhphohanlaaDoorLJ
import Derived.Test.YtkpjfhphohanlaaDoorLK
set_option linter.unusedVariables false
set_option linter.unusedSimpArgs false
namespace Go.Proofs.YtkpjfhphohanlaaDoor.JC
open Go.RowKit
open Go.Proofs.YtkpjfhphohanlaaDoor.EC (row_lt heap_at rangeAt_below rangeAt_row ret_bool ret_i64 beq_int)

set_option maxHeartbeats 1000000 in
set_option maxRecDepth 100000 in
theorem rdo_15 (s : St) (h : swf s) (i : Ins) (ld : Int) (hl : u64 ld) (hm : may i = true) (ho : i.op = 15) (w : World) : Calls Tryd.prog 21 #[.agg (sL s).toArray, iV i, .int .u64 ld] w fun e w' => DoEnd (doS s i ld).1 (doS s i ld).2.1 (doS s i ld).2.2 w e w' := by
  have hD : doS s i ld = (s.go, 2, i.d) := by unfold doS; rw [ho]; simp
  have hW2 : swf (doS s i ld).1 := doS_wf h i ld hl
  rw [hD] at hW2 ⊢
  simp only at hW2 ⊢
  have HCN0 : (sL s.go).length = 9 := sL_len hW2
  have HC10 := sL_one s.go
  have hS8 : ∀ x, (sL s).set 8 (.int .u64 x) = sL ⟨s.rs, x⟩ := fun x => sL_setpc h x
  have hE : (sL s).set 8 (.int .u64 (IntKind.u64.wrap (s.pc + 8))) = sL s.go := hS8 _
  clear hD hW2 hS8
  obtain ⟨CR, hCR⟩ : ∃ L, L = sL s.go := ⟨_, rfl⟩
  rw [← hCR] at hE HCN0 HC10
  have HCE : Hid _ := hCR
  clear hCR
  have hM := fun W => rmay_any i W
  rw [hm] at hM
  obtain ⟨m1, m2, m3, m4, m5, m6, m7, m8, _, _⟩ := may_bd hm
  obtain ⟨dn, hdn⟩ : ∃ n : Nat, i.d = n := ⟨i.d.toNat, by omega⟩
  obtain ⟨an, han⟩ : ∃ n : Nat, i.a = n := ⟨i.a.toNat, by omega⟩
  obtain ⟨bn, hbn⟩ : ∃ n : Nat, i.b = n := ⟨i.b.toNat, by omega⟩
  have HRA : Hid _ := sL_reg h an (by omega)
  have HRB : Hid _ := sL_reg h bn (by omega)
  have HRD : Hid _ := sL_reg h dn (by omega)
  have HPC : Hid _ := sL_pc h
  have hai : ((an : Int) < 8) := by omega
  have hbi : ((bn : Int) < 8) := by omega
  have hdi : ((dn : Int) < 8) := by omega
  have HDL : Hid (dn < 9) := by show dn < 9; omega
  have ed : i.d.toNat = dn := by omega
  have ea : i.a.toNat = an := by omega
  have eb : i.b.toNat = bn := by omega
  try rw [ea] at hE
  try rw [eb] at hE
  try rw [ed] at hE
  clear ed ea eb
  have hzv := fun W => zero9 W
  have hz2 := fun W => zero2 W
  obtain ⟨ZL, hZL⟩ : ∃ L, L = Z9 := ⟨_, rfl⟩
  have HZN : Hid (ZL.length = 9) := by rw [hZL]; rfl
  rw [← hZL] at hzv
  obtain ⟨EZ, hEZ⟩ : ∃ L, L = eL 0 0 := ⟨_, rfl⟩
  have HEN : Hid (EZ.length = 2) := by rw [hEZ]; rfl
  rw [← hEZ] at hz2
  have HEZ : Hid _ := hEZ
  have HE1 : Hid (EZ.toArray.all (·.oneCell') = true) := by show _ = _; rw [hEZ]; exact eL_one 0 0
  have HBL : Hid (∀ W, (Instr.build 48 #[]).run Tryd.prog W = .ok (.agg EZ.toArray) W) := fun W => by rw [hEZ]; exact bld48z W
  clear hZL hEZ
  have HLEN : Hid _ := sL_len h
  have HONE : Hid _ := sL_one s
  generalize hCL : sL s = CL at *
  have HIN : Hid _ := ins_info i
  have hiV : iV i = .agg (iL i).toArray := rfl
  rw [hiV] at hM ⊢
  have HI0 : Hid ((iL i)[0]? = some (.int .i64 i.op)) := rfl
  have HI1 : Hid ((iL i)[1]? = some (.int .i64 i.d)) := rfl
  have HI2 : Hid ((iL i)[2]? = some (.int .i64 i.a)) := rfl
  have HI3 : Hid ((iL i)[3]? = some (.int .i64 i.b)) := rfl
  have HI4 : Hid ((iL i)[4]? = some (.int .i64 i.imm)) := rfl
  generalize iL i = IL at *
  have HX : Hid _ := SQ.new w CL IL ZL EZ
  rw [ho] at HI0
  rw [hdn] at HI1
  rw [han] at HI2
  rw [hbn] at HI3
  unfold U at HRA HRB HRD HPC
  generalize s.rs.getD an 0 = xa at *
  generalize s.rs.getD bn 0 = xb at *
  generalize s.rs.getD dn 0 = xd at *
  generalize s.pc = pc at *
  generalize i.imm = imm at *
  obtain ⟨P8, hP8⟩ : ∃ P8, IntKind.u64.wrap (pc + 8) = P8 := ⟨_, rfl⟩
  rw [hP8] at hE
  have HDE : Hid _ := hdn
  clear h hm m1 m2 m3 m4 m5 m6 m7 m8 hdn han hbn ho
  go_enter Tryd.func21, Tryd.ntmps21
  go_wp2_with (first
    | (refine wpList_load_mid rfl 24 _ rfl (w.heap.size + 1) 0 rfl IL _ (rangeAt_row HX.out.i) Tryd.underlying24 rfl HIN.out ?_))
  refine Calls.mono (hM _) ?_
  rintro e Y ⟨rfl, hbY⟩
  have HY : Hid _ := HX.out.below hbY
  clear hbY HX hM
  have hc0 : Y.cell? ⟨w.heap.size + 1, 0, none⟩ = some (.int .i64 15) := (fields5 _ _ _ _ _ HY.out.i 0).trans (by rw [List.getElem?_toArray]; exact HI0.out)
  have hc2 : Y.cell? ⟨w.heap.size + 1, 2, none⟩ = some (.int .i64 (an : Int)) := (fields5 _ _ _ _ _ HY.out.i 2).trans (by rw [List.getElem?_toArray]; exact HI2.out)
  have hc3 : Y.cell? ⟨w.heap.size + 1, 3, none⟩ = some (.int .i64 (bn : Int)) := (fields5 _ _ _ _ _ HY.out.i 3).trans (by rw [List.getElem?_toArray]; exact HI3.out)
  have hcr : Y.cell? ⟨w.heap.size, an, none⟩ = some (.int .u64 xa) := (fields5 _ _ _ _ _ HY.out.c an).trans (by rw [List.getElem?_toArray]; exact HRA.out)
  have hcs : Y.cell? ⟨w.heap.size, bn, none⟩ = some (.int .u64 xb) := (fields5 _ _ _ _ _ HY.out.c bn).trans (by rw [List.getElem?_toArray]; exact HRB.out)
  go_wp2
  go_quiet (fail)
  have HZ : Hid (SQ w CL IL ZL EZ (Y.drewN nq)) := HY.out.below ⟨rfl, rfl, rfl, Nat.le_refl _, fun _ _ => rfl⟩
  clear hc0 hc2 hc3 hcr hcs HY
  generalize Y.drewN nq = Z at *
  have HZA : Hid ((Z.alloc (.cells ZL.toArray 45 (0, 0))).heap[Z.heap.size]? = some (.cells ZL.toArray 45 (0, 0))) := heap_alloc_new _ _
  have HPE : Hid _ := hE
  have HCN : Hid _ := HCN0
  have HC1 : Hid _ := HC10
  clear hE HCN0 HC10
  go_wp2_with (first
    | (refine wpList_load_mid rfl 45 (.tmp 3) rfl w.heap.size 0 rfl CL _ (rangeAt_row HZ.out.c) Tryd.underlying45 rfl (info9 CL HLEN.out) ?_)
    | (refine wpList_store_rowL rfl 45 (.tmp 10) (.tmp 31) rfl Z.heap.size CL.toArray rfl rfl 45 ZL.toArray HZA.out (info9a CL HLEN.out) (by simp [HZN.out, HLEN.out]) HONE.out ?_; intro T hT; (have HO : Hid (SO w CL IL ZL EZ Z.heap.size CL T) := by rw [hT]; exact SO.new HZ.out ZL); (have cpc := HO.out.cc 8 _ HPC.out); clear hT HZA)
    | (refine wpList_store_cL rfl (.tmp 35) (.tmp 34) rfl Z.heap.size 8 P8 rfl rfl CL _ HO.out.o (by rw [HLEN.out]; decide) ?_; intro T1 hT1; (have HO1 : Hid (SO w CL IL ZL EZ Z.heap.size (CL.set 8 (.int .u64 P8)) T1) := by rw [hT1]; exact HO.out.set 8 _); (have c0 := HO1.out.ci 0 _ HI0.out); (have HOF : Hid (SO w CL IL ZL EZ Z.heap.size CR T1) := by rw [← HPE.out]; exact HO1.out); clear hT1 HO cpc))
  have HS9 : Hid (SOE w CL IL Z.heap.size CR T1.drew) := ⟨_, _, HOF.out.below (Below.drew (Below.refl _ _))⟩
  have HW1 : Hid (SO w CL IL ZL EZ Z.heap.size CR T1.drew) := HOF.out.below (Below.drew (Below.refl _ _))
  clear HOF HO1 c0
  obtain ⟨EV, hEV⟩ : ∃ L, L = eL 2 ((dn : Int)) := ⟨_, rfl⟩
  have HEVN : Hid (EV.length = 2) := by rw [hEV]; rfl
  have HEV1 : Hid (EV.toArray.all (·.oneCell') = true) := by show _ = _; rw [hEV]; exact eL_one _ _
  have HEVE : Hid _ := hEV
  clear hEV
  refine wp_region_held_drew (S := SOE w CL IL Z.heap.size CR) (by kernel_rfl) HS9.out (fun hHeld => ?_)
  generalize T1.drew = W at *
  refine wpAnyH_take (i := 0) (oi := { dst := some 148, op := Go.Op.load 45 (Go.Operand.tmp 10), type := 45, pos := _, after := #[], guard := none }) rfl (by kernel_rfl) (by kernel_rfl) (by kernel_rfl) (fun _ _ _ h => h) (yieldsIf_load_mid (by rfl) 45 (.tmp 10) rfl (Z.heap.size) (0) rfl (CR) _ (fun _ h => h.ro) Tryd.underlying45 rfl (info9 CR HCN.out)) hHeld ?_
  try simp only [Act.put, List.setIfInBounds_toArray, List.set_cons_zero, List.set_cons_succ]
  refine wpAnyH_take (i := 1) (oi := { dst := some 149, op := Go.Op.fieldAddr 24 (Go.Operand.tmp 4) 1, type := 0, pos := _, after := #[{ on := 4, ground := Go.Ground.gcOnly Go.Departure.lateStores }], guard := none }) (v := .pointer (some ⟨w.heap.size + 1, 1, none⟩)) rfl (by kernel_rfl) (by kernel_rfl) (by kernel_rfl) (fun _ _ _ h => h) (Or.inl ⟨by rfl, fun w' hw' => ?_⟩) hHeld ?_
  · first | (go_simp; done) | (go_simp; rfl)
  try simp only [Act.put, List.setIfInBounds_toArray, List.set_cons_zero, List.set_cons_succ]
  refine wpAnyH_take (i := 2) (oi := { dst := some 150, op := Go.Op.load 3 (Go.Operand.tmp 149), type := 3, pos := _, after := #[{ on := 1, ground := Go.Ground.data }, { on := 4, ground := Go.Ground.gcOnly Go.Departure.lateStores }], guard := none }) (v := .int .i64 ((dn : Int))) rfl (by kernel_rfl) (by kernel_rfl) (by kernel_rfl) (fun _ _ _ h => h) (Or.inl ⟨by rfl, fun w' hw' => ?_⟩) hHeld ?_
  · have hcc : w'.cell? ⟨w.heap.size + 1, 1, none⟩ = some (.int .i64 ((dn : Int))) := hw'.ci 1 _ HI1.out; first | (go_simp; done) | (go_simp; rfl)
  try simp only [Act.put, List.setIfInBounds_toArray, List.set_cons_zero, List.set_cons_succ]
  refine wpAnyH_take (i := 3) (oi := { dst := some 151, op := Go.Op.build 48 #[(0, Go.Operand.const (Go.Value.int Go.IntKind.i64 2)), (1, Go.Operand.tmp 150)], type := 48, pos := _, after := #[{ on := 2, ground := Go.Ground.data }, { on := 4, ground := Go.Ground.gcOnly Go.Departure.lateStores }], guard := none }) (v := .agg EV.toArray) rfl (by kernel_rfl) (by kernel_rfl) (by kernel_rfl) (fun _ _ _ h => h) (Or.inl ⟨by rfl, fun w' hw' => ?_⟩) hHeld ?_
  · rw [HEVE.out]; exact wp_bld48 rfl rfl rfl
  try simp only [Act.put, List.setIfInBounds_toArray, List.set_cons_zero, List.set_cons_succ]
  refine wpAnyH_ready (rs := [4]) (by kernel_rfl) (by simp) ?_
  refine AllReadyH.cons (o := { dst := none, op := Go.Op.store 45 (Go.Operand.tmp 6) (Go.Operand.tmp 148), type := 0, pos := _, after := #[{ on := 0, ground := Go.Ground.data }, { on := 0, ground := Go.Ground.phase }, { on := 1, ground := Go.Ground.textOnly Go.Departure.lateStores }, { on := 2, ground := Go.Ground.textOnly Go.Departure.lateStores }, { on := 3, ground := Go.Ground.textOnly Go.Departure.lateStores }], guard := none }) rfl (fun K hK => ?_) AllReadyH.nil
  rw [if_pos (by rfl)]
  refine wp_store_row 45 _ _ rfl (w.heap.size + 1 + 1) CR.toArray rfl rfl 45 ZL.toArray HW1.out.q.r (info9a CR HCN.out) (by simp [HZN.out, HCN.out]) HC1.out ?_
  have hH4 : SOE w CL IL Z.heap.size CR (W.setRow (w.heap.size + 1 + 1) CR.toArray) := ⟨_, _, HW1.out.rowr CR⟩
  refine hK.out _ _ hH4 (fun _ => ?_)
  clear hK K
  try simp only [Act.put, List.setIfInBounds_toArray, List.set_cons_zero, List.set_cons_succ]
  refine wpAnyH_ready (rs := [5]) (by kernel_rfl) (by simp) ?_
  refine AllReadyH.cons (o := { dst := none, op := Go.Op.store 48 (Go.Operand.tmp 7) (Go.Operand.tmp 151), type := 0, pos := _, after := #[{ on := 3, ground := Go.Ground.data }, { on := 4, ground := Go.Ground.chain }, { on := 0, ground := Go.Ground.phase }, { on := 1, ground := Go.Ground.phase }, { on := 2, ground := Go.Ground.phase }, { on := 3, ground := Go.Ground.phase }, { on := 4, ground := Go.Ground.phase }], guard := none }) rfl (fun K hK => ?_) AllReadyH.nil
  rw [if_pos (by rfl)]
  refine wp_store_row 48 _ _ rfl (w.heap.size + 1 + 1 + 1) EV.toArray rfl rfl 48 EZ.toArray (HW1.out.rowr CR).q.e (info2a EV HEVN.out) (by simp [HEN.out, HEVN.out]) HEV1.out ?_
  have hH5 : SOE w CL IL Z.heap.size CR ((W.setRow (w.heap.size + 1 + 1) CR.toArray).setRow (w.heap.size + 1 + 1 + 1) EV.toArray) := ⟨_, _, (HW1.out.rowr CR).rowe EV⟩
  refine hK.out _ _ hH5 (fun _ => ?_)
  clear hK K
  try simp only [Act.put, List.setIfInBounds_toArray, List.set_cons_zero, List.set_cons_succ]
  refine wpAnyH_done (by kernel_rfl) ?_ _
  clear hHeld hH4 hH5
  go_wp2
  refine bodyPost_ret (v := .tuple #[.agg CR.toArray, .agg EV.toArray]) (results23 Tryd.results21 _ _ _ _ ((HW1.out.rowr CR).rowe EV).q.r ((HW1.out.rowr CR).rowe EV).q.e HCN.out HEVN.out rfl rfl) rfl ⟨by rw [HCE.out, HEVE.out, HDE.out], ((HW1.out.rowr CR).rowe EV).q.bel⟩
set_option maxHeartbeats 1000000 in
set_option maxRecDepth 100000 in
theorem rdo_16 (s : St) (h : swf s) (i : Ins) (ld : Int) (hl : u64 ld) (hm : may i = true) (ho : i.op = 16) (w : World) : Calls Tryd.prog 21 #[.agg (sL s).toArray, iV i, .int .u64 ld] w fun e w' => DoEnd (doS s i ld).1 (doS s i ld).2.1 (doS s i ld).2.2 w e w' := by
  have hD : doS s i ld = (s.go, 1, i.imm) := by unfold doS; rw [ho]; simp
  have hW2 : swf (doS s i ld).1 := doS_wf h i ld hl
  rw [hD] at hW2 ⊢
  simp only at hW2 ⊢
  have HCN0 : (sL s.go).length = 9 := sL_len hW2
  have HC10 := sL_one s.go
  have hS8 : ∀ x, (sL s).set 8 (.int .u64 x) = sL ⟨s.rs, x⟩ := fun x => sL_setpc h x
  have hE : (sL s).set 8 (.int .u64 (IntKind.u64.wrap (s.pc + 8))) = sL s.go := hS8 _
  clear hD hW2 hS8
  obtain ⟨CR, hCR⟩ : ∃ L, L = sL s.go := ⟨_, rfl⟩
  rw [← hCR] at hE HCN0 HC10
  have HCE : Hid _ := hCR
  clear hCR
  have hM := fun W => rmay_any i W
  rw [hm] at hM
  obtain ⟨m1, m2, m3, m4, m5, m6, m7, m8, _, _⟩ := may_bd hm
  obtain ⟨dn, hdn⟩ : ∃ n : Nat, i.d = n := ⟨i.d.toNat, by omega⟩
  obtain ⟨an, han⟩ : ∃ n : Nat, i.a = n := ⟨i.a.toNat, by omega⟩
  obtain ⟨bn, hbn⟩ : ∃ n : Nat, i.b = n := ⟨i.b.toNat, by omega⟩
  have HRA : Hid _ := sL_reg h an (by omega)
  have HRB : Hid _ := sL_reg h bn (by omega)
  have HRD : Hid _ := sL_reg h dn (by omega)
  have HPC : Hid _ := sL_pc h
  have hai : ((an : Int) < 8) := by omega
  have hbi : ((bn : Int) < 8) := by omega
  have hdi : ((dn : Int) < 8) := by omega
  have HDL : Hid (dn < 9) := by show dn < 9; omega
  have ed : i.d.toNat = dn := by omega
  have ea : i.a.toNat = an := by omega
  have eb : i.b.toNat = bn := by omega
  try rw [ea] at hE
  try rw [eb] at hE
  try rw [ed] at hE
  clear ed ea eb
  have hzv := fun W => zero9 W
  have hz2 := fun W => zero2 W
  obtain ⟨ZL, hZL⟩ : ∃ L, L = Z9 := ⟨_, rfl⟩
  have HZN : Hid (ZL.length = 9) := by rw [hZL]; rfl
  rw [← hZL] at hzv
  obtain ⟨EZ, hEZ⟩ : ∃ L, L = eL 0 0 := ⟨_, rfl⟩
  have HEN : Hid (EZ.length = 2) := by rw [hEZ]; rfl
  rw [← hEZ] at hz2
  have HEZ : Hid _ := hEZ
  have HE1 : Hid (EZ.toArray.all (·.oneCell') = true) := by show _ = _; rw [hEZ]; exact eL_one 0 0
  have HBL : Hid (∀ W, (Instr.build 48 #[]).run Tryd.prog W = .ok (.agg EZ.toArray) W) := fun W => by rw [hEZ]; exact bld48z W
  clear hZL hEZ
  have HLEN : Hid _ := sL_len h
  have HONE : Hid _ := sL_one s
  generalize hCL : sL s = CL at *
  have HIN : Hid _ := ins_info i
  have hiV : iV i = .agg (iL i).toArray := rfl
  rw [hiV] at hM ⊢
  have HI0 : Hid ((iL i)[0]? = some (.int .i64 i.op)) := rfl
  have HI1 : Hid ((iL i)[1]? = some (.int .i64 i.d)) := rfl
  have HI2 : Hid ((iL i)[2]? = some (.int .i64 i.a)) := rfl
  have HI3 : Hid ((iL i)[3]? = some (.int .i64 i.b)) := rfl
  have HI4 : Hid ((iL i)[4]? = some (.int .i64 i.imm)) := rfl
  generalize iL i = IL at *
  have HX : Hid _ := SQ.new w CL IL ZL EZ
  rw [ho] at HI0
  rw [hdn] at HI1
  rw [han] at HI2
  rw [hbn] at HI3
  unfold U at HRA HRB HRD HPC
  generalize s.rs.getD an 0 = xa at *
  generalize s.rs.getD bn 0 = xb at *
  generalize s.rs.getD dn 0 = xd at *
  generalize s.pc = pc at *
  generalize i.imm = imm at *
  obtain ⟨P8, hP8⟩ : ∃ P8, IntKind.u64.wrap (pc + 8) = P8 := ⟨_, rfl⟩
  rw [hP8] at hE
  have HDE : Hid _ := hdn
  clear h hm m1 m2 m3 m4 m5 m6 m7 m8 hdn han hbn ho
  go_enter Tryd.func21, Tryd.ntmps21
  go_wp2_with (first
    | (refine wpList_load_mid rfl 24 _ rfl (w.heap.size + 1) 0 rfl IL _ (rangeAt_row HX.out.i) Tryd.underlying24 rfl HIN.out ?_))
  refine Calls.mono (hM _) ?_
  rintro e Y ⟨rfl, hbY⟩
  have HY : Hid _ := HX.out.below hbY
  clear hbY HX hM
  have hc0 : Y.cell? ⟨w.heap.size + 1, 0, none⟩ = some (.int .i64 16) := (fields5 _ _ _ _ _ HY.out.i 0).trans (by rw [List.getElem?_toArray]; exact HI0.out)
  have hc2 : Y.cell? ⟨w.heap.size + 1, 2, none⟩ = some (.int .i64 (an : Int)) := (fields5 _ _ _ _ _ HY.out.i 2).trans (by rw [List.getElem?_toArray]; exact HI2.out)
  have hc3 : Y.cell? ⟨w.heap.size + 1, 3, none⟩ = some (.int .i64 (bn : Int)) := (fields5 _ _ _ _ _ HY.out.i 3).trans (by rw [List.getElem?_toArray]; exact HI3.out)
  have hcr : Y.cell? ⟨w.heap.size, an, none⟩ = some (.int .u64 xa) := (fields5 _ _ _ _ _ HY.out.c an).trans (by rw [List.getElem?_toArray]; exact HRA.out)
  have hcs : Y.cell? ⟨w.heap.size, bn, none⟩ = some (.int .u64 xb) := (fields5 _ _ _ _ _ HY.out.c bn).trans (by rw [List.getElem?_toArray]; exact HRB.out)
  go_wp2
  go_quiet (fail)
  have HZ : Hid (SQ w CL IL ZL EZ (Y.drewN nq)) := HY.out.below ⟨rfl, rfl, rfl, Nat.le_refl _, fun _ _ => rfl⟩
  clear hc0 hc2 hc3 hcr hcs HY
  generalize Y.drewN nq = Z at *
  have HZA : Hid ((Z.alloc (.cells ZL.toArray 45 (0, 0))).heap[Z.heap.size]? = some (.cells ZL.toArray 45 (0, 0))) := heap_alloc_new _ _
  have HPE : Hid _ := hE
  have HCN : Hid _ := HCN0
  have HC1 : Hid _ := HC10
  clear hE HCN0 HC10
  go_wp2_with (first
    | (refine wpList_load_mid rfl 45 (.tmp 3) rfl w.heap.size 0 rfl CL _ (rangeAt_row HZ.out.c) Tryd.underlying45 rfl (info9 CL HLEN.out) ?_)
    | (refine wpList_store_rowL rfl 45 (.tmp 10) (.tmp 31) rfl Z.heap.size CL.toArray rfl rfl 45 ZL.toArray HZA.out (info9a CL HLEN.out) (by simp [HZN.out, HLEN.out]) HONE.out ?_; intro T hT; (have HO : Hid (SO w CL IL ZL EZ Z.heap.size CL T) := by rw [hT]; exact SO.new HZ.out ZL); (have cpc := HO.out.cc 8 _ HPC.out); clear hT HZA)
    | (refine wpList_store_cL rfl (.tmp 35) (.tmp 34) rfl Z.heap.size 8 P8 rfl rfl CL _ HO.out.o (by rw [HLEN.out]; decide) ?_; intro T1 hT1; (have HO1 : Hid (SO w CL IL ZL EZ Z.heap.size (CL.set 8 (.int .u64 P8)) T1) := by rw [hT1]; exact HO.out.set 8 _); (have c0 := HO1.out.ci 0 _ HI0.out); (have HOF : Hid (SO w CL IL ZL EZ Z.heap.size CR T1) := by rw [← HPE.out]; exact HO1.out); clear hT1 HO cpc))
  have HS9 : Hid (SOE w CL IL Z.heap.size CR T1.drew) := ⟨_, _, HOF.out.below (Below.drew (Below.refl _ _))⟩
  have HW1 : Hid (SO w CL IL ZL EZ Z.heap.size CR T1.drew) := HOF.out.below (Below.drew (Below.refl _ _))
  clear HOF HO1 c0
  obtain ⟨EV, hEV⟩ : ∃ L, L = eL 1 (imm) := ⟨_, rfl⟩
  have HEVN : Hid (EV.length = 2) := by rw [hEV]; rfl
  have HEV1 : Hid (EV.toArray.all (·.oneCell') = true) := by show _ = _; rw [hEV]; exact eL_one _ _
  have HEVE : Hid _ := hEV
  clear hEV
  refine wp_region_held_drew (S := SOE w CL IL Z.heap.size CR) (by kernel_rfl) HS9.out (fun hHeld => ?_)
  generalize T1.drew = W at *
  refine wpAnyH_take (i := 0) (oi := { dst := some 154, op := Go.Op.load 45 (Go.Operand.tmp 10), type := 45, pos := _, after := #[], guard := none }) rfl (by kernel_rfl) (by kernel_rfl) (by kernel_rfl) (fun _ _ _ h => h) (yieldsIf_load_mid (by rfl) 45 (.tmp 10) rfl (Z.heap.size) (0) rfl (CR) _ (fun _ h => h.ro) Tryd.underlying45 rfl (info9 CR HCN.out)) hHeld ?_
  try simp only [Act.put, List.setIfInBounds_toArray, List.set_cons_zero, List.set_cons_succ]
  refine wpAnyH_take (i := 1) (oi := { dst := some 155, op := Go.Op.fieldAddr 24 (Go.Operand.tmp 4) 4, type := 0, pos := _, after := #[{ on := 4, ground := Go.Ground.gcOnly Go.Departure.lateStores }], guard := none }) (v := .pointer (some ⟨w.heap.size + 1, 4, none⟩)) rfl (by kernel_rfl) (by kernel_rfl) (by kernel_rfl) (fun _ _ _ h => h) (Or.inl ⟨by rfl, fun w' hw' => ?_⟩) hHeld ?_
  · first | (go_simp; done) | (go_simp; rfl)
  try simp only [Act.put, List.setIfInBounds_toArray, List.set_cons_zero, List.set_cons_succ]
  refine wpAnyH_take (i := 2) (oi := { dst := some 156, op := Go.Op.load 2 (Go.Operand.tmp 155), type := 2, pos := _, after := #[{ on := 1, ground := Go.Ground.data }, { on := 4, ground := Go.Ground.gcOnly Go.Departure.lateStores }], guard := none }) (v := .int .i64 (imm)) rfl (by kernel_rfl) (by kernel_rfl) (by kernel_rfl) (fun _ _ _ h => h) (Or.inl ⟨by rfl, fun w' hw' => ?_⟩) hHeld ?_
  · have hcc : w'.cell? ⟨w.heap.size + 1, 4, none⟩ = some (.int .i64 (imm)) := hw'.ci 4 _ HI4.out; first | (go_simp; done) | (go_simp; rfl)
  try simp only [Act.put, List.setIfInBounds_toArray, List.set_cons_zero, List.set_cons_succ]
  refine wpAnyH_take (i := 3) (oi := { dst := some 157, op := Go.Op.build 48 #[(0, Go.Operand.const (Go.Value.int Go.IntKind.i64 1)), (1, Go.Operand.tmp 156)], type := 48, pos := _, after := #[{ on := 2, ground := Go.Ground.data }, { on := 4, ground := Go.Ground.gcOnly Go.Departure.lateStores }], guard := none }) (v := .agg EV.toArray) rfl (by kernel_rfl) (by kernel_rfl) (by kernel_rfl) (fun _ _ _ h => h) (Or.inl ⟨by rfl, fun w' hw' => ?_⟩) hHeld ?_
  · rw [HEVE.out]; exact wp_bld48 rfl rfl rfl
  try simp only [Act.put, List.setIfInBounds_toArray, List.set_cons_zero, List.set_cons_succ]
  refine wpAnyH_ready (rs := [4]) (by kernel_rfl) (by simp) ?_
  refine AllReadyH.cons (o := { dst := none, op := Go.Op.store 45 (Go.Operand.tmp 6) (Go.Operand.tmp 154), type := 0, pos := _, after := #[{ on := 0, ground := Go.Ground.data }, { on := 0, ground := Go.Ground.phase }, { on := 1, ground := Go.Ground.textOnly Go.Departure.lateStores }, { on := 2, ground := Go.Ground.textOnly Go.Departure.lateStores }, { on := 3, ground := Go.Ground.textOnly Go.Departure.lateStores }], guard := none }) rfl (fun K hK => ?_) AllReadyH.nil
  rw [if_pos (by rfl)]
  refine wp_store_row 45 _ _ rfl (w.heap.size + 1 + 1) CR.toArray rfl rfl 45 ZL.toArray HW1.out.q.r (info9a CR HCN.out) (by simp [HZN.out, HCN.out]) HC1.out ?_
  have hH4 : SOE w CL IL Z.heap.size CR (W.setRow (w.heap.size + 1 + 1) CR.toArray) := ⟨_, _, HW1.out.rowr CR⟩
  refine hK.out _ _ hH4 (fun _ => ?_)
  clear hK K
  try simp only [Act.put, List.setIfInBounds_toArray, List.set_cons_zero, List.set_cons_succ]
  refine wpAnyH_ready (rs := [5]) (by kernel_rfl) (by simp) ?_
  refine AllReadyH.cons (o := { dst := none, op := Go.Op.store 48 (Go.Operand.tmp 7) (Go.Operand.tmp 157), type := 0, pos := _, after := #[{ on := 3, ground := Go.Ground.data }, { on := 4, ground := Go.Ground.chain }, { on := 0, ground := Go.Ground.phase }, { on := 1, ground := Go.Ground.phase }, { on := 2, ground := Go.Ground.phase }, { on := 3, ground := Go.Ground.phase }, { on := 4, ground := Go.Ground.phase }], guard := none }) rfl (fun K hK => ?_) AllReadyH.nil
  rw [if_pos (by rfl)]
  refine wp_store_row 48 _ _ rfl (w.heap.size + 1 + 1 + 1) EV.toArray rfl rfl 48 EZ.toArray (HW1.out.rowr CR).q.e (info2a EV HEVN.out) (by simp [HEN.out, HEVN.out]) HEV1.out ?_
  have hH5 : SOE w CL IL Z.heap.size CR ((W.setRow (w.heap.size + 1 + 1) CR.toArray).setRow (w.heap.size + 1 + 1 + 1) EV.toArray) := ⟨_, _, (HW1.out.rowr CR).rowe EV⟩
  refine hK.out _ _ hH5 (fun _ => ?_)
  clear hK K
  try simp only [Act.put, List.setIfInBounds_toArray, List.set_cons_zero, List.set_cons_succ]
  refine wpAnyH_done (by kernel_rfl) ?_ _
  clear hHeld hH4 hH5
  go_wp2
  refine bodyPost_ret (v := .tuple #[.agg CR.toArray, .agg EV.toArray]) (results23 Tryd.results21 _ _ _ _ ((HW1.out.rowr CR).rowe EV).q.r ((HW1.out.rowr CR).rowe EV).q.e HCN.out HEVN.out rfl rfl) rfl ⟨by rw [HCE.out, HEVE.out], ((HW1.out.rowr CR).rowe EV).q.bel⟩
theorem rdo_any (s : St) (h : swf s) (i : Ins) (ld : Int) (hl : u64 ld) (w : World) : Calls Tryd.prog 21 #[.agg (sL s).toArray, iV i, .int .u64 ld] w fun e w' => DoEnd (doR s i ld).1 (doR s i ld).2.1 (doR s i ld).2.2 w e w' := by
  cases hm : may i
  · have hD : doR s i ld = (s, 3, 0) := by unfold doR; rw [hm]; rfl
    rw [hD]; exact rdo_bad s h i ld hm w
  · have hD : doR s i ld = doS s i ld := by unfold doR; rw [hm]; rfl
    rw [hD]
    rcases isOp_cases (may_parts hm).1 with ho | ho | ho | ho | ho | ho | ho | ho | ho | ho | ho | ho | ho | ho | ho | ho | ho
    · exact rdo_1 s h i ld hl hm ho w
    · exact rdo_2 s h i ld hl hm ho w
    · exact rdo_3 s h i ld hl hm ho w
    · exact rdo_4 s h i ld hl hm ho w
    · exact rdo_5 s h i ld hl hm ho w
    · exact rdo_6 s h i ld hl hm ho w
    · exact rdo_7 s h i ld hl hm ho w
    · exact rdo_8 s h i ld hl hm ho w
    · exact rdo_9 s h i ld hl hm ho w
    · exact rdo_10 s h i ld hl hm ho w
    · exact rdo_11 s h i ld hl hm ho w
    · exact rdo_12 s h i ld hl hm ho w
    · exact rdo_13 s h i ld hl hm ho w
    · exact rdo_14 s h i ld hl hm ho w
    · exact rdo_15 s h i ld hl hm ho w
    · exact rdo_16 s h i ld hl hm ho w
    · have hE : doS s i ld = (s, 3, 0) := by unfold doS; rw [ho]; simp
      rw [hE]; exact rdo_stop s h i ld hm ho w
end Go.Proofs.YtkpjfhphohanlaaDoor.JC
