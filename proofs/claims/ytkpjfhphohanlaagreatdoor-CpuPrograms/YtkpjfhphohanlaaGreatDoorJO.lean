/- cpu: what the closures of deeds do: ask and branch. -/
import Derived.Test.YtkpjfhphohanlaaGreatDoorJN
set_option linter.unusedVariables false
set_option linter.unusedSimpArgs false
namespace Go.Proofs.YtkpjfhphohanlaaGreatDoor.JC
open Go.RowKit
open Go.Proofs.YtkpjfhphohanlaaGreatDoor.EC (row_lt heap_at rangeAt_below rangeAt_row ret_bool ret_i64 beq_int)

/-- Where it branches. -/
def St.br (s : St) (a : Nat) (M : Int) : St := if s.rs.getD a 0 = 0 then s.go else s.jump M
set_option maxHeartbeats 1000000 in
set_option maxRecDepth 100000 in
theorem br_any (s : St) (h : swf s) (E : Env) (an : Nat) (ha : an < 8) (hi2 : E.i.a = (an : Int)) (w : World) (hS : SB E w) : Calls Tryz.prog 63 #[.agg (sL s).toArray, pB E.b2, pB E.b6, pB E.b7] w fun e w' => DoEnd (s.br an (IntKind.u64.wrap E.i.imm)) 0 0 w e w' := by
  have HRA : Hid _ := sL_reg h an ha
  have hs2 := h
  have hzv := fun W => zero9 W
  have hz2 := fun W => zero2 W
  obtain ⟨ZL, hZL⟩ : ∃ L, L = Z9 := ⟨_, rfl⟩
  have HN0 : Hid (∀ L : List Value, SW w L Z9 (eL 0 0) (((w.alloc (.cells L.toArray 50 (0, 0))).alloc (.cells Z9.toArray 50 (0, 0))).alloc (.cells (eL 0 0).toArray 53 (0, 0)))) := fun L => SW.new w L
  have HZN : Hid (ZL.length = 9) := by rw [hZL]; rfl
  rw [← hZL] at hzv HN0
  obtain ⟨EZ, hEZ⟩ : ∃ L, L = eL 0 0 := ⟨_, rfl⟩
  have HEN : Hid (EZ.length = 2) := by rw [hEZ]; rfl
  rw [← hEZ] at hz2 HN0
  have HEZ : Hid _ := hEZ
  have HE1 : Hid (EZ.toArray.all (·.oneCell') = true) := by show _ = _; rw [hEZ]; exact eL_one 0 0
  clear hEZ
  have HPC : Hid _ := sL_pc h
  have HLEN : Hid _ := sL_len h
  have HONE : Hid _ := sL_one s
  have HSP : Hid (∀ x, (sL s).set 8 (U x) = sL ⟨s.rs, x⟩) := fun x => sL_setpc h x
  clear hZL
  generalize hCL : sL s = CL at *
  obtain ⟨CLX, hCLX⟩ : ∃ L, sL s = L := ⟨_, rfl⟩
  have hCC : CLX = CL := by rw [← hCL, hCLX]
  have hI2 : (iL E.i)[2]? = some (.int .i64 (an : Int)) := by rw [← hi2]; rfl
  have HX : Hid _ := HN0.out CL
  rw [← hCC] at HX
  have hSX : SB E _ := hS.keep (Kc.of_below HX.out.bel)
  have hca := (fields5 _ _ _ _ _ hSX.i 2).trans (show _ = some (Value.int .i64 (an : Int)) by rw [List.getElem?_toArray]; exact hI2)
  have hcr := HX.out.cc an (Value.int .u64 (s.rs.getD an 0)) (by rw [hCC]; exact HRA.out)
  have hcg := (fields5 _ _ _ _ _ hSX.go 0).trans (show _ = some (Value.func (.func 47) #[] #[]) by rfl)
  have hcj := (fields5 _ _ _ _ _ hSX.jp 0).trans (show _ = some (Value.func (.func 48) #[] #[.pointer (some ⟨E.b5, 0, none⟩)]) by rfl)
  have hai : ((an : Int) < 8) := by omega
  subst hCC
  have HSX : Hid _ := hSX
  have HBE : Hid (s.br an (IntKind.u64.wrap E.i.imm) = if s.rs.getD an 0 = 0 then s.go else s.jump (IntKind.u64.wrap E.i.imm)) := rfl
  clear hSX HPC HSP HN0 hS hI2 HRA
  generalize s.rs.getD an 0 = xa at *
  by_cases hx : xa = 0
  · subst hx
    have HBE2 : Hid (s.br an (IntKind.u64.wrap E.i.imm) = s.go) := HBE.out
    rw [HBE2.out]
    have HGO : Hid (∀ W, Calls Tryz.prog 47 #[.agg CLX.toArray] W fun e w' => e = .returned (.tuple #[.agg (sL (St.go s)).toArray, .agg EZ.toArray]) ∧ Below W.heap.size W w') := fun W => by rw [← hCLX, HEZ.out]; exact goOn_any _ hs2 W
    have HXN : Hid (CLX.length = 9) := by show _ = _; rw [← hCLX]; exact sL_len hs2
    have H3N : Hid ((sL (St.go s)).length = 9) := sL_len hs2.go
    have H31 : Hid ((sL (St.go s)).toArray.all (·.oneCell') = true) := sL_one _
    obtain ⟨CL3, hCL3⟩ : ∃ L, sL (St.go s) = L := ⟨_, rfl⟩
    rw [hCL3] at HGO H3N H31
    have H3E : Hid _ := hCL3
    clear hCL3
    clear hCLX HBE HBE2 hcj
    unfold pB
    go_enter Tryz.func63, Tryz.ntmps63
    go_wp2_with (first
      | (refine wpList_load_mid rfl 50 _ rfl w.heap.size 0 rfl CLX _ (rangeAt_row HX.out.c) Tryz.underlying50 rfl (info9 CLX HXN.out) ?_)
      | (go_at_call 47; refine Calls.mono (HGO.out _) ?_; rintro e Y ⟨rfl, hbY⟩; (have HY : Hid (SW w CLX ZL EZ Y) := HX.out.below hbY); clear hbY)
      | (refine wpList_store_row rfl 50 _ _ rfl (w.heap.size + 1) CL3.toArray rfl rfl 50 ZL.toArray HY.out.r (info9a CL3 H3N.out) (by simp [HZN.out, H3N.out]) H31.out ?_)
      | (refine wpList_store_row rfl 53 _ _ rfl (w.heap.size + 1 + 1) EZ.toArray rfl rfl 53 EZ.toArray (HY.out.rowr CL3).e (info2a EZ HEN.out) rfl HE1.out ?_))
    refine bodyPost_ret (v := .tuple #[.agg CL3.toArray, .agg EZ.toArray]) (results22 Tryz.results63 _ w _ ((HY.out.rowr CL3).rowe EZ) H3N.out HEN.out rfl rfl) rfl ⟨by rw [H3E.out, HEZ.out], ((HY.out.rowr CL3).rowe EZ).bel⟩
  · have hx' := beq_false_of_ne hx
    have HBE2 : Hid (s.br an (IntKind.u64.wrap E.i.imm) = s.jump (IntKind.u64.wrap E.i.imm)) := by show _ = _; rw [HBE.out, if_neg hx]
    rw [HBE2.out]
    have HGO : Hid (∀ W, SB E W → Calls Tryz.prog 48 #[.agg CLX.toArray, .pointer (some ⟨E.b5, 0, none⟩)] W fun e w' => e = .returned (.tuple #[.agg (sL (s.jump (IntKind.u64.wrap E.i.imm))).toArray, .agg EZ.toArray]) ∧ Below W.heap.size W w') := fun W hW => by rw [← hCL, HEZ.out]; exact jump_any _ hs2 _ _ W ((fields5 _ _ _ _ _ hW.imm 0).trans rfl)
    have HXN : Hid (CLX.length = 9) := HLEN.out
    have H3N : Hid ((sL (s.jump (IntKind.u64.wrap E.i.imm))).length = 9) := sL_len (hs2.jump _)
    have H31 : Hid ((sL (s.jump (IntKind.u64.wrap E.i.imm))).toArray.all (·.oneCell') = true) := sL_one _
    obtain ⟨CL3, hCL3⟩ : ∃ L, sL (s.jump (IntKind.u64.wrap E.i.imm)) = L := ⟨_, rfl⟩
    rw [hCL3] at HGO H3N H31
    have H3E : Hid _ := hCL3
    clear hCL3 hCLX HBE HBE2 hcg hx
    unfold pB
    go_enter Tryz.func63, Tryz.ntmps63
    go_wp2_with (first
      | (refine wpList_load_mid rfl 50 _ rfl w.heap.size 0 rfl CLX _ (rangeAt_row HX.out.c) Tryz.underlying50 rfl (info9 CLX HXN.out) ?_)
      | (go_at_call 48; refine Calls.mono (HGO.out _ HSX.out) ?_; rintro e Y ⟨rfl, hbY⟩; (have HY : Hid (SW w CLX ZL EZ Y) := HX.out.below hbY); clear hbY)
      | (refine wpList_store_row rfl 50 _ _ rfl (w.heap.size + 1) CL3.toArray rfl rfl 50 ZL.toArray HY.out.r (info9a CL3 H3N.out) (by simp [HZN.out, H3N.out]) H31.out ?_)
      | (refine wpList_store_row rfl 53 _ _ rfl (w.heap.size + 1 + 1) EZ.toArray rfl rfl 53 EZ.toArray (HY.out.rowr CL3).e (info2a EZ HEN.out) rfl HE1.out ?_))
    refine bodyPost_ret (v := .tuple #[.agg CL3.toArray, .agg EZ.toArray]) (results22 Tryz.results63 _ w _ ((HY.out.rowr CL3).rowe EZ) H3N.out HEN.out rfl rfl) rfl ⟨by rw [H3E.out, HEZ.out], ((HY.out.rowr CL3).rowe EZ).bel⟩
end Go.Proofs.YtkpjfhphohanlaaGreatDoor.JC
