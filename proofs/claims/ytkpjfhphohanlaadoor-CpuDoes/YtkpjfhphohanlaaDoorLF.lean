/- cpu: the reference's needs. -/
import Derived.Test.YtkpjfhphohanlaaDoorLC
set_option linter.unusedVariables false
set_option linter.unusedSimpArgs false
namespace Go.Proofs.YtkpjfhphohanlaaDoor.JC
open Go.RowKit
open Go.Proofs.YtkpjfhphohanlaaDoor.EC (row_lt heap_at rangeAt_below rangeAt_row ret_bool ret_i64 beq_int)

set_option maxHeartbeats 1000000 in
set_option maxRecDepth 100000 in
theorem rneed_bad (s : St) (h : swf s) (i : Ins) (hi : iwf i) (hm : may i = false) (w : World) : Calls Tryd.prog 23 #[.agg (sL s).toArray, iV i] w fun e w' => e = .returned (.agg (nL 0 0 0).toArray) ∧ Below w.heap.size w w' := by
  have hM := fun W => rmay_any i W
  rw [hm] at hM
  have hzv := fun W => zero3 W
  obtain ⟨ZL, hZL⟩ : ∃ L, L = nL 0 0 0 := ⟨_, rfl⟩
  have HZN : Hid (ZL.length = 3) := by rw [hZL]; rfl
  have HZ1 : Hid (ZL.toArray.all (·.oneCell') = true) := by show _ = _; rw [hZL]; exact nL_one 0 0 0
  rw [← hZL] at hzv
  have HBZ : Hid (∀ W, (Instr.build 53 #[]).run Tryd.prog W = .ok (.agg ZL.toArray) W) := fun W => by rw [hZL]; exact bldN0 W
  have HZL : Hid _ := hZL
  clear hZL
  have HLEN : Hid _ := sL_len h
  generalize hCL : sL s = CL at *
  have HIN : Hid _ := ins_info i
  have hiV : iV i = .agg (iL i).toArray := rfl
  rw [hiV] at hM ⊢
  have HI0 : Hid ((iL i)[0]? = some (.int .i64 i.op)) := rfl
  have HI2 : Hid ((iL i)[2]? = some (.int .i64 i.a)) := rfl
  have HI3 : Hid ((iL i)[3]? = some (.int .i64 i.b)) := rfl
  have HI4 : Hid ((iL i)[4]? = some (.int .i64 i.imm)) := rfl
  generalize iL i = IL at *
  have HX : Hid _ := SN.new w CL IL ZL
  go_enter Tryd.func23, Tryd.ntmps23
  go_wp2_with (first
    | (refine wpList_load_mid rfl 24 _ rfl (w.heap.size + 1) 0 rfl IL _ (rangeAt_row HX.out.i) Tryd.underlying24 rfl HIN.out ?_))
  refine Calls.mono (hM _) ?_
  rintro e Y ⟨rfl, hbY⟩
  have HY : Hid _ := HX.out.below hbY
  clear hbY HX hM
  go_wp2_with (first
    | (refine wpList_build rfl 53 #[] rfl #[] (.agg ZL.toArray) (by simp) (HBZ.out _) ?_)
    | (refine wpList_store_row rfl 53 _ _ rfl (w.heap.size + 1 + 1) ZL.toArray rfl rfl 53 ZL.toArray HY.out.r (info3a ZL HZN.out) rfl HZ1.out ?_))
  refine bodyPost_ret (v := .agg ZL.toArray) (results1 Tryd.results23 _ _ (w.heap.size + 1 + 1) (setRow_heap _ _ _ _ _ _ HY.out.r) Tryd.underlying53 rfl (info3 ZL HZN.out) rfl) rfl ⟨by rw [HZL.out], below_setRow HY.out.bel (by omega) _⟩
set_option maxHeartbeats 1000000 in
set_option maxRecDepth 100000 in
theorem rneed_ok (s : St) (h : swf s) (i : Ins) (hi : iwf i) (hm : may i = true) (w : World) : Calls Tryd.prog 23 #[.agg (sL s).toArray, iV i] w fun e w' => e = .returned (.agg (nL (ndK i) (ndA s i) (ndW s i)).toArray) ∧ Below w.heap.size w w' := by
  have hM := fun W => rmay_any i W
  rw [hm] at hM
  obtain ⟨m1, m2, m3, m4, m5, m6, m7, m8, _, _⟩ := may_bd hm
  obtain ⟨an, han⟩ : ∃ n : Nat, i.a = n := ⟨i.a.toNat, by omega⟩
  obtain ⟨bn, hbn⟩ : ∃ n : Nat, i.b = n := ⟨i.b.toNat, by omega⟩
  have HRA : Hid _ := sL_reg h an (by omega)
  have HRB : Hid _ := sL_reg h bn (by omega)
  have hai : ((an : Int) < 8) := by omega
  have hbi : ((bn : Int) < 8) := by omega
  have HR : Hid ((i.op = 11 → ndK i = 1 ∧ ndA s i = IntKind.u64.wrap (s.rs.getD an 0 + IntKind.u64.wrap i.imm) ∧ ndW s i = 0) ∧ (i.op = 12 → ndK i = 2 ∧ ndA s i = IntKind.u64.wrap (s.rs.getD an 0 + IntKind.u64.wrap i.imm) ∧ ndW s i = s.rs.getD bn 0) ∧ (i.op ≠ 11 → i.op ≠ 12 → ndK i = 0 ∧ ndA s i = 0 ∧ ndW s i = 0)) := by
    unfold ndK ndA ndW
    rw [hm, han, hbn]
    refine ⟨fun e => ?_, fun e => ?_, fun e1 e2 => ?_⟩ <;> simp [*]
  have hzv := fun W => zero3 W
  obtain ⟨ZL, hZL⟩ : ∃ L, L = nL 0 0 0 := ⟨_, rfl⟩
  have HZN : Hid (ZL.length = 3) := by rw [hZL]; rfl
  have HZ1 : Hid (ZL.toArray.all (·.oneCell') = true) := by show _ = _; rw [hZL]; exact nL_one 0 0 0
  rw [← hZL] at hzv
  have HBZ : Hid (∀ W, (Instr.build 53 #[]).run Tryd.prog W = .ok (.agg ZL.toArray) W) := fun W => by rw [hZL]; exact bldN0 W
  have HZL : Hid _ := hZL
  clear hZL
  have HLEN : Hid _ := sL_len h
  generalize hCL : sL s = CL at *
  have HIN : Hid _ := ins_info i
  have hiV : iV i = .agg (iL i).toArray := rfl
  rw [hiV] at hM ⊢
  have HI0 : Hid ((iL i)[0]? = some (.int .i64 i.op)) := rfl
  have HI2 : Hid ((iL i)[2]? = some (.int .i64 i.a)) := rfl
  have HI3 : Hid ((iL i)[3]? = some (.int .i64 i.b)) := rfl
  have HI4 : Hid ((iL i)[4]? = some (.int .i64 i.imm)) := rfl
  generalize iL i = IL at *
  have HX : Hid _ := SN.new w CL IL ZL
  rw [han] at HI2
  rw [hbn] at HI3
  clear m1 m2 m3 m4 m5 m6 m7 m8 han hbn
  generalize ndK i = NK at *
  generalize ndA s i = NA at *
  generalize ndW s i = NW at *
  generalize i.op = OP at *
  generalize s.rs.getD an 0 = xa at *
  generalize s.rs.getD bn 0 = xb at *
  generalize hAD : IntKind.u64.wrap (xa + IntKind.u64.wrap i.imm) = AD at *
  by_cases h11 : OP = 11
  · obtain ⟨e1, e2, e3⟩ := HR.out.1 h11
    rw [e1, e2, e3]
    subst h11
    clear HR e1 e2 e3
    obtain ⟨NV, hNV⟩ : ∃ L, L = nL 1 AD 0 := ⟨_, rfl⟩
    have HNN : Hid (NV.length = 3) := by rw [hNV]; rfl
    have HN1 : Hid (NV.toArray.all (·.oneCell') = true) := by show _ = _; rw [hNV]; exact nL_one _ _ _
    have HBN : Hid (∀ W, (Instr.build 53 #[(0, .int .i64 1), (1, .int .u64 AD)]).run Tryd.prog W = .ok (.agg NV.toArray) W) := fun W => by rw [hNV]; exact bldN1 1 AD W
    rw [← hNV]
    clear hNV
    go_enter Tryd.func23, Tryd.ntmps23
    go_wp2_with (first
      | (refine wpList_load_mid rfl 24 _ rfl (w.heap.size + 1) 0 rfl IL _ (rangeAt_row HX.out.i) Tryd.underlying24 rfl HIN.out ?_))
    refine Calls.mono (hM _) ?_
    rintro e Y ⟨rfl, hbY⟩
    have HY : Hid _ := HX.out.below hbY
    clear hbY HX hM
    have hc2 : Y.cell? ⟨w.heap.size + 1, 2, none⟩ = some (.int .i64 (an : Int)) := (fields5 _ _ _ _ _ HY.out.i 2).trans (by rw [List.getElem?_toArray]; exact HI2.out)
    have hc4 : Y.cell? ⟨w.heap.size + 1, 4, none⟩ = some (.int .i64 i.imm) := (fields5 _ _ _ _ _ HY.out.i 4).trans (by rw [List.getElem?_toArray]; exact HI4.out)
    have hcr : Y.cell? ⟨w.heap.size, an, none⟩ = some (.int .u64 xa) := (fields5 _ _ _ _ _ HY.out.c an).trans (by rw [List.getElem?_toArray]; exact HRA.out)
    go_wp2
    go_quiet (fail)
    have HZ : Hid (SN w CL IL ZL (Y.drewN nq)) := HY.out.below ⟨rfl, rfl, rfl, Nat.le_refl _, fun _ _ => rfl⟩
    clear hc2 hc4 hcr HY
    generalize Y.drewN nq = Z at *
    have hc0 : Z.cell? ⟨w.heap.size + 1, 0, none⟩ = some (.int .i64 11) := (fields5 _ _ _ _ _ HZ.out.i 0).trans (by rw [List.getElem?_toArray]; exact HI0.out)
    have hc3 : Z.cell? ⟨w.heap.size + 1, 3, none⟩ = some (.int .i64 (bn : Int)) := (fields5 _ _ _ _ _ HZ.out.i 3).trans (by rw [List.getElem?_toArray]; exact HI3.out)
    have hcs : Z.cell? ⟨w.heap.size, bn, none⟩ = some (.int .u64 xb) := (fields5 _ _ _ _ _ HZ.out.c bn).trans (by rw [List.getElem?_toArray]; exact HRB.out)
    go_wp2_with (first
      | (refine wpList_build rfl 53 #[(0, .const (.int .i64 1)), (1, .tmp 23)] rfl #[(0, .int .i64 1), (1, .int .u64 AD)] (.agg NV.toArray) (by simp [Act.eval]) (HBN.out _) ?_)
      | (refine wpList_store_row rfl 53 _ _ rfl (w.heap.size + 1 + 1) NV.toArray rfl rfl 53 ZL.toArray HZ.out.r (info3a NV HNN.out) (by simp [HZN.out, HNN.out]) HN1.out ?_))
    refine bodyPost_ret (v := .agg NV.toArray) (results1 Tryd.results23 _ _ (w.heap.size + 1 + 1) (setRow_heap _ _ _ _ _ _ HZ.out.r) Tryd.underlying53 rfl (info3 NV HNN.out) rfl) rfl ⟨rfl, below_setRow HZ.out.bel (by omega) _⟩
  · by_cases h12 : OP = 12
    · obtain ⟨e1, e2, e3⟩ := HR.out.2.1 h12
      rw [e1, e2, e3]
      subst h12
      clear HR e1 e2 e3 h11
      obtain ⟨NV, hNV⟩ : ∃ L, L = nL 2 AD xb := ⟨_, rfl⟩
      have HNN : Hid (NV.length = 3) := by rw [hNV]; rfl
      have HN1 : Hid (NV.toArray.all (·.oneCell') = true) := by show _ = _; rw [hNV]; exact nL_one _ _ _
      have HBN : Hid (∀ W, (Instr.build 53 #[(0, .int .i64 2), (1, .int .u64 AD), (2, .int .u64 xb)]).run Tryd.prog W = .ok (.agg NV.toArray) W) := fun W => by rw [hNV]; exact bldN2 2 AD xb W
      rw [← hNV]
      clear hNV
      go_enter Tryd.func23, Tryd.ntmps23
      go_wp2_with (first
        | (refine wpList_load_mid rfl 24 _ rfl (w.heap.size + 1) 0 rfl IL _ (rangeAt_row HX.out.i) Tryd.underlying24 rfl HIN.out ?_))
      refine Calls.mono (hM _) ?_
      rintro e Y ⟨rfl, hbY⟩
      have HY : Hid _ := HX.out.below hbY
      clear hbY HX hM
      have hc2 : Y.cell? ⟨w.heap.size + 1, 2, none⟩ = some (.int .i64 (an : Int)) := (fields5 _ _ _ _ _ HY.out.i 2).trans (by rw [List.getElem?_toArray]; exact HI2.out)
      have hc4 : Y.cell? ⟨w.heap.size + 1, 4, none⟩ = some (.int .i64 i.imm) := (fields5 _ _ _ _ _ HY.out.i 4).trans (by rw [List.getElem?_toArray]; exact HI4.out)
      have hcr : Y.cell? ⟨w.heap.size, an, none⟩ = some (.int .u64 xa) := (fields5 _ _ _ _ _ HY.out.c an).trans (by rw [List.getElem?_toArray]; exact HRA.out)
      go_wp2
      go_quiet (fail)
      have HZ : Hid (SN w CL IL ZL (Y.drewN nq)) := HY.out.below ⟨rfl, rfl, rfl, Nat.le_refl _, fun _ _ => rfl⟩
      clear hc2 hc4 hcr HY
      generalize Y.drewN nq = Z at *
      have hc0 : Z.cell? ⟨w.heap.size + 1, 0, none⟩ = some (.int .i64 12) := (fields5 _ _ _ _ _ HZ.out.i 0).trans (by rw [List.getElem?_toArray]; exact HI0.out)
      have hc3 : Z.cell? ⟨w.heap.size + 1, 3, none⟩ = some (.int .i64 (bn : Int)) := (fields5 _ _ _ _ _ HZ.out.i 3).trans (by rw [List.getElem?_toArray]; exact HI3.out)
      have hcs : Z.cell? ⟨w.heap.size, bn, none⟩ = some (.int .u64 xb) := (fields5 _ _ _ _ _ HZ.out.c bn).trans (by rw [List.getElem?_toArray]; exact HRB.out)
      go_wp2_with (first
        | (refine wpList_build rfl 53 #[(0, .const (.int .i64 2)), (1, .tmp 27), (2, .tmp 32)] rfl #[(0, .int .i64 2), (1, .int .u64 AD), (2, .int .u64 xb)] (.agg NV.toArray) (by simp [Act.eval]) (HBN.out _) ?_)
        | (refine wpList_store_row rfl 53 _ _ rfl (w.heap.size + 1 + 1) NV.toArray rfl rfl 53 ZL.toArray HZ.out.r (info3a NV HNN.out) (by simp [HZN.out, HNN.out]) HN1.out ?_))
      refine bodyPost_ret (v := .agg NV.toArray) (results1 Tryd.results23 _ _ (w.heap.size + 1 + 1) (setRow_heap _ _ _ _ _ _ HZ.out.r) Tryd.underlying53 rfl (info3 NV HNN.out) rfl) rfl ⟨rfl, below_setRow HZ.out.bel (by omega) _⟩
    · obtain ⟨e1, e2, e3⟩ := HR.out.2.2 h11 h12
      rw [e1, e2, e3]
      have b1 := beq_false_of_ne h11
      have b2 := beq_false_of_ne h12
      clear HR e1 e2 e3 h11 h12
      obtain ⟨NV, hNV⟩ : ∃ L, L = nL 0 0 0 := ⟨_, rfl⟩
      have HNN : Hid (NV.length = 3) := by rw [hNV]; rfl
      have HN1 : Hid (NV.toArray.all (·.oneCell') = true) := by show _ = _; rw [hNV]; exact nL_one _ _ _
      have HBN : Hid (∀ W, (Instr.build 53 #[]).run Tryd.prog W = .ok (.agg NV.toArray) W) := fun W => by rw [hNV]; exact bldN0 W
      rw [← hNV]
      clear hNV
      go_enter Tryd.func23, Tryd.ntmps23
      go_wp2_with (first
        | (refine wpList_load_mid rfl 24 _ rfl (w.heap.size + 1) 0 rfl IL _ (rangeAt_row HX.out.i) Tryd.underlying24 rfl HIN.out ?_))
      refine Calls.mono (hM _) ?_
      rintro e Y ⟨rfl, hbY⟩
      have HY : Hid _ := HX.out.below hbY
      clear hbY HX hM
      have hc2 : Y.cell? ⟨w.heap.size + 1, 2, none⟩ = some (.int .i64 (an : Int)) := (fields5 _ _ _ _ _ HY.out.i 2).trans (by rw [List.getElem?_toArray]; exact HI2.out)
      have hc4 : Y.cell? ⟨w.heap.size + 1, 4, none⟩ = some (.int .i64 i.imm) := (fields5 _ _ _ _ _ HY.out.i 4).trans (by rw [List.getElem?_toArray]; exact HI4.out)
      have hcr : Y.cell? ⟨w.heap.size, an, none⟩ = some (.int .u64 xa) := (fields5 _ _ _ _ _ HY.out.c an).trans (by rw [List.getElem?_toArray]; exact HRA.out)
      go_wp2
      go_quiet (fail)
      have HZ : Hid (SN w CL IL ZL (Y.drewN nq)) := HY.out.below ⟨rfl, rfl, rfl, Nat.le_refl _, fun _ _ => rfl⟩
      clear hc2 hc4 hcr HY
      generalize Y.drewN nq = Z at *
      have hc0 : Z.cell? ⟨w.heap.size + 1, 0, none⟩ = some (.int .i64 OP) := (fields5 _ _ _ _ _ HZ.out.i 0).trans (by rw [List.getElem?_toArray]; exact HI0.out)
      have hc3 : Z.cell? ⟨w.heap.size + 1, 3, none⟩ = some (.int .i64 (bn : Int)) := (fields5 _ _ _ _ _ HZ.out.i 3).trans (by rw [List.getElem?_toArray]; exact HI3.out)
      have hcs : Z.cell? ⟨w.heap.size, bn, none⟩ = some (.int .u64 xb) := (fields5 _ _ _ _ _ HZ.out.c bn).trans (by rw [List.getElem?_toArray]; exact HRB.out)
      go_wp2_with (first
        | (refine wpList_build rfl 53 #[] rfl #[] (.agg NV.toArray) (by simp [Act.eval]) (HBN.out _) ?_)
        | (refine wpList_store_row rfl 53 _ _ rfl (w.heap.size + 1 + 1) NV.toArray rfl rfl 53 ZL.toArray HZ.out.r (info3a NV HNN.out) (by simp [HZN.out, HNN.out]) HN1.out ?_))
      refine bodyPost_ret (v := .agg NV.toArray) (results1 Tryd.results23 _ _ (w.heap.size + 1 + 1) (setRow_heap _ _ _ _ _ _ HZ.out.r) Tryd.underlying53 rfl (info3 NV HNN.out) rfl) rfl ⟨rfl, below_setRow HZ.out.bel (by omega) _⟩
theorem rneed_any (s : St) (h : swf s) (i : Ins) (hi : iwf i) (w : World) : Calls Tryd.prog 23 #[.agg (sL s).toArray, iV i] w fun e w' => e = .returned (.agg (nL (ndK i) (ndA s i) (ndW s i)).toArray) ∧ Below w.heap.size w w' := by
  cases hm : may i
  · have e : ndK i = 0 ∧ ndA s i = 0 ∧ ndW s i = 0 := by unfold ndK ndA ndW; rw [hm]; simp
    rw [e.1, e.2.1, e.2.2]; exact rneed_bad s h i hi hm w
  · exact rneed_ok s h i hi hm w
end Go.Proofs.YtkpjfhphohanlaaDoor.JC
