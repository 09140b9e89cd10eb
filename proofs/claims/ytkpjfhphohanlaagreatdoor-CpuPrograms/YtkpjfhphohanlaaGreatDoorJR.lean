/- cpu: Needs and Give. -/
import Derived.Test.YtkpjfhphohanlaaGreatDoorJQ
set_option linter.unusedVariables false
set_option linter.unusedSimpArgs false
namespace Go.Proofs.YtkpjfhphohanlaaGreatDoor.JC
open Go.RowKit
open Go.Proofs.YtkpjfhphohanlaaGreatDoor.EC (row_lt heap_at rangeAt_below rangeAt_row ret_bool ret_i64 beq_int)

def nL (k a w : Int) : List Value := [.int .i64 k, .int .u64 a, .int .u64 w]
theorem info3 (L : List Value) (h : L.length = 3) : (Tryz.prog.info? 46).map (·.size) = some L.length := by rw [h]; kernel_rfl
theorem info3a (L : List Value) (h : L.length = 3) : (Tryz.prog.info? 46).map (·.size) = some L.toArray.size := by rw [List.size_toArray, h]; kernel_rfl
theorem nL_one (k a w : Int) : (nL k a w).toArray.all (·.oneCell') = true := by simp [nL, Value.oneCell']
theorem zero3 (W : World) : (zeroValue 46).run Tryz.prog W = .ok (.agg (nL 0 0 0).toArray) W := by kernel_rfl
theorem bldN0 (W : World) : (Instr.build 46 #[]).run Tryz.prog W = .ok (.agg (nL 0 0 0).toArray) W := by kernel_rfl
theorem bldN1 (k a : Int) (W : World) : (Instr.build 46 #[(0, .int .i64 k), (1, .int .u64 a)]).run Tryz.prog W = .ok (.agg (nL k a 0).toArray) W := by kernel_rfl
theorem bldN2 (k a x : Int) (W : World) : (Instr.build 46 #[(0, .int .i64 k), (1, .int .u64 a), (2, .int .u64 x)]).run Tryz.prog W = .ok (.agg (nL k a x).toArray) W := by kernel_rfl
/-- The state, the instruction, a result. -/
structure SN (w : World) (CL IL RL : List Value) (X : World) : Prop where
  bel : Below w.heap.size w X
  sz : w.heap.size + 3 ≤ X.heap.size
  c : X.heap[w.heap.size]? = some (.cells CL.toArray 50 (0, 0))
  i : X.heap[w.heap.size + 1]? = some (.cells IL.toArray 41 (0, 0))
  r : X.heap[w.heap.size + 1 + 1]? = some (.cells RL.toArray 46 (0, 0))
theorem SN.new (w : World) (CL IL RL : List Value) : SN w CL IL RL (((w.alloc (.cells CL.toArray 50 (0, 0))).alloc (.cells IL.toArray 41 (0, 0))).alloc (.cells RL.toArray 46 (0, 0))) := by
  have hold : ∀ (W : World) (o : Obj) (k : Nat), k < W.heap.size → (W.alloc o).heap[k]? = W.heap[k]? := fun W o k hk => heap_alloc_old _ _ hk
  refine ⟨(((Below.refl _ _).alloc (Nat.le_refl _) _).alloc (by simp) _).alloc (by simp; omega) _, by simp, ?_, ?_, ?_⟩
  · rw [hold _ _ _ (by simp; omega), hold _ _ _ (by simp)]; exact heap_alloc_new _ _
  · rw [hold _ _ _ (by simp)]; exact heap_at _ _ _ (by simp)
  · exact heap_at _ _ _ (by simp)
theorem SN.below {w : World} {CL IL RL : List Value} {X Y : World} (h : SN w CL IL RL X) (hb : Below X.heap.size X Y) : SN w CL IL RL Y :=
  ⟨h.bel.trans (hb.mono h.bel.size), Nat.le_trans h.sz hb.size, (hb.block _ (row_lt h.c)).trans h.c, (hb.block _ (row_lt h.i)).trans h.i, (hb.block _ (row_lt h.r)).trans h.r⟩
theorem results1 {fn : Func} {p : Tmp} {ty : TypeId} {d : TypeDesc} (h : fn.results = #[.cell p ty]) (tmps : Array Value) (X : World) (b : Nat) {RL : List Value} {t : TypeId} (h1 : X.heap[b]? = some (.cells RL.toArray t (0, 0))) (hu : Tryz.prog.underlying ty = some d) (hd : d.isRow = true) (hi : (Tryz.prog.info? ty).map (·.size) = some RL.length)
    (hp : tmps.getD p undef = .pointer (some ⟨b, 0, none⟩)) : (results fn tmps).run Tryz.prog X = .ok (.agg RL.toArray) X := by
  have e1 : (asAddr (tmps.getD p undef)).run Tryz.prog X = .ok ⟨b, 0, none⟩ X := by rw [hp]; rfl
  have e3 := run_loadVar_mid X b 0 ty RL d (rangeAt_row h1) hu hd hi
  simp only [results, h]
  simp [Sem.run_bind, Result.andThen, e1, e3]
  rw [← Array.getD_eq_getD_getElem?, hp]
  simp [asAddr, e3, Result.andThen]
/-- What an instruction needs. -/
def ndK (i : Ins) : Int := if may i = true then (if i.op = 11 then 1 else if i.op = 12 then 2 else 0) else 0
def ndA (s : St) (i : Ins) : Int := if may i = true ∧ (i.op = 11 ∨ i.op = 12) then IntKind.u64.wrap (s.rs.getD i.a.toNat 0 + IntKind.u64.wrap i.imm) else 0
def ndW (s : St) (i : Ins) : Int := if may i = true ∧ i.op = 12 then s.rs.getD i.b.toNat 0 else 0
set_option maxHeartbeats 1000000 in
set_option maxRecDepth 100000 in
theorem need_bad (s : St) (h : swf s) (i : Ins) (hi : iwf i) (hm : may i = false) (w : World) : Calls Tryz.prog 13 #[.agg (sL s).toArray, iV i] w fun e w' => e = .returned (.agg (nL 0 0 0).toArray) ∧ Below w.heap.size w w' := by
  have hM := fun W => may_any i hi W
  rw [hm] at hM
  have hzv := fun W => zero3 W
  obtain ⟨ZL, hZL⟩ : ∃ L, L = nL 0 0 0 := ⟨_, rfl⟩
  have HZN : Hid (ZL.length = 3) := by rw [hZL]; rfl
  have HZ1 : Hid (ZL.toArray.all (·.oneCell') = true) := by show _ = _; rw [hZL]; exact nL_one 0 0 0
  rw [← hZL] at hzv
  have HBZ : Hid (∀ W, (Instr.build 46 #[]).run Tryz.prog W = .ok (.agg ZL.toArray) W) := fun W => by rw [hZL]; exact bldN0 W
  have HZL : Hid _ := hZL
  clear hZL
  have HLEN : Hid _ := sL_len h
  generalize hCL : sL s = CL at *
  have HIN : Hid _ := ins_info i
  have hiV : iV i = .agg (iL i).toArray := rfl
  rw [hiV] at hM ⊢
  have HI0 : Hid ((iL i)[0]? = some (.int .i64 i.op)) := rfl
  have HI2 : Hid ((iL i)[2]? = some (.int .i64 i.a)) := rfl
  have HI3 : Hid ((iL i)[3]? = some (.int .i64 i.b)) := rfl
  have HI4 : Hid ((iL i)[4]? = some (.int .i64 i.imm)) := rfl
  generalize iL i = IL at *
  have HX : Hid _ := SN.new w CL IL ZL
  go_enter Tryz.func13, Tryz.ntmps13
  go_wp2_with (first
    | (refine wpList_load_mid rfl 41 _ rfl (w.heap.size + 1) 0 rfl IL _ (rangeAt_row HX.out.i) Tryz.underlying41 rfl HIN.out ?_))
  refine Calls.mono (hM _) ?_
  rintro e Y ⟨rfl, hbY⟩
  have HY : Hid _ := HX.out.below hbY
  clear hbY HX hM
  go_wp2_with (first
    | (refine wpList_build rfl 46 #[] rfl #[] (.agg ZL.toArray) (by simp) (HBZ.out _) ?_)
    | (refine wpList_store_row rfl 46 _ _ rfl (w.heap.size + 1 + 1) ZL.toArray rfl rfl 46 ZL.toArray HY.out.r (info3a ZL HZN.out) rfl HZ1.out ?_))
  refine bodyPost_ret (v := .agg ZL.toArray) (results1 Tryz.results13 _ _ (w.heap.size + 1 + 1) (setRow_heap _ _ _ _ _ _ HY.out.r) Tryz.underlying46 rfl (info3 ZL HZN.out) rfl) rfl ⟨by rw [HZL.out], below_setRow HY.out.bel (by omega) _⟩
set_option maxHeartbeats 1000000 in
set_option maxRecDepth 100000 in
theorem need_ok (s : St) (h : swf s) (i : Ins) (hi : iwf i) (hm : may i = true) (w : World) : Calls Tryz.prog 13 #[.agg (sL s).toArray, iV i] w fun e w' => e = .returned (.agg (nL (ndK i) (ndA s i) (ndW s i)).toArray) ∧ Below w.heap.size w w' := by
  have hM := fun W => may_any i hi W
  rw [hm] at hM
  obtain ⟨m1, m2, m3, m4, m5, m6, m7, m8, _, _⟩ := may_bd hm
  obtain ⟨an, han⟩ : ∃ n : Nat, i.a = n := ⟨i.a.toNat, by omega⟩
  obtain ⟨bn, hbn⟩ : ∃ n : Nat, i.b = n := ⟨i.b.toNat, by omega⟩
  have HRA : Hid _ := sL_reg h an (by omega)
  have HRB : Hid _ := sL_reg h bn (by omega)
  have hai : ((an : Int) < 8) := by omega
  have hbi : ((bn : Int) < 8) := by omega
  have HR : Hid ((i.op = 11 → ndK i = 1 ∧ ndA s i = IntKind.u64.wrap (s.rs.getD an 0 + IntKind.u64.wrap i.imm) ∧ ndW s i = 0) ∧ (i.op = 12 → ndK i = 2 ∧ ndA s i = IntKind.u64.wrap (s.rs.getD an 0 + IntKind.u64.wrap i.imm) ∧ ndW s i = s.rs.getD bn 0) ∧ (i.op ≠ 11 → i.op ≠ 12 → ndK i = 0 ∧ ndA s i = 0 ∧ ndW s i = 0)) := by
    unfold ndK ndA ndW
    rw [hm, han, hbn]
    refine ⟨fun e => ?_, fun e => ?_, fun e1 e2 => ?_⟩ <;> simp [*]
  have hzv := fun W => zero3 W
  obtain ⟨ZL, hZL⟩ : ∃ L, L = nL 0 0 0 := ⟨_, rfl⟩
  have HZN : Hid (ZL.length = 3) := by rw [hZL]; rfl
  have HZ1 : Hid (ZL.toArray.all (·.oneCell') = true) := by show _ = _; rw [hZL]; exact nL_one 0 0 0
  rw [← hZL] at hzv
  have HBZ : Hid (∀ W, (Instr.build 46 #[]).run Tryz.prog W = .ok (.agg ZL.toArray) W) := fun W => by rw [hZL]; exact bldN0 W
  have HZL : Hid _ := hZL
  clear hZL
  have HLEN : Hid _ := sL_len h
  generalize hCL : sL s = CL at *
  have HIN : Hid _ := ins_info i
  have hiV : iV i = .agg (iL i).toArray := rfl
  rw [hiV] at hM ⊢
  have HI0 : Hid ((iL i)[0]? = some (.int .i64 i.op)) := rfl
  have HI2 : Hid ((iL i)[2]? = some (.int .i64 i.a)) := rfl
  have HI3 : Hid ((iL i)[3]? = some (.int .i64 i.b)) := rfl
  have HI4 : Hid ((iL i)[4]? = some (.int .i64 i.imm)) := rfl
  generalize iL i = IL at *
  have HX : Hid _ := SN.new w CL IL ZL
  rw [han] at HI2
  rw [hbn] at HI3
  clear m1 m2 m3 m4 m5 m6 m7 m8 han hbn
  generalize ndK i = NK at *
  generalize ndA s i = NA at *
  generalize ndW s i = NW at *
  generalize i.op = OP at *
  generalize s.rs.getD an 0 = xa at *
  generalize s.rs.getD bn 0 = xb at *
  generalize hAD : IntKind.u64.wrap (xa + IntKind.u64.wrap i.imm) = AD at *
  by_cases h11 : OP = 11
  · obtain ⟨e1, e2, e3⟩ := HR.out.1 h11
    rw [e1, e2, e3]
    subst h11
    clear HR e1 e2 e3
    obtain ⟨NV, hNV⟩ : ∃ L, L = nL 1 AD 0 := ⟨_, rfl⟩
    have HNN : Hid (NV.length = 3) := by rw [hNV]; rfl
    have HN1 : Hid (NV.toArray.all (·.oneCell') = true) := by show _ = _; rw [hNV]; exact nL_one _ _ _
    have HBN : Hid (∀ W, (Instr.build 46 #[(0, .int .i64 1), (1, .int .u64 AD)]).run Tryz.prog W = .ok (.agg NV.toArray) W) := fun W => by rw [hNV]; exact bldN1 1 AD W
    rw [← hNV]
    clear hNV
    go_enter Tryz.func13, Tryz.ntmps13
    go_wp2_with (first
      | (refine wpList_load_mid rfl 41 _ rfl (w.heap.size + 1) 0 rfl IL _ (rangeAt_row HX.out.i) Tryz.underlying41 rfl HIN.out ?_))
    refine Calls.mono (hM _) ?_
    rintro e Y ⟨rfl, hbY⟩
    have HY : Hid _ := HX.out.below hbY
    clear hbY HX hM
    have hc2 : Y.cell? ⟨w.heap.size + 1, 2, none⟩ = some (.int .i64 (an : Int)) := (fields5 _ _ _ _ _ HY.out.i 2).trans (by rw [List.getElem?_toArray]; exact HI2.out)
    have hc4 : Y.cell? ⟨w.heap.size + 1, 4, none⟩ = some (.int .i64 i.imm) := (fields5 _ _ _ _ _ HY.out.i 4).trans (by rw [List.getElem?_toArray]; exact HI4.out)
    have hcr : Y.cell? ⟨w.heap.size, an, none⟩ = some (.int .u64 xa) := (fields5 _ _ _ _ _ HY.out.c an).trans (by rw [List.getElem?_toArray]; exact HRA.out)
    go_wp2
    go_quiet (fail)
    have HZ : Hid (SN w CL IL ZL (Y.drewN nq)) := HY.out.below ⟨rfl, rfl, rfl, Nat.le_refl _, fun _ _ => rfl⟩
    clear hc2 hc4 hcr HY
    generalize Y.drewN nq = Z at *
    have hc0 : Z.cell? ⟨w.heap.size + 1, 0, none⟩ = some (.int .i64 11) := (fields5 _ _ _ _ _ HZ.out.i 0).trans (by rw [List.getElem?_toArray]; exact HI0.out)
    have hc3 : Z.cell? ⟨w.heap.size + 1, 3, none⟩ = some (.int .i64 (bn : Int)) := (fields5 _ _ _ _ _ HZ.out.i 3).trans (by rw [List.getElem?_toArray]; exact HI3.out)
    have hcs : Z.cell? ⟨w.heap.size, bn, none⟩ = some (.int .u64 xb) := (fields5 _ _ _ _ _ HZ.out.c bn).trans (by rw [List.getElem?_toArray]; exact HRB.out)
    go_wp2_with (first
      | (refine wpList_build rfl 46 #[(0, .const (.int .i64 1)), (1, .tmp 23)] rfl #[(0, .int .i64 1), (1, .int .u64 AD)] (.agg NV.toArray) (by simp [Act.eval]) (HBN.out _) ?_)
      | (refine wpList_store_row rfl 46 _ _ rfl (w.heap.size + 1 + 1) NV.toArray rfl rfl 46 ZL.toArray HZ.out.r (info3a NV HNN.out) (by simp [HZN.out, HNN.out]) HN1.out ?_))
    refine bodyPost_ret (v := .agg NV.toArray) (results1 Tryz.results13 _ _ (w.heap.size + 1 + 1) (setRow_heap _ _ _ _ _ _ HZ.out.r) Tryz.underlying46 rfl (info3 NV HNN.out) rfl) rfl ⟨rfl, below_setRow HZ.out.bel (by omega) _⟩
  · by_cases h12 : OP = 12
    · obtain ⟨e1, e2, e3⟩ := HR.out.2.1 h12
      rw [e1, e2, e3]
      subst h12
      clear HR e1 e2 e3 h11
      obtain ⟨NV, hNV⟩ : ∃ L, L = nL 2 AD xb := ⟨_, rfl⟩
      have HNN : Hid (NV.length = 3) := by rw [hNV]; rfl
      have HN1 : Hid (NV.toArray.all (·.oneCell') = true) := by show _ = _; rw [hNV]; exact nL_one _ _ _
      have HBN : Hid (∀ W, (Instr.build 46 #[(0, .int .i64 2), (1, .int .u64 AD), (2, .int .u64 xb)]).run Tryz.prog W = .ok (.agg NV.toArray) W) := fun W => by rw [hNV]; exact bldN2 2 AD xb W
      rw [← hNV]
      clear hNV
      go_enter Tryz.func13, Tryz.ntmps13
      go_wp2_with (first
        | (refine wpList_load_mid rfl 41 _ rfl (w.heap.size + 1) 0 rfl IL _ (rangeAt_row HX.out.i) Tryz.underlying41 rfl HIN.out ?_))
      refine Calls.mono (hM _) ?_
      rintro e Y ⟨rfl, hbY⟩
      have HY : Hid _ := HX.out.below hbY
      clear hbY HX hM
      have hc2 : Y.cell? ⟨w.heap.size + 1, 2, none⟩ = some (.int .i64 (an : Int)) := (fields5 _ _ _ _ _ HY.out.i 2).trans (by rw [List.getElem?_toArray]; exact HI2.out)
      have hc4 : Y.cell? ⟨w.heap.size + 1, 4, none⟩ = some (.int .i64 i.imm) := (fields5 _ _ _ _ _ HY.out.i 4).trans (by rw [List.getElem?_toArray]; exact HI4.out)
      have hcr : Y.cell? ⟨w.heap.size, an, none⟩ = some (.int .u64 xa) := (fields5 _ _ _ _ _ HY.out.c an).trans (by rw [List.getElem?_toArray]; exact HRA.out)
      go_wp2
      go_quiet (fail)
      have HZ : Hid (SN w CL IL ZL (Y.drewN nq)) := HY.out.below ⟨rfl, rfl, rfl, Nat.le_refl _, fun _ _ => rfl⟩
      clear hc2 hc4 hcr HY
      generalize Y.drewN nq = Z at *
      have hc0 : Z.cell? ⟨w.heap.size + 1, 0, none⟩ = some (.int .i64 12) := (fields5 _ _ _ _ _ HZ.out.i 0).trans (by rw [List.getElem?_toArray]; exact HI0.out)
      have hc3 : Z.cell? ⟨w.heap.size + 1, 3, none⟩ = some (.int .i64 (bn : Int)) := (fields5 _ _ _ _ _ HZ.out.i 3).trans (by rw [List.getElem?_toArray]; exact HI3.out)
      have hcs : Z.cell? ⟨w.heap.size, bn, none⟩ = some (.int .u64 xb) := (fields5 _ _ _ _ _ HZ.out.c bn).trans (by rw [List.getElem?_toArray]; exact HRB.out)
      go_wp2_with (first
        | (refine wpList_build rfl 46 #[(0, .const (.int .i64 2)), (1, .tmp 27), (2, .tmp 32)] rfl #[(0, .int .i64 2), (1, .int .u64 AD), (2, .int .u64 xb)] (.agg NV.toArray) (by simp [Act.eval]) (HBN.out _) ?_)
        | (refine wpList_store_row rfl 46 _ _ rfl (w.heap.size + 1 + 1) NV.toArray rfl rfl 46 ZL.toArray HZ.out.r (info3a NV HNN.out) (by simp [HZN.out, HNN.out]) HN1.out ?_))
      refine bodyPost_ret (v := .agg NV.toArray) (results1 Tryz.results13 _ _ (w.heap.size + 1 + 1) (setRow_heap _ _ _ _ _ _ HZ.out.r) Tryz.underlying46 rfl (info3 NV HNN.out) rfl) rfl ⟨rfl, below_setRow HZ.out.bel (by omega) _⟩
    · obtain ⟨e1, e2, e3⟩ := HR.out.2.2 h11 h12
      rw [e1, e2, e3]
      have b1 := beq_false_of_ne h11
      have b2 := beq_false_of_ne h12
      clear HR e1 e2 e3 h11 h12
      obtain ⟨NV, hNV⟩ : ∃ L, L = nL 0 0 0 := ⟨_, rfl⟩
      have HNN : Hid (NV.length = 3) := by rw [hNV]; rfl
      have HN1 : Hid (NV.toArray.all (·.oneCell') = true) := by show _ = _; rw [hNV]; exact nL_one _ _ _
      have HBN : Hid (∀ W, (Instr.build 46 #[]).run Tryz.prog W = .ok (.agg NV.toArray) W) := fun W => by rw [hNV]; exact bldN0 W
      rw [← hNV]
      clear hNV
      go_enter Tryz.func13, Tryz.ntmps13
      go_wp2_with (first
        | (refine wpList_load_mid rfl 41 _ rfl (w.heap.size + 1) 0 rfl IL _ (rangeAt_row HX.out.i) Tryz.underlying41 rfl HIN.out ?_))
      refine Calls.mono (hM _) ?_
      rintro e Y ⟨rfl, hbY⟩
      have HY : Hid _ := HX.out.below hbY
      clear hbY HX hM
      have hc2 : Y.cell? ⟨w.heap.size + 1, 2, none⟩ = some (.int .i64 (an : Int)) := (fields5 _ _ _ _ _ HY.out.i 2).trans (by rw [List.getElem?_toArray]; exact HI2.out)
      have hc4 : Y.cell? ⟨w.heap.size + 1, 4, none⟩ = some (.int .i64 i.imm) := (fields5 _ _ _ _ _ HY.out.i 4).trans (by rw [List.getElem?_toArray]; exact HI4.out)
      have hcr : Y.cell? ⟨w.heap.size, an, none⟩ = some (.int .u64 xa) := (fields5 _ _ _ _ _ HY.out.c an).trans (by rw [List.getElem?_toArray]; exact HRA.out)
      go_wp2
      go_quiet (fail)
      have HZ : Hid (SN w CL IL ZL (Y.drewN nq)) := HY.out.below ⟨rfl, rfl, rfl, Nat.le_refl _, fun _ _ => rfl⟩
      clear hc2 hc4 hcr HY
      generalize Y.drewN nq = Z at *
      have hc0 : Z.cell? ⟨w.heap.size + 1, 0, none⟩ = some (.int .i64 OP) := (fields5 _ _ _ _ _ HZ.out.i 0).trans (by rw [List.getElem?_toArray]; exact HI0.out)
      have hc3 : Z.cell? ⟨w.heap.size + 1, 3, none⟩ = some (.int .i64 (bn : Int)) := (fields5 _ _ _ _ _ HZ.out.i 3).trans (by rw [List.getElem?_toArray]; exact HI3.out)
      have hcs : Z.cell? ⟨w.heap.size, bn, none⟩ = some (.int .u64 xb) := (fields5 _ _ _ _ _ HZ.out.c bn).trans (by rw [List.getElem?_toArray]; exact HRB.out)
      go_wp2_with (first
        | (refine wpList_build rfl 46 #[] rfl #[] (.agg NV.toArray) (by simp [Act.eval]) (HBN.out _) ?_)
        | (refine wpList_store_row rfl 46 _ _ rfl (w.heap.size + 1 + 1) NV.toArray rfl rfl 46 ZL.toArray HZ.out.r (info3a NV HNN.out) (by simp [HZN.out, HNN.out]) HN1.out ?_))
      refine bodyPost_ret (v := .agg NV.toArray) (results1 Tryz.results13 _ _ (w.heap.size + 1 + 1) (setRow_heap _ _ _ _ _ _ HZ.out.r) Tryz.underlying46 rfl (info3 NV HNN.out) rfl) rfl ⟨rfl, below_setRow HZ.out.bel (by omega) _⟩
theorem need_any (s : St) (h : swf s) (i : Ins) (hi : iwf i) (w : World) : Calls Tryz.prog 13 #[.agg (sL s).toArray, iV i] w fun e w' => e = .returned (.agg (nL (ndK i) (ndA s i) (ndW s i)).toArray) ∧ Below w.heap.size w w' := by
  cases hm : may i
  · have e : ndK i = 0 ∧ ndA s i = 0 ∧ ndW s i = 0 := by unfold ndK ndA ndW; rw [hm]; simp
    rw [e.1, e.2.1, e.2.2]; exact need_bad s h i hi hm w
  · exact need_ok s h i hi hm w
end Go.Proofs.YtkpjfhphohanlaaGreatDoor.JC
