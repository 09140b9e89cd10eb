/- report: Untext of the program. -/
import Derived.Test.YtpklboicgjpmeaaDoorTs
import Derived.RangeFuncNested
set_option linter.unusedVariables false
set_option linter.unusedSimpArgs false
namespace Go.Proofs.YtpklboicgjpmeaaDoor.RB
open Go.RowKit
open JC (splitR splitR_no splitR_at)
attribute [local go_sem] Oper.semAt_some

theorem splice_all {α : Type} (L M : List α) (h : M.length = L.length) : splice L 0 M = M := by
  unfold splice; simp [h]
theorem run_store_seg (w : World) (b o : Nat) (ty t : TypeId) (cells : Array Value) (cur : List Value) (hg : w.heap[b]? = some (.cells cur.toArray t (0, 0))) (hi : (Tryd.prog.info? ty).map (·.size) = some cells.size) (hfit : o + cells.size ≤ cur.length) (h1 : cells.all (·.oneCell') = true) :
    (storeVar ty ⟨b, o, none⟩ (.agg cells)).run Tryd.prog w = .ok () (w.setRow b (splice cur o cells.toList).toArray) := by
  have h1' : ∀ v ∈ cells.toList, v.oneCell' = true := fun v hv => by
    rw [Array.all_eq_true_iff_forall_mem] at h1
    exact h1 v (by simpa using hv)
  have hst := run_storeCells_at Tryd.prog b o t cells.toList 0 cur.toArray w hg (by simpa using hfit) h1'
  have e : (cur.toArray.toList.take (o + 0) ++ cells.toList ++ cur.toArray.toList.drop (o + 0 + cells.toList.length)).toArray = (splice cur o cells.toList).toArray := by simp [splice]
  rw [e] at hst
  cases hq : Tryd.prog.info? ty with
  | none => simp [hq] at hi
  | some i =>
    have hs : cells.size = i.size := by simp [hq] at hi; omega
    simp [storeVar, sizeOf, typeInfo, hq, Value.cells, hs, hst]
theorem in_build_g {F : Fence} {n : Nat} {ops : Array Oper} {rest : List Oper} {o : Oper} {a : Act} {Q : Exit → Act → World → Prop} {w : World} (hw : Region.wanted o (yielded ops a.tmps) = true) (t : TypeId) (parts : Array (Nat × Operand)) (ho : o.op = .build t parts) (vals : Array (Nat × Value)) (v : Value) (hp : (parts.map fun (i, x) => (i, a.eval x)) = vals)
    (hr : (Instr.build t vals).run Tryd.prog w = .ok v w) (h : wpListIn F n Tryd.prog ops Q rest (a.put o.dst v) w) : wpListIn F n Tryd.prog ops Q (o :: rest) a w := by
  refine wpListIn_step fun K hK => ?_
  rw [if_pos hw]
  unfold Oper.wpIn
  refine ⟨?_, ?_⟩
  · simp [Oper.about, ho]
  · rw [Oper.semAt_plain F _ _ (by rw [ho]; intro c hc'; cases hc')]
    rw [exec_build a.eval o t parts vals v w ho hp hr]
    exact hK _ _ h
theorem in_store_row {F : Fence} {n : Nat} {ops : Array Oper} {rest : List Oper} {o : Oper} {a : Act} {w : World} {Q : Exit → Act → World → Prop} (hw : Region.wanted o (yielded ops a.tmps) = true) (ty : TypeId) (x y : Operand) (ho : o.op = .store ty x y)
    (g : Nat) (cells : Array Value) (hx : a.eval x = .pointer (some ⟨g, 0, none⟩)) (hy : a.eval y = .agg cells)
    (t : TypeId) (old : List Value) (hg : w.heap[g]? = some (.cells old.toArray t (0, 0))) (hi : (Tryd.prog.info? ty).map (·.size) = some cells.size)
    (hold : old.length = cells.size) (h1 : cells.all (·.oneCell') = true)
    (h : ∀ W', W' = w.setRow g cells → wpListIn F n Tryd.prog ops Q rest (a.put o.dst undef) W') : wpListIn F n Tryd.prog ops Q (o :: rest) a w := by
  refine wpListIn_step fun K hK => ?_
  rw [if_pos hw]
  unfold Oper.wpIn
  refine ⟨?_, ?_⟩
  · simp [Oper.about, ho]
  · rw [Oper.semAt_plain F _ _ (by rw [ho]; intro c hc'; cases hc')]
    unfold execOp
    have e : (splice old 0 cells.toList).toArray = cells := by rw [splice_all _ _ (by simp; omega)]
    simp only [ho, hx, hy, Instr.storeAt, Instr.sureAddr, Sem.run_bind, Sem.run_pure, Result.andThen_ok, run_store_seg w g 0 ty t cells old hg hi (by omega) h1, e]
    exact hK _ _ (h _ rfl)
theorem in_st {F : Fence} {n : Nat} {ops : Array Oper} {rest : List Oper} {o : Oper} {a : Act} {w : World} {Q : Exit → Act → World → Prop} (hw : Region.wanted o (yielded ops a.tmps) = true) (ty : TypeId) (x y : Operand) (ho : o.op = .store ty x y)
    (p v : Value) (hx : a.eval x = p) (hy : a.eval y = v) (w' : World) (hr : (Instr.storeAt ty p v).run Tryd.prog w = .ok () w')
    (h : ∀ W', W' = w' → wpListIn F n Tryd.prog ops Q rest (a.put o.dst undef) W') : wpListIn F n Tryd.prog ops Q (o :: rest) a w := by
  refine wpListIn_step fun K hK => ?_
  rw [if_pos hw]
  unfold Oper.wpIn
  refine ⟨?_, ?_⟩
  · simp [Oper.about, ho]
  · rw [Oper.semAt_plain F _ _ (by rw [ho]; intro c hc'; cases hc')]
    unfold execOp
    simp only [ho, hx, hy, Sem.run_bind, hr, Result.andThen_ok]
    exact hK _ _ (h _ rfl)
/-- The rows while words come. -/
def utR (n : Nat) (xs : List (List UInt8)) (bv : List UInt8) : List (Nat × TypeId × List Value) := [(n + 4, 9, [sV bv]), (n + 3, 3, [.int .i64 (xs.length : Int)]), (n + 2, 54, wL xs), (n + 1, 33, [.int .i64 0]), (n, 26, rL r0)]
def utX (n : Nat) (xs : List (List UInt8)) (bv : List UInt8) : List (Nat × TypeId × List Value) := [(n + 4, 9, [sV bv]), (n + 3, 3, [.int .i64 (xs.length : Int)]), (n + 2, 54, wL xs), (n + 1, 33, [.int .i64 4]), (n, 26, rL r0)]
def UTE (s : List UInt8) (w : World) (e : Ending) (w' : World) : Prop := ∃ r b, e = .returned (.tuple #[rV r, .int .i64 (if b = true then 0 else 4)]) ∧ TR s r b ∧ Below w.heap.size w w'
/-- The text that is told, held against the text that came in. -/
theorem txt_bne (a b : List UInt8) : (!((txt a).toList == (txt b).toList)) = !decide (a = b) := by rw [txt_beq]
theorem run_sneq (a b : List UInt8) (W : World) : (binOp .neq 9 (sV a) (sV b)).run Tryd.prog W = .ok (.bool (!decide (a = b))) W := by
  unfold sV
  go_simp
  rw [Bool.eq_iff_iff]; simp
theorem run_sguard (x y : Operand) (a b : List UInt8) (W : World) : (eqGuard .neq 9 x y (sV a) (sV b)).run Tryd.prog W = .ok () W := by
  unfold sV
  go_simp
theorem RS.tail {w X : World} {r : Nat × TypeId × List Value} {rows : List (Nat × TypeId × List Value)} (h : RS w (r :: rows) X) : RS w rows X := ⟨h.bel, fun q hq => h.low q (List.mem_cons_of_mem _ hq), (List.nodup_cons.1 (show (r.1 :: rows.map (·.1)).Nodup from h.nd)).2, fun q hq => h.row q (List.mem_cons_of_mem _ hq)⟩
theorem UD.tail {w X : World} {r : Nat × TypeId × List Value} {rows : List (Nat × TypeId × List Value)} {D : Nat} (h : UD w (r :: rows) D X) : UD w rows D X := ⟨h.rs.tail, h.d⟩
theorem wp_only {c : Code} {Q : Exit → Act → World → Prop} {a : Act} {w : World} (h : c.wp Tryd.prog (Exit.then (fun a w => Q .normal a w) (fun _ _ _ => False)) a w) : c.wp Tryd.prog Q a w := Code.wp_mono (fun e a w h => by cases e <;> first | exact h | exact h.elim) h
theorem ko_row {X : World} {b : Nat} {L : List Value} {t : TypeId} (h : X.heap[b]? = some (.cells L.toArray t (0, 0))) (M : Array Value) : KeepsOthers X (X.setRow b M) := ⟨by rw [setRow_size]; exact Nat.le_refl _, fun k o hk ho => by
  by_cases e : k = b
  · rw [e, h] at hk; cases hk; cases ho
  · rw [← hk]; simp [World.setRow, Array.getElem?_modify, Ne.symm e]⟩
set_option maxHeartbeats 4000000 in
set_option maxRecDepth 100000 in
theorem puntext_any (s : List UInt8) (hl : s.length ≤ 1000000) (w : World) (hG : GV w) : Calls Tryd.prog 19 #[sV s] w fun e w' => UTE s w e w' := by
  have hz := zero_rp
  have hz6 := zero_6
  have hbd := build_rp
  have HI0A : Hid _ := infRA r0_ok
  have H01 : Hid _ := rL_one r0
  have HI0 : Hid _ := infR r0_ok
  have HR0 : Hid _ := (((((RS.start w).alloc _ rfl 26 (rL r0)).alloc (w.heap.size + 1) (by simp) 33 [.int .i64 0]).alloc (w.heap.size + 2) (by simp) 54 (wL [])).alloc (w.heap.size + 3) (by simp) 3 [.int .i64 0]).alloc (w.heap.size + 4) (by simp) 9 [sV s]
  have HWD : Hid (∀ W : World, W.heap.size = w.heap.size + 4 → Calls Tryd.prog 34 #[sV s] W fun e w' => e = .returned (.func (.func 48) #[] #[pB (w.heap.size + 4)]) ∧ w' = W.alloc (.cells [sV s].toArray 9 (0, 0))) := fun W hW => by rw [← hW]; exact words_any s W
  have HG : Hid _ := hG
  have HL : Hid _ := hl
  clear hG hl
  refine calls_marks Tryd.func19 rfl ?_
  simp only [Tryd.ntmps19, List.size_toArray, List.length_cons, List.length_nil, Nat.reduceAdd, Nat.reduceSub, Array.replicate_succ, Array.replicate_zero, List.push_toArray, List.append_toArray, List.nil_append, List.cons_append]
  go_wp2_with (go_at_call 34; fail)
  refine Calls.mono (HWD.out _ (by simp)) ?_
  rintro e w6 ⟨rfl, hw6⟩
  have hR6 : RS w (utR w.heap.size [] s) w6 := by rw [hw6]; exact HR0.out
  have HR6 : Hid _ := hR6
  have HS6 : Hid (w6.heap.size = w.heap.size + 5) := by show _ = _; rw [hw6]; simp
  clear hw6 HR0 hR6 HWD
  go_wp2
  refine (wpIn_wide (n := 9)).1 ?_
  have hsw : w.heap.size ≤ w6.heap.size := by have := HS6.out; omega
  refine wpIn_rangeFunc_ownF (F := Fence.wide) (n := 9) rfl (by omega) (gf := 48) (lb := #[pB (w.heap.size + 4)]) rfl trivial (enters_of Tryd.func48 (by kernel_rfl) rfl)
    (words_stops 8 (by omega) (w.heap.size + 4) s HL.out w6 (HR6.out.cell 0 rfl 0 rfl)) (fun _ _ => trivial) (fun _ _ _ _ _ _ _ _ => trivial) (Below.refl _ _) (fun _ => rfl)
    (fun pre W => RS w (utR w.heap.size pre s) W ∧ pre.length ≤ 6) (fun c pre W => (c = .ret ∧ pre.length = 7) ∧ RS w (utX w.heap.size (List.dropLast pre) s) W)
    (OwnFrom.and (rs_own (fun pre : List (List UInt8) => utR w.heap.size pre s) hsw) (ownFrom_pure _ (fun pre : List (List UInt8) => pre.length ≤ 6))) (fun c => OwnFrom.and (ownFrom_pure _ (fun pre : List (List UInt8) => c = .ret ∧ pre.length = 7)) (rs_own (fun pre : List (List UInt8) => utX w.heap.size (List.dropLast pre) s) hsw)) ⟨HR6.out, by simp⟩
    (fun x => { tmps := #[sV s, undef, .pointer (some ⟨w.heap.size, 0, none⟩), .pointer (some ⟨w.heap.size + 1, 0, none⟩), .pointer (some ⟨w.heap.size + 1 + 1, 0, none⟩), .pointer (some ⟨w.heap.size + 1 + 1 + 1, 0, none⟩), sV x, undef, sV s, .func (.func 48) #[] #[pB (w.heap.size + 4)], sV x, undef, undef, undef, undef, undef, undef, undef, undef, undef, undef, undef, undef, undef, undef, undef, undef, undef, undef, undef, undef, undef, undef, undef, undef], defers := [] })
    ?assign ?body ?done ?stop
  case assign =>
    intro l x W K hK
    gi_wp2
    exact hK
  case body =>
    rintro l pre x W ⟨hRS, hpl⟩ hlt
    clear hlt HR6 HS6 hsw
    by_cases h6 : pre.length = 6
    · have hc : W.cell? ⟨w.heap.size + 1 + 1 + 1, 0, none⟩ = some (.int .i64 6) := by have := hRS.cell 1 rfl 0 rfl; rw [h6] at this; exact this
      have HRS : Hid _ := hRS
      have HLN : Hid ((pre ++ [x]).length = 7) := by show _ = _; simp [h6]
      clear hRS hpl h6
      gi_wp2_with (first
        | (refine in_store_row (by rfl) 26 (.tmp 2) (.tmp 13) rfl w.heap.size (rL r0).toArray rfl rfl 26 (rL r0) (HRS.out.at 4 rfl) HI0A.out rfl H01.out ?_; intro V hV; have HRS2 : Hid (RS w (utR w.heap.size pre s) V) := (by rw [hV]; exact HRS.out.put 4 rfl (rL r0)); have HK2 : Hid (KeepsOthers W V) := (by rw [hV]; exact ko_row (HRS.out.at 4 rfl) _); clear hV)
        | (refine in_st (by rfl) 33 (.tmp 3) _ rfl _ (.int .i64 4) rfl rfl _ (run_stE V (w.heap.size + 1) 0 [.int .i64 0] 33 (HRS2.out.at 3 rfl) (by decide) 4) ?_; intro V2 hV2; have HRS3 : Hid (RS w (utX w.heap.size pre s) V2) := (by rw [hV2]; exact HRS2.out.poke 3 rfl 0 _ rfl); have HK3 : Hid (KeepsOthers W V2) := (by rw [hV2]; exact HK2.out.trans (KeepsOthers.setCell _ _ _)); clear hV2)
        | gi_in)
      exact ⟨HK3.out, ⟨rfl, HLN.out⟩, by rw [List.dropLast_concat]; exact HRS3.out⟩
    · have HRS : Hid _ := hRS
      have HPL : Hid (pre.length < 6) := by show _ < _; omega
      have h6' : pre.length = 0 ∨ pre.length = 1 ∨ pre.length = 2 ∨ pre.length = 3 ∨ pre.length = 4 ∨ pre.length = 5 := by omega
      clear hRS hpl h6
      rcases h6' with hk | hk | hk | hk | hk | hk
      · have hc : W.cell? ⟨w.heap.size + 1 + 1 + 1, 0, none⟩ = some (.int .i64 0) := by have := HRS.out.cell 1 rfl 0 rfl; rw [hk] at this; exact this
        have HST : Hid ((wL pre).set 0 (sV x) = wL (pre ++ [x])) := by show _ = _; rw [← hk]; exact wL_set HPL.out x
        have HWL : Hid (0 < (wL pre).length) := by show _ < _; rw [wL_len (Nat.le_of_lt HPL.out)]; decide
        have HLE : Hid ((pre ++ [x]).length ≤ 6) := by show _ ≤ _; rw [List.length_append]; exact HPL.out
        have HKN : Hid (((pre ++ [x]).length : Int) = 1) := by show _ = _; rw [List.length_append, hk]; rfl
        have HKO : Hid ((pre.length : Int) = 0) := by show _ = _; rw [hk]; rfl
        clear hk
        gi_wp2_with (first
          | (refine in_st (by rfl) 9 (.tmp 16) (.tmp 15) rfl _ (sV x) rfl rfl _ (run_stS W (w.heap.size + 1 + 1) 0 (wL pre) 54 (HRS.out.at 2 rfl) HWL.out x) ?_; intro V hV; have hc2 : V.cell? ⟨w.heap.size + 1 + 1 + 1, 0, none⟩ = some (.int .i64 0) := (by have := (HRS.out.poke 2 rfl 0 (sV x) HST.out).cell 1 rfl 0 rfl; rw [HKO.out] at this; rw [hV]; exact this); have HRS2 : Hid (RS w [(w.heap.size + 4, 9, [sV s]), (w.heap.size + 3, 3, [.int .i64 0]), (w.heap.size + 2, 54, wL (pre ++ [x])), (w.heap.size + 1, 33, [.int .i64 0]), (w.heap.size, 26, rL r0)] V) := (by have q : RS w [(w.heap.size + 4, 9, [sV s]), (w.heap.size + 3, 3, [.int .i64 (pre.length : Int)]), (w.heap.size + 2, 54, wL (pre ++ [x])), (w.heap.size + 1, 33, [.int .i64 0]), (w.heap.size, 26, rL r0)] (W.setCell ⟨w.heap.size + 1 + 1, 0, none⟩ (sV x)) := (HRS.out.poke 2 rfl 0 (sV x) HST.out); rw [HKO.out] at q; rw [hV]; exact q); have HK2 : Hid (KeepsOthers W V) := (by rw [hV]; exact KeepsOthers.setCell _ _ _); clear hV)
          | (refine in_st (by rfl) 3 (.tmp 5) (.tmp 18) rfl _ (.int .i64 1) rfl rfl _ (run_stI V (w.heap.size + 1 + 1 + 1) 0 [.int .i64 0] 3 (HRS2.out.at 1 rfl) (by decide) 1) ?_; intro V2 hV2; have HRS3 : Hid (RS w (utR w.heap.size (pre ++ [x]) s) V2) := (by rw [hV2]; unfold utR; rw [HKN.out]; exact HRS2.out.poke 1 rfl 0 _ rfl); have HK3 : Hid (KeepsOthers W V2) := (by rw [hV2]; exact HK2.out.trans (KeepsOthers.setCell _ _ _)); clear hV2)
          | gi_in)
        exact ⟨HK3.out, trivial, HRS3.out, HLE.out⟩
      · have hc : W.cell? ⟨w.heap.size + 1 + 1 + 1, 0, none⟩ = some (.int .i64 1) := by have := HRS.out.cell 1 rfl 0 rfl; rw [hk] at this; exact this
        have HST : Hid ((wL pre).set 1 (sV x) = wL (pre ++ [x])) := by show _ = _; rw [← hk]; exact wL_set HPL.out x
        have HWL : Hid (1 < (wL pre).length) := by show _ < _; rw [wL_len (Nat.le_of_lt HPL.out)]; decide
        have HLE : Hid ((pre ++ [x]).length ≤ 6) := by show _ ≤ _; rw [List.length_append]; exact HPL.out
        have HKN : Hid (((pre ++ [x]).length : Int) = 2) := by show _ = _; rw [List.length_append, hk]; rfl
        have HKO : Hid ((pre.length : Int) = 1) := by show _ = _; rw [hk]; rfl
        clear hk
        gi_wp2_with (first
          | (refine in_st (by rfl) 9 (.tmp 16) (.tmp 15) rfl _ (sV x) rfl rfl _ (run_stS W (w.heap.size + 1 + 1) 1 (wL pre) 54 (HRS.out.at 2 rfl) HWL.out x) ?_; intro V hV; have hc2 : V.cell? ⟨w.heap.size + 1 + 1 + 1, 0, none⟩ = some (.int .i64 1) := (by have := (HRS.out.poke 2 rfl 1 (sV x) HST.out).cell 1 rfl 0 rfl; rw [HKO.out] at this; rw [hV]; exact this); have HRS2 : Hid (RS w [(w.heap.size + 4, 9, [sV s]), (w.heap.size + 3, 3, [.int .i64 1]), (w.heap.size + 2, 54, wL (pre ++ [x])), (w.heap.size + 1, 33, [.int .i64 0]), (w.heap.size, 26, rL r0)] V) := (by have q : RS w [(w.heap.size + 4, 9, [sV s]), (w.heap.size + 3, 3, [.int .i64 (pre.length : Int)]), (w.heap.size + 2, 54, wL (pre ++ [x])), (w.heap.size + 1, 33, [.int .i64 0]), (w.heap.size, 26, rL r0)] (W.setCell ⟨w.heap.size + 1 + 1, 1, none⟩ (sV x)) := (HRS.out.poke 2 rfl 1 (sV x) HST.out); rw [HKO.out] at q; rw [hV]; exact q); have HK2 : Hid (KeepsOthers W V) := (by rw [hV]; exact KeepsOthers.setCell _ _ _); clear hV)
          | (refine in_st (by rfl) 3 (.tmp 5) (.tmp 18) rfl _ (.int .i64 2) rfl rfl _ (run_stI V (w.heap.size + 1 + 1 + 1) 0 [.int .i64 1] 3 (HRS2.out.at 1 rfl) (by decide) 2) ?_; intro V2 hV2; have HRS3 : Hid (RS w (utR w.heap.size (pre ++ [x]) s) V2) := (by rw [hV2]; unfold utR; rw [HKN.out]; exact HRS2.out.poke 1 rfl 0 _ rfl); have HK3 : Hid (KeepsOthers W V2) := (by rw [hV2]; exact HK2.out.trans (KeepsOthers.setCell _ _ _)); clear hV2)
          | gi_in)
        exact ⟨HK3.out, trivial, HRS3.out, HLE.out⟩
      · have hc : W.cell? ⟨w.heap.size + 1 + 1 + 1, 0, none⟩ = some (.int .i64 2) := by have := HRS.out.cell 1 rfl 0 rfl; rw [hk] at this; exact this
        have HST : Hid ((wL pre).set 2 (sV x) = wL (pre ++ [x])) := by show _ = _; rw [← hk]; exact wL_set HPL.out x
        have HWL : Hid (2 < (wL pre).length) := by show _ < _; rw [wL_len (Nat.le_of_lt HPL.out)]; decide
        have HLE : Hid ((pre ++ [x]).length ≤ 6) := by show _ ≤ _; rw [List.length_append]; exact HPL.out
        have HKN : Hid (((pre ++ [x]).length : Int) = 3) := by show _ = _; rw [List.length_append, hk]; rfl
        have HKO : Hid ((pre.length : Int) = 2) := by show _ = _; rw [hk]; rfl
        clear hk
        gi_wp2_with (first
          | (refine in_st (by rfl) 9 (.tmp 16) (.tmp 15) rfl _ (sV x) rfl rfl _ (run_stS W (w.heap.size + 1 + 1) 2 (wL pre) 54 (HRS.out.at 2 rfl) HWL.out x) ?_; intro V hV; have hc2 : V.cell? ⟨w.heap.size + 1 + 1 + 1, 0, none⟩ = some (.int .i64 2) := (by have := (HRS.out.poke 2 rfl 2 (sV x) HST.out).cell 1 rfl 0 rfl; rw [HKO.out] at this; rw [hV]; exact this); have HRS2 : Hid (RS w [(w.heap.size + 4, 9, [sV s]), (w.heap.size + 3, 3, [.int .i64 2]), (w.heap.size + 2, 54, wL (pre ++ [x])), (w.heap.size + 1, 33, [.int .i64 0]), (w.heap.size, 26, rL r0)] V) := (by have q : RS w [(w.heap.size + 4, 9, [sV s]), (w.heap.size + 3, 3, [.int .i64 (pre.length : Int)]), (w.heap.size + 2, 54, wL (pre ++ [x])), (w.heap.size + 1, 33, [.int .i64 0]), (w.heap.size, 26, rL r0)] (W.setCell ⟨w.heap.size + 1 + 1, 2, none⟩ (sV x)) := (HRS.out.poke 2 rfl 2 (sV x) HST.out); rw [HKO.out] at q; rw [hV]; exact q); have HK2 : Hid (KeepsOthers W V) := (by rw [hV]; exact KeepsOthers.setCell _ _ _); clear hV)
          | (refine in_st (by rfl) 3 (.tmp 5) (.tmp 18) rfl _ (.int .i64 3) rfl rfl _ (run_stI V (w.heap.size + 1 + 1 + 1) 0 [.int .i64 2] 3 (HRS2.out.at 1 rfl) (by decide) 3) ?_; intro V2 hV2; have HRS3 : Hid (RS w (utR w.heap.size (pre ++ [x]) s) V2) := (by rw [hV2]; unfold utR; rw [HKN.out]; exact HRS2.out.poke 1 rfl 0 _ rfl); have HK3 : Hid (KeepsOthers W V2) := (by rw [hV2]; exact HK2.out.trans (KeepsOthers.setCell _ _ _)); clear hV2)
          | gi_in)
        exact ⟨HK3.out, trivial, HRS3.out, HLE.out⟩
      · have hc : W.cell? ⟨w.heap.size + 1 + 1 + 1, 0, none⟩ = some (.int .i64 3) := by have := HRS.out.cell 1 rfl 0 rfl; rw [hk] at this; exact this
        have HST : Hid ((wL pre).set 3 (sV x) = wL (pre ++ [x])) := by show _ = _; rw [← hk]; exact wL_set HPL.out x
        have HWL : Hid (3 < (wL pre).length) := by show _ < _; rw [wL_len (Nat.le_of_lt HPL.out)]; decide
        have HLE : Hid ((pre ++ [x]).length ≤ 6) := by show _ ≤ _; rw [List.length_append]; exact HPL.out
        have HKN : Hid (((pre ++ [x]).length : Int) = 4) := by show _ = _; rw [List.length_append, hk]; rfl
        have HKO : Hid ((pre.length : Int) = 3) := by show _ = _; rw [hk]; rfl
        clear hk
        gi_wp2_with (first
          | (refine in_st (by rfl) 9 (.tmp 16) (.tmp 15) rfl _ (sV x) rfl rfl _ (run_stS W (w.heap.size + 1 + 1) 3 (wL pre) 54 (HRS.out.at 2 rfl) HWL.out x) ?_; intro V hV; have hc2 : V.cell? ⟨w.heap.size + 1 + 1 + 1, 0, none⟩ = some (.int .i64 3) := (by have := (HRS.out.poke 2 rfl 3 (sV x) HST.out).cell 1 rfl 0 rfl; rw [HKO.out] at this; rw [hV]; exact this); have HRS2 : Hid (RS w [(w.heap.size + 4, 9, [sV s]), (w.heap.size + 3, 3, [.int .i64 3]), (w.heap.size + 2, 54, wL (pre ++ [x])), (w.heap.size + 1, 33, [.int .i64 0]), (w.heap.size, 26, rL r0)] V) := (by have q : RS w [(w.heap.size + 4, 9, [sV s]), (w.heap.size + 3, 3, [.int .i64 (pre.length : Int)]), (w.heap.size + 2, 54, wL (pre ++ [x])), (w.heap.size + 1, 33, [.int .i64 0]), (w.heap.size, 26, rL r0)] (W.setCell ⟨w.heap.size + 1 + 1, 3, none⟩ (sV x)) := (HRS.out.poke 2 rfl 3 (sV x) HST.out); rw [HKO.out] at q; rw [hV]; exact q); have HK2 : Hid (KeepsOthers W V) := (by rw [hV]; exact KeepsOthers.setCell _ _ _); clear hV)
          | (refine in_st (by rfl) 3 (.tmp 5) (.tmp 18) rfl _ (.int .i64 4) rfl rfl _ (run_stI V (w.heap.size + 1 + 1 + 1) 0 [.int .i64 3] 3 (HRS2.out.at 1 rfl) (by decide) 4) ?_; intro V2 hV2; have HRS3 : Hid (RS w (utR w.heap.size (pre ++ [x]) s) V2) := (by rw [hV2]; unfold utR; rw [HKN.out]; exact HRS2.out.poke 1 rfl 0 _ rfl); have HK3 : Hid (KeepsOthers W V2) := (by rw [hV2]; exact HK2.out.trans (KeepsOthers.setCell _ _ _)); clear hV2)
          | gi_in)
        exact ⟨HK3.out, trivial, HRS3.out, HLE.out⟩
      · have hc : W.cell? ⟨w.heap.size + 1 + 1 + 1, 0, none⟩ = some (.int .i64 4) := by have := HRS.out.cell 1 rfl 0 rfl; rw [hk] at this; exact this
        have HST : Hid ((wL pre).set 4 (sV x) = wL (pre ++ [x])) := by show _ = _; rw [← hk]; exact wL_set HPL.out x
        have HWL : Hid (4 < (wL pre).length) := by show _ < _; rw [wL_len (Nat.le_of_lt HPL.out)]; decide
        have HLE : Hid ((pre ++ [x]).length ≤ 6) := by show _ ≤ _; rw [List.length_append]; exact HPL.out
        have HKN : Hid (((pre ++ [x]).length : Int) = 5) := by show _ = _; rw [List.length_append, hk]; rfl
        have HKO : Hid ((pre.length : Int) = 4) := by show _ = _; rw [hk]; rfl
        clear hk
        gi_wp2_with (first
          | (refine in_st (by rfl) 9 (.tmp 16) (.tmp 15) rfl _ (sV x) rfl rfl _ (run_stS W (w.heap.size + 1 + 1) 4 (wL pre) 54 (HRS.out.at 2 rfl) HWL.out x) ?_; intro V hV; have hc2 : V.cell? ⟨w.heap.size + 1 + 1 + 1, 0, none⟩ = some (.int .i64 4) := (by have := (HRS.out.poke 2 rfl 4 (sV x) HST.out).cell 1 rfl 0 rfl; rw [HKO.out] at this; rw [hV]; exact this); have HRS2 : Hid (RS w [(w.heap.size + 4, 9, [sV s]), (w.heap.size + 3, 3, [.int .i64 4]), (w.heap.size + 2, 54, wL (pre ++ [x])), (w.heap.size + 1, 33, [.int .i64 0]), (w.heap.size, 26, rL r0)] V) := (by have q : RS w [(w.heap.size + 4, 9, [sV s]), (w.heap.size + 3, 3, [.int .i64 (pre.length : Int)]), (w.heap.size + 2, 54, wL (pre ++ [x])), (w.heap.size + 1, 33, [.int .i64 0]), (w.heap.size, 26, rL r0)] (W.setCell ⟨w.heap.size + 1 + 1, 4, none⟩ (sV x)) := (HRS.out.poke 2 rfl 4 (sV x) HST.out); rw [HKO.out] at q; rw [hV]; exact q); have HK2 : Hid (KeepsOthers W V) := (by rw [hV]; exact KeepsOthers.setCell _ _ _); clear hV)
          | (refine in_st (by rfl) 3 (.tmp 5) (.tmp 18) rfl _ (.int .i64 5) rfl rfl _ (run_stI V (w.heap.size + 1 + 1 + 1) 0 [.int .i64 4] 3 (HRS2.out.at 1 rfl) (by decide) 5) ?_; intro V2 hV2; have HRS3 : Hid (RS w (utR w.heap.size (pre ++ [x]) s) V2) := (by rw [hV2]; unfold utR; rw [HKN.out]; exact HRS2.out.poke 1 rfl 0 _ rfl); have HK3 : Hid (KeepsOthers W V2) := (by rw [hV2]; exact HK2.out.trans (KeepsOthers.setCell _ _ _)); clear hV2)
          | gi_in)
        exact ⟨HK3.out, trivial, HRS3.out, HLE.out⟩
      · have hc : W.cell? ⟨w.heap.size + 1 + 1 + 1, 0, none⟩ = some (.int .i64 5) := by have := HRS.out.cell 1 rfl 0 rfl; rw [hk] at this; exact this
        have HST : Hid ((wL pre).set 5 (sV x) = wL (pre ++ [x])) := by show _ = _; rw [← hk]; exact wL_set HPL.out x
        have HWL : Hid (5 < (wL pre).length) := by show _ < _; rw [wL_len (Nat.le_of_lt HPL.out)]; decide
        have HLE : Hid ((pre ++ [x]).length ≤ 6) := by show _ ≤ _; rw [List.length_append]; exact HPL.out
        have HKN : Hid (((pre ++ [x]).length : Int) = 6) := by show _ = _; rw [List.length_append, hk]; rfl
        have HKO : Hid ((pre.length : Int) = 5) := by show _ = _; rw [hk]; rfl
        clear hk
        gi_wp2_with (first
          | (refine in_st (by rfl) 9 (.tmp 16) (.tmp 15) rfl _ (sV x) rfl rfl _ (run_stS W (w.heap.size + 1 + 1) 5 (wL pre) 54 (HRS.out.at 2 rfl) HWL.out x) ?_; intro V hV; have hc2 : V.cell? ⟨w.heap.size + 1 + 1 + 1, 0, none⟩ = some (.int .i64 5) := (by have := (HRS.out.poke 2 rfl 5 (sV x) HST.out).cell 1 rfl 0 rfl; rw [HKO.out] at this; rw [hV]; exact this); have HRS2 : Hid (RS w [(w.heap.size + 4, 9, [sV s]), (w.heap.size + 3, 3, [.int .i64 5]), (w.heap.size + 2, 54, wL (pre ++ [x])), (w.heap.size + 1, 33, [.int .i64 0]), (w.heap.size, 26, rL r0)] V) := (by have q : RS w [(w.heap.size + 4, 9, [sV s]), (w.heap.size + 3, 3, [.int .i64 (pre.length : Int)]), (w.heap.size + 2, 54, wL (pre ++ [x])), (w.heap.size + 1, 33, [.int .i64 0]), (w.heap.size, 26, rL r0)] (W.setCell ⟨w.heap.size + 1 + 1, 5, none⟩ (sV x)) := (HRS.out.poke 2 rfl 5 (sV x) HST.out); rw [HKO.out] at q; rw [hV]; exact q); have HK2 : Hid (KeepsOthers W V) := (by rw [hV]; exact KeepsOthers.setCell _ _ _); clear hV)
          | (refine in_st (by rfl) 3 (.tmp 5) (.tmp 18) rfl _ (.int .i64 6) rfl rfl _ (run_stI V (w.heap.size + 1 + 1 + 1) 0 [.int .i64 5] 3 (HRS2.out.at 1 rfl) (by decide) 6) ?_; intro V2 hV2; have HRS3 : Hid (RS w (utR w.heap.size (pre ++ [x]) s) V2) := (by rw [hV2]; unfold utR; rw [HKN.out]; exact HRS2.out.poke 1 rfl 0 _ rfl); have HK3 : Hid (KeepsOthers W V2) := (by rw [hV2]; exact HK2.out.trans (KeepsOthers.setCell _ _ _)); clear hV2)
          | gi_in)
        exact ⟨HK3.out, trivial, HRS3.out, HLE.out⟩
  case done =>
    rintro D xs W hD rfl ⟨hRS, hpl⟩ hd
    have hUD : UD w (utR w.heap.size (splitR s) s) D W := ⟨hRS, hd⟩
    have HUD : Hid _ := hUD
    have HPL : Hid _ := hpl
    have HDW : Hid (w.heap.size ≤ D) := by show _ ≤ _; omega
    clear hUD hRS hd hpl hD HR6 HS6 hsw
    have HCN : Hid (∀ X, Below w.heap.size w X → _) := fun X (hb : Below w.heap.size w X) => count_any ((splitR s).getD 1 []) (Nat.le_trans (getD_len 1) HL.out) X (HG.out.below hb)
    have HD3 : Hid _ := fun X => pdig_any ((splitR s).getD 3 []) (Nat.le_trans (getD_len 3) HL.out) X
    have HD5 : Hid _ := fun X => pdig_any ((splitR s).getD 5 []) (Nat.le_trans (getD_len 5) HL.out) X
    have HB3 : Hid (∀ (n : Nat) X, (Instr.build 26 #[(0, .int .u64 (n : Int)), (1, .agg ((dgT ((splitR s).getD 3 [])).map B8).toArray), (2, .agg ((dgT ((splitR s).getD 5 [])).map B8).toArray)]).run Tryd.prog X = .ok (rV (rdT s n)) X) := fun n X => build_rp3 _ _ _ (by rw [List.length_map]; exact dgT_len _) (by rw [List.length_map]; exact dgT_len _) X
    go_wp2_with fail
    refine wp_only ?_
    refine wp_region_held_drew (S := fun X => UD w (utR w.heap.size (splitR s) s) D X) (by kernel_rfl) (HUD.out.step (Below.refl _ _).drew) (fun hHeld => ?_)
    generalize World.drew _ = V0 at *
    refine wpAnyH_take (i := 0) (oi := { dst := some 19, op := Go.Op.indexAddr 54 (Go.Operand.tmp 4) (Go.Operand.const (Go.Value.int Go.IntKind.i64 1)), type := 0, pos := _, after := #[], guard := none }) (v := .pointer (some ⟨w.heap.size + 1 + 1, 1, none⟩)) rfl (by kernel_rfl) (by kernel_rfl) (by kernel_rfl) (fun _ _ _ h => h) (Or.inl ⟨by rfl, fun w' hw' => ?_⟩) hHeld ?_
    · first | (go_simp; done) | (go_simp; rfl)
    try simp only [Act.put, List.setIfInBounds_toArray, List.set_cons_zero, List.set_cons_succ]
    refine wpAnyH_take (i := 1) (oi := { dst := some 20, op := Go.Op.load 9 (Go.Operand.tmp 19), type := 9, pos := _, after := #[{ on := 0, ground := Go.Ground.data }], guard := none }) (v := sV ((splitR s).getD 1 [])) rfl (by kernel_rfl) (by kernel_rfl) (by kernel_rfl) (fun _ _ _ h => h) (Or.inl ⟨by rfl, fun w' hw' => ?_⟩) hHeld ?_
    · have hcc := RS.cell (b := w.heap.size + 1 + 1) (UD.rs hw') 2 rfl 1 (wL_get HPL.out (by decide)); first | (go_simp; done) | (go_simp; rfl)
    try simp only [Act.put, List.setIfInBounds_toArray, List.set_cons_zero, List.set_cons_succ]
    refine wpAnyH_take (i := 3) (oi := { dst := some 22, op := Go.Op.indexAddr 54 (Go.Operand.tmp 4) (Go.Operand.const (Go.Value.int Go.IntKind.i64 3)), type := 0, pos := _, after := #[], guard := none }) (v := .pointer (some ⟨w.heap.size + 1 + 1, 3, none⟩)) rfl (by kernel_rfl) (by kernel_rfl) (by kernel_rfl) (fun _ _ _ h => h) (Or.inl ⟨by rfl, fun w' hw' => ?_⟩) hHeld ?_
    · first | (go_simp; done) | (go_simp; rfl)
    try simp only [Act.put, List.setIfInBounds_toArray, List.set_cons_zero, List.set_cons_succ]
    refine wpAnyH_take (i := 4) (oi := { dst := some 23, op := Go.Op.load 9 (Go.Operand.tmp 22), type := 9, pos := _, after := #[{ on := 3, ground := Go.Ground.data }], guard := none }) (v := sV ((splitR s).getD 3 [])) rfl (by kernel_rfl) (by kernel_rfl) (by kernel_rfl) (fun _ _ _ h => h) (Or.inl ⟨by rfl, fun w' hw' => ?_⟩) hHeld ?_
    · have hcc := RS.cell (b := w.heap.size + 1 + 1) (UD.rs hw') 2 rfl 3 (wL_get HPL.out (by decide)); first | (go_simp; done) | (go_simp; rfl)
    try simp only [Act.put, List.setIfInBounds_toArray, List.set_cons_zero, List.set_cons_succ]
    refine wpAnyH_take (i := 6) (oi := { dst := some 25, op := Go.Op.indexAddr 54 (Go.Operand.tmp 4) (Go.Operand.const (Go.Value.int Go.IntKind.i64 5)), type := 0, pos := _, after := #[], guard := none }) (v := .pointer (some ⟨w.heap.size + 1 + 1, 5, none⟩)) rfl (by kernel_rfl) (by kernel_rfl) (by kernel_rfl) (fun _ _ _ h => h) (Or.inl ⟨by rfl, fun w' hw' => ?_⟩) hHeld ?_
    · first | (go_simp; done) | (go_simp; rfl)
    try simp only [Act.put, List.setIfInBounds_toArray, List.set_cons_zero, List.set_cons_succ]
    refine wpAnyH_take (i := 7) (oi := { dst := some 26, op := Go.Op.load 9 (Go.Operand.tmp 25), type := 9, pos := _, after := #[{ on := 6, ground := Go.Ground.data }], guard := none }) (v := sV ((splitR s).getD 5 [])) rfl (by kernel_rfl) (by kernel_rfl) (by kernel_rfl) (fun _ _ _ h => h) (Or.inl ⟨by rfl, fun w' hw' => ?_⟩) hHeld ?_
    · have hcc := RS.cell (b := w.heap.size + 1 + 1) (UD.rs hw') 2 rfl 5 (wL_get HPL.out (by decide)); first | (go_simp; done) | (go_simp; rfl)
    try simp only [Act.put, List.setIfInBounds_toArray, List.set_cons_zero, List.set_cons_succ]
    refine wpAnyH_ready (rs := [2, 10]) (by kernel_rfl) (by simp) ?_
    refine AllReadyH.cons (o := { dst := some 21, op := Go.Op.call { callee := Go.Callee.value (Go.Operand.func 35), args := #[Go.Operand.tmp 20], argTypes := #[9] }, type := 22, pos := _, after := #[{ on := 1, ground := Go.Ground.data }], guard := none }) rfl (fun K hK => ?_) (AllReadyH.cons (o := { dst := some 7, op := Go.Op.alloc 26, type := 0, pos := _, after := #[], guard := none }) rfl (fun K hK => ?_) AllReadyH.nil)
    all_goals rw [if_pos (by rfl)]
    · skip
      go_wp2_with fail
      refine Calls.mono (HCN.out _ hHeld.rs.bel) ?_
      rintro e V1 ⟨n, rfl, hn, hnu, hb⟩
      have HNB : Hid _ := hn
      have HNU : Hid _ := hnu
      clear hn hnu
      replace hHeld := UD.step hHeld hb
      clear hb
      refine hK.out _ _ hHeld (fun _ => ?_)
      clear hK K
      try simp only [Act.put, List.setIfInBounds_toArray, List.set_cons_zero, List.set_cons_succ]
      refine wpAnyH_ready (rs := [5, 10]) (by kernel_rfl) (by simp) ?_
      refine AllReadyH.cons (o := { dst := some 24, op := Go.Op.call { callee := Go.Callee.value (Go.Operand.func 36), args := #[Go.Operand.tmp 23], argTypes := #[9] }, type := 24, pos := _, after := #[{ on := 4, ground := Go.Ground.data }, { on := 2, ground := Go.Ground.chain }], guard := none }) rfl (fun K hK => ?_) (AllReadyH.cons (o := { dst := some 7, op := Go.Op.alloc 26, type := 0, pos := _, after := #[], guard := none }) rfl (fun K hK => ?_) AllReadyH.nil)
      all_goals rw [if_pos (by rfl)]
      · skip
        go_wp2_with fail
        refine Calls.mono (HD3.out _) ?_
        rintro e V2 ⟨rfl, hb⟩
        replace hHeld := UD.step hHeld hb
        clear hb
        refine hK.out _ _ hHeld (fun _ => ?_)
        clear hK K
        try simp only [Act.put, List.setIfInBounds_toArray, List.set_cons_zero, List.set_cons_succ]
        refine wpAnyH_ready (rs := [8, 10]) (by kernel_rfl) (by simp) ?_
        refine AllReadyH.cons (o := { dst := some 27, op := Go.Op.call { callee := Go.Callee.value (Go.Operand.func 36), args := #[Go.Operand.tmp 26], argTypes := #[9] }, type := 24, pos := _, after := #[{ on := 7, ground := Go.Ground.data }, { on := 5, ground := Go.Ground.chain }], guard := none }) rfl (fun K hK => ?_) (AllReadyH.cons (o := { dst := some 7, op := Go.Op.alloc 26, type := 0, pos := _, after := #[], guard := none }) rfl (fun K hK => ?_) AllReadyH.nil)
        all_goals rw [if_pos (by rfl)]
        · skip
          go_wp2_with fail
          refine Calls.mono (HD5.out _) ?_
          rintro e V3 ⟨rfl, hb⟩
          replace hHeld := UD.step hHeld hb
          clear hb
          refine hK.out _ _ hHeld (fun _ => ?_)
          clear hK K
          try simp only [Act.put, List.setIfInBounds_toArray, List.set_cons_zero, List.set_cons_succ]
          refine wpAnyH_take (i := 9) (oi := { dst := some 28, op := Go.Op.build 26 #[(0, Go.Operand.tmp 21), (1, Go.Operand.tmp 24), (2, Go.Operand.tmp 27)], type := 26, pos := _, after := #[{ on := 2, ground := Go.Ground.data }, { on := 5, ground := Go.Ground.data }, { on := 8, ground := Go.Ground.data }], guard := none }) (v := rV (rdT s n)) rfl (by kernel_rfl) (by kernel_rfl) (by kernel_rfl) (fun _ _ _ h => h) (Or.inl ⟨by rfl, fun w' hw' => ?_⟩) hHeld ?_
          · exact exec_build _ _ _ _ _ _ _ rfl (by simp; exact ⟨rfl, rfl, rfl⟩) (HB3.out n w')
          try simp only [Act.put, List.setIfInBounds_toArray, List.set_cons_zero, List.set_cons_succ]
          refine wpAnyH_ready (rs := [10]) (by kernel_rfl) (by simp) ?_
          refine AllReadyH.cons (o := { dst := some 7, op := Go.Op.alloc 26, type := 0, pos := _, after := #[], guard := none }) rfl (fun K hK => ?_) AllReadyH.nil
          rw [if_pos (by rfl)]
          go_wp2_with fail
          have hN := UD.alloc hHeld V3.heap.size rfl 26 (rL r0)
          replace hHeld := UD.step hHeld ((Below.refl V3.heap.size V3).alloc (Nat.le_refl _) (.cells (rL r0).toArray 26 (0, 0)))
          generalize V3.alloc (.cells (rL r0).toArray 26 (0, 0)) = V4 at *
          generalize V3.heap.size = nb at *
          refine hK.out _ _ hHeld (fun _ => ?_)
          clear hK K
          try simp only [Act.put, List.setIfInBounds_toArray, List.set_cons_zero, List.set_cons_succ]
          have HOK : Hid (rdT s n).ok := rdT_ok s HNB.out
          have HY : Hid (tex (rdT s n) = s → TR s (rdT s n) true) := tr_yes HNB.out
          have HNO : Hid (tex (rdT s n) ≠ s → TR s r0 false) := tr_no HNU.out
          clear HNB HNU HCN HD3 HD5 HB3
          generalize rdT s n = R at *
          have HIR : Hid _ := infR HOK.out
          have HIRA : Hid _ := infRA HOK.out
          have HRL : Hid _ := rL_one R
          have HLL : Hid _ := rL_len HOK.out
          refine wpAnyH_ready (rs := [11]) (by kernel_rfl) (by simp) ?_
          refine AllReadyH.cons (o := { dst := none, op := Go.Op.store 26 (Go.Operand.tmp 7) (Go.Operand.tmp 28), type := 0, pos := _, after := #[{ on := 10, ground := Go.Ground.data }, { on := 9, ground := Go.Ground.data }, { on := 8, ground := Go.Ground.chain }, { on := 0, ground := Go.Ground.phase }, { on := 1, ground := Go.Ground.phase }, { on := 2, ground := Go.Ground.phase }, { on := 3, ground := Go.Ground.phase }, { on := 4, ground := Go.Ground.phase }, { on := 5, ground := Go.Ground.phase }, { on := 6, ground := Go.Ground.phase }, { on := 7, ground := Go.Ground.phase }, { on := 8, ground := Go.Ground.phase }, { on := 9, ground := Go.Ground.phase }, { on := 10, ground := Go.Ground.phase }], guard := none }) rfl (fun K hK => ?_) AllReadyH.nil
          rw [if_pos (by rfl)]
          refine wp_store_row 26 _ _ rfl nb (rL R).toArray rfl rfl 26 (rL r0).toArray (hN.rs.at 0 rfl) HIRA.out (by rw [List.size_toArray, List.size_toArray, HLL.out]; rfl) HRL.out ?_
          have hN2 := UD.put hN 0 rfl (rL R)
          have HN2 : Hid (UD w ((nb, 26, rL R) :: utR w.heap.size (splitR s) s) D (V4.setRow nb (rL R).toArray)) := hN2
          generalize V4.setRow nb (rL R).toArray = V9 at *
          refine hK.out _ _ (HN2.out.tail) (fun _ => ?_)
          clear hK K
          try simp only [Act.put, List.setIfInBounds_toArray, List.set_cons_zero, List.set_cons_succ]
          refine wpAnyH_done (by kernel_rfl) ?_ _
          clear hHeld hN hN2
          have HPT : Hid _ := ptext_any R HOK.out V9 (HG.out.below HN2.out.rs.bel)
          go_wp2_with (refine wpList_load_mid rfl 26 _ rfl nb 0 rfl (rL R) _ (rangeAt_row (HN2.out.rs.at 0 rfl)) Tryd.underlying26 rfl HIR.out ?_)
          refine Calls.mono HPT.out ?_
          rintro e V10 ⟨rfl, hb⟩
          have HN3 : Hid _ := HN2.out.step hb
          clear hb HPT HN2
          by_cases he : tex R = s
          · have HTR : Hid (TR s R true) := HY.out he
            have hcmp : ∀ W, (binOp .neq 9 (sV (tex R)) (sV s)).run Tryd.prog W = .ok (.bool false) W := fun W => by rw [run_sneq, he]; simp
            have hgua := fun x y W => run_sguard x y (tex R) s W
            clear he HY HNO
            go_wp2_with (first
              | (refine wpList_load_mid rfl 26 _ rfl nb 0 rfl (rL R) _ (rangeAt_row (HN3.out.rs.at 0 rfl)) Tryd.underlying26 rfl HIR.out ?_)
              | (refine wpList_store_row rfl 26 (.tmp 2) (.tmp 34) rfl w.heap.size (rL R).toArray rfl rfl 26 (rL r0).toArray (HN3.out.rs.at 5 rfl) HIRA.out (by rw [List.size_toArray, List.size_toArray, HLL.out]; rfl) HRL.out ?_)
              | (refine wpList_st rfl 33 (.tmp 3) _ rfl _ (.int .i64 0) rfl rfl _ (run_stE _ (w.heap.size + 1) 0 [.int .i64 0] 33 ((HN3.out.put 5 rfl (rL R)).rs.at 4 rfl) (by decide) 0) ?_; intro VZ hVZ))
            have hU : UD w ((nb, 26, rL R) :: [(w.heap.size + 4, 9, [sV s]), (w.heap.size + 3, 3, [.int .i64 ((splitR s).length : Int)]), (w.heap.size + 2, 54, wL (splitR s)), (w.heap.size + 1, 33, [.int .i64 0]), (w.heap.size, 26, rL R)]) D VZ := by rw [hVZ]; exact ((HN3.out.put 5 rfl (rL R)).poke 4 rfl 0 (.int .i64 0) rfl)
            have HU : Hid _ := hU
            clear hU hVZ HN3
            refine marks_ret (v := .tuple #[.agg (rL R).toArray, .int .i64 0]) [D] VZ (fun D' hD' => by have e : D' = D := (by simpa using hD'); rw [e]; exact HU.out.d) (by simp) (fun w' h1 h2 h3 h4 h5 => ?_)
            have hE := HU.out.end h1 h2 h3 h4 h5 HDW.out
            exact ⟨results_re Tryd.results19 _ w' w.heap.size (w.heap.size + 1) 0 HIR.out (hE.at 5 rfl) (hE.at 4 rfl) rfl rfl, R, true, rfl, HTR.out, hE.bel⟩
          · have HTR : Hid (TR s r0 false) := HNO.out he
            have hcmp : ∀ W, (binOp .neq 9 (sV (tex R)) (sV s)).run Tryd.prog W = .ok (.bool true) W := fun W => by rw [run_sneq, decide_eq_false he]; rfl
            have hgua := fun x y W => run_sguard x y (tex R) s W
            clear he HY HNO
            go_wp2_with (first
              | (refine wpList_store_row rfl 26 (.tmp 2) (.tmp 33) rfl w.heap.size (rL r0).toArray rfl rfl 26 (rL r0).toArray (HN3.out.rs.at 5 rfl) HI0A.out rfl H01.out ?_)
              | (refine wpList_st rfl 33 (.tmp 3) _ rfl _ (.int .i64 4) rfl rfl _ (run_stE _ (w.heap.size + 1) 0 [.int .i64 0] 33 ((HN3.out.put 5 rfl (rL r0)).rs.at 4 rfl) (by decide) 4) ?_; intro VZ hVZ))
            have hU : UD w ((nb, 26, rL R) :: [(w.heap.size + 4, 9, [sV s]), (w.heap.size + 3, 3, [.int .i64 ((splitR s).length : Int)]), (w.heap.size + 2, 54, wL (splitR s)), (w.heap.size + 1, 33, [.int .i64 4]), (w.heap.size, 26, rL r0)]) D VZ := by rw [hVZ]; exact ((HN3.out.put 5 rfl (rL r0)).poke 4 rfl 0 (.int .i64 4) rfl)
            have HU : Hid _ := hU
            clear hU hVZ HN3
            refine marks_ret (v := .tuple #[.agg (rL r0).toArray, .int .i64 4]) [D] VZ (fun D' hD' => by have e : D' = D := (by simpa using hD'); rw [e]; exact HU.out.d) (by simp) (fun w' h1 h2 h3 h4 h5 => ?_)
            have hE := HU.out.end h1 h2 h3 h4 h5 HDW.out
            exact ⟨results_re Tryd.results19 _ w' w.heap.size (w.heap.size + 1) 4 HI0.out (hE.at 5 rfl) (hE.at 4 rfl) rfl rfl, r0, false, rfl, HTR.out, hE.bel⟩
        · skip
          go_wp2_with fail
          have hN := UD.alloc hHeld V2.heap.size rfl 26 (rL r0)
          replace hHeld := UD.step hHeld ((Below.refl V2.heap.size V2).alloc (Nat.le_refl _) (.cells (rL r0).toArray 26 (0, 0)))
          generalize V2.alloc (.cells (rL r0).toArray 26 (0, 0)) = V3 at *
          generalize V2.heap.size = nb at *
          refine hK.out _ _ hHeld (fun _ => ?_)
          clear hK K
          try simp only [Act.put, List.setIfInBounds_toArray, List.set_cons_zero, List.set_cons_succ]
          refine wpAnyH_ready (rs := [8]) (by kernel_rfl) (by simp) ?_
          refine AllReadyH.cons (o := { dst := some 27, op := Go.Op.call { callee := Go.Callee.value (Go.Operand.func 36), args := #[Go.Operand.tmp 26], argTypes := #[9] }, type := 24, pos := _, after := #[{ on := 7, ground := Go.Ground.data }, { on := 5, ground := Go.Ground.chain }], guard := none }) rfl (fun K hK => ?_) AllReadyH.nil
          rw [if_pos (by rfl)]
          go_wp2_with fail
          refine Calls.mono (HD5.out _) ?_
          rintro e V4 ⟨rfl, hb⟩
          replace hN := UD.step hN hb
          replace hHeld := UD.step hHeld hb
          clear hb
          refine hK.out _ _ hHeld (fun _ => ?_)
          clear hK K
          try simp only [Act.put, List.setIfInBounds_toArray, List.set_cons_zero, List.set_cons_succ]
          refine wpAnyH_take (i := 9) (oi := { dst := some 28, op := Go.Op.build 26 #[(0, Go.Operand.tmp 21), (1, Go.Operand.tmp 24), (2, Go.Operand.tmp 27)], type := 26, pos := _, after := #[{ on := 2, ground := Go.Ground.data }, { on := 5, ground := Go.Ground.data }, { on := 8, ground := Go.Ground.data }], guard := none }) (v := rV (rdT s n)) rfl (by kernel_rfl) (by kernel_rfl) (by kernel_rfl) (fun _ _ _ h => h) (Or.inl ⟨by rfl, fun w' hw' => ?_⟩) hHeld ?_
          · exact exec_build _ _ _ _ _ _ _ rfl (by simp; exact ⟨rfl, rfl, rfl⟩) (HB3.out n w')
          try simp only [Act.put, List.setIfInBounds_toArray, List.set_cons_zero, List.set_cons_succ]
          have HOK : Hid (rdT s n).ok := rdT_ok s HNB.out
          have HY : Hid (tex (rdT s n) = s → TR s (rdT s n) true) := tr_yes HNB.out
          have HNO : Hid (tex (rdT s n) ≠ s → TR s r0 false) := tr_no HNU.out
          clear HNB HNU HCN HD3 HD5 HB3
          generalize rdT s n = R at *
          have HIR : Hid _ := infR HOK.out
          have HIRA : Hid _ := infRA HOK.out
          have HRL : Hid _ := rL_one R
          have HLL : Hid _ := rL_len HOK.out
          refine wpAnyH_ready (rs := [11]) (by kernel_rfl) (by simp) ?_
          refine AllReadyH.cons (o := { dst := none, op := Go.Op.store 26 (Go.Operand.tmp 7) (Go.Operand.tmp 28), type := 0, pos := _, after := #[{ on := 10, ground := Go.Ground.data }, { on := 9, ground := Go.Ground.data }, { on := 8, ground := Go.Ground.chain }, { on := 0, ground := Go.Ground.phase }, { on := 1, ground := Go.Ground.phase }, { on := 2, ground := Go.Ground.phase }, { on := 3, ground := Go.Ground.phase }, { on := 4, ground := Go.Ground.phase }, { on := 5, ground := Go.Ground.phase }, { on := 6, ground := Go.Ground.phase }, { on := 7, ground := Go.Ground.phase }, { on := 8, ground := Go.Ground.phase }, { on := 9, ground := Go.Ground.phase }, { on := 10, ground := Go.Ground.phase }], guard := none }) rfl (fun K hK => ?_) AllReadyH.nil
          rw [if_pos (by rfl)]
          refine wp_store_row 26 _ _ rfl nb (rL R).toArray rfl rfl 26 (rL r0).toArray (hN.rs.at 0 rfl) HIRA.out (by rw [List.size_toArray, List.size_toArray, HLL.out]; rfl) HRL.out ?_
          have hN2 := UD.put hN 0 rfl (rL R)
          have HN2 : Hid (UD w ((nb, 26, rL R) :: utR w.heap.size (splitR s) s) D (V4.setRow nb (rL R).toArray)) := hN2
          generalize V4.setRow nb (rL R).toArray = V9 at *
          refine hK.out _ _ (HN2.out.tail) (fun _ => ?_)
          clear hK K
          try simp only [Act.put, List.setIfInBounds_toArray, List.set_cons_zero, List.set_cons_succ]
          refine wpAnyH_done (by kernel_rfl) ?_ _
          clear hHeld hN hN2
          have HPT : Hid _ := ptext_any R HOK.out V9 (HG.out.below HN2.out.rs.bel)
          go_wp2_with (refine wpList_load_mid rfl 26 _ rfl nb 0 rfl (rL R) _ (rangeAt_row (HN2.out.rs.at 0 rfl)) Tryd.underlying26 rfl HIR.out ?_)
          refine Calls.mono HPT.out ?_
          rintro e V10 ⟨rfl, hb⟩
          have HN3 : Hid _ := HN2.out.step hb
          clear hb HPT HN2
          by_cases he : tex R = s
          · have HTR : Hid (TR s R true) := HY.out he
            have hcmp : ∀ W, (binOp .neq 9 (sV (tex R)) (sV s)).run Tryd.prog W = .ok (.bool false) W := fun W => by rw [run_sneq, he]; simp
            have hgua := fun x y W => run_sguard x y (tex R) s W
            clear he HY HNO
            go_wp2_with (first
              | (refine wpList_load_mid rfl 26 _ rfl nb 0 rfl (rL R) _ (rangeAt_row (HN3.out.rs.at 0 rfl)) Tryd.underlying26 rfl HIR.out ?_)
              | (refine wpList_store_row rfl 26 (.tmp 2) (.tmp 34) rfl w.heap.size (rL R).toArray rfl rfl 26 (rL r0).toArray (HN3.out.rs.at 5 rfl) HIRA.out (by rw [List.size_toArray, List.size_toArray, HLL.out]; rfl) HRL.out ?_)
              | (refine wpList_st rfl 33 (.tmp 3) _ rfl _ (.int .i64 0) rfl rfl _ (run_stE _ (w.heap.size + 1) 0 [.int .i64 0] 33 ((HN3.out.put 5 rfl (rL R)).rs.at 4 rfl) (by decide) 0) ?_; intro VZ hVZ))
            have hU : UD w ((nb, 26, rL R) :: [(w.heap.size + 4, 9, [sV s]), (w.heap.size + 3, 3, [.int .i64 ((splitR s).length : Int)]), (w.heap.size + 2, 54, wL (splitR s)), (w.heap.size + 1, 33, [.int .i64 0]), (w.heap.size, 26, rL R)]) D VZ := by rw [hVZ]; exact ((HN3.out.put 5 rfl (rL R)).poke 4 rfl 0 (.int .i64 0) rfl)
            have HU : Hid _ := hU
            clear hU hVZ HN3
            refine marks_ret (v := .tuple #[.agg (rL R).toArray, .int .i64 0]) [D] VZ (fun D' hD' => by have e : D' = D := (by simpa using hD'); rw [e]; exact HU.out.d) (by simp) (fun w' h1 h2 h3 h4 h5 => ?_)
            have hE := HU.out.end h1 h2 h3 h4 h5 HDW.out
            exact ⟨results_re Tryd.results19 _ w' w.heap.size (w.heap.size + 1) 0 HIR.out (hE.at 5 rfl) (hE.at 4 rfl) rfl rfl, R, true, rfl, HTR.out, hE.bel⟩
          · have HTR : Hid (TR s r0 false) := HNO.out he
            have hcmp : ∀ W, (binOp .neq 9 (sV (tex R)) (sV s)).run Tryd.prog W = .ok (.bool true) W := fun W => by rw [run_sneq, decide_eq_false he]; rfl
            have hgua := fun x y W => run_sguard x y (tex R) s W
            clear he HY HNO
            go_wp2_with (first
              | (refine wpList_store_row rfl 26 (.tmp 2) (.tmp 33) rfl w.heap.size (rL r0).toArray rfl rfl 26 (rL r0).toArray (HN3.out.rs.at 5 rfl) HI0A.out rfl H01.out ?_)
              | (refine wpList_st rfl 33 (.tmp 3) _ rfl _ (.int .i64 4) rfl rfl _ (run_stE _ (w.heap.size + 1) 0 [.int .i64 0] 33 ((HN3.out.put 5 rfl (rL r0)).rs.at 4 rfl) (by decide) 4) ?_; intro VZ hVZ))
            have hU : UD w ((nb, 26, rL R) :: [(w.heap.size + 4, 9, [sV s]), (w.heap.size + 3, 3, [.int .i64 ((splitR s).length : Int)]), (w.heap.size + 2, 54, wL (splitR s)), (w.heap.size + 1, 33, [.int .i64 4]), (w.heap.size, 26, rL r0)]) D VZ := by rw [hVZ]; exact ((HN3.out.put 5 rfl (rL r0)).poke 4 rfl 0 (.int .i64 4) rfl)
            have HU : Hid _ := hU
            clear hU hVZ HN3
            refine marks_ret (v := .tuple #[.agg (rL r0).toArray, .int .i64 4]) [D] VZ (fun D' hD' => by have e : D' = D := (by simpa using hD'); rw [e]; exact HU.out.d) (by simp) (fun w' h1 h2 h3 h4 h5 => ?_)
            have hE := HU.out.end h1 h2 h3 h4 h5 HDW.out
            exact ⟨results_re Tryd.results19 _ w' w.heap.size (w.heap.size + 1) 4 HI0.out (hE.at 5 rfl) (hE.at 4 rfl) rfl rfl, r0, false, rfl, HTR.out, hE.bel⟩
      · skip
        go_wp2_with fail
        have hN := UD.alloc hHeld V1.heap.size rfl 26 (rL r0)
        replace hHeld := UD.step hHeld ((Below.refl V1.heap.size V1).alloc (Nat.le_refl _) (.cells (rL r0).toArray 26 (0, 0)))
        generalize V1.alloc (.cells (rL r0).toArray 26 (0, 0)) = V2 at *
        generalize V1.heap.size = nb at *
        refine hK.out _ _ hHeld (fun _ => ?_)
        clear hK K
        try simp only [Act.put, List.setIfInBounds_toArray, List.set_cons_zero, List.set_cons_succ]
        refine wpAnyH_ready (rs := [5]) (by kernel_rfl) (by simp) ?_
        refine AllReadyH.cons (o := { dst := some 24, op := Go.Op.call { callee := Go.Callee.value (Go.Operand.func 36), args := #[Go.Operand.tmp 23], argTypes := #[9] }, type := 24, pos := _, after := #[{ on := 4, ground := Go.Ground.data }, { on := 2, ground := Go.Ground.chain }], guard := none }) rfl (fun K hK => ?_) AllReadyH.nil
        rw [if_pos (by rfl)]
        go_wp2_with fail
        refine Calls.mono (HD3.out _) ?_
        rintro e V3 ⟨rfl, hb⟩
        replace hN := UD.step hN hb
        replace hHeld := UD.step hHeld hb
        clear hb
        refine hK.out _ _ hHeld (fun _ => ?_)
        clear hK K
        try simp only [Act.put, List.setIfInBounds_toArray, List.set_cons_zero, List.set_cons_succ]
        refine wpAnyH_ready (rs := [8]) (by kernel_rfl) (by simp) ?_
        refine AllReadyH.cons (o := { dst := some 27, op := Go.Op.call { callee := Go.Callee.value (Go.Operand.func 36), args := #[Go.Operand.tmp 26], argTypes := #[9] }, type := 24, pos := _, after := #[{ on := 7, ground := Go.Ground.data }, { on := 5, ground := Go.Ground.chain }], guard := none }) rfl (fun K hK => ?_) AllReadyH.nil
        rw [if_pos (by rfl)]
        go_wp2_with fail
        refine Calls.mono (HD5.out _) ?_
        rintro e V4 ⟨rfl, hb⟩
        replace hN := UD.step hN hb
        replace hHeld := UD.step hHeld hb
        clear hb
        refine hK.out _ _ hHeld (fun _ => ?_)
        clear hK K
        try simp only [Act.put, List.setIfInBounds_toArray, List.set_cons_zero, List.set_cons_succ]
        refine wpAnyH_take (i := 9) (oi := { dst := some 28, op := Go.Op.build 26 #[(0, Go.Operand.tmp 21), (1, Go.Operand.tmp 24), (2, Go.Operand.tmp 27)], type := 26, pos := _, after := #[{ on := 2, ground := Go.Ground.data }, { on := 5, ground := Go.Ground.data }, { on := 8, ground := Go.Ground.data }], guard := none }) (v := rV (rdT s n)) rfl (by kernel_rfl) (by kernel_rfl) (by kernel_rfl) (fun _ _ _ h => h) (Or.inl ⟨by rfl, fun w' hw' => ?_⟩) hHeld ?_
        · exact exec_build _ _ _ _ _ _ _ rfl (by simp; exact ⟨rfl, rfl, rfl⟩) (HB3.out n w')
        try simp only [Act.put, List.setIfInBounds_toArray, List.set_cons_zero, List.set_cons_succ]
        have HOK : Hid (rdT s n).ok := rdT_ok s HNB.out
        have HY : Hid (tex (rdT s n) = s → TR s (rdT s n) true) := tr_yes HNB.out
        have HNO : Hid (tex (rdT s n) ≠ s → TR s r0 false) := tr_no HNU.out
        clear HNB HNU HCN HD3 HD5 HB3
        generalize rdT s n = R at *
        have HIR : Hid _ := infR HOK.out
        have HIRA : Hid _ := infRA HOK.out
        have HRL : Hid _ := rL_one R
        have HLL : Hid _ := rL_len HOK.out
        refine wpAnyH_ready (rs := [11]) (by kernel_rfl) (by simp) ?_
        refine AllReadyH.cons (o := { dst := none, op := Go.Op.store 26 (Go.Operand.tmp 7) (Go.Operand.tmp 28), type := 0, pos := _, after := #[{ on := 10, ground := Go.Ground.data }, { on := 9, ground := Go.Ground.data }, { on := 8, ground := Go.Ground.chain }, { on := 0, ground := Go.Ground.phase }, { on := 1, ground := Go.Ground.phase }, { on := 2, ground := Go.Ground.phase }, { on := 3, ground := Go.Ground.phase }, { on := 4, ground := Go.Ground.phase }, { on := 5, ground := Go.Ground.phase }, { on := 6, ground := Go.Ground.phase }, { on := 7, ground := Go.Ground.phase }, { on := 8, ground := Go.Ground.phase }, { on := 9, ground := Go.Ground.phase }, { on := 10, ground := Go.Ground.phase }], guard := none }) rfl (fun K hK => ?_) AllReadyH.nil
        rw [if_pos (by rfl)]
        refine wp_store_row 26 _ _ rfl nb (rL R).toArray rfl rfl 26 (rL r0).toArray (hN.rs.at 0 rfl) HIRA.out (by rw [List.size_toArray, List.size_toArray, HLL.out]; rfl) HRL.out ?_
        have hN2 := UD.put hN 0 rfl (rL R)
        have HN2 : Hid (UD w ((nb, 26, rL R) :: utR w.heap.size (splitR s) s) D (V4.setRow nb (rL R).toArray)) := hN2
        generalize V4.setRow nb (rL R).toArray = V9 at *
        refine hK.out _ _ (HN2.out.tail) (fun _ => ?_)
        clear hK K
        try simp only [Act.put, List.setIfInBounds_toArray, List.set_cons_zero, List.set_cons_succ]
        refine wpAnyH_done (by kernel_rfl) ?_ _
        clear hHeld hN hN2
        have HPT : Hid _ := ptext_any R HOK.out V9 (HG.out.below HN2.out.rs.bel)
        go_wp2_with (refine wpList_load_mid rfl 26 _ rfl nb 0 rfl (rL R) _ (rangeAt_row (HN2.out.rs.at 0 rfl)) Tryd.underlying26 rfl HIR.out ?_)
        refine Calls.mono HPT.out ?_
        rintro e V10 ⟨rfl, hb⟩
        have HN3 : Hid _ := HN2.out.step hb
        clear hb HPT HN2
        by_cases he : tex R = s
        · have HTR : Hid (TR s R true) := HY.out he
          have hcmp : ∀ W, (binOp .neq 9 (sV (tex R)) (sV s)).run Tryd.prog W = .ok (.bool false) W := fun W => by rw [run_sneq, he]; simp
          have hgua := fun x y W => run_sguard x y (tex R) s W
          clear he HY HNO
          go_wp2_with (first
            | (refine wpList_load_mid rfl 26 _ rfl nb 0 rfl (rL R) _ (rangeAt_row (HN3.out.rs.at 0 rfl)) Tryd.underlying26 rfl HIR.out ?_)
            | (refine wpList_store_row rfl 26 (.tmp 2) (.tmp 34) rfl w.heap.size (rL R).toArray rfl rfl 26 (rL r0).toArray (HN3.out.rs.at 5 rfl) HIRA.out (by rw [List.size_toArray, List.size_toArray, HLL.out]; rfl) HRL.out ?_)
            | (refine wpList_st rfl 33 (.tmp 3) _ rfl _ (.int .i64 0) rfl rfl _ (run_stE _ (w.heap.size + 1) 0 [.int .i64 0] 33 ((HN3.out.put 5 rfl (rL R)).rs.at 4 rfl) (by decide) 0) ?_; intro VZ hVZ))
          have hU : UD w ((nb, 26, rL R) :: [(w.heap.size + 4, 9, [sV s]), (w.heap.size + 3, 3, [.int .i64 ((splitR s).length : Int)]), (w.heap.size + 2, 54, wL (splitR s)), (w.heap.size + 1, 33, [.int .i64 0]), (w.heap.size, 26, rL R)]) D VZ := by rw [hVZ]; exact ((HN3.out.put 5 rfl (rL R)).poke 4 rfl 0 (.int .i64 0) rfl)
          have HU : Hid _ := hU
          clear hU hVZ HN3
          refine marks_ret (v := .tuple #[.agg (rL R).toArray, .int .i64 0]) [D] VZ (fun D' hD' => by have e : D' = D := (by simpa using hD'); rw [e]; exact HU.out.d) (by simp) (fun w' h1 h2 h3 h4 h5 => ?_)
          have hE := HU.out.end h1 h2 h3 h4 h5 HDW.out
          exact ⟨results_re Tryd.results19 _ w' w.heap.size (w.heap.size + 1) 0 HIR.out (hE.at 5 rfl) (hE.at 4 rfl) rfl rfl, R, true, rfl, HTR.out, hE.bel⟩
        · have HTR : Hid (TR s r0 false) := HNO.out he
          have hcmp : ∀ W, (binOp .neq 9 (sV (tex R)) (sV s)).run Tryd.prog W = .ok (.bool true) W := fun W => by rw [run_sneq, decide_eq_false he]; rfl
          have hgua := fun x y W => run_sguard x y (tex R) s W
          clear he HY HNO
          go_wp2_with (first
            | (refine wpList_store_row rfl 26 (.tmp 2) (.tmp 33) rfl w.heap.size (rL r0).toArray rfl rfl 26 (rL r0).toArray (HN3.out.rs.at 5 rfl) HI0A.out rfl H01.out ?_)
            | (refine wpList_st rfl 33 (.tmp 3) _ rfl _ (.int .i64 4) rfl rfl _ (run_stE _ (w.heap.size + 1) 0 [.int .i64 0] 33 ((HN3.out.put 5 rfl (rL r0)).rs.at 4 rfl) (by decide) 4) ?_; intro VZ hVZ))
          have hU : UD w ((nb, 26, rL R) :: [(w.heap.size + 4, 9, [sV s]), (w.heap.size + 3, 3, [.int .i64 ((splitR s).length : Int)]), (w.heap.size + 2, 54, wL (splitR s)), (w.heap.size + 1, 33, [.int .i64 4]), (w.heap.size, 26, rL r0)]) D VZ := by rw [hVZ]; exact ((HN3.out.put 5 rfl (rL r0)).poke 4 rfl 0 (.int .i64 4) rfl)
          have HU : Hid _ := hU
          clear hU hVZ HN3
          refine marks_ret (v := .tuple #[.agg (rL r0).toArray, .int .i64 4]) [D] VZ (fun D' hD' => by have e : D' = D := (by simpa using hD'); rw [e]; exact HU.out.d) (by simp) (fun w' h1 h2 h3 h4 h5 => ?_)
          have hE := HU.out.end h1 h2 h3 h4 h5 HDW.out
          exact ⟨results_re Tryd.results19 _ w' w.heap.size (w.heap.size + 1) 4 HI0.out (hE.at 5 rfl) (hE.at 4 rfl) rfl rfl, r0, false, rfl, HTR.out, hE.bel⟩
    · skip
      go_wp2_with fail
      have hN := UD.alloc hHeld V0.heap.size rfl 26 (rL r0)
      replace hHeld := UD.step hHeld ((Below.refl V0.heap.size V0).alloc (Nat.le_refl _) (.cells (rL r0).toArray 26 (0, 0)))
      generalize V0.alloc (.cells (rL r0).toArray 26 (0, 0)) = V1 at *
      generalize V0.heap.size = nb at *
      refine hK.out _ _ hHeld (fun _ => ?_)
      clear hK K
      try simp only [Act.put, List.setIfInBounds_toArray, List.set_cons_zero, List.set_cons_succ]
      refine wpAnyH_ready (rs := [2]) (by kernel_rfl) (by simp) ?_
      refine AllReadyH.cons (o := { dst := some 21, op := Go.Op.call { callee := Go.Callee.value (Go.Operand.func 35), args := #[Go.Operand.tmp 20], argTypes := #[9] }, type := 22, pos := _, after := #[{ on := 1, ground := Go.Ground.data }], guard := none }) rfl (fun K hK => ?_) AllReadyH.nil
      rw [if_pos (by rfl)]
      go_wp2_with fail
      refine Calls.mono (HCN.out _ hHeld.rs.bel) ?_
      rintro e V2 ⟨n, rfl, hn, hnu, hb⟩
      have HNB : Hid _ := hn
      have HNU : Hid _ := hnu
      clear hn hnu
      replace hN := UD.step hN hb
      replace hHeld := UD.step hHeld hb
      clear hb
      refine hK.out _ _ hHeld (fun _ => ?_)
      clear hK K
      try simp only [Act.put, List.setIfInBounds_toArray, List.set_cons_zero, List.set_cons_succ]
      refine wpAnyH_ready (rs := [5]) (by kernel_rfl) (by simp) ?_
      refine AllReadyH.cons (o := { dst := some 24, op := Go.Op.call { callee := Go.Callee.value (Go.Operand.func 36), args := #[Go.Operand.tmp 23], argTypes := #[9] }, type := 24, pos := _, after := #[{ on := 4, ground := Go.Ground.data }, { on := 2, ground := Go.Ground.chain }], guard := none }) rfl (fun K hK => ?_) AllReadyH.nil
      rw [if_pos (by rfl)]
      go_wp2_with fail
      refine Calls.mono (HD3.out _) ?_
      rintro e V3 ⟨rfl, hb⟩
      replace hN := UD.step hN hb
      replace hHeld := UD.step hHeld hb
      clear hb
      refine hK.out _ _ hHeld (fun _ => ?_)
      clear hK K
      try simp only [Act.put, List.setIfInBounds_toArray, List.set_cons_zero, List.set_cons_succ]
      refine wpAnyH_ready (rs := [8]) (by kernel_rfl) (by simp) ?_
      refine AllReadyH.cons (o := { dst := some 27, op := Go.Op.call { callee := Go.Callee.value (Go.Operand.func 36), args := #[Go.Operand.tmp 26], argTypes := #[9] }, type := 24, pos := _, after := #[{ on := 7, ground := Go.Ground.data }, { on := 5, ground := Go.Ground.chain }], guard := none }) rfl (fun K hK => ?_) AllReadyH.nil
      rw [if_pos (by rfl)]
      go_wp2_with fail
      refine Calls.mono (HD5.out _) ?_
      rintro e V4 ⟨rfl, hb⟩
      replace hN := UD.step hN hb
      replace hHeld := UD.step hHeld hb
      clear hb
      refine hK.out _ _ hHeld (fun _ => ?_)
      clear hK K
      try simp only [Act.put, List.setIfInBounds_toArray, List.set_cons_zero, List.set_cons_succ]
      refine wpAnyH_take (i := 9) (oi := { dst := some 28, op := Go.Op.build 26 #[(0, Go.Operand.tmp 21), (1, Go.Operand.tmp 24), (2, Go.Operand.tmp 27)], type := 26, pos := _, after := #[{ on := 2, ground := Go.Ground.data }, { on := 5, ground := Go.Ground.data }, { on := 8, ground := Go.Ground.data }], guard := none }) (v := rV (rdT s n)) rfl (by kernel_rfl) (by kernel_rfl) (by kernel_rfl) (fun _ _ _ h => h) (Or.inl ⟨by rfl, fun w' hw' => ?_⟩) hHeld ?_
      · exact exec_build _ _ _ _ _ _ _ rfl (by simp; exact ⟨rfl, rfl, rfl⟩) (HB3.out n w')
      try simp only [Act.put, List.setIfInBounds_toArray, List.set_cons_zero, List.set_cons_succ]
      have HOK : Hid (rdT s n).ok := rdT_ok s HNB.out
      have HY : Hid (tex (rdT s n) = s → TR s (rdT s n) true) := tr_yes HNB.out
      have HNO : Hid (tex (rdT s n) ≠ s → TR s r0 false) := tr_no HNU.out
      clear HNB HNU HCN HD3 HD5 HB3
      generalize rdT s n = R at *
      have HIR : Hid _ := infR HOK.out
      have HIRA : Hid _ := infRA HOK.out
      have HRL : Hid _ := rL_one R
      have HLL : Hid _ := rL_len HOK.out
      refine wpAnyH_ready (rs := [11]) (by kernel_rfl) (by simp) ?_
      refine AllReadyH.cons (o := { dst := none, op := Go.Op.store 26 (Go.Operand.tmp 7) (Go.Operand.tmp 28), type := 0, pos := _, after := #[{ on := 10, ground := Go.Ground.data }, { on := 9, ground := Go.Ground.data }, { on := 8, ground := Go.Ground.chain }, { on := 0, ground := Go.Ground.phase }, { on := 1, ground := Go.Ground.phase }, { on := 2, ground := Go.Ground.phase }, { on := 3, ground := Go.Ground.phase }, { on := 4, ground := Go.Ground.phase }, { on := 5, ground := Go.Ground.phase }, { on := 6, ground := Go.Ground.phase }, { on := 7, ground := Go.Ground.phase }, { on := 8, ground := Go.Ground.phase }, { on := 9, ground := Go.Ground.phase }, { on := 10, ground := Go.Ground.phase }], guard := none }) rfl (fun K hK => ?_) AllReadyH.nil
      rw [if_pos (by rfl)]
      refine wp_store_row 26 _ _ rfl nb (rL R).toArray rfl rfl 26 (rL r0).toArray (hN.rs.at 0 rfl) HIRA.out (by rw [List.size_toArray, List.size_toArray, HLL.out]; rfl) HRL.out ?_
      have hN2 := UD.put hN 0 rfl (rL R)
      have HN2 : Hid (UD w ((nb, 26, rL R) :: utR w.heap.size (splitR s) s) D (V4.setRow nb (rL R).toArray)) := hN2
      generalize V4.setRow nb (rL R).toArray = V9 at *
      refine hK.out _ _ (HN2.out.tail) (fun _ => ?_)
      clear hK K
      try simp only [Act.put, List.setIfInBounds_toArray, List.set_cons_zero, List.set_cons_succ]
      refine wpAnyH_done (by kernel_rfl) ?_ _
      clear hHeld hN hN2
      have HPT : Hid _ := ptext_any R HOK.out V9 (HG.out.below HN2.out.rs.bel)
      go_wp2_with (refine wpList_load_mid rfl 26 _ rfl nb 0 rfl (rL R) _ (rangeAt_row (HN2.out.rs.at 0 rfl)) Tryd.underlying26 rfl HIR.out ?_)
      refine Calls.mono HPT.out ?_
      rintro e V10 ⟨rfl, hb⟩
      have HN3 : Hid _ := HN2.out.step hb
      clear hb HPT HN2
      by_cases he : tex R = s
      · have HTR : Hid (TR s R true) := HY.out he
        have hcmp : ∀ W, (binOp .neq 9 (sV (tex R)) (sV s)).run Tryd.prog W = .ok (.bool false) W := fun W => by rw [run_sneq, he]; simp
        have hgua := fun x y W => run_sguard x y (tex R) s W
        clear he HY HNO
        go_wp2_with (first
          | (refine wpList_load_mid rfl 26 _ rfl nb 0 rfl (rL R) _ (rangeAt_row (HN3.out.rs.at 0 rfl)) Tryd.underlying26 rfl HIR.out ?_)
          | (refine wpList_store_row rfl 26 (.tmp 2) (.tmp 34) rfl w.heap.size (rL R).toArray rfl rfl 26 (rL r0).toArray (HN3.out.rs.at 5 rfl) HIRA.out (by rw [List.size_toArray, List.size_toArray, HLL.out]; rfl) HRL.out ?_)
          | (refine wpList_st rfl 33 (.tmp 3) _ rfl _ (.int .i64 0) rfl rfl _ (run_stE _ (w.heap.size + 1) 0 [.int .i64 0] 33 ((HN3.out.put 5 rfl (rL R)).rs.at 4 rfl) (by decide) 0) ?_; intro VZ hVZ))
        have hU : UD w ((nb, 26, rL R) :: [(w.heap.size + 4, 9, [sV s]), (w.heap.size + 3, 3, [.int .i64 ((splitR s).length : Int)]), (w.heap.size + 2, 54, wL (splitR s)), (w.heap.size + 1, 33, [.int .i64 0]), (w.heap.size, 26, rL R)]) D VZ := by rw [hVZ]; exact ((HN3.out.put 5 rfl (rL R)).poke 4 rfl 0 (.int .i64 0) rfl)
        have HU : Hid _ := hU
        clear hU hVZ HN3
        refine marks_ret (v := .tuple #[.agg (rL R).toArray, .int .i64 0]) [D] VZ (fun D' hD' => by have e : D' = D := (by simpa using hD'); rw [e]; exact HU.out.d) (by simp) (fun w' h1 h2 h3 h4 h5 => ?_)
        have hE := HU.out.end h1 h2 h3 h4 h5 HDW.out
        exact ⟨results_re Tryd.results19 _ w' w.heap.size (w.heap.size + 1) 0 HIR.out (hE.at 5 rfl) (hE.at 4 rfl) rfl rfl, R, true, rfl, HTR.out, hE.bel⟩
      · have HTR : Hid (TR s r0 false) := HNO.out he
        have hcmp : ∀ W, (binOp .neq 9 (sV (tex R)) (sV s)).run Tryd.prog W = .ok (.bool true) W := fun W => by rw [run_sneq, decide_eq_false he]; rfl
        have hgua := fun x y W => run_sguard x y (tex R) s W
        clear he HY HNO
        go_wp2_with (first
          | (refine wpList_store_row rfl 26 (.tmp 2) (.tmp 33) rfl w.heap.size (rL r0).toArray rfl rfl 26 (rL r0).toArray (HN3.out.rs.at 5 rfl) HI0A.out rfl H01.out ?_)
          | (refine wpList_st rfl 33 (.tmp 3) _ rfl _ (.int .i64 4) rfl rfl _ (run_stE _ (w.heap.size + 1) 0 [.int .i64 0] 33 ((HN3.out.put 5 rfl (rL r0)).rs.at 4 rfl) (by decide) 4) ?_; intro VZ hVZ))
        have hU : UD w ((nb, 26, rL R) :: [(w.heap.size + 4, 9, [sV s]), (w.heap.size + 3, 3, [.int .i64 ((splitR s).length : Int)]), (w.heap.size + 2, 54, wL (splitR s)), (w.heap.size + 1, 33, [.int .i64 4]), (w.heap.size, 26, rL r0)]) D VZ := by rw [hVZ]; exact ((HN3.out.put 5 rfl (rL r0)).poke 4 rfl 0 (.int .i64 4) rfl)
        have HU : Hid _ := hU
        clear hU hVZ HN3
        refine marks_ret (v := .tuple #[.agg (rL r0).toArray, .int .i64 4]) [D] VZ (fun D' hD' => by have e : D' = D := (by simpa using hD'); rw [e]; exact HU.out.d) (by simp) (fun w' h1 h2 h3 h4 h5 => ?_)
        have hE := HU.out.end h1 h2 h3 h4 h5 HDW.out
        exact ⟨results_re Tryd.results19 _ w' w.heap.size (w.heap.size + 1) 4 HI0.out (hE.at 5 rfl) (hE.at 4 rfl) rfl rfl, r0, false, rfl, HTR.out, hE.bel⟩
  case stop =>
    rintro D c pre W hD ⟨q, hq⟩ ⟨⟨rfl, h7⟩, hRS⟩ hd
    have HTR : Hid (TR s r0 false) := tr_len (by rw [hq, List.length_append]; omega)
    have hUD : UD w (utX w.heap.size pre.dropLast s) D W := ⟨hRS, hd⟩
    have HU : Hid _ := hUD
    have HDW : Hid (w.heap.size ≤ D) := by show _ ≤ _; omega
    clear hUD hRS hd hD HR6 HS6 hsw hq h7
    gi_wp2
    refine marks_ret (v := .tuple #[.agg (rL r0).toArray, .int .i64 4]) [D] W (fun D' hD' => by have e : D' = D := (by simpa using hD'); rw [e]; exact HU.out.d) (by simp) (fun w' h1 h2 h3 h4 h5 => ?_)
    have hE := HU.out.end h1 h2 h3 h4 h5 HDW.out
    exact ⟨results_re Tryd.results19 _ w' w.heap.size (w.heap.size + 1) 4 HI0.out (hE.at 4 rfl) (hE.at 3 rfl) rfl rfl, r0, false, rfl, HTR.out, hE.bel⟩
end Go.Proofs.YtpklboicgjpmeaaDoor.RB
