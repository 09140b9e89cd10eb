/- The statements' one: keys. -/
import Derived.Test.YtefhjjjjbkkedaaGreatTF
set_option linter.unusedVariables false
set_option linter.unusedSimpArgs false
namespace Go.Proofs.YtefhjjjjbkkedaaGreat.R5
open scoped Classical
open Go.RowKit

/-- A list with a piece of it replaced. -/
def splc (cur : List Value) (o : Nat) (cs : List Value) : List Value := cur.take o ++ cs ++ cur.drop (o + cs.length)
theorem run_store_segR (w : World) (b o : Nat) (ty t : TypeId) (cells : Array Value) (cur : List Value) (hg : w.heap[b]? = some (.cells cur.toArray t (0, 0))) (hi : (Tryz.prog.info? ty).map (·.size) = some cells.size) (hfit : o + cells.size ≤ cur.length) (h1 : cells.all (·.oneCell') = true) :
    (storeVar ty ⟨b, o, none⟩ (.agg cells)).run Tryz.prog w = .ok () (w.setRow b (splc cur o cells.toList).toArray) := by
  have h1' : ∀ v ∈ cells.toList, v.oneCell' = true := fun v hv => by
    rw [Array.all_eq_true_iff_forall_mem] at h1
    exact h1 v (by simpa using hv)
  have hst := run_storeCells_at Tryz.prog b o t cells.toList 0 cur.toArray w hg (by simpa using hfit) h1'
  have e : (cur.toArray.toList.take (o + 0) ++ cells.toList ++ cur.toArray.toList.drop (o + 0 + cells.toList.length)).toArray = (splc cur o cells.toList).toArray := by simp [splc]
  rw [e] at hst
  cases hq : Tryz.prog.info? ty with
  | none => simp [hq] at hi
  | some i =>
    have hs : cells.size = i.size := by simp [hq] at hi; omega
    simp [storeVar, sizeOf, typeInfo, hq, Value.cells, hs, hst]
theorem wp_store_segR {op : Oper} {a : Act} {w : World} {K : Act → World → Prop} {Q : Exit → Act → World → Prop} (ty : TypeId) (x y : Operand) (ho : op.op = .store ty x y)
    (b o : Nat) (cells : Array Value) (cur : List Value) (t : TypeId) (hx : a.eval x = .pointer (some ⟨b, o, none⟩)) (hy : a.eval y = .agg cells)
    (hg : w.heap[b]? = some (.cells cur.toArray t (0, 0))) (hi : (Tryz.prog.info? ty).map (·.size) = some cells.size) (hfit : o + cells.size ≤ cur.length) (h1 : cells.all (·.oneCell') = true)
    (h : K (a.put op.dst undef) (w.setRow b (splc cur o cells.toList).toArray)) : op.wp Tryz.prog a w K Q := by
  unfold Oper.wp execOp
  simp only [ho, hx, hy, Instr.storeAt, Instr.sureAddr, Sem.run_bind, Sem.run_pure, Result.andThen_ok, run_store_segR w b o ty t cells cur hg hi hfit h1]
  exact h
theorem qL_splc (q : Qn) (dv : Value) (m : List UInt8) (hk : q.key.length = 32) (hm : m.length = 32) : splc (qL q dv) 1 (m.map B8) = qL ⟨q.kind, m, q.dom, q.data⟩ dv := by
  unfold splc qL
  rw [List.length_map, hm, show (1 : Nat) + 32 = 32 + 1 from rfl, List.drop_succ_cons, List.drop_append_of_le_length (by simp [hk]), List.drop_of_length_le (by simp [hk])]
  simp
/-- What the region with the master key reads. -/
def MasR (b : Nat) (ML : List Value) (X : World) : Prop := X.rangeAt b 1 ML
set_option maxHeartbeats 4000000 in
set_option maxRecDepth 100000 in
theorem one_5ok (w X K : World) (n tn og mb rg : Nat) (m : List UInt8) (D : List (List UInt8)) (L : List (Qn × List UInt8)) (I : Nat → Prop) (a : Ak) (pd : Option Addr) (cd : Nat) (hM : MM w n tn og mb rg m D L L I K X) (hll : L.length < 800000) (hkq : kOk a.q) (hql : a.q.data.length ≤ 1000000) (hdq : HB w (.slice pd a.q.data.length cd) a.q.data) (hk : a.kind = 5) (hok : askB ⟨3, m, a.q.dom, a.q.data⟩ = true) :
    Calls Tryz.prog 8 #[.pointer (some ⟨og, 0, none⟩), .pointer (some ⟨rg, 0, none⟩), .agg (akL a (.slice pd a.q.data.length cd)).toArray] X fun e Y => OneEnd w n og mb rg m D (nx D L ⟨3, m, a.q.dom, a.q.data⟩).2 I K e Y := by
  have hkk := hkq.key
  have hzv := fun W => zero_dig W
  have hbd := fun W => build_dig W
  have hzq := fun W => zero_qn W
  obtain ⟨ZL, hZL⟩ : ∃ L, L = (List.replicate 32 (0 : UInt8)).map B8 := ⟨_, rfl⟩
  obtain ⟨ZQ, hZQ⟩ : ∃ L, L = (qL ⟨0, List.replicate 32 0, 0, []⟩ (.slice none 0 0)).toArray := ⟨_, rfl⟩
  rw [← hZL] at hzv hbd
  rw [← hZQ] at hzq
  have HZQ : Hid (ZQ.size = 35) := by show _ = _; rw [hZQ, List.size_toArray]; exact qL_len _ _ (by simp)
  have HZS : Hid (ZL.toArray.size = 32) := by show _ = _; rw [hZL]; simp
  have HZ1 : Hid (ZL.toArray.all (·.oneCell') = true) := by show _ = _; rw [hZL]; exact B8_onea _
  have HZV : Hid (dV (List.replicate 32 0) = .agg ZL.toArray) := by show _ = _; rw [hZL]; rfl
  have HZ0 : Hid (∀ W, (Op.equalIn 10000 29 (.agg ZL.toArray) (.agg ZL.toArray)).run Tryz.prog W = .ok true W) := fun W => by
    have h := run_equalIn_bytes (P := Tryz.prog) W 9998 29 5 32 Tryz.underlying29 Tryz.underlying5 size_u8 (List.replicate 32 0) (List.replicate 32 0) (by simp) (by simp)
    rw [beq_self_eq_true] at h
    rw [hZL]
    exact h
  have HZI : Hid _ := info32 ZL (by rw [hZL]; simp)
  have hO := OneS.mk' X a (.slice pd a.q.data.length cd) ZQ
  obtain ⟨f0, f1, f2, f3, f4⟩ := ak_facts hkk (rangeAt_row hO.r5)
  obtain ⟨g0, g1, g2, g3⟩ := q_facts hkk hO.r7
  have HL35 : Hid _ := info35 (qL a.q (.slice pd a.q.data.length cd)) (qL_len _ _ hkk)
  have HA35 : Hid (∀ W : World, W.heap[X.heap.size]? = some (.cells (akL a (.slice pd a.q.data.length cd)).toArray 41 (0, 0)) → W.rangeAt X.heap.size 2 (qL a.q (.slice pd a.q.data.length cd))) := fun W hW => by have := (ak_facts hkk (rangeAt_row hW)).2.2.1; simpa using this
  have HQ1 : Hid _ := PS.all_of (qL_one a.q (.slice pd a.q.data.length cd) rfl)
  have HQS : Hid ((qL a.q (.slice pd a.q.data.length cd)).toArray.size = 35) := by show _ = _; rw [List.size_toArray]; exact qL_len _ _ hkk
  have HAS37 : Hid ((akL a (.slice pd a.q.data.length cd)).toArray.size = 37) := by show _ = _; rw [List.size_toArray]; exact akL_len _ _ hkk
  have HM1 : Hid _ := hM.upd (Fr.ofBelow hO.bel)
  have HKC : Hid (∀ W : World, W.heap[X.heap.size + 1]? = some (.cells (qL a.q (.slice pd a.q.data.length cd)).toArray 39 (0, 0)) → W.cell? ⟨X.heap.size + 1, 0, none⟩ = some (.int .i64 a.q.kind)) := fun W hW => (q_facts hkk hW).1
  have HNC : Hid (∀ W : World, W.heap[X.heap.size]? = some (.cells (akL a (.slice pd a.q.data.length cd)).toArray 41 (0, 0)) → W.cell? ⟨X.heap.size, 1, none⟩ = some (.int .i64 a.n)) := fun W hW => by have := (ak_facts hkk (rangeAt_row hW)).2.1; simpa using this
  have HKF : Hid (∀ k, I k → X.heap[k]? = K.heap[k]? ∧ k < X.heap.size) := fun k hk => ⟨hM.same k hk, hM.ilt hk⟩
  have HUQ : Hid _ := Tryz.underlying39
  have HO : Hid _ := hO
  have HB0 : Hid _ := (hM.step hO.bel).bel
  clear hZL hZQ
  rw [hk] at f0
  have hml := hM.ml
  obtain ⟨q1, hq1e⟩ : ∃ q : Qn, q = ⟨3, a.q.key, a.q.dom, a.q.data⟩ := ⟨_, rfl⟩
  obtain ⟨q2, hq2e⟩ : ∃ q : Qn, q = ⟨3, m, a.q.dom, a.q.data⟩ := ⟨_, rfl⟩
  have hKEY : ∀ (Y K' : World) (I' : Nat → Prop) (pv : Value) (hf : Nat), MM w n tn og mb rg m D L L I' K' Y → HP Y pv [a.q.data.take hf, a.q.data.drop hf] → Calls Tryz.prog 24 #[.pointer (some ⟨og, 0, none⟩), .int .i64 a.q.dom, pv] Y fun e Z => e = .returned (okV (nx D L q2).1) ∧ MM w n tn og mb rg m D (nx D L q2).2 L I' K' Z := fun Y K' I' pv hf h hp => by
    have hfl : [a.q.data.take hf, a.q.data.drop hf].flatten = a.q.data := by simp
    have := h.key (by omega) pv a.q.dom [a.q.data.take hf, a.q.data.drop hf] (by rw [hfl]; exact ⟨hml, by show (Lit.int .i64 3).wf = true; decide, hkq.dom, by show a.q.data.length ≤ _; omega⟩) hp (by simp) (by rw [hfl]; omega) (by rw [hfl]; exact hok)
    rw [hfl, ← hq2e] at this
    exact this
  rw [← hq2e] at hok ⊢
  have hq1k : q1.key.length = 32 := by rw [hq1e]; exact hkk
  have hq2k : q2.key.length = 32 := by rw [hq2e]; exact hml
  have hq2d : q2.data = a.q.data := by rw [hq2e]
  have hq2m : q2.dom = a.q.dom := by rw [hq2e]
  have hset : ∀ dv, (qL a.q dv).toArray.setIfInBounds 0 (.int .i64 3) = (qL q1 dv).toArray := fun dv => by rw [hq1e]; unfold qL; simp
  have hspl : ∀ dv, splc (qL q1 dv) 1 (m.map B8) = qL q2 dv := fun dv => by rw [qL_splc q1 dv m hq1k hml, hq1e, hq2e]
  have hq2n : q2.kind = 3 := by rw [hq2e]
  have HMR : Hid (∀ Y, Below X.heap.size X Y → Y.rangeAt rg 1 (m.map B8)) := fun Y hb => rangeAt_below hM.master hb
  have HRGX : Hid (rg < X.heap.size) := by obtain ⟨S, dv, ov, T, dr, lv, lds, h1, h2, h3, h4, h5, h6⟩ := hM.ex; exact row_lt h2.row
  clear hq1e hq2e
  have hm : mayQ q2 = true ∧ (q2.kind == 4) = false := by unfold askB at hok; simpa using hok
  have HRASK : Hid (∀ (Y K' : World) (I' : Nat → Prop), MM w n tn og mb rg m D (nx D L q2).2 L I' K' Y → Calls Tryz.prog 21 #[.pointer (some ⟨rg, 0, none⟩), .agg (qL q2 (.slice pd a.q.data.length cd)).toArray] Y fun e Z => e = .returned (.agg ((nx D L q2).1.map B8).toArray) ∧ MM w n Z.heap.size og mb rg m D (nx D L q2).2 (nx D L q2).2 I' K' Z ∧ ∀ k, tn ≤ k → k < Y.heap.size → Z.heap[k]? = Y.heap[k]?) := fun Y K' I' h => h.rask (by omega) _ q2 hq2k (by rw [hq2d]; omega) (by rw [hq2d]; exact hdq)
  have HMAY : Hid (∀ Y, Below w.heap.size w Y → Calls Tryz.prog 20 #[.agg (qL q2 (.slice pd a.q.data.length cd)).toArray] Y fun e Z => e = .returned (.bool true) ∧ Below Y.heap.size Y Z) := fun Y hb => by have := may_any _ q2 Y ⟨hq2k, _, rfl, by rw [hq2d]; exact hdq.below hb⟩; rw [hm.1] at this; exact this
  have HAL : Hid ((nx D L q2).1.length = 32) := hM.alen q2
  generalize (nx D L q2).1 = A at *
  generalize (nx D L q2).2 = L' at *
  clear hm hok
  have HMX : Hid _ := hM
  have HKD0 : Hid (∀ W : World, W.heap[X.heap.size]? = some (.cells (akL a (.slice pd a.q.data.length cd)).toArray 41 (0, 0)) → W.cell? ⟨X.heap.size, 0, none⟩ = some (.int .i64 a.kind)) := fun W hW => by have := (ak_facts hkk (rangeAt_row hW)).1; simpa using this
  have HQC0 : Hid (∀ (W : World) (q : Qn), q.key.length = 32 → W.heap[X.heap.size + 1]? = some (.cells (qL q (.slice pd a.q.data.length cd)).toArray 39 (0, 0)) → W.cell? ⟨X.heap.size + 1, 0, none⟩ = some (.int .i64 q.kind) ∧ W.rangeAt (X.heap.size + 1) 1 (q.key.map B8) ∧ W.cell? ⟨X.heap.size + 1, 33, none⟩ = some (.int .i64 q.dom) ∧ W.cell? ⟨X.heap.size + 1, 34, none⟩ = some (.slice pd a.q.data.length cd)) := fun W q hq hW => q_facts hq hW
  rw [hk] at HKD0
  have HQC1 : Hid _ := fun W => HQC0.out W a.q hkk
  have g3' := g3
  obtain ⟨N, hN⟩ : ∃ N, N = a.q.data.length := ⟨_, rfl⟩
  obtain ⟨hf, hhf⟩ : ∃ k, k = N / 2 := ⟨_, rfl⟩
  have hq2 : ((N : Int)).tdiv 2 = (hf : Int) := by rw [hhf, Int.tdiv_eq_ediv_of_nonneg (by omega)]; omega
  have hN1 : N ≤ 1000000 := by omega
  have hfN : hf ≤ N := by omega
  have hNc : N ≤ cd := by rw [hN]; exact hb_len hdq
  have HH1 : Hid (∀ Y, Below w.heap.size w Y → HB Y (.slice pd hf cd) (a.q.data.take hf)) := fun Y hb => hb_take (hdq.below hb) hf (by omega)
  have HH2 : Hid (∀ Y, Below w.heap.size w Y → HB Y (.slice (if cd = hf then pd else pd.map (·.add hf)) (N - hf) (cd - hf)) (a.q.data.drop hf)) := fun Y hb => by rw [hN]; exact hb_half2 (hdq.below hb) hf (by omega)
  have hs1 := fun W => halfTo W pd N cd hf (by omega)
  have hs2 := fun W => halfOff W pd N cd hf hfN hNc
  generalize (if cd = hf then pd else pd.map (·.add hf)) = SP at *
  have HKEY : Hid _ := fun Y K' I' pv => hKEY Y K' I' pv hf
  have HSET : Hid _ := hset (.slice pd a.q.data.length cd)
  have HSPL : Hid _ := hspl (.slice pd a.q.data.length cd)
  clear hKEY hset hspl
  have HR5 : Hid _ := hO.r5
  have HR7 : Hid _ := hO.r7
  have HBX : Hid _ := hO.bel
  clear hO HO hM hdq f2 f3 f4 g0 g1 g2 g3
  generalize qL a.q (.slice pd a.q.data.length cd) = QL at *
  generalize akL a (.slice pd a.q.data.length cd) = AKL at *
  go_enter Tryz.func8, Tryz.ntmps8
  rw [← hN] at g3' HQC0 HQC1
  have HN : Hid _ := hN
  clear hN hhf
  have HG3 : Hid (HlfR (X.heap.size + 1) (.slice pd N cd) (((X.alloc (.cells AKL.toArray 41 (0, 0))).alloc (.cells ZQ 39 (0, 0))).setRow (X.heap.size + 1) QL.toArray).drew) := g3'
  have HHS : Hid (HlfS X ((((X.alloc (.cells AKL.toArray 41 (0, 0))).alloc (.cells ZQ 39 (0, 0))).setRow (X.heap.size + 1) QL.toArray).drew.alloc (.cells ZL.toArray 29 (0, 0))) (((X.alloc (.cells AKL.toArray 41 (0, 0))).alloc (.cells ZQ 39 (0, 0))).setRow (X.heap.size + 1) QL.toArray).drew.heap.size AKL QL ZL) := by
    have hsz : (((X.alloc (.cells AKL.toArray 41 (0, 0))).alloc (.cells ZQ 39 (0, 0))).setRow (X.heap.size + 1) QL.toArray).drew.heap.size = X.heap.size + 2 := by simp
    exact ⟨hsz, (HBX.out.drew).alloc (by omega) _, (Below.heap_alloc _ _ _ (by omega)).trans HR5.out, (Below.heap_alloc _ _ _ (by omega)).trans HR7.out, heap_alloc_new _ _, by simp⟩
  have HSZ : Hid ((((X.alloc (.cells AKL.toArray 41 (0, 0))).alloc (.cells ZQ 39 (0, 0))).setRow (X.heap.size + 1) QL.toArray).drew.heap.size = X.heap.size + 2) := by show _ = _; simp
  have HRZ : Hid ((X.alloc (.cells AKL.toArray 41 (0, 0))).heap[X.heap.size]? = some (.cells AKL.toArray 41 (0, 0))) := heap_alloc_new _ _
  have HZR : Hid (((X.alloc (.cells AKL.toArray 41 (0, 0))).alloc (.cells ZQ 39 (0, 0))).heap[X.heap.size + 1]? = some (.cells ZQ 39 (0, 0))) := heap_at _ _ _ (by simp)
  have HQ7 : Hid ((((X.alloc (.cells AKL.toArray 41 (0, 0))).alloc (.cells ZQ 39 (0, 0))).setRow (X.heap.size + 1) QL.toArray).rangeAt (X.heap.size + 1) 0 QL) := rangeAt_row HR7.out
  go_wp2_with (first
    | (refine wpList_load_mid rfl 39 _ rfl X.heap.size 2 rfl QL _ (HA35.out _ HRZ.out) HUQ.out rfl HL35.out ?_)
    | (refine wpList_store_row rfl 39 _ _ rfl (X.heap.size + 1) QL.toArray rfl rfl 39 ZQ HZR.out (info35b _ HQS.out) (HZQ.out.trans HQS.out.symm) HQ1.out ?_)
    | (refine wpList_load_mid rfl 39 _ rfl (X.heap.size + 1) 0 rfl QL _ HQ7.out HUQ.out rfl HL35.out ?_)
    | (go_at_call 13; fail))
  refine wp_region_held_drew (S := HlfR (X.heap.size + 1) (.slice pd N cd)) (by kernel_rfl) HG3.out (fun hHeld => ?_)
  clear HM1 HA35 HRZ HZR HQ7 f0 f1 HG3 HB0 HR5 HR7 HBX g3'
  generalize (((X.alloc (.cells AKL.toArray 41 (0, 0))).alloc (.cells ZQ 39 (0, 0))).setRow (X.heap.size + 1) QL.toArray).drew = W1 at *
  refine wpAnyH_take (i := 0) (oi := { dst := some 109, op := Go.Op.fieldAddr 39 (Go.Operand.tmp 7) 3, type := 0, pos := _, after := #[], guard := none }) (v := .pointer (some ⟨X.heap.size + 1, 34, none⟩)) rfl (by kernel_rfl) (by kernel_rfl) (by kernel_rfl) (fun _ _ _ h => h) (Or.inl ⟨by rfl, fun w' hw' => ?_⟩) hHeld ?_
  · first | (go_simp; done) | (go_simp; rfl)
  try simp only [Act.put, List.setIfInBounds_toArray, List.set_cons_zero, List.set_cons_succ]
  refine wpAnyH_take (i := 1) (oi := { dst := some 110, op := Go.Op.load 37 (Go.Operand.tmp 109), type := 37, pos := _, after := #[{ on := 0, ground := Go.Ground.data }], guard := none }) (v := .slice pd N cd) rfl (by kernel_rfl) (by kernel_rfl) (by kernel_rfl) (fun _ _ _ h => h) (Or.inl ⟨by rfl, fun w' hw' => ?_⟩) hHeld ?_
  · have hc : w'.cell? ⟨X.heap.size + 1, 34, none⟩ = some (.slice pd N cd) := hw'; first | (go_simp; done) | (go_simp; rfl)
  try simp only [Act.put, List.setIfInBounds_toArray, List.set_cons_zero, List.set_cons_succ]
  refine wpAnyH_take (i := 2) (oi := { dst := some 111, op := Go.Op.move (Go.Operand.tmp 12), type := 3, pos := _, after := #[], guard := none }) (v := .int .i64 (hf : Int)) rfl (by kernel_rfl) (by kernel_rfl) (by kernel_rfl) (fun _ _ _ h => h) (Or.inl ⟨by rfl, fun w' hw' => ?_⟩) hHeld ?_
  · first | (go_simp; done) | (go_simp; rfl)
  try simp only [Act.put, List.setIfInBounds_toArray, List.set_cons_zero, List.set_cons_succ]
  refine wpAnyH_take (i := 3) (oi := { dst := some 112, op := Go.Op.slice 37 (Go.Operand.tmp 110) none (some (Go.Operand.tmp 111)) none, type := 37, pos := _, after := #[{ on := 1, ground := Go.Ground.data }, { on := 2, ground := Go.Ground.data }], guard := none }) (v := .slice pd hf cd) rfl (by kernel_rfl) (by kernel_rfl) (by kernel_rfl) (fun _ _ _ h => h) (Or.inl ⟨by rfl, fun w' hw' => ?_⟩) hHeld ?_
  · have hc := hs1 w'; first | (go_simp; done) | (go_simp; rfl)
  try simp only [Act.put, List.setIfInBounds_toArray, List.set_cons_zero, List.set_cons_succ]
  refine wpAnyH_take (i := 4) (oi := { dst := some 113, op := Go.Op.fieldAddr 39 (Go.Operand.tmp 7) 3, type := 0, pos := _, after := #[], guard := none }) (v := .pointer (some ⟨X.heap.size + 1, 34, none⟩)) rfl (by kernel_rfl) (by kernel_rfl) (by kernel_rfl) (fun _ _ _ h => h) (Or.inl ⟨by rfl, fun w' hw' => ?_⟩) hHeld ?_
  · first | (go_simp; done) | (go_simp; rfl)
  try simp only [Act.put, List.setIfInBounds_toArray, List.set_cons_zero, List.set_cons_succ]
  refine wpAnyH_take (i := 5) (oi := { dst := some 114, op := Go.Op.load 37 (Go.Operand.tmp 113), type := 37, pos := _, after := #[{ on := 4, ground := Go.Ground.data }], guard := none }) (v := .slice pd N cd) rfl (by kernel_rfl) (by kernel_rfl) (by kernel_rfl) (fun _ _ _ h => h) (Or.inl ⟨by rfl, fun w' hw' => ?_⟩) hHeld ?_
  · have hc : w'.cell? ⟨X.heap.size + 1, 34, none⟩ = some (.slice pd N cd) := hw'; first | (go_simp; done) | (go_simp; rfl)
  try simp only [Act.put, List.setIfInBounds_toArray, List.set_cons_zero, List.set_cons_succ]
  refine wpAnyH_take (i := 6) (oi := { dst := some 115, op := Go.Op.move (Go.Operand.tmp 12), type := 3, pos := _, after := #[], guard := none }) (v := .int .i64 (hf : Int)) rfl (by kernel_rfl) (by kernel_rfl) (by kernel_rfl) (fun _ _ _ h => h) (Or.inl ⟨by rfl, fun w' hw' => ?_⟩) hHeld ?_
  · first | (go_simp; done) | (go_simp; rfl)
  try simp only [Act.put, List.setIfInBounds_toArray, List.set_cons_zero, List.set_cons_succ]
  refine wpAnyH_take (i := 7) (oi := { dst := some 116, op := Go.Op.slice 37 (Go.Operand.tmp 114) (some (Go.Operand.tmp 115)) none none, type := 37, pos := _, after := #[{ on := 5, ground := Go.Ground.data }, { on := 6, ground := Go.Ground.data }], guard := none }) (v := .slice SP (N - hf) (cd - hf)) rfl (by kernel_rfl) (by kernel_rfl) (by kernel_rfl) (fun _ _ _ h => h) (Or.inl ⟨by rfl, fun w' hw' => ?_⟩) hHeld ?_
  · have hc := hs2 w'; first | (go_simp; done) | (go_simp; rfl)
  try simp only [Act.put, List.setIfInBounds_toArray, List.set_cons_zero, List.set_cons_succ]
  refine wpAnyH_ready (rs := [8]) (by kernel_rfl) (by simp) ?_
  refine AllReadyH.cons (o := { dst := some 13, op := Go.Op.assign (Go.Operand.tmp 112), type := 37, pos := _, after := #[{ on := 3, ground := Go.Ground.data }, { on := 0, ground := Go.Ground.phase }, { on := 1, ground := Go.Ground.phase }, { on := 2, ground := Go.Ground.phase }, { on := 3, ground := Go.Ground.phase }, { on := 4, ground := Go.Ground.textOnly Go.Departure.lateStores }, { on := 5, ground := Go.Ground.textOnly Go.Departure.lateStores }, { on := 6, ground := Go.Ground.textOnly Go.Departure.lateStores }, { on := 7, ground := Go.Ground.textOnly Go.Departure.lateStoresUnsure }], guard := none }) rfl (fun K hK => ?_) AllReadyH.nil
  rw [if_pos (by rfl)]
  go_wp2_with fail
  refine hK.out _ _ hHeld (fun _ => ?_)
  clear hK K
  try simp only [Act.put, List.setIfInBounds_toArray, List.set_cons_zero, List.set_cons_succ]
  refine wpAnyH_ready (rs := [9]) (by kernel_rfl) (by simp) ?_
  refine AllReadyH.cons (o := { dst := some 14, op := Go.Op.assign (Go.Operand.tmp 116), type := 37, pos := _, after := #[{ on := 7, ground := Go.Ground.data }, { on := 8, ground := Go.Ground.chain }, { on := 0, ground := Go.Ground.phase }, { on := 1, ground := Go.Ground.phase }, { on := 2, ground := Go.Ground.phase }, { on := 3, ground := Go.Ground.phase }, { on := 4, ground := Go.Ground.phase }, { on := 5, ground := Go.Ground.phase }, { on := 6, ground := Go.Ground.phase }, { on := 7, ground := Go.Ground.phase }, { on := 8, ground := Go.Ground.phase }], guard := none }) rfl (fun K hK => ?_) AllReadyH.nil
  rw [if_pos (by rfl)]
  go_wp2_with fail
  refine hK.out _ _ hHeld (fun _ => ?_)
  clear hK K
  try simp only [Act.put, List.setIfInBounds_toArray, List.set_cons_zero, List.set_cons_succ]
  refine wpAnyH_done (by kernel_rfl) ?_ _
  clear hHeld
  generalize hNf : N - hf = Nf at *
  generalize hcf : cd - hf = cf at *
  have hk5 := HKD0.out _ HHS.out.r5
  have HNS : Hid ((qL q2 (.slice pd N cd)).toArray.size = 35) := by show _ = _; rw [List.size_toArray]; exact qL_len _ _ hq2k
  have HNI : Hid _ := info35 (qL q2 (.slice pd N cd)) (qL_len _ _ hq2k)
  have HQ1L : Hid ((qL q1 (.slice pd N cd)).length = 35) := qL_len _ _ hq1k
  have HML : Hid ((m.map B8).length = 32) := by show _ = _; simpa using hml
  have HMI : Hid _ := info32 (m.map B8) HML.out
  have HM1c : Hid _ := B8_onea m
  rw [← HN.out] at HMAY HSET HSPL HRASK
  have hr7d : (W1.alloc (.cells ZL.toArray 29 (0, 0))).drew.heap[X.heap.size + 1]? = some (.cells QL.toArray 39 (0, 0)) := by rw [heap_drew]; exact HHS.out.r7
  have HR15d : Hid ((W1.alloc (.cells ZL.toArray 29 (0, 0))).drew.heap[W1.heap.size]? = some (.cells ZL.toArray 29 (0, 0))) := by show _ = _; rw [heap_drew]; exact HHS.out.r15
  have HBd : Hid (Below X.heap.size X (W1.alloc (.cells ZL.toArray 29 (0, 0))).drew) := HHS.out.bel.drew
  have HSd : Hid ((W1.alloc (.cells ZL.toArray 29 (0, 0))).drew.heap.size = W1.heap.size + 1) := by show _ = _; simp
  have HR7D : Hid _ := hr7d
  have HMAS : Hid (MasR rg (m.map B8) (W1.alloc (.cells ZL.toArray 29 (0, 0))).drew) := HMR.out _ HBd.out
  have hfz := frozen_of_row _ _ 0 _ _ hr7d
  have hc70 := (HQC1.out _ hr7d).1
  obtain ⟨ML, hMLe⟩ : ∃ L, L = m.map B8 := ⟨_, rfl⟩
  rw [← hMLe] at HML HMI HM1c HMAS HSPL
  have HMLr : Hid (∀ Y, Below X.heap.size X Y → Y.rangeAt rg 1 ML) := fun Y hb => by rw [hMLe]; exact HMR.out Y hb
  clear hMLe
  clear hr7d hs1 hs2 hq2
  go_wp2
  refine wp_region_held_drew (S := MasR rg ML) (by kernel_rfl) HMAS.out (fun hHeld => ?_)
  generalize (W1.alloc (.cells ZL.toArray 29 (0, 0))).drew = Wd at *
  refine wpAnyH_take (i := 0) (oi := { dst := some 119, op := Go.Op.move (Go.Operand.tmp 1), type := 30, pos := _, after := #[{ on := 5, ground := Go.Ground.gcOnly Go.Departure.lateStores }], guard := none }) (v := .pointer (some ⟨rg, 0, none⟩)) rfl (by kernel_rfl) (by kernel_rfl) (by kernel_rfl) (fun _ _ _ h => h) (Or.inl ⟨by rfl, fun w' hw' => ?_⟩) hHeld ?_
  · first | (go_simp; done) | (go_simp; rfl)
  try simp only [Act.put, List.setIfInBounds_toArray, List.set_cons_zero, List.set_cons_succ]
  refine wpAnyH_take (i := 1) (oi := { dst := some 120, op := Go.Op.nilCheck (Go.Operand.tmp 119), type := 0, pos := _, after := #[{ on := 0, ground := Go.Ground.data }, { on := 5, ground := Go.Ground.gcOnly Go.Departure.lateStores }], guard := none }) (v := .pointer (some ⟨rg, 0, none⟩)) rfl (by kernel_rfl) (by kernel_rfl) (by kernel_rfl) (fun _ _ _ h => h) (Or.inl ⟨by rfl, fun w' hw' => ?_⟩) hHeld ?_
  · first | (go_simp; done) | (go_simp; rfl)
  try simp only [Act.put, List.setIfInBounds_toArray, List.set_cons_zero, List.set_cons_succ]
  refine wpAnyH_take (i := 2) (oi := { dst := some 121, op := Go.Op.fieldAddr 33 (Go.Operand.tmp 120) 1, type := 0, pos := _, after := #[{ on := 1, ground := Go.Ground.data }, { on := 5, ground := Go.Ground.gcOnly Go.Departure.lateStores }], guard := none }) (v := .pointer (some ⟨rg, 1, none⟩)) rfl (by kernel_rfl) (by kernel_rfl) (by kernel_rfl) (fun _ _ _ h => h) (Or.inl ⟨by rfl, fun w' hw' => ?_⟩) hHeld ?_
  · first | (go_simp; done) | (go_simp; rfl)
  try simp only [Act.put, List.setIfInBounds_toArray, List.set_cons_zero, List.set_cons_succ]
  refine wpAnyH_take (i := 3) (oi := { dst := some 122, op := Go.Op.load 29 (Go.Operand.tmp 121), type := 29, pos := _, after := #[{ on := 2, ground := Go.Ground.data }, { on := 5, ground := Go.Ground.gcOnly Go.Departure.lateStores }], guard := none }) rfl (by kernel_rfl) (by kernel_rfl) (by kernel_rfl) (fun _ _ _ h => h) (yieldsIf_load_mid (by rfl) 29 (.tmp 121) rfl (rg) (1) rfl (ML) _ (fun _ h => h) Tryz.underlying29 rfl HMI.out) hHeld ?_
  try simp only [Act.put, List.setIfInBounds_toArray, List.set_cons_zero, List.set_cons_succ]
  refine wpAnyH_take (i := 4) (oi := { dst := some 123, op := Go.Op.fieldAddr 39 (Go.Operand.tmp 7) 0, type := 0, pos := _, after := #[{ on := 0, ground := Go.Ground.textOnly Go.Departure.lateStores }, { on := 1, ground := Go.Ground.textOnly Go.Departure.lateStores }, { on := 2, ground := Go.Ground.textOnly Go.Departure.lateStores }, { on := 3, ground := Go.Ground.textOnly Go.Departure.lateStores }], guard := none }) (v := .pointer (some ⟨X.heap.size + 1, 0, none⟩)) rfl (by kernel_rfl) (by kernel_rfl) (by kernel_rfl) (fun _ _ _ h => h) (Or.inl ⟨by rfl, fun w' hw' => ?_⟩) hHeld ?_
  · first | (go_simp; done) | (go_simp; rfl)
  try simp only [Act.put, List.setIfInBounds_toArray, List.set_cons_zero, List.set_cons_succ]
  refine wpAnyH_ready (rs := [5]) (by kernel_rfl) (by simp) ?_
  refine AllReadyH.cons (o := { dst := none, op := Go.Op.store 35 (Go.Operand.tmp 123) (Go.Operand.const (Go.Value.int Go.IntKind.i64 3)), type := 0, pos := _, after := #[{ on := 4, ground := Go.Ground.data }, { on := 0, ground := Go.Ground.textOnly Go.Departure.lateStores }, { on := 1, ground := Go.Ground.textOnly Go.Departure.lateStores }, { on := 2, ground := Go.Ground.textOnly Go.Departure.lateStores }, { on := 3, ground := Go.Ground.textOnly Go.Departure.lateStores }], guard := none }) rfl (fun K hK => ?_) AllReadyH.nil
  rw [if_pos (by rfl)]
  go_wp2_with fail
  have HB3a : Hid (Below X.heap.size X (Wd.setCell ⟨X.heap.size + 1, 0, none⟩ (.int .i64 3))) := HBd.out.setCell (show X.heap.size ≤ X.heap.size + 1 by omega) _
  have HR73a : Hid ((Wd.setCell ⟨X.heap.size + 1, 0, none⟩ (.int .i64 3)).heap[X.heap.size + 1]? = some (.cells (qL q1 (.slice pd N cd)).toArray 39 (0, 0))) := by show _ = _; rw [heap_setCell_same _ _ 0 _ _ _ HR7D.out, HSET.out]
  have hHeld2 : MasR rg ML (Wd.setCell ⟨X.heap.size + 1, 0, none⟩ (.int .i64 3)) := HMLr.out _ HB3a.out
  refine hK.out _ _ hHeld2 (fun _ => ?_)
  clear hK K
  try simp only [Act.put, List.setIfInBounds_toArray, List.set_cons_zero, List.set_cons_succ]
  clear hHeld
  have hHeld := hHeld2
  refine wpAnyH_take (i := 6) (oi := { dst := some 124, op := Go.Op.fieldAddr 39 (Go.Operand.tmp 7) 1, type := 0, pos := _, after := #[{ on := 0, ground := Go.Ground.phase }, { on := 1, ground := Go.Ground.phase }, { on := 2, ground := Go.Ground.phase }, { on := 3, ground := Go.Ground.phase }, { on := 4, ground := Go.Ground.phase }, { on := 5, ground := Go.Ground.phase }], guard := none }) (v := .pointer (some ⟨X.heap.size + 1, 1, none⟩)) rfl (by kernel_rfl) (by kernel_rfl) (by kernel_rfl) (fun _ _ _ h => h) (Or.inl ⟨by rfl, fun w' hw' => ?_⟩) hHeld ?_
  · first | (go_simp; done) | (go_simp; rfl)
  try simp only [Act.put, List.setIfInBounds_toArray, List.set_cons_zero, List.set_cons_succ]
  refine wpAnyH_ready (rs := [7]) (by kernel_rfl) (by simp) ?_
  refine AllReadyH.cons (o := { dst := none, op := Go.Op.store 29 (Go.Operand.tmp 124) (Go.Operand.tmp 122), type := 0, pos := _, after := #[{ on := 6, ground := Go.Ground.data }, { on := 3, ground := Go.Ground.data }, { on := 5, ground := Go.Ground.chain }, { on := 0, ground := Go.Ground.phase }, { on := 1, ground := Go.Ground.phase }, { on := 2, ground := Go.Ground.phase }, { on := 3, ground := Go.Ground.phase }, { on := 4, ground := Go.Ground.phase }, { on := 5, ground := Go.Ground.phase }], guard := none }) rfl (fun K hK => ?_) AllReadyH.nil
  rw [if_pos (by rfl)]
  refine wp_store_segR 29 _ _ rfl (X.heap.size + 1) 1 ML.toArray (qL q1 (.slice pd N cd)) 39 rfl rfl HR73a.out (info32a _ (by simpa using HML.out)) (by rw [HQ1L.out, List.size_toArray, HML.out]; decide) HM1c.out ?_
  have HSPL' : Hid ((splc (qL q1 (.slice pd N cd)) 1 ML.toArray.toList).toArray = (qL q2 (.slice pd N cd)).toArray) := by show _ = _; rw [List.toList_toArray, HSPL.out]
  rw [HSPL'.out]
  have HR73 : Hid ((((Wd.setCell ⟨X.heap.size + 1, 0, none⟩ (.int .i64 3))).setRow (X.heap.size + 1) (qL q2 (.slice pd N cd)).toArray).heap[X.heap.size + 1]? = some (.cells (qL q2 (.slice pd N cd)).toArray 39 (0, 0))) := setRow_heap _ _ _ _ _ _ HR73a.out
  have hdm3 := (HQC0.out _ q2 hq2k HR73.out).2.2.1
  rw [hq2m] at hdm3
  clear HSPL HSPL' HSET
  generalize qL q2 (.slice pd N cd) = QN at *
  have HB3 : Hid (Below X.heap.size X ((Wd.setCell ⟨X.heap.size + 1, 0, none⟩ (.int .i64 3)).setRow (X.heap.size + 1) QN.toArray)) := below_setRow HB3a.out (by omega) _
  have HR153 : Hid (((Wd.setCell ⟨X.heap.size + 1, 0, none⟩ (.int .i64 3)).setRow (X.heap.size + 1) QN.toArray).heap[W1.heap.size]? = some (.cells ZL.toArray 29 (0, 0))) := (setRow_other _ _ _ _ (by have := HSZ.out; omega)).trans ((heap_setCell_other _ _ _ _ (by have := HSZ.out; show W1.heap.size ≠ X.heap.size + 1; omega)).trans HR15d.out)
  have hHeld3 : MasR rg ML ((Wd.setCell ⟨X.heap.size + 1, 0, none⟩ (.int .i64 3)).setRow (X.heap.size + 1) QN.toArray) := HMLr.out _ HB3.out
  refine hK.out _ _ hHeld3 (fun _ => ?_)
  clear hK K
  try simp only [Act.put, List.setIfInBounds_toArray, List.set_cons_zero, List.set_cons_succ]
  refine wpAnyH_done (by kernel_rfl) ?_ _
  clear hHeld hHeld2 hHeld3 hfz hc70 HQC1
  have hs3 : ((Wd.setCell ⟨X.heap.size + 1, 0, none⟩ (.int .i64 3)).setRow (X.heap.size + 1) QN.toArray).heap.size = W1.heap.size + 1 := by rw [← HSd.out]; simp
  have HBS : Hid _ := fun W => PS.bs_pair W pd SP hf Nf cd cf
  go_wp2_with (first
    | (refine wpListZ_bslice rfl 83 2 _ rfl _ _ (by simp; first | exact ⟨rfl, rfl⟩ | exact ⟨rfl, rfl, rfl⟩ | rfl) (HBS.out _) ?_)
    | (go_at_call 24; fail))
  have hb3w : Below w.heap.size w ((Wd.setCell ⟨X.heap.size + 1, 0, none⟩ (.int .i64 3)).setRow (X.heap.size + 1) QN.toArray) := HMX.out.bel.trans (HB3.out.mono HMX.out.bel.size)
  have HPF : Hid (HP (((Wd.setCell ⟨X.heap.size + 1, 0, none⟩ (.int .i64 3)).setRow (X.heap.size + 1) QN.toArray).alloc (.cells #[.slice pd hf cd, .slice SP Nf cf] 37 (0, 0))) (.slice (some ⟨W1.heap.size + 1, 0, none⟩) 2 2) [a.q.data.take hf, a.q.data.drop hf]) := by have h := PS.hp_pair (HH1.out _ hb3w) (HH2.out _ hb3w); rw [hs3] at h; exact h
  have HB4 : Hid (Below X.heap.size X (((Wd.setCell ⟨X.heap.size + 1, 0, none⟩ (.int .i64 3)).setRow (X.heap.size + 1) QN.toArray).alloc (.cells #[.slice pd hf cd, .slice SP Nf cf] 37 (0, 0)))) := HB3.out.alloc HB3.out.size _
  have HR74 : Hid ((((Wd.setCell ⟨X.heap.size + 1, 0, none⟩ (.int .i64 3)).setRow (X.heap.size + 1) QN.toArray).alloc (.cells #[.slice pd hf cd, .slice SP Nf cf] 37 (0, 0))).heap[X.heap.size + 1]? = some (.cells QN.toArray 39 (0, 0))) := (Below.heap_alloc _ _ _ (row_lt HR73.out)).trans HR73.out
  have HR154 : Hid ((((Wd.setCell ⟨X.heap.size + 1, 0, none⟩ (.int .i64 3)).setRow (X.heap.size + 1) QN.toArray).alloc (.cells #[.slice pd hf cd, .slice SP Nf cf] 37 (0, 0))).heap[W1.heap.size]? = some (.cells ZL.toArray 29 (0, 0))) := (Below.heap_alloc _ _ _ (row_lt HR153.out)).trans HR153.out
  have HM4 : Hid _ := HMX.out.upd (Fr.ofBelow HB4.out)
  refine Calls.mono (HKEY.out _ _ _ _ HM4.out HPF.out) ?_
  clear HPF hs3 hb3w HHS hk5 hdm3 HKEY HBS HR73 HR153 HR73a HB3a HB3 HMAS HR7D HR15d HBd
  have hI7 : I (X.heap.size + 1) ∨ X.heap.size ≤ X.heap.size + 1 ∧ X.heap.size + 1 < ((((Wd.setCell ⟨X.heap.size + 1, 0, none⟩ (.int .i64 3)).setRow (X.heap.size + 1) QN.toArray).alloc (.cells #[.slice pd hf cd, .slice SP Nf cf] 37 (0, 0)))).heap.size := .inr ⟨by omega, row_lt HR74.out⟩
  have hI15 : I W1.heap.size ∨ X.heap.size ≤ W1.heap.size ∧ W1.heap.size < ((((Wd.setCell ⟨X.heap.size + 1, 0, none⟩ (.int .i64 3)).setRow (X.heap.size + 1) QN.toArray).alloc (.cells #[.slice pd hf cd, .slice SP Nf cf] 37 (0, 0)))).heap.size := .inr ⟨by have := HSZ.out; omega, row_lt HR154.out⟩
  rintro e Y ⟨rfl, hM5⟩
  clear HM4
  generalize (((Wd.setCell ⟨X.heap.size + 1, 0, none⟩ (.int .i64 3)).setRow (X.heap.size + 1) QN.toArray).alloc (.cells #[.slice pd hf cd, .slice SP Nf cf] 37 (0, 0))) = W4 at *
  have hr7 := hM5.at hI7 HR74.out
  have hr15 := hM5.at hI15 HR154.out
  have hnW : n ≤ W1.heap.size := by have h1 := HMX.out.low.2; have h2 := HSZ.out; omega
  have hxW : X.heap.size + 1 ≠ W1.heap.size := by have h2 := HSZ.out; omega
  unfold okV dV
  have HAS : Hid ((A.map B8).toArray.size = 32) := by show _ = _; simpa using HAL.out
  have HA1 : Hid _ := B8_onea A
  have hAq := fun W => eql_same W A HAL.out
  have HAI : Hid _ := info32 (A.map B8) (by simpa using HAL.out)
  obtain ⟨AL, hAL⟩ : ∃ L, L = A.map B8 := ⟨_, rfl⟩
  rw [← hAL] at HAS HA1 hAq HRASK HAI ⊢
  clear hAL
  have HM6 : Hid _ := hM5.upd ((Fr.refl _ _).setRow W1.heap.size AL.toArray (.inl ⟨hnW, hI15⟩))
  have HR76 : Hid ((Y.setRow W1.heap.size AL.toArray).heap[X.heap.size + 1]? = some (.cells QN.toArray 39 (0, 0))) := (setRow_other _ _ _ _ hxW).trans hr7
  have HR156 : Hid ((Y.setRow W1.heap.size AL.toArray).heap[W1.heap.size]? = some (.cells AL.toArray 29 (0, 0))) := setRow_heap _ _ _ _ _ _ hr15
  have HKK : Hid (∀ k, I k → (Y.setRow W1.heap.size AL.toArray).heap[k]? = K.heap[k]?) := fun k hk => (setRow_other _ _ _ _ (by have h1 := (HKF.out k hk).2; have h2 := HSZ.out; omega)).trans ((hM5.same k (.inl hk)).trans ((HB4.out.block k (HKF.out k hk).2).trans (HKF.out k hk).1))
  have HR15 : Hid _ := hr15
  have HQ76 : Hid _ := rangeAt_row HR76.out
  clear hM5 hr7 hr15
  go_wp2_with (first
    | (refine wpList_store_row rfl 29 _ _ rfl W1.heap.size AL.toArray rfl rfl 29 ZL.toArray HR15.out (info32a _ HAS.out) (HZS.out.trans HAS.out.symm) HA1.out ?_)
    | (refine wpList_load_mid rfl 39 _ rfl (X.heap.size + 1) 0 rfl QN _ HQ76.out HUQ.out rfl HNI.out ?_)
    | (go_at_call 20; fail))
  refine Calls.mono (HMAY.out _ HM6.out.bel) ?_
  rintro e Y3 ⟨rfl, hb3⟩
  have HM7 : Hid _ := (HM6.out.step hb3).step (hb := (Below.refl _ _).drew)
  have HTW : Hid (TwoR (X.heap.size + 1) W1.heap.size QN AL Y3.drew) := ⟨rangeAt_row (by rw [heap_drew]; exact (hb3.block _ (row_lt HR76.out)).trans HR76.out), rangeAt_row (by rw [heap_drew]; exact (hb3.block _ (row_lt HR156.out)).trans HR156.out)⟩
  clear HM6 HQ76 HR76 HR156 HR15 hb3
  generalize Y.setRow W1.heap.size AL.toArray = Y2 at *
  go_wp2
  refine wp_region_held_drew (S := TwoR (X.heap.size + 1) W1.heap.size QN AL) (by kernel_rfl) HTW.out (fun hHeld => ?_)
  generalize Y3.drew = W at *
  refine wpAnyH_take (i := 0) (oi := { dst := some 177, op := Go.Op.move (Go.Operand.tmp 16), type := 48, pos := _, after := #[], guard := none }) (v := .int .i64 0) rfl (by kernel_rfl) (by kernel_rfl) (by kernel_rfl) (fun _ _ _ h => h) (Or.inl ⟨by rfl, fun w' hw' => ?_⟩) hHeld ?_
  · first | (go_simp; done) | (go_simp; rfl)
  try simp only [Act.put, List.setIfInBounds_toArray, List.set_cons_zero, List.set_cons_succ]
  refine wpAnyH_take (i := 1) (oi := { dst := some 178, op := Go.Op.binOp Go.BinOp.eql 48 (Go.Operand.tmp 177) (Go.Operand.const (Go.Value.int Go.IntKind.i64 0)) 48, type := 4, pos := _, after := #[{ on := 0, ground := Go.Ground.data }], guard := none }) (v := .bool true) rfl (by kernel_rfl) (by kernel_rfl) (by kernel_rfl) (fun _ _ _ h => h) (Or.inl ⟨by rfl, fun w' hw' => ?_⟩) hHeld ?_
  · first | (go_simp; done) | (go_simp; rfl)
  try simp only [Act.put, List.setIfInBounds_toArray, List.set_cons_zero, List.set_cons_succ]
  refine wpAnyH_take (i := 2) (oi := { dst := some 179, op := Go.Op.move (Go.Operand.tmp 178), type := 4, pos := _, after := #[{ on := 1, ground := Go.Ground.data }], guard := none }) (v := .bool true) rfl (by kernel_rfl) (by kernel_rfl) (by kernel_rfl) (fun _ _ _ h => h) (Or.inl ⟨by rfl, fun w' hw' => ?_⟩) hHeld ?_
  · first | (go_simp; done) | (go_simp; rfl)
  try simp only [Act.put, List.setIfInBounds_toArray, List.set_cons_zero, List.set_cons_succ]
  refine wpAnyH_take (i := 3) (oi := { dst := some 180, op := Go.Op.load 29 (Go.Operand.tmp 15), type := 29, pos := _, after := #[{ on := 2, ground := Go.Ground.guard }], guard := some (2, true) }) rfl (by kernel_rfl) (by kernel_rfl) (by kernel_rfl) (fun _ _ _ h => h) (yieldsIf_load_mid (by rfl) 29 (.tmp 15) rfl (W1.heap.size) (0) rfl (AL) _ (fun _ h => h.x) Tryz.underlying29 rfl HAI.out) hHeld ?_
  try simp only [Act.put, List.setIfInBounds_toArray, List.set_cons_zero, List.set_cons_succ]
  refine wpAnyH_take (i := 4) (oi := { dst := some 181, op := Go.Op.move (Go.Operand.tmp 1), type := 30, pos := _, after := #[{ on := 2, ground := Go.Ground.guard }], guard := some (2, true) }) (v := .pointer (some ⟨rg, 0, none⟩)) rfl (by kernel_rfl) (by kernel_rfl) (by kernel_rfl) (fun _ _ _ h => h) (Or.inl ⟨by rfl, fun w' hw' => ?_⟩) hHeld ?_
  · first | (go_simp; done) | (go_simp; rfl)
  try simp only [Act.put, List.setIfInBounds_toArray, List.set_cons_zero, List.set_cons_succ]
  refine wpAnyH_take (i := 5) (oi := { dst := some 182, op := Go.Op.load 39 (Go.Operand.tmp 7), type := 39, pos := _, after := #[{ on := 2, ground := Go.Ground.guard }], guard := some (2, true) }) rfl (by kernel_rfl) (by kernel_rfl) (by kernel_rfl) (fun _ _ _ h => h) (yieldsIf_load_mid (by rfl) 39 (.tmp 7) rfl ((X.heap.size + 1)) (0) rfl (QN) _ (fun _ h => h.q) HUQ.out rfl HNI.out) hHeld ?_
  try simp only [Act.put, List.setIfInBounds_toArray, List.set_cons_zero, List.set_cons_succ]
  refine wpAnyH_ready (rs := [6]) (by kernel_rfl) (by simp) ?_
  refine AllReadyH.cons (o := { dst := some 183, op := Go.Op.call { callee := Go.Callee.value (Go.Operand.func 21), args := #[Go.Operand.tmp 181, Go.Operand.tmp 182], argTypes := #[30, 39] }, type := 29, pos := _, after := #[{ on := 4, ground := Go.Ground.data }, { on := 5, ground := Go.Ground.data }, { on := 2, ground := Go.Ground.chain }, { on := 2, ground := Go.Ground.guard }], guard := some (2, true) }) rfl (fun K hK => ?_) AllReadyH.nil
  rw [if_pos (by rfl)]
  go_wp2_with fail
  refine Calls.mono (HRASK.out W _ _ HM7.out) ?_
  rintro e W2 ⟨rfl, hM8, hkp⟩
  have hHeld2 : TwoR (X.heap.size + 1) W1.heap.size QN AL W2 := ⟨fun j v hv => (World.cell?_of_block (a := ⟨X.heap.size + 1, 0 + j, none⟩) ((hM8.same _ (.inl hI7)).trans (HM7.out.same _ (.inl hI7)).symm)).trans (hHeld.q j v hv), fun j v hv => (World.cell?_of_block (a := ⟨W1.heap.size, 0 + j, none⟩) ((hM8.same _ (.inl hI15)).trans (HM7.out.same _ (.inl hI15)).symm)).trans (hHeld.x j v hv)⟩
  have HM8 : Hid _ := hM8
  clear hM8 hkp
  refine hK.out _ _ hHeld2 (fun _ => ?_)
  clear hK K
  try simp only [Act.put, List.setIfInBounds_toArray, List.set_cons_zero, List.set_cons_succ]
  clear hHeld
  have hHeld := hHeld2
  refine wpAnyH_take (i := 7) (oi := { dst := some 184, op := Go.Op.binOp Go.BinOp.eql 29 (Go.Operand.tmp 180) (Go.Operand.tmp 183) 29, type := 4, pos := _, after := #[{ on := 3, ground := Go.Ground.data }, { on := 6, ground := Go.Ground.data }, { on := 2, ground := Go.Ground.guard }], guard := some (2, true) }) (v := .bool true) rfl (by kernel_rfl) (by kernel_rfl) (by kernel_rfl) (fun _ _ _ h => h) (Or.inl ⟨by rfl, fun w' hw' => ?_⟩) hHeld ?_
  · have hqq := hAq w'; first | (go_simp; done) | (go_simp; rfl)
  try simp only [Act.put, List.setIfInBounds_toArray, List.set_cons_zero, List.set_cons_succ]
  refine wpAnyH_take (i := 8) (oi := { dst := some 185, op := Go.Op.pick (Go.Operand.tmp 179) (Go.Operand.tmp 184) (Go.Operand.const (Go.Value.bool false)), type := 4, pos := _, after := #[{ on := 2, ground := Go.Ground.data }, { on := 7, ground := Go.Ground.data }], guard := none }) (v := .bool true) rfl (by kernel_rfl) (by kernel_rfl) (by kernel_rfl) (fun _ _ _ h => h) (Or.inl ⟨by rfl, fun w' hw' => ?_⟩) hHeld ?_
  · first | (go_simp; done) | (go_simp; rfl)
  try simp only [Act.put, List.setIfInBounds_toArray, List.set_cons_zero, List.set_cons_succ]
  refine wpAnyH_ready (rs := [9]) (by kernel_rfl) (by simp) ?_
  refine AllReadyH.cons (o := { dst := some 6, op := Go.Op.assign (Go.Operand.tmp 185), type := 4, pos := _, after := #[{ on := 8, ground := Go.Ground.data }, { on := 6, ground := Go.Ground.chain }, { on := 0, ground := Go.Ground.phase }, { on := 1, ground := Go.Ground.phase }, { on := 2, ground := Go.Ground.phase }, { on := 3, ground := Go.Ground.phase }, { on := 4, ground := Go.Ground.phase }, { on := 5, ground := Go.Ground.phase }, { on := 6, ground := Go.Ground.phase }, { on := 7, ground := Go.Ground.phase }, { on := 8, ground := Go.Ground.phase }], guard := none }) rfl (fun K hK => ?_) AllReadyH.nil
  rw [if_pos (by rfl)]
  go_wp2_with fail
  refine hK.out _ _ hHeld2 (fun _ => ?_)
  clear hK K
  try simp only [Act.put, List.setIfInBounds_toArray, List.set_cons_zero, List.set_cons_succ]
  refine wpAnyH_done (by kernel_rfl) ?_ _
  clear hHeld hHeld2
  go_wp2
  go_ret
  exact ⟨rfl, HM8.out.back (fun k hk => ⟨.inl (.inl hk), HKK.out k hk⟩)⟩
set_option maxHeartbeats 4000000 in
set_option maxRecDepth 100000 in
theorem one_5bad (w X K : World) (n tn og mb rg : Nat) (m : List UInt8) (D : List (List UInt8)) (L : List (Qn × List UInt8)) (I : Nat → Prop) (a : Ak) (pd : Option Addr) (cd : Nat) (hM : MM w n tn og mb rg m D L L I K X) (hll : L.length < 800000) (hkq : kOk a.q) (hql : a.q.data.length ≤ 1000000) (hdq : HB w (.slice pd a.q.data.length cd) a.q.data) (hk : a.kind = 5) (hok : askB ⟨3, m, a.q.dom, a.q.data⟩ = false) :
    Calls Tryz.prog 8 #[.pointer (some ⟨og, 0, none⟩), .pointer (some ⟨rg, 0, none⟩), .agg (akL a (.slice pd a.q.data.length cd)).toArray] X fun e Y => OneEnd w n og mb rg m D L I K e Y := by
  have hkk := hkq.key
  have hzv := fun W => zero_dig W
  have hbd := fun W => build_dig W
  have hzq := fun W => zero_qn W
  obtain ⟨ZL, hZL⟩ : ∃ L, L = (List.replicate 32 (0 : UInt8)).map B8 := ⟨_, rfl⟩
  obtain ⟨ZQ, hZQ⟩ : ∃ L, L = (qL ⟨0, List.replicate 32 0, 0, []⟩ (.slice none 0 0)).toArray := ⟨_, rfl⟩
  rw [← hZL] at hzv hbd
  rw [← hZQ] at hzq
  have HZQ : Hid (ZQ.size = 35) := by show _ = _; rw [hZQ, List.size_toArray]; exact qL_len _ _ (by simp)
  have HZS : Hid (ZL.toArray.size = 32) := by show _ = _; rw [hZL]; simp
  have HZ1 : Hid (ZL.toArray.all (·.oneCell') = true) := by show _ = _; rw [hZL]; exact B8_onea _
  have HZV : Hid (dV (List.replicate 32 0) = .agg ZL.toArray) := by show _ = _; rw [hZL]; rfl
  have HZ0 : Hid (∀ W, (Op.equalIn 10000 29 (.agg ZL.toArray) (.agg ZL.toArray)).run Tryz.prog W = .ok true W) := fun W => by
    have h := run_equalIn_bytes (P := Tryz.prog) W 9998 29 5 32 Tryz.underlying29 Tryz.underlying5 size_u8 (List.replicate 32 0) (List.replicate 32 0) (by simp) (by simp)
    rw [beq_self_eq_true] at h
    rw [hZL]
    exact h
  have HZI : Hid _ := info32 ZL (by rw [hZL]; simp)
  have hO := OneS.mk' X a (.slice pd a.q.data.length cd) ZQ
  obtain ⟨f0, f1, f2, f3, f4⟩ := ak_facts hkk (rangeAt_row hO.r5)
  obtain ⟨g0, g1, g2, g3⟩ := q_facts hkk hO.r7
  have HL35 : Hid _ := info35 (qL a.q (.slice pd a.q.data.length cd)) (qL_len _ _ hkk)
  have HA35 : Hid (∀ W : World, W.heap[X.heap.size]? = some (.cells (akL a (.slice pd a.q.data.length cd)).toArray 41 (0, 0)) → W.rangeAt X.heap.size 2 (qL a.q (.slice pd a.q.data.length cd))) := fun W hW => by have := (ak_facts hkk (rangeAt_row hW)).2.2.1; simpa using this
  have HQ1 : Hid _ := PS.all_of (qL_one a.q (.slice pd a.q.data.length cd) rfl)
  have HQS : Hid ((qL a.q (.slice pd a.q.data.length cd)).toArray.size = 35) := by show _ = _; rw [List.size_toArray]; exact qL_len _ _ hkk
  have HAS37 : Hid ((akL a (.slice pd a.q.data.length cd)).toArray.size = 37) := by show _ = _; rw [List.size_toArray]; exact akL_len _ _ hkk
  have HM1 : Hid _ := hM.upd (Fr.ofBelow hO.bel)
  have HKC : Hid (∀ W : World, W.heap[X.heap.size + 1]? = some (.cells (qL a.q (.slice pd a.q.data.length cd)).toArray 39 (0, 0)) → W.cell? ⟨X.heap.size + 1, 0, none⟩ = some (.int .i64 a.q.kind)) := fun W hW => (q_facts hkk hW).1
  have HNC : Hid (∀ W : World, W.heap[X.heap.size]? = some (.cells (akL a (.slice pd a.q.data.length cd)).toArray 41 (0, 0)) → W.cell? ⟨X.heap.size, 1, none⟩ = some (.int .i64 a.n)) := fun W hW => by have := (ak_facts hkk (rangeAt_row hW)).2.1; simpa using this
  have HKF : Hid (∀ k, I k → X.heap[k]? = K.heap[k]? ∧ k < X.heap.size) := fun k hk => ⟨hM.same k hk, hM.ilt hk⟩
  have HUQ : Hid _ := Tryz.underlying39
  have HO : Hid _ := hO
  have HB0 : Hid _ := (hM.step hO.bel).bel
  clear hZL hZQ
  rw [hk] at f0
  have hml := hM.ml
  obtain ⟨q1, hq1e⟩ : ∃ q : Qn, q = ⟨3, a.q.key, a.q.dom, a.q.data⟩ := ⟨_, rfl⟩
  obtain ⟨q2, hq2e⟩ : ∃ q : Qn, q = ⟨3, m, a.q.dom, a.q.data⟩ := ⟨_, rfl⟩
  have hKEY : ∀ (Y K' : World) (I' : Nat → Prop) (pv : Value) (hf : Nat), MM w n tn og mb rg m D L L I' K' Y → HP Y pv [a.q.data.take hf, a.q.data.drop hf] → Calls Tryz.prog 24 #[.pointer (some ⟨og, 0, none⟩), .int .i64 a.q.dom, pv] Y fun e Z => e = .returned (errV 2) ∧ MM w n tn og mb rg m D L L I' K' Z := fun Y K' I' pv hf h hp => by
    have hfl : [a.q.data.take hf, a.q.data.drop hf].flatten = a.q.data := by simp
    exact h.keyBad pv a.q.dom [a.q.data.take hf, a.q.data.drop hf] hp (by simp) (by rw [hfl]; omega) (by rw [hfl]; exact hok)
  rw [← hq2e] at hok
  have hq1k : q1.key.length = 32 := by rw [hq1e]; exact hkk
  have hq2k : q2.key.length = 32 := by rw [hq2e]; exact hml
  have hq2d : q2.data = a.q.data := by rw [hq2e]
  have hq2m : q2.dom = a.q.dom := by rw [hq2e]
  have hset : ∀ dv, (qL a.q dv).toArray.setIfInBounds 0 (.int .i64 3) = (qL q1 dv).toArray := fun dv => by rw [hq1e]; unfold qL; simp
  have hspl : ∀ dv, splc (qL q1 dv) 1 (m.map B8) = qL q2 dv := fun dv => by rw [qL_splc q1 dv m hq1k hml, hq1e, hq2e]
  have hq2n : q2.kind = 3 := by rw [hq2e]
  have HMR : Hid (∀ Y, Below X.heap.size X Y → Y.rangeAt rg 1 (m.map B8)) := fun Y hb => rangeAt_below hM.master hb
  have HRGX : Hid (rg < X.heap.size) := by obtain ⟨S, dv, ov, T, dr, lv, lds, h1, h2, h3, h4, h5, h6⟩ := hM.ex; exact row_lt h2.row
  clear hq1e hq2e
  have hm : mayQ q2 = false := by unfold askB at hok; cases h : mayQ q2 with | false => rfl | true => rw [h] at hok; simp [hq2n] at hok
  have HMAY : Hid (∀ Y, Below w.heap.size w Y → Calls Tryz.prog 20 #[.agg (qL q2 (.slice pd a.q.data.length cd)).toArray] Y fun e Z => e = .returned (.bool false) ∧ Below Y.heap.size Y Z) := fun Y hb => by have := may_any _ q2 Y ⟨hq2k, _, rfl, by rw [hq2d]; exact hdq.below hb⟩; rw [hm] at this; exact this
  clear hm hok hq2n
  have HMX : Hid _ := hM
  have HKD0 : Hid (∀ W : World, W.heap[X.heap.size]? = some (.cells (akL a (.slice pd a.q.data.length cd)).toArray 41 (0, 0)) → W.cell? ⟨X.heap.size, 0, none⟩ = some (.int .i64 a.kind)) := fun W hW => by have := (ak_facts hkk (rangeAt_row hW)).1; simpa using this
  have HQC0 : Hid (∀ (W : World) (q : Qn), q.key.length = 32 → W.heap[X.heap.size + 1]? = some (.cells (qL q (.slice pd a.q.data.length cd)).toArray 39 (0, 0)) → W.cell? ⟨X.heap.size + 1, 0, none⟩ = some (.int .i64 q.kind) ∧ W.rangeAt (X.heap.size + 1) 1 (q.key.map B8) ∧ W.cell? ⟨X.heap.size + 1, 33, none⟩ = some (.int .i64 q.dom) ∧ W.cell? ⟨X.heap.size + 1, 34, none⟩ = some (.slice pd a.q.data.length cd)) := fun W q hq hW => q_facts hq hW
  rw [hk] at HKD0
  have HQC1 : Hid _ := fun W => HQC0.out W a.q hkk
  have g3' := g3
  obtain ⟨N, hN⟩ : ∃ N, N = a.q.data.length := ⟨_, rfl⟩
  obtain ⟨hf, hhf⟩ : ∃ k, k = N / 2 := ⟨_, rfl⟩
  have hq2 : ((N : Int)).tdiv 2 = (hf : Int) := by rw [hhf, Int.tdiv_eq_ediv_of_nonneg (by omega)]; omega
  have hN1 : N ≤ 1000000 := by omega
  have hfN : hf ≤ N := by omega
  have hNc : N ≤ cd := by rw [hN]; exact hb_len hdq
  have HH1 : Hid (∀ Y, Below w.heap.size w Y → HB Y (.slice pd hf cd) (a.q.data.take hf)) := fun Y hb => hb_take (hdq.below hb) hf (by omega)
  have HH2 : Hid (∀ Y, Below w.heap.size w Y → HB Y (.slice (if cd = hf then pd else pd.map (·.add hf)) (N - hf) (cd - hf)) (a.q.data.drop hf)) := fun Y hb => by rw [hN]; exact hb_half2 (hdq.below hb) hf (by omega)
  have hs1 := fun W => halfTo W pd N cd hf (by omega)
  have hs2 := fun W => halfOff W pd N cd hf hfN hNc
  generalize (if cd = hf then pd else pd.map (·.add hf)) = SP at *
  have HKEY : Hid _ := fun Y K' I' pv => hKEY Y K' I' pv hf
  have HSET : Hid _ := hset (.slice pd a.q.data.length cd)
  have HSPL : Hid _ := hspl (.slice pd a.q.data.length cd)
  clear hKEY hset hspl
  have HR5 : Hid _ := hO.r5
  have HR7 : Hid _ := hO.r7
  have HBX : Hid _ := hO.bel
  clear hO HO hM hdq f2 f3 f4 g0 g1 g2 g3
  generalize qL a.q (.slice pd a.q.data.length cd) = QL at *
  generalize akL a (.slice pd a.q.data.length cd) = AKL at *
  go_enter Tryz.func8, Tryz.ntmps8
  rw [← hN] at g3' HQC0 HQC1
  have HN : Hid _ := hN
  clear hN hhf
  have HG3 : Hid (HlfR (X.heap.size + 1) (.slice pd N cd) (((X.alloc (.cells AKL.toArray 41 (0, 0))).alloc (.cells ZQ 39 (0, 0))).setRow (X.heap.size + 1) QL.toArray).drew) := g3'
  have HHS : Hid (HlfS X ((((X.alloc (.cells AKL.toArray 41 (0, 0))).alloc (.cells ZQ 39 (0, 0))).setRow (X.heap.size + 1) QL.toArray).drew.alloc (.cells ZL.toArray 29 (0, 0))) (((X.alloc (.cells AKL.toArray 41 (0, 0))).alloc (.cells ZQ 39 (0, 0))).setRow (X.heap.size + 1) QL.toArray).drew.heap.size AKL QL ZL) := by
    have hsz : (((X.alloc (.cells AKL.toArray 41 (0, 0))).alloc (.cells ZQ 39 (0, 0))).setRow (X.heap.size + 1) QL.toArray).drew.heap.size = X.heap.size + 2 := by simp
    exact ⟨hsz, (HBX.out.drew).alloc (by omega) _, (Below.heap_alloc _ _ _ (by omega)).trans HR5.out, (Below.heap_alloc _ _ _ (by omega)).trans HR7.out, heap_alloc_new _ _, by simp⟩
  have HSZ : Hid ((((X.alloc (.cells AKL.toArray 41 (0, 0))).alloc (.cells ZQ 39 (0, 0))).setRow (X.heap.size + 1) QL.toArray).drew.heap.size = X.heap.size + 2) := by show _ = _; simp
  have HRZ : Hid ((X.alloc (.cells AKL.toArray 41 (0, 0))).heap[X.heap.size]? = some (.cells AKL.toArray 41 (0, 0))) := heap_alloc_new _ _
  have HZR : Hid (((X.alloc (.cells AKL.toArray 41 (0, 0))).alloc (.cells ZQ 39 (0, 0))).heap[X.heap.size + 1]? = some (.cells ZQ 39 (0, 0))) := heap_at _ _ _ (by simp)
  have HQ7 : Hid ((((X.alloc (.cells AKL.toArray 41 (0, 0))).alloc (.cells ZQ 39 (0, 0))).setRow (X.heap.size + 1) QL.toArray).rangeAt (X.heap.size + 1) 0 QL) := rangeAt_row HR7.out
  go_wp2_with (first
    | (refine wpList_load_mid rfl 39 _ rfl X.heap.size 2 rfl QL _ (HA35.out _ HRZ.out) HUQ.out rfl HL35.out ?_)
    | (refine wpList_store_row rfl 39 _ _ rfl (X.heap.size + 1) QL.toArray rfl rfl 39 ZQ HZR.out (info35b _ HQS.out) (HZQ.out.trans HQS.out.symm) HQ1.out ?_)
    | (refine wpList_load_mid rfl 39 _ rfl (X.heap.size + 1) 0 rfl QL _ HQ7.out HUQ.out rfl HL35.out ?_)
    | (go_at_call 13; fail))
  refine wp_region_held_drew (S := HlfR (X.heap.size + 1) (.slice pd N cd)) (by kernel_rfl) HG3.out (fun hHeld => ?_)
  clear HM1 HA35 HRZ HZR HQ7 f0 f1 HG3 HB0 HR5 HR7 HBX g3'
  generalize (((X.alloc (.cells AKL.toArray 41 (0, 0))).alloc (.cells ZQ 39 (0, 0))).setRow (X.heap.size + 1) QL.toArray).drew = W1 at *
  refine wpAnyH_take (i := 0) (oi := { dst := some 109, op := Go.Op.fieldAddr 39 (Go.Operand.tmp 7) 3, type := 0, pos := _, after := #[], guard := none }) (v := .pointer (some ⟨X.heap.size + 1, 34, none⟩)) rfl (by kernel_rfl) (by kernel_rfl) (by kernel_rfl) (fun _ _ _ h => h) (Or.inl ⟨by rfl, fun w' hw' => ?_⟩) hHeld ?_
  · first | (go_simp; done) | (go_simp; rfl)
  try simp only [Act.put, List.setIfInBounds_toArray, List.set_cons_zero, List.set_cons_succ]
  refine wpAnyH_take (i := 1) (oi := { dst := some 110, op := Go.Op.load 37 (Go.Operand.tmp 109), type := 37, pos := _, after := #[{ on := 0, ground := Go.Ground.data }], guard := none }) (v := .slice pd N cd) rfl (by kernel_rfl) (by kernel_rfl) (by kernel_rfl) (fun _ _ _ h => h) (Or.inl ⟨by rfl, fun w' hw' => ?_⟩) hHeld ?_
  · have hc : w'.cell? ⟨X.heap.size + 1, 34, none⟩ = some (.slice pd N cd) := hw'; first | (go_simp; done) | (go_simp; rfl)
  try simp only [Act.put, List.setIfInBounds_toArray, List.set_cons_zero, List.set_cons_succ]
  refine wpAnyH_take (i := 2) (oi := { dst := some 111, op := Go.Op.move (Go.Operand.tmp 12), type := 3, pos := _, after := #[], guard := none }) (v := .int .i64 (hf : Int)) rfl (by kernel_rfl) (by kernel_rfl) (by kernel_rfl) (fun _ _ _ h => h) (Or.inl ⟨by rfl, fun w' hw' => ?_⟩) hHeld ?_
  · first | (go_simp; done) | (go_simp; rfl)
  try simp only [Act.put, List.setIfInBounds_toArray, List.set_cons_zero, List.set_cons_succ]
  refine wpAnyH_take (i := 3) (oi := { dst := some 112, op := Go.Op.slice 37 (Go.Operand.tmp 110) none (some (Go.Operand.tmp 111)) none, type := 37, pos := _, after := #[{ on := 1, ground := Go.Ground.data }, { on := 2, ground := Go.Ground.data }], guard := none }) (v := .slice pd hf cd) rfl (by kernel_rfl) (by kernel_rfl) (by kernel_rfl) (fun _ _ _ h => h) (Or.inl ⟨by rfl, fun w' hw' => ?_⟩) hHeld ?_
  · have hc := hs1 w'; first | (go_simp; done) | (go_simp; rfl)
  try simp only [Act.put, List.setIfInBounds_toArray, List.set_cons_zero, List.set_cons_succ]
  refine wpAnyH_take (i := 4) (oi := { dst := some 113, op := Go.Op.fieldAddr 39 (Go.Operand.tmp 7) 3, type := 0, pos := _, after := #[], guard := none }) (v := .pointer (some ⟨X.heap.size + 1, 34, none⟩)) rfl (by kernel_rfl) (by kernel_rfl) (by kernel_rfl) (fun _ _ _ h => h) (Or.inl ⟨by rfl, fun w' hw' => ?_⟩) hHeld ?_
  · first | (go_simp; done) | (go_simp; rfl)
  try simp only [Act.put, List.setIfInBounds_toArray, List.set_cons_zero, List.set_cons_succ]
  refine wpAnyH_take (i := 5) (oi := { dst := some 114, op := Go.Op.load 37 (Go.Operand.tmp 113), type := 37, pos := _, after := #[{ on := 4, ground := Go.Ground.data }], guard := none }) (v := .slice pd N cd) rfl (by kernel_rfl) (by kernel_rfl) (by kernel_rfl) (fun _ _ _ h => h) (Or.inl ⟨by rfl, fun w' hw' => ?_⟩) hHeld ?_
  · have hc : w'.cell? ⟨X.heap.size + 1, 34, none⟩ = some (.slice pd N cd) := hw'; first | (go_simp; done) | (go_simp; rfl)
  try simp only [Act.put, List.setIfInBounds_toArray, List.set_cons_zero, List.set_cons_succ]
  refine wpAnyH_take (i := 6) (oi := { dst := some 115, op := Go.Op.move (Go.Operand.tmp 12), type := 3, pos := _, after := #[], guard := none }) (v := .int .i64 (hf : Int)) rfl (by kernel_rfl) (by kernel_rfl) (by kernel_rfl) (fun _ _ _ h => h) (Or.inl ⟨by rfl, fun w' hw' => ?_⟩) hHeld ?_
  · first | (go_simp; done) | (go_simp; rfl)
  try simp only [Act.put, List.setIfInBounds_toArray, List.set_cons_zero, List.set_cons_succ]
  refine wpAnyH_take (i := 7) (oi := { dst := some 116, op := Go.Op.slice 37 (Go.Operand.tmp 114) (some (Go.Operand.tmp 115)) none none, type := 37, pos := _, after := #[{ on := 5, ground := Go.Ground.data }, { on := 6, ground := Go.Ground.data }], guard := none }) (v := .slice SP (N - hf) (cd - hf)) rfl (by kernel_rfl) (by kernel_rfl) (by kernel_rfl) (fun _ _ _ h => h) (Or.inl ⟨by rfl, fun w' hw' => ?_⟩) hHeld ?_
  · have hc := hs2 w'; first | (go_simp; done) | (go_simp; rfl)
  try simp only [Act.put, List.setIfInBounds_toArray, List.set_cons_zero, List.set_cons_succ]
  refine wpAnyH_ready (rs := [8]) (by kernel_rfl) (by simp) ?_
  refine AllReadyH.cons (o := { dst := some 13, op := Go.Op.assign (Go.Operand.tmp 112), type := 37, pos := _, after := #[{ on := 3, ground := Go.Ground.data }, { on := 0, ground := Go.Ground.phase }, { on := 1, ground := Go.Ground.phase }, { on := 2, ground := Go.Ground.phase }, { on := 3, ground := Go.Ground.phase }, { on := 4, ground := Go.Ground.textOnly Go.Departure.lateStores }, { on := 5, ground := Go.Ground.textOnly Go.Departure.lateStores }, { on := 6, ground := Go.Ground.textOnly Go.Departure.lateStores }, { on := 7, ground := Go.Ground.textOnly Go.Departure.lateStoresUnsure }], guard := none }) rfl (fun K hK => ?_) AllReadyH.nil
  rw [if_pos (by rfl)]
  go_wp2_with fail
  refine hK.out _ _ hHeld (fun _ => ?_)
  clear hK K
  try simp only [Act.put, List.setIfInBounds_toArray, List.set_cons_zero, List.set_cons_succ]
  refine wpAnyH_ready (rs := [9]) (by kernel_rfl) (by simp) ?_
  refine AllReadyH.cons (o := { dst := some 14, op := Go.Op.assign (Go.Operand.tmp 116), type := 37, pos := _, after := #[{ on := 7, ground := Go.Ground.data }, { on := 8, ground := Go.Ground.chain }, { on := 0, ground := Go.Ground.phase }, { on := 1, ground := Go.Ground.phase }, { on := 2, ground := Go.Ground.phase }, { on := 3, ground := Go.Ground.phase }, { on := 4, ground := Go.Ground.phase }, { on := 5, ground := Go.Ground.phase }, { on := 6, ground := Go.Ground.phase }, { on := 7, ground := Go.Ground.phase }, { on := 8, ground := Go.Ground.phase }], guard := none }) rfl (fun K hK => ?_) AllReadyH.nil
  rw [if_pos (by rfl)]
  go_wp2_with fail
  refine hK.out _ _ hHeld (fun _ => ?_)
  clear hK K
  try simp only [Act.put, List.setIfInBounds_toArray, List.set_cons_zero, List.set_cons_succ]
  refine wpAnyH_done (by kernel_rfl) ?_ _
  clear hHeld
  generalize hNf : N - hf = Nf at *
  generalize hcf : cd - hf = cf at *
  have hk5 := HKD0.out _ HHS.out.r5
  have HNS : Hid ((qL q2 (.slice pd N cd)).toArray.size = 35) := by show _ = _; rw [List.size_toArray]; exact qL_len _ _ hq2k
  have HNI : Hid _ := info35 (qL q2 (.slice pd N cd)) (qL_len _ _ hq2k)
  have HQ1L : Hid ((qL q1 (.slice pd N cd)).length = 35) := qL_len _ _ hq1k
  have HML : Hid ((m.map B8).length = 32) := by show _ = _; simpa using hml
  have HMI : Hid _ := info32 (m.map B8) HML.out
  have HM1c : Hid _ := B8_onea m
  rw [← HN.out] at HMAY HSET HSPL
  have hr7d : (W1.alloc (.cells ZL.toArray 29 (0, 0))).drew.heap[X.heap.size + 1]? = some (.cells QL.toArray 39 (0, 0)) := by rw [heap_drew]; exact HHS.out.r7
  have HR15d : Hid ((W1.alloc (.cells ZL.toArray 29 (0, 0))).drew.heap[W1.heap.size]? = some (.cells ZL.toArray 29 (0, 0))) := by show _ = _; rw [heap_drew]; exact HHS.out.r15
  have HBd : Hid (Below X.heap.size X (W1.alloc (.cells ZL.toArray 29 (0, 0))).drew) := HHS.out.bel.drew
  have HSd : Hid ((W1.alloc (.cells ZL.toArray 29 (0, 0))).drew.heap.size = W1.heap.size + 1) := by show _ = _; simp
  have HR7D : Hid _ := hr7d
  have HMAS : Hid (MasR rg (m.map B8) (W1.alloc (.cells ZL.toArray 29 (0, 0))).drew) := HMR.out _ HBd.out
  have hfz := frozen_of_row _ _ 0 _ _ hr7d
  have hc70 := (HQC1.out _ hr7d).1
  obtain ⟨ML, hMLe⟩ : ∃ L, L = m.map B8 := ⟨_, rfl⟩
  rw [← hMLe] at HML HMI HM1c HMAS HSPL
  have HMLr : Hid (∀ Y, Below X.heap.size X Y → Y.rangeAt rg 1 ML) := fun Y hb => by rw [hMLe]; exact HMR.out Y hb
  clear hMLe
  clear hr7d hs1 hs2 hq2
  go_wp2
  refine wp_region_held_drew (S := MasR rg ML) (by kernel_rfl) HMAS.out (fun hHeld => ?_)
  generalize (W1.alloc (.cells ZL.toArray 29 (0, 0))).drew = Wd at *
  refine wpAnyH_take (i := 0) (oi := { dst := some 119, op := Go.Op.move (Go.Operand.tmp 1), type := 30, pos := _, after := #[{ on := 5, ground := Go.Ground.gcOnly Go.Departure.lateStores }], guard := none }) (v := .pointer (some ⟨rg, 0, none⟩)) rfl (by kernel_rfl) (by kernel_rfl) (by kernel_rfl) (fun _ _ _ h => h) (Or.inl ⟨by rfl, fun w' hw' => ?_⟩) hHeld ?_
  · first | (go_simp; done) | (go_simp; rfl)
  try simp only [Act.put, List.setIfInBounds_toArray, List.set_cons_zero, List.set_cons_succ]
  refine wpAnyH_take (i := 1) (oi := { dst := some 120, op := Go.Op.nilCheck (Go.Operand.tmp 119), type := 0, pos := _, after := #[{ on := 0, ground := Go.Ground.data }, { on := 5, ground := Go.Ground.gcOnly Go.Departure.lateStores }], guard := none }) (v := .pointer (some ⟨rg, 0, none⟩)) rfl (by kernel_rfl) (by kernel_rfl) (by kernel_rfl) (fun _ _ _ h => h) (Or.inl ⟨by rfl, fun w' hw' => ?_⟩) hHeld ?_
  · first | (go_simp; done) | (go_simp; rfl)
  try simp only [Act.put, List.setIfInBounds_toArray, List.set_cons_zero, List.set_cons_succ]
  refine wpAnyH_take (i := 2) (oi := { dst := some 121, op := Go.Op.fieldAddr 33 (Go.Operand.tmp 120) 1, type := 0, pos := _, after := #[{ on := 1, ground := Go.Ground.data }, { on := 5, ground := Go.Ground.gcOnly Go.Departure.lateStores }], guard := none }) (v := .pointer (some ⟨rg, 1, none⟩)) rfl (by kernel_rfl) (by kernel_rfl) (by kernel_rfl) (fun _ _ _ h => h) (Or.inl ⟨by rfl, fun w' hw' => ?_⟩) hHeld ?_
  · first | (go_simp; done) | (go_simp; rfl)
  try simp only [Act.put, List.setIfInBounds_toArray, List.set_cons_zero, List.set_cons_succ]
  refine wpAnyH_take (i := 3) (oi := { dst := some 122, op := Go.Op.load 29 (Go.Operand.tmp 121), type := 29, pos := _, after := #[{ on := 2, ground := Go.Ground.data }, { on := 5, ground := Go.Ground.gcOnly Go.Departure.lateStores }], guard := none }) rfl (by kernel_rfl) (by kernel_rfl) (by kernel_rfl) (fun _ _ _ h => h) (yieldsIf_load_mid (by rfl) 29 (.tmp 121) rfl (rg) (1) rfl (ML) _ (fun _ h => h) Tryz.underlying29 rfl HMI.out) hHeld ?_
  try simp only [Act.put, List.setIfInBounds_toArray, List.set_cons_zero, List.set_cons_succ]
  refine wpAnyH_take (i := 4) (oi := { dst := some 123, op := Go.Op.fieldAddr 39 (Go.Operand.tmp 7) 0, type := 0, pos := _, after := #[{ on := 0, ground := Go.Ground.textOnly Go.Departure.lateStores }, { on := 1, ground := Go.Ground.textOnly Go.Departure.lateStores }, { on := 2, ground := Go.Ground.textOnly Go.Departure.lateStores }, { on := 3, ground := Go.Ground.textOnly Go.Departure.lateStores }], guard := none }) (v := .pointer (some ⟨X.heap.size + 1, 0, none⟩)) rfl (by kernel_rfl) (by kernel_rfl) (by kernel_rfl) (fun _ _ _ h => h) (Or.inl ⟨by rfl, fun w' hw' => ?_⟩) hHeld ?_
  · first | (go_simp; done) | (go_simp; rfl)
  try simp only [Act.put, List.setIfInBounds_toArray, List.set_cons_zero, List.set_cons_succ]
  refine wpAnyH_ready (rs := [5]) (by kernel_rfl) (by simp) ?_
  refine AllReadyH.cons (o := { dst := none, op := Go.Op.store 35 (Go.Operand.tmp 123) (Go.Operand.const (Go.Value.int Go.IntKind.i64 3)), type := 0, pos := _, after := #[{ on := 4, ground := Go.Ground.data }, { on := 0, ground := Go.Ground.textOnly Go.Departure.lateStores }, { on := 1, ground := Go.Ground.textOnly Go.Departure.lateStores }, { on := 2, ground := Go.Ground.textOnly Go.Departure.lateStores }, { on := 3, ground := Go.Ground.textOnly Go.Departure.lateStores }], guard := none }) rfl (fun K hK => ?_) AllReadyH.nil
  rw [if_pos (by rfl)]
  go_wp2_with fail
  have HB3a : Hid (Below X.heap.size X (Wd.setCell ⟨X.heap.size + 1, 0, none⟩ (.int .i64 3))) := HBd.out.setCell (show X.heap.size ≤ X.heap.size + 1 by omega) _
  have HR73a : Hid ((Wd.setCell ⟨X.heap.size + 1, 0, none⟩ (.int .i64 3)).heap[X.heap.size + 1]? = some (.cells (qL q1 (.slice pd N cd)).toArray 39 (0, 0))) := by show _ = _; rw [heap_setCell_same _ _ 0 _ _ _ HR7D.out, HSET.out]
  have hHeld2 : MasR rg ML (Wd.setCell ⟨X.heap.size + 1, 0, none⟩ (.int .i64 3)) := HMLr.out _ HB3a.out
  refine hK.out _ _ hHeld2 (fun _ => ?_)
  clear hK K
  try simp only [Act.put, List.setIfInBounds_toArray, List.set_cons_zero, List.set_cons_succ]
  clear hHeld
  have hHeld := hHeld2
  refine wpAnyH_take (i := 6) (oi := { dst := some 124, op := Go.Op.fieldAddr 39 (Go.Operand.tmp 7) 1, type := 0, pos := _, after := #[{ on := 0, ground := Go.Ground.phase }, { on := 1, ground := Go.Ground.phase }, { on := 2, ground := Go.Ground.phase }, { on := 3, ground := Go.Ground.phase }, { on := 4, ground := Go.Ground.phase }, { on := 5, ground := Go.Ground.phase }], guard := none }) (v := .pointer (some ⟨X.heap.size + 1, 1, none⟩)) rfl (by kernel_rfl) (by kernel_rfl) (by kernel_rfl) (fun _ _ _ h => h) (Or.inl ⟨by rfl, fun w' hw' => ?_⟩) hHeld ?_
  · first | (go_simp; done) | (go_simp; rfl)
  try simp only [Act.put, List.setIfInBounds_toArray, List.set_cons_zero, List.set_cons_succ]
  refine wpAnyH_ready (rs := [7]) (by kernel_rfl) (by simp) ?_
  refine AllReadyH.cons (o := { dst := none, op := Go.Op.store 29 (Go.Operand.tmp 124) (Go.Operand.tmp 122), type := 0, pos := _, after := #[{ on := 6, ground := Go.Ground.data }, { on := 3, ground := Go.Ground.data }, { on := 5, ground := Go.Ground.chain }, { on := 0, ground := Go.Ground.phase }, { on := 1, ground := Go.Ground.phase }, { on := 2, ground := Go.Ground.phase }, { on := 3, ground := Go.Ground.phase }, { on := 4, ground := Go.Ground.phase }, { on := 5, ground := Go.Ground.phase }], guard := none }) rfl (fun K hK => ?_) AllReadyH.nil
  rw [if_pos (by rfl)]
  refine wp_store_segR 29 _ _ rfl (X.heap.size + 1) 1 ML.toArray (qL q1 (.slice pd N cd)) 39 rfl rfl HR73a.out (info32a _ (by simpa using HML.out)) (by rw [HQ1L.out, List.size_toArray, HML.out]; decide) HM1c.out ?_
  have HSPL' : Hid ((splc (qL q1 (.slice pd N cd)) 1 ML.toArray.toList).toArray = (qL q2 (.slice pd N cd)).toArray) := by show _ = _; rw [List.toList_toArray, HSPL.out]
  rw [HSPL'.out]
  have HR73 : Hid ((((Wd.setCell ⟨X.heap.size + 1, 0, none⟩ (.int .i64 3))).setRow (X.heap.size + 1) (qL q2 (.slice pd N cd)).toArray).heap[X.heap.size + 1]? = some (.cells (qL q2 (.slice pd N cd)).toArray 39 (0, 0))) := setRow_heap _ _ _ _ _ _ HR73a.out
  have hdm3 := (HQC0.out _ q2 hq2k HR73.out).2.2.1
  rw [hq2m] at hdm3
  clear HSPL HSPL' HSET
  generalize qL q2 (.slice pd N cd) = QN at *
  have HB3 : Hid (Below X.heap.size X ((Wd.setCell ⟨X.heap.size + 1, 0, none⟩ (.int .i64 3)).setRow (X.heap.size + 1) QN.toArray)) := below_setRow HB3a.out (by omega) _
  have HR153 : Hid (((Wd.setCell ⟨X.heap.size + 1, 0, none⟩ (.int .i64 3)).setRow (X.heap.size + 1) QN.toArray).heap[W1.heap.size]? = some (.cells ZL.toArray 29 (0, 0))) := (setRow_other _ _ _ _ (by have := HSZ.out; omega)).trans ((heap_setCell_other _ _ _ _ (by have := HSZ.out; show W1.heap.size ≠ X.heap.size + 1; omega)).trans HR15d.out)
  have hHeld3 : MasR rg ML ((Wd.setCell ⟨X.heap.size + 1, 0, none⟩ (.int .i64 3)).setRow (X.heap.size + 1) QN.toArray) := HMLr.out _ HB3.out
  refine hK.out _ _ hHeld3 (fun _ => ?_)
  clear hK K
  try simp only [Act.put, List.setIfInBounds_toArray, List.set_cons_zero, List.set_cons_succ]
  refine wpAnyH_done (by kernel_rfl) ?_ _
  clear hHeld hHeld2 hHeld3 hfz hc70 HQC1
  have hs3 : ((Wd.setCell ⟨X.heap.size + 1, 0, none⟩ (.int .i64 3)).setRow (X.heap.size + 1) QN.toArray).heap.size = W1.heap.size + 1 := by rw [← HSd.out]; simp
  have HBS : Hid _ := fun W => PS.bs_pair W pd SP hf Nf cd cf
  go_wp2_with (first
    | (refine wpListZ_bslice rfl 83 2 _ rfl _ _ (by simp; first | exact ⟨rfl, rfl⟩ | exact ⟨rfl, rfl, rfl⟩ | rfl) (HBS.out _) ?_)
    | (go_at_call 24; fail))
  have hb3w : Below w.heap.size w ((Wd.setCell ⟨X.heap.size + 1, 0, none⟩ (.int .i64 3)).setRow (X.heap.size + 1) QN.toArray) := HMX.out.bel.trans (HB3.out.mono HMX.out.bel.size)
  have HPF : Hid (HP (((Wd.setCell ⟨X.heap.size + 1, 0, none⟩ (.int .i64 3)).setRow (X.heap.size + 1) QN.toArray).alloc (.cells #[.slice pd hf cd, .slice SP Nf cf] 37 (0, 0))) (.slice (some ⟨W1.heap.size + 1, 0, none⟩) 2 2) [a.q.data.take hf, a.q.data.drop hf]) := by have h := PS.hp_pair (HH1.out _ hb3w) (HH2.out _ hb3w); rw [hs3] at h; exact h
  have HB4 : Hid (Below X.heap.size X (((Wd.setCell ⟨X.heap.size + 1, 0, none⟩ (.int .i64 3)).setRow (X.heap.size + 1) QN.toArray).alloc (.cells #[.slice pd hf cd, .slice SP Nf cf] 37 (0, 0)))) := HB3.out.alloc HB3.out.size _
  have HR74 : Hid ((((Wd.setCell ⟨X.heap.size + 1, 0, none⟩ (.int .i64 3)).setRow (X.heap.size + 1) QN.toArray).alloc (.cells #[.slice pd hf cd, .slice SP Nf cf] 37 (0, 0))).heap[X.heap.size + 1]? = some (.cells QN.toArray 39 (0, 0))) := (Below.heap_alloc _ _ _ (row_lt HR73.out)).trans HR73.out
  have HR154 : Hid ((((Wd.setCell ⟨X.heap.size + 1, 0, none⟩ (.int .i64 3)).setRow (X.heap.size + 1) QN.toArray).alloc (.cells #[.slice pd hf cd, .slice SP Nf cf] 37 (0, 0))).heap[W1.heap.size]? = some (.cells ZL.toArray 29 (0, 0))) := (Below.heap_alloc _ _ _ (row_lt HR153.out)).trans HR153.out
  have HM4 : Hid _ := HMX.out.upd (Fr.ofBelow HB4.out)
  refine Calls.mono (HKEY.out _ _ _ _ HM4.out HPF.out) ?_
  clear HPF hs3 hb3w HHS hk5 hdm3 HKEY HBS HR73 HR153 HR73a HB3a HB3 HMAS HR7D HR15d HBd
  have hI7 : I (X.heap.size + 1) ∨ X.heap.size ≤ X.heap.size + 1 ∧ X.heap.size + 1 < ((((Wd.setCell ⟨X.heap.size + 1, 0, none⟩ (.int .i64 3)).setRow (X.heap.size + 1) QN.toArray).alloc (.cells #[.slice pd hf cd, .slice SP Nf cf] 37 (0, 0)))).heap.size := .inr ⟨by omega, row_lt HR74.out⟩
  have hI15 : I W1.heap.size ∨ X.heap.size ≤ W1.heap.size ∧ W1.heap.size < ((((Wd.setCell ⟨X.heap.size + 1, 0, none⟩ (.int .i64 3)).setRow (X.heap.size + 1) QN.toArray).alloc (.cells #[.slice pd hf cd, .slice SP Nf cf] 37 (0, 0)))).heap.size := .inr ⟨by have := HSZ.out; omega, row_lt HR154.out⟩
  rintro e Y ⟨rfl, hM5⟩
  clear HM4
  generalize (((Wd.setCell ⟨X.heap.size + 1, 0, none⟩ (.int .i64 3)).setRow (X.heap.size + 1) QN.toArray).alloc (.cells #[.slice pd hf cd, .slice SP Nf cf] 37 (0, 0))) = W4 at *
  have hr7 := hM5.at hI7 HR74.out
  have hr15 := hM5.at hI15 HR154.out
  have hnW : n ≤ W1.heap.size := by have h1 := HMX.out.low.2; have h2 := HSZ.out; omega
  have hxW : X.heap.size + 1 ≠ W1.heap.size := by have h2 := HSZ.out; omega
  unfold errV
  rw [HZV.out]
  have HR76 : Hid ((Y.setRow W1.heap.size ZL.toArray).heap[X.heap.size + 1]? = some (.cells QN.toArray 39 (0, 0))) := (setRow_other _ _ _ _ hxW).trans hr7
  have HR156 : Hid ((Y.setRow W1.heap.size ZL.toArray).heap[W1.heap.size]? = some (.cells ZL.toArray 29 (0, 0))) := setRow_heap _ _ _ _ _ _ hr15
  have HM6 : Hid (MM w n tn og mb rg m D L L I K (Y.setRow W1.heap.size ZL.toArray)) := (hM5.upd ((Fr.refl _ _).setRow W1.heap.size ZL.toArray (.inl ⟨hnW, hI15⟩))).back (fun k hk => ⟨.inl (.inl hk), (setRow_other _ _ _ _ (by have h1 := (HKF.out k hk).2; have h2 := HSZ.out; omega)).trans ((hM5.same k (.inl hk)).trans ((HB4.out.block k (HKF.out k hk).2).trans (HKF.out k hk).1))⟩)
  have HR15 : Hid _ := hr15
  have HQ76 : Hid _ := rangeAt_row HR76.out
  clear hM5 hr7 hr15
  go_wp2_with (first
    | (refine wpList_store_row rfl 29 _ _ rfl W1.heap.size ZL.toArray rfl rfl 29 ZL.toArray HR15.out (info32a _ HZS.out) rfl HZ1.out ?_)
    | (refine wpList_load_mid rfl 39 _ rfl (X.heap.size + 1) 0 rfl QN _ HQ76.out HUQ.out rfl HNI.out ?_)
    | (go_at_call 20; fail))
  refine Calls.mono (HMAY.out _ HM6.out.bel) ?_
  rintro e Y3 ⟨rfl, hb3⟩
  have HM7 : Hid _ := (HM6.out.step hb3).retn
  have HX8 : Hid _ := rangeAt_row ((hb3.block _ (row_lt HR156.out)).trans HR156.out)
  clear HM6 HQ76 HR76 HR156 HR15 hb3
  generalize Y.setRow W1.heap.size ZL.toArray = Y2 at *
  go_wp2_with (refine load_mid_g (by rfl) 29 _ rfl W1.heap.size 0 rfl ZL _ HX8.out Tryz.underlying29 rfl HZI.out ?_)
  refine upon_eq (r' := .ok (Next.value (.bool true)) _) (congrArg (fun r => Result.andThen (Result.andThen r (fun b w' => Result.ok (Value.bool b) w')) (fun a w' => Result.ok (Next.value a) w')) (HZ0.out Y3)) ?_
  go_wp2
  go_ret
  exact ⟨rfl, HM7.out⟩
end Go.Proofs.YtefhjjjjbkkedaaGreat.R5
