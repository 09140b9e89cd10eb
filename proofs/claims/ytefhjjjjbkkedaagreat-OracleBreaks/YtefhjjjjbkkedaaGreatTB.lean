/- The statements' one: an ask of both oracles. -/
import Derived.Test.YtefhjjjjbkkedaaGreatTA
import Derived.Deep.MidRow
set_option linter.unusedVariables false
set_option linter.unusedSimpArgs false
namespace Go.Proofs.YtefhjjjjbkkedaaGreat.R5
open scoped Classical
open Go.RowKit

theorem info37a (RS : Array Value) (h : RS.size = 37) : (Tryz.prog.info? 41).map (·.size) = some RS.size := by rw [h]; kernel_rfl
theorem info35b (RS : Array Value) (h : RS.size = 35) : (Tryz.prog.info? 39).map (·.size) = some RS.size := by rw [h]; kernel_rfl
/-- What one begins with: the ask, and its question. -/
structure OneS (X X1 : World) (a : Ak) (dv : Value) : Prop where
  bel : Below X.heap.size X X1
  r5 : X1.heap[X.heap.size]? = some (.cells (akL a dv).toArray 41 (0, 0))
  r7 : X1.heap[X.heap.size + 1]? = some (.cells (qL a.q dv).toArray 39 (0, 0))
theorem OneS.mk' (X : World) (a : Ak) (dv : Value) (ZQ : Array Value) : OneS X (((X.alloc (.cells (akL a dv).toArray 41 (0, 0))).alloc (.cells ZQ 39 (0, 0))).setRow (X.heap.size + 1) (qL a.q dv).toArray) a dv := by
  have hb : Below X.heap.size X ((X.alloc (.cells (akL a dv).toArray 41 (0, 0))).alloc (.cells ZQ 39 (0, 0))) := ((Below.refl _ _).alloc (Nat.le_refl _) _).alloc (by simp) _
  refine ⟨below_setRow hb (by omega) _, ?_, setRow_heap _ _ _ _ _ _ (heap_at _ _ _ (by simp))⟩
  rw [setRow_other _ _ _ _ (show X.heap.size ≠ X.heap.size + 1 by omega)]
  exact alloc2_first _ _ _
/-- The log behind an ask. -/
def oneQ (D : List (List UInt8)) (L : List (Qn × List UInt8)) (q : Qn) : List (Qn × List UInt8) := if askB q then (nx D L q).2 else L
def oneL (m : List UInt8) (D : List (List UInt8)) (L : List (Qn × List UInt8)) (a : Ak) : List (Qn × List UInt8) :=
  if a.kind = 1 then oneQ D L a.q
  else if a.kind = 2 then (if strB a.q a.n then (sx D a.q L ((a.n.toNat + 31) / 32)).2 else L)
  else if a.kind = 3 then oneQ D L ⟨1, List.replicate 32 0, a.q.dom, a.q.data⟩
  else if a.kind = 4 then oneQ D L ⟨2, a.q.key, a.q.dom, a.q.data⟩
  else if a.kind = 5 then oneQ D L ⟨3, m, a.q.dom, a.q.data⟩
  else L
theorem oneQ_len (D : List (List UInt8)) (L : List (Qn × List UInt8)) (q : Qn) : (oneQ D L q).length ≤ L.length + 1 := by
  unfold oneQ; split
  · exact nx_len D L q
  · omega
theorem oneL_len (m : List UInt8) (D : List (List UInt8)) (L : List (Qn × List UInt8)) (a : Ak) : (oneL m D L a).length ≤ L.length + 32 := by
  unfold oneL
  split
  · have := oneQ_len D L a.q; omega
  · split
    · split
      · rename_i h
        have h' : a.q.kind = 4 ∧ 1 ≤ a.q.dom ∧ a.q.dom ≤ 16 ∧ 0 ≤ a.n ∧ a.n ≤ 1024 := by unfold strB at h; exact of_decide_eq_true h
        have := sx_len D a.q L ((a.n.toNat + 31) / 32)
        omega
      · omega
    · split
      · have := oneQ_len D L ⟨1, List.replicate 32 0, a.q.dom, a.q.data⟩; omega
      · split
        · have := oneQ_len D L ⟨2, a.q.key, a.q.dom, a.q.data⟩; omega
        · split
          · have := oneQ_len D L ⟨3, m, a.q.dom, a.q.data⟩; omega
          · omega
/-- How one ends. -/
def OneEnd (w : World) (n og mb rg : Nat) (m : List UInt8) (D : List (List UInt8)) (L' : List (Qn × List UInt8)) (I : Nat → Prop) (K : World) (e : Ending) (Y : World) : Prop :=
  e = .returned (.bool true) ∧ MM w n Y.heap.size og mb rg m D L' L' I K Y
/-- Two rows that stay, while a region is walked. -/
structure TwoR (b c : Nat) (QL AL : List Value) (X : World) : Prop where
  q : X.rangeAt b 0 QL
  x : X.rangeAt c 0 AL
theorem eql_same (w : World) (xs : List UInt8) (hx : xs.length = 32) : (binOp .eql 29 (.agg (xs.map B8).toArray) (.agg (xs.map B8).toArray)).run Tryz.prog w = .ok (.bool true) w := by
  have := eql_digest w xs xs hx hx
  rw [this]; simp

set_option maxHeartbeats 4000000 in
set_option maxRecDepth 100000 in
theorem one_1ok (w X K : World) (n tn og mb rg : Nat) (m : List UInt8) (D : List (List UInt8)) (L : List (Qn × List UInt8)) (I : Nat → Prop) (a : Ak) (pd : Option Addr) (cd : Nat) (hM : MM w n tn og mb rg m D L L I K X) (hll : L.length < 800000) (hkq : kOk a.q) (hql : a.q.data.length ≤ 1000000) (hdq : HB w (.slice pd a.q.data.length cd) a.q.data) (hk : a.kind = 1) (hok : askB a.q = true) :
    Calls Tryz.prog 8 #[.pointer (some ⟨og, 0, none⟩), .pointer (some ⟨rg, 0, none⟩), .agg (akL a (.slice pd a.q.data.length cd)).toArray] X fun e Y => OneEnd w n og mb rg m D (nx D L a.q).2 I K e Y := by
  have hkk := hkq.key
  have hzv := fun W => zero_dig W
  have hbd := fun W => build_dig W
  have hzq := fun W => zero_qn W
  obtain ⟨ZL, hZL⟩ : ∃ L, L = (List.replicate 32 (0 : UInt8)).map B8 := ⟨_, rfl⟩
  obtain ⟨ZQ, hZQ⟩ : ∃ L, L = (qL ⟨0, List.replicate 32 0, 0, []⟩ (.slice none 0 0)).toArray := ⟨_, rfl⟩
  rw [← hZL] at hzv hbd
  rw [← hZQ] at hzq
  have HZQ : Hid (ZQ.size = 35) := by show _ = _; rw [hZQ, List.size_toArray]; exact qL_len _ _ (by simp)
  have HZS : Hid (ZL.toArray.size = 32) := by show _ = _; rw [hZL]; simp
  have HZ1 : Hid (ZL.toArray.all (·.oneCell') = true) := by show _ = _; rw [hZL]; exact B8_onea _
  have HZV : Hid (dV (List.replicate 32 0) = .agg ZL.toArray) := by show _ = _; rw [hZL]; rfl
  have hO := OneS.mk' X a (.slice pd a.q.data.length cd) ZQ
  obtain ⟨f0, f1, f2, f3, f4⟩ := ak_facts hkk (rangeAt_row hO.r5)
  obtain ⟨g0, g1, g2, g3⟩ := q_facts hkk hO.r7
  have HL35 : Hid _ := info35 (qL a.q (.slice pd a.q.data.length cd)) (qL_len _ _ hkk)
  have HA35 : Hid (∀ W : World, W.heap[X.heap.size]? = some (.cells (akL a (.slice pd a.q.data.length cd)).toArray 41 (0, 0)) → W.rangeAt X.heap.size 2 (qL a.q (.slice pd a.q.data.length cd))) := fun W hW => by have := (ak_facts hkk (rangeAt_row hW)).2.2.1; simpa using this
  have HQ1 : Hid _ := PS.all_of (qL_one a.q (.slice pd a.q.data.length cd) rfl)
  have HQS : Hid ((qL a.q (.slice pd a.q.data.length cd)).toArray.size = 35) := by show _ = _; rw [List.size_toArray]; exact qL_len _ _ hkk
  have HAS37 : Hid ((akL a (.slice pd a.q.data.length cd)).toArray.size = 37) := by show _ = _; rw [List.size_toArray]; exact akL_len _ _ hkk
  have HM1 : Hid _ := hM.upd (Fr.ofBelow hO.bel)
  have HKC : Hid (∀ W : World, W.heap[X.heap.size + 1]? = some (.cells (qL a.q (.slice pd a.q.data.length cd)).toArray 39 (0, 0)) → W.cell? ⟨X.heap.size + 1, 0, none⟩ = some (.int .i64 a.q.kind)) := fun W hW => (q_facts hkk hW).1
  have HNC : Hid (∀ W : World, W.heap[X.heap.size]? = some (.cells (akL a (.slice pd a.q.data.length cd)).toArray 41 (0, 0)) → W.cell? ⟨X.heap.size, 1, none⟩ = some (.int .i64 a.n)) := fun W hW => by have := (ak_facts hkk (rangeAt_row hW)).2.1; simpa using this
  have HKF : Hid (∀ k, I k → X.heap[k]? = K.heap[k]? ∧ k < X.heap.size) := fun k hk => ⟨hM.same k hk, hM.ilt hk⟩
  have HUQ : Hid _ := Tryz.underlying39
  have HO : Hid _ := hO
  have HB0 : Hid _ := (hM.step hO.bel).bel
  clear hZL hZQ
  rw [hk] at f0
  have hm : mayQ a.q = true ∧ (a.q.kind == 4) = false := by unfold askB at hok; simpa using hok
  have HASK : Hid (∀ (Y K' : World) (I' : Nat → Prop), MM w n tn og mb rg m D L L I' K' Y → Calls Tryz.prog 13 #[.pointer (some ⟨og, 0, none⟩), .agg (qL a.q (.slice pd a.q.data.length cd)).toArray] Y fun e Z => e = .returned (okV (nx D L a.q).1) ∧ MM w n tn og mb rg m D (nx D L a.q).2 L I' K' Z) := fun Y K' I' h => h.ask (by omega) _ a.q hkq (hdq.below h.bel) hok
  have HRASK : Hid (∀ (Y K' : World) (I' : Nat → Prop), MM w n tn og mb rg m D (nx D L a.q).2 L I' K' Y → Calls Tryz.prog 21 #[.pointer (some ⟨rg, 0, none⟩), .agg (qL a.q (.slice pd a.q.data.length cd)).toArray] Y fun e Z => e = .returned (.agg ((nx D L a.q).1.map B8).toArray) ∧ MM w n Z.heap.size og mb rg m D (nx D L a.q).2 (nx D L a.q).2 I' K' Z ∧ ∀ k, tn ≤ k → k < Y.heap.size → Z.heap[k]? = Y.heap[k]?) := fun Y K' I' h => h.rask (by omega) _ a.q hkk (by omega) hdq
  have HMAY : Hid (∀ Y, Below w.heap.size w Y → Calls Tryz.prog 20 #[.agg (qL a.q (.slice pd a.q.data.length cd)).toArray] Y fun e Z => e = .returned (.bool true) ∧ Below Y.heap.size Y Z) := fun Y hb => by have := may_any _ a.q Y ⟨hkk, _, rfl, hdq.below hb⟩; rw [hm.1] at this; exact this
  have HAL : Hid ((nx D L a.q).1.length = 32) := hM.alen a.q
  have hk4 := hm.2
  generalize (nx D L a.q).1 = A at *
  generalize (nx D L a.q).2 = L' at *
  have HR5 : Hid _ := hO.r5
  have HR7 : Hid _ := hO.r7
  have HBX : Hid _ := hO.bel
  clear hO HO hM hdq f2 f3 f4 g0 g1 g2 g3
  generalize qL a.q (.slice pd a.q.data.length cd) = QL at *
  generalize akL a (.slice pd a.q.data.length cd) = AKL at *
  clear hm hok hkk hk
  go_enter Tryz.func8, Tryz.ntmps8
  have HRZ : Hid ((X.alloc (.cells AKL.toArray 41 (0, 0))).heap[X.heap.size]? = some (.cells AKL.toArray 41 (0, 0))) := heap_alloc_new _ _
  have HZR : Hid (((X.alloc (.cells AKL.toArray 41 (0, 0))).alloc (.cells ZQ 39 (0, 0))).heap[X.heap.size + 1]? = some (.cells ZQ 39 (0, 0))) := heap_at _ _ _ (by simp)
  have HQ7 : Hid ((((X.alloc (.cells AKL.toArray 41 (0, 0))).alloc (.cells ZQ 39 (0, 0))).setRow (X.heap.size + 1) QL.toArray).rangeAt (X.heap.size + 1) 0 QL) := rangeAt_row HR7.out
  go_wp2_with (first
    | (refine wpList_load_mid rfl 39 _ rfl X.heap.size 2 rfl QL _ (HA35.out _ HRZ.out) HUQ.out rfl HL35.out ?_)
    | (refine wpList_store_row rfl 39 _ _ rfl (X.heap.size + 1) QL.toArray rfl rfl 39 ZQ HZR.out (info35b _ HQS.out) (HZQ.out.trans HQS.out.symm) HQ1.out ?_)
    | (refine wpList_load_mid rfl 39 _ rfl (X.heap.size + 1) 0 rfl QL _ HQ7.out HUQ.out rfl HL35.out ?_)
    | (go_at_call 13; fail))
  refine Calls.mono (HASK.out _ _ _ HM1.out) ?_
  rintro e Y ⟨rfl, hM2⟩
  clear HASK HM1 HA35 HRZ HZR HQ7 f0 f1
  generalize (((X.alloc (.cells AKL.toArray 41 (0, 0))).alloc (.cells ZQ 39 (0, 0))).setRow (X.heap.size + 1) QL.toArray) = X1 at *
  have hx1 := row_lt HR7.out
  have hr7 := hM2.at (.inr ⟨by omega, hx1⟩) HR7.out
  unfold okV dV
  have HAS : Hid ((A.map B8).toArray.size = 32) := by show _ = _; simpa using HAL.out
  have HA1 : Hid _ := B8_onea A
  have hAq := fun W => eql_same W A HAL.out
  have HAI : Hid _ := info32 (A.map B8) (by simpa using HAL.out)
  obtain ⟨AL, hAL⟩ : ∃ L, L = A.map B8 := ⟨_, rfl⟩
  rw [← hAL] at HAS HA1 hAq HRASK HAI ⊢
  clear hAL
  have hb2 : Below Y.heap.size Y ((Y.alloc (.cells ZL.toArray 29 (0, 0))).setRow Y.heap.size AL.toArray) := below_setRow ((Below.refl _ _).alloc (Nat.le_refl _) _) (Nat.le_refl _) _
  have HM3 : Hid _ := hM2.upd (Fr.ofBelow hb2)
  have HR8 : Hid (((Y.alloc (.cells ZL.toArray 29 (0, 0))).setRow Y.heap.size AL.toArray).heap[Y.heap.size]? = some (.cells AL.toArray 29 (0, 0))) := setRow_heap _ _ _ _ _ _ (heap_alloc_new _ _)
  have HZ8 : Hid ((Y.alloc (.cells ZL.toArray 29 (0, 0))).heap[Y.heap.size]? = some (.cells ZL.toArray 29 (0, 0))) := heap_alloc_new _ _
  have HR77 : Hid (((Y.alloc (.cells ZL.toArray 29 (0, 0))).setRow Y.heap.size AL.toArray).heap[X.heap.size + 1]? = some (.cells QL.toArray 39 (0, 0))) := (hb2.block _ (row_lt hr7)).trans hr7
  have HQ77 : Hid _ := rangeAt_row HR77.out
  have HKK : Hid (∀ k, I k → ((Y.alloc (.cells ZL.toArray 29 (0, 0))).setRow Y.heap.size AL.toArray).heap[k]? = K.heap[k]?) := fun k hk => (hb2.block _ (hM2.ilt (.inl hk))).trans ((hM2.same k (.inl hk)).trans ((HBX.out.block k (HKF.out k hk).2).trans (HKF.out k hk).1))
  clear hM2 hb2 hr7
  go_wp2_with (first
    | (refine wpList_store_row rfl 29 _ _ rfl Y.heap.size AL.toArray rfl rfl 29 ZL.toArray HZ8.out (info32a _ HAS.out) (HZS.out.trans HAS.out.symm) HA1.out ?_)
    | (refine wpList_load_mid rfl 39 _ rfl (X.heap.size + 1) 0 rfl QL _ HQ77.out HUQ.out rfl HL35.out ?_)
    | (go_at_call 20; fail))
  refine Calls.mono (HMAY.out _ HM3.out.bel) ?_
  rintro e Y3 ⟨rfl, hb3⟩
  have hM4 := HM3.out.step hb3
  have HM5 : Hid _ := hM4.step (hb := (Below.refl _ _).drew)
  have hr73 : Y3.heap[X.heap.size + 1]? = some (.cells QL.toArray 39 (0, 0)) := (hb3.block _ (row_lt HR77.out)).trans HR77.out
  have hk73 := HKC.out _ hr73
  have hr83 : Y3.heap[Y.heap.size]? = some (.cells AL.toArray 29 (0, 0)) := (hb3.block _ (row_lt HR8.out)).trans HR8.out
  have HTW : Hid (TwoR (X.heap.size + 1) Y.heap.size QL AL Y3.drew) := ⟨rangeAt_row (by rw [heap_drew]; exact hr73), rangeAt_row (by rw [heap_drew]; exact hr83)⟩
  have hsY := row_lt HR8.out
  clear HM3 hM4 HQ77 HR77 HR8 HZ8 hr73 hr83 hb3
  generalize ((Y.alloc (.cells ZL.toArray 29 (0, 0))).setRow Y.heap.size AL.toArray) = Y2 at *
  go_wp2
  refine wp_region_held_drew (S := TwoR (X.heap.size + 1) Y.heap.size QL AL) (by kernel_rfl) HTW.out (fun hHeld => ?_)
  generalize Y3.drew = W at *
  refine wpAnyH_take (i := 0) (oi := { dst := some 44, op := Go.Op.move (Go.Operand.tmp 9), type := 48, pos := _, after := #[], guard := none }) (v := .int .i64 0) rfl (by kernel_rfl) (by kernel_rfl) (by kernel_rfl) (fun _ _ _ h => h) (Or.inl ⟨by rfl, fun w' hw' => ?_⟩) hHeld ?_
  · first | (go_simp; done) | (go_simp; rfl)
  try simp only [Act.put, List.setIfInBounds_toArray, List.set_cons_zero, List.set_cons_succ]
  refine wpAnyH_take (i := 1) (oi := { dst := some 45, op := Go.Op.binOp Go.BinOp.eql 48 (Go.Operand.tmp 44) (Go.Operand.const (Go.Value.int Go.IntKind.i64 0)) 48, type := 4, pos := _, after := #[{ on := 0, ground := Go.Ground.data }], guard := none }) (v := .bool true) rfl (by kernel_rfl) (by kernel_rfl) (by kernel_rfl) (fun _ _ _ h => h) (Or.inl ⟨by rfl, fun w' hw' => ?_⟩) hHeld ?_
  · first | (go_simp; done) | (go_simp; rfl)
  try simp only [Act.put, List.setIfInBounds_toArray, List.set_cons_zero, List.set_cons_succ]
  refine wpAnyH_take (i := 2) (oi := { dst := some 46, op := Go.Op.move (Go.Operand.tmp 45), type := 4, pos := _, after := #[{ on := 1, ground := Go.Ground.data }], guard := none }) (v := .bool true) rfl (by kernel_rfl) (by kernel_rfl) (by kernel_rfl) (fun _ _ _ h => h) (Or.inl ⟨by rfl, fun w' hw' => ?_⟩) hHeld ?_
  · first | (go_simp; done) | (go_simp; rfl)
  try simp only [Act.put, List.setIfInBounds_toArray, List.set_cons_zero, List.set_cons_succ]
  refine wpAnyH_take (i := 3) (oi := { dst := some 47, op := Go.Op.load 29 (Go.Operand.tmp 8), type := 29, pos := _, after := #[{ on := 2, ground := Go.Ground.guard }], guard := some (2, true) }) rfl (by kernel_rfl) (by kernel_rfl) (by kernel_rfl) (fun _ _ _ h => h) (yieldsIf_load_mid (by rfl) 29 (.tmp 8) rfl (Y.heap.size) (0) rfl (AL) _ (fun _ h => h.x) Tryz.underlying29 rfl HAI.out) hHeld ?_
  try simp only [Act.put, List.setIfInBounds_toArray, List.set_cons_zero, List.set_cons_succ]
  refine wpAnyH_take (i := 4) (oi := { dst := some 48, op := Go.Op.move (Go.Operand.tmp 1), type := 30, pos := _, after := #[{ on := 2, ground := Go.Ground.guard }], guard := some (2, true) }) (v := .pointer (some ⟨rg, 0, none⟩)) rfl (by kernel_rfl) (by kernel_rfl) (by kernel_rfl) (fun _ _ _ h => h) (Or.inl ⟨by rfl, fun w' hw' => ?_⟩) hHeld ?_
  · first | (go_simp; done) | (go_simp; rfl)
  try simp only [Act.put, List.setIfInBounds_toArray, List.set_cons_zero, List.set_cons_succ]
  refine wpAnyH_take (i := 5) (oi := { dst := some 49, op := Go.Op.load 39 (Go.Operand.tmp 7), type := 39, pos := _, after := #[{ on := 2, ground := Go.Ground.guard }], guard := some (2, true) }) rfl (by kernel_rfl) (by kernel_rfl) (by kernel_rfl) (fun _ _ _ h => h) (yieldsIf_load_mid (by rfl) 39 (.tmp 7) rfl ((X.heap.size + 1)) (0) rfl (QL) _ (fun _ h => h.q) HUQ.out rfl HL35.out) hHeld ?_
  try simp only [Act.put, List.setIfInBounds_toArray, List.set_cons_zero, List.set_cons_succ]
  refine wpAnyH_ready (rs := [6]) (by kernel_rfl) (by simp) ?_
  refine AllReadyH.cons (o := { dst := some 50, op := Go.Op.call { callee := Go.Callee.value (Go.Operand.func 21), args := #[Go.Operand.tmp 48, Go.Operand.tmp 49], argTypes := #[30, 39] }, type := 29, pos := _, after := #[{ on := 4, ground := Go.Ground.data }, { on := 5, ground := Go.Ground.data }, { on := 2, ground := Go.Ground.chain }, { on := 2, ground := Go.Ground.guard }], guard := some (2, true) }) rfl (fun K hK => ?_) AllReadyH.nil
  rw [if_pos (by rfl)]
  go_wp2_with fail
  refine Calls.mono (HRASK.out W _ _ HM5.out) ?_
  rintro e W2 ⟨rfl, hM6, hkp⟩
  have hI7 : (I (X.heap.size + 1) ∨ X.heap.size ≤ X.heap.size + 1 ∧ X.heap.size + 1 < X1.heap.size) ∨ Y.heap.size ≤ X.heap.size + 1 ∧ X.heap.size + 1 < Y2.heap.size := .inl (.inr ⟨by omega, hx1⟩)
  have hI8 : (I Y.heap.size ∨ X.heap.size ≤ Y.heap.size ∧ Y.heap.size < X1.heap.size) ∨ Y.heap.size ≤ Y.heap.size ∧ Y.heap.size < Y2.heap.size := .inr ⟨Nat.le_refl _, hsY⟩
  have hHeld2 : TwoR (X.heap.size + 1) Y.heap.size QL AL W2 := ⟨fun j v hv => (World.cell?_of_block (a := ⟨X.heap.size + 1, 0 + j, none⟩) ((hM6.same _ hI7).trans (HM5.out.same _ hI7).symm)).trans (hHeld.q j v hv), fun j v hv => (World.cell?_of_block (a := ⟨Y.heap.size, 0 + j, none⟩) ((hM6.same _ hI8).trans (HM5.out.same _ hI8).symm)).trans (hHeld.x j v hv)⟩
  have HM6 : Hid _ := hM6
  clear hM6 hkp
  refine hK.out _ _ hHeld2 (fun _ => ?_)
  clear hK K
  try simp only [Act.put, List.setIfInBounds_toArray, List.set_cons_zero, List.set_cons_succ]
  clear hHeld
  have hHeld := hHeld2
  refine wpAnyH_take (i := 7) (oi := { dst := some 51, op := Go.Op.binOp Go.BinOp.eql 29 (Go.Operand.tmp 47) (Go.Operand.tmp 50) 29, type := 4, pos := _, after := #[{ on := 3, ground := Go.Ground.data }, { on := 6, ground := Go.Ground.data }, { on := 2, ground := Go.Ground.guard }], guard := some (2, true) }) (v := .bool true) rfl (by kernel_rfl) (by kernel_rfl) (by kernel_rfl) (fun _ _ _ h => h) (Or.inl ⟨by rfl, fun w' hw' => ?_⟩) hHeld ?_
  · have hqq := hAq w'; first | (go_simp; done) | (go_simp; rfl)
  try simp only [Act.put, List.setIfInBounds_toArray, List.set_cons_zero, List.set_cons_succ]
  refine wpAnyH_take (i := 8) (oi := { dst := some 52, op := Go.Op.pick (Go.Operand.tmp 46) (Go.Operand.tmp 51) (Go.Operand.const (Go.Value.bool false)), type := 4, pos := _, after := #[{ on := 2, ground := Go.Ground.data }, { on := 7, ground := Go.Ground.data }], guard := none }) (v := .bool true) rfl (by kernel_rfl) (by kernel_rfl) (by kernel_rfl) (fun _ _ _ h => h) (Or.inl ⟨by rfl, fun w' hw' => ?_⟩) hHeld ?_
  · first | (go_simp; done) | (go_simp; rfl)
  try simp only [Act.put, List.setIfInBounds_toArray, List.set_cons_zero, List.set_cons_succ]
  refine wpAnyH_ready (rs := [9]) (by kernel_rfl) (by simp) ?_
  refine AllReadyH.cons (o := { dst := some 6, op := Go.Op.assign (Go.Operand.tmp 52), type := 4, pos := _, after := #[{ on := 8, ground := Go.Ground.data }, { on := 6, ground := Go.Ground.chain }, { on := 0, ground := Go.Ground.phase }, { on := 1, ground := Go.Ground.phase }, { on := 2, ground := Go.Ground.phase }, { on := 3, ground := Go.Ground.phase }, { on := 4, ground := Go.Ground.phase }, { on := 5, ground := Go.Ground.phase }, { on := 6, ground := Go.Ground.phase }, { on := 7, ground := Go.Ground.phase }, { on := 8, ground := Go.Ground.phase }], guard := none }) rfl (fun K hK => ?_) AllReadyH.nil
  rw [if_pos (by rfl)]
  go_wp2_with fail
  refine hK.out _ _ hHeld2 (fun _ => ?_)
  clear hK K
  try simp only [Act.put, List.setIfInBounds_toArray, List.set_cons_zero, List.set_cons_succ]
  refine wpAnyH_done (by kernel_rfl) ?_ _
  go_wp2
  go_ret
  exact ⟨rfl, HM6.out.back (fun k hk => ⟨.inl (.inl hk), HKK.out k hk⟩)⟩
end Go.Proofs.YtefhjjjjbkkedaaGreat.R5
