/- Contract of the program's Tag. -/
import Derived.Test.YtefhjjjjbkkedaaGreatWd
set_option linter.unusedVariables false
set_option linter.unusedSimpArgs false
namespace Go.Proofs.YtefhjjjjbkkedaaGreat.R5
open scoped Classical
open Go.RowKit

/-- While Tag runs. -/
structure STg (b : Nat) (ML : List Value) (X : World) : Prop where
  m : X.rangeAt b 0 ML
  z : ∃ Z, Z.size = 32 ∧ X.heap[b + 1]? = some (.cells Z 29 (0, 0))
theorem STg.same {b : Nat} {ML : List Value} {X Y : World} (h : STg b ML X) (h0 : Y.heap[b]? = X.heap[b]?) (h1 : Y.heap[b + 1]? = X.heap[b + 1]?) : STg b ML Y := by
  obtain ⟨Z, hz1, hz2⟩ := h.z
  exact ⟨fun j v hv => (World.cell?_of_block (a := ⟨b, 0 + j, none⟩) h0).trans (h.m j v hv), Z, hz1, h1.trans hz2⟩
theorem STg.lt {b : Nat} {ML : List Value} {X : World} (h : STg b ML X) : b + 1 < X.heap.size := by obtain ⟨Z, hz1, hz2⟩ := h.z; exact row_lt hz2
set_option maxHeartbeats 4000000 in
set_option maxRecDepth 100000 in
theorem ptag_gen (pz pv : Value) (m : List UInt8) (d : Int) (ls : List (List UInt8)) (w : World) (R : World → Value → World → Prop) (hml : m.length = 32) (hp : HP w pv ls) (hl : ls.length ≤ 1048576) (hr : ls.flatten.length ≤ 1099511627776)
    (hA : ∀ W v, Below w.heap.size w W → HB W v ls.flatten → Calls Tryz.prog 13 #[pz, .agg (qL ⟨2, m, d, ls.flatten⟩ v).toArray] W fun e w' => ∃ A n, A.length = 32 ∧ e = .returned (.tuple #[dV A, .int .i64 n]) ∧ R W (.tuple #[dV A, .int .i64 n]) w' ∧ (∀ k, w.heap.size ≤ k → k < W.heap.size → w'.heap[k]? = W.heap[k]?)) :
    Calls Tryz.prog 23 #[pz, .agg (m.map B8).toArray, .int .i64 d, pv] w fun e w' => ∃ W v w3 N, e = .returned v ∧ Below w.heap.size w W ∧ w.heap.size + 1 < W.heap.size ∧ R W v w3 ∧ w' = w3.setRow (w.heap.size + 1) N := by
  have hzv := fun W => zero_dig W
  obtain ⟨ZL, hZL⟩ : ∃ L, L = (List.replicate 32 (0 : UInt8)).map B8 := ⟨_, rfl⟩
  rw [← hZL] at hzv
  have HZS : Hid (ZL.toArray.size = 32) := by show _ = _; rw [hZL]; simp
  have HJ : Hid (∀ X, Below w.heap.size w X → Calls Tryz.prog 38 #[pv] X fun e w' => ∃ v, e = .returned v ∧ FB X.heap.size w' v ls.flatten ∧ Below X.heap.size X w') := fun X hb => pjoin_any pv ls _ hl hr (hp_below hp hb)
  have HA : Hid (∀ W v, Below w.heap.size w W → HB W v ls.flatten → Calls Tryz.prog 13 #[pz, .agg (qL ⟨2, m, d, ls.flatten⟩ v).toArray] W fun e w' => ∃ A n, A.length = 32 ∧ e = .returned (.tuple #[dV A, .int .i64 n]) ∧ R W (.tuple #[dV A, .int .i64 n]) w' ∧ (∀ k, w.heap.size ≤ k → k < W.heap.size → w'.heap[k]? = W.heap[k]?)) := hA
  have HML : Hid ((m.map B8).length = 32) := by show _ = _; simpa using hml
  have HMI : Hid _ := info32 (m.map B8) HML.out
  have HBK0 : Hid (∀ W p n c, (Instr.build 39 #[(0, .int .i64 2), (1, .agg (m.map B8).toArray), (2, .int .i64 d), (3, .slice p n c)]).run Tryz.prog W = .ok (.agg (qL ⟨2, m, d, ls.flatten⟩ (.slice p n c)).toArray) W) := fun W p n c => build_q4 W 2 d (m.map B8) HML.out p n c
  obtain ⟨ML, hMLe⟩ : ∃ L, L = m.map B8 := ⟨_, rfl⟩
  rw [← hMLe] at HML HMI HBK0 ⊢
  have hb1 : Below w.heap.size w ((w.alloc (.cells ML.toArray 29 (0, 0))).alloc (.cells ZL.toArray 29 (0, 0))) := ((Below.refl _ _).alloc (Nat.le_refl _) _).alloc (by simp) _
  have hr0 : ((w.alloc (.cells ML.toArray 29 (0, 0))).alloc (.cells ZL.toArray 29 (0, 0))).heap[w.heap.size]? = some (.cells ML.toArray 29 (0, 0)) := alloc2_first _ _ _
  have hr1 : ((w.alloc (.cells ML.toArray 29 (0, 0))).alloc (.cells ZL.toArray 29 (0, 0))).heap[w.heap.size + 1]? = some (.cells ZL.toArray 29 (0, 0)) := heap_at _ _ _ (by simp)
  have HSK : Hid (STg w.heap.size ML ((w.alloc (.cells ML.toArray 29 (0, 0))).alloc (.cells ZL.toArray 29 (0, 0))).drew) := ⟨rangeAt_row (by rw [heap_drew]; exact hr0), _, HZS.out, by rw [heap_drew]; exact hr1⟩
  have HBD : Hid (Below w.heap.size w ((w.alloc (.cells ML.toArray 29 (0, 0))).alloc (.cells ZL.toArray 29 (0, 0))).drew) := hb1.drew
  clear hA hp hb1 hr hr0 hr1 hMLe hZL
  generalize ls.flatten = l at *
  go_enter Tryz.func23, Tryz.ntmps23
  go_wp2
  refine wp_region_held_drew (S := STg w.heap.size ML) (by kernel_rfl) HSK.out (fun hHeld => ?_)
  generalize ((w.alloc (.cells ML.toArray 29 (0, 0))).alloc (.cells ZL.toArray 29 (0, 0))).drew = W1 at *
  refine wpAnyH_take (i := 0) (oi := { dst := some 10, op := Go.Op.move (Go.Operand.tmp 0), type := 26, pos := _, after := #[], guard := none }) (v := pz) rfl (by kernel_rfl) (by kernel_rfl) (by kernel_rfl) (fun _ _ _ h => h) (Or.inl ⟨by rfl, fun w' hw' => ?_⟩) hHeld ?_
  · first | (go_simp; done) | (go_simp; rfl)
  try simp only [Act.put, List.setIfInBounds_toArray, List.set_cons_zero, List.set_cons_succ]
  refine wpAnyH_take (i := 1) (oi := { dst := some 11, op := Go.Op.load 29 (Go.Operand.tmp 5), type := 29, pos := _, after := #[], guard := none }) rfl (by kernel_rfl) (by kernel_rfl) (by kernel_rfl) (fun _ _ _ h => h) (yieldsIf_load_mid (by rfl) 29 (.tmp 5) rfl (w.heap.size) (0) rfl (ML) _ (fun _ h => h.m) Tryz.underlying29 rfl HMI.out) hHeld ?_
  try simp only [Act.put, List.setIfInBounds_toArray, List.set_cons_zero, List.set_cons_succ]
  refine wpAnyH_take (i := 2) (oi := { dst := some 12, op := Go.Op.move (Go.Operand.tmp 2), type := 36, pos := _, after := #[], guard := none }) (v := .int .i64 d) rfl (by kernel_rfl) (by kernel_rfl) (by kernel_rfl) (fun _ _ _ h => h) (Or.inl ⟨by rfl, fun w' hw' => ?_⟩) hHeld ?_
  · first | (go_simp; done) | (go_simp; rfl)
  try simp only [Act.put, List.setIfInBounds_toArray, List.set_cons_zero, List.set_cons_succ]
  refine wpAnyH_take (i := 3) (oi := { dst := some 13, op := Go.Op.move (Go.Operand.tmp 3), type := 83, pos := _, after := #[], guard := none }) (v := pv) rfl (by kernel_rfl) (by kernel_rfl) (by kernel_rfl) (fun _ _ _ h => h) (Or.inl ⟨by rfl, fun w' hw' => ?_⟩) hHeld ?_
  · first | (go_simp; done) | (go_simp; rfl)
  try simp only [Act.put, List.setIfInBounds_toArray, List.set_cons_zero, List.set_cons_succ]
  refine wpAnyH_ready (rs := [4]) (by kernel_rfl) (by simp) ?_
  refine AllReadyH.cons (o := { dst := some 14, op := Go.Op.call { callee := Go.Callee.value (Go.Operand.func 38), args := #[Go.Operand.tmp 13], argTypes := #[83] }, type := 37, pos := _, after := #[{ on := 3, ground := Go.Ground.data }], guard := none }) rfl (fun K hK => ?_) AllReadyH.nil
  rw [if_pos (by rfl)]
  go_wp2_with fail
  refine Calls.mono (HJ.out W1 HBD.out) ?_
  rintro e w2 ⟨v2, rfl, hf2, hb2⟩
  obtain ⟨p2, c2, hv2, _, _⟩ := hb_cells hf2.hb
  subst hv2
  have hh2 := hf2.hb
  have hs1 := hHeld.lt
  have HB2 : Hid (Below w.heap.size w w2) := HBD.out.trans (hb2.mono (by omega))
  have hHeld2 : STg w.heap.size ML w2 := hHeld.same (hb2.block _ (by omega)) (hb2.block _ hs1)
  have hA2 := HA.out w2 _ HB2.out hh2
  have hbk := fun W => HBK0.out W p2 l.length c2
  generalize qL ⟨2, m, d, l⟩ (.slice p2 l.length c2) = QB at *
  have HBK : Hid _ := hbk
  have HA2 : Hid _ := hA2
  clear hh2 hbk hA2 hf2 hb2 hHeld
  refine hK.out _ _ hHeld2 (fun _ => ?_)
  clear hK K
  try simp only [Act.put, List.setIfInBounds_toArray, List.set_cons_zero, List.set_cons_succ]
  have hHeld := hHeld2
  refine wpAnyH_take (i := 5) (oi := { dst := some 15, op := Go.Op.build 39 #[(0, Go.Operand.const (Go.Value.int Go.IntKind.i64 2)), (1, Go.Operand.tmp 11), (2, Go.Operand.tmp 12), (3, Go.Operand.tmp 14)], type := 39, pos := _, after := #[{ on := 1, ground := Go.Ground.data }, { on := 2, ground := Go.Ground.data }, { on := 4, ground := Go.Ground.data }], guard := none }) (v := .agg QB.toArray) rfl (by kernel_rfl) (by kernel_rfl) (by kernel_rfl) (fun _ _ _ h => h) (Or.inl ⟨by rfl, fun w' hw' => ?_⟩) hHeld ?_
  · exact exec_build _ _ 39 _ _ _ w' rfl (by simp; exact ⟨rfl, rfl, rfl, rfl⟩) (HBK.out w')
  try simp only [Act.put, List.setIfInBounds_toArray, List.set_cons_zero, List.set_cons_succ]
  refine wpAnyH_ready (rs := [6]) (by kernel_rfl) (by simp) ?_
  refine AllReadyH.cons (o := { dst := some 16, op := Go.Op.call { callee := Go.Callee.value (Go.Operand.func 13), args := #[Go.Operand.tmp 10, Go.Operand.tmp 15], argTypes := #[26, 39] }, type := 49, pos := _, after := #[{ on := 0, ground := Go.Ground.data }, { on := 5, ground := Go.Ground.data }, { on := 4, ground := Go.Ground.chain }], guard := none }) rfl (fun K hK => ?_) AllReadyH.nil
  rw [if_pos (by rfl)]
  go_wp2_with fail
  refine Calls.mono HA2.out ?_
  rintro e w3 ⟨A, n, hAl, rfl, hR, hk⟩
  have hs2 := hHeld2.lt
  have hHeld3 : STg w.heap.size ML w3 := hHeld2.same (hk _ (Nat.le_refl _) (by omega)) (hk _ (by omega) hs2)
  have hA : (A.map B8).toArray.size = 32 := by simpa using hAl
  have HAS : Hid _ := hA
  have HA1 : Hid _ := B8_onea A
  have HRR : Hid _ := hR
  clear hk hA hAl hR HA2 hHeld
  unfold dV at *
  generalize (A.map B8).toArray = AA at *
  refine hK.out _ _ hHeld3 (fun _ => ?_)
  clear hK K
  try simp only [Act.put, List.setIfInBounds_toArray, List.set_cons_zero, List.set_cons_succ]
  have hHeld := hHeld3
  refine wpAnyH_take (i := 7) (oi := { dst := some 17, op := Go.Op.extract (Go.Operand.tmp 16) 0, type := 29, pos := _, after := #[{ on := 6, ground := Go.Ground.data }], guard := none }) (v := .agg AA) rfl (by kernel_rfl) (by kernel_rfl) (by kernel_rfl) (fun _ _ _ h => h) (Or.inl ⟨by rfl, fun w' hw' => ?_⟩) hHeld ?_
  · first | (go_simp; done) | (go_simp; rfl)
  try simp only [Act.put, List.setIfInBounds_toArray, List.set_cons_zero, List.set_cons_succ]
  refine wpAnyH_take (i := 8) (oi := { dst := some 18, op := Go.Op.extract (Go.Operand.tmp 16) 1, type := 48, pos := _, after := #[{ on := 6, ground := Go.Ground.data }], guard := none }) (v := .int .i64 n) rfl (by kernel_rfl) (by kernel_rfl) (by kernel_rfl) (fun _ _ _ h => h) (Or.inl ⟨by rfl, fun w' hw' => ?_⟩) hHeld ?_
  · first | (go_simp; done) | (go_simp; rfl)
  try simp only [Act.put, List.setIfInBounds_toArray, List.set_cons_zero, List.set_cons_succ]
  refine wpAnyH_ready (rs := [9]) (by kernel_rfl) (by simp) ?_
  refine AllReadyH.cons (o := { dst := none, op := Go.Op.store 29 (Go.Operand.tmp 8) (Go.Operand.tmp 17), type := 0, pos := _, after := #[{ on := 7, ground := Go.Ground.data }, { on := 6, ground := Go.Ground.chain }, { on := 0, ground := Go.Ground.phase }, { on := 1, ground := Go.Ground.phase }, { on := 2, ground := Go.Ground.phase }, { on := 3, ground := Go.Ground.phase }, { on := 4, ground := Go.Ground.phase }, { on := 5, ground := Go.Ground.phase }, { on := 6, ground := Go.Ground.phase }, { on := 7, ground := Go.Ground.phase }, { on := 8, ground := Go.Ground.phase }], guard := none }) rfl (fun K hK => ?_) AllReadyH.nil
  rw [if_pos (by rfl)]
  obtain ⟨Z3, hz3, hr3⟩ := hHeld3.z
  refine wp_store_row 29 _ _ rfl (w.heap.size + 1) AA rfl rfl 29 _ hr3 (info32a _ HAS.out) (hz3.trans HAS.out.symm) HA1.out ?_
  have hr4 := setRow_heap _ _ _ AA _ _ hr3
  have hHeld4 : STg w.heap.size ML (w3.setRow (w.heap.size + 1) AA) := ⟨fun j v hv => (World.cell?_of_block (a := ⟨w.heap.size, 0 + j, none⟩) (setRow_other _ _ _ _ (show w.heap.size ≠ w.heap.size + 1 by omega))).trans (hHeld3.m j v hv), AA, HAS.out, hr4⟩
  refine hK.out _ _ hHeld4 (fun _ => ?_)
  clear hK K
  try simp only [Act.put, List.setIfInBounds_toArray, List.set_cons_zero, List.set_cons_succ]
  have hHeld := hHeld4
  refine wpAnyH_ready (rs := [10]) (by kernel_rfl) (by simp) ?_
  refine AllReadyH.cons (o := { dst := some 9, op := Go.Op.assign (Go.Operand.tmp 18), type := 48, pos := _, after := #[{ on := 8, ground := Go.Ground.data }, { on := 9, ground := Go.Ground.chain }, { on := 0, ground := Go.Ground.phase }, { on := 1, ground := Go.Ground.phase }, { on := 2, ground := Go.Ground.phase }, { on := 3, ground := Go.Ground.phase }, { on := 4, ground := Go.Ground.phase }, { on := 5, ground := Go.Ground.phase }, { on := 6, ground := Go.Ground.phase }, { on := 7, ground := Go.Ground.phase }, { on := 8, ground := Go.Ground.phase }, { on := 9, ground := Go.Ground.phase }], guard := none }) rfl (fun K hK => ?_) AllReadyH.nil
  rw [if_pos (by rfl)]
  go_wp2_with fail
  refine hK.out _ _ hHeld4 (fun _ => ?_)
  clear hK K
  try simp only [Act.put, List.setIfInBounds_toArray, List.set_cons_zero, List.set_cons_succ]
  refine wpAnyH_done (by kernel_rfl) ?_ _
  have HR4 : Hid _ := hr4
  clear hHeld hHeld2 hHeld3 hHeld4 hr3 hz3 hr4
  go_wp2
  refine bodyPost_ret (v := .tuple #[.agg AA, .int .i64 n]) ?_ rfl ⟨w2, _, w3, AA, rfl, HB2.out, hs2, HRR.out, rfl⟩
  exact results_dig2 Tryz.results23 _ _ (w.heap.size + 1) 29 _ (0, 0) _ rfl rfl HR4.out (info32a _ HAS.out)
/-- Tag, where Ask answers. -/
theorem ptag_ok (B og mb : Nat) (S : Nat → Prop) (pv dv ov : Value) (o : Pra) (m : List UInt8) (d : Int) (ls : List (List UInt8)) (r : List UInt8 × Pra) (w : World) (hml : m.length = 32) (hB : B ≤ w.heap.size) (ho : PO B og mb S w o dv ov) (hp : HP w pv ls) (hl : ls.length ≤ 1048576) (hr : ls.flatten.length ≤ 1099511627776) (hrl : r.1.length = 32)
    (hA : ∀ W v, Below w.heap.size w W → HB W v ls.flatten → Calls Tryz.prog 13 #[.pointer (some ⟨og, 0, none⟩), .agg (qL ⟨2, m, d, ls.flatten⟩ v).toArray] W fun e w' => PAsk B og mb S W r dv e w') :
    Calls Tryz.prog 23 #[.pointer (some ⟨og, 0, none⟩), .agg (m.map B8).toArray, .int .i64 d, pv] w fun e w' => PAsk B og mb S w r dv e w' := by
  refine (ptag_gen (.pointer (some ⟨og, 0, none⟩)) pv m d ls w (fun W v w3 => v = okV r.1 ∧ Fr S W w3 ∧ ∃ ov', PO B og mb (fun k => S k ∨ (W.heap.size ≤ k ∧ k < w3.heap.size)) w3 r.2 dv ov') hml hp hl hr (fun W v hb hv => (hA W v hb hv).mono ?_)).mono ?_
  · rintro e w' ⟨rfl, hfr, hpo⟩
    exact ⟨r.1, 0, hrl, rfl, ⟨rfl, hfr, hpo⟩, fun k hk hs => hfr.block _ hs (fun h => by have := ho.top _ h; omega)⟩
  · rintro e w' ⟨W, v, w3, N, rfl, hb, hs, ⟨rfl, hfr, hpo⟩, rfl⟩
    obtain ⟨h1, h2⟩ := pend ho hB hb (show w.heap.size ≤ w.heap.size + 1 by omega) hs hfr hpo N
    exact ⟨rfl, h1, h2⟩
/-- .. where Ask refuses. -/
theorem ptag_err (pz pv : Value) (m : List UInt8) (d : Int) (ls : List (List UInt8)) (n : Int) (w : World) (hml : m.length = 32) (hp : HP w pv ls) (hl : ls.length ≤ 1048576) (hr : ls.flatten.length ≤ 1099511627776)
    (hA : ∀ W v, Below w.heap.size w W → HB W v ls.flatten → Calls Tryz.prog 13 #[pz, .agg (qL ⟨2, m, d, ls.flatten⟩ v).toArray] W fun e w' => e = .returned (errV n) ∧ Below W.heap.size W w') :
    Calls Tryz.prog 23 #[pz, .agg (m.map B8).toArray, .int .i64 d, pv] w fun e w' => e = .returned (errV n) ∧ Below w.heap.size w w' := by
  refine (ptag_gen pz pv m d ls w (fun W v w3 => v = errV n ∧ Below W.heap.size W w3) hml hp hl hr (fun W v hb hv => (hA W v hb hv).mono ?_)).mono ?_
  · rintro e w' ⟨rfl, hb'⟩
    exact ⟨List.replicate 32 0, n, by simp, rfl, ⟨rfl, hb'⟩, fun k _ hs => hb'.block _ hs⟩
  · rintro e w' ⟨W, v, w3, N, rfl, hb, hs, ⟨rfl, hb3⟩, rfl⟩
    exact ⟨rfl, below_setRow (hb.trans (hb3.mono hb.size)) (by omega) _⟩
end Go.Proofs.YtefhjjjjbkkedaaGreat.R5
