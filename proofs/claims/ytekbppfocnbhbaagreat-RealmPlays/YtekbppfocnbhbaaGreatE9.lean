/- Logs of ref 5: their cells. -/
import Derived.Test.YtekbppfocnbhbaaGreatC9
import Derived.Test.YtekbppfocnbhbaaGreatPA
set_option linter.unusedVariables false
set_option linter.unusedSimpArgs false
namespace Go.Proofs.YtekbppfocnbhbaaGreat.R5
open scoped Classical
open Go.RowKit

theorem wp_copy_seg {op : Oper} {a : Act} {w : World} {K : Act → World → Prop} {Q : Exit → Act → World → Prop} (d s : Operand) (ho : op.op = .call { callee := .builtin .copy, args := #[d, s], argTypes := #[106, 106] })
    (b o dLen dCap : Nat) (sp : Option Addr) (sLen sCap : Nat) (hd : a.eval d = .slice (some ⟨b, o, none⟩) dLen dCap) (hs : a.eval s = .slice sp sLen sCap) (cur : List Value) (t : TypeId) (hg : w.heap[b]? = some (.cells cur.toArray t (0, 0)))
    (cs : List Value) (hn : cs.length = Nat.min sLen dLen) (hpos : 0 < cs.length → ∃ ad, sp = some ad ∧ ∀ j v, cs[j]? = some v → w.cell? (ad.add j) = some v) (hfit : o + cs.length ≤ cur.length) (h1 : ∀ v ∈ cs, v.oneCell' = true)
    (h : K (a.put op.dst (goInt cs.length)) (w.setRow b (splice cur o cs).toArray)) : op.wp Tryz.prog a w K Q := by
  by_cases h0 : cs.length = 0
  · obtain rfl : cs = [] := List.eq_nil_of_length_eq_zero h0
    have hrun := run_copy_none (P := Tryz.prog) w 106 106 op.type 5 (some ⟨b, o, none⟩) sp dLen dCap sLen sCap Tryz.underlying106 (by kernel_rfl) (by simpa using hn.symm)
    have e : w.setRow b (splice cur o []).toArray = w := by
      have : splice cur o [] = cur := by simp [splice]
      rw [this]; exact setRow_self w b cur.toArray t (0, 0) hg
    rw [e] at h
    unfold Oper.wp
    simp [execOp, ho, resolve, invoke, builtin, hd, hs, hrun, Result.andThen]
    exact h
  · obtain ⟨ad, rfl, hsrc⟩ := hpos (by omega)
    have hrun := run_copy_row (P := Tryz.prog) w 106 106 op.type 5 b o dLen dCap ad sLen sCap cur.toArray t cs Tryz.underlying106 (by kernel_rfl) hg hn hsrc (by simpa using hfit) h1
    have e : (cur.toArray.toList.take o ++ cs ++ cur.toArray.toList.drop (o + cs.length)).toArray = (splice cur o cs).toArray := by simp [splice]
    rw [e] at hrun
    unfold Oper.wp
    simp [execOp, ho, resolve, invoke, builtin, hd, hs, hrun, Result.andThen]
    exact h

def HDs (w : World) (v : Value) (ds : List (List UInt8)) : Prop :=
  (∀ d ∈ ds, d.length = 32) ∧ ∃ p cap, v = .slice p ds.length cap ∧ ∀ i, i < ds.length → ∃ b o, p = some ⟨b, o, none⟩ ∧ w.rangeAt b (o + i * 32) ((ds.getD i []).map B8)
theorem hds_below {w w' : World} {v : Value} {ds : List (List UInt8)} (h : HDs w v ds) (hb : Below w.heap.size w w') : HDs w' v ds := by
  obtain ⟨h0, p, cap, h1, h2⟩ := h
  refine ⟨h0, p, cap, h1, fun i hi => ?_⟩
  obtain ⟨b, o, e, hr⟩ := h2 i hi
  exact ⟨b, o, e, rangeAt_below hr hb⟩
def drawD (ds : List (List UInt8)) (n : Nat) : List UInt8 := if n < ds.length then ds.getD n [] else W1.le 8 n ++ List.replicate 23 0 ++ [1]
theorem drawD_len (ds : List (List UInt8)) (n : Nat) (h : ∀ d ∈ ds, d.length = 32) : (drawD ds n).length = 32 := by
  unfold drawD
  by_cases hn : n < ds.length
  · rw [if_pos hn]
    have : ds.getD n [] ∈ ds := by simp [List.getD, List.getElem?_eq_getElem hn]
    exact h _ this
  · rw [if_neg hn]; simp [W1.le_length]
theorem info32a (RS : Array Value) (h : RS.size = 32) : (Tryz.prog.info? 33).map (·.size) = some RS.size := by rw [h]; kernel_rfl
theorem zero_dig (w : World) : (zeroValue 33).run Tryz.prog w = .ok (.agg ((List.replicate 32 (0 : UInt8)).map B8).toArray) w := by kernel_rfl
theorem splice_le (l : List UInt8) (h : l.length = 8) : splice ((List.replicate 32 (0 : UInt8)).map B8) 0 (l.map B8) = (l ++ List.replicate 24 0).map B8 := by
  unfold splice
  rw [List.take_zero, List.nil_append, List.length_map, h, List.map_append]
  congr 1
theorem set_31 (l : List UInt8) (h : l.length = 8) : (((l ++ List.replicate 24 0).map B8).toArray).setIfInBounds 31 (.int .u8 1) = ((l ++ List.replicate 23 0 ++ [1]).map B8).toArray := by
  match l, h with
  | [a0, a1, a2, a3, a4, a5, a6, a7], _ => rfl

set_option maxHeartbeats 4000000 in
set_option maxRecDepth 100000 in
theorem draw_any (og n : Nat) (dv : Value) (ds : List (List UInt8)) (w : World) (hn : n < 9223372036854775808) (hc : w.cell? ⟨og, 33, none⟩ = some dv) (hd : HDs w dv ds) :
    Calls Tryz.prog 117 #[.pointer (some ⟨og, 0, none⟩), .int .i64 (n : Int)] w fun e w' => e = .returned (.agg ((drawD ds n).map B8).toArray) ∧ Below w.heap.size w w' := by
  have hRl := drawD_len ds n hd.1
  have hog := block_lt hc
  simp only at hog
  obtain ⟨h0, p, cap, rfl, h2⟩ := hd
  have hzv := fun W => zero_dig W
  obtain ⟨ZA, hZA⟩ : ∃ A, A = ((List.replicate 32 (0 : UInt8)).map B8).toArray := ⟨_, rfl⟩
  rw [← hZA] at hzv
  have HZS : Hid (ZA.size = 32) := by show _ = _; rw [hZA]; simp
  obtain ⟨RL, hRL⟩ : ∃ A, A = (drawD ds n).map B8 := ⟨_, rfl⟩
  rw [← hRL]
  have HRS : Hid (RL.toArray.size = 32) := by show _ = _; rw [hRL]; simp [hRl]
  have HRI : Hid _ := info32a RL.toArray HRS.out
  have HR1 : Hid (RL.toArray.all (·.oneCell') = true) := by show _ = _; rw [hRL]; exact B8_onea _
  have HQ : Hid ((w.alloc (.cells ZA 33 (0, 0))).heap[w.heap.size]? = some (.cells ZA 33 (0, 0))) := heap_at _ _ _ rfl
  have hb0 : Below w.heap.size w (w.alloc (.cells ZA 33 (0, 0))) := (Below.refl _ _).alloc (Nat.le_refl _) _
  have hc0 : (w.alloc (.cells ZA 33 (0, 0))).cell? ⟨og, 33, none⟩ = some (.slice p ds.length cap) := (hb0.cell hog).trans hc
  have HB0 : Hid _ := hb0
  by_cases hlt : n < ds.length
  · have hnI : (n : Int) < (ds.length : Int) := by omega
    obtain ⟨b, o, rfl, hr⟩ := h2 n hlt
    have hre : RL = (ds.getD n []).map B8 := by rw [hRL]; unfold drawD; rw [if_pos hlt]
    have HRG : Hid ((w.alloc (.cells ZA 33 (0, 0))).rangeAt b (o + n * 32) RL) := by
      rw [hre]; exact rangeAt_below hr hb0
    have HIL : Hid ((Tryz.prog.info? 33).map (·.size) = some RL.length) := by have := HRI.out; rwa [List.size_toArray] at this
    clear hRL hre hr h2 hc hb0 hZA hRl
    go_enter Tryz.func117, Tryz.ntmps117
    go_wp2_with (first
      | (refine wpList_load_mid rfl 33 _ rfl b (o + n * 32) rfl RL _ HRG.out Tryz.underlying33 rfl HIL.out ?_)
      | (refine wpList_store_row rfl 33 _ _ rfl w.heap.size RL.toArray rfl rfl 33 ZA HQ.out HRI.out (HZS.out.trans HRS.out.symm) HR1.out ?_))
    refine bodyPost_ret (v := .agg RL.toArray) ?_ rfl ⟨rfl, below_setRow HB0.out (Nat.le_refl _) _⟩
    exact results_cell_row Tryz.results117 _ _ w.heap.size 33 _ (0, 0) _ rfl (setRow_heap _ _ _ _ _ _ HQ.out) Tryz.underlying33 rfl HRI.out
  · have hnI : ¬ (n : Int) < (ds.length : Int) := by omega
    have hLl := W1.le_length 8 n
    have HRE : Hid (((W1.le 8 n ++ List.replicate 24 0).map B8).toArray.setIfInBounds 31 (.int .u8 1) = RL.toArray) := by
      show _ = _
      rw [set_31 _ hLl, hRL]; unfold drawD; rw [if_neg hlt]
    have HSP : Hid (splice ((List.replicate 32 (0 : UInt8)).map B8) 0 ((W1.le 8 n).map B8) = (W1.le 8 n ++ List.replicate 24 0).map B8) := splice_le _ hLl
    have hle := fun W => le_any n W (by omega)
    have HZA : Hid _ := hZA
    have hwr : IntKind.u64.wrap (n : Int) = (n : Int) := by rw [IntKind.wrap_u64]; omega
    generalize W1.le 8 n = L at *
    have HLl : Hid _ := hLl
    have HQ2 : Hid (((w.alloc (.cells ZA 33 (0, 0))).alloc (.cells ZA 33 (0, 0))).heap[w.heap.size]? = some (.cells ZA 33 (0, 0))) := alloc2_first _ _ _
    have HQ3 : Hid (((w.alloc (.cells ZA 33 (0, 0))).alloc (.cells ZA 33 (0, 0))).heap[w.heap.size + 1]? = some (.cells ZA 33 (0, 0))) := heap_at _ _ _ (by simp)
    have HBA : Hid (Below w.heap.size w ((w.alloc (.cells ZA 33 (0, 0))).alloc (.cells ZA 33 (0, 0))).drew) := (HB0.out.alloc (by simp) _).drew
    have hsl := fun W => sliceDig W (w.heap.size + 1) 0
    clear hRL h2 hc hb0 hZA hRl hLl
    go_enter Tryz.func117, Tryz.ntmps117
    go_wp2
    refine wp_region_held_drew (S := fun w' => Below w.heap.size w w') (by kernel_rfl) HBA.out (fun hHeld => ?_)
    refine wpAnyH_take (i := 0) (oi := ⟨some 20, .slice 33 (.tmp 5) none none none, 106, _, #[], none⟩) (v := .slice (some ⟨w.heap.size + 1, 0, none⟩) 32 32) rfl (by kernel_rfl) (by kernel_rfl) (by kernel_rfl) (fun _ _ _ h => h) (Or.inl ⟨by rfl, fun w' hw' => ?_⟩) hHeld ?_
    · first | (go_simp; done) | (go_simp; rfl)
    try simp only [Act.put, qT, q0, qS]
    refine wpAnyH_take (i := 1) (oi := ⟨some 21, .move (.tmp 1), 3, _, #[], none⟩) (v := .int .i64 (n : Int)) rfl (by kernel_rfl) (by kernel_rfl) (by kernel_rfl) (fun _ _ _ h => h) (Or.inl ⟨by rfl, fun w' hw' => ?_⟩) hHeld ?_
    · first | (go_simp; done) | (go_simp; rfl)
    try simp only [Act.put, qT, q0, qS]
    refine wpAnyH_take (i := 2) (oi := ⟨some 22, .convert 3 34 (.tmp 21), 34, _, #[⟨1, .data⟩], none⟩) (v := .int .u64 (n : Int)) rfl (by kernel_rfl) (by kernel_rfl) (by kernel_rfl) (fun _ _ _ h => h) (Or.inl ⟨by rfl, fun w' hw' => ?_⟩) hHeld ?_
    · first | (go_simp; done) | (go_simp; rfl)
    try simp only [Act.put, qT, q0, qS]
    refine wpAnyH_ready (rs := [3]) (by kernel_rfl) (by simp) ?_
    refine AllReadyH.cons (o := { dst := some 23, op := .call { callee := Go.Callee.value (.func 51), args := #[.tmp 22], argTypes := #[34] }, type := 106, pos := _, after := #[⟨2, .data⟩], guard := none }) rfl (fun K hK => ?_) AllReadyH.nil
    rw [if_pos (by rfl)]
    go_wp2_with fail
    refine (hle _).mono ?_
    rintro e w3 ⟨v3, rfl, hf3, hb3⟩
    have hb3' : Below (w.heap.size + 2) ((w.alloc (.cells ZA 33 (0, 0))).alloc (.cells ZA 33 (0, 0))).drew w3 := hb3.mono (by rw [heap_drew]; simp)
    have HR3 : Hid (w3.heap[w.heap.size]? = some (.cells ZA 33 (0, 0))) := (hb3'.block _ (by omega)).trans HQ2.out
    have HR4 : Hid (w3.heap[w.heap.size + 1]? = some (.cells ((List.replicate 32 (0 : UInt8)).map B8).toArray 33 (0, 0))) := by
      show _ = _
      rw [← HZA.out]; exact (hb3'.block _ (by omega)).trans HQ3.out
    have hh3 := hf3.hb
    obtain ⟨p3, c3, rfl, hpn, hpc⟩ := hb_cells hh3
    have hHeld3 : Below w.heap.size w w3 := hHeld.trans (hb3.mono (by rw [heap_drew]; simp; omega))
    rw [HLl.out]
    refine hK.out _ _ hHeld3 (fun _ => ?_)
    clear hK K
    try simp only [Act.put, qT, q0, qS]
    refine wpAnyH_ready (rs := [4]) (by kernel_rfl) (by simp) ?_
    refine AllReadyH.cons (o := { dst := some 24, op := .call { callee := Go.Callee.builtin Go.Builtin.copy, args := #[.tmp 20, .tmp 23], argTypes := #[106, 106] }, type := 3, pos := _, after := #[⟨0, .data⟩, ⟨3, .data⟩, ⟨3, .chain⟩], guard := none }) rfl (fun K hK => ?_) AllReadyH.nil
    rw [if_pos (by rfl)]
    refine wp_copy_seg (.tmp 20) (.tmp 23) rfl (w.heap.size + 1) 0 32 32 p3 8 c3 rfl rfl ((List.replicate 32 (0 : UInt8)).map B8) 33 HR4.out (L.map B8) ?_ ?_ ?_ (B8_one L) ?_
    · rw [List.length_map, HLl.out]; rfl
    · intro _
      cases p3 with
      | none => have := (hpn rfl).1; have h8 := HLl.out; rw [this] at h8; simp at h8
      | some a => exact ⟨a, rfl, hpc a rfl⟩
    · rw [List.length_map, HLl.out, List.length_map, List.length_replicate]; decide
    rw [HSP.out]
    have hHeld4 := below_setRow hHeld3 (show w.heap.size ≤ w.heap.size + 1 by omega) ((L ++ List.replicate 24 0).map B8).toArray
    refine hK.out _ _ hHeld4 (fun _ => ?_)
    clear hK K
    try simp only [Act.put, qT, q0, qS]
    refine wpAnyH_done (by kernel_rfl) ?_ _
    have hr5 := setRow_heap _ _ _ ((L ++ List.replicate 24 0).map B8).toArray _ _ HR4.out
    have HR5 : Hid _ := hr5
    have HR6 : Hid ((w3.setRow (w.heap.size + 1) ((L ++ List.replicate 24 0).map B8).toArray).heap[w.heap.size]? = some (.cells ZA 33 (0, 0))) := by show _ = _; rw [setRow_other _ _ _ _ (by omega)]; exact HR3.out
    have HB6 : Hid _ := hHeld4
    have f31 := frozen_of_row _ _ 31 _ _ hr5
    obtain ⟨u, hu⟩ : ∃ u, ((L ++ List.replicate 24 0).map B8).toArray[31]? = some (.int .u8 u) := by
      have hl : 31 < (L ++ List.replicate 24 (0 : UInt8)).length := by simp [HLl.out]
      exact ⟨_, by simp only [List.getElem?_toArray, List.getElem?_map, List.getElem?_eq_getElem hl]; rfl⟩
    have c31 := cell_of_row _ _ 31 _ _ _ hr5
    rw [hu] at c31
    clear hHeld hHeld3 hHeld4 HR3 HR4 hb3 hb3' hf3 hh3 hpn hpc hr5 hu hle
    generalize w3.setRow (w.heap.size + 1) ((L ++ List.replicate 24 0).map B8).toArray = w4 at *
    have HR7 : Hid ((w4.setCell ⟨w.heap.size + 1, 31, none⟩ (.int .u8 1)).heap[w.heap.size + 1]? = some (.cells RL.toArray 33 (0, 0))) := by show _ = _; rw [← HRE.out]; exact heap_setCell_same _ (w.heap.size + 1) 31 _ 33 _ HR5.out
    have HR8 : Hid ((w4.setCell ⟨w.heap.size + 1, 31, none⟩ (.int .u8 1)).heap[w.heap.size]? = some (.cells ZA 33 (0, 0))) := by show _ = _; rw [heap_setCell_other _ _ _ _ (by show w.heap.size ≠ w.heap.size + 1; omega)]; exact HR6.out
    have HB8 : Hid (Below w.heap.size w (w4.setCell ⟨w.heap.size + 1, 31, none⟩ (.int .u8 1))) := HB6.out.setCell (p := ⟨w.heap.size + 1, 31, none⟩) (by show w.heap.size ≤ w.heap.size + 1; omega) _
    go_wp2_with (first
      | (refine wpList_load_row rfl 33 _ rfl (w.heap.size + 1) rfl 33 RL.toArray (0, 0) _ HR7.out Tryz.underlying33 rfl HRI.out ?_)
      | (refine wpList_store_row rfl 33 _ _ rfl w.heap.size RL.toArray rfl rfl 33 ZA HR8.out HRI.out (HZS.out.trans HRS.out.symm) HR1.out ?_))
    refine bodyPost_ret (v := .agg RL.toArray) ?_ rfl ⟨rfl, below_setRow HB8.out (Nat.le_refl _) _⟩
    exact results_cell_row Tryz.results117 _ _ w.heap.size 33 _ (0, 0) _ rfl (setRow_heap _ _ _ _ _ _ HR8.out) Tryz.underlying33 rfl HRI.out

end Go.Proofs.YtekbppfocnbhbaaGreat.R5

namespace Go.Proofs.YtekbppfocnbhbaaGreat.R5
open scoped Classical
open Go.RowKit

theorem q_facts {w : World} {b : Nat} {q : Qn} {dv : Value} {t : TypeId} {fr : Nat × Nat} (hk : q.key.length = 32) (h : w.heap[b]? = some (.cells (qL q dv).toArray t fr)) :
    w.cell? ⟨b, 0, none⟩ = some (.int .i64 q.kind) ∧ w.rangeAt b 1 (q.key.map B8) ∧ w.cell? ⟨b, 33, none⟩ = some (.int .i64 q.dom) ∧ w.cell? ⟨b, 34, none⟩ = some dv := by
  refine ⟨?_, fun j v hv => ?_, ?_, ?_⟩
  · rw [cell_of_row _ _ 0 _ _ _ h]; exact qL_0 q dv
  · rw [cell_of_row _ _ (1 + j) _ _ _ h]; exact qL_key q dv hk j v hv
  · rw [cell_of_row _ _ 33 _ _ _ h]; exact qL_33 q dv hk
  · rw [cell_of_row _ _ 34 _ _ _ h]; exact qL_34 q dv hk

set_option maxHeartbeats 4000000 in
set_option maxRecDepth 100000 in
theorem qsame_any (va vb : Value) (p q : Qn) (w : World) (ha : HQ w va p) (hb : HQ w vb q) : Calls Tryz.prog 75 #[va, vb] w fun e w' => e = .returned (.bool (decide (p = q))) ∧ Below w.heap.size w w' := by
  obtain ⟨hpk, da, rfl, hda⟩ := ha
  obtain ⟨hqk, db, rfl, hdb⟩ := hb
  have HB0 : Hid (Below w.heap.size w ((w.alloc (.cells (qL p da).toArray 138 (0, 0))).alloc (.cells (qL q db).toArray 138 (0, 0)))) := ((Below.refl _ _).alloc (Nat.le_refl _) _).alloc (by simp) _
  have c1 := conv_hb _ da p.data (hb_alloc (hb_alloc hda (.cells (qL p da).toArray 138 (0, 0))) (.cells (qL q db).toArray 138 (0, 0)))
  have c2 := conv_hb _ db q.data (hb_alloc (hb_alloc hdb (.cells (qL p da).toArray 138 (0, 0))) (.cells (qL q db).toArray 138 (0, 0)))
  obtain ⟨a0, a1, a2, a3⟩ := q_facts hpk (alloc2_first w (.cells (qL p da).toArray 138 (0, 0)) (.cells (qL q db).toArray 138 (0, 0)))
  obtain ⟨b0, b1, b2, b3⟩ := q_facts (b := w.heap.size + 1) hqk (heap_at (w.alloc (.cells (qL p da).toArray 138 (0, 0))) (.cells (qL q db).toArray 138 (0, 0)) _ (by simp))
  have hq := fun W => eql_digest W p.key q.key hpk hqk
  have HTX : Hid (((txt p.data).toList == (txt q.data).toList) = decide (p.data = q.data)) := txt_beq p.data q.data
  obtain ⟨k1, y1, d1, x1⟩ := p
  obtain ⟨k2, y2, d2, x2⟩ := q
  simp only at *
  have HI1 : Hid _ := info32 (y1.map B8) (by simpa using hpk)
  have HI2 : Hid _ := info32 (y2.map B8) (by simpa using hqk)
  have HA1 : Hid _ := a1
  have HB1 : Hid _ := b1
  generalize (qL ⟨k1, y1, d1, x1⟩ da).toArray = PA at *
  generalize (qL ⟨k2, y2, d2, x2⟩ db).toArray = QA at *
  clear a1 b1 hpk hqk hda hdb
  by_cases h1 : k1 = k2
  · have g1 : (k1 == k2) = true := by simp [h1]
    by_cases h2 : y1 = y2
    · have g2 : (y1 == y2) = true := by simp [h2]
      rw [g2] at hq
      by_cases h3 : d1 = d2
      · have g3 : (d1 == d2) = true := by simp [h3]
        have HE : Hid (decide ((⟨k1, y1, d1, x1⟩ : Qn) = ⟨k2, y2, d2, x2⟩) = decide (x1 = x2)) := by show _ = _; simp [h1, h2, h3]
        clear h1 h2 h3 g2
        go_enter Tryz.func75, Tryz.ntmps75
        go_wp2_with (first
          | (refine load_mid_g (by rfl) 33 _ rfl w.heap.size 1 rfl (y1.map B8) _ HA1.out Tryz.underlying33 rfl HI1.out ?_)
          | (refine load_mid_g (by rfl) 33 _ rfl (w.heap.size + 1) 1 rfl (y2.map B8) _ HB1.out Tryz.underlying33 rfl HI2.out ?_))
        go_ret
        refine ⟨?_, HB0.out⟩
        rw [HE.out, ← HTX.out]
        rfl
      · have g3 : (d1 == d2) = false := by simp [h3]
        have HE : Hid (decide ((⟨k1, y1, d1, x1⟩ : Qn) = ⟨k2, y2, d2, x2⟩) = false) := by show _ = _; simp [h3]
        clear h1 h2 h3 g2
        go_enter Tryz.func75, Tryz.ntmps75
        go_wp2_with (first
          | (refine load_mid_g (by rfl) 33 _ rfl w.heap.size 1 rfl (y1.map B8) _ HA1.out Tryz.underlying33 rfl HI1.out ?_)
          | (refine load_mid_g (by rfl) 33 _ rfl (w.heap.size + 1) 1 rfl (y2.map B8) _ HB1.out Tryz.underlying33 rfl HI2.out ?_))
        go_ret
        exact ⟨by rw [HE.out]; rfl, HB0.out⟩
    · have g2 : (y1 == y2) = false := by simp [h2]
      rw [g2] at hq
      have HE : Hid (decide ((⟨k1, y1, d1, x1⟩ : Qn) = ⟨k2, y2, d2, x2⟩) = false) := by show _ = _; simp [h2]
      clear h1 h2 g2
      go_enter Tryz.func75, Tryz.ntmps75
      go_wp2_with (first
        | (refine load_mid_g (by rfl) 33 _ rfl w.heap.size 1 rfl (y1.map B8) _ HA1.out Tryz.underlying33 rfl HI1.out ?_)
        | (refine load_mid_g (by rfl) 33 _ rfl (w.heap.size + 1) 1 rfl (y2.map B8) _ HB1.out Tryz.underlying33 rfl HI2.out ?_))
      go_ret
      exact ⟨by rw [HE.out]; rfl, HB0.out⟩
  · have g1 : (k1 == k2) = false := by simp [h1]
    have HE : Hid (decide ((⟨k1, y1, d1, x1⟩ : Qn) = ⟨k2, y2, d2, x2⟩) = false) := by show _ = _; simp [h1]
    clear h1
    go_enter Tryz.func75, Tryz.ntmps75
    go_wp2
    go_ret
    exact ⟨by rw [HE.out]; rfl, HB0.out⟩

end Go.Proofs.YtekbppfocnbhbaaGreat.R5

namespace Go.Proofs.YtekbppfocnbhbaaGreat.R5
open scoped Classical
open Go.RowKit

def mayQ (q : Qn) : Bool := decide (1 ≤ q.kind ∧ q.kind ≤ 4 ∧ 1 ≤ q.dom ∧ q.dom ≤ 16 ∧ (q.kind = 1 → q.key = List.replicate 32 0))
theorem build_dig (w : World) : (Instr.build 33 #[]).run Tryz.prog w = .ok (.agg ((List.replicate 32 (0 : UInt8)).map B8).toArray) w := by kernel_rfl

theorem upon_eq {P : Program} {op : Oper} {a : Act} {K : Act → World → Prop} {Q : Exit → Act → World → Prop} {r r' : Result Next} (h : r = r') (g : op.upon P a K Q r') : op.upon P a K Q r := h ▸ g

end Go.Proofs.YtekbppfocnbhbaaGreat.R5

namespace Go.Proofs.YtekbppfocnbhbaaGreat.R5
open scoped Classical
open Go.RowKit

def aL (e : Qn × List UInt8) (dv : Value) : List Value := qL e.1 dv ++ e.2.map B8
theorem aL_len (e : Qn × List UInt8) (dv : Value) (h1 : e.1.key.length = 32) (h2 : e.2.length = 32) : (aL e dv).length = 67 := by unfold aL; simp [qL_len _ _ h1, h2]
def lC : List (Qn × List UInt8) → List Value → List Value
  | e :: l, d :: ds => aL e d ++ lC l ds
  | _, _ => []
def logOk (l : List (Qn × List UInt8)) : Prop := ∀ e ∈ l, e.1.key.length = 32 ∧ e.2.length = 32
theorem lC_at : ∀ (l : List (Qn × List UInt8)) (ds : List Value), logOk l → ds.length = l.length → ∀ i e d, l[i]? = some e → ds[i]? = some d → ∀ j, j < 67 → (lC l ds)[i * 67 + j]? = (aL e d)[j]?
  | [], _, _, _, i, e, d, h, _, _, _ => by simp at h
  | _ :: _, [], _, h, _, _, _, _, _, _, _ => by simp at h
  | e :: l, d :: ds, h, hl, i, e', d', he, hd, j, hj => by
    have h0 := h e (by simp)
    have hal := aL_len e d h0.1 h0.2
    show (aL e d ++ lC l ds)[i * 67 + j]? = _
    cases i with
    | zero =>
      simp only [List.getElem?_cons_zero, Option.some.injEq] at he hd
      subst he hd
      rw [Nat.zero_mul, Nat.zero_add, List.getElem?_append_left (by omega)]
    | succ i =>
      simp only [List.getElem?_cons_succ] at he hd
      rw [List.getElem?_append_right (by rw [hal]; omega), hal, show (i + 1) * 67 + j - 67 = i * 67 + j by omega]
      exact lC_at l ds (fun x hx => h x (by simp [hx])) (by simpa using hl) i e' d' he hd j hj
theorem lC_snoc : ∀ (l : List (Qn × List UInt8)) (ds : List Value) (e : Qn × List UInt8) (d : Value), ds.length = l.length → lC (l ++ [e]) (ds ++ [d]) = lC l ds ++ aL e d
  | [], [], e, d, _ => by show aL e d ++ [] = [] ++ aL e d; simp
  | [], _ :: _, _, _, h => by simp at h
  | _ :: _, [], _, _, h => by simp at h
  | x :: l, y :: ds, e, d, h => by
    show aL x y ++ lC (l ++ [e]) (ds ++ [d]) = aL x y ++ lC l ds ++ aL e d
    rw [lC_snoc l ds e d (by simpa using h), List.append_assoc]
def HLg (B : Nat) (w : World) (lv : Value) (l : List (Qn × List UInt8)) (ds : List Value) : Prop :=
  logOk l ∧ ds.length = l.length ∧ w.ownsRow B 140 67 lv l.length (lC l ds) ∧ ∀ (i : Nat) (e : Qn × List UInt8) (d : Value), l[i]? = some e → ds[i]? = some d → HB w d e.1.data
theorem hlg_form {B : Nat} {w : World} {lv : Value} {l : List (Qn × List UInt8)} {ds : List Value} (h : HLg B w lv l ds) : ∃ p cap, lv = .slice p l.length cap ∧ ∀ i e d, l[i]? = some e → ds[i]? = some d → ∃ g, p = some ⟨g, 0, none⟩ ∧ B ≤ g ∧ w.rangeAt g (i * 67) (qL e.1 d) ∧ w.rangeAt g (i * 67 + 35) (e.2.map B8) := by
  obtain ⟨h1, h2, h3, h4⟩ := h
  rcases h3.2 with ⟨e1, e2⟩ | ⟨g, cap, cur, e1, e2, e3, e4, e5, e6, e7⟩
  · refine ⟨none, 0, by rw [e1, e2], fun i e d he _ => ?_⟩
    have : i < l.length := (List.getElem?_eq_some_iff.1 he).1
    omega
  · refine ⟨some ⟨g, 0, none⟩, cap, e1, fun i e d he hd => ⟨g, rfl, e2, ?_, ?_⟩⟩
    · intro j v hv
      have hi : i < l.length := (List.getElem?_eq_some_iff.1 he).1
      have hem : e ∈ l := List.mem_of_getElem? he
      have hk := (h1 e hem)
      have hj : j < 35 := by
        have := (List.getElem?_eq_some_iff.1 hv).1
        rw [qL_len _ _ hk.1] at this; exact this
      have hx := lC_at l ds h1 h2 i e d he hd j (by omega)
      have : (aL e d)[j]? = some v := by
        unfold aL; rw [List.getElem?_append_left (by rw [qL_len _ _ hk.1]; exact hj)]; exact hv
      rw [this] at hx
      rw [cell_of_row _ _ _ _ _ _ e3]
      rw [← e7, List.getElem?_take] at hx
      rw [if_pos (by omega)] at hx
      simpa using hx
    · intro j v hv
      have hi : i < l.length := (List.getElem?_eq_some_iff.1 he).1
      have hem : e ∈ l := List.mem_of_getElem? he
      have hk := (h1 e hem)
      have hj : j < 32 := by
        have := (List.getElem?_eq_some_iff.1 hv).1
        rw [List.length_map, hk.2] at this; exact this
      have hx := lC_at l ds h1 h2 i e d he hd (35 + j) (by omega)
      have : (aL e d)[35 + j]? = some v := by
        unfold aL
        rw [List.getElem?_append_right (by rw [qL_len _ _ hk.1]; omega), qL_len _ _ hk.1, show 35 + j - 35 = j by omega]; exact hv
      rw [this, ← Nat.add_assoc] at hx
      rw [cell_of_row _ _ _ _ _ _ e3]
      rw [← e7, List.getElem?_take] at hx
      rw [if_pos (by omega)] at hx
      simpa using hx
def fndA (q : Qn) : List (Qn × List UInt8) → Option (List UInt8)
  | [] => none
  | e :: l => @ite _ (e.1 = q) (decQ e.1 q) (some e.2) (fndA q l)
theorem fndA_drop (q : Qn) (l : List (Qn × List UInt8)) (k : Nat) (e : Qn × List UInt8) (he : l[k]? = some e) : fndA q (l.drop k) = @ite _ (e.1 = q) (decQ e.1 q) (some e.2) (fndA q (l.drop (k + 1))) := by
  have hk : k < l.length := (List.getElem?_eq_some_iff.1 he).1
  have h1 : l[k] = e := (List.getElem?_eq_some_iff.1 he).2
  rw [List.drop_eq_getElem_cons hk, h1]
  rfl

theorem fndA_none {q : Qn} : ∀ {l : List (Qn × List UInt8)}, fndA q l = none → ∀ e ∈ l, e.1 ≠ q
  | [], _, e, he => by simp at he
  | x :: l, h, e, he => by
    unfold fndA at h
    by_cases hx : x.1 = q
    · rw [if_pos hx] at h; simp at h
    · rw [if_neg hx] at h
      rcases List.mem_cons.1 he with rfl | he
      · exact hx
      · exact fndA_none h e he

theorem fndA_some {q : Qn} {A : List UInt8} : ∀ {l : List (Qn × List UInt8)}, fndA q l = some A → (q, A) ∈ l
  | [], h => by simp [fndA] at h
  | x :: l, h => by
    unfold fndA at h
    by_cases hx : x.1 = q
    · rw [if_pos hx] at h
      have h2 := Option.some.inj h
      obtain ⟨x1, x2⟩ := x
      simp only at hx h2
      subst hx h2
      simp
    · rw [if_neg hx] at h
      exact List.mem_cons_of_mem _ (fndA_some h)

end Go.Proofs.YtekbppfocnbhbaaGreat.R5
