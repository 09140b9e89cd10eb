import Derived.Test.YtekbppfocnbhbaaGreatQC
import Derived.Great.BuildSlice
set_option linter.unusedVariables false
set_option linter.unusedSimpArgs false
set_option maxHeartbeats 16000000
set_option maxRecDepth 100000
namespace Go.Proofs.YtekbppfocnbhbaaGreat.R5
open scoped Classical
open Go.RowKit
theorem numB_any (n : Nat) (w : World) (hn : n < 9223372036854775808) : Calls Tryz.prog 109 #[.int .i64 (n : Int)] w fun e w' => ∃ v, e = .returned v ∧ FB w.heap.size w' v (W1.le 8 n) ∧ Below w.heap.size w w' := by
  have hput := fun W => put_ok n 8 W (by omega) (by omega) (by omega) (by omega)
  have hwr : IntKind.u64.wrap (n : Int) = (n : Int) := by rw [IntKind.wrap_u64]; omega
  go_enter Tryz.func109, Tryz.ntmps109
  go_wp2_with (go_at_call 81; refine (hput _).mono ?_; rintro e w1 ⟨rfl, hfb, hbel⟩)
  go_ret
  exact ⟨_, rfl, hfb, hbel⟩
theorem pdraw_any (og n : Nat) (p : Option Addr) (cap : Nat) (dv : Value) (ds : List (List UInt8)) (w : World) (hn : n < 9223372036854775808) (hc : w.cell? ⟨og, 33, none⟩ = some dv) (hco : w.cell? ⟨og, 34, none⟩ = some (.slice p n cap)) (hd : HDs w dv ds) :
    Calls Tryz.prog 95 #[.pointer (some ⟨og, 0, none⟩)] w fun e w' => e = .returned (.agg ((drawD ds n).map B8).toArray) ∧ Below w.heap.size w w' := by
  have hRl := drawD_len ds n hd.1
  have hog := block_lt hc
  simp only at hog
  obtain ⟨h0, p', cap', rfl, h2⟩ := hd
  have hzv := fun W => zero_dig W
  obtain ⟨ZA, hZA⟩ : ∃ A, A = ((List.replicate 32 (0 : UInt8)).map B8).toArray := ⟨_, rfl⟩
  rw [← hZA] at hzv
  have HZS : Hid (ZA.size = 32) := by show _ = _; rw [hZA]; simp
  obtain ⟨RL, hRL⟩ : ∃ A, A = (drawD ds n).map B8 := ⟨_, rfl⟩
  rw [← hRL]
  have HRS : Hid (RL.toArray.size = 32) := by show _ = _; rw [hRL]; simp [hRl]
  have HRI : Hid _ := info32a RL.toArray HRS.out
  have HR1 : Hid (RL.toArray.all (·.oneCell') = true) := by show _ = _; rw [hRL]; exact B8_onea _
  have HQ : Hid ((w.alloc (.cells ZA 33 (0, 0))).heap[w.heap.size]? = some (.cells ZA 33 (0, 0))) := heap_at _ _ _ rfl
  have hb0 : Below w.heap.size w (w.alloc (.cells ZA 33 (0, 0))) := (Below.refl _ _).alloc (Nat.le_refl _) _
  have hc0 : (w.alloc (.cells ZA 33 (0, 0))).cell? ⟨og, 33, none⟩ = some (.slice p' ds.length cap') := (hb0.cell hog).trans hc
  have hc1 : (w.alloc (.cells ZA 33 (0, 0))).cell? ⟨og, 34, none⟩ = some (.slice p n cap) := (hb0.cell hog).trans hco
  have HB0 : Hid _ := hb0
  by_cases hlt : n < ds.length
  · have hnI : (n : Int) < (ds.length : Int) := by omega
    obtain ⟨b, o, rfl, hr⟩ := h2 n hlt
    have hre : RL = (ds.getD n []).map B8 := by rw [hRL]; unfold drawD; rw [if_pos hlt]
    have HRG : Hid ((w.alloc (.cells ZA 33 (0, 0))).rangeAt b (o + n * 32) RL) := by
      rw [hre]; exact rangeAt_below hr hb0
    have HIL : Hid ((Tryz.prog.info? 33).map (·.size) = some RL.length) := by have := HRI.out; rwa [List.size_toArray] at this
    clear hRL hre hr h2 hc hco hb0 hZA hRl
    go_enter Tryz.func95, Tryz.ntmps95
    go_wp2_with (first
      | (refine wpList_load_mid rfl 33 _ rfl b (o + n * 32) rfl RL _ HRG.out Tryz.underlying33 rfl HIL.out ?_)
      | (refine wpList_store_row rfl 33 _ _ rfl w.heap.size RL.toArray rfl rfl 33 ZA HQ.out HRI.out (HZS.out.trans HRS.out.symm) HR1.out ?_))
    refine bodyPost_ret (v := .agg RL.toArray) ?_ rfl ⟨rfl, below_setRow HB0.out (Nat.le_refl _) _⟩
    exact results_cell_row Tryz.results95 _ _ w.heap.size 33 _ (0, 0) _ rfl (setRow_heap _ _ _ _ _ _ HQ.out) Tryz.underlying33 rfl HRI.out
  · have hnI : ¬ (n : Int) < (ds.length : Int) := by omega
    have hLl := W1.le_length 8 n
    have HRE : Hid (((W1.le 8 n ++ List.replicate 24 0).map B8).toArray.setIfInBounds 31 (.int .u8 1) = RL.toArray) := by
      show _ = _
      rw [set_31 _ hLl, hRL]; unfold drawD; rw [if_neg hlt]
    have HSP : Hid (splice ((List.replicate 32 (0 : UInt8)).map B8) 0 ((W1.le 8 n).map B8) = (W1.le 8 n ++ List.replicate 24 0).map B8) := splice_le _ hLl
    have hle := fun W => numB_any n W (by omega)
    have HZA : Hid _ := hZA
    generalize W1.le 8 n = L at *
    have HLl : Hid _ := hLl
    have HQ2 : Hid (((w.alloc (.cells ZA 33 (0, 0))).alloc (.cells ZA 33 (0, 0))).heap[w.heap.size]? = some (.cells ZA 33 (0, 0))) := alloc2_first _ _ _
    have HQ3 : Hid (((w.alloc (.cells ZA 33 (0, 0))).alloc (.cells ZA 33 (0, 0))).heap[w.heap.size + 1]? = some (.cells ZA 33 (0, 0))) := heap_at _ _ _ (by simp)
    have HBA : Hid (Below w.heap.size w ((w.alloc (.cells ZA 33 (0, 0))).alloc (.cells ZA 33 (0, 0))).drew) := (HB0.out.alloc (by simp) _).drew
    have hsl := fun W => sliceDig W (w.heap.size + 1) 0
    clear hRL h2 hc hco hb0 hZA hRl hLl
    go_enter Tryz.func95, Tryz.ntmps95
    go_wp2
    refine wp_region_held_drew (S := fun w' => Below w.heap.size w w') (by kernel_rfl) HBA.out (fun hHeld => ?_)
    refine qzI 0 ⟨some 24, .slice 33 (.tmp 4) none none none, 106, _, #[], none⟩ (.slice (some ⟨w.heap.size + 1, 0, none⟩) 32 32) rfl (by kernel_rfl) (fun _ _ _ h => h) (by rfl) (fun w' hw' => ?_) hHeld ?_
    · go_simp <;> rfl
    try simp only [Act.put, qT, q0, qS]
    refine qzI 1 ⟨some 25, .move (.tmp 3), 3, _, #[], none⟩ (.int .i64 (n : Int)) rfl (by kernel_rfl) (fun _ _ _ h => h) (by rfl) (fun w' hw' => ?_) hHeld ?_
    · go_simp <;> rfl
    try simp only [Act.put, qT, q0, qS]
    refine qzR 2 ⟨some 26, .call ⟨.value (.func 109), #[.tmp 25], #[3]⟩, 106, _, #[⟨1, .data⟩], none⟩ (by kernel_rfl) rfl (by rfl) (fun K hK => ?_)
    go_wp2_with fail
    refine (hle _).mono ?_
    rintro e w3 ⟨v3, rfl, hf3, hb3⟩
    have hb3' : Below (w.heap.size + 2) ((w.alloc (.cells ZA 33 (0, 0))).alloc (.cells ZA 33 (0, 0))).drew w3 := hb3.mono (by rw [heap_drew]; simp)
    have HR3 : Hid (w3.heap[w.heap.size]? = some (.cells ZA 33 (0, 0))) := (hb3'.block _ (by omega)).trans HQ2.out
    have HR4 : Hid (w3.heap[w.heap.size + 1]? = some (.cells ((List.replicate 32 (0 : UInt8)).map B8).toArray 33 (0, 0))) := by
      show _ = _
      rw [← HZA.out]; exact (hb3'.block _ (by omega)).trans HQ3.out
    have hh3 := hf3.hb
    obtain ⟨p3, c3, rfl, hpn, hpc⟩ := hb_cells hh3
    have hHeld3 : Below w.heap.size w w3 := hHeld.trans (hb3.mono (by rw [heap_drew]; simp; omega))
    rw [HLl.out]
    refine hK.out _ _ hHeld3 (fun _ => ?_)
    clear hK K
    try simp only [Act.put, qT, q0, qS]
    refine qzR 3 ⟨some 27, .call ⟨.builtin Go.Builtin.copy, #[.tmp 24, .tmp 26], #[106, 106]⟩, 3, _, #[⟨0, .data⟩, ⟨2, .data⟩, ⟨2, .chain⟩], none⟩ (by kernel_rfl) rfl (by rfl) (fun K hK => ?_)
    refine wp_copy_seg (.tmp 24) (.tmp 26) rfl (w.heap.size + 1) 0 32 32 p3 8 c3 rfl rfl ((List.replicate 32 (0 : UInt8)).map B8) 33 HR4.out (L.map B8) ?_ ?_ ?_ (B8_one L) ?_
    · rw [List.length_map, HLl.out]; rfl
    · intro _
      cases p3 with
      | none => have := (hpn rfl).1; have h8 := HLl.out; rw [this] at h8; simp at h8
      | some a => exact ⟨a, rfl, hpc a rfl⟩
    · rw [List.length_map, HLl.out, List.length_map, List.length_replicate]; decide
    rw [HSP.out]
    have hHeld4 := below_setRow hHeld3 (show w.heap.size ≤ w.heap.size + 1 by omega) ((L ++ List.replicate 24 0).map B8).toArray
    refine hK.out _ _ hHeld4 (fun _ => ?_)
    clear hK K
    try simp only [Act.put, qT, q0, qS]
    refine wpAnyH_done (by kernel_rfl) ?_ _
    have hr5 := setRow_heap _ _ _ ((L ++ List.replicate 24 0).map B8).toArray _ _ HR4.out
    have HR5 : Hid _ := hr5
    have HR6 : Hid ((w3.setRow (w.heap.size + 1) ((L ++ List.replicate 24 0).map B8).toArray).heap[w.heap.size]? = some (.cells ZA 33 (0, 0))) := by show _ = _; rw [setRow_other _ _ _ _ (by omega)]; exact HR3.out
    have HB6 : Hid _ := hHeld4
    have f31 := frozen_of_row _ _ 31 _ _ hr5
    obtain ⟨u, hu⟩ : ∃ u, ((L ++ List.replicate 24 0).map B8).toArray[31]? = some (.int .u8 u) := by
      have hl : 31 < (L ++ List.replicate 24 (0 : UInt8)).length := by simp [HLl.out]
      exact ⟨_, by simp only [List.getElem?_toArray, List.getElem?_map, List.getElem?_eq_getElem hl]; rfl⟩
    have c31 := cell_of_row _ _ 31 _ _ _ hr5
    rw [hu] at c31
    clear hHeld hHeld3 hHeld4 HR3 HR4 hb3 hb3' hf3 hh3 hpn hpc hr5 hu hle
    generalize w3.setRow (w.heap.size + 1) ((L ++ List.replicate 24 0).map B8).toArray = w4 at *
    have HR7 : Hid ((w4.setCell ⟨w.heap.size + 1, 31, none⟩ (.int .u8 1)).heap[w.heap.size + 1]? = some (.cells RL.toArray 33 (0, 0))) := by show _ = _; rw [← HRE.out]; exact heap_setCell_same _ (w.heap.size + 1) 31 _ 33 _ HR5.out
    have HR8 : Hid ((w4.setCell ⟨w.heap.size + 1, 31, none⟩ (.int .u8 1)).heap[w.heap.size]? = some (.cells ZA 33 (0, 0))) := by show _ = _; rw [heap_setCell_other _ _ _ _ (by show w.heap.size ≠ w.heap.size + 1; omega)]; exact HR6.out
    have HB8 : Hid (Below w.heap.size w (w4.setCell ⟨w.heap.size + 1, 31, none⟩ (.int .u8 1))) := HB6.out.setCell (p := ⟨w.heap.size + 1, 31, none⟩) (by show w.heap.size ≤ w.heap.size + 1; omega) _
    go_wp2_with (first
      | (refine wpList_load_row rfl 33 _ rfl (w.heap.size + 1) rfl 33 RL.toArray (0, 0) _ HR7.out Tryz.underlying33 rfl HRI.out ?_)
      | (refine wpList_store_row rfl 33 _ _ rfl w.heap.size RL.toArray rfl rfl 33 ZA HR8.out HRI.out (HZS.out.trans HRS.out.symm) HR1.out ?_))
    refine bodyPost_ret (v := .agg RL.toArray) ?_ rfl ⟨rfl, below_setRow HB8.out (Nat.le_refl _) _⟩
    exact results_cell_row Tryz.results95 _ _ w.heap.size 33 _ (0, 0) _ rfl (setRow_heap _ _ _ _ _ _ HR8.out) Tryz.underlying33 rfl HRI.out
open Go.ChangeMaps (setBlock heap_setBlock_same heap_setBlock_other)
def zKq : Array Value := (kL ⟨0, List.replicate 32 0, 0, []⟩).toArray
theorem infoKq : (Tryz.prog.info? 120).map (fun i => (i.zero, i.size, i.bytes)) = some (some (.agg zKq), 35, 64) := by kernel_rfl
theorem zero_kq (w : World) : (zeroValue 120).run Tryz.prog w = .ok (.agg zKq) w := by kernel_rfl
theorem info35k (RS : List Value) (h : RS.length = 35) : (Tryz.prog.info? 120).map (·.size) = some RS.length := by rw [h]; kernel_rfl
theorem info35ka (RS : Array Value) (h : RS.size = 35) : (Tryz.prog.info? 120).map (·.size) = some RS.size := by rw [h]; kernel_rfl
theorem kL_one (q : Qn) : ∀ u ∈ kL q, u.oneCell' = true := qL_one q _ rfl
theorem kL_onea (q : Qn) : (kL q).toArray.all (·.oneCell') = true := by
  rw [Array.all_eq_true_iff_forall_mem]
  intro v hv
  exact kL_one q v (by simpa using hv)
theorem build_kq (w : World) (a b : Int) (c : ByteArray) (DL : List Value) (h2 : DL.length = 32) : (Instr.build 120 #[(0, .int .i64 a), (1, .agg DL.toArray), (2, .int .i64 b), (3, .string c)]).run Tryz.prog w = .ok (.agg (.int .i64 a :: (DL ++ [.int .i64 b, .string c])).toArray) w := by
  iterate 32 (obtain ⟨_, _, e, g⟩ := cons_of h2; clear h2; subst e; have h2 := g; clear g)
  obtain rfl := List.eq_nil_of_length_eq_zero h2
  show _ = _
  kernel_rfl
theorem fill_kq (AL : List Value) (h : AL.length = 35) : Instr.fill (fun i => some (i * 35, 35)) ((Array.range (1 * 35)).map ((Value.agg zKq).cells[· % (Value.agg zKq).cells.size]!)) [(0, .agg AL.toArray)] = some AL.toArray := by
  iterate 35 (obtain ⟨_, _, e, g⟩ := cons_of h; clear h; subst e; have h := g; clear g)
  obtain rfl := List.eq_nil_of_length_eq_zero h
  show _ = _
  kernel_rfl
theorem wpList_build {ops : Array Oper} {rest : List Oper} {o : Oper} {a : Act} {Q : Exit → Act → World → Prop} {w : World} (hgd : o.guard = none) (t : TypeId) (parts : Array (Nat × Operand)) (ho : o.op = .build t parts) (vals : Array (Nat × Value)) (v : Value) (hp : (parts.map fun (i, x) => (i, a.eval x)) = vals)
    (hr : (Instr.build t vals).run Tryz.prog w = .ok v w) (h : wpList Tryz.prog ops Q rest (a.put o.dst v) w) : wpList Tryz.prog ops Q (o :: rest) a w := by
  refine wpList_plain hgd fun K' hK' => ?_
  unfold Oper.wp
  rw [exec_build a.eval o t parts vals v w ho hp hr]
  exact hK' _ _ h
theorem wp_mapUpd {op : Oper} {a : Act} {w w' : World} {K : Act → World → Prop} {Q : Exit → Act → World → Prop} (m x v : Operand) (t : TypeId) (ho : op.op = Op.mapUpdate t m x v) (mv kv vv : Value) (hm : a.eval m = mv) (hx : a.eval x = kv) (hv : a.eval v = vv)
    (hr : (Instr.mapUpdate t mv kv vv).run Tryz.prog w = .ok () w') (h : K (a.put op.dst undef) w') : op.wp Tryz.prog a w K Q := by
  unfold Oper.wp
  simp [execOp, ho, hm, hx, hv, hr, Result.andThen]
  exact h
structure S2 (w : World) (QL KL : List Value) (ZA : Array Value) (X : World) : Prop where
  bel : Below w.heap.size w X
  q : X.heap[w.heap.size]? = some (.cells QL.toArray 138 (0, 0))
  z : X.heap[w.heap.size + 1]? = some (.cells ZA 33 (0, 0))
  k : X.heap[w.heap.size + 1 + 1]? = some (.cells KL.toArray 120 (0, 0))
theorem S2.step {w : World} {QL KL : List Value} {ZA : Array Value} {X Y : World} (h : S2 w QL KL ZA X) (hb : Below (w.heap.size + 3) X Y) : S2 w QL KL ZA Y :=
  ⟨h.bel.trans (hb.mono (by omega)), (hb.block _ (by omega)).trans h.q, (hb.block _ (by omega)).trans h.z, (hb.block _ (by omega)).trans h.k⟩
theorem S2.alloc {w : World} {QL KL : List Value} {ZA : Array Value} {X : World} (h : S2 w QL KL ZA X) (ob : Obj) : S2 w QL KL ZA (X.alloc ob) := h.step ((Below.refl _ _).alloc (by have := row_lt h.k; omega) _)
theorem S2.drew {w : World} {QL KL : List Value} {ZA : Array Value} {X : World} (h : S2 w QL KL ZA X) : S2 w QL KL ZA X.drew := h.step (Below.refl _ _).drew
structure S6 (S : Nat → Prop) (w : World) (b5 : Nat) (KL DL : List Value) (ZA : Array Value) (X : World) : Prop where
  fr : Fr S w X
  z : X.heap[w.heap.size + 1]? = some (.cells ZA 33 (0, 0))
  k : X.heap[w.heap.size + 1 + 1]? = some (.cells KL.toArray 120 (0, 0))
  d : X.heap[b5]? = some (.cells DL.toArray 33 (0, 0))
theorem S6.step {S : Nat → Prop} {w : World} {b5 : Nat} {KL DL : List Value} {ZA : Array Value} {X Y : World} (h : S6 S w b5 KL DL ZA X) (hF : Fr S X Y) (hlow : ∀ k, S k → k < w.heap.size) (h5 : w.heap.size ≤ b5) : S6 S w b5 KL DL ZA Y := by
  have hk : ∀ k, w.heap.size ≤ k → k < X.heap.size → Y.heap[k]? = X.heap[k]? := fun k h1 h2 => hF.block k h2 (fun hs => by have := hlow k hs; omega)
  exact ⟨h.fr.trans hF (fun k hk => .inl hk), (hk _ (by omega) (row_lt h.z)).trans h.z, (hk _ (by omega) (row_lt h.k)).trans h.k, (hk _ h5 (row_lt h.d)).trans h.d⟩
theorem Fr.drew {S : Nat → Prop} {a b : World} (h : Fr S a b) : Fr S a b.drew := ⟨h.os, h.tape, h.output, h.size, h.block⟩
theorem S6.drew {S : Nat → Prop} {w : World} {b5 : Nat} {KL DL : List Value} {ZA : Array Value} {X : World} (h : S6 S w b5 KL DL ZA X) : S6 S w b5 KL DL ZA X.drew := ⟨h.fr.drew, h.z, h.k, h.d⟩
structure S7 (S : Nat → Prop) (w : World) (b5 og : Nat) (KL DL PL : List Value) (ZA : Array Value) (X : World) : Prop where
  s : S6 S w b5 KL DL ZA X
  o : X.heap[og]? = some (.cells PL.toArray 116 (0, 0))
theorem po_more {B og mb : Nat} {S : Nat → Prop} {w Z : World} {o : Pra} {dv ov : Value} {q : Qn} {A : List UInt8} {g cap2 : Nat} (ho : PO B og mb S w o dv ov) (hq : kOk q) (hA : A.length = 32) (hf : fndA q o.log = none) (hB : B ≤ w.heap.size) (hfr : Fr S w Z)
    (hrow : Z.heap[og]? = some (.cells (pL o.ideal o.master dv (.slice (some ⟨g, 0, none⟩) (o.log.length + 1) cap2) mb).toArray 116 (0, 0)))
    (hown : Z.ownsRow B 120 35 (.slice (some ⟨g, 0, none⟩) (o.log.length + 1) cap2) (o.log.length + 1) (kC o.log ++ kL q)) (hgl : ov.ownBlock = some g ∨ w.heap.size ≤ g) (hgZ : g < Z.heap.size) (hmap : MH Z mb (o.log ++ [(q, A)])) :
    PO B og mb (fun k => S k ∨ (w.heap.size ≤ k ∧ k < Z.heap.size)) Z { o with log := o.log ++ [(q, A)] } dv (.slice (some ⟨g, 0, none⟩) (o.log.length + 1) cap2) := by
  have hogl := row_lt ho.row
  refine ⟨ho.ml, hrow, hds_keep ho.draws (fun k e hl => hfr.block k hl (ho.dro k e).1), fun k e => ⟨fun hs => hs.elim (ho.dro k e).1 (fun h => by have := (ho.dro k e).2; omega), Nat.lt_of_lt_of_le (ho.dro k e).2 hfr.size⟩, ho.ok.snoc hq hA hf, ?_, hmap, .inl ho.sog, .inl ho.smb, fun k e => ?_, fun k hk => hk.elim (ho.low k) (fun h => by omega), fun k hk => hk.elim (fun h => Nat.lt_of_lt_of_le (ho.top k h) hfr.size) (fun h => h.2)⟩
  · show Z.ownsRow B 120 35 _ (o.log ++ [(q, A)]).length (kC (o.log ++ [(q, A)]))
    rw [List.length_append, List.length_singleton]
    have : kC (o.log ++ [(q, A)]) = kC o.log ++ kL q := by unfold kC; simp
    rw [this]
    exact hown
  · have e' : g = k := by simpa [Value.ownBlock] using e
    subst e'
    rcases hgl with hg | hg
    · exact ⟨.inl (ho.sov _ hg).1, (ho.sov _ hg).2⟩
    · exact ⟨.inr ⟨hg, hgZ⟩, by omega⟩
end Go.Proofs.YtekbppfocnbhbaaGreat.R5
