import Derived.Test.YtekbppfocnbhbaaGreatXJ
set_option linter.unusedVariables false
set_option linter.unusedSimpArgs false
set_option maxHeartbeats 16000000
set_option maxRecDepth 100000
namespace Go.Proofs.YtekbppfocnbhbaaGreat.XC
open Go.RowKit
theorem run_store_seg (w : World) (b o : Nat) (ty t : TypeId) (cells : Array Value) (cur : List Value) (hg : w.heap[b]? = some (.cells cur.toArray t (0, 0))) (hi : (Tryz.prog.info? ty).map (·.size) = some cells.size) (hfit : o + cells.size ≤ cur.length) (h1 : cells.all (·.oneCell') = true) :
    (storeVar ty ⟨b, o, none⟩ (.agg cells)).run Tryz.prog w = .ok () (w.setRow b (splice cur o cells.toList).toArray) := by
  have h1' : ∀ v ∈ cells.toList, v.oneCell' = true := fun v hv => by
    rw [Array.all_eq_true_iff_forall_mem] at h1
    exact h1 v (by simpa using hv)
  have hst := run_storeCells_at Tryz.prog b o t cells.toList 0 cur.toArray w hg (by simpa using hfit) h1'
  have e : (cur.toArray.toList.take (o + 0) ++ cells.toList ++ cur.toArray.toList.drop (o + 0 + cells.toList.length)).toArray = (splice cur o cells.toList).toArray := by simp [splice]
  rw [e] at hst
  cases hq : Tryz.prog.info? ty with
  | none => simp [hq] at hi
  | some i =>
    have hs : cells.size = i.size := by simp [hq] at hi; omega
    simp [storeVar, sizeOf, typeInfo, hq, Value.cells, hs, hst]
theorem wp_store_seg {op : Oper} {a : Act} {w : World} {K : Act → World → Prop} {Q : Exit → Act → World → Prop} (ty : TypeId) (x y : Operand) (ho : op.op = .store ty x y)
    (b o : Nat) (cells : Array Value) (cur : List Value) (t : TypeId) (hx : a.eval x = .pointer (some ⟨b, o, none⟩)) (hy : a.eval y = .agg cells)
    (hg : w.heap[b]? = some (.cells cur.toArray t (0, 0))) (hi : (Tryz.prog.info? ty).map (·.size) = some cells.size) (hfit : o + cells.size ≤ cur.length) (h1 : cells.all (·.oneCell') = true)
    (h : K (a.put op.dst undef) (w.setRow b (splice cur o cells.toList).toArray)) : op.wp Tryz.prog a w K Q := by
  unfold Oper.wp execOp
  simp only [ho, hx, hy, Instr.storeAt, Instr.sureAddr, Sem.run_bind, Sem.run_pure, Result.andThen_ok, run_store_seg w b o ty t cells cur hg hi hfit h1]
  exact h
theorem wpList_store_seg {ops : Array Oper} {rest : List Oper} {op : Oper} {a : Act} {w : World} {Q : Exit → Act → World → Prop} (hgd : op.guard = none) (ty : TypeId) (x y : Operand) (ho : op.op = .store ty x y)
    (b o : Nat) (cells : Array Value) (cur : List Value) (t : TypeId) (hx : a.eval x = .pointer (some ⟨b, o, none⟩)) (hy : a.eval y = .agg cells)
    (hg : w.heap[b]? = some (.cells cur.toArray t (0, 0))) (hi : (Tryz.prog.info? ty).map (·.size) = some cells.size) (hfit : o + cells.size ≤ cur.length) (h1 : cells.all (·.oneCell') = true)
    (W' : World) (hW' : W' = w.setRow b (splice cur o cells.toList).toArray) (h : wpList Tryz.prog ops Q rest (a.put op.dst undef) W') : wpList Tryz.prog ops Q (op :: rest) a w :=
  wpList_plain hgd fun K hK => wp_store_seg ty x y ho b o cells cur t hx hy hg hi hfit h1 (hK _ _ (hW' ▸ h))
section
variable {c : Cx} {tn last last' : Nat} {L L' R : Lg} {I J : Nat → Prop} {X Y Z W W' : World} {l l' a b : List En} {E : Nat → Prop} {rd : Int} {r r' : Rm} {lv : Value} {bb : Nat}
theorem cd_of (hA : Ahd c tn L R I X W l last bb (rmL r lv)) (hm : (rd, r, lv) ∈ l) (hF : R5.Fr (fun k => k = bb ∨ E k) W W') (hE : ∀ k, E k → up I X W k ∧ c.n ≤ k ∧ lv.ownBlock ≠ some k) (hrow : W'.heap[bb]? = some (.cells (rmL r' lv).toArray 47 (0, 0))) (hok : r'.ok) (hlog : r'.log = r.log) (hlX : ∀ k, lv.ownBlock = some k → k < X.heap.size) :
    CD c tn L R (up I X W) W W' bb E r.log lv r' lv := by
  have hbl := PC.row_lt hA.row
  have hlow := hA.jp.mm.low
  have hX := hA.low
  have hsX := hA.bel.size
  have hown := hA.jp.px.own _ hm
  have hs : ∀ k, lv.ownBlock = some k → W'.heap[k]? = W.heap[k]? := fun k e => hF.block k (HO.lt hown k e) (fun h => by
    have := hlX k e
    rcases h with h | h
    · omega
    · exact (hE k h).2.2 e)
  refine ⟨hF.size, ?_, hrow, hok, ?_, fun k e => .inl e, fun k hk hI hkb hnE _ => hF.block k hk (fun h => h.elim hkb hnE), fun k e j _ => World.cell?_of_block (a := ⟨k, j, none⟩) (hs k e), by rw [hlog]; exact Nat.le_refl _⟩
  · refine ⟨up I X W, hA.jp.mm.go (J := up I X W) ⟨hF.os, hF.tape, hF.output, hF.size, fun k hk hn => hF.block k hk (fun h => hn ?_)⟩ (fun k h => .inl h), fun k h => h, fun k e => (hA.jp.px.fI k (.inr (.inr ⟨_, hm, e⟩))).1⟩
    rcases h with rfl | h
    · exact ⟨by have := hA.nlow; omega, .inr ⟨hX, hbl⟩⟩
    · exact ⟨(hE k h).2.1, (hE k h).1⟩
  · unfold HO; rw [hlog]; exact R5.own_keep hown (fun k e _ => hs k e)
theorem Ahd.cellA (hA : Ahd c tn L R I X W l last bb (rmL r lv)) {o : Nat} {v : Value} (h : (rmL r lv)[o]? = some v) : W.cell? ⟨bb, o, none⟩ = some v := by have := PC.rangeAt_row hA.row o v h; rwa [Nat.zero_add] at this
theorem Ahd.set (hA : Ahd c tn L R I X W l last bb (rmL r lv)) (hm : (rd, r, lv) ∈ l) (hlX : ∀ k, lv.ownBlock = some k → k < X.heap.size) {o : Nat} {v : Value} (hs : (rmL r lv).set o v = rmL r' lv) (hok : r'.ok) (hlog : r'.log = r.log) :
    ClOk c tn L R (up I X W) W bb (fun _ => False) r.log lv r' (.returned (.int .i64 0)) (W.setCell ⟨bb, o, none⟩ v) := by
  refine ⟨lv, rfl, cd_of hA hm (R5.Fr.setCell (R5.Fr.refl _ _) bb o v (.inl (.inl rfl))) (fun k h => h.elim) ?_ hok hlog hlX⟩
  rw [heap_setCell_same _ _ o _ _ _ hA.row, List.setIfInBounds_toArray, hs]
theorem act_no (h : JP c tn L R I X l last) (hrd : iOk rd) (hno : NoRd l rd) :
    Calls Tryz.prog 28 #[.pointer (some ⟨c.xb, 0, none⟩), .int .i64 rd] X fun e Y => e = .returned (.int .i64 6) ∧ Below X.heap.size X Y := by
  have HC : Hid _ := chg_no h hrd hno (.func (.func 69) #[] #[])
  clear h hno
  go_enter Tryz.func28, Tryz.ntmps28
  go_wp2_with fail
  refine Calls.mono HC.out ?_
  rintro e w1 ⟨rfl, hb⟩
  have HB : Hid (Below X.heap.size X w1) := hb
  clear hb HC
  go_wp2
  go_ret
  exact ⟨rfl, HB.out⟩
theorem act_er (h : JP c tn L R I X l last) (hrd : iOk rd) (hl : l = a ++ (rd, r, lv) :: b) (er : Int) (her : er ≠ 0) (hcl : ∀ W bb, Ahd c tn L R I X W l last bb (rmL r lv) → Calls Tryz.prog 69 #[.pointer (some ⟨bb, 0, none⟩)] W fun e W' => e = .returned (.int .i64 er) ∧ Below W.heap.size W W') :
    Calls Tryz.prog 28 #[.pointer (some ⟨c.xb, 0, none⟩), .int .i64 rd] X fun e Y => e = .returned (.int .i64 er) ∧ Below X.heap.size X Y := by
  have HC : Hid _ := cActivate_err h hrd hl 0 0 0 er her hcl
  clear h hl hcl
  go_enter Tryz.func28, Tryz.ntmps28
  go_wp2_with fail
  refine Calls.mono HC.out ?_
  rintro e w1 ⟨rfl, hb⟩
  have HB : Hid (Below X.heap.size X w1) := hb
  clear hb HC
  go_wp2
  go_ret
  exact ⟨rfl, HB.out⟩
theorem act_go (h : JP c tn L R I X l last) (hrd : iOk rd) (hl : l = a ++ (rd, r, lv) :: b) (hcl : ∀ W bb, Ahd c tn L R I X W l last bb (rmL r lv) → Calls Tryz.prog 69 #[.pointer (some ⟨bb, 0, none⟩)] W fun e W' => ClOk c tn L R (up I X W) W bb (fun _ => False) r.log lv r' e W') :
    Calls Tryz.prog 28 #[.pointer (some ⟨c.xb, 0, none⟩), .int .i64 rd] X fun e Y => ChEnd c tn L R I X l a b rd r' last (fun _ => False) e Y := by
  have HC : Hid _ := cActivate_ok h hrd hl 0 0 0 (fun k hk => hk.elim) hcl
  clear h hl hcl
  go_enter Tryz.func28, Tryz.ntmps28
  go_wp2_with fail
  refine Calls.mono HC.out ?_
  rintro e w1 ⟨lv', rfl, hp⟩
  have HP : Hid (PD c tn L R I X w1 l (a ++ (rd, r', lv') :: b) last (fun _ => False)) := hp
  clear hp HC
  go_wp2
  go_ret
  exact ⟨lv', rfl, HP.out⟩
theorem drp_no (h : JP c tn L R I X l last) (hrd : iOk rd) (hno : NoRd l rd) :
    Calls Tryz.prog 27 #[.pointer (some ⟨c.xb, 0, none⟩), .int .i64 rd] X fun e Y => e = .returned (.int .i64 6) ∧ Below X.heap.size X Y := by
  have HC : Hid _ := chg_no h hrd hno (.func (.func 68) #[] #[])
  clear h hno
  go_enter Tryz.func27, Tryz.ntmps27
  go_wp2_with fail
  refine Calls.mono HC.out ?_
  rintro e w1 ⟨rfl, hb⟩
  have HB : Hid (Below X.heap.size X w1) := hb
  clear hb HC
  go_wp2
  go_ret
  exact ⟨rfl, HB.out⟩
theorem drp_er (h : JP c tn L R I X l last) (hrd : iOk rd) (hl : l = a ++ (rd, r, lv) :: b) (er : Int) (her : er ≠ 0) (hcl : ∀ W bb, Ahd c tn L R I X W l last bb (rmL r lv) → Calls Tryz.prog 68 #[.pointer (some ⟨bb, 0, none⟩)] W fun e W' => e = .returned (.int .i64 er) ∧ Below W.heap.size W W') :
    Calls Tryz.prog 27 #[.pointer (some ⟨c.xb, 0, none⟩), .int .i64 rd] X fun e Y => e = .returned (.int .i64 er) ∧ Below X.heap.size X Y := by
  have HC : Hid _ := cDropRec_err h hrd hl 0 0 0 er her hcl
  clear h hl hcl
  go_enter Tryz.func27, Tryz.ntmps27
  go_wp2_with fail
  refine Calls.mono HC.out ?_
  rintro e w1 ⟨rfl, hb⟩
  have HB : Hid (Below X.heap.size X w1) := hb
  clear hb HC
  go_wp2
  go_ret
  exact ⟨rfl, HB.out⟩
theorem drp_go (h : JP c tn L R I X l last) (hrd : iOk rd) (hl : l = a ++ (rd, r, lv) :: b) (hcl : ∀ W bb, Ahd c tn L R I X W l last bb (rmL r lv) → Calls Tryz.prog 68 #[.pointer (some ⟨bb, 0, none⟩)] W fun e W' => ClOk c tn L R (up I X W) W bb (fun _ => False) r.log lv r' e W') :
    Calls Tryz.prog 27 #[.pointer (some ⟨c.xb, 0, none⟩), .int .i64 rd] X fun e Y => ChEnd c tn L R I X l a b rd r' last (fun _ => False) e Y := by
  have HC : Hid _ := cDropRec_ok h hrd hl 0 0 0 (fun k hk => hk.elim) hcl
  clear h hl hcl
  go_enter Tryz.func27, Tryz.ntmps27
  go_wp2_with fail
  refine Calls.mono HC.out ?_
  rintro e w1 ⟨lv', rfl, hp⟩
  have HP : Hid (PD c tn L R I X w1 l (a ++ (rd, r', lv') :: b) last (fun _ => False)) := hp
  clear hp HC
  go_wp2
  go_ret
  exact ⟨lv', rfl, HP.out⟩
theorem kil_no (h : JP c tn L R I X l last) (hrd : iOk rd) (hno : NoRd l rd) :
    Calls Tryz.prog 29 #[.pointer (some ⟨c.xb, 0, none⟩), .int .i64 rd] X fun e Y => e = .returned (.int .i64 6) ∧ Below X.heap.size X Y := by
  have HC : Hid _ := chg_no h hrd hno (.func (.func 70) #[] #[])
  clear h hno
  go_enter Tryz.func29, Tryz.ntmps29
  go_wp2_with fail
  refine Calls.mono HC.out ?_
  rintro e w1 ⟨rfl, hb⟩
  have HB : Hid (Below X.heap.size X w1) := hb
  clear hb HC
  go_wp2
  go_ret
  exact ⟨rfl, HB.out⟩
theorem kil_go (h : JP c tn L R I X l last) (hrd : iOk rd) (hl : l = a ++ (rd, r, lv) :: b) (hcl : ∀ W bb, Ahd c tn L R I X W l last bb (rmL r lv) → Calls Tryz.prog 70 #[.pointer (some ⟨bb, 0, none⟩)] W fun e W' => ClOk c tn L R (up I X W) W bb (fun _ => False) r.log lv r' e W') :
    Calls Tryz.prog 29 #[.pointer (some ⟨c.xb, 0, none⟩), .int .i64 rd] X fun e Y => ChEnd c tn L R I X l a b rd r' last (fun _ => False) e Y := by
  have HC : Hid _ := cKill_ok h hrd hl 0 0 0 (fun k hk => hk.elim) hcl
  clear h hl hcl
  go_enter Tryz.func29, Tryz.ntmps29
  go_wp2_with fail
  refine Calls.mono HC.out ?_
  rintro e w1 ⟨lv', rfl, hp⟩
  have HP : Hid (PD c tn L R I X w1 l (a ++ (rd, r', lv') :: b) last (fun _ => False)) := hp
  clear hp HC
  go_wp2
  go_ret
  exact ⟨lv', rfl, HP.out⟩
theorem mem_of (hl : l = a ++ (rd, r, lv) :: b) : (rd, r, lv) ∈ l := by rw [hl]; simp
theorem JP.lvX (h : JP c tn L R I X l last) (hl : l = a ++ (rd, r, lv) :: b) : ∀ k, lv.ownBlock = some k → k < X.heap.size := fun k e => HO.lt (h.px.own _ (mem_of hl)) k e
theorem act_st (h : JP c tn L R I X l last) (hrd : iOk rd) (hl : l = a ++ (rd, r, lv) :: b) (hst : r.st ≠ 1) :
    Calls Tryz.prog 28 #[.pointer (some ⟨c.xb, 0, none⟩), .int .i64 rd] X fun e Y => e = .returned (.int .i64 7) ∧ Below X.heap.size X Y := by
  refine act_er h hrd hl 7 (by decide) (fun W bb hA => ?_)
  have hc := hA.cellA (rmL_1 r lv)
  have hne : (r.st != 1) = true := by simpa using hst
  generalize r.st = S at *
  clear hA h hl hst
  go_enter Tryz.func69, Tryz.ntmps69
  go_wp2
  go_ret
  exact ⟨rfl, Below.refl _ _⟩
theorem act_ok (h : JP c tn L R I X l last) (hrd : iOk rd) (hl : l = a ++ (rd, r, lv) :: b) (hst : r.st = 1) :
    Calls Tryz.prog 28 #[.pointer (some ⟨c.xb, 0, none⟩), .int .i64 rd] X fun e Y => ChEnd c tn L R I X l a b rd { r with st := 2 } last (fun _ => False) e Y := by
  refine act_go h hrd hl (fun W bb hA => ?_)
  have hc := hA.cellA (rmL_1 r lv)
  have hf := frozen_of_row _ _ 1 _ _ hA.row
  have hne : (r.st != 1) = false := by rw [hst]; rfl
  have hok := h.px.ok _ (mem_of hl)
  have HEND : Hid (ClOk c tn L R (up I X W) W bb (fun _ => False) r.log lv { r with st := 2 } (.returned (.int .i64 0)) (W.setCell ⟨bb, 1, none⟩ (.int .i64 2))) := hA.set (r' := { r with st := 2 }) (mem_of hl) (h.lvX hl) (rmL_set1 r lv 2) ⟨hok.m, hok.k, hok.t, hok.l⟩ rfl
  generalize r.st = S at *
  clear hA h hl hst hok
  go_enter Tryz.func69, Tryz.ntmps69
  go_wp2
  go_ret
  exact HEND.out
theorem kil_ok (h : JP c tn L R I X l last) (hrd : iOk rd) (hl : l = a ++ (rd, r, lv) :: b) :
    Calls Tryz.prog 29 #[.pointer (some ⟨c.xb, 0, none⟩), .int .i64 rd] X fun e Y => ChEnd c tn L R I X l a b rd { r with st := 3 } last (fun _ => False) e Y := by
  refine kil_go h hrd hl (fun W bb hA => ?_)
  have hc := hA.cellA (rmL_1 r lv)
  have hf := frozen_of_row _ _ 1 _ _ hA.row
  have hok := h.px.ok _ (mem_of hl)
  have HEND : Hid (ClOk c tn L R (up I X W) W bb (fun _ => False) r.log lv { r with st := 3 } (.returned (.int .i64 0)) (W.setCell ⟨bb, 1, none⟩ (.int .i64 3))) := hA.set (r' := { r with st := 3 }) (mem_of hl) (h.lvX hl) (rmL_set1 r lv 3) ⟨hok.m, hok.k, hok.t, hok.l⟩ rfl
  clear hA h hl hok
  go_enter Tryz.func70, Tryz.ntmps70
  go_wp2
  go_ret
  exact HEND.out
theorem drp_0 (h : JP c tn L R I X l last) (hrd : iOk rd) (hl : l = a ++ (rd, r, lv) :: b) (hst : r.recs = 0) :
    Calls Tryz.prog 27 #[.pointer (some ⟨c.xb, 0, none⟩), .int .i64 rd] X fun e Y => e = .returned (.int .i64 2) ∧ Below X.heap.size X Y := by
  refine drp_er h hrd hl 2 (by decide) (fun W bb hA => ?_)
  have hc := hA.cellA (rmL_102 (h.px.ok _ (mem_of hl)) lv)
  have hne : ((r.recs : Int) == 0) = true := by rw [hst]; rfl
  generalize (r.recs : Int) = S at *
  clear hA h hl hst
  go_enter Tryz.func68, Tryz.ntmps68
  go_wp2
  go_ret
  exact ⟨rfl, Below.refl _ _⟩
theorem drp_ok (h : JP c tn L R I X l last) (hrd : iOk rd) (hl : l = a ++ (rd, r, lv) :: b) (k : Nat) (hst : r.recs = k + 1) (hk : k < 1000000) :
    Calls Tryz.prog 27 #[.pointer (some ⟨c.xb, 0, none⟩), .int .i64 rd] X fun e Y => ChEnd c tn L R I X l a b rd { r with recs := k } last (fun _ => False) e Y := by
  refine drp_go h hrd hl (fun W bb hA => ?_)
  have hok := h.px.ok _ (mem_of hl)
  have hc := hA.cellA (rmL_102 hok lv)
  have hf := frozen_of_row _ _ 102 _ _ hA.row
  have HEND : Hid (ClOk c tn L R (up I X W) W bb (fun _ => False) r.log lv { r with recs := k } (.returned (.int .i64 0)) (W.setCell ⟨bb, 102, none⟩ (.int .i64 (k : Int)))) := hA.set (r' := { r with recs := k }) (mem_of hl) (h.lvX hl) (rmL_set102 hok lv k) ⟨hok.m, hok.k, hok.t, hok.l⟩ rfl
  rw [hst] at hc
  have hne : (((k + 1 : Nat) : Int) == 0) = false := by rw [beq_eq_false_iff_ne]; omega
  have hsub : IntKind.i64.wrap (((k + 1 : Nat) : Int) - 1) = (k : Int) := by rw [show ((k + 1 : Nat) : Int) - 1 = (k : Int) by omega]; exact IntWalk.i64_in _ (by omega)
  generalize ((k + 1 : Nat) : Int) = S at *
  generalize (k : Int) = T at *
  clear hA h hl hok hst hk
  go_enter Tryz.func68, Tryz.ntmps68
  go_wp2
  go_ret
  exact HEND.out
theorem JP.box (h : JP c tn L R I X l last) (o : Obj) : JP c tn L R (up I X (X.alloc o)) (X.alloc o) l last ∧ Below X.heap.size X (X.alloc o) := ⟨h.grow ((Below.refl _ _).alloc (Nat.le_refl _) _), (Below.refl _ _).alloc (Nat.le_refl _) _⟩
theorem ChEnd.ahead {e : Ending} (h : JP c tn L R I X l last) (hb : Below X.heap.size X Y) (hc : ChEnd c tn L' R (up I X Y) Y l a b rd r' last E e Z) (hE : ∀ k, E k → X.heap.size ≤ k) : ChEnd c tn L' R I X l a b rd r' last (fun _ => False) e Z := by
  obtain ⟨lv', e1, hp⟩ := hc
  exact ⟨lv', e1, hp.ahead h hb hE⟩
theorem str_no (h : JP c tn L R I X l last) (hrd : iOk rd) (hno : NoRd l rd) (t : List UInt8) :
    Calls Tryz.prog 30 #[.pointer (some ⟨c.xb, 0, none⟩), .int .i64 rd, .agg (t.map B8).toArray] X fun e Y => e = .returned (.int .i64 6) ∧ Below X.heap.size X Y := by
  obtain ⟨hJ1, hb1⟩ := h.box (.cells (t.map B8).toArray 33 (0, 0))
  have HC : Hid _ := chg_no hJ1 hrd hno (.func (.func 71) #[] #[.pointer (some ⟨X.heap.size, 0, none⟩)])
  have HB1 : Hid _ := hb1
  generalize (t.map B8).toArray = TA at *
  clear h hno hJ1 hb1
  go_enter Tryz.func30, Tryz.ntmps30
  go_wp2_with fail
  refine Calls.mono HC.out ?_
  rintro e w1 ⟨rfl, hb⟩
  have HB : Hid (Below X.heap.size X w1) := HB1.out.trans (hb.mono (by simp))
  clear hb HC HB1
  go_wp2
  go_ret
  exact ⟨rfl, HB.out⟩
theorem str_ok (h : JP c tn L R I X l last) (hrd : iOk rd) (hl : l = a ++ (rd, r, lv) :: b) (t : List UInt8) (ht : t.length = 32) :
    Calls Tryz.prog 30 #[.pointer (some ⟨c.xb, 0, none⟩), .int .i64 rd, .agg (t.map B8).toArray] X fun e Y => ChEnd c tn L R I X l a b rd { r with tree := t } last (fun _ => False) e Y := by
  have hok := h.px.ok _ (mem_of hl)
  obtain ⟨hJ1, hb1⟩ := h.box (.cells (t.map B8).toArray 33 (0, 0))
  have hbox : (X.alloc (.cells (t.map B8).toArray 33 (0, 0))).heap[X.heap.size]? = some (.cells (t.map B8).toArray 33 (0, 0)) := heap_alloc_new _ _
  have HC : Hid (Calls Tryz.prog 63 #[.pointer (some ⟨c.xb, 0, none⟩), .int .i64 rd, .func (.func 71) #[] #[.pointer (some ⟨X.heap.size, 0, none⟩)]] (X.alloc (.cells (t.map B8).toArray 33 (0, 0))) fun e Y => ChEnd c tn L R (up I X (X.alloc (.cells (t.map B8).toArray 33 (0, 0)))) (X.alloc (.cells (t.map B8).toArray 33 (0, 0))) l a b rd { r with tree := t } last (fun _ => False) e Y) := by
    refine cSetTree_ok hJ1 hrd hl X.heap.size 0 0 (fun k hk => hk.elim) (fun W bb hA => ?_)
    have HROW : Hid (W.heap[bb]? = some (.cells (rmL r lv).toArray 47 (0, 0))) := hA.row
    have hX1 : X.heap.size < (X.alloc (.cells (t.map B8).toArray 33 (0, 0))).heap.size := by simp
    have HBX : Hid (W.rangeAt X.heap.size 0 (t.map B8)) := PC.rangeAt_row ((hA.bel.block _ hX1).trans hbox)
    have HTI : Hid _ := R5.info32 (t.map B8) (by simpa using ht)
    have HTA : Hid ((Tryz.prog.info? 33).map (·.size) = some (t.map B8).toArray.size) := R5.info32a _ (by simpa using ht)
    have HT1 : Hid _ := R5.B8_onea t
    have HFIT : Hid (70 + (t.map B8).toArray.size ≤ (rmL r lv).length) := by show _ ≤ _; rw [rmL_len hok]; simp [ht]
    have hE : ClOk c tn L R (up (up I X (X.alloc (.cells (t.map B8).toArray 33 (0, 0)))) (X.alloc (.cells (t.map B8).toArray 33 (0, 0))) W) W bb (fun _ => False) r.log lv { r with tree := t } (.returned (.int .i64 0)) (W.setRow bb (splice (rmL r lv) 70 (t.map B8)).toArray) := by
      refine ⟨lv, rfl, cd_of hA (mem_of hl) (R5.Fr.setRow (R5.Fr.refl _ _) bb _ (.inl (.inl rfl))) (fun k h => h.elim) ?_ ⟨hok.m, hok.k, ht, hok.l⟩ rfl (hJ1.lvX hl)⟩
      rw [setRow_heap _ _ _ _ _ _ hA.row, rmL_splT hok lv t ht]
    obtain ⟨V, hV⟩ : ∃ V, V = W.setRow bb (splice (rmL r lv) 70 (t.map B8).toArray.toList).toArray := ⟨_, rfl⟩
    have hE2 : ClOk c tn L R (up (up I X (X.alloc (.cells (t.map B8).toArray 33 (0, 0)))) (X.alloc (.cells (t.map B8).toArray 33 (0, 0))) W) W bb (fun _ => False) r.log lv { r with tree := t } (.returned (.int .i64 0)) V := by rw [hV]; simpa using hE
    have HEND : Hid (ClOk c tn L R (up (up I X (X.alloc (.cells (t.map B8).toArray 33 (0, 0)))) (X.alloc (.cells (t.map B8).toArray 33 (0, 0))) W) W bb (fun _ => False) r.log lv { r with tree := t } (.returned (.int .i64 0)) V) := hE2
    have HV : Hid (V = W.setRow bb (splice (rmL r lv) 70 (t.map B8).toArray.toList).toArray) := hV
    generalize t.map B8 = TL at *
    generalize rmL r lv = RL at *
    clear hA hE hE2 hV hX1
    go_enter Tryz.func71, Tryz.ntmps71
    go_wp2_with (first
      | (refine wpList_load_mid rfl 33 _ rfl X.heap.size 0 rfl TL _ HBX.out Tryz.underlying33 rfl HTI.out ?_)
      | (refine wpList_store_seg rfl 33 _ _ rfl bb 70 TL.toArray RL 47 rfl rfl HROW.out HTA.out HFIT.out HT1.out V HV.out ?_))
    go_ret
    exact HEND.out
  have HJ : Hid (JP c tn L R I X l last) := h
  have HB1 : Hid _ := hb1
  generalize (t.map B8).toArray = TA at *
  clear h hl hJ1 hb1 hbox hok
  go_enter Tryz.func30, Tryz.ntmps30
  go_wp2_with fail
  refine Calls.mono HC.out ?_
  rintro e w1 hE
  have hE2 := hE.ahead HJ.out HB1.out (fun k h => h.elim)
  obtain ⟨lv', rfl, hp⟩ := hE2
  have HP : Hid (PD c tn L R I X w1 l (a ++ (rd, { r with tree := t }, lv') :: b) last (fun _ => False)) := hp
  clear hp HC HB1 hE
  go_wp2
  go_ret
  exact ⟨lv', rfl, HP.out⟩
end
end Go.Proofs.YtekbppfocnbhbaaGreat.XC
