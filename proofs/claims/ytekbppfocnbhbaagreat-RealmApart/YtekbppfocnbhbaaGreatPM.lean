import Derived.Test.YtekbppfocnbhbaaGreatPE
import Derived.ChangeOld
import Derived.ProofKit
import Derived.OpenShut
import Derived.Deep.Slices
import Derived.Laws.StructEq
import Derived.Lib.AppendZerosOnto
import Derived.Laws.IdiomStrings
set_option linter.unusedVariables false
set_option linter.unusedSimpArgs false
namespace Go.Proofs.YtekbppfocnbhbaaGreat.PC
open Go.RowKit
theorem size_u64 (w : World) : (sizeOf 34).run Tryz.prog w = .ok 1 w := by kernel_rfl
theorem size_dg (w : World) : (sizeOf 33).run Tryz.prog w = .ok 32 w := by kernel_rfl
theorem size_r8 (w : World) : (sizeOf 39).run Tryz.prog w = .ok 8 w := by kernel_rfl
theorem eq_ints_self {P : Program} (w : World) (d : Nat) (t e : TypeId) (m : Nat) (q : IntKind) (ht : P.underlying t = some (.array m e)) (he : P.underlying e = some (.int q)) (hsz : ∀ w, (sizeOf e).run P w = .ok 1 w) (F : List Value) (hF : F.length = m)
    (hp : ∀ v ∈ F, ∃ z, v = .int q z) : (Op.equalIn (d + 3) t (.agg F.toArray) (.agg F.toArray)).run P w = .ok true w := by
  rw [Op.equalIn]
  simp only [Sem.run_bind, run_underlying ht, Result.andThen_ok, hsz, Std.Legacy.Range.forIn_eq_forIn_range', Std.Legacy.Range.size, Nat.sub_zero, Nat.add_sub_cancel, Nat.div_one]
  have hl : ∀ i ∈ List.range' 0 m 1, i < m := fun i hi => by simpa using (List.mem_range'_1.1 hi).2
  generalize List.range' 0 m 1 = l at hl ⊢
  induction l with
  | nil => simp
  | cons i l ih =>
    have hi : i < m := hl i (by simp)
    have hi' : i < F.length := by omega
    obtain ⟨z, hz⟩ := hp F[i] (List.getElem_mem hi')
    have px : (Go.part e F.toArray (i * 1)).run P w = .ok (.int q z) w := by
      simp [Go.part, isAgg, run_underlying he, List.getElem?_eq_getElem hi', hz]
    have pe : (Op.equalIn (d + 2) e (.int q z) (.int q z)).run P w = .ok true w := by
      rw [run_equalIn_int w (d + 1) e q q z z he]; simp
    simp only [List.forIn_cons, Sem.run_bind, px, pe, Result.andThen_ok]
    simp only [Bool.not_true, Bool.false_eq_true, if_false, Sem.run_pure, Result.andThen_ok, Bool.true_and]
    exact ih fun j hj => hl j (by simp [hj])
theorem rcL_rs (pc : Nat) (rs : List Nat) (r : Bool) (h : rs.length = 8) : List.take 8 (rcL pc rs r).tail = rs.map U8 := by
  unfold rcL; rw [List.tail_cons, List.take_append_of_le_length (by simp [h]), List.take_of_length_le (by simp [h])]
section
open Go.ChangeShapes Go.WideShapes Go.ChangeAt
variable {H : Type} {enc : TypeId × Value → H} {w : World} {base : Nat} {held : Bool}
theorem mapM_ints {P : Program} {e : TypeId} {q : IntKind} {sp : Nat → Bool} (he : P.underlying e = some (.int q)) {m : Nat} {cs : List Value} : ∀ (L : List Nat) (ys : List (DataW H × List MemPlace)),
    L.mapM (fun i => DataW.trod enc P w base sp held m e ((cs.drop (i * 1)).take 1)) = some ys → ∀ i ∈ L, ∃ z, (cs.drop (i * 1)).take 1 = [.int q z] ∧ (Lit.int q z).wf = true
  | [], ys, h => by simp
  | i :: L, ys, h => by
    rw [List.mapM_cons] at h
    simp only [bind, Option.bind_eq_some_iff, pure, Option.some.injEq] at h
    obtain ⟨y, hy, ys', hys, rfl⟩ := h
    obtain ⟨a, ea, _, wa⟩ := DataW.trod_int he hy
    intro j hj
    rcases List.mem_cons.1 hj with rfl | hj
    · exact ⟨a, ea, wa⟩
    · exact mapM_ints he L ys' hys j hj
theorem open_arr {k e : TypeId} {q : IntKind} {n : Nat} {cs : List Value} {fuel : Nat} {x : DataW H × List MemPlace} {sp : Nat → Bool} (hu : Tryz.prog.underlying k = some (.array n e)) (he : Tryz.prog.underlying e = some (.int q)) (hk : Tryz.prog.cellsOf k = n) (h1 : Tryz.prog.cellsOf e = 1)
    (h : DataW.trod enc Tryz.prog w base sp held fuel k cs = some x) : cs.length = n ∧ ∀ v ∈ cs, ∃ z, v = .int q z ∧ (Lit.int q z).wf = true := by
  cases fuel with
  | zero => simp [DataW.trod] at h
  | succ m =>
    rw [DataW.trod_step] at h
    unfold DataW.trodStep at h
    simp only [hu] at h
    by_cases hl : cs.length = Tryz.prog.cellsOf k
    · rw [if_pos hl] at h
      simp only [Option.map_eq_some_iff, h1] at h
      obtain ⟨ys, hy, e1⟩ := h
      have := mapM_ints he _ ys hy
      refine ⟨by rw [hl, hk], fun v hv => ?_⟩
      obtain ⟨i, hi, rfl⟩ := List.getElem_of_mem hv
      obtain ⟨z, e, hw⟩ := this i (by rw [hl, hk] at hi; simpa using hi)
      rw [Nat.mul_one, List.drop_eq_getElem_cons hi, List.take_succ_cons, List.take_zero] at e
      exact ⟨z, (List.cons.inj e).1, hw⟩
    · rw [if_neg hl] at h; cases h
theorem cells_u8 (cs : List Value) (h : ∀ v ∈ cs, ∃ z, v = .int .u8 z ∧ (Lit.int .u8 z).wf = true) : ∃ bs : List UInt8, cs = bs.map B8 := by
  induction cs with
  | nil => exact ⟨[], rfl⟩
  | cons v l ih =>
    obtain ⟨bs, hb⟩ := ih (fun u hu => h u (List.mem_cons_of_mem _ hu))
    obtain ⟨z, rfl, hw⟩ := h v (by simp)
    have hb8 := bounds_u8 hw
    refine ⟨UInt8.ofNat z.toNat :: bs, ?_⟩
    rw [List.map_cons, ← hb]
    congr 1
    unfold B8
    congr 1
    simp; omega
theorem cells_u64 (cs : List Value) (h : ∀ v ∈ cs, ∃ z, v = .int .u64 z ∧ (Lit.int .u64 z).wf = true) : ∃ bs : List Nat, cs = bs.map U8 ∧ ∀ x ∈ bs, x < 18446744073709551616 := by
  induction cs with
  | nil => exact ⟨[], rfl, fun x hx => by simp at hx⟩
  | cons v l ih =>
    obtain ⟨bs, hb, hx⟩ := ih (fun u hu => h u (List.mem_cons_of_mem _ hu))
    obtain ⟨z, rfl, hw⟩ := h v (by simp)
    have hb8 := bounds_u64 hw
    refine ⟨z.toNat :: bs, ?_, fun x hy => ?_⟩
    · rw [List.map_cons, ← hb]
      congr 1
      unfold U8
      congr 1
      omega
    · rcases List.mem_cons.1 hy with rfl | hy
      · omega
      · exact hx x hy
theorem split_at {l : List Value} (k n : Nat) (h : l.length = k + n) : l = (l.drop 0).take k ++ (l.drop k).take n := by
  rw [List.drop_zero, List.take_of_length_le (l := l.drop k) (by simp [h]), List.take_append_drop]
theorem open_rp {cs : List Value} {fuel : Nat} {x : DataW H × List MemPlace} (h : DataW.trod enc Tryz.prog w base (fun _ => true) held fuel 36 cs = some x) : ∃ V n, cs = rpL V n ∧ V.length = 32 ∧ n < 18446744073709551616 := by
  cases fuel with
  | zero => simp [DataW.trod] at h
  | succ m =>
    rw [DataW.trod_step] at h
    unfold DataW.trodStep at h
    simp only [Tryz.underlying36] at h
    have hcell : Tryz.prog.cellsOf 36 = 33 := by kernel_rfl
    have c0 : Tryz.prog.cellsOf 33 = 32 := by kernel_rfl
    have c1 : Tryz.prog.cellsOf 34 = 1 := by kernel_rfl
    by_cases hl : cs.length = Tryz.prog.cellsOf 36
    · rw [if_pos hl] at h
      simp only [Option.map_eq_some_iff, List.mapM_cons, List.mapM_nil, bind, Option.bind_eq_some_iff, pure, Option.some.injEq, c0, c1] at h
      obtain ⟨ys, ⟨y0, h0, z0, ⟨y1, h1, _⟩, _⟩, _⟩ := h
      obtain ⟨l0, p0⟩ := open_arr Tryz.underlying33 Tryz.underlying5 c0 (by kernel_rfl) h0
      obtain ⟨bs, hb⟩ := cells_u8 _ p0
      obtain ⟨k, e1, _, w1⟩ := DataW.trod_int Tryz.underlying34 h1
      have hk := bounds_u64 w1
      rw [hcell] at hl
      have hs := split_at 32 1 hl
      rw [hb] at hs l0
      rw [e1] at hs
      refine ⟨bs, k.toNat, ?_, by simpa using l0, by omega⟩
      rw [hs]
      unfold rpL
      rw [show ((k.toNat : Nat) : Int) = k by omega]
    · rw [if_neg hl] at h; cases h
theorem open_rc {cs : List Value} {fuel : Nat} {x : DataW H × List MemPlace} (h : DataW.trod enc Tryz.prog w base (fun _ => true) held fuel 41 cs = some x) : ∃ pc rs r, cs = rcL pc rs r ∧ rs.length = 8 ∧ pc < 18446744073709551616 ∧ ∀ x ∈ rs, x < 18446744073709551616 := by
  cases fuel with
  | zero => simp [DataW.trod] at h
  | succ m =>
    rw [DataW.trod_step] at h
    unfold DataW.trodStep at h
    simp only [Tryz.underlying41] at h
    have hcell : Tryz.prog.cellsOf 41 = 10 := by kernel_rfl
    have c0 : Tryz.prog.cellsOf 34 = 1 := by kernel_rfl
    have c1 : Tryz.prog.cellsOf 39 = 8 := by kernel_rfl
    have c2 : Tryz.prog.cellsOf 4 = 1 := by kernel_rfl
    by_cases hl : cs.length = Tryz.prog.cellsOf 41
    · rw [if_pos hl] at h
      simp only [Option.map_eq_some_iff, List.mapM_cons, List.mapM_nil, bind, Option.bind_eq_some_iff, pure, Option.some.injEq, c0, c1, c2] at h
      obtain ⟨ys, ⟨y0, h0, z0, ⟨y1, h1, z1, ⟨y2, h2, _⟩, _⟩, _⟩, _⟩ := h
      obtain ⟨k, e0, _, w0⟩ := DataW.trod_int Tryz.underlying34 h0
      obtain ⟨l1, p1⟩ := open_arr Tryz.underlying39 Tryz.underlying34 c1 (by kernel_rfl) h1
      obtain ⟨bs, hb, hx⟩ := cells_u64 _ p1
      obtain ⟨r, e2, _⟩ := DataW.trod_bool Tryz.underlying4 h2
      have hk := bounds_u64 w0
      rw [hcell] at hl
      have hs := split_at 1 9 hl
      have hs2 := split_at (l := cs.drop 1) 8 1 (by simp [hl])
      rw [List.drop_zero, List.drop_drop] at hs2
      rw [List.take_of_length_le (l := cs.drop 1) (by simp [hl]), hs2] at hs
      rw [hb] at hs l1
      rw [e0, e2] at hs
      refine ⟨k.toNat, bs, r, ?_, by simpa using l1, by omega, hx⟩
      rw [hs]
      unfold rcL U8
      rw [show ((k.toNat : Nat) : Int) = k by omega]
      rfl
    · rw [if_neg hl] at h; cases h
end
theorem below_setCells {B : Nat} {w : World} (b : Nat) (hb : B ≤ b) : ∀ (vs : List Value) (o : Nat) (w' : World), Below B w w' → Below B w (w'.setCells b o vs)
  | [], o, w', h => h
  | v :: vs, o, w', h => below_setCells b hb vs (o + 1) _ (h.setCell (p := ⟨b, o, none⟩) hb v)
theorem zeros_u8 (k : Nat) : (Builtin.zeroCells (Value.int .u8 0).cells k) = (List.replicate k (Value.int .u8 0)).toArray := by
  unfold Builtin.zeroCells
  apply Array.ext
  · simp [Value.cells]
  · intro i h1 h2
    simp [Value.cells, Nat.mod_one]
theorem run_room_zeros (w : World) (ty : TypeId) (b off sLen sCap k : Nat) (h0 : 0 < k) (hk : k ≤ 65536) (hroom : sLen + k ≤ sCap) (hc : ∀ j, j < k → (w.cell? ⟨b, off + sLen + j, none⟩).isSome = true) (hf : ∀ j, j < k → w.frozen? ⟨b, off + sLen + j, none⟩ = false) :
    (Builtin.append_ #[106, 3] ty #[.slice (some ⟨b, off, none⟩) sLen sCap, .int .i64 (k : Int)]).run Tryz.prog w = .ok (.slice (some ⟨b, off, none⟩) (sLen + k) sCap) (w.setCells b (off + sLen) (List.replicate k (.int .u8 0))) := by
  obtain ⟨i0, hi, hz0, hz1, hz2⟩ := info_parts Tryz.infoU8
  have hst := run_storeCells_cells (P := Tryz.prog) b (off + sLen) (List.replicate k (.int .u8 0)) 0 w (by simpa using hc) (by simpa using hf) (fun v hv => by rw [List.eq_of_mem_replicate hv]; rfl)
  simp only [Nat.add_zero] at hst
  have hw : IntKind.i64.wrap (k : Int) = k := by rw [IntKind.wrap_i64]; omega
  have hneg : ¬ ((k : Int) < 0) := by omega
  have hz : ¬ (k = 0) := by omega
  have h48 : ¬ (281474976710656 < (k : Int)) := by omega
  have htn : Tryz.prog.underlying 3 = some (.int .i64) := Tryz.underlying3
  simp [Builtin.append_, run_underlying Tryz.underlying106, run_underlying htn, sizeOf, typeInfo, zeroValue, hi, hz0, hz1, hz2, asInt, asIntOf, hw, hneg, hz, h48, hroom, zeros_u8, add_none, hst]
def sb (s : ByteArray) : List UInt8 := s.data.toList
theorem sb_len (s : ByteArray) : (sb s).length = s.size := by unfold sb; simp
theorem conv_sb (W : World) (s : ByteArray) : (convert 9 106 (.string s)).run Tryz.prog W = .ok (.slice (some ⟨W.heap.size, 0, none⟩) s.size (grownCap W s.size 0 5))
    (W.drew.alloc (.cells (bytesRow s (grownCap W s.size 0 5)) 5 ((bytesRow s (grownCap W s.size 0 5)).size, (bytesRow s (grownCap W s.size 0 5)).size + 1))) :=
  run_bytes_of_string W 9 106 5 s Tryz.underlying9 Tryz.underlying106 Tryz.underlying5
theorem bytesRow_list (s : ByteArray) (cap : Nat) : bytesRow s cap = ((sb s).map B8 ++ List.replicate (cap - s.size) (Value.int .u8 0)).toArray := by
  unfold bytesRow sb
  apply Array.ext'
  simp [B8]
theorem rangeAt_append {w : World} {b o : Nat} {a c : List Value} (h1 : w.rangeAt b o a) (h2 : w.rangeAt b (o + a.length) c) : w.rangeAt b o (a ++ c) := fun j v hv => by
  rcases Nat.lt_or_ge j a.length with hj | hj
  · rw [List.getElem?_append_left hj] at hv; exact h1 j v hv
  · rw [List.getElem?_append_right hj] at hv
    have := h2 (j - a.length) v hv
    rw [show o + a.length + (j - a.length) = o + j by omega] at this
    exact this
theorem map_zeros (k : Nat) : (List.replicate k (0 : UInt8)).map B8 = List.replicate k (Value.int .u8 0) := by
  rw [List.map_replicate]; rfl
theorem mark_app (W : World) (ty : TypeId) (s : ByteArray) (k : Nat) (hk : s.size + k = 8) (h1 : 1 ≤ k) : ∃ v W', (Builtin.append_ #[106, 3] ty #[.slice (some ⟨W.heap.size, 0, none⟩) s.size (grownCap W s.size 0 5), .int .i64 (k : Int)]).run Tryz.prog
      (W.drew.alloc (.cells (bytesRow s (grownCap W s.size 0 5)) 5 ((bytesRow s (grownCap W s.size 0 5)).size, (bytesRow s (grownCap W s.size 0 5)).size + 1))) = .ok v W' ∧ HB W' v (sb s ++ List.replicate k 0) ∧ Below W.heap.size W W' := by
  have hge := grownCap_ge W s.size 0 5
  have hle := grownCap_le_maxLen W s.size 0 5 (by unfold maxLen; omega)
  generalize grownCap W s.size 0 5 = cap at *
  have hrow : ∀ o : Obj, (W.drew.alloc o).heap[W.heap.size]? = some o := fun o => heap_alloc_new W.drew o
  have hbl : ∀ o : Obj, Below W.heap.size W (W.drew.alloc o) := fun o => ((Below.refl _ _).drew).alloc (Nat.le_refl _) _
  have hsz : (bytesRow s cap).size = cap := by rw [bytesRow_list]; simp [sb_len]; omega
  rw [hsz]
  have hr0 := hrow (.cells (bytesRow s cap) 5 (cap, cap + 1))
  have hb0 := hbl (.cells (bytesRow s cap) 5 (cap, cap + 1))
  have hs0 : (W.drew.alloc (.cells (bytesRow s cap) 5 (cap, cap + 1))).heap.size = W.heap.size + 1 := by simp
  generalize W.drew.alloc (.cells (bytesRow s cap) 5 (cap, cap + 1)) = X at *
  have hra : X.rangeAt W.heap.size 0 ((sb s).map B8) := by
    have h0 := rangeAt_part (rangeAt_row (by rw [bytesRow_list] at hr0; exact hr0)) 0 s.size
    rw [List.drop_zero, List.take_left' (by simp [sb_len])] at h0
    exact h0
  have hl8 : (sb s ++ List.replicate k (0 : UInt8)).length = 8 := by simp [sb_len, hk]
  by_cases hc : 8 ≤ cap
  · refine ⟨_, _, run_room_zeros X ty W.heap.size 0 s.size cap k h1 (by omega) (by omega) (fun j hj => ?_) (fun j hj => ?_), ?_, below_setCells _ (Nat.le_refl _) _ _ _ hb0⟩
    · rw [cell_of_row _ _ _ _ _ _ hr0, Array.getElem?_eq_getElem (by rw [hsz]; omega)]; rfl
    · unfold World.frozen?; rw [hr0]; simp; omega
    · rw [hk]
      refine hb_range 8 hl8.symm (by omega) hle ?_
      rw [List.map_append, map_zeros]
      refine rangeAt_append (World.rangeAt_setCells_apart hra _ _ _ (.inr (.inl (by simp [sb_len])))) ?_
      rw [List.length_map, sb_len]
      refine World.rangeAt_setCells_same _ _ _ _ (fun j hj => ?_)
      rw [List.length_replicate] at hj
      refine ⟨?_, ?_⟩
      · rw [cell_of_row _ _ _ _ _ _ hr0, Array.getElem?_eq_getElem (by rw [hsz]; omega)]; rfl
      · unfold World.frozen?; rw [hr0]; simp; omega
  · obtain ⟨i0, hi, hz0, hz1, hz2⟩ := info_parts Tryz.infoU8
    have hld := run_loadCells_list (P := Tryz.prog) X.drew ⟨W.heap.size, 0, none⟩ ((sb s).map B8) (fun j v hv => by rw [add_none]; exact hra j v hv)
    rw [List.length_map, sb_len] at hld
    have hgr := Lib.run_append_grow_zeros (P := Tryz.prog) X 106 3 ty 5 i0 (.int .u8 0) .i64 .i64 Tryz.underlying106 Tryz.underlying3 hi hz0 (some ⟨W.heap.size, 0, none⟩) s.size cap ((sb s).map B8) (by rw [hz1]; simpa [Builtin.firstCells] using hld) k (by omega) (by rw [hz1]; decide) (by omega) (by omega) (by rw [hz2]; omega) (by
      rw [hz2]
      have : Builtin.nextslicecap (s.size + k) cap ≤ 16 := by unfold Builtin.nextslicecap; split <;> (try split) <;> omega
      omega)
    refine ⟨_, _, hgr, ?_, (hb0.drew).alloc (by show W.heap.size ≤ X.heap.size; omega) _⟩
    have hge2 := grownCap_ge X (s.size + k) cap 5
    have hle2 := grownCap_le_maxLen X (s.size + k) cap 5 (by unfold maxLen; omega)
    generalize grownCap X (s.size + k) cap 5 = c2 at *
    refine hb_range (s.size + k) (by omega) (by omega) hle2 ?_
    have hn : (X.drew.alloc (.cells (((sb s).map B8).toArray ++ Builtin.zeroCells (Value.int .u8 0).cells k ++ Builtin.zeroCells (Value.int .u8 0).cells (c2 - (s.size + k))) 5)).heap[X.heap.size]? = some (.cells (((sb s).map B8 ++ List.replicate k (Value.int .u8 0)) ++ List.replicate (c2 - (s.size + k)) (Value.int .u8 0)).toArray 5 (0, 0)) := by
      refine (heap_alloc_new X.drew _).trans ?_
      rw [zeros_u8, zeros_u8]
      simp
    have h0 := rangeAt_part (rangeAt_row hn) 0 8
    rw [List.drop_zero, List.take_left' (by simp [sb_len]; omega)] at h0
    rw [List.map_append, map_zeros]
    exact h0
theorem mark_any (s : ByteArray) (k : Nat) (w : World) (hk : s.size + k = 8) (h1 : 1 ≤ k) :
    Calls Tryz.prog 85 #[.string s] w fun e w' => ∃ v, e = .returned v ∧ HB w' v (sb s ++ List.replicate k 0) ∧ Below w.heap.size w w' := by
  have hcv := conv_sb w s
  obtain ⟨v, W', hrun, hhb, hbel⟩ := mark_app w 106 s k hk h1
  have HRUN : Hid _ := hrun
  have HH : Hid _ := hhb
  have hki : IntKind.i64.wrap (8 - (s.size : Int)) = (k : Int) := by rw [IntKind.wrap_i64]; omega
  have hki2 : (8 - (s.size : Int)) = (k : Int) := by omega
  clear hrun hhb
  go_enter Tryz.func85, Tryz.ntmps85
  go_wp2_with (at_builtin; refine Lib.wpList_append_run _ rfl (.tmp 4) (.tmp 7) 106 3 rfl _ _ rfl rfl _ _ HRUN.out ?_)
  go_ret
  exact ⟨_, rfl, HH.out, hbel⟩
end Go.Proofs.YtekbppfocnbhbaaGreat.PC
