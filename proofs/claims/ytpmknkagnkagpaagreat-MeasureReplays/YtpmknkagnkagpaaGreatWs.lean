/- Several texts in one. -/
import Derived.Test.YtpmknkagnkagpaaGreatWp
import Derived.ChangeOld
import Derived.ProofKit
import Derived.OpenShut
import Derived.Deep.Slices
import Derived.Laws.StructEq
import Derived.Lib.AppendZerosOnto
import Derived.Laws.IdiomStrings
set_option linter.unusedVariables false
set_option linter.unusedSimpArgs false
/- params: what is read of bytes is what was written; equal parameters; what came in. -/
namespace Go.Proofs.YtpmknkagnkagpaaGreat.PC
open Go.RowKit

theorem size_u64 (w : World) : (sizeOf 28).run Tryz.prog w = .ok 1 w := by kernel_rfl
theorem size_dg (w : World) : (sizeOf 24).run Tryz.prog w = .ok 32 w := by kernel_rfl
theorem size_r8 (w : World) : (sizeOf 29).run Tryz.prog w = .ok 8 w := by kernel_rfl
theorem eq_ints_self {P : Program} (w : World) (d : Nat) (t e : TypeId) (m : Nat) (q : IntKind) (ht : P.underlying t = some (.array m e)) (he : P.underlying e = some (.int q)) (hsz : ∀ w, (sizeOf e).run P w = .ok 1 w) (F : List Value) (hF : F.length = m)
    (hp : ∀ v ∈ F, ∃ z, v = .int q z) : (Op.equalIn (d + 3) t (.agg F.toArray) (.agg F.toArray)).run P w = .ok true w := by
  rw [Op.equalIn]
  simp only [Sem.run_bind, run_underlying ht, Result.andThen_ok, hsz, Std.Legacy.Range.forIn_eq_forIn_range', Std.Legacy.Range.size, Nat.sub_zero, Nat.add_sub_cancel, Nat.div_one]
  have hl : ∀ i ∈ List.range' 0 m 1, i < m := fun i hi => by simpa using (List.mem_range'_1.1 hi).2
  generalize List.range' 0 m 1 = l at hl ⊢
  induction l with
  | nil => simp
  | cons i l ih =>
    have hi : i < m := hl i (by simp)
    have hi' : i < F.length := by omega
    obtain ⟨z, hz⟩ := hp F[i] (List.getElem_mem hi')
    have px : (Go.part e F.toArray (i * 1)).run P w = .ok (.int q z) w := by
      simp [Go.part, isAgg, run_underlying he, List.getElem?_eq_getElem hi', hz]
    have pe : (Op.equalIn (d + 2) e (.int q z) (.int q z)).run P w = .ok true w := by
      rw [run_equalIn_int w (d + 1) e q q z z he]; simp
    simp only [List.forIn_cons, Sem.run_bind, px, pe, Result.andThen_ok]
    simp only [Bool.not_true, Bool.false_eq_true, if_false, Sem.run_pure, Result.andThen_ok, Bool.true_and]
    exact ih fun j hj => hl j (by simp [hj])
theorem rcL_rs (pc : Nat) (rs : List Nat) (r : Bool) (h : rs.length = 8) : List.take 8 (rcL pc rs r).tail = rs.map U8 := by
  unfold rcL; rw [List.tail_cons, List.take_append_of_le_length (by simp [h]), List.take_of_length_le (by simp [h])]
theorem eq_rc (w : World) (pc : Nat) (rs : List Nat) (r : Bool) (hr : rs.length = 8) : (Op.equalIn 10000 31 (.agg (rcL pc rs r).toArray) (.agg (rcL pc rs r).toArray)).run Tryz.prog w = .ok true w := by
  have h0 : (rcL pc rs r)[0]? = some (.int .u64 (pc : Int)) := rcL_pc pc rs r
  have htk := rcL_rs pc rs r hr
  have h9 : (rcL pc rs r)[9]? = some (.bool r) := rcL_b pc rs r hr
  have he : (Op.equalIn 9999 29 (.agg (rs.map U8).toArray) (.agg (rs.map U8).toArray)).run Tryz.prog w = .ok true w := eq_ints_self (P := Tryz.prog) w 9996 29 28 8 .u64 Tryz.underlying29 Tryz.underlying28 size_u64 (rs.map U8) (by simpa using hr) (fun v hv => by obtain ⟨x, _, rfl⟩ := List.mem_map.1 hv; exact ⟨_, rfl⟩)
  rw [run_equalIn_struct w 9999 _ _ _ (by kernel_rfl) (by kernel_rfl)]
  generalize rcL pc rs r = PL at *
  generalize rs.map U8 = RL at *
  go_simp
section
open Go.ChangeShapes Go.WideShapes Go.ChangeAt
variable {H : Type} {enc : TypeId × Value → H} {w : World} {base : Nat} {held : Bool}
theorem mapM_ints {P : Program} {e : TypeId} {q : IntKind} {sp : Nat → Bool} (he : P.underlying e = some (.int q)) {m : Nat} {cs : List Value} : ∀ (L : List Nat) (ys : List (DataW H × List MemPlace)),
    L.mapM (fun i => DataW.trod enc P w base sp held m e ((cs.drop (i * 1)).take 1)) = some ys → ∀ i ∈ L, ∃ z, (cs.drop (i * 1)).take 1 = [.int q z] ∧ (Lit.int q z).wf = true
  | [], ys, h => by simp
  | i :: L, ys, h => by
    rw [List.mapM_cons] at h
    simp only [bind, Option.bind_eq_some_iff, pure, Option.some.injEq] at h
    obtain ⟨y, hy, ys', hys, rfl⟩ := h
    obtain ⟨a, ea, _, wa⟩ := DataW.trod_int he hy
    intro j hj
    rcases List.mem_cons.1 hj with rfl | hj
    · exact ⟨a, ea, wa⟩
    · exact mapM_ints he L ys' hys j hj
theorem open_arr {k e : TypeId} {q : IntKind} {n : Nat} {cs : List Value} {fuel : Nat} {x : DataW H × List MemPlace} {sp : Nat → Bool} (hu : Tryz.prog.underlying k = some (.array n e)) (he : Tryz.prog.underlying e = some (.int q)) (hk : Tryz.prog.cellsOf k = n) (h1 : Tryz.prog.cellsOf e = 1)
    (h : DataW.trod enc Tryz.prog w base sp held fuel k cs = some x) : cs.length = n ∧ ∀ v ∈ cs, ∃ z, v = .int q z ∧ (Lit.int q z).wf = true := by
  cases fuel with
  | zero => simp [DataW.trod] at h
  | succ m =>
    rw [DataW.trod_step] at h
    unfold DataW.trodStep at h
    simp only [hu] at h
    by_cases hl : cs.length = Tryz.prog.cellsOf k
    · rw [if_pos hl] at h
      simp only [Option.map_eq_some_iff, h1] at h
      obtain ⟨ys, hy, e1⟩ := h
      have := mapM_ints he _ ys hy
      refine ⟨by rw [hl, hk], fun v hv => ?_⟩
      obtain ⟨i, hi, rfl⟩ := List.getElem_of_mem hv
      obtain ⟨z, e, hw⟩ := this i (by rw [hl, hk] at hi; simpa using hi)
      rw [Nat.mul_one, List.drop_eq_getElem_cons hi, List.take_succ_cons, List.take_zero] at e
      exact ⟨z, (List.cons.inj e).1, hw⟩
    · rw [if_neg hl] at h; cases h
theorem cells_u8 (cs : List Value) (h : ∀ v ∈ cs, ∃ z, v = .int .u8 z ∧ (Lit.int .u8 z).wf = true) : ∃ bs : List UInt8, cs = bs.map B8 := by
  induction cs with
  | nil => exact ⟨[], rfl⟩
  | cons v l ih =>
    obtain ⟨bs, hb⟩ := ih (fun u hu => h u (List.mem_cons_of_mem _ hu))
    obtain ⟨z, rfl, hw⟩ := h v (by simp)
    have hb8 := bounds_u8 hw
    refine ⟨UInt8.ofNat z.toNat :: bs, ?_⟩
    rw [List.map_cons, ← hb]
    congr 1
    unfold B8
    congr 1
    simp; omega
theorem cells_u64 (cs : List Value) (h : ∀ v ∈ cs, ∃ z, v = .int .u64 z ∧ (Lit.int .u64 z).wf = true) : ∃ bs : List Nat, cs = bs.map U8 ∧ ∀ x ∈ bs, x < 18446744073709551616 := by
  induction cs with
  | nil => exact ⟨[], rfl, fun x hx => by simp at hx⟩
  | cons v l ih =>
    obtain ⟨bs, hb, hx⟩ := ih (fun u hu => h u (List.mem_cons_of_mem _ hu))
    obtain ⟨z, rfl, hw⟩ := h v (by simp)
    have hb8 := bounds_u64 hw
    refine ⟨z.toNat :: bs, ?_, fun x hy => ?_⟩
    · rw [List.map_cons, ← hb]
      congr 1
      unfold U8
      congr 1
      omega
    · rcases List.mem_cons.1 hy with rfl | hy
      · omega
      · exact hx x hy
theorem split_at {l : List Value} (k n : Nat) (h : l.length = k + n) : l = (l.drop 0).take k ++ (l.drop k).take n := by
  rw [List.drop_zero, List.take_of_length_le (l := l.drop k) (by simp [h]), List.take_append_drop]
theorem open_rc {cs : List Value} {fuel : Nat} {x : DataW H × List MemPlace} (h : DataW.trod enc Tryz.prog w base (fun _ => true) held fuel 31 cs = some x) : ∃ pc rs r, cs = rcL pc rs r ∧ rs.length = 8 ∧ pc < 18446744073709551616 ∧ ∀ x ∈ rs, x < 18446744073709551616 := by
  cases fuel with
  | zero => simp [DataW.trod] at h
  | succ m =>
    rw [DataW.trod_step] at h
    unfold DataW.trodStep at h
    simp only [Tryz.underlying31] at h
    have hcell : Tryz.prog.cellsOf 31 = 10 := by kernel_rfl
    have c0 : Tryz.prog.cellsOf 28 = 1 := by kernel_rfl
    have c1 : Tryz.prog.cellsOf 29 = 8 := by kernel_rfl
    have c2 : Tryz.prog.cellsOf 4 = 1 := by kernel_rfl
    by_cases hl : cs.length = Tryz.prog.cellsOf 31
    · rw [if_pos hl] at h
      simp only [Option.map_eq_some_iff, List.mapM_cons, List.mapM_nil, bind, Option.bind_eq_some_iff, pure, Option.some.injEq, c0, c1, c2] at h
      obtain ⟨ys, ⟨y0, h0, z0, ⟨y1, h1, z1, ⟨y2, h2, _⟩, _⟩, _⟩, _⟩ := h
      obtain ⟨k, e0, _, w0⟩ := DataW.trod_int Tryz.underlying28 h0
      obtain ⟨l1, p1⟩ := open_arr Tryz.underlying29 Tryz.underlying28 c1 (by kernel_rfl) h1
      obtain ⟨bs, hb, hx⟩ := cells_u64 _ p1
      obtain ⟨r, e2, _⟩ := DataW.trod_bool Tryz.underlying4 h2
      have hk := bounds_u64 w0
      rw [hcell] at hl
      have hs := split_at 1 9 hl
      have hs2 := split_at (l := cs.drop 1) 8 1 (by simp [hl])
      rw [List.drop_zero, List.drop_drop] at hs2
      rw [List.take_of_length_le (l := cs.drop 1) (by simp [hl]), hs2] at hs
      rw [hb] at hs l1
      rw [e0, e2] at hs
      refine ⟨k.toNat, bs, r, ?_, by simpa using l1, by omega, hx⟩
      rw [hs]
      unfold rcL U8
      rw [show ((k.toNat : Nat) : Int) = k by omega]
      rfl
    · rw [if_neg hl] at h; cases h
end
end Go.Proofs.YtpmknkagnkagpaaGreat.PC

/- params: the reference's mark and word. -/
namespace Go.Proofs.YtpmknkagnkagpaaGreat.PC
open Go.RowKit

theorem below_setCells {B : Nat} {w : World} (b : Nat) (hb : B ≤ b) : ∀ (vs : List Value) (o : Nat) (w' : World), Below B w w' → Below B w (w'.setCells b o vs)
  | [], o, w', h => h
  | v :: vs, o, w', h => below_setCells b hb vs (o + 1) _ (h.setCell (p := ⟨b, o, none⟩) hb v)
theorem zeros_u8 (k : Nat) : (Builtin.zeroCells (Value.int .u8 0).cells k) = (List.replicate k (Value.int .u8 0)).toArray := by
  unfold Builtin.zeroCells
  apply Array.ext
  · simp [Value.cells]
  · intro i h1 h2
    simp [Value.cells, Nat.mod_one]
theorem run_room_zeros (w : World) (ty : TypeId) (b off sLen sCap k : Nat) (h0 : 0 < k) (hk : k ≤ 65536) (hroom : sLen + k ≤ sCap) (hc : ∀ j, j < k → (w.cell? ⟨b, off + sLen + j, none⟩).isSome = true) (hf : ∀ j, j < k → w.frozen? ⟨b, off + sLen + j, none⟩ = false) :
    (Builtin.append_ #[78, 3] ty #[.slice (some ⟨b, off, none⟩) sLen sCap, .int .i64 (k : Int)]).run Tryz.prog w = .ok (.slice (some ⟨b, off, none⟩) (sLen + k) sCap) (w.setCells b (off + sLen) (List.replicate k (.int .u8 0))) := by
  obtain ⟨i0, hi, hz0, hz1, hz2⟩ := info_parts Tryz.infoU8
  have hst := run_storeCells_cells (P := Tryz.prog) b (off + sLen) (List.replicate k (.int .u8 0)) 0 w (by simpa using hc) (by simpa using hf) (fun v hv => by rw [List.eq_of_mem_replicate hv]; rfl)
  simp only [Nat.add_zero] at hst
  have hw : IntKind.i64.wrap (k : Int) = k := by rw [IntKind.wrap_i64]; omega
  have hneg : ¬ ((k : Int) < 0) := by omega
  have hz : ¬ (k = 0) := by omega
  have h48 : ¬ (281474976710656 < (k : Int)) := by omega
  have htn : Tryz.prog.underlying 3 = some (.int .i64) := Tryz.underlying3
  simp [Builtin.append_, run_underlying Tryz.underlying78, run_underlying htn, sizeOf, typeInfo, zeroValue, hi, hz0, hz1, hz2, asInt, asIntOf, hw, hneg, hz, h48, hroom, zeros_u8, add_none, hst]
def sb (s : ByteArray) : List UInt8 := s.data.toList
theorem sb_len (s : ByteArray) : (sb s).length = s.size := by unfold sb; simp
theorem conv_sb (W : World) (s : ByteArray) : (convert 9 78 (.string s)).run Tryz.prog W = .ok (.slice (some ⟨W.heap.size, 0, none⟩) s.size (grownCap W s.size 0 5))
    (W.drew.alloc (.cells (bytesRow s (grownCap W s.size 0 5)) 5 ((bytesRow s (grownCap W s.size 0 5)).size, (bytesRow s (grownCap W s.size 0 5)).size + 1))) :=
  run_bytes_of_string W 9 78 5 s Tryz.underlying9 Tryz.underlying78 Tryz.underlying5
theorem bytesRow_list (s : ByteArray) (cap : Nat) : bytesRow s cap = ((sb s).map B8 ++ List.replicate (cap - s.size) (Value.int .u8 0)).toArray := by
  unfold bytesRow sb
  apply Array.ext'
  simp [B8]
theorem rangeAt_append {w : World} {b o : Nat} {a c : List Value} (h1 : w.rangeAt b o a) (h2 : w.rangeAt b (o + a.length) c) : w.rangeAt b o (a ++ c) := fun j v hv => by
  rcases Nat.lt_or_ge j a.length with hj | hj
  · rw [List.getElem?_append_left hj] at hv; exact h1 j v hv
  · rw [List.getElem?_append_right hj] at hv
    have := h2 (j - a.length) v hv
    rw [show o + a.length + (j - a.length) = o + j by omega] at this
    exact this
theorem map_zeros (k : Nat) : (List.replicate k (0 : UInt8)).map B8 = List.replicate k (Value.int .u8 0) := by
  rw [List.map_replicate]; rfl
theorem mark_app (W : World) (ty : TypeId) (s : ByteArray) (k : Nat) (hk : s.size + k = 8) (h1 : 1 ≤ k) : ∃ v W', (Builtin.append_ #[78, 3] ty #[.slice (some ⟨W.heap.size, 0, none⟩) s.size (grownCap W s.size 0 5), .int .i64 (k : Int)]).run Tryz.prog
      (W.drew.alloc (.cells (bytesRow s (grownCap W s.size 0 5)) 5 ((bytesRow s (grownCap W s.size 0 5)).size, (bytesRow s (grownCap W s.size 0 5)).size + 1))) = .ok v W' ∧ HB W' v (sb s ++ List.replicate k 0) ∧ Below W.heap.size W W' := by
  have hge := grownCap_ge W s.size 0 5
  have hle := grownCap_le_maxLen W s.size 0 5 (by unfold maxLen; omega)
  generalize grownCap W s.size 0 5 = cap at *
  have hrow : ∀ o : Obj, (W.drew.alloc o).heap[W.heap.size]? = some o := fun o => heap_alloc_new W.drew o
  have hbl : ∀ o : Obj, Below W.heap.size W (W.drew.alloc o) := fun o => ((Below.refl _ _).drew).alloc (Nat.le_refl _) _
  have hsz : (bytesRow s cap).size = cap := by rw [bytesRow_list]; simp [sb_len]; omega
  rw [hsz]
  have hr0 := hrow (.cells (bytesRow s cap) 5 (cap, cap + 1))
  have hb0 := hbl (.cells (bytesRow s cap) 5 (cap, cap + 1))
  have hs0 : (W.drew.alloc (.cells (bytesRow s cap) 5 (cap, cap + 1))).heap.size = W.heap.size + 1 := by simp
  generalize W.drew.alloc (.cells (bytesRow s cap) 5 (cap, cap + 1)) = X at *
  have hra : X.rangeAt W.heap.size 0 ((sb s).map B8) := by
    have h0 := rangeAt_part (rangeAt_row (by rw [bytesRow_list] at hr0; exact hr0)) 0 s.size
    rw [List.drop_zero, List.take_left' (by simp [sb_len])] at h0
    exact h0
  have hl8 : (sb s ++ List.replicate k (0 : UInt8)).length = 8 := by simp [sb_len, hk]
  by_cases hc : 8 ≤ cap
  · refine ⟨_, _, run_room_zeros X ty W.heap.size 0 s.size cap k h1 (by omega) (by omega) (fun j hj => ?_) (fun j hj => ?_), ?_, below_setCells _ (Nat.le_refl _) _ _ _ hb0⟩
    · rw [cell_of_row _ _ _ _ _ _ hr0, Array.getElem?_eq_getElem (by rw [hsz]; omega)]; rfl
    · unfold World.frozen?; rw [hr0]; simp; omega
    · rw [hk]
      refine hb_range 8 hl8.symm (by omega) hle ?_
      rw [List.map_append, map_zeros]
      refine rangeAt_append (World.rangeAt_setCells_apart hra _ _ _ (.inr (.inl (by simp [sb_len])))) ?_
      rw [List.length_map, sb_len]
      refine World.rangeAt_setCells_same _ _ _ _ (fun j hj => ?_)
      rw [List.length_replicate] at hj
      refine ⟨?_, ?_⟩
      · rw [cell_of_row _ _ _ _ _ _ hr0, Array.getElem?_eq_getElem (by rw [hsz]; omega)]; rfl
      · unfold World.frozen?; rw [hr0]; simp; omega
  · obtain ⟨i0, hi, hz0, hz1, hz2⟩ := info_parts Tryz.infoU8
    have hld := run_loadCells_list (P := Tryz.prog) X.drew ⟨W.heap.size, 0, none⟩ ((sb s).map B8) (fun j v hv => by rw [add_none]; exact hra j v hv)
    rw [List.length_map, sb_len] at hld
    have hgr := Lib.run_append_grow_zeros (P := Tryz.prog) X 78 3 ty 5 i0 (.int .u8 0) .i64 .i64 Tryz.underlying78 Tryz.underlying3 hi hz0 (some ⟨W.heap.size, 0, none⟩) s.size cap ((sb s).map B8) (by rw [hz1]; simpa [Builtin.firstCells] using hld) k (by omega) (by rw [hz1]; decide) (by omega) (by omega) (by rw [hz2]; omega) (by
      rw [hz2]
      have : Builtin.nextslicecap (s.size + k) cap ≤ 16 := by unfold Builtin.nextslicecap; split <;> (try split) <;> omega
      omega)
    refine ⟨_, _, hgr, ?_, (hb0.drew).alloc (by show W.heap.size ≤ X.heap.size; omega) _⟩
    have hge2 := grownCap_ge X (s.size + k) cap 5
    have hle2 := grownCap_le_maxLen X (s.size + k) cap 5 (by unfold maxLen; omega)
    generalize grownCap X (s.size + k) cap 5 = c2 at *
    refine hb_range (s.size + k) (by omega) (by omega) hle2 ?_
    have hn : (X.drew.alloc (.cells (((sb s).map B8).toArray ++ Builtin.zeroCells (Value.int .u8 0).cells k ++ Builtin.zeroCells (Value.int .u8 0).cells (c2 - (s.size + k))) 5)).heap[X.heap.size]? = some (.cells (((sb s).map B8 ++ List.replicate k (Value.int .u8 0)) ++ List.replicate (c2 - (s.size + k)) (Value.int .u8 0)).toArray 5 (0, 0)) := by
      refine (heap_alloc_new X.drew _).trans ?_
      rw [zeros_u8, zeros_u8]
      simp
    have h0 := rangeAt_part (rangeAt_row hn) 0 8
    rw [List.drop_zero, List.take_left' (by simp [sb_len]; omega)] at h0
    rw [List.map_append, map_zeros]
    exact h0
theorem mark_any (s : ByteArray) (k : Nat) (w : World) (hk : s.size + k = 8) (h1 : 1 ≤ k) :
    Calls Tryz.prog 61 #[.string s] w fun e w' => ∃ v, e = .returned v ∧ HB w' v (sb s ++ List.replicate k 0) ∧ Below w.heap.size w w' := by
  have hcv := conv_sb w s
  obtain ⟨v, W', hrun, hhb, hbel⟩ := mark_app w 78 s k hk h1
  have HRUN : Hid _ := hrun
  have HH : Hid _ := hhb
  have hki : IntKind.i64.wrap (8 - (s.size : Int)) = (k : Int) := by rw [IntKind.wrap_i64]; omega
  have hki2 : (8 - (s.size : Int)) = (k : Int) := by omega
  clear hrun hhb
  go_enter Tryz.func61, Tryz.ntmps61
  go_wp2_with (at_builtin; refine Lib.wpList_append_run _ rfl (.tmp 4) (.tmp 7) 78 3 rfl _ _ rfl rfl _ _ HRUN.out ?_)
  go_ret
  exact ⟨_, rfl, HH.out, hbel⟩
end Go.Proofs.YtpmknkagnkagpaaGreat.PC

/- params: ref 1's Put and Join; the reference's word and granule. -/
namespace Go.Proofs.YtpmknkagnkagpaaGreat.PC
open Go.RowKit

theorem wpList_app1 {ops : Array Oper} {rest : List Oper} {o : Oper} {a : Act} {Q : Exit → Act → World → Prop} {W : World} {cv : Value} (hgd : o.guard = none) (s x : Operand) (ho : o.op = .call { callee := .builtin .append, args := #[s, x], argTypes := #[78, 78] })
    (base : Nat) (v : Value) (l : List UInt8) (c : UInt8) (hcv : cv = B8 c) (hs : a.eval s = v) (hx : a.eval x = .slice (some ⟨W.heap.size, 0, none⟩) 1 1) (hown : FB base W v l) (hl : l.length ≤ 2199023255552) (hbase : base ≤ W.heap.size)
    (h : ∀ g cap w', FB base w' (.slice (some ⟨g, 0, none⟩) (l.length + 1) cap) (l ++ [c]) → (W.alloc (.cells #[cv] 5)).grownBy w' v.ownBlock → (v.ownBlock = some g ∨ g = W.heap.size + 1) → g < w'.heap.size → wpList Tryz.prog ops Q rest (a.put o.dst (.slice (some ⟨g, 0, none⟩) (l.length + 1) cap)) w') :
    wpList Tryz.prog ops Q (o :: rest) a (W.alloc (.cells #[cv] 5)) := by
  obtain ⟨i0, hi, hz0, hz1, hz2⟩ := info_parts Tryz.infoU8
  refine wpList_append_lies _ hgd s x 78 ho base 5 i0 (.int .u8 0) 1 1 Tryz.underlying78 hi hz0 hz1 hz2 rfl (by decide) v _ _ hs (World.ownsRow.alloc hown _) ⟨W.heap.size, 0, none⟩ 1 1 [cv] hx rfl (by exact cell_one_new _ _ _) (by intro u hu; simp at hu; subst hu; rw [hcv]; rfl) (by decide) (by unfold maxLen; omega) (by omega) (by simp; omega) (W.heap.size + 1) (by simp) ?_
  intro g cap w' h1 h2 h3 h4
  refine h g cap w' ?_ h2 h3 h4
  unfold FB
  rw [List.length_append, List.map_append, List.map_cons, List.map_nil, ← hcv]
  exact h1
theorem fb_ge {base : Nat} {w : World} {v : Value} {l : List UInt8} (h : FB base w v l) : ∀ k, v.ownBlock = some k → base ≤ k ∧ k < w.heap.size := fun k hk => by
  rcases h.2 with ⟨h1, _⟩ | ⟨g, cap, cur, h1, h2, h3, _⟩
  · rw [h1] at hk; cases hk
  · rw [h1] at hk
    simp only [Value.ownBlock, Option.some.injEq] at hk
    subst hk
    exact ⟨h2, (Array.getElem?_eq_some_iff.1 h3).1⟩
theorem le_snoc (k n : Nat) : W1.le (k + 1) n = W1.le k n ++ [UInt8.ofNat (n / 256 ^ k % 256)] := by
  apply List.ext_getElem?
  intro i
  rcases Nat.lt_trichotomy i k with h | h | h
  · rw [List.getElem?_append_left (by rw [W1.le_length]; exact h), W1.le_get _ _ _ (by omega), W1.le_get _ _ _ h]
  · subst h
    rw [List.getElem?_append_right (by rw [W1.le_length]; exact Nat.le_refl _), W1.le_get _ _ _ (by omega), W1.le_length]
    simp
  · rw [List.getElem?_eq_none (by rw [W1.le_length]; omega), List.getElem?_eq_none (by simp [W1.le_length]; omega)]
set_option maxHeartbeats 1000000 in
theorem refPut_any (n size : Nat) (w : World) (hn : n < 18446744073709551616) (hs : size ≤ 8) :
    Calls Tryz.prog 44 #[.int .u64 (n : Int), .int .i64 (size : Int)] w fun e w' => ∃ v, e = .returned v ∧ FB w.heap.size w' v (W1.le size n) ∧ Below w.heap.size w w' := by
  go_enter Tryz.func44, Tryz.ntmps44
  go_wp2
  go_loopw [0, 5, 6] (fun m v i wr => ∃ k : Nat, k ≤ size ∧ m = .int .u64 ((n / 256 ^ k : Nat) : Int) ∧ i = .int .i64 k ∧ FB w.heap.size wr v (W1.le k n) ∧ Below w.heap.size w wr) (fun _ _ i _ => size - (intOf i).toNat)
  case atStart => exact ⟨0, Nat.zero_le _, by simp, rfl, World.ownsRow_nil _ _ _ _, Below.refl _ _⟩
  case round =>
    obtain ⟨k, hk, rfl, rfl, hown, hbel⟩ := hrel
    have hsz := hbel.size
    by_cases hlt : k < size
    · obtain ⟨q, hq⟩ : ∃ q, q = n / 256 ^ k := ⟨_, rfl⟩
      have hqn : q < 18446744073709551616 := by rw [hq]; exact Nat.lt_of_le_of_lt (Nat.div_le_self _ _) hn
      obtain ⟨c, hc⟩ : ∃ c, c = UInt8.ofNat (n / 256 ^ k % 256) := ⟨_, rfl⟩
      obtain ⟨r, hr⟩ : ∃ r, r = n / 256 ^ (k + 1) := ⟨_, rfl⟩
      have hdiv : (q : Int) / 256 = (r : Int) := by
        have : q / 256 = r := by rw [hq, hr, Nat.div_div_eq_div_mul, Nat.pow_succ]
        omega
      have hmod : (q : Int) % 256 = (c.toNat : Int) := by
        have : c.toNat = q % 256 := by rw [hc, ← hq]; show _ % 256 = _; omega
        omega
      have hcm : (c.toNat : Int) % 256 = (c.toNat : Int) := by have := c.toNat_lt; omega
      have HL : Hid _ := le_snoc k n
      have HC : Hid _ := hc
      have HR : Hid _ := hr
      have hll : (W1.le k n).length = k := W1.le_length _ _
      have HLL : Hid _ := hll
      have HO : Hid _ := hown
      rw [← hq]
      clear hq hc hr hown
      generalize W1.le k n = L at *
      go_wp2_with (at_builtin; refine wpList_app1 rfl (.tmp 12) (.tmp 16) rfl w.heap.size _ L c rfl rfl rfl HO.out (by omega) hsz ?_; intro g3 cap3 w3 hf3 hgr3 hg3 hlt3)
      go_roundw
      case rel =>
        refine ⟨k + 1, by omega, by rw [← HR.out], by go_num, ?_, (hbel.alloc hsz _).grown hgr3 (by simp; omega) (fun j hj => (fb_ge HO.out j hj).1)⟩
        rw [HL.out, ← HC.out]
        rw [HLL.out] at hf3
        exact hf3
      case measure => simp [intOf]; omega
    · have hks : k = size := by omega
      rw [hks] at hown
      clear hks
      go_wp2
      go_ret
      exact ⟨_, rfl, hown, hbel⟩
theorem refWord_any (n : Nat) (w : World) (hn : n < 18446744073709551616) :
    Calls Tryz.prog 59 #[.int .u64 (n : Int)] w fun e w' => ∃ v, e = .returned v ∧ FB w.heap.size w' v (W1.le 8 n) ∧ Below w.heap.size w w' := by
  have HP : Hid (Calls Tryz.prog 44 #[.int .u64 (n : Int), .int .i64 (8 : Int)] w fun e w' => ∃ v, e = .returned v ∧ FB w.heap.size w' v (W1.le 8 n) ∧ Below w.heap.size w w') := refPut_any n 8 w hn (by decide)
  go_enter Tryz.func59, Tryz.ntmps59
  go_wp2_with fail
  refine Calls.mono HP.out ?_
  rintro e w1 ⟨v, rfl, hf, hb⟩
  have HF : Hid _ := hf
  clear hf HP
  go_wp2
  go_ret
  exact ⟨_, rfl, HF.out, hb⟩
theorem wpList_appHB {ops : Array Oper} {rest : List Oper} {o : Oper} {a : Act} {Q : Exit → Act → World → Prop} {w : World} (hgd : o.guard = none) (s x : Operand) (ho : o.op = .call { callee := .builtin .append, args := #[s, x], argTypes := #[78, 78] })
    (base : Nat) (v u : Value) (l b : List UInt8) (hs : a.eval s = v) (hx : a.eval x = u) (hown : FB base w v l) (hb : HB w u b) (hl : l.length + b.length ≤ 2199023255552) (hbase : base ≤ w.heap.size)
    (h : ∀ v' w', FB base w' v' (l ++ b) → w.grownBy w' v.ownBlock → wpList Tryz.prog ops Q rest (a.put o.dst v') w') : wpList Tryz.prog ops Q (o :: rest) a w := by
  obtain ⟨i0, hi, hz0, hz1, hz2⟩ := info_parts Tryz.infoU8
  obtain ⟨p, cp, rfl, hpn, hpc⟩ := hb_cells hb
  cases p with
  | none =>
    obtain ⟨rfl, rfl⟩ := hpn rfl
    refine wpList_append_own_none hgd s x 78 ho base 5 i0 1 Tryz.underlying78 hi v _ _ hs hown hx ?_
    exact h v w (by rw [List.append_nil]; exact hown) ⟨rfl, rfl, rfl, Nat.le_refl _, fun _ _ _ => rfl⟩
  | some ad =>
    refine wpList_append_own w hgd s x 78 ho base 5 i0 (.int .u8 0) 1 1 Tryz.underlying78 hi hz0 hz1 hz2 rfl (by decide) v _ _ hs hown ad b.length cp (b.map B8) hx (by simp) (hpc ad rfl) (B8_one b) (by unfold maxLen; omega) (by omega) hbase ?_
    intro v' w' h1 h2 _
    refine h v' w' ?_ h2
    unfold FB
    rw [List.length_append, List.map_append]
    exact h1
theorem flat_take (ls : List (List UInt8)) (k : Nat) (h : k < ls.length) : (ls.take (k + 1)).flatten = (ls.take k).flatten ++ ls.getD k [] := by
  rw [List.take_succ_eq_append_getElem h, List.flatten_append]
  simp [List.getD, List.getElem?_eq_getElem h]
theorem flat_le (ls : List (List UInt8)) (k : Nat) : (ls.take k).flatten.length ≤ ls.flatten.length := by
  have h : (ls.take k ++ ls.drop k).flatten = ls.flatten := by rw [List.take_append_drop]
  rw [← h, List.flatten_append, List.length_append]; omega
def HL (w : World) (g : Nat) (ls : List (List UInt8)) : Prop := ∀ i, i < ls.length → ∃ u, w.cell? ⟨g, i, none⟩ = some u ∧ HB w u (ls.getD i [])
theorem HL.below {w w' : World} {g : Nat} {ls : List (List UInt8)} (h : HL w g ls) (hb : Below w.heap.size w w') : HL w' g ls := fun i hi => by
  obtain ⟨u, h1, h2⟩ := h i hi
  exact ⟨u, (hb.cell (block_lt h1)).trans h1, h2.below hb⟩
theorem fb_form {base : Nat} {w : World} {v : Value} {l : List UInt8} (h : FB base w v l) : ∃ p cap, v = .slice p l.length cap := by
  rcases h.2 with ⟨h1, h2⟩ | ⟨g, cap, cur, h1, _⟩
  · exact ⟨none, 0, by rw [h1, h2]⟩
  · exact ⟨_, cap, h1⟩
set_option maxHeartbeats 2000000 in
theorem refJoin_any (g cap : Nat) (ls : List (List UInt8)) (w : World) (hl : ls.length ≤ 1048576) (hr : ls.flatten.length ≤ 1099511627776) (hc : HL w g ls) :
    Calls Tryz.prog 43 #[.slice (some ⟨g, 0, none⟩) ls.length cap] w fun e w' => ∃ v, e = .returned v ∧ FB w.heap.size w' v ls.flatten ∧ Below w.heap.size w w' := by
  have HC : Hid (HL w g ls) := hc
  clear hc
  go_enter Tryz.func43, Tryz.ntmps43
  go_wp2
  go_loopw [3, 4] (fun v i wr => ∃ k : Nat, k ≤ ls.length ∧ i = .int .i64 k ∧ FB w.heap.size wr v (ls.take k).flatten ∧ Below w.heap.size w wr) (fun _ i _ => ls.length - (intOf i).toNat)
  case atStart => exact ⟨0, Nat.zero_le _, rfl, World.ownsRow_nil _ _ _ _, Below.refl _ _⟩
  case round =>
    obtain ⟨k, hk, rfl, hown, hbel⟩ := hrel
    have hsz := hbel.size
    by_cases hlt : k < ls.length
    · obtain ⟨u, hu, hbu⟩ := HC.out k hlt
      have hu' : wr.cell? ⟨g, k, none⟩ = some u := (hbel.cell (block_lt hu)).trans hu
      have HBU : Hid _ := hbu.below hbel
      have hft := flat_take ls k hlt
      have hle := flat_le ls (k + 1)
      rw [hft, List.length_append] at hle
      have HFT : Hid _ := hft
      have HO : Hid _ := hown
      clear hft hbu hu hown
      generalize ls.getD k [] = l at *
      generalize (ls.take k).flatten = pl at *
      obtain ⟨pu, cu, eu, _, _⟩ := hb_cells HBU.out
      subst eu
      obtain ⟨p3, c3, e3⟩ := fb_form HO.out
      subst e3
      go_wp2_with (at_builtin; refine wpList_appHB rfl (.tmp 11) (.tmp 15) rfl w.heap.size _ _ pl l rfl rfl HO.out HBU.out (by omega) hsz ?_; intro v1 w1 hown1 hgr1)
      have hb1 : Below w.heap.size w w1 := hbel.grown hgr1 hsz (fun j hj => (fb_ge HO.out j hj).1)
      go_roundw
      case rel => exact ⟨k + 1, by omega, by go_num, by rw [HFT.out]; exact hown1, hb1⟩
      case measure => simp [intOf]; omega
    · have ht : ls.take k = ls := List.take_of_length_le (by omega)
      rw [ht] at hown
      clear ht
      go_wp2
      go_ret
      exact ⟨_, rfl, hown, hbel⟩
end Go.Proofs.YtpmknkagnkagpaaGreat.PC

/- params: the reference's granule and RealmBytes. -/
namespace Go.Proofs.YtpmknkagnkagpaaGreat.PC
open Go.RowKit

theorem resultsG {fn : Func} {p : Tmp} (h : fn.results = #[.cell p 27]) (tmps : Array Value) (w : World) (g : Nat) (cs : Array Value)
    (hp : tmps.getD p undef = .pointer (some ⟨g, 0, none⟩)) (hg : w.heap[g]? = some (.cells cs 27 (0, 0))) (hi : (Tryz.prog.info? 27).map (·.size) = some cs.size) :
    (results fn tmps).run Tryz.prog w = .ok (.agg cs) w := results_cell_row h tmps w g 27 cs (0, 0) _ hp hg Tryz.underlying27 rfl hi
theorem pd_copy (l : List UInt8) (h : l.length ≤ 128) : splice Z128 0 l = pd l := by
  have := pd_lay [] l l.length (Nat.le_refl _) (by simpa using h)
  rw [pd_nil] at this
  simpa using this
structure GS (w : World) (ZL : List Value) (X : World) : Prop where
  bel : Below w.heap.size w X
  res : X.heap[w.heap.size]? = some (.cells ZL.toArray 27 (0, 0))
  gr : X.heap[w.heap.size + 1]? = some (.cells ZL.toArray 27 (0, 0))
theorem GS.start (w : World) (ZL : List Value) : GS w ZL ((w.alloc (.cells ZL.toArray 27 (0, 0))).alloc (.cells ZL.toArray 27 (0, 0))) :=
  ⟨((Below.refl _ _).alloc (Nat.le_refl _) _).alloc (by simp) _, (Below.heap_alloc _ _ _ (by simp)).trans (heap_alloc_new _ _), heap_at _ _ _ (by simp)⟩
theorem GS.below {w : World} {ZL : List Value} {X Y : World} (h : GS w ZL X) (hb : Below X.heap.size X Y) : GS w ZL Y := by
  obtain ⟨h1, h2, h3⟩ := h
  exact ⟨h1.trans (hb.mono h1.size), (hb.block _ (row_lt h2)).trans h2, (hb.block _ (row_lt h3)).trans h3⟩
set_option maxHeartbeats 1000000 in
theorem granule_any (g cap : Nat) (ls : List (List UInt8)) (w : World) (hl : ls.length ≤ 64) (hf : ls.flatten.length ≤ 128) (hc : HL w g ls) :
    Calls Tryz.prog 60 #[.slice (some ⟨g, 0, none⟩) ls.length cap] w fun e w' => e = .returned (.agg ((pd ls.flatten).map B8).toArray) ∧ Below w.heap.size w w' := by
  have hzg := fun W => zero_gr W
  obtain ⟨ZL, hZL⟩ : ∃ L, L = Z128.map B8 := ⟨_, rfl⟩
  rw [← hZL] at hzg
  have HGL : Hid (ZL.length = 128) := by show _ = _; rw [hZL, List.length_map, z128_len]
  have HZL : Hid _ := hZL
  clear hZL
  obtain ⟨GL, hGL⟩ : ∃ L, L = (pd ls.flatten).map B8 := ⟨_, rfl⟩
  have hgl : GL.length = 128 := by rw [hGL, List.length_map, pd_len _ hf]
  have HII : Hid _ := info128 GL hgl
  have HIA : Hid _ := info128a GL.toArray (by simpa using hgl)
  have HI1 : Hid (GL.toArray.all (·.oneCell') = true) := by show _ = _; rw [hGL]; exact B8_onea _
  have HIS : Hid (ZL.toArray.size = GL.toArray.size) := by show _ = _; simp [HGL.out, hgl]
  have HIN : Hid (GL.toArray.size = 128) := by show _ = _; simpa using hgl
  have HGLL : Hid _ := hGL
  rw [← hGL]
  have HSP : Hid (splice ZL 0 (ls.flatten.map B8) = GL) := by show _ = _; rw [HZL.out, hGL, splice_map, pd_copy _ hf]
  have HG0 : Hid (GS w ZL _) := GS.start w ZL
  have HC : Hid (HL _ g ls) := (hc.below HG0.out.bel).below (Below.refl _ _).drew
  have HGD : Hid (GS w ZL _) := HG0.out.below (Below.refl _ _).drew
  have HF : Hid _ := hf
  clear hGL hgl hc hf
  have hsl := fun W => slice_gr W (w.heap.size + 1)
  go_enter Tryz.func60, Tryz.ntmps60
  go_wp2
  refine wp_region_held_drew (S := fun X => True) (by kernel_rfl) trivial (fun hHeld => ?_)
  refine wpAnyH_take (i := 0) (oi := ⟨some 4, .slice 27 (.tmp 3) none none none, 78, _, #[], none⟩) (v := .slice (some ⟨w.heap.size + 1, 0, none⟩) 128 128) rfl (by kernel_rfl) (by kernel_rfl) (by kernel_rfl) (fun _ _ _ h => h) (Or.inl ⟨by rfl, fun w' hw' => ?_⟩) hHeld ?_
  · first | (go_simp; done) | (go_simp; rfl)
  try simp only [Act.put, qT, q0, qS]
  refine wpAnyH_take (i := 1) (oi := ⟨some 5, .move (.tmp 0), 97, _, #[], none⟩) (v := .slice (some ⟨g, 0, none⟩) ls.length cap) rfl (by kernel_rfl) (by kernel_rfl) (by kernel_rfl) (fun _ _ _ h => h) (Or.inl ⟨by rfl, fun w' hw' => ?_⟩) hHeld ?_
  · first | (go_simp; done) | (go_simp; rfl)
  try simp only [Act.put, qT, q0, qS]
  refine wpAnyH_ready (rs := [2]) (by kernel_rfl) (by simp) ?_
  refine AllReadyH.cons (o := { dst := some 6, op := .call { callee := Go.Callee.value (.func 43), args := #[.tmp 5], argTypes := #[97] }, type := 78, pos := _, after := #[⟨1, .data⟩], guard := none }) rfl (fun K hK => ?_) AllReadyH.nil
  rw [if_pos (by rfl)]
  go_wp2_with fail
  refine Calls.mono (refJoin_any g cap ls _ (by omega) (by have := HF.out; omega) HC.out) ?_
  rintro e w3 ⟨v3, rfl, hf3, hb3⟩
  have HW3 : Hid _ := HGD.out.below hb3
  have hh3 := hf3.hb
  obtain ⟨p3, c3, rfl, hpn, hpc⟩ := hb_cells hh3
  refine hK.out _ _ trivial (fun _ => ?_)
  clear hK K
  try simp only [Act.put, qT, q0, qS]
  refine wpAnyH_ready (rs := [3]) (by kernel_rfl) (by simp) ?_
  refine AllReadyH.cons (o := { dst := some 7, op := .call { callee := Go.Callee.builtin Go.Builtin.copy, args := #[.tmp 4, .tmp 6], argTypes := #[78, 78] }, type := 3, pos := _, after := #[⟨0, .data⟩, ⟨2, .data⟩, ⟨2, .chain⟩], guard := none }) rfl (fun K hK => ?_) AllReadyH.nil
  rw [if_pos (by rfl)]
  refine wp_copy_seg (.tmp 4) (.tmp 6) rfl (w.heap.size + 1) 0 128 128 p3 ls.flatten.length c3 rfl rfl ZL 27 HW3.out.gr (ls.flatten.map B8) ?_ ?_ ?_ (B8_one _) ?_
  · rw [List.length_map]; exact (Nat.min_eq_left HF.out).symm
  · intro h0
    cases p3 with
    | none => rw [(hpn rfl).1] at h0; simp at h0
    | some a => exact ⟨a, rfl, hpc a rfl⟩
  · rw [List.length_map, HGL.out]; have := HF.out; omega
  rw [HSP.out]
  have HR4 : Hid _ := setRow_heap _ _ _ GL.toArray _ _ HW3.out.gr
  have HR0 : Hid ((w3.setRow (w.heap.size + 1) GL.toArray).heap[w.heap.size]? = some (.cells ZL.toArray 27 (0, 0))) := by show _ = _; rw [setRow_other _ _ _ _ (by omega)]; exact HW3.out.res
  have HB4 : Hid (Below w.heap.size w (w3.setRow (w.heap.size + 1) GL.toArray)) := below_setRow HW3.out.bel (by omega) _
  generalize w3.setRow (w.heap.size + 1) GL.toArray = w4 at *
  refine hK.out _ _ trivial (fun _ => ?_)
  clear hK K
  try simp only [Act.put, qT, q0, qS]
  refine wpAnyH_done (by kernel_rfl) ?_ _
  clear hHeld HC HGD HW3 hf3 hb3 hh3 hpn hpc HSP hsl HF
  go_wp2_with (first
    | (refine wpList_load_row rfl 27 _ rfl (w.heap.size + 1) rfl 27 GL.toArray (0, 0) _ HR4.out Tryz.underlying27 rfl HIA.out ?_)
    | (refine wpList_store_row rfl 27 _ _ rfl w.heap.size GL.toArray rfl rfl 27 ZL.toArray HR0.out HIA.out HIS.out HI1.out ?_))
  refine bodyPost_ret (v := .agg GL.toArray) (resultsG Tryz.results60 _ _ w.heap.size GL.toArray rfl (setRow_heap _ _ _ _ _ _ HR0.out) HIA.out) rfl ⟨rfl, below_setRow HB4.out (Nat.le_refl _) _⟩
structure RB (w : World) (tp : TypeId) (PL : List Value) (X : World) : Prop where
  bel : Below w.heap.size w X
  par : X.heap[w.heap.size]? = some (.cells PL.toArray tp (0, 0))
  res : ∃ Z : Array Value, Z.size = 128 ∧ X.heap[w.heap.size + 1]? = some (.cells Z 27 (0, 0))
theorem RB.start (w : World) (tp : TypeId) (PL ZL : List Value) (h : ZL.length = 128) : RB w tp PL ((w.alloc (.cells PL.toArray tp (0, 0))).alloc (.cells ZL.toArray 27 (0, 0))) :=
  ⟨((Below.refl _ _).alloc (Nat.le_refl _) _).alloc (by simp) _, (Below.heap_alloc _ _ _ (by simp)).trans (heap_alloc_new _ _), ⟨_, by simpa using h, heap_at _ _ _ (by simp)⟩⟩
theorem RB.below {w : World} {tp : TypeId} {PL : List Value} {X Y : World} (h : RB w tp PL X) (hb : Below X.heap.size X Y) : RB w tp PL Y := by
  obtain ⟨h1, h2, Z, z1, z2⟩ := h
  exact ⟨h1.trans (hb.mono h1.size), (hb.block _ (row_lt h2)).trans h2, ⟨Z, z1, (hb.block _ (row_lt z2)).trans z2⟩⟩
theorem RB.put {w : World} {tp : TypeId} {PL : List Value} {X : World} (h : RB w tp PL X) (G : Array Value) (hG : G.size = 128) : RB w tp PL (X.setRow (w.heap.size + 1) G) := by
  obtain ⟨h1, h2, Z, z1, z2⟩ := h
  exact ⟨below_setRow h1 (by omega) _, (setRow_other _ _ _ _ (by omega)).trans h2, ⟨G, hG, setRow_heap _ _ _ _ _ _ z2⟩⟩
theorem hl3 (X : World) (a b c : Value) (la lb lc : List UInt8) (ha : HB X a la) (hb : HB X b lb) (hc : HB X c lc) : HL (X.alloc (.cells #[a, b, c] 78 (0, 0))) X.heap.size [la, lb, lc] := fun i hi => by
  have hr := heap_alloc_new X (.cells #[a, b, c] 78 (0, 0))
  match i, hi with
  | 0, _ => exact ⟨a, by rw [cell_of_row _ _ 0 _ _ _ hr]; rfl, hb_alloc ha _⟩
  | 1, _ => exact ⟨b, by rw [cell_of_row _ _ 1 _ _ _ hr]; rfl, hb_alloc hb _⟩
  | 2, _ => exact ⟨c, by rw [cell_of_row _ _ 2 _ _ _ hr]; rfl, hb_alloc hc _⟩
theorem hl4 (X : World) (a b c d : Value) (la lb lc ld : List UInt8) (ha : HB X a la) (hb : HB X b lb) (hc : HB X c lc) (hd : HB X d ld) : HL (X.alloc (.cells #[a, b, c, d] 78 (0, 0))) X.heap.size [la, lb, lc, ld] := fun i hi => by
  have hr := heap_alloc_new X (.cells #[a, b, c, d] 78 (0, 0))
  match i, hi with
  | 0, _ => exact ⟨a, by rw [cell_of_row _ _ 0 _ _ _ hr]; rfl, hb_alloc ha _⟩
  | 1, _ => exact ⟨b, by rw [cell_of_row _ _ 1 _ _ _ hr]; rfl, hb_alloc hb _⟩
  | 2, _ => exact ⟨c, by rw [cell_of_row _ _ 2 _ _ _ hr]; rfl, hb_alloc hc _⟩
  | 3, _ => exact ⟨d, by rw [cell_of_row _ _ 3 _ _ _ hr]; rfl, hb_alloc hd _⟩
theorem mark_at (s : ByteArray) (k : Nat) (l : List UInt8) (w : World) (hk : s.size + k = 8) (h1 : 1 ≤ k) (hl : sb s ++ List.replicate k 0 = l) :
    Calls Tryz.prog 61 #[.string s] w fun e w' => ∃ p c, e = .returned (.slice p 8 c) ∧ HB w' (.slice p 8 c) l ∧ Below w.heap.size w w' := by
  refine (mark_any s k w hk h1).mono ?_
  rintro e w' ⟨v, rfl, hh, hb⟩
  rw [hl] at hh
  obtain ⟨p, c, e, _, _⟩ := hb_cells hh
  have h8 : l.length = 8 := by rw [← hl, List.length_append, sb_len, List.length_replicate]; exact hk
  rw [h8] at e
  subst e
  exact ⟨p, c, rfl, hh, hb⟩
theorem word_at (n : Nat) (w : World) (hn : n < 18446744073709551616) :
    Calls Tryz.prog 59 #[.int .u64 (n : Int)] w fun e w' => ∃ p c, e = .returned (.slice p 8 c) ∧ HB w' (.slice p 8 c) (W1.le 8 n) ∧ Below w.heap.size w w' := by
  refine (refWord_any n w hn).mono ?_
  rintro e w' ⟨v, rfl, hf, hb⟩
  have hh := hf.hb
  obtain ⟨p, c, e, _, _⟩ := hb_cells hh
  rw [W1.le_length] at e
  subst e
  exact ⟨p, c, rfl, hh, hb⟩
end Go.Proofs.YtpmknkagnkagpaaGreat.PC

/- params: the reference's RecBytes. -/
namespace Go.Proofs.YtpmknkagnkagpaaGreat.PC
open Go.RowKit

theorem fb_below {B : Nat} {v : Value} {l : List UInt8} {w w' : World} (h : FB B w v l) (hb : Below w.heap.size w w') : FB B w' v l :=
  h.kept (row := none) ⟨hb.os, hb.tape, hb.output, hb.size, fun j hj _ => hb.block j hj⟩ (by cases hv : v.ownBlock <;> simp)
theorem RB.below2 {w : World} {tp : TypeId} {PL : List Value} {X Y : World} (h : RB w tp PL X) (hb : Below (w.heap.size + 2) X Y) : RB w tp PL Y := by
  obtain ⟨h1, h2, Z, z1, z2⟩ := h
  exact ⟨h1.trans (hb.mono (by omega)), (hb.block _ (by omega)).trans h2, ⟨Z, z1, (hb.block _ (by omega)).trans z2⟩⟩
theorem RB.size {w : World} {tp : TypeId} {PL : List Value} {X : World} (h : RB w tp PL X) : w.heap.size + 2 ≤ X.heap.size := by
  obtain ⟨_, _, Z, z1, z2⟩ := h
  have := row_lt z2
  omega
def fl (rs : List Nat) (k : Nat) : List UInt8 := (rs.take k).flatMap (W1.le 8)
theorem fl_len (rs : List Nat) (k : Nat) (h : k ≤ rs.length) : (fl rs k).length = 8 * k := by unfold fl; rw [flat_len, List.length_take, Nat.min_eq_left h]
theorem fl_step (rs : List Nat) (k : Nat) (h : k < rs.length) : fl rs k ++ W1.le 8 (rs.getD k 0) = fl rs (k + 1) := by
  unfold fl
  have hg : rs.getD k 0 = rs[k] := by simp [List.getD, List.getElem?_eq_getElem h]
  rw [List.take_succ_eq_append_getElem h, List.flatMap_append, hg]
  simp
theorem granule4 (pc : Nat) (rs : List Nat) (r : Bool) (hr : rs.length = 8) (X : World) (g : Nat) (h : HL X g [[114, 101, 99, 0, 0, 0, 0, 0], W1.le 8 pc, fl rs 8, [if r then 1 else 0]]) :
    Calls Tryz.prog 60 #[.slice (some ⟨g, 0, none⟩) 4 4] X fun e w' => e = .returned (.agg ((cbL pc rs r).map B8).toArray) ∧ Below X.heap.size X w' := by
  have e : cbL pc rs r = pd [[114, 101, 99, 0, 0, 0, 0, 0], W1.le 8 pc, fl rs 8, [if r then 1 else 0]].flatten := by unfold cbL cbP cb0 fl; simp
  rw [e]
  exact granule_any g 4 _ X (by simp) (by simp [fl_len rs 8 (by omega), W1.le_length]) h
set_option maxHeartbeats 4000000 in
set_option maxRecDepth 100000 in
theorem rcb_any (pc : Nat) (rs : List Nat) (r : Bool) (w : World) (hr : rs.length = 8) (hp : pc < 18446744073709551616) (hrs : ∀ x ∈ rs, x < 18446744073709551616) :
    Calls Tryz.prog 45 #[.agg (rcL pc rs r).toArray] w fun e w' => e = .returned (.agg ((cbL pc rs r).map B8).toArray) ∧ Below w.heap.size w w' := by
  have hpl := rcL_len pc rs r hr
  have HPP : Hid ((rcL pc rs r)[0]? = some (.int .u64 (pc : Int))) := rcL_pc pc rs r
  have HPR8 : Hid (∀ i, i < 8 → (rcL pc rs r)[1 + i]? = some (.int .u64 ((rs.getD i 0 : Nat) : Int))) := fun i hi => rcL_r pc rs r i (by omega)
  have HPB : Hid ((rcL pc rs r)[9]? = some (.bool r)) := rcL_b pc rs r hr
  generalize rcL pc rs r = PL at *
  have hzg := fun W => zero_gr W
  obtain ⟨ZL, hZL⟩ : ∃ L, L = Z128.map B8 := ⟨_, rfl⟩
  rw [← hZL] at hzg
  have HGL : Hid (ZL.length = 128) := by show _ = _; rw [hZL, List.length_map, z128_len]
  have HZL : Hid _ := hZL
  clear hZL
  obtain ⟨GL, hGL⟩ : ∃ L, L = (cbL pc rs r).map B8 := ⟨_, rfl⟩
  have hgl : GL.length = 128 := by rw [hGL, List.length_map, cbL_len pc rs r hr]
  have HIA : Hid _ := info128a GL.toArray (by simpa using hgl)
  have HI1 : Hid (GL.toArray.all (·.oneCell') = true) := by show _ = _; rw [hGL]; exact B8_onea _
  have HIN : Hid (GL.toArray.size = 128) := by show _ = _; simpa using hgl
  have hGr := granule4 pc rs r hr
  rw [← hGL] at hGr ⊢
  have HGr : Hid _ := hGr
  have hMk := fun W => mark_at ⟨#[114, 101, 99]⟩ 5 [114, 101, 99, 0, 0, 0, 0, 0] W (by decide) (by decide) (by decide)
  have hWd := fun W => word_at pc W hp
  have HNR : Hid (∀ i, i < 8 → rs.getD i 0 < 18446744073709551616) := fun i hi => by
    have h8 : i < rs.length := by omega
    rw [show rs.getD i 0 = rs[i] by simp [List.getD, List.getElem?_eq_getElem h8]]
    exact hrs _ (List.getElem_mem h8)
  have HR0 : Hid _ := RB.start w 31 PL ZL HGL.out
  have HR8 : Hid _ := hr
  generalize hLE : W1.le 8 pc = LE at *
  generalize hMK : ([114, 101, 99, 0, 0, 0, 0, 0] : List UInt8) = MK at *
  clear hGL hgl hpl hr hGr hLE hMK hrs hp
  go_enter Tryz.func45, Tryz.ntmps45
  go_wp2
  go_loopw [3, 4] (fun v i wr => ∃ k : Nat, k ≤ 8 ∧ i = .int .i64 k ∧ Hid (RB w 31 PL wr ∧ FB (w.heap.size + 2) wr v (fl rs k))) (fun _ i _ => 8 - (intOf i).toNat)
  case atStart => exact ⟨0, by omega, rfl, HR0.out, World.ownsRow_nil _ _ _ _⟩
  case round =>
    obtain ⟨k, hk, rfl, HK⟩ := hrel
    clear HR0
    generalize wr = W at *
    obtain ⟨p3, c3, e3⟩ := fb_form HK.out.2
    by_cases hlt : k < 8
    · have HLN : Hid _ := fl_len rs k (by rw [HR8.out]; exact hk)
      rw [HLN.out] at e3
      subst e3
      have hcn : W.cell? ⟨w.heap.size, 1 + k, none⟩ = some (.int .u64 ((rs.getD k 0 : Nat) : Int)) := by
        rw [cell_of_row _ _ (1 + k) _ _ _ HK.out.1.par, List.getElem?_toArray]; exact HPR8.out k hlt
      have hW := fun X => word_at (rs.getD k 0) X (HNR.out k hlt)
      have HST : Hid _ := fl_step rs k (by rw [HR8.out]; exact hlt)
      generalize rs.getD k 0 = x at *
      generalize W1.le 8 x = LX at *
      generalize fl rs k = P0 at *
      obtain ⟨P1, hP1⟩ : ∃ P1, P1 = fl rs (k + 1) := ⟨_, rfl⟩
      rw [← hP1] at HST
      have HP1 : Hid _ := hP1
      clear hP1
      go_wp2_with fail
      refine Calls.mono (hW _) ?_
      rintro e w6 ⟨p6, c6, rfl, hh6, hb6⟩
      have HH6 : Hid (HB w6 (.slice p6 8 c6) LX) := hh6
      have HF6 : Hid (FB (w.heap.size + 2) w6 (.slice p3 (8 * k) c3) P0) := fb_below HK.out.2 hb6
      have HK6 : Hid _ := HK.out.1.below hb6
      have hsz : w.heap.size + 2 ≤ w6.heap.size := HK6.out.size
      have HLX : Hid (LX.length ≤ 8) := by
        obtain ⟨pp, cc, e1, _⟩ := hb_cells hh6
        have : 8 = LX.length := by injection e1
        show _ ≤ _; omega
      clear hh6 hb6 HK hW hcn
      go_wp2_with (at_builtin; refine wpList_appHB rfl (.tmp 10) (.tmp 15) rfl (w.heap.size + 2) _ _ P0 LX rfl rfl HF6.out HH6.out (by have h1 := HLX.out; have h2 := HLN.out; omega) hsz ?_; intro v1 w1 hown1 hgr1)
      have hb1 : Below (w.heap.size + 2) w6 w1 := (Below.refl _ _).grown hgr1 hsz (fun j hj => (fb_ge HF6.out j hj).1)
      have HK7 : Hid _ := HK6.out.below2 hb1
      clear hb1 hgr1 HK6
      go_roundw
      case rel => exact ⟨k + 1, by omega, by go_num, HK7.out, by rw [← HP1.out, ← HST.out]; exact hown1⟩
      case measure => simp [intOf]; omega
    · have hk8 : k = 8 := by omega
      rw [hk8] at HK e3
      rw [fl_len rs 8 (by rw [HR8.out]; decide)] at e3
      subst e3
      have hcb : W.cell? ⟨w.heap.size, 9, none⟩ = some (.bool r) := by
        rw [cell_of_row _ _ 9 _ _ _ HK.out.1.par, List.getElem?_toArray]; exact HPB.out
      have hcb2 : (W.alloc (.cells #[.int .u8 0] 5 (0, 0))).cell? ⟨w.heap.size, 9, none⟩ = some (.bool r) := (((Below.refl _ _).alloc (Nat.le_refl _) _).cell (p := ⟨w.heap.size, 9, none⟩) (by have := HK.out.1.size; show w.heap.size < W.heap.size; omega)).trans hcb
      have HX1 : Hid _ := HK.out.1.below ((Below.refl _ _).alloc (Nat.le_refl _) (.cells #[.int .u8 0] 5 (0, 0)))
      have HXK : Hid _ := HK.out.1
      have HXW : Hid (HB W (.slice p3 (8 * 8) c3) (fl rs 8)) := HK.out.2.hb
      have HXF1 : Hid (HB (W.alloc (.cells #[.int .u8 0] 5 (0, 0))) (.slice p3 (8 * 8) c3) (fl rs 8)) := hb_alloc HK.out.2.hb _
      have hn1 := heap_alloc_new W (.cells #[.int .u8 0] 5 (0, 0))
      have hsz1 : w.heap.size + 2 ≤ W.heap.size := HK.out.1.size
      clear HK hk8 hcb
      generalize fl rs 8 = FL at *
      cases r with
      | false =>
        have HXB1 : Hid (HB (W.alloc (.cells #[.int .u8 0] 5 (0, 0))) (.slice (some ⟨W.heap.size, 0, none⟩) 1 1) [if false then 1 else 0]) := hb_new W [0] _ _ _ 1 rfl rfl (by decide)
        generalize ([if false then 1 else 0] : List UInt8) = BL at *
        have HX : Hid _ := HX1.out.below (Below.refl _ _).drew
        have HXF : Hid (HB (W.alloc (.cells #[.int .u8 0] 5 (0, 0))).drew (.slice p3 64 c3) FL) := HB.below HXF1.out (Below.refl _ _).drew
        have HXB : Hid (HB (W.alloc (.cells #[.int .u8 0] 5 (0, 0))).drew (.slice (some ⟨W.heap.size, 0, none⟩) 1 1) BL) := HB.below HXB1.out (Below.refl _ _).drew
        clear HX1 HXF1 HXB1 HXW
        go_wp2
        generalize hX : W.alloc (.cells #[.int .u8 0] 5 (0, 0)) = X at *
        generalize hb5 : W.heap.size = b5 at *
        clear hX hb5 hcb2 hn1
        refine wp_region_held_drew (S := RB w 31 PL) (by kernel_rfl) HX.out (fun hHeld => ?_)
        refine wpAnyH_take (i := 1) (oi := ⟨some 23, .fieldAddr 31 (.tmp 1) 0, 0, _, #[], none⟩) (v := .pointer (some ⟨w.heap.size, 0, none⟩)) rfl (by kernel_rfl) (by kernel_rfl) (by kernel_rfl) (fun _ _ _ h => h) (Or.inl ⟨by rfl, fun w' hw' => ?_⟩) hHeld ?_
        · first | (go_simp; done) | (go_simp; rfl)
        try simp only [Act.put, qT, q0, qS]
        refine wpAnyH_take (i := 2) (oi := ⟨some 24, .load 28 (.tmp 23), 28, _, #[⟨1, .data⟩], none⟩) (v := .int .u64 (pc : Int)) rfl (by kernel_rfl) (by kernel_rfl) (by kernel_rfl) (fun _ _ _ h => h) (Or.inl ⟨by rfl, fun w' hw' => ?_⟩) hHeld ?_
        · have hcc : w'.cell? ⟨w.heap.size, 0, none⟩ = some (.int .u64 (pc : Int)) := by { rw [cell_of_row _ _ 0 _ _ _ hw'.par, List.getElem?_toArray]; exact HPP.out }; first | (go_simp; done) | (go_simp; rfl)
        try simp only [Act.put, qT, q0, qS]
        refine wpAnyH_take (i := 4) (oi := ⟨some 26, .move (.tmp 3), 78, _, #[], none⟩) (v := .slice p3 64 c3) rfl (by kernel_rfl) (by kernel_rfl) (by kernel_rfl) (fun _ _ _ h => h) (Or.inl ⟨by rfl, fun w' hw' => ?_⟩) hHeld ?_
        · first | (go_simp; done) | (go_simp; rfl)
        try simp only [Act.put, qT, q0, qS]
        refine wpAnyH_take (i := 5) (oi := ⟨some 27, .move (.tmp 5), 78, _, #[], none⟩) (v := .slice (some ⟨b5, 0, none⟩) 1 1) rfl (by kernel_rfl) (by kernel_rfl) (by kernel_rfl) (fun _ _ _ h => h) (Or.inl ⟨by rfl, fun w' hw' => ?_⟩) hHeld ?_
        · first | (go_simp; done) | (go_simp; rfl)
        try simp only [Act.put, qT, q0, qS]
        refine wpAnyH_ready (rs := [0]) (by kernel_rfl) (by simp) ?_
        refine AllReadyH.cons (o := { dst := some 22, op := .call { callee := Go.Callee.value (.func 61), args := #[.const (Go.Value.string { data := #[114, 101, 99] })], argTypes := #[9] }, type := 78, pos := _, after := #[], guard := none }) rfl (fun K hK => ?_) AllReadyH.nil
        rw [if_pos (by rfl)]
        go_wp2_with fail
        refine Calls.mono (hMk _) ?_
        rintro e w3 ⟨p6, c6, rfl, hh3, hb3⟩
        have hHeld3 := hHeld.below hb3
        have HH3 : Hid (HB w3 (.slice p6 8 c6) MK) := hh3
        have HF3 : Hid (HB w3 (.slice p3 64 c3) FL) := HB.below HXF.out hb3
        have HO3 : Hid (HB w3 (.slice (some ⟨b5, 0, none⟩) 1 1) BL) := HB.below HXB.out hb3
        clear hh3 hb3 hHeld HX HXF HXB
        refine hK.out _ _ hHeld3 (fun _ => ?_)
        clear hK K
        try simp only [Act.put, qT, q0, qS]
        refine wpAnyH_ready (rs := [3]) (by kernel_rfl) (by simp) ?_
        refine AllReadyH.cons (o := { dst := some 25, op := .call { callee := Go.Callee.value (.func 59), args := #[.tmp 24], argTypes := #[28] }, type := 78, pos := _, after := #[⟨2, .data⟩, ⟨0, .chain⟩], guard := none }) rfl (fun K hK => ?_) AllReadyH.nil
        rw [if_pos (by rfl)]
        go_wp2_with fail
        refine Calls.mono (hWd _) ?_
        rintro e w4 ⟨p4, c4, rfl, hh4, hb4⟩
        have hHeld4 := hHeld3.below hb4
        have HH4 : Hid (HB w4 (.slice p4 8 c4) LE) := hh4
        have HM4 : Hid (HB w4 (.slice p6 8 c6) MK) := HB.below HH3.out hb4
        have HF4 : Hid (HB w4 (.slice p3 64 c3) FL) := HB.below HF3.out hb4
        have HO4 : Hid (HB w4 (.slice (some ⟨b5, 0, none⟩) 1 1) BL) := HB.below HO3.out hb4
        clear hh4 hb4 hHeld3 HH3 HF3 HO3
        refine hK.out _ _ hHeld4 (fun _ => ?_)
        clear hK K
        try simp only [Act.put, qT, q0, qS]
        refine wpAnyH_ready (rs := [6]) (by kernel_rfl) (by simp) ?_
        refine AllReadyH.cons (o := ⟨some 28, .buildSlice 97 4 #[(0, .tmp 22), (1, .tmp 25), (2, .tmp 26), (3, .tmp 27)], 97, _, #[⟨0, .data⟩, ⟨3, .data⟩, ⟨4, .data⟩, ⟨5, .data⟩], none⟩) rfl (fun K hK => ?_) AllReadyH.nil
        rw [if_pos (by rfl)]
        go_wp2_with fail
        have HHL : Hid (HL (w4.alloc (.cells #[.slice p6 8 c6, .slice p4 8 c4, .slice p3 64 c3, .slice (some ⟨b5, 0, none⟩) 1 1] 78 (0, 0))) w4.heap.size [MK, LE, FL, BL]) := hl4 w4 _ _ _ _ _ _ _ _ HM4.out HH4.out HF4.out HO4.out
        have hHeld5 := hHeld4.below ((Below.refl _ _).alloc (Nat.le_refl _) (.cells #[.slice p6 8 c6, .slice p4 8 c4, .slice p3 64 c3, .slice (some ⟨b5, 0, none⟩) 1 1] 78 (0, 0)))
        clear hHeld4 HM4 HF4 HO4 HH4
        refine hK.out _ _ hHeld5 (fun _ => ?_)
        clear hK K
        try simp only [Act.put, qT, q0, qS]
        refine wpAnyH_ready (rs := [7]) (by kernel_rfl) (by simp) ?_
        refine AllReadyH.cons (o := { dst := some 29, op := .call { callee := Go.Callee.value (.func 60), args := #[.tmp 28], argTypes := #[97] }, type := 27, pos := _, after := #[⟨6, .data⟩, ⟨3, .chain⟩], guard := none }) rfl (fun K hK => ?_) AllReadyH.nil
        rw [if_pos (by rfl)]
        go_wp2_with fail
        refine Calls.mono (HGr.out _ _ HHL.out) ?_
        rintro e w6 ⟨rfl, hb6⟩
        have hHeld6 := hHeld5.below hb6
        clear hHeld5 HHL hb6
        refine hK.out _ _ hHeld6 (fun _ => ?_)
        clear hK K
        try simp only [Act.put, qT, q0, qS]
        refine wpAnyH_ready (rs := [8]) (by kernel_rfl) (by simp) ?_
        refine AllReadyH.cons (o := ⟨none, .store 27 (.tmp 2) (.tmp 29), 0, _, #[⟨7, .data⟩, ⟨7, .chain⟩, ⟨0, .phase⟩, ⟨1, .phase⟩, ⟨2, .phase⟩, ⟨3, .phase⟩, ⟨4, .phase⟩, ⟨5, .phase⟩, ⟨6, .phase⟩, ⟨7, .phase⟩], none⟩) rfl (fun K hK => ?_) AllReadyH.nil
        rw [if_pos (by rfl)]
        obtain ⟨Z, hz1, hz2⟩ := hHeld6.res
        refine wp_store_row 27 _ _ rfl (w.heap.size + 1) GL.toArray rfl rfl 27 Z hz2 HIA.out (hz1.trans HIN.out.symm) HI1.out ?_
        have hHeld7 := hHeld6.put GL.toArray HIN.out
        have HR7 : Hid _ := setRow_heap _ _ _ GL.toArray _ _ hz2
        have HB7 : Hid _ := hHeld7.bel
        generalize w6.setRow (w.heap.size + 1) GL.toArray = w7 at *
        refine hK.out _ _ hHeld7 (fun _ => ?_)
        clear hK K
        try simp only [Act.put, qT, q0, qS]
        refine wpAnyH_done (by kernel_rfl) ?_ _
        clear hHeld6 hHeld7 hz2 HGr hMk hWd
        go_wp2
        refine bodyPost_ret (v := .agg GL.toArray) (resultsG Tryz.results45 _ _ (w.heap.size + 1) GL.toArray rfl HR7.out HIA.out) rfl ⟨rfl, HB7.out⟩
      | true =>
        have HX2 : Hid _ := HXK.out.below ((Below.refl _ _).alloc (Nat.le_refl _) (.cells #[.int .u8 1] 5 (0, 0)))
        have HXF2 : Hid (HB (W.alloc (.cells #[.int .u8 1] 5 (0, 0))) (.slice p3 64 c3) FL) := hb_alloc HXW.out _
        have HXB1 : Hid (HB (W.alloc (.cells #[.int .u8 1] 5 (0, 0))) (.slice (some ⟨W.heap.size, 0, none⟩) 1 1) [if true then 1 else 0]) := hb_new W [1] _ _ _ 1 rfl rfl (by decide)
        generalize ([if true then 1 else 0] : List UInt8) = BL at *
        have HX : Hid _ := HX2.out.below (Below.refl _ _).drew
        have HXF : Hid (HB (W.alloc (.cells #[.int .u8 1] 5 (0, 0))).drew (.slice p3 64 c3) FL) := HB.below HXF2.out (Below.refl _ _).drew
        have HXB : Hid (HB (W.alloc (.cells #[.int .u8 1] 5 (0, 0))).drew (.slice (some ⟨W.heap.size, 0, none⟩) 1 1) BL) := HB.below HXB1.out (Below.refl _ _).drew
        clear HX1 HXF1 HXB1 HX2 HXF2 HXW
        go_wp2
        generalize hX : W.alloc (.cells #[.int .u8 1] 5 (0, 0)) = X at *
        generalize hb5 : W.heap.size = b5 at *
        clear hX hb5 hcb2 hn1
        refine wp_region_held_drew (S := RB w 31 PL) (by kernel_rfl) HX.out (fun hHeld => ?_)
        refine wpAnyH_take (i := 1) (oi := ⟨some 23, .fieldAddr 31 (.tmp 1) 0, 0, _, #[], none⟩) (v := .pointer (some ⟨w.heap.size, 0, none⟩)) rfl (by kernel_rfl) (by kernel_rfl) (by kernel_rfl) (fun _ _ _ h => h) (Or.inl ⟨by rfl, fun w' hw' => ?_⟩) hHeld ?_
        · first | (go_simp; done) | (go_simp; rfl)
        try simp only [Act.put, qT, q0, qS]
        refine wpAnyH_take (i := 2) (oi := ⟨some 24, .load 28 (.tmp 23), 28, _, #[⟨1, .data⟩], none⟩) (v := .int .u64 (pc : Int)) rfl (by kernel_rfl) (by kernel_rfl) (by kernel_rfl) (fun _ _ _ h => h) (Or.inl ⟨by rfl, fun w' hw' => ?_⟩) hHeld ?_
        · have hcc : w'.cell? ⟨w.heap.size, 0, none⟩ = some (.int .u64 (pc : Int)) := by { rw [cell_of_row _ _ 0 _ _ _ hw'.par, List.getElem?_toArray]; exact HPP.out }; first | (go_simp; done) | (go_simp; rfl)
        try simp only [Act.put, qT, q0, qS]
        refine wpAnyH_take (i := 4) (oi := ⟨some 26, .move (.tmp 3), 78, _, #[], none⟩) (v := .slice p3 64 c3) rfl (by kernel_rfl) (by kernel_rfl) (by kernel_rfl) (fun _ _ _ h => h) (Or.inl ⟨by rfl, fun w' hw' => ?_⟩) hHeld ?_
        · first | (go_simp; done) | (go_simp; rfl)
        try simp only [Act.put, qT, q0, qS]
        refine wpAnyH_take (i := 5) (oi := ⟨some 27, .move (.tmp 5), 78, _, #[], none⟩) (v := .slice (some ⟨b5, 0, none⟩) 1 1) rfl (by kernel_rfl) (by kernel_rfl) (by kernel_rfl) (fun _ _ _ h => h) (Or.inl ⟨by rfl, fun w' hw' => ?_⟩) hHeld ?_
        · first | (go_simp; done) | (go_simp; rfl)
        try simp only [Act.put, qT, q0, qS]
        refine wpAnyH_ready (rs := [0]) (by kernel_rfl) (by simp) ?_
        refine AllReadyH.cons (o := { dst := some 22, op := .call { callee := Go.Callee.value (.func 61), args := #[.const (Go.Value.string { data := #[114, 101, 99] })], argTypes := #[9] }, type := 78, pos := _, after := #[], guard := none }) rfl (fun K hK => ?_) AllReadyH.nil
        rw [if_pos (by rfl)]
        go_wp2_with fail
        refine Calls.mono (hMk _) ?_
        rintro e w3 ⟨p6, c6, rfl, hh3, hb3⟩
        have hHeld3 := hHeld.below hb3
        have HH3 : Hid (HB w3 (.slice p6 8 c6) MK) := hh3
        have HF3 : Hid (HB w3 (.slice p3 64 c3) FL) := HB.below HXF.out hb3
        have HO3 : Hid (HB w3 (.slice (some ⟨b5, 0, none⟩) 1 1) BL) := HB.below HXB.out hb3
        clear hh3 hb3 hHeld HX HXF HXB
        refine hK.out _ _ hHeld3 (fun _ => ?_)
        clear hK K
        try simp only [Act.put, qT, q0, qS]
        refine wpAnyH_ready (rs := [3]) (by kernel_rfl) (by simp) ?_
        refine AllReadyH.cons (o := { dst := some 25, op := .call { callee := Go.Callee.value (.func 59), args := #[.tmp 24], argTypes := #[28] }, type := 78, pos := _, after := #[⟨2, .data⟩, ⟨0, .chain⟩], guard := none }) rfl (fun K hK => ?_) AllReadyH.nil
        rw [if_pos (by rfl)]
        go_wp2_with fail
        refine Calls.mono (hWd _) ?_
        rintro e w4 ⟨p4, c4, rfl, hh4, hb4⟩
        have hHeld4 := hHeld3.below hb4
        have HH4 : Hid (HB w4 (.slice p4 8 c4) LE) := hh4
        have HM4 : Hid (HB w4 (.slice p6 8 c6) MK) := HB.below HH3.out hb4
        have HF4 : Hid (HB w4 (.slice p3 64 c3) FL) := HB.below HF3.out hb4
        have HO4 : Hid (HB w4 (.slice (some ⟨b5, 0, none⟩) 1 1) BL) := HB.below HO3.out hb4
        clear hh4 hb4 hHeld3 HH3 HF3 HO3
        refine hK.out _ _ hHeld4 (fun _ => ?_)
        clear hK K
        try simp only [Act.put, qT, q0, qS]
        refine wpAnyH_ready (rs := [6]) (by kernel_rfl) (by simp) ?_
        refine AllReadyH.cons (o := ⟨some 28, .buildSlice 97 4 #[(0, .tmp 22), (1, .tmp 25), (2, .tmp 26), (3, .tmp 27)], 97, _, #[⟨0, .data⟩, ⟨3, .data⟩, ⟨4, .data⟩, ⟨5, .data⟩], none⟩) rfl (fun K hK => ?_) AllReadyH.nil
        rw [if_pos (by rfl)]
        go_wp2_with fail
        have HHL : Hid (HL (w4.alloc (.cells #[.slice p6 8 c6, .slice p4 8 c4, .slice p3 64 c3, .slice (some ⟨b5, 0, none⟩) 1 1] 78 (0, 0))) w4.heap.size [MK, LE, FL, BL]) := hl4 w4 _ _ _ _ _ _ _ _ HM4.out HH4.out HF4.out HO4.out
        have hHeld5 := hHeld4.below ((Below.refl _ _).alloc (Nat.le_refl _) (.cells #[.slice p6 8 c6, .slice p4 8 c4, .slice p3 64 c3, .slice (some ⟨b5, 0, none⟩) 1 1] 78 (0, 0)))
        clear hHeld4 HM4 HF4 HO4 HH4
        refine hK.out _ _ hHeld5 (fun _ => ?_)
        clear hK K
        try simp only [Act.put, qT, q0, qS]
        refine wpAnyH_ready (rs := [7]) (by kernel_rfl) (by simp) ?_
        refine AllReadyH.cons (o := { dst := some 29, op := .call { callee := Go.Callee.value (.func 60), args := #[.tmp 28], argTypes := #[97] }, type := 27, pos := _, after := #[⟨6, .data⟩, ⟨3, .chain⟩], guard := none }) rfl (fun K hK => ?_) AllReadyH.nil
        rw [if_pos (by rfl)]
        go_wp2_with fail
        refine Calls.mono (HGr.out _ _ HHL.out) ?_
        rintro e w6 ⟨rfl, hb6⟩
        have hHeld6 := hHeld5.below hb6
        clear hHeld5 HHL hb6
        refine hK.out _ _ hHeld6 (fun _ => ?_)
        clear hK K
        try simp only [Act.put, qT, q0, qS]
        refine wpAnyH_ready (rs := [8]) (by kernel_rfl) (by simp) ?_
        refine AllReadyH.cons (o := ⟨none, .store 27 (.tmp 2) (.tmp 29), 0, _, #[⟨7, .data⟩, ⟨7, .chain⟩, ⟨0, .phase⟩, ⟨1, .phase⟩, ⟨2, .phase⟩, ⟨3, .phase⟩, ⟨4, .phase⟩, ⟨5, .phase⟩, ⟨6, .phase⟩, ⟨7, .phase⟩], none⟩) rfl (fun K hK => ?_) AllReadyH.nil
        rw [if_pos (by rfl)]
        obtain ⟨Z, hz1, hz2⟩ := hHeld6.res
        refine wp_store_row 27 _ _ rfl (w.heap.size + 1) GL.toArray rfl rfl 27 Z hz2 HIA.out (hz1.trans HIN.out.symm) HI1.out ?_
        have hHeld7 := hHeld6.put GL.toArray HIN.out
        have HR7 : Hid _ := setRow_heap _ _ _ GL.toArray _ _ hz2
        have HB7 : Hid _ := hHeld7.bel
        generalize w6.setRow (w.heap.size + 1) GL.toArray = w7 at *
        refine hK.out _ _ hHeld7 (fun _ => ?_)
        clear hK K
        try simp only [Act.put, qT, q0, qS]
        refine wpAnyH_done (by kernel_rfl) ?_ _
        clear hHeld6 hHeld7 hz2 HGr hMk hWd
        go_wp2
        refine bodyPost_ret (v := .agg GL.toArray) (resultsG Tryz.results45 _ _ (w.heap.size + 1) GL.toArray rfl HR7.out HIA.out) rfl ⟨rfl, HB7.out⟩
end Go.Proofs.YtpmknkagnkagpaaGreat.PC
