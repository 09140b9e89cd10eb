/- measure: one oracle and rows of the caller's own beside it; what the statements know. -/
import Derived.Test.YtpmknkagnkagpaaGreatZO
set_option linter.unusedVariables false
set_option linter.unusedSimpArgs false
namespace Go.Proofs.YtpmknkagnkagpaaGreat.ZC
open Go.RowKit

theorem po_lower {B B' og mb : Nat} {S : Nat → Prop} {w : World} {o : R5.Pra} {dv ov : Value} (h : R5.PO B og mb S w o dv ov) (hB : B' ≤ B) : R5.PO B' og mb S w o dv ov :=
  ⟨h.ml, h.row, h.draws, h.dro, h.ok, R5.own_lower h.order hB, h.map, h.sog, h.smb, h.sov, fun k hk => Nat.le_trans hB (h.low k hk), h.top⟩
structure KM (w : World) (og mb : Nat) (o : R5.Pra) (rows : List (Nat × List UInt8)) (X : World) : Prop where
  ex : ∃ S dv ov, R5.PO w.heap.size og mb S X o dv ov ∧ Below w.heap.size w X ∧ ∀ r ∈ rows, X.heap[r.1]? = some (.cells (r.2.map B8).toArray 24 (0, 0)) ∧ ¬ S r.1
section
variable {w X Y : World} {og mb : Nat} {o o' : R5.Pra} {rows : List (Nat × List UInt8)} {m A : List UInt8} {r : Rd}
theorem KM.bel (h : KM w og mb o rows X) : Below w.heap.size w X := by obtain ⟨_, _, _, _, h, _⟩ := h.ex; exact h
theorem KM.row (h : KM w og mb o rows X) {r : Nat × List UInt8} (hr : r ∈ rows) : X.heap[r.1]? = some (.cells (r.2.map B8).toArray 24 (0, 0)) := by obtain ⟨_, _, _, _, _, h⟩ := h.ex; exact (h r hr).1
theorem KM.mc (h : KM w og mb o rows X) : X.cell? ⟨og, 35, none⟩ = some (.map (some mb)) := by obtain ⟨_, _, _, h, _, _⟩ := h.ex; exact h.cells.2.2.2.1
theorem KM.step (h : KM w og mb o rows X) (hb : Below X.heap.size X Y) : KM w og mb o rows Y := by
  obtain ⟨S, dv, ov, h1, h2, h3⟩ := h.ex
  exact .mk ⟨S, dv, ov, h1.below hb, h2.trans (hb.mono h2.size), fun r hr => ⟨(hb.block _ (PC.row_lt (h3 r hr).1)).trans (h3 r hr).1, (h3 r hr).2⟩⟩
theorem KM.newrow {ZL : List Value} (h : KM w og mb o rows X) (A : List UInt8) : KM w og mb o ((X.heap.size, A) :: rows) ((X.alloc (.cells ZL.toArray 24 (0, 0))).setRow X.heap.size (A.map B8).toArray) := by
  have hb : Below X.heap.size X ((X.alloc (.cells ZL.toArray 24 (0, 0))).setRow X.heap.size (A.map B8).toArray) := below_setRow ((Below.refl _ _).alloc (Nat.le_refl _) _) (Nat.le_refl _) _
  obtain ⟨S, dv, ov, h1, h2, h3⟩ := h.ex
  refine .mk ⟨S, dv, ov, h1.below hb, h2.trans (hb.mono h2.size), fun r hr => ?_⟩
  rcases List.mem_cons.1 hr with rfl | hr
  · exact ⟨setRow_heap _ _ _ _ _ _ (heap_alloc_new _ _), fun h => by have := h1.top _ h; simp at this⟩
  · exact ⟨(hb.block _ (PC.row_lt (h3 r hr).1)).trans (h3 r hr).1, (h3 r hr).2⟩
theorem KM.ofNew {i : Bool} {m : List UInt8} {ds : List (List UInt8)} {dv : Value} (hb : Below w.heap.size w X) (hp : R5.PO X.heap.size og mb (fun k => k = og ∨ k = mb) Y ⟨i, m, ds, []⟩ dv (.slice none 0 0)) (hY : Below X.heap.size X Y) : KM w og mb ⟨i, m, ds, []⟩ [] Y :=
  .mk ⟨_, dv, _, po_lower hp hb.size, hb.trans (hY.mono hb.size), fun r hr => by cases hr⟩
theorem KM.asked {S : Nat → Prop} {dv v : Value} {e : Ending} (hlow : ∀ k, S k → w.heap.size ≤ k) (h2 : Below w.heap.size w X) (h3 : ∀ r ∈ rows, X.heap[r.1]? = some (.cells (r.2.map B8).toArray 24 (0, 0)) ∧ ¬ S r.1) (h : PR w.heap.size og mb S X o' dv v e Y) : e = .returned v ∧ KM w og mb o' rows Y := by
  obtain ⟨rfl, hf, ov', hq⟩ := h
  have hs2 := h2.size
  refine ⟨rfl, .mk ⟨_, dv, ov', hq, ⟨hf.os.trans h2.os, hf.tape.trans h2.tape, hf.output.trans h2.output, Nat.le_trans h2.size hf.size, fun k hk => (hf.block k (by omega) (fun h => by have := hlow k h; omega)).trans (h2.block k hk)⟩, fun r hr => ?_⟩⟩
  have hl := PC.row_lt (h3 r hr).1
  exact ⟨(hf.block _ hl (h3 r hr).2).trans (h3 r hr).1, fun h => h.elim (h3 r hr).2 (fun h => by omega)⟩
theorem KM.len (h : KM w og mb o rows X) (q : R5.Qn) : (nxP o q).1.length = 32 := by obtain ⟨S, dv, ov, h1, h2, h3⟩ := h.ex; exact nxP_len h1 q
theorem KM.begin (h : KM w og mb o rows X) (hll : o.log.length < 1000000) (V : List UInt8) (n : Nat) (hV : V.length = 32) (hR : nxP o (qOf Z0 (rec1 V)) = (A, o')) :
    Calls Tryz.prog 22 #[.pointer (some ⟨og, 0, none⟩), .agg (PC.rpL V n).toArray] X fun e Y => e = .returned (R5.okV A) ∧ KM w og mb o' rows Y := by
  have hA := h.len (qOf Z0 (rec1 V))
  rw [hR] at hA
  obtain ⟨S, dv, ov, h1, h2, h3⟩ := h.ex
  refine (begin_gen _ V n X _ hV (mc_ok h2.size hll h1 z0_len (rec1_ok hV) rec1_may hA hR)).mono ?_
  intro e Y hE
  exact KM.asked h1.low h2 h3 (gend_ok h2.size h1 hE)
theorem KM.dataOk (h : KM w og mb o rows X) (hll : o.log.length < 1000000) (m : List UInt8) (hm : m.length = 32) (pg : Int) (g : List UInt8) (hg : g.length = 128) (hp : 0 ≤ pg ∧ pg < 128) (hR : nxP o (qOf m (rec2 pg g)) = (A, o')) :
    Calls Tryz.prog 23 #[.pointer (some ⟨og, 0, none⟩), .agg (m.map B8).toArray, .int .i64 pg, .agg (g.map B8).toArray] X fun e Y => e = .returned (R5.okV A) ∧ KM w og mb o' rows Y := by
  have hA := h.len (qOf m (rec2 pg g))
  rw [hR] at hA
  obtain ⟨S, dv, ov, h1, h2, h3⟩ := h.ex
  refine (data_gen _ m pg g X _ hm hg (mc_ok h2.size hll h1 hm (rec2_ok pg hg) (by rw [rec2_may]; exact decide_eq_true hp) hA hR)).mono ?_
  intro e Y hE
  exact KM.asked h1.low h2 h3 (gend_ok h2.size h1 hE)
theorem KM.dataBad (h : KM w og mb o rows X) (m : List UInt8) (hm : m.length = 32) (pg : Int) (g : List UInt8) (hg : g.length = 128) (hp : ¬ (0 ≤ pg ∧ pg < 128)) :
    Calls Tryz.prog 23 #[.pointer (some ⟨og, 0, none⟩), .agg (m.map B8).toArray, .int .i64 pg, .agg (g.map B8).toArray] X fun e Y => e = .returned (R5.errV 2) ∧ KM w og mb o rows Y := by
  refine (data_gen _ m pg g X _ hm hg (mc_bad hm (rec2_ok pg hg) (by rw [rec2_may]; exact decide_eq_false hp) h.mc)).mono ?_
  intro e Y hE
  exact ⟨(gend_err hE).1, h.step (gend_err hE).2⟩
theorem KM.replayBad (h : KM w og mb o rows X) (v : Value) (l : List Rd) (hv : HR X v l) (hl : l.length ≤ 1000000) (hmay : mayL l = false) :
    Calls Tryz.prog 14 #[.pointer (some ⟨og, 0, none⟩), v] X fun e Y => e = .returned (R5.errV 2) ∧ KM w og mb o rows Y :=
  (replay_bad og mb v l X h.mc hv hl hmay).mono fun e Y ⟨h1, h2⟩ => ⟨h1, h.step h2⟩
end
def kD1 : List UInt8 := 1 :: (List.replicate 30 0 ++ [2])
def kD2 : List UInt8 := 2 :: (List.replicate 30 0 ++ [2])
theorem kD1_len : kD1.length = 32 := by decide
theorem kD2_len : kD2.length = 32 := by decide
set_option maxHeartbeats 1000000 in
set_option maxRecDepth 100000 in
theorem draw1_any (w : World) : Calls Tryz.prog 21 #[.int .u8 1] w fun e w' => e = .returned (.agg ((kD1).map B8).toArray) ∧ Below w.heap.size w w' := by
  have hz := fun W => R5.zero_dig W
  obtain ⟨ZL, hZL⟩ : ∃ L, L = (List.replicate 32 (0 : UInt8)).map B8 := ⟨_, rfl⟩
  rw [← hZL] at hz
  have HZS : Hid (ZL.toArray.size = 32) := by show _ = _; rw [hZL]; simp
  have HAS : Hid (((kD1).map B8).toArray.size = 32) := by show _ = _; simp [kD1_len]
  have HA1 : Hid (((kD1).map B8).toArray.all (·.oneCell') = true) := R5.B8_onea _
  have HBK : Hid (∀ W, (Instr.build 24 #[(0, .int .u8 1), (31, .int .u8 2)]).run Tryz.prog W = .ok (.agg ((kD1).map B8).toArray) W) := fun W => by kernel_rfl
  have HR1 : Hid ((w.alloc (.cells ZL.toArray 24 (0, 0))).heap[w.heap.size]? = some (.cells ZL.toArray 24 (0, 0))) := heap_alloc_new _ _
  generalize ((kD1).map B8).toArray = AA at *
  clear hZL
  go_enter Tryz.func21, Tryz.ntmps21
  go_wp2_with (first
    | (refine PC.wpList_build rfl 24 _ rfl #[(0, .int .u8 1), (31, .int .u8 2)] (.agg AA) (by simp; first | done | exact ⟨rfl, rfl⟩) (HBK.out _) ?_)
    | (refine wpList_store_row rfl 24 _ _ rfl w.heap.size AA rfl rfl 24 ZL.toArray HR1.out (R5.info32a _ HAS.out) (HZS.out.trans HAS.out.symm) HA1.out ?_))
  refine bodyPost_ret (v := .agg AA) ?_ rfl ⟨rfl, below_setRow ((Below.refl _ _).alloc (Nat.le_refl _) _) (Nat.le_refl _) _⟩
  exact results_cell_row Tryz.results21 _ _ w.heap.size 24 _ (0, 0) _ rfl (setRow_heap _ _ _ _ _ _ HR1.out) Tryz.underlying24 rfl (R5.info32a _ HAS.out)
set_option maxHeartbeats 1000000 in
set_option maxRecDepth 100000 in
theorem draw2_any (w : World) : Calls Tryz.prog 21 #[.int .u8 2] w fun e w' => e = .returned (.agg ((kD2).map B8).toArray) ∧ Below w.heap.size w w' := by
  have hz := fun W => R5.zero_dig W
  obtain ⟨ZL, hZL⟩ : ∃ L, L = (List.replicate 32 (0 : UInt8)).map B8 := ⟨_, rfl⟩
  rw [← hZL] at hz
  have HZS : Hid (ZL.toArray.size = 32) := by show _ = _; rw [hZL]; simp
  have HAS : Hid (((kD2).map B8).toArray.size = 32) := by show _ = _; simp [kD2_len]
  have HA1 : Hid (((kD2).map B8).toArray.all (·.oneCell') = true) := R5.B8_onea _
  have HBK : Hid (∀ W, (Instr.build 24 #[(0, .int .u8 2), (31, .int .u8 2)]).run Tryz.prog W = .ok (.agg ((kD2).map B8).toArray) W) := fun W => by kernel_rfl
  have HR1 : Hid ((w.alloc (.cells ZL.toArray 24 (0, 0))).heap[w.heap.size]? = some (.cells ZL.toArray 24 (0, 0))) := heap_alloc_new _ _
  generalize ((kD2).map B8).toArray = AA at *
  clear hZL
  go_enter Tryz.func21, Tryz.ntmps21
  go_wp2_with (first
    | (refine PC.wpList_build rfl 24 _ rfl #[(0, .int .u8 2), (31, .int .u8 2)] (.agg AA) (by simp; first | done | exact ⟨rfl, rfl⟩) (HBK.out _) ?_)
    | (refine wpList_store_row rfl 24 _ _ rfl w.heap.size AA rfl rfl 24 ZL.toArray HR1.out (R5.info32a _ HAS.out) (HZS.out.trans HAS.out.symm) HA1.out ?_))
  refine bodyPost_ret (v := .agg AA) ?_ rfl ⟨rfl, below_setRow ((Below.refl _ _).alloc (Nat.le_refl _) _) (Nat.le_refl _) _⟩
  exact results_cell_row Tryz.results21 _ _ w.heap.size 24 _ (0, 0) _ rfl (setRow_heap _ _ _ _ _ _ HR1.out) Tryz.underlying24 rfl (R5.info32a _ HAS.out)
theorem num_any (n : Int) (w : World) : Calls Tryz.prog 10 #[.int .i64 n] w fun x w' => x = .returned (.int .i64 n) ∧ w = w' := by
  go_enter Tryz.func10, Tryz.ntmps10
  go_wp2
  go_ret
  exact ⟨rfl, rfl⟩
set_option maxHeartbeats 4000000 in
set_option maxRecDepth 100000 in
theorem fill_two (w : World) (X Y : List Value) (h1 : X.length = 32) (h2 : Y.length = 32) : (Instr.buildSlice 22 2 #[(0, .agg X.toArray), (1, .agg Y.toArray)]).run Tryz.prog w = .ok (.slice (some ⟨w.heap.size, 0, none⟩) 2 2) (w.alloc (.cells (X ++ Y).toArray 24 (0, 0))) := by
  iterate 32 (obtain ⟨_, _, e, g⟩ := R5.cons_of h1; clear h1; subst e; have h1 := g; clear g)
  obtain rfl := List.eq_nil_of_length_eq_zero h1
  iterate 32 (obtain ⟨_, _, e, g⟩ := R5.cons_of h2; clear h2; subst e; have h2 := g; clear g)
  obtain rfl := List.eq_nil_of_length_eq_zero h2
  show _ = _
  kernel_rfl
theorem hds_two (w : World) (a b : List UInt8) (ha : a.length = 32) (hb : b.length = 32) (g : Nat) (t : TypeId) (h : w.heap[g]? = some (.cells (a.map B8 ++ b.map B8).toArray t (0, 0))) : R5.HDs w (.slice (some ⟨g, 0, none⟩) 2 2) [a, b] := by
  refine ⟨fun d hd => by simp at hd; rcases hd with rfl | rfl <;> assumption, _, 2, rfl, fun i hi => ⟨g, 0, rfl, fun j u hu => ?_⟩⟩
  rw [cell_of_row _ _ _ _ _ _ h, List.getElem?_toArray]
  have : i = 0 ∨ i = 1 := by simp at hi; omega
  rcases this with rfl | rfl
  · have hj : j < a.length := by have := (List.getElem?_eq_some_iff.1 hu).1; simpa using this
    rw [List.getElem?_append_left (by simp; omega)]
    rw [show 0 + 0 * 32 + j = j by omega]; exact hu
  · rw [List.getElem?_append_right (by simp; omega), List.length_map, ha, show 0 + 1 * 32 + j - 32 = j by omega]; exact hu
theorem wpList_bslice {ops : Array Oper} {rest : List Oper} {o : Oper} {a : Act} {Q : Exit → Act → World → Prop} {w w' : World} (hgd : o.guard = none) (t : TypeId) (n : Nat) (parts : Array (Nat × Operand)) (ho : o.op = .buildSlice t n parts) (vals : Array (Nat × Value)) (v : Value) (hp : (parts.map fun (i, x) => (i, a.eval x)) = vals)
    (hr : (Instr.buildSlice t n vals).run Tryz.prog w = .ok v w') (h : wpList Tryz.prog ops Q rest (a.put o.dst v) w') : wpList Tryz.prog ops Q (o :: rest) a w := by
  refine wpList_plain hgd fun K' hK' => ?_
  unfold Oper.wp execOp
  simp only [ho, Sem.run_bind, hp, hr, Result.andThen_ok]
  exact hK' _ _ h

def kO0 : R5.Pra := ⟨true, Z0, [kD1, kD2], []⟩
def kQ1 : R5.Qn := ⟨1, Z0, 1, PC.Z32⟩
def kQ2 : R5.Qn := ⟨1, Z0, 2, kD1 ++ (W1.le 8 3 ++ PC.Z128)⟩
def kO1 : R5.Pra := ⟨true, Z0, [kD1, kD2], [(kQ1, kD1)]⟩
def kO2 : R5.Pra := ⟨true, Z0, [kD1, kD2], [(kQ1, kD1), (kQ2, kD2)]⟩
theorem k1 : nxP kO0 (qOf Z0 (rec1 PC.Z32)) = (kD1, kO1) := by
  rw [nxP_id rfl]
  show R5.pAsk kO0 kQ1 (R5.drawD kO0.draws kO0.log.length) = _
  kernel_rfl
theorem k2 : nxP kO1 (qOf kD1 (rec2 3 PC.Z128)) = (kD2, kO2) := by
  rw [nxP_id rfl]
  have e : qOf kD1 (rec2 3 PC.Z128) = kQ2 := by
    unfold qOf
    rw [if_neg (by show ¬ (2 : Int) = 1; decide), if_pos (show (rec2 3 PC.Z128).kind = 2 from rfl)]
    rfl
  rw [e]
  show R5.pAsk kO1 kQ2 (R5.drawD kO1.draws kO1.log.length) = _
  kernel_rfl
theorem build_r2 (w : World) : (Instr.build 33 #[(0, .int .i64 2)]).run Tryz.prog w = .ok (.agg (rdL (rec2 0 PC.Z128)).toArray) w := by kernel_rfl
theorem bs_r2 (w : World) : (Instr.buildSlice 51 1 #[(0, .agg (rdL (rec2 0 PC.Z128)).toArray)]).run Tryz.prog w = .ok (.slice (some ⟨w.heap.size, 0, none⟩) 1 1) (w.alloc (.cells (rdL (rec2 0 PC.Z128)).toArray 33 (0, 0))) := by kernel_rfl
theorem hr_nil (w : World) : HR w (.slice none 0 0) [] := ⟨none, 0, rfl, fun i r hi => by simp at hi⟩
theorem hr_one (w : World) (r : Rd) (hr : r.ok) (g : Nat) (h : w.heap[g]? = some (.cells (rdL r).toArray 33 (0, 0))) : HR w (.slice (some ⟨g, 0, none⟩) 1 1) [r] := by
  refine ⟨_, 1, rfl, fun i x hi => ?_⟩
  have hi0 : i = 0 := by have := (List.getElem?_eq_some_iff.1 hi).1; simp at this; omega
  subst hi0
  obtain rfl : r = x := by simpa using hi
  exact ⟨hr, g, 0, rfl, by have := PC.rangeAt_row h; simpa using this⟩
theorem mayL_nil : mayL [] = false := by rfl
theorem mayL_r2 : mayL [rec2 0 PC.Z128] = false := mayL_no (k := 0) (by decide) (by
  rw [good_at (r := rec2 0 PC.Z128) rfl]
  have : ((rec2 0 PC.Z128).kind == 1) = false := by show ((2 : Int) == 1) = false; decide
  rw [this]; simp)
end Go.Proofs.YtpmknkagnkagpaaGreat.ZC
