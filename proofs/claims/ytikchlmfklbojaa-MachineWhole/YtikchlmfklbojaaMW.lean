/- machine: a range over what Whole hands back. -/
import Derived.Test.YtikchlmfklbojaaMU
import Derived.RangeFuncFrom
import Derived.RangeFuncMany
import Derived.RangeFuncLeaves
import Derived.OwnWalkIn
import Derived.TacticsInMore
import Derived.RegionIn
import Derived.LoopNIn
import Derived.LoopIn
import Derived.RangeFuncWrites
import Derived.RangeFuncCalls
import Derived.Deep.RegionHeld3
set_option linter.unusedVariables false
set_option linter.unusedSimpArgs false
namespace Go.Proofs.Ytikchlmfklbojaa.MC
open Go.RowKit

theorem in_load_g {F : Fence} {n : Nat} {P : Program} {ops : Array Oper} {rest : List Oper} {op : Oper} {a : Act} {w : World} {Q : Exit → Act → World → Prop} (hw : Region.wanted op (yielded ops a.tmps) = true) (ty : TypeId) (x : Operand) (ho : op.op = .load ty x)
    (b o : Nat) (hx : a.eval x = .pointer (some ⟨b, o, none⟩)) (cs : List Value) (d : TypeDesc) (hc : w.rangeAt b o cs) (hu : P.underlying ty = some d) (hd : d.isRow = true) (hi : (P.info? ty).map (·.size) = some cs.length)
    (h : wpListIn F n P ops Q rest (a.put op.dst (.agg cs.toArray)) w) : wpListIn F n P ops Q (op :: rest) a w := by
  refine wpListIn_step fun K hK' => ?_
  rw [if_pos hw]
  unfold Oper.wpIn
  refine ⟨?_, ?_⟩
  · simp [Oper.about, ho]
  · rw [Oper.semAt_plain F _ _ (by rw [ho]; intro c hc'; cases hc')]
    unfold execOp
    simp only [ho, hx, Instr.loadAt, Instr.sureAddr, Sem.run_bind, Sem.run_pure, Result.andThen_ok, run_loadVar_mid w b o ty cs d hc hu hd hi]
    exact hK' _ _ h
theorem in_build_g {F : Fence} {n : Nat} {ops : Array Oper} {rest : List Oper} {o : Oper} {a : Act} {Q : Exit → Act → World → Prop} {w : World} (hw : Region.wanted o (yielded ops a.tmps) = true) (t : TypeId) (parts : Array (Nat × Operand)) (ho : o.op = .build t parts) (vals : Array (Nat × Value)) (v : Value) (hp : (parts.map fun (i, x) => (i, a.eval x)) = vals)
    (hr : (Instr.build t vals).run Try.prog w = .ok v w) (h : wpListIn F n Try.prog ops Q rest (a.put o.dst v) w) : wpListIn F n Try.prog ops Q (o :: rest) a w := by
  refine wpListIn_step fun K hK => ?_
  rw [if_pos hw]
  unfold Oper.wpIn
  refine ⟨?_, ?_⟩
  · simp [Oper.about, ho]
  · rw [Oper.semAt_plain F _ _ (by rw [ho]; intro c hc'; cases hc')]
    rw [exec_build a.eval o t parts vals v w ho hp hr]
    exact hK _ _ h
theorem in_store_row {F : Fence} {n : Nat} {ops : Array Oper} {rest : List Oper} {o : Oper} {a : Act} {w : World} {Q : Exit → Act → World → Prop} (hw : Region.wanted o (yielded ops a.tmps) = true) (ty : TypeId) (x y : Operand) (ho : o.op = .store ty x y)
    (g : Nat) (cells : Array Value) (hx : a.eval x = .pointer (some ⟨g, 0, none⟩)) (hy : a.eval y = .agg cells)
    (t : TypeId) (old : List Value) (hg : w.heap[g]? = some (.cells old.toArray t (0, 0))) (hi : (Try.prog.info? ty).map (·.size) = some cells.size)
    (hold : old.length = cells.size) (h1 : cells.all (·.oneCell') = true)
    (h : ∀ W', W' = w.setRow g cells → wpListIn F n Try.prog ops Q rest (a.put o.dst undef) W') : wpListIn F n Try.prog ops Q (o :: rest) a w := by
  refine wpListIn_step fun K hK => ?_
  rw [if_pos hw]
  unfold Oper.wpIn
  refine ⟨?_, ?_⟩
  · simp [Oper.about, ho]
  · rw [Oper.semAt_plain F _ _ (by rw [ho]; intro c hc'; cases hc')]
    unfold execOp
    have e : (splice old 0 cells.toList).toArray = cells := by rw [splice_all _ _ (by simp; omega)]
    simp only [ho, hx, hy, Instr.storeAt, Instr.sureAddr, Sem.run_bind, Sem.run_pure, Result.andThen_ok, run_store_seg w g 0 ty t cells old hg hi (by omega) h1, e]
    exact hK _ _ (h _ rfl)
/-- What the body must leave as it is. -/
def KpW (fb cb : Nat) (X Y : World) : Prop := X.heap.size ≤ Y.heap.size ∧ Y.heap[fb]? = X.heap[fb]? ∧ Y.heap[cb]? = X.heap[cb]?
theorem WH.cb_lt {w : World} {fb cb n cap : Nat} {l : List UInt8} (h : WH w fb cb n cap l) (hn : 0 < n) : cb < w.heap.size := by
  have h0 : 0 < l.length := by have := h.len; omega
  have := h.row 0 _ (List.getElem?_eq_getElem (by simpa using h0))
  exact block_lt this
theorem WH.kp {X Y : World} {fb cb n cap : Nat} {l : List UInt8} (h : WH X fb cb n cap l) (hk : KpW fb cb X Y) : WH Y fb cb n cap l :=
  ⟨(World.cell?_of_block (a := ⟨fb, 0, none⟩) hk.2.1).trans h.cell, rangeAt_blk h.row hk.2.2, h.len, h.le⟩
set_option maxHeartbeats 4000000 in
set_option maxRecDepth 100000 in
theorem whole1_in (F : Fence) (m : Nat) (hf : F.fn 37) (hro : F.round = none) (hm : 1 ≤ m) (y fb cb n cap : Nat) (l : List UInt8) (W0 : World) (J : Nat → World → Prop) (hw : WH W0 fb cb n cap l)
    (hJB : ∀ k X Y, J k X → Below X.heap.size X Y → J k Y) (hskip : ∀ k X, k < n → getB l k = Z128 → J k X → J (k + 1) X)
    (hY : ∀ k X, k < n → getB l k ≠ Z128 → J k X → WH X fb cb n cap l → YieldAt F (m - 1) Try.prog y #[.int .i64 (k : Int), .agg ((getB l k).map B8).toArray] X fun e Y => e = .returned (.bool true) ∧ J (k + 1) Y ∧ KpW fb cb X Y)
    (hj0 : J 0 W0) :
    CallsIn F m Try.prog 37 #[.func (.yield y) #[] #[], .pointer (some ⟨fb, 0, none⟩)] W0 fun e W' => (∃ v, e = .returned v) ∧ J n W' := by
  refine callsIn_of_wp Try.func37 rfl hf ?_ hro
  simp only [Try.ntmps37, List.size_toArray, List.length_cons, List.length_nil, Nat.reduceAdd, Nat.reduceSub, Array.replicate_succ, Array.replicate_zero, List.push_toArray, List.append_toArray, List.nil_append, List.cons_append]
  have HY : Hid _ := hY
  have HJB : Hid _ := hJB
  have HSK : Hid _ := hskip
  have HW : Hid _ := hw
  have HJ0 : Hid _ := hj0
  have hc := hw.cell
  have hn4 := hw.le
  have hzv := fun W => zero_gr W
  obtain ⟨ZL, hZL⟩ : ∃ L, L = Z128.map B8 := ⟨_, rfl⟩
  rw [← hZL] at hzv
  have HZS : Hid (ZL.length = 128) := by show _ = _; rw [hZL, List.length_map]; exact z128_len
  have HBD : Hid (∀ W, (Instr.build 45 #[]).run Try.prog W = .ok (.agg ZL.toArray) W) := by rw [hZL]; exact fun W => build_gr W
  have HZL : Hid _ := hZL
  clear hY hJB hskip hj0 hw hZL
  gi_wp2
  clear hc
  gi_loopw [3, 4, 7] (fun _ _ i wr => ∃ k : Nat, k ≤ n ∧ i = .int .i64 (k : Int) ∧ WH wr fb cb n cap l ∧ J k wr) (fun _ _ i _ => n - (intOf i).toNat)
  case atStart => exact ⟨0, Nat.zero_le _, rfl, HW.out, HJ0.out⟩
  case round =>
    clear HW HJ0
    obtain ⟨k, hk, rfl, hW, hJ⟩ := hrel
    by_cases hlt : k < n
    · have hkI : (k : Int) < (n : Int) := by omega
      have hg := getB_len l n k hW.len hlt
      have hra := rangeAt_part hW.row (128 * k) 128
      rw [getB_map, Nat.zero_add, Nat.mul_comm] at hra
      have HRA : Hid _ := hra
      have HGI : Hid _ := info128 ((getB l k).map B8) (by rw [List.length_map]; exact hg)
      have HGS : Hid (((getB l k).map B8).toArray.size = 128) := by show _ = _; simpa using hg
      have HG1 : Hid _ := B8_onea (getB l k)
      have HR1 : Hid ((wr.alloc (.cells ZL.toArray 45 (0, 0))).heap[wr.heap.size]? = some (.cells ZL.toArray 45 (0, 0))) := heap_alloc_new _ _
      have HS3 : Hid (∀ V, V = (wr.alloc (.cells ZL.toArray 45 (0, 0))).setRow wr.heap.size ((getB l k).map B8).toArray → Hid (WH V fb cb n cap l) ∧ Hid (J k V) ∧ Hid (V.rangeAt wr.heap.size 0 ((getB l k).map B8))) := fun V hV => by
        have hb : Below wr.heap.size wr V := by rw [hV]; exact below_setRow ((Below.refl _ _).alloc (Nat.le_refl _) _) (Nat.le_refl _) _
        exact ⟨hW.below hb, HJB.out k wr V hJ hb, rangeAt_row (by rw [hV]; exact setRow_heap _ _ _ _ _ _ HR1.out)⟩
      obtain ⟨bq, hbq⟩ : ∃ b, (getB l k == Z128) = b := ⟨_, rfl⟩
      have heq : ∀ W, (Op.equalIn 10000 45 (.agg ((getB l k).map B8).toArray) (.agg ZL.toArray)).run Try.prog W = .ok bq W := fun W => by rw [HZL.out]; exact neq_gr W (getB l k) Z128 hg z128_len bq hbq
      have HBQ : Hid _ := hbq
      have HYK : Hid (getB l k ≠ Z128 → ∀ X, J k X → WH X fb cb n cap l → YieldAt F (m - 1) Try.prog y #[.int .i64 (k : Int), .agg ((getB l k).map B8).toArray] X fun e Y => e = .returned (.bool true) ∧ J (k + 1) Y ∧ KpW fb cb X Y) := fun hz X h1 h2 => HY.out k X hlt hz h1 h2
      generalize (getB l k).map B8 = GL at *
      clear hra hW hJ hbq hg
      cases bq with
      | true =>
        have HZ : Hid (getB l k = Z128) := by show _ = _; simpa using HBQ.out
        gi_wp2_with (first
          | (refine in_store_row (by rfl) 45 _ _ rfl wr.heap.size GL.toArray rfl rfl 45 ZL HR1.out (info128a _ HGS.out) (by rw [HZS.out, HGS.out]) HG1.out ?_; intro V hV; obtain ⟨HW2, HJ2, HR2⟩ := HS3.out V hV; clear hV HS3 HR1)
          | (refine in_load_g (by rfl) 45 _ rfl cb (k * 128) rfl GL _ HRA.out Try.underlying45 rfl HGI.out ?_)
          | (refine in_load_g (by rfl) 45 _ rfl wr.heap.size 0 rfl GL _ HR2.out Try.underlying45 rfl HGI.out ?_)
          | (refine in_build_g (by rfl) 45 #[] rfl #[] (.agg ZL.toArray) (by simp) (HBD.out _) ?_)
          | (refine wpListIn_skip (by rfl) (by rfl) ?_)
          | gi_in)
        go_roundw
        case rel => exact ⟨k + 1, by omega, by go_num, HW2.out, HSK.out k _ hlt HZ.out HJ2.out⟩
        case measure => simp [intOf]; omega
      | false =>
        have HNZ : Hid (getB l k ≠ Z128) := by show _ ≠ _; exact fun e => by have := HBQ.out; rw [e] at this; simp at this
        gi_wp2_with (first
          | (refine in_store_row (by rfl) 45 _ _ rfl wr.heap.size GL.toArray rfl rfl 45 ZL HR1.out (info128a _ HGS.out) (by rw [HZS.out, HGS.out]) HG1.out ?_; intro V hV; obtain ⟨HW2, HJ2, HR2⟩ := HS3.out V hV; clear hV HS3 HR1; obtain ⟨fn, tmps, assign, body, hy, hR⟩ := HYK.out HNZ.out V HJ2.out HW2.out; have HRR : Hid _ := hR; clear hR)
          | (refine in_load_g (by rfl) 45 _ rfl cb (k * 128) rfl GL _ HRA.out Try.underlying45 rfl HGI.out ?_)
          | (refine in_load_g (by rfl) 45 _ rfl wr.heap.size 0 rfl GL _ HR2.out Try.underlying45 rfl HGI.out ?_)
          | (refine in_build_g (by rfl) 45 #[] rfl #[] (.agg ZL.toArray) (by simp) (HBD.out _) ?_)
          | gi_in)
        refine RoundIn.mono HRR.out ?_
        rintro e W3 ⟨rfl, hJ3, hK3⟩
        have HJ3 : Hid _ := hJ3
        have HW3 : Hid _ := HW2.out.kp hK3
        clear hJ3 hK3 hy
        gi_wp2
        go_roundw
        case rel => exact ⟨k + 1, by omega, by go_num, HW3.out, HJ3.out⟩
        case measure => simp [intOf]; omega
    · have hke : k = n := by omega
      subst hke
      have HJ : Hid _ := hJ
      clear hJ hW
      gi_wp2
      go_end0
      exact ⟨⟨_, rfl⟩, HJ.out⟩
end Go.Proofs.Ytikchlmfklbojaa.MC
