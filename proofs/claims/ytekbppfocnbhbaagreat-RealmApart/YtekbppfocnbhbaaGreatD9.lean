import Derived.Test.YtekbppfocnbhbaaGreatPA
import Derived.RowKit3
import Derived.Laws.BitsAllLaws
import Derived.WalkSmall
import Derived.Laws.Tables
import Derived.Deep.MidRow
import Derived.Laws.CopyOwn
import Derived.Stop.BytesEq
import Derived.Laws.AppendOwnNone
import Derived.Deep.AppendLies
import Derived.Deep.RegionHeld3
import Derived.Laws.IdiomCopy
set_option linter.unusedVariables false
set_option linter.unusedSimpArgs false
set_option maxHeartbeats 16000000
set_option maxRecDepth 100000
namespace Go.Proofs.YtekbppfocnbhbaaGreat.R5
open scoped Classical
open Go.RowKit
structure Qn where
  kind : Int
  key : List UInt8
  dom : Int
  data : List UInt8
def decQ (a b : Qn) : Decidable (a = b) := decidable_of_iff (a.kind = b.kind ∧ a.key = b.key ∧ a.dom = b.dom ∧ a.data = b.data) ⟨fun h => by cases a; cases b; simp_all, fun h => by rw [h]; exact ⟨rfl, rfl, rfl, rfl⟩⟩
def qL (q : Qn) (dv : Value) : List Value := .int .i64 q.kind :: (q.key.map B8 ++ [.int .i64 q.dom, dv])
theorem qL_len (q : Qn) (dv : Value) (h : q.key.length = 32) : (qL q dv).length = 35 := by unfold qL; simp [h]
theorem qL_0 (q : Qn) (dv : Value) : (qL q dv).toArray[0]? = some (.int .i64 q.kind) := by unfold qL; simp
theorem qL_33 (q : Qn) (dv : Value) (h : q.key.length = 32) : (qL q dv).toArray[33]? = some (.int .i64 q.dom) := by
  unfold qL
  simp only [List.getElem?_toArray]
  rw [List.getElem?_cons_succ, List.getElem?_append_right (by simp [h])]
  simp [h]
theorem qL_34 (q : Qn) (dv : Value) (h : q.key.length = 32) : (qL q dv).toArray[34]? = some dv := by
  unfold qL
  simp only [List.getElem?_toArray]
  rw [List.getElem?_cons_succ, List.getElem?_append_right (by simp [h])]
  simp [h]
theorem qL_key (q : Qn) (dv : Value) (h : q.key.length = 32) (j : Nat) (v : Value) (hv : (q.key.map B8)[j]? = some v) : (qL q dv).toArray[1 + j]? = some v := by
  unfold qL
  simp only [List.getElem?_toArray]
  have hj : j < q.key.length := by
    rcases Nat.lt_or_ge j q.key.length with hj | hj
    · exact hj
    · rw [List.getElem?_eq_none (by simpa using hj)] at hv; cases hv
  rw [show 1 + j = j + 1 by omega, List.getElem?_cons_succ, List.getElem?_append_left (by simpa using hj)]
  exact hv
def HQ (w : World) (v : Value) (q : Qn) : Prop := q.key.length = 32 ∧ ∃ dv, v = .agg (qL q dv).toArray ∧ HB w dv q.data
theorem row_lt {w : World} {d : Nat} {o : Obj} (h : w.heap[d]? = some o) : d < w.heap.size := (Array.getElem?_eq_some_iff.1 h).1
theorem heap_at (w : World) (o : Obj) (n : Nat) (h : n = w.heap.size) : (w.alloc o).heap[n]? = some o := by subst h; exact heap_alloc_new _ _
theorem alloc2_first (w : World) (A C : Obj) : ((w.alloc A).alloc C).heap[w.heap.size]? = some A := by
  rw [Below.heap_alloc _ _ _ (by simp), heap_alloc_new]
theorem B8_onea (l : List UInt8) : (l.map B8).toArray.all (·.oneCell') = true := by
  rw [Array.all_eq_true_iff_forall_mem]
  intro v hv
  simp only [List.mem_toArray, List.mem_map] at hv
  obtain ⟨x, _, rfl⟩ := hv
  rfl
theorem rangeAt_below {w w' : World} {b o : Nat} {cs : List Value} (h : w.rangeAt b o cs) (hb : Below w.heap.size w w') : w'.rangeAt b o cs := fun j v hv => (hb.cell (block_lt (h j v hv))).trans (h j v hv)
theorem rangeAt_row {w : World} {b : Nat} {cs : List Value} {t : TypeId} {fr : Nat × Nat} (h : w.heap[b]? = some (.cells cs.toArray t fr)) : w.rangeAt b 0 cs := fun j v hv => by
  rw [Nat.zero_add, cell_of_row _ _ j _ _ _ h]; simpa using hv
theorem hb_alloc {w : World} {v : Value} {l : List UInt8} (h : HB w v l) (o : Obj) : HB (w.alloc o) v l := h.below ((Below.refl _ _).alloc (Nat.le_refl _) o)
theorem hb_drew {w : World} {v : Value} {l : List UInt8} (h : HB w v l) : HB w.drew v l := h.below (Below.refl _ _).drew
theorem hq_below {w w' : World} {v : Value} {q : Qn} (h : HQ w v q) (hb : Below w.heap.size w w') : HQ w' v q := by
  obtain ⟨h1, dv, h2, h3⟩ := h
  exact ⟨h1, dv, h2, h3.below hb⟩
theorem B8_one (l : List UInt8) : ∀ u ∈ l.map B8, u.oneCell' = true := by
  intro u hu
  obtain ⟨x, _, rfl⟩ := List.mem_map.1 hu
  rfl
theorem hb_cells {w : World} {v : Value} {l : List UInt8} (h : HB w v l) : ∃ p cap, v = .slice p l.length cap ∧ (p = none → l = [] ∧ cap = 0) ∧ (∀ a, p = some a → ∀ (j : Nat) u, (l.map B8)[j]? = some u → w.cell? (a.add j) = some u) := by
  rcases h with ⟨rfl, p, cap, rfl, hpc⟩ | ⟨b, o, cap, rfl, _, _, hc⟩
  · exact ⟨p, cap, rfl, fun h => ⟨rfl, hpc h⟩, fun a _ j u hu => by simp at hu⟩
  · refine ⟨_, cap, rfl, fun h => by simp at h, fun a ha j u hu => ?_⟩
    simp only [Option.some.injEq] at ha
    subst ha
    have hj : j < l.length := by
      have := (List.getElem?_eq_some_iff.1 hu).1
      simpa using this
    have hadd : (⟨b, o, none⟩ : Addr).add j = ⟨b, o + j, none⟩ := by unfold Addr.add; split <;> simp_all
    rw [hadd, hc j hj]
    rw [List.getElem?_map, List.getElem?_eq_getElem hj] at hu
    simp only [Option.map_some, Option.some.injEq] at hu
    rw [← hu]
    simp [B8, List.getD, List.getElem?_eq_getElem hj]
theorem size_u8 (w : World) : (sizeOf 5).run Tryz.prog w = .ok 1 w := by
  obtain ⟨i0, hi, hz0, hz1, hz2⟩ := info_parts Tryz.infoU8
  simp [sizeOf, typeInfo, hi, hz1]
theorem info35 (RS : List Value) (h : RS.length = 35) : (Tryz.prog.info? 138).map (·.size) = some RS.length := by rw [h]; kernel_rfl
theorem info32 (RS : List Value) (h : RS.length = 32) : (Tryz.prog.info? 33).map (·.size) = some RS.length := by rw [h]; kernel_rfl
theorem eql_digest (w : World) (xs ys : List UInt8) (hx : xs.length = 32) (hy : ys.length = 32) : (binOp .eql 33 (.agg (xs.map B8).toArray) (.agg (ys.map B8).toArray)).run Tryz.prog w = .ok (.bool (xs == ys)) w :=
  run_eql_bytes w 33 5 32 Tryz.underlying33 Tryz.underlying5 size_u8 xs ys hx hy
theorem load_mid_g {ops : Array Oper} {rest : List Oper} {o : Oper} {a : Act} {w : World} {Q : Exit → Act → World → Prop} (hw : Region.wanted o (yielded ops a.tmps) = true) (ty : TypeId) (x : Operand) (ho : o.op = .load ty x)
    (b off : Nat) (hx : a.eval x = .pointer (some ⟨b, off, none⟩)) (cs : List Value) (d : TypeDesc) (hc : w.rangeAt b off cs) (hu : Tryz.prog.underlying ty = some d) (hd : d.isRow = true) (hi : (Tryz.prog.info? ty).map (·.size) = some cs.length)
    (h : wpList Tryz.prog ops Q rest (a.put o.dst (.agg cs.toArray)) w) : wpList Tryz.prog ops Q (o :: rest) a w :=
  wpList_step fun K hK => by rw [if_pos hw]; exact wp_load_mid ty x ho b off hx cs d hc hu hd hi (hK _ _ h)
theorem txt_beq (a b : List UInt8) : ((⟨a.toArray⟩ : ByteArray).toList == (⟨b.toArray⟩ : ByteArray).toList) = decide (a = b) := by
  rw [ByteArray.toList_eq, ByteArray.toList_eq, Bool.eq_iff_iff]; simp
theorem wpList_appHB {ops : Array Oper} {rest : List Oper} {o : Oper} {a : Act} {Q : Exit → Act → World → Prop} {w : World} (hgd : o.guard = none) (s x : Operand) (ho : o.op = .call { callee := .builtin .append, args := #[s, x], argTypes := #[106, 106] })
    (base : Nat) (v u : Value) (l b : List UInt8) (hs : a.eval s = v) (hx : a.eval x = u) (hown : FB base w v l) (hb : HB w u b) (hl : l.length + b.length ≤ 2199023255552) (hbase : base ≤ w.heap.size)
    (h : ∀ v' w', FB base w' v' (l ++ b) → w.grownBy w' v.ownBlock → wpList Tryz.prog ops Q rest (a.put o.dst v') w') : wpList Tryz.prog ops Q (o :: rest) a w := by
  obtain ⟨i0, hi, hz0, hz1, hz2⟩ := info_parts Tryz.infoU8
  obtain ⟨p, cp, rfl, hpn, hpc⟩ := hb_cells hb
  cases p with
  | none =>
    obtain ⟨rfl, rfl⟩ := hpn rfl
    refine wpList_append_own_none hgd s x 106 ho base 5 i0 1 Tryz.underlying106 hi v _ _ hs hown hx ?_
    exact h v w (by rw [List.append_nil]; exact hown) ⟨rfl, rfl, rfl, Nat.le_refl _, fun _ _ _ => rfl⟩
  | some ad =>
    refine wpList_append_own w hgd s x 106 ho base 5 i0 (.int .u8 0) 1 1 Tryz.underlying106 hi hz0 hz1 hz2 rfl (by decide) v _ _ hs hown ad b.length cp (b.map B8) hx (by simp) (hpc ad rfl) (B8_one b) (by unfold maxLen; omega) (by omega) hbase ?_
    intro v' w' h1 h2 _
    refine h v' w' ?_ h2
    unfold FB
    rw [List.length_append, List.map_append]
    exact h1
theorem hb_new (X : World) (n : Nat) (hn : n = X.heap.size) (cv : Value) (c : UInt8) (hc : cv = B8 c) : HB (X.alloc (.cells #[cv] 5)) (.slice (some ⟨n, 0, none⟩) 1 1) [c] := by
  subst hn hc
  refine .inr ⟨_, 0, _, rfl, Nat.le_refl _, by unfold maxLen; simp, fun i hi => ?_⟩
  have : i = 0 := by simpa using hi
  subst this
  rw [cell_of_row _ _ _ _ _ _ (heap_alloc_new X _)]
  rfl
theorem le_any (n : Nat) (w : World) (hn : n < 18446744073709551616) : Calls Tryz.prog 51 #[.int .u64 (n : Int)] w fun e w' => ∃ v, e = .returned v ∧ FB w.heap.size w' v (W1.le 8 n) ∧ Below w.heap.size w w' := by
  have hLl := W1.le_length 8 n
  have HLG : Hid (∀ i, i < 8 → (W1.le 8 n).take (i + 1) = (W1.le 8 n).take i ++ [UInt8.ofNat (n / 256 ^ i % 256)]) := fun i hi => by
    have h1 : i < (W1.le 8 n).length := by omega
    rw [List.take_succ_eq_append_getElem h1]
    have := W1.le_get 8 n i hi
    rw [List.getElem?_eq_getElem h1] at this
    simp only [Option.some.injEq] at this
    rw [this]
  have HLA : Hid ((W1.le 8 n).take 8 = W1.le 8 n) := List.take_of_length_le (by omega)
  have HTL : Hid (∀ i, i ≤ 8 → ((W1.le 8 n).take i).length = i) := fun i hi => by rw [List.length_take]; omega
  obtain ⟨L, hL⟩ : ∃ L, L = W1.le 8 n := ⟨_, rfl⟩
  rw [← hL] at HLG HLA HTL
  have HLe : Hid _ := hL
  clear hLl hL
  go_enter Tryz.func51, Tryz.ntmps51
  go_wp2
  go_loopw [3, 4] (fun v i wr => ∃ k : Nat, k ≤ 8 ∧ i = .int .i64 k ∧ FB w.heap.size wr v (L.take k) ∧ Below w.heap.size w wr) (fun _ i _ => 8 - (intOf i).toNat)
  case atStart => exact ⟨0, by omega, rfl, World.ownsRow_nil _ _ _ _, Below.refl _ _⟩
  case round =>
    obtain ⟨k, hk, rfl, hf, hb⟩ := hrel
    by_cases hlt : k < 8
    · have hkI : (k : Int) < 8 := by omega
      have hst := HLG.out k hlt
      obtain ⟨c, hc⟩ : ∃ c, c = UInt8.ofNat (n / 256 ^ k % 256) := ⟨_, rfl⟩
      rw [← hc] at hst
      obtain ⟨q, hq⟩ : ∃ q, q = n / 2 ^ (8 * k) := ⟨_, rfl⟩
      have hqI : (n : Int) / 2 ^ (8 * k) = (q : Int) := by rw [hq]; simp
      have hcq : (q : Int) % 256 = (c.toNat : Int) := by
        rw [hc, hq]
        have e : 2 ^ (8 * k) = 256 ^ k := by rw [show (256 : Nat) = 2 ^ 8 from rfl, ← Nat.pow_mul]
        rw [e]
        show ((_ : Nat) : Int) % 256 = ((n / 256 ^ k % 256 % 256 : Nat) : Int)
        omega
      have q1 : IntKind.u64.wrap (k : Int) = (k : Int) := by rw [IntKind.wrap_u64]; omega
      have q2 : IntKind.u64.wrap (8 * (k : Int)) = 8 * (k : Int) := by rw [IntKind.wrap_u64]; omega
      have t1 : (8 * (k : Int)).toNat = 8 * k := by omega
      have hsz := hb.size
      have hl0 := HTL.out k hk
      have HST : Hid _ := hst
      have HF : Hid _ := hf
      have HB' : Hid _ := hb
      clear hst hc hq hf hb
      go_wp2_with (at_builtin; refine wpList_appHB rfl (.tmp 9) (.tmp 16) rfl w.heap.size u3 _ (L.take k) [c] rfl rfl (World.ownsRow.alloc HF.out _) (hb_new wr _ rfl _ c rfl) (by rw [hl0]; simp; omega) (by simp; omega) ?_; intro v1 w1 hf1 hg1)
      have HF1 : Hid (FB w.heap.size w1 v1 (L.take (k + 1))) := by rw [HST.out]; exact hf1
      have HB1 : Hid (Below w.heap.size w w1) := (HB'.out.alloc hsz _).grown hg1 (by simp; omega) (fun j hj => (HF.out.lt j hj).1)
      clear hf1 hg1
      go_wp2
      go_roundw
      case rel => exact ⟨k + 1, by omega, by go_num, HF1.out, HB1.out⟩
      case measure => simp [intOf]; omega
    · have hk8 : k = 8 := by omega
      have hkI : ¬ (k : Int) < 8 := by omega
      rw [hk8, HLA.out] at hf
      have HF : Hid _ := hf
      clear hf hk8
      go_wp2
      go_ret
      exact ⟨_, rfl, by rw [← HLe.out]; exact HF.out, hb⟩
theorem sliceDig (W : World) (b o : Nat) : (Instr.sliceAt 33 (.pointer (some ⟨b, o, none⟩)) none none none).run Tryz.prog W = .ok (.slice (some ⟨b, o, none⟩) 32 32) W := by
  have ha : Tryz.prog.arrayLen 33 = 32 := by kernel_rfl
  have hu : Tryz.prog.underlying 33 = some (.array (Tryz.prog.arrayLen 33) (Tryz.prog.elem 33)) := by kernel_rfl
  have he : Tryz.prog.elem 33 = 5 := by kernel_rfl
  rw [run_sliceAt_array_all W 33 _ hu, he, size_u8, ha]
  have hadd : (⟨b, o, none⟩ : Addr).add (0 * 1) = ⟨b, o, none⟩ := by unfold Addr.add; split <;> simp_all
  simp [Result.andThen, slicedAt, hadd]
theorem hb_range {W : World} {b o : Nat} {l : List UInt8} (k : Nat) (hk : k = l.length) (hl : l.length ≤ 1099511627776) (h : W.rangeAt b o (l.map B8)) : HB W (.slice (some ⟨b, o, none⟩) k k) l := by
  subst hk
  refine .inr ⟨_, o, _, rfl, Nat.le_refl _, by unfold maxLen; omega, fun i hi => ?_⟩
  rw [h i (B8 (l.getD i 0)) (by simp [List.getD, List.getElem?_eq_getElem hi])]
  rfl
theorem wp_copy_seg {op : Oper} {a : Act} {w : World} {K : Act → World → Prop} {Q : Exit → Act → World → Prop} (d s : Operand) (ho : op.op = .call { callee := .builtin .copy, args := #[d, s], argTypes := #[106, 106] })
    (b o dLen dCap : Nat) (sp : Option Addr) (sLen sCap : Nat) (hd : a.eval d = .slice (some ⟨b, o, none⟩) dLen dCap) (hs : a.eval s = .slice sp sLen sCap) (cur : List Value) (t : TypeId) (hg : w.heap[b]? = some (.cells cur.toArray t (0, 0)))
    (cs : List Value) (hn : cs.length = Nat.min sLen dLen) (hpos : 0 < cs.length → ∃ ad, sp = some ad ∧ ∀ j v, cs[j]? = some v → w.cell? (ad.add j) = some v) (hfit : o + cs.length ≤ cur.length) (h1 : ∀ v ∈ cs, v.oneCell' = true)
    (h : K (a.put op.dst (goInt cs.length)) (w.setRow b (splice cur o cs).toArray)) : op.wp Tryz.prog a w K Q := by
  by_cases h0 : cs.length = 0
  · obtain rfl : cs = [] := List.eq_nil_of_length_eq_zero h0
    have hrun := run_copy_none (P := Tryz.prog) w 106 106 op.type 5 (some ⟨b, o, none⟩) sp dLen dCap sLen sCap Tryz.underlying106 (by kernel_rfl) (by simpa using hn.symm)
    have e : w.setRow b (splice cur o []).toArray = w := by
      have : splice cur o [] = cur := by simp [splice]
      rw [this]; exact setRow_self w b cur.toArray t (0, 0) hg
    rw [e] at h
    unfold Oper.wp
    simp [execOp, ho, resolve, invoke, builtin, hd, hs, hrun, Result.andThen]
    exact h
  · obtain ⟨ad, rfl, hsrc⟩ := hpos (by omega)
    have hrun := run_copy_row (P := Tryz.prog) w 106 106 op.type 5 b o dLen dCap ad sLen sCap cur.toArray t cs Tryz.underlying106 (by kernel_rfl) hg hn hsrc (by simpa using hfit) h1
    have e : (cur.toArray.toList.take o ++ cs ++ cur.toArray.toList.drop (o + cs.length)).toArray = (splice cur o cs).toArray := by simp [splice]
    rw [e] at hrun
    unfold Oper.wp
    simp [execOp, ho, resolve, invoke, builtin, hd, hs, hrun, Result.andThen]
    exact h
def HDs (w : World) (v : Value) (ds : List (List UInt8)) : Prop :=
  (∀ d ∈ ds, d.length = 32) ∧ ∃ p cap, v = .slice p ds.length cap ∧ ∀ i, i < ds.length → ∃ b o, p = some ⟨b, o, none⟩ ∧ w.rangeAt b (o + i * 32) ((ds.getD i []).map B8)
theorem hds_below {w w' : World} {v : Value} {ds : List (List UInt8)} (h : HDs w v ds) (hb : Below w.heap.size w w') : HDs w' v ds := by
  obtain ⟨h0, p, cap, h1, h2⟩ := h
  refine ⟨h0, p, cap, h1, fun i hi => ?_⟩
  obtain ⟨b, o, e, hr⟩ := h2 i hi
  exact ⟨b, o, e, rangeAt_below hr hb⟩
def drawD (ds : List (List UInt8)) (n : Nat) : List UInt8 := if n < ds.length then ds.getD n [] else W1.le 8 n ++ List.replicate 23 0 ++ [1]
theorem drawD_len (ds : List (List UInt8)) (n : Nat) (h : ∀ d ∈ ds, d.length = 32) : (drawD ds n).length = 32 := by
  unfold drawD
  by_cases hn : n < ds.length
  · rw [if_pos hn]
    have : ds.getD n [] ∈ ds := by simp [List.getD, List.getElem?_eq_getElem hn]
    exact h _ this
  · rw [if_neg hn]; simp [W1.le_length]
theorem info32a (RS : Array Value) (h : RS.size = 32) : (Tryz.prog.info? 33).map (·.size) = some RS.size := by rw [h]; kernel_rfl
theorem zero_dig (w : World) : (zeroValue 33).run Tryz.prog w = .ok (.agg ((List.replicate 32 (0 : UInt8)).map B8).toArray) w := by kernel_rfl
theorem splice_le (l : List UInt8) (h : l.length = 8) : splice ((List.replicate 32 (0 : UInt8)).map B8) 0 (l.map B8) = (l ++ List.replicate 24 0).map B8 := by
  unfold splice
  rw [List.take_zero, List.nil_append, List.length_map, h, List.map_append]
  congr 1
theorem set_31 (l : List UInt8) (h : l.length = 8) : (((l ++ List.replicate 24 0).map B8).toArray).setIfInBounds 31 (.int .u8 1) = ((l ++ List.replicate 23 0 ++ [1]).map B8).toArray := by
  match l, h with
  | [a0, a1, a2, a3, a4, a5, a6, a7], _ => rfl
theorem draw_any (og n : Nat) (dv : Value) (ds : List (List UInt8)) (w : World) (hn : n < 9223372036854775808) (hc : w.cell? ⟨og, 33, none⟩ = some dv) (hd : HDs w dv ds) :
    Calls Tryz.prog 117 #[.pointer (some ⟨og, 0, none⟩), .int .i64 (n : Int)] w fun e w' => e = .returned (.agg ((drawD ds n).map B8).toArray) ∧ Below w.heap.size w w' := by
  have hRl := drawD_len ds n hd.1
  have hog := block_lt hc
  simp only at hog
  obtain ⟨h0, p, cap, rfl, h2⟩ := hd
  have hzv := fun W => zero_dig W
  obtain ⟨ZA, hZA⟩ : ∃ A, A = ((List.replicate 32 (0 : UInt8)).map B8).toArray := ⟨_, rfl⟩
  rw [← hZA] at hzv
  have HZS : Hid (ZA.size = 32) := by show _ = _; rw [hZA]; simp
  obtain ⟨RL, hRL⟩ : ∃ A, A = (drawD ds n).map B8 := ⟨_, rfl⟩
  rw [← hRL]
  have HRS : Hid (RL.toArray.size = 32) := by show _ = _; rw [hRL]; simp [hRl]
  have HRI : Hid _ := info32a RL.toArray HRS.out
  have HR1 : Hid (RL.toArray.all (·.oneCell') = true) := by show _ = _; rw [hRL]; exact B8_onea _
  have HQ : Hid ((w.alloc (.cells ZA 33 (0, 0))).heap[w.heap.size]? = some (.cells ZA 33 (0, 0))) := heap_at _ _ _ rfl
  have hb0 : Below w.heap.size w (w.alloc (.cells ZA 33 (0, 0))) := (Below.refl _ _).alloc (Nat.le_refl _) _
  have hc0 : (w.alloc (.cells ZA 33 (0, 0))).cell? ⟨og, 33, none⟩ = some (.slice p ds.length cap) := (hb0.cell hog).trans hc
  have HB0 : Hid _ := hb0
  by_cases hlt : n < ds.length
  · have hnI : (n : Int) < (ds.length : Int) := by omega
    obtain ⟨b, o, rfl, hr⟩ := h2 n hlt
    have hre : RL = (ds.getD n []).map B8 := by rw [hRL]; unfold drawD; rw [if_pos hlt]
    have HRG : Hid ((w.alloc (.cells ZA 33 (0, 0))).rangeAt b (o + n * 32) RL) := by
      rw [hre]; exact rangeAt_below hr hb0
    have HIL : Hid ((Tryz.prog.info? 33).map (·.size) = some RL.length) := by have := HRI.out; rwa [List.size_toArray] at this
    clear hRL hre hr h2 hc hb0 hZA hRl
    go_enter Tryz.func117, Tryz.ntmps117
    go_wp2_with (first
      | (refine wpList_load_mid rfl 33 _ rfl b (o + n * 32) rfl RL _ HRG.out Tryz.underlying33 rfl HIL.out ?_)
      | (refine wpList_store_row rfl 33 _ _ rfl w.heap.size RL.toArray rfl rfl 33 ZA HQ.out HRI.out (HZS.out.trans HRS.out.symm) HR1.out ?_))
    refine bodyPost_ret (v := .agg RL.toArray) ?_ rfl ⟨rfl, below_setRow HB0.out (Nat.le_refl _) _⟩
    exact results_cell_row Tryz.results117 _ _ w.heap.size 33 _ (0, 0) _ rfl (setRow_heap _ _ _ _ _ _ HQ.out) Tryz.underlying33 rfl HRI.out
  · have hnI : ¬ (n : Int) < (ds.length : Int) := by omega
    have hLl := W1.le_length 8 n
    have HRE : Hid (((W1.le 8 n ++ List.replicate 24 0).map B8).toArray.setIfInBounds 31 (.int .u8 1) = RL.toArray) := by
      show _ = _
      rw [set_31 _ hLl, hRL]; unfold drawD; rw [if_neg hlt]
    have HSP : Hid (splice ((List.replicate 32 (0 : UInt8)).map B8) 0 ((W1.le 8 n).map B8) = (W1.le 8 n ++ List.replicate 24 0).map B8) := splice_le _ hLl
    have hle := fun W => le_any n W (by omega)
    have HZA : Hid _ := hZA
    have hwr : IntKind.u64.wrap (n : Int) = (n : Int) := by rw [IntKind.wrap_u64]; omega
    generalize W1.le 8 n = L at *
    have HLl : Hid _ := hLl
    have HQ2 : Hid (((w.alloc (.cells ZA 33 (0, 0))).alloc (.cells ZA 33 (0, 0))).heap[w.heap.size]? = some (.cells ZA 33 (0, 0))) := alloc2_first _ _ _
    have HQ3 : Hid (((w.alloc (.cells ZA 33 (0, 0))).alloc (.cells ZA 33 (0, 0))).heap[w.heap.size + 1]? = some (.cells ZA 33 (0, 0))) := heap_at _ _ _ (by simp)
    have HBA : Hid (Below w.heap.size w ((w.alloc (.cells ZA 33 (0, 0))).alloc (.cells ZA 33 (0, 0))).drew) := (HB0.out.alloc (by simp) _).drew
    have hsl := fun W => sliceDig W (w.heap.size + 1) 0
    clear hRL h2 hc hb0 hZA hRl hLl
    go_enter Tryz.func117, Tryz.ntmps117
    go_wp2
    refine wp_region_held_drew (S := fun w' => Below w.heap.size w w') (by kernel_rfl) HBA.out (fun hHeld => ?_)
    refine qzI 0 ⟨some 20, .slice 33 (.tmp 5) none none none, 106, _, #[], none⟩ (.slice (some ⟨w.heap.size + 1, 0, none⟩) 32 32) rfl (by kernel_rfl) (fun _ _ _ h => h) (by rfl) (fun w' hw' => ?_) hHeld ?_
    · go_simp <;> rfl
    try simp only [Act.put, qT, q0, qS]
    refine qzI 1 ⟨some 21, .move (.tmp 1), 3, _, #[], none⟩ (.int .i64 (n : Int)) rfl (by kernel_rfl) (fun _ _ _ h => h) (by rfl) (fun w' hw' => ?_) hHeld ?_
    · go_simp <;> rfl
    try simp only [Act.put, qT, q0, qS]
    refine qzI 2 ⟨some 22, .convert 3 34 (.tmp 21), 34, _, #[⟨1, .data⟩], none⟩ (.int .u64 (n : Int)) rfl (by kernel_rfl) (fun _ _ _ h => h) (by rfl) (fun w' hw' => ?_) hHeld ?_
    · go_simp <;> rfl
    try simp only [Act.put, qT, q0, qS]
    refine qzR 3 ⟨some 23, .call ⟨.value (.func 51), #[.tmp 22], #[34]⟩, 106, _, #[⟨2, .data⟩], none⟩ (by kernel_rfl) rfl (by rfl) (fun K hK => ?_)
    go_wp2_with fail
    refine (hle _).mono ?_
    rintro e w3 ⟨v3, rfl, hf3, hb3⟩
    have hb3' : Below (w.heap.size + 2) ((w.alloc (.cells ZA 33 (0, 0))).alloc (.cells ZA 33 (0, 0))).drew w3 := hb3.mono (by rw [heap_drew]; simp)
    have HR3 : Hid (w3.heap[w.heap.size]? = some (.cells ZA 33 (0, 0))) := (hb3'.block _ (by omega)).trans HQ2.out
    have HR4 : Hid (w3.heap[w.heap.size + 1]? = some (.cells ((List.replicate 32 (0 : UInt8)).map B8).toArray 33 (0, 0))) := by
      show _ = _
      rw [← HZA.out]; exact (hb3'.block _ (by omega)).trans HQ3.out
    have hh3 := hf3.hb
    obtain ⟨p3, c3, rfl, hpn, hpc⟩ := hb_cells hh3
    have hHeld3 : Below w.heap.size w w3 := hHeld.trans (hb3.mono (by rw [heap_drew]; simp; omega))
    rw [HLl.out]
    refine hK.out _ _ hHeld3 (fun _ => ?_)
    clear hK K
    try simp only [Act.put, qT, q0, qS]
    refine qzR 4 ⟨some 24, .call ⟨.builtin Go.Builtin.copy, #[.tmp 20, .tmp 23], #[106, 106]⟩, 3, _, #[⟨0, .data⟩, ⟨3, .data⟩, ⟨3, .chain⟩], none⟩ (by kernel_rfl) rfl (by rfl) (fun K hK => ?_)
    refine wp_copy_seg (.tmp 20) (.tmp 23) rfl (w.heap.size + 1) 0 32 32 p3 8 c3 rfl rfl ((List.replicate 32 (0 : UInt8)).map B8) 33 HR4.out (L.map B8) ?_ ?_ ?_ (B8_one L) ?_
    · rw [List.length_map, HLl.out]; rfl
    · intro _
      cases p3 with
      | none => have := (hpn rfl).1; have h8 := HLl.out; rw [this] at h8; simp at h8
      | some a => exact ⟨a, rfl, hpc a rfl⟩
    · rw [List.length_map, HLl.out, List.length_map, List.length_replicate]; decide
    rw [HSP.out]
    have hHeld4 := below_setRow hHeld3 (show w.heap.size ≤ w.heap.size + 1 by omega) ((L ++ List.replicate 24 0).map B8).toArray
    refine hK.out _ _ hHeld4 (fun _ => ?_)
    clear hK K
    try simp only [Act.put, qT, q0, qS]
    refine wpAnyH_done (by kernel_rfl) ?_ _
    have hr5 := setRow_heap _ _ _ ((L ++ List.replicate 24 0).map B8).toArray _ _ HR4.out
    have HR5 : Hid _ := hr5
    have HR6 : Hid ((w3.setRow (w.heap.size + 1) ((L ++ List.replicate 24 0).map B8).toArray).heap[w.heap.size]? = some (.cells ZA 33 (0, 0))) := by show _ = _; rw [setRow_other _ _ _ _ (by omega)]; exact HR3.out
    have HB6 : Hid _ := hHeld4
    have f31 := frozen_of_row _ _ 31 _ _ hr5
    obtain ⟨u, hu⟩ : ∃ u, ((L ++ List.replicate 24 0).map B8).toArray[31]? = some (.int .u8 u) := by
      have hl : 31 < (L ++ List.replicate 24 (0 : UInt8)).length := by simp [HLl.out]
      exact ⟨_, by simp only [List.getElem?_toArray, List.getElem?_map, List.getElem?_eq_getElem hl]; rfl⟩
    have c31 := cell_of_row _ _ 31 _ _ _ hr5
    rw [hu] at c31
    clear hHeld hHeld3 hHeld4 HR3 HR4 hb3 hb3' hf3 hh3 hpn hpc hr5 hu hle
    generalize w3.setRow (w.heap.size + 1) ((L ++ List.replicate 24 0).map B8).toArray = w4 at *
    have HR7 : Hid ((w4.setCell ⟨w.heap.size + 1, 31, none⟩ (.int .u8 1)).heap[w.heap.size + 1]? = some (.cells RL.toArray 33 (0, 0))) := by show _ = _; rw [← HRE.out]; exact heap_setCell_same _ (w.heap.size + 1) 31 _ 33 _ HR5.out
    have HR8 : Hid ((w4.setCell ⟨w.heap.size + 1, 31, none⟩ (.int .u8 1)).heap[w.heap.size]? = some (.cells ZA 33 (0, 0))) := by show _ = _; rw [heap_setCell_other _ _ _ _ (by show w.heap.size ≠ w.heap.size + 1; omega)]; exact HR6.out
    have HB8 : Hid (Below w.heap.size w (w4.setCell ⟨w.heap.size + 1, 31, none⟩ (.int .u8 1))) := HB6.out.setCell (p := ⟨w.heap.size + 1, 31, none⟩) (by show w.heap.size ≤ w.heap.size + 1; omega) _
    go_wp2_with (first
      | (refine wpList_load_row rfl 33 _ rfl (w.heap.size + 1) rfl 33 RL.toArray (0, 0) _ HR7.out Tryz.underlying33 rfl HRI.out ?_)
      | (refine wpList_store_row rfl 33 _ _ rfl w.heap.size RL.toArray rfl rfl 33 ZA HR8.out HRI.out (HZS.out.trans HRS.out.symm) HR1.out ?_))
    refine bodyPost_ret (v := .agg RL.toArray) ?_ rfl ⟨rfl, below_setRow HB8.out (Nat.le_refl _) _⟩
    exact results_cell_row Tryz.results117 _ _ w.heap.size 33 _ (0, 0) _ rfl (setRow_heap _ _ _ _ _ _ HR8.out) Tryz.underlying33 rfl HRI.out
end Go.Proofs.YtekbppfocnbhbaaGreat.R5
