/- Appends of bytes; contracts of ref 5's Le and Text. -/
import Derived.Test.YtekbppfocnbhbaaGreatPA
import Derived.RowKit3
import Derived.Laws.BitsAllLaws
import Derived.WalkSmall
import Derived.Laws.Tables
import Derived.Deep.MidRow
import Derived.Laws.CopyOwn
import Derived.Stop.BytesEq
import Derived.Laws.AppendOwnNone
import Derived.Deep.AppendLies
import Derived.Deep.RegionHeld3
import Derived.Laws.IdiomCopy
set_option linter.unusedVariables false
set_option linter.unusedSimpArgs false
namespace Go.Proofs.YtekbppfocnbhbaaGreat.R5
open scoped Classical
open Go.RowKit

structure Qn where
  kind : Int
  key : List UInt8
  dom : Int
  data : List UInt8
def decQ (a b : Qn) : Decidable (a = b) := decidable_of_iff (a.kind = b.kind ∧ a.key = b.key ∧ a.dom = b.dom ∧ a.data = b.data) ⟨fun h => by cases a; cases b; simp_all, fun h => by rw [h]; exact ⟨rfl, rfl, rfl, rfl⟩⟩

def qL (q : Qn) (dv : Value) : List Value := .int .i64 q.kind :: (q.key.map B8 ++ [.int .i64 q.dom, dv])
theorem qL_len (q : Qn) (dv : Value) (h : q.key.length = 32) : (qL q dv).length = 35 := by unfold qL; simp [h]
theorem qL_0 (q : Qn) (dv : Value) : (qL q dv).toArray[0]? = some (.int .i64 q.kind) := by unfold qL; simp
theorem qL_33 (q : Qn) (dv : Value) (h : q.key.length = 32) : (qL q dv).toArray[33]? = some (.int .i64 q.dom) := by
  unfold qL
  simp only [List.getElem?_toArray]
  rw [List.getElem?_cons_succ, List.getElem?_append_right (by simp [h])]
  simp [h]
theorem qL_34 (q : Qn) (dv : Value) (h : q.key.length = 32) : (qL q dv).toArray[34]? = some dv := by
  unfold qL
  simp only [List.getElem?_toArray]
  rw [List.getElem?_cons_succ, List.getElem?_append_right (by simp [h])]
  simp [h]
theorem qL_key (q : Qn) (dv : Value) (h : q.key.length = 32) (j : Nat) (v : Value) (hv : (q.key.map B8)[j]? = some v) : (qL q dv).toArray[1 + j]? = some v := by
  unfold qL
  simp only [List.getElem?_toArray]
  have hj : j < q.key.length := by
    rcases Nat.lt_or_ge j q.key.length with hj | hj
    · exact hj
    · rw [List.getElem?_eq_none (by simpa using hj)] at hv; cases hv
  rw [show 1 + j = j + 1 by omega, List.getElem?_cons_succ, List.getElem?_append_left (by simpa using hj)]
  exact hv
def HQ (w : World) (v : Value) (q : Qn) : Prop := q.key.length = 32 ∧ ∃ dv, v = .agg (qL q dv).toArray ∧ HB w dv q.data
theorem row_lt {w : World} {d : Nat} {o : Obj} (h : w.heap[d]? = some o) : d < w.heap.size := (Array.getElem?_eq_some_iff.1 h).1
theorem heap_at (w : World) (o : Obj) (n : Nat) (h : n = w.heap.size) : (w.alloc o).heap[n]? = some o := by subst h; exact heap_alloc_new _ _
theorem alloc2_first (w : World) (A C : Obj) : ((w.alloc A).alloc C).heap[w.heap.size]? = some A := by
  rw [Below.heap_alloc _ _ _ (by simp), heap_alloc_new]
theorem B8_onea (l : List UInt8) : (l.map B8).toArray.all (·.oneCell') = true := by
  rw [Array.all_eq_true_iff_forall_mem]
  intro v hv
  simp only [List.mem_toArray, List.mem_map] at hv
  obtain ⟨x, _, rfl⟩ := hv
  rfl
theorem rangeAt_below {w w' : World} {b o : Nat} {cs : List Value} (h : w.rangeAt b o cs) (hb : Below w.heap.size w w') : w'.rangeAt b o cs := fun j v hv => (hb.cell (block_lt (h j v hv))).trans (h j v hv)
theorem rangeAt_row {w : World} {b : Nat} {cs : List Value} {t : TypeId} {fr : Nat × Nat} (h : w.heap[b]? = some (.cells cs.toArray t fr)) : w.rangeAt b 0 cs := fun j v hv => by
  rw [Nat.zero_add, cell_of_row _ _ j _ _ _ h]; simpa using hv
theorem hb_alloc {w : World} {v : Value} {l : List UInt8} (h : HB w v l) (o : Obj) : HB (w.alloc o) v l := h.below ((Below.refl _ _).alloc (Nat.le_refl _) o)
theorem hb_drew {w : World} {v : Value} {l : List UInt8} (h : HB w v l) : HB w.drew v l := h.below (Below.refl _ _).drew
theorem hq_below {w w' : World} {v : Value} {q : Qn} (h : HQ w v q) (hb : Below w.heap.size w w') : HQ w' v q := by
  obtain ⟨h1, dv, h2, h3⟩ := h
  exact ⟨h1, dv, h2, h3.below hb⟩
theorem B8_one (l : List UInt8) : ∀ u ∈ l.map B8, u.oneCell' = true := by
  intro u hu
  obtain ⟨x, _, rfl⟩ := List.mem_map.1 hu
  rfl
theorem hb_cells {w : World} {v : Value} {l : List UInt8} (h : HB w v l) : ∃ p cap, v = .slice p l.length cap ∧ (p = none → l = [] ∧ cap = 0) ∧ (∀ a, p = some a → ∀ (j : Nat) u, (l.map B8)[j]? = some u → w.cell? (a.add j) = some u) := by
  rcases h with ⟨rfl, p, cap, rfl, hpc⟩ | ⟨b, o, cap, rfl, _, _, hc⟩
  · exact ⟨p, cap, rfl, fun h => ⟨rfl, hpc h⟩, fun a _ j u hu => by simp at hu⟩
  · refine ⟨_, cap, rfl, fun h => by simp at h, fun a ha j u hu => ?_⟩
    simp only [Option.some.injEq] at ha
    subst ha
    have hj : j < l.length := by
      have := (List.getElem?_eq_some_iff.1 hu).1
      simpa using this
    have hadd : (⟨b, o, none⟩ : Addr).add j = ⟨b, o + j, none⟩ := by unfold Addr.add; split <;> simp_all
    rw [hadd, hc j hj]
    rw [List.getElem?_map, List.getElem?_eq_getElem hj] at hu
    simp only [Option.map_some, Option.some.injEq] at hu
    rw [← hu]
    simp [B8, List.getD, List.getElem?_eq_getElem hj]
theorem size_u8 (w : World) : (sizeOf 5).run Tryz.prog w = .ok 1 w := by
  obtain ⟨i0, hi, hz0, hz1, hz2⟩ := info_parts Tryz.infoU8
  simp [sizeOf, typeInfo, hi, hz1]
theorem info35 (RS : List Value) (h : RS.length = 35) : (Tryz.prog.info? 138).map (·.size) = some RS.length := by rw [h]; kernel_rfl
theorem info32 (RS : List Value) (h : RS.length = 32) : (Tryz.prog.info? 33).map (·.size) = some RS.length := by rw [h]; kernel_rfl
theorem eql_digest (w : World) (xs ys : List UInt8) (hx : xs.length = 32) (hy : ys.length = 32) : (binOp .eql 33 (.agg (xs.map B8).toArray) (.agg (ys.map B8).toArray)).run Tryz.prog w = .ok (.bool (xs == ys)) w :=
  run_eql_bytes w 33 5 32 Tryz.underlying33 Tryz.underlying5 size_u8 xs ys hx hy
theorem load_mid_g {ops : Array Oper} {rest : List Oper} {o : Oper} {a : Act} {w : World} {Q : Exit → Act → World → Prop} (hw : Region.wanted o (yielded ops a.tmps) = true) (ty : TypeId) (x : Operand) (ho : o.op = .load ty x)
    (b off : Nat) (hx : a.eval x = .pointer (some ⟨b, off, none⟩)) (cs : List Value) (d : TypeDesc) (hc : w.rangeAt b off cs) (hu : Tryz.prog.underlying ty = some d) (hd : d.isRow = true) (hi : (Tryz.prog.info? ty).map (·.size) = some cs.length)
    (h : wpList Tryz.prog ops Q rest (a.put o.dst (.agg cs.toArray)) w) : wpList Tryz.prog ops Q (o :: rest) a w :=
  wpList_step fun K hK => by rw [if_pos hw]; exact wp_load_mid ty x ho b off hx cs d hc hu hd hi (hK _ _ h)
theorem txt_beq (a b : List UInt8) : ((⟨a.toArray⟩ : ByteArray).toList == (⟨b.toArray⟩ : ByteArray).toList) = decide (a = b) := by
  rw [ByteArray.toList_eq, ByteArray.toList_eq, Bool.eq_iff_iff]; simp

end Go.Proofs.YtekbppfocnbhbaaGreat.R5

namespace Go.Proofs.YtekbppfocnbhbaaGreat.R5
open scoped Classical
open Go.RowKit

theorem wpList_appHB {ops : Array Oper} {rest : List Oper} {o : Oper} {a : Act} {Q : Exit → Act → World → Prop} {w : World} (hgd : o.guard = none) (s x : Operand) (ho : o.op = .call { callee := .builtin .append, args := #[s, x], argTypes := #[106, 106] })
    (base : Nat) (v u : Value) (l b : List UInt8) (hs : a.eval s = v) (hx : a.eval x = u) (hown : FB base w v l) (hb : HB w u b) (hl : l.length + b.length ≤ 2199023255552) (hbase : base ≤ w.heap.size)
    (h : ∀ v' w', FB base w' v' (l ++ b) → w.grownBy w' v.ownBlock → wpList Tryz.prog ops Q rest (a.put o.dst v') w') : wpList Tryz.prog ops Q (o :: rest) a w := by
  obtain ⟨i0, hi, hz0, hz1, hz2⟩ := info_parts Tryz.infoU8
  obtain ⟨p, cp, rfl, hpn, hpc⟩ := hb_cells hb
  cases p with
  | none =>
    obtain ⟨rfl, rfl⟩ := hpn rfl
    refine wpList_append_own_none hgd s x 106 ho base 5 i0 1 Tryz.underlying106 hi v _ _ hs hown hx ?_
    exact h v w (by rw [List.append_nil]; exact hown) ⟨rfl, rfl, rfl, Nat.le_refl _, fun _ _ _ => rfl⟩
  | some ad =>
    refine wpList_append_own w hgd s x 106 ho base 5 i0 (.int .u8 0) 1 1 Tryz.underlying106 hi hz0 hz1 hz2 rfl (by decide) v _ _ hs hown ad b.length cp (b.map B8) hx (by simp) (hpc ad rfl) (B8_one b) (by unfold maxLen; omega) (by omega) hbase ?_
    intro v' w' h1 h2 _
    refine h v' w' ?_ h2
    unfold FB
    rw [List.length_append, List.map_append]
    exact h1
theorem hb_new (X : World) (n : Nat) (hn : n = X.heap.size) (cv : Value) (c : UInt8) (hc : cv = B8 c) : HB (X.alloc (.cells #[cv] 5)) (.slice (some ⟨n, 0, none⟩) 1 1) [c] := by
  subst hn hc
  refine .inr ⟨_, 0, _, rfl, Nat.le_refl _, by unfold maxLen; simp, fun i hi => ?_⟩
  have : i = 0 := by simpa using hi
  subst this
  rw [cell_of_row _ _ _ _ _ _ (heap_alloc_new X _)]
  rfl

set_option maxHeartbeats 2000000 in
set_option maxRecDepth 100000 in
theorem le_any (n : Nat) (w : World) (hn : n < 18446744073709551616) : Calls Tryz.prog 51 #[.int .u64 (n : Int)] w fun e w' => ∃ v, e = .returned v ∧ FB w.heap.size w' v (W1.le 8 n) ∧ Below w.heap.size w w' := by
  have hLl := W1.le_length 8 n
  have HLG : Hid (∀ i, i < 8 → (W1.le 8 n).take (i + 1) = (W1.le 8 n).take i ++ [UInt8.ofNat (n / 256 ^ i % 256)]) := fun i hi => by
    have h1 : i < (W1.le 8 n).length := by omega
    rw [List.take_succ_eq_append_getElem h1]
    have := W1.le_get 8 n i hi
    rw [List.getElem?_eq_getElem h1] at this
    simp only [Option.some.injEq] at this
    rw [this]
  have HLA : Hid ((W1.le 8 n).take 8 = W1.le 8 n) := List.take_of_length_le (by omega)
  have HTL : Hid (∀ i, i ≤ 8 → ((W1.le 8 n).take i).length = i) := fun i hi => by rw [List.length_take]; omega
  obtain ⟨L, hL⟩ : ∃ L, L = W1.le 8 n := ⟨_, rfl⟩
  rw [← hL] at HLG HLA HTL
  have HLe : Hid _ := hL
  clear hLl hL
  go_enter Tryz.func51, Tryz.ntmps51
  go_wp2
  go_loopw [3, 4] (fun v i wr => ∃ k : Nat, k ≤ 8 ∧ i = .int .i64 k ∧ FB w.heap.size wr v (L.take k) ∧ Below w.heap.size w wr) (fun _ i _ => 8 - (intOf i).toNat)
  case atStart => exact ⟨0, by omega, rfl, World.ownsRow_nil _ _ _ _, Below.refl _ _⟩
  case round =>
    obtain ⟨k, hk, rfl, hf, hb⟩ := hrel
    by_cases hlt : k < 8
    · have hkI : (k : Int) < 8 := by omega
      have hst := HLG.out k hlt
      obtain ⟨c, hc⟩ : ∃ c, c = UInt8.ofNat (n / 256 ^ k % 256) := ⟨_, rfl⟩
      rw [← hc] at hst
      obtain ⟨q, hq⟩ : ∃ q, q = n / 2 ^ (8 * k) := ⟨_, rfl⟩
      have hqI : (n : Int) / 2 ^ (8 * k) = (q : Int) := by rw [hq]; simp
      have hcq : (q : Int) % 256 = (c.toNat : Int) := by
        rw [hc, hq]
        have e : 2 ^ (8 * k) = 256 ^ k := by rw [show (256 : Nat) = 2 ^ 8 from rfl, ← Nat.pow_mul]
        rw [e]
        show ((_ : Nat) : Int) % 256 = ((n / 256 ^ k % 256 % 256 : Nat) : Int)
        omega
      have q1 : IntKind.u64.wrap (k : Int) = (k : Int) := by rw [IntKind.wrap_u64]; omega
      have q2 : IntKind.u64.wrap (8 * (k : Int)) = 8 * (k : Int) := by rw [IntKind.wrap_u64]; omega
      have t1 : (8 * (k : Int)).toNat = 8 * k := by omega
      have hsz := hb.size
      have hl0 := HTL.out k hk
      have HST : Hid _ := hst
      have HF : Hid _ := hf
      have HB' : Hid _ := hb
      clear hst hc hq hf hb
      go_wp2_with (at_builtin; refine wpList_appHB rfl (.tmp 9) (.tmp 16) rfl w.heap.size u3 _ (L.take k) [c] rfl rfl (World.ownsRow.alloc HF.out _) (hb_new wr _ rfl _ c rfl) (by rw [hl0]; simp; omega) (by simp; omega) ?_; intro v1 w1 hf1 hg1)
      have HF1 : Hid (FB w.heap.size w1 v1 (L.take (k + 1))) := by rw [HST.out]; exact hf1
      have HB1 : Hid (Below w.heap.size w w1) := (HB'.out.alloc hsz _).grown hg1 (by simp; omega) (fun j hj => (HF.out.lt j hj).1)
      clear hf1 hg1
      go_wp2
      go_roundw
      case rel => exact ⟨k + 1, by omega, by go_num, HF1.out, HB1.out⟩
      case measure => simp [intOf]; omega
    · have hk8 : k = 8 := by omega
      have hkI : ¬ (k : Int) < 8 := by omega
      rw [hk8, HLA.out] at hf
      have HF : Hid _ := hf
      clear hf hk8
      go_wp2
      go_ret
      exact ⟨_, rfl, by rw [← HLe.out]; exact HF.out, hb⟩

theorem sliceDig (W : World) (b o : Nat) : (Instr.sliceAt 33 (.pointer (some ⟨b, o, none⟩)) none none none).run Tryz.prog W = .ok (.slice (some ⟨b, o, none⟩) 32 32) W := by
  have ha : Tryz.prog.arrayLen 33 = 32 := by kernel_rfl
  have hu : Tryz.prog.underlying 33 = some (.array (Tryz.prog.arrayLen 33) (Tryz.prog.elem 33)) := by kernel_rfl
  have he : Tryz.prog.elem 33 = 5 := by kernel_rfl
  rw [run_sliceAt_array_all W 33 _ hu, he, size_u8, ha]
  have hadd : (⟨b, o, none⟩ : Addr).add (0 * 1) = ⟨b, o, none⟩ := by unfold Addr.add; split <;> simp_all
  simp [Result.andThen, slicedAt, hadd]
theorem hb_range {W : World} {b o : Nat} {l : List UInt8} (k : Nat) (hk : k = l.length) (hl : l.length ≤ 1099511627776) (h : W.rangeAt b o (l.map B8)) : HB W (.slice (some ⟨b, o, none⟩) k k) l := by
  subst hk
  refine .inr ⟨_, o, _, rfl, Nat.le_refl _, by unfold maxLen; omega, fun i hi => ?_⟩
  rw [h i (B8 (l.getD i 0)) (by simp [List.getD, List.getElem?_eq_getElem hi])]
  rfl
end Go.Proofs.YtekbppfocnbhbaaGreat.R5
