/- Rows of bytes (as in sha's texts); contract of ref 4's Table. -/
import Derived.Test.YtjohckgdbbhpdaaA7
import Derived.Test.YtjohckgdbbhpdaaB1
import Derived.Laws.Tables
import Derived.Deep.MidRow
import Derived.Laws.CopyOwn
set_option linter.unusedVariables false
set_option linter.unusedSimpArgs false
namespace Go.Proofs.Ytjohckgdbbhpdaa
open Go.RowKit

/-- A row of n bytes of which the first k are laid, the rest noughts. -/
def bpart (n : Nat) (T : List UInt8) (k : Nat) : List UInt8 := T.take k ++ List.replicate (n - k) 0
theorem bpart_all (n : Nat) (T : List UInt8) (hT : T.length = n) : bpart n T n = T := by unfold bpart; simp [← hT]
theorem bpart_len (n : Nat) (T : List UInt8) (k : Nat) (hT : T.length = n) (h : k ≤ n) : (bpart n T k).length = n := by unfold bpart; simp; omega
theorem bpart_set (n : Nat) (T : List UInt8) (k : Nat) (hT : T.length = n) (h : k < n) : ((bpart n T k).map B8).toArray.setIfInBounds k (B8 (T.getD k 0)) = ((bpart n T (k + 1)).map B8).toArray := by
  have hk : k < T.length := by omega
  have e : (bpart n T k).set k (T.getD k 0) = bpart n T (k + 1) := by
    unfold bpart
    rw [List.set_append_right _ _ (by simp; omega), List.take_succ_eq_append_getElem hk]
    simp only [List.length_take, Nat.min_eq_left (show k ≤ T.length by omega), Nat.sub_self]
    rw [show n - k = (n - (k + 1)) + 1 by omega, List.replicate_succ, List.set_cons_zero]
    rw [show T.getD k 0 = T[k] from by simp [List.getD, List.getElem?_eq_getElem hk]]
    simp only [List.append_assoc, List.singleton_append]
  rw [List.setIfInBounds_toArray, ← List.map_set, e]
theorem bpart_cell (n : Nat) (T : List UInt8) (k : Nat) (hT : T.length = n) (h : k < n) : ∃ u, ((bpart n T k).map B8).toArray[k]? = some u := by
  have hl : k < ((bpart n T k).map B8).toArray.size := by simp [bpart_len n T k hT (by omega)]; exact h
  exact ⟨_, Array.getElem?_eq_getElem hl⟩
theorem B8_onea (l : List UInt8) : (l.map B8).toArray.all (·.oneCell') = true := by
  rw [Array.all_eq_true_iff_forall_mem]
  intro v hv
  simp only [List.mem_toArray, List.mem_map] at hv
  obtain ⟨x, _, rfl⟩ := hv
  rfl
theorem below_blk {B i : Nat} {w w' : World} {o : Obj} (h : Below B w w') (hi : i < B) (ho : w.heap[i]? = some o) : w'.heap[i]? = some o := (h.block i hi).trans ho
theorem alloc2_first (w : World) (A C : Obj) : ((w.alloc A).alloc C).heap[w.heap.size]? = some A := by
  rw [Below.heap_alloc _ _ _ (by simp), heap_alloc_new]
theorem cell_far (w : World) (p a : Addr) (v : Value) (h : a.block ≠ p.block) : (w.setCell p v).cell? a = w.cell? a := by
  unfold World.cell?; rw [heap_setCell_other _ _ _ _ h]
theorem heap_at (w : World) (o : Obj) (n : Nat) (h : n = w.heap.size) : (w.alloc o).heap[n]? = some o := by subst h; exact heap_alloc_new _ _
theorem rangeAt_below {w w' : World} {b o : Nat} {cs : List Value} (h : w.rangeAt b o cs) (hb : Below w.heap.size w w') : w'.rangeAt b o cs := fun j v hv => (hb.cell (block_lt (h j v hv))).trans (h j v hv)
theorem rangeAt_row {w : World} {b : Nat} {cs : List Value} {t : TypeId} {fr : Nat × Nat} (h : w.heap[b]? = some (.cells cs.toArray t fr)) : w.rangeAt b 0 cs := fun j v hv => by
  rw [Nat.zero_add, cell_of_row _ _ j _ _ _ h]; simpa using hv
theorem rangeAt_setRow {w : World} {b o h : Nat} {cs : List Value} {ns : Array Value} (hr : w.rangeAt b o cs) (hne : b ≠ h) : (w.setRow h ns).rangeAt b o cs := fun j v hv => by
  rw [cell_setRow_other _ _ _ _ (by simpa using hne)]; exact hr j v hv
theorem heap_alloc_eq (w : World) (o : Obj) : (w.alloc o).heap = w.heap.push o := rfl
theorem h2a (w : World) (a b : Obj) : ((w.alloc a).alloc b).drew.heap[w.heap.size]? = some a := by
  rw [heap_drew, Below.heap_alloc _ _ _ (by simp)]; exact heap_alloc_new _ _
theorem h2b (w : World) (a b : Obj) : ((w.alloc a).alloc b).drew.heap[w.heap.size + 1]? = some b := by
  rw [heap_drew]; exact heap_at _ _ _ (by simp)
theorem h3a (w : World) (a b c : Obj) : (((w.alloc a).alloc b).alloc c).drew.heap[w.heap.size]? = some a := by
  rw [heap_drew, Below.heap_alloc _ _ _ (by simp; omega), Below.heap_alloc _ _ _ (by simp)]; exact heap_alloc_new _ _
theorem h3b (w : World) (a b c : Obj) : (((w.alloc a).alloc b).alloc c).drew.heap[w.heap.size + 1]? = some b := by
  rw [heap_drew, Below.heap_alloc _ _ _ (by simp)]; exact heap_at _ _ _ (by simp)
theorem h3c (w : World) (a b c : Obj) : (((w.alloc a).alloc b).alloc c).drew.heap[w.heap.size + 2]? = some c := by
  rw [heap_drew]; exact heap_at _ _ _ (by simp)
theorem row_lt {w : World} {d : Nat} {o : Obj} (h : w.heap[d]? = some o) : d < w.heap.size := (Array.getElem?_eq_some_iff.1 h).1
/-- A store over a row's cells, where the walk stands at it. -/
theorem upon_store {o : Oper} {a : Act} {K : Act → World → Prop} {Q : Exit → Act → World → Prop} {W : World} (g : Nat) (cs old : Array Value) (t : TypeId) (hg : W.heap[g]? = some (.cells old t (0, 0))) (hsz : old.size = cs.size) (h1 : cs.all (·.oneCell') = true)
    (h : ∀ W', Hid (W'.heap[g]? = some (.cells cs t (0, 0))) → Below g W W' → Oper.upon Try.prog o a K Q (.ok .skip W')) :
    Oper.upon Try.prog o a K Q (((storeCells ⟨g, 0, none⟩ cs.toList).run Try.prog W).andThen fun _ w' => .ok .skip w') := by
  have h1' : ∀ v ∈ cs.toList, v.oneCell' = true := fun v hv => by
    rw [Array.all_eq_true_iff_forall_mem] at h1
    exact h1 v (by simpa using hv)
  rw [run_storeCells_at Try.prog g 0 t cs.toList 0 old W hg (by simp; omega) h1']
  have e : (old.toList.take (0 + 0) ++ cs.toList ++ old.toList.drop (0 + 0 + cs.toList.length)).toArray = cs := by
    rw [← Array.toList_inj]
    simp [hsz]
  rw [e]
  exact h _ (setRow_heap _ _ _ _ _ _ hg) (below_setRow (Below.refl _ _) (Nat.le_refl _) _)
theorem size_u8 (w : World) : (sizeOf 5).run Try.prog w = .ok 1 w := by
  obtain ⟨i0, hi, hz0, hz1, hz2⟩ := info_parts Try.infoU8
  simp [sizeOf, typeInfo, hi, hz1]
theorem row_get (a : List UInt8) (n : Nat) (h : a.length = n) (i : Nat) (hi : i < n) : (a.map B8).toArray[i]? = some (.int .u8 ((a.getD i 0).toNat : Int)) := by
  have : i < a.length := by omega
  simp [B8, List.getD, List.getElem?_eq_getElem this]

/-- What stands for all bytes. -/
def tabA : List UInt8 := (List.range 256).map fun i => sbA (UInt8.ofNat i)
theorem tabA_len : tabA.length = 256 := by unfold tabA; simp
theorem tabA_get (i : Nat) (h : i < 256) : tabA.getD i 0 = sbA (UInt8.ofNat i) := by
  unfold tabA
  simp [List.getD, List.getElem?_map, List.getElem?_range h]

theorem zero256 (w : World) : (zeroValue 27).run Try.prog w = .ok (.agg ((List.replicate 256 (0 : UInt8)).map B8).toArray) w := by kernel_rfl

set_option maxHeartbeats 4000000 in
set_option maxRecDepth 100000 in
theorem table_any (w : World) : Calls Try.prog 18 #[] w fun e w' => e = .returned (.agg (tabA.map B8).toArray) ∧ Below w.heap.size w w' := by
  have hl := tabA_len
  have HG : Hid _ := tabA_get
  have hsu := fun c W => sub_any c W
  have HSZ : Hid ((tabA.map B8).toArray.size = 256) := by show _ = _; simp [hl]
  have HONE : Hid _ := B8_onea tabA
  generalize tabA = T at *
  have HL : Hid _ := hl
  have hzv := fun W => zero256 W
  have hz0 : bpart 256 T 0 = List.replicate 256 0 := by unfold bpart; rw [List.take_zero, List.nil_append]
  rw [← hz0] at hzv
  obtain ⟨ZA, hZA⟩ : ∃ ZA, ZA = ((bpart 256 T 0).map B8).toArray := ⟨_, rfl⟩
  rw [← hZA] at hzv
  have HZA : Hid _ := hZA
  clear hl hz0 hZA
  go_enter Try.func18, Try.ntmps18
  go_wp2
  go_loopw [2] (fun i wr => ∃ k : Nat, k ≤ 256 ∧ i = .int .i64 k ∧ wr.heap[w.heap.size + 1]? = some (.cells ((bpart 256 T k).map B8).toArray 27 (0, 0)) ∧ wr.heap[w.heap.size]? = some (.cells ZA 27 (0, 0)) ∧ Below w.heap.size w wr) (fun i _ => 256 - (intOf i).toNat)
  case atStart => exact ⟨0, by omega, rfl, by rw [← HZA.out]; exact heap_alloc2_new _ _ _, alloc2_first _ _ _, ((Below.refl _ _).alloc (Nat.le_refl _) _).alloc (by simp) _⟩
  case round =>
    obtain ⟨k, hk, rfl, hT, hR, hbel⟩ := hrel
    have HT : Hid _ := hT
    have HR : Hid _ := hR
    by_cases hlt : k < 256
    · have hset := bpart_set 256 T k HL.out hlt
      obtain ⟨u, hu⟩ := bpart_cell 256 T k HL.out hlt
      have hcu := cell_of_row _ _ k _ _ _ hT
      rw [hu] at hcu
      have hfu := frozen_of_row _ _ k _ _ hT
      rw [HG.out k hlt] at hset
      obtain ⟨c, hc⟩ : ∃ c, c = UInt8.ofNat k := ⟨_, rfl⟩
      have hck : c.toNat = k := by rw [hc]; show _ % 256 = _; omega
      rw [← hc] at hset
      have hst := hsu c wr
      rw [hck] at hst
      have HX : Hid (B8 (sbA c) = .int .u8 ((sbA c).toNat : Int)) := rfl
      generalize sbA c = y at *
      have HSET : Hid _ := hset
      have hkI : (k : Int) < 256 := by omega
      clear hset hT hR hu hc hck
      go_wp2_with fail
      refine hst.mono ?_
      rintro e wx ⟨rfl, rfl⟩
      clear hst
      go_wp2
      go_roundw
      case rel =>
        refine ⟨k + 1, by omega, by go_num, ?_, ?_, hbel.setCell (p := ⟨w.heap.size + 1, k, none⟩) (by simp) _⟩
        · rw [← HSET.out, HX.out]; exact heap_setCell_same _ (w.heap.size + 1) k _ 27 _ HT.out
        · rw [heap_setCell_other _ _ _ _ (by simp)]; exact HR.out
      case measure => simp [intOf]; omega
    · have hk' : k = 256 := by omega
      rw [hk', bpart_all 256 T HL.out] at hT
      have HT' : Hid _ := hT
      have HI : Hid ((Try.prog.info? 27).map (·.size) = some (T.map B8).toArray.size) := by show _ = _; rw [HSZ.out]; kernel_rfl
      have HZ : Hid (ZA.size = (T.map B8).toArray.size) := by show _ = _; rw [HSZ.out, HZA.out]; simp [bpart_len 256 T 0 HL.out (by omega)]
      have HX : Hid (∃ TA, TA = (T.map B8).toArray) := ⟨_, rfl⟩
      obtain ⟨TA, hTA⟩ := HX.out
      rw [← hTA] at HI HZ HT'
      have HONE' : Hid _ := HONE.out
      rw [← hTA] at HONE'
      have HTA : Hid _ := hTA
      clear hT hR HT hk' hTA HX
      go_wp2_with (first
        | (refine wpList_load_row rfl 27 _ rfl (w.heap.size + 1) rfl 27 _ (0, 0) _ HT'.out Try.underlying27 rfl HI.out ?_)
        | (refine wpList_store_row rfl 27 _ _ rfl w.heap.size _ rfl rfl 27 _ HR.out HI.out HZ.out HONE'.out ?_))
      refine bodyPost_ret (v := .agg TA) ?_ rfl ⟨by rw [HTA.out], below_setRow hbel (Nat.le_refl _) _⟩
      exact results_cell_row Try.results18 _ _ w.heap.size 27 _ (0, 0) _ rfl (setRow_heap _ _ _ _ _ _ HR.out) Try.underlying27 rfl HI.out

end Go.Proofs.Ytjohckgdbbhpdaa
