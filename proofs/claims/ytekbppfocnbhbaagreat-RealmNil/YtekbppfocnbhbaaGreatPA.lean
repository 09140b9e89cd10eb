/- params: rows in memory; a realm's and a vCPU's parameters as cells; contracts of num, of both Mays. -/
import Derived.Test.YtekbppfocnbhbaaGreatD1
import Derived.Laws.Tables
import Derived.Deep.MidRow
import Derived.Laws.CopyOwn
import Derived.Laws.CopyRow
import Derived.Laws.IdiomCopy
import Derived.BigQuiet
import Derived.Deep.QuietTactic
import Derived.WalkSmall
import Derived.Deep.RegionHeld3
import Derived.Stop.BytesEq
import Derived.Laws.AppendOwnNone
import Derived.Deep.AppendLies
set_option linter.unusedVariables false
set_option linter.unusedSimpArgs false
namespace Go.Proofs.YtekbppfocnbhbaaGreat.PC
open Go.RowKit

theorem row_lt {w : World} {d : Nat} {o : Obj} (h : w.heap[d]? = some o) : d < w.heap.size := (Array.getElem?_eq_some_iff.1 h).1
theorem B8_one (l : List UInt8) : ∀ u ∈ l.map B8, u.oneCell' = true := by
  intro u hu
  obtain ⟨x, _, rfl⟩ := List.mem_map.1 hu
  rfl
theorem onea {l : List Value} (h : ∀ u ∈ l, u.oneCell' = true) : l.toArray.all (·.oneCell') = true := by
  rw [Array.all_eq_true_iff_forall_mem]
  intro v hv
  exact h v (by simpa using hv)
theorem B8_onea (l : List UInt8) : (l.map B8).toArray.all (·.oneCell') = true := onea (B8_one l)
theorem heap_at (w : World) (o : Obj) (n : Nat) (h : n = w.heap.size) : (w.alloc o).heap[n]? = some o := by subst h; exact heap_alloc_new _ _
theorem rangeAt_below {w w' : World} {b o : Nat} {cs : List Value} (h : w.rangeAt b o cs) (hb : Below w.heap.size w w') : w'.rangeAt b o cs := fun j v hv => (hb.cell (block_lt (h j v hv))).trans (h j v hv)
theorem rangeAt_row {w : World} {b : Nat} {cs : List Value} {t : TypeId} {fr : Nat × Nat} (h : w.heap[b]? = some (.cells cs.toArray t fr)) : w.rangeAt b 0 cs := fun j v hv => by
  rw [Nat.zero_add, cell_of_row _ _ j _ _ _ h]; simpa using hv
theorem rangeAt_part {w : World} {b o : Nat} {cs : List Value} (h : w.rangeAt b o cs) (k n : Nat) : w.rangeAt b (o + k) ((cs.drop k).take n) := fun j v hv => by
  have hj : j < n := by have := (List.getElem?_eq_some_iff.1 hv).1; rw [List.length_take] at this; omega
  rw [List.getElem?_take_of_lt hj, List.getElem?_drop] at hv
  rw [show o + k + j = o + (k + j) by omega]
  exact h _ _ hv
theorem add_none (b o j : Nat) : (⟨b, o, none⟩ : Addr).add j = ⟨b, o + j, none⟩ := by unfold Addr.add; split <;> simp_all
theorem size_u8 (w : World) : (sizeOf 5).run Tryz.prog w = .ok 1 w := by kernel_rfl
theorem hb_range {w : World} {b o cap : Nat} {l : List UInt8} (k : Nat) (hk : k = l.length) (h1 : l.length ≤ cap) (h2 : cap ≤ maxLen) (h : w.rangeAt b o (l.map B8)) : HB w (.slice (some ⟨b, o, none⟩) k cap) l := by
  subst hk
  refine .inr ⟨b, o, cap, rfl, h1, h2, fun i hi => ?_⟩
  have := h i (B8 l[i]) (by rw [List.getElem?_map, List.getElem?_eq_getElem hi]; rfl)
  rw [this]
  simp [B8, List.getD, List.getElem?_eq_getElem hi]
theorem hb_cells {w : World} {v : Value} {l : List UInt8} (h : HB w v l) : ∃ p cap, v = .slice p l.length cap ∧ (p = none → l = [] ∧ cap = 0) ∧ (∀ a, p = some a → ∀ (j : Nat) u, (l.map B8)[j]? = some u → w.cell? (a.add j) = some u) := by
  rcases h with ⟨rfl, p, cap, rfl, hpc⟩ | ⟨b, o, cap, rfl, _, _, hc⟩
  · exact ⟨p, cap, rfl, fun h => ⟨rfl, hpc h⟩, fun a _ j u hu => by simp at hu⟩
  · refine ⟨_, cap, rfl, fun h => by simp at h, fun a ha j u hu => ?_⟩
    simp only [Option.some.injEq] at ha
    subst ha
    have hj : j < l.length := by
      have := (List.getElem?_eq_some_iff.1 hu).1
      simpa using this
    rw [add_none, hc j hj]
    rw [List.getElem?_map, List.getElem?_eq_getElem hj] at hu
    simp only [Option.map_some, Option.some.injEq] at hu
    rw [← hu]
    simp [B8, List.getD, List.getElem?_eq_getElem hj]
theorem hb_alloc {w : World} {v : Value} {l : List UInt8} (h : HB w v l) (o : Obj) : HB (w.alloc o) v l := h.below ((Below.refl _ _).alloc (Nat.le_refl _) o)
theorem splice_map {α β : Type} (f : α → β) (L : List α) (o : Nat) (cs : List α) : splice (L.map f) o (cs.map f) = (splice L o cs).map f := by simp [splice, List.map_take, List.map_drop]
theorem splice_len {α : Type} (L : List α) (o : Nat) (cs : List α) (h : o + cs.length ≤ L.length) : (splice L o cs).length = L.length := by simp [splice]; omega
theorem load_mid_g {ops : Array Oper} {rest : List Oper} {o : Oper} {a : Act} {w : World} {Q : Exit → Act → World → Prop} (hw : Region.wanted o (yielded ops a.tmps) = true) (ty : TypeId) (x : Operand) (ho : o.op = .load ty x)
    (b off : Nat) (hx : a.eval x = .pointer (some ⟨b, off, none⟩)) (cs : List Value) (d : TypeDesc) (hc : w.rangeAt b off cs) (hu : Tryz.prog.underlying ty = some d) (hd : d.isRow = true) (hi : (Tryz.prog.info? ty).map (·.size) = some cs.length)
    (h : wpList Tryz.prog ops Q rest (a.put o.dst (.agg cs.toArray)) w) : wpList Tryz.prog ops Q (o :: rest) a w :=
  wpList_step fun K hK => by rw [if_pos hw]; exact wp_load_mid ty x ho b off hx cs d hc hu hd hi (hK _ _ h)
theorem exec_build (ev : Operand → Value) (o : Oper) (t : TypeId) (parts : Array (Nat × Operand)) (vals : Array (Nat × Value)) (v : Value) (w : World) (ho : o.op = .build t parts) (hp : (parts.map fun (i, x) => (i, ev x)) = vals)
    (hr : (Instr.build t vals).run Tryz.prog w = .ok v w) : (execOp ev o).run Tryz.prog w = .ok (.value v) w := by
  unfold execOp
  simp only [ho, Sem.run_bind, hp, hr, Result.andThen_ok]
  rfl
theorem wpList_build {ops : Array Oper} {rest : List Oper} {o : Oper} {a : Act} {Q : Exit → Act → World → Prop} {w : World} (hgd : o.guard = none) (t : TypeId) (parts : Array (Nat × Operand)) (ho : o.op = .build t parts) (vals : Array (Nat × Value)) (v : Value) (hp : (parts.map fun (i, x) => (i, a.eval x)) = vals)
    (hr : (Instr.build t vals).run Tryz.prog w = .ok v w) (h : wpList Tryz.prog ops Q rest (a.put o.dst v) w) : wpList Tryz.prog ops Q (o :: rest) a w := by
  refine wpList_plain hgd fun K' hK' => ?_
  unfold Oper.wp
  rw [exec_build a.eval o t parts vals v w ho hp hr]
  exact hK' _ _ h
theorem results2 {fn : Func} {p u : Tmp} {ty : TypeId} {d : TypeDesc} (h : fn.results = #[.cell p ty, .tmp u]) (tmps : Array Value) (w : World) (g : Nat) (t : TypeId) (cs : List Value) (fr : Nat × Nat) (x : Value)
    (hp : tmps.getD p undef = .pointer (some ⟨g, 0, none⟩)) (hx : tmps.getD u undef = x) (hg : w.heap[g]? = some (.cells cs.toArray t fr)) (hu : Tryz.prog.underlying ty = some d) (hd : d.isRow = true) (hi : (Tryz.prog.info? ty).map (·.size) = some cs.length) :
    (results fn tmps).run Tryz.prog w = .ok (.tuple #[.agg cs.toArray, x]) w := by
  rw [results_cell_tmp h, hp, hx]
  simp [asAddr, run_loadVar_mid w g 0 ty cs d (rangeAt_row hg) hu hd hi]
theorem ret_bool {a b : Bool} (h : a = b) : Ending.returned (.bool a) = .returned (.bool b) := by rw [h]

/-- A realm's parameters in cells. -/
def rpL (V : List UInt8) (n : Nat) : List Value := V.map B8 ++ [.int .u64 (n : Int)]
/-- A number as a cell holds it. -/
def U8 (x : Nat) : Value := .int .u64 (x : Int)
/-- A vCPU's parameters in cells. -/
def rcL (pc : Nat) (rs : List Nat) (r : Bool) : List Value := U8 pc :: (rs.map U8 ++ [.bool r])
theorem rpL_len (V : List UInt8) (n : Nat) (h : V.length = 32) : (rpL V n).length = 33 := by unfold rpL; simp [h]
theorem rcL_len (pc : Nat) (rs : List Nat) (r : Bool) (h : rs.length = 8) : (rcL pc rs r).length = 10 := by unfold rcL; simp [h]
theorem rpL_one (V : List UInt8) (n : Nat) : ∀ u ∈ rpL V n, u.oneCell' = true := by
  intro u hu
  unfold rpL at hu
  rcases List.mem_append.1 hu with h | h
  · exact B8_one _ _ h
  · rw [List.mem_singleton] at h; subst h; rfl
theorem rcL_one (pc : Nat) (rs : List Nat) (r : Bool) : ∀ u ∈ rcL pc rs r, u.oneCell' = true := by
  intro u hu
  unfold rcL at hu
  rcases List.mem_cons.1 hu with h | h
  · subst h; rfl
  · rcases List.mem_append.1 h with h | h
    · obtain ⟨x, _, rfl⟩ := List.mem_map.1 h; rfl
    · rw [List.mem_singleton] at h; subst h; rfl
theorem rpL_n (V : List UInt8) (n : Nat) (h : V.length = 32) : (rpL V n)[32]? = some (.int .u64 (n : Int)) := by
  unfold rpL; rw [List.getElem?_append_right (by simp [h])]; simp [h]
theorem rpL_v (V : List UInt8) (n : Nat) (h : V.length = 32) : ((rpL V n).drop 0).take 32 = V.map B8 := by
  unfold rpL; rw [List.drop_zero, List.take_append_of_le_length (by simp [h]), List.take_of_length_le (by simp [h])]
theorem rcL_pc (pc : Nat) (rs : List Nat) (r : Bool) : (rcL pc rs r)[0]? = some (.int .u64 (pc : Int)) := rfl
theorem rcL_r (pc : Nat) (rs : List Nat) (r : Bool) (i : Nat) (hi : i < rs.length) : (rcL pc rs r)[1 + i]? = some (.int .u64 ((rs.getD i 0 : Nat) : Int)) := by
  unfold rcL; rw [Nat.add_comm, List.getElem?_cons_succ, List.getElem?_append_left (by simpa using hi), List.getElem?_map, List.getElem?_eq_getElem hi]
  simp [U8, List.getD, List.getElem?_eq_getElem hi]
theorem rcL_b (pc : Nat) (rs : List Nat) (r : Bool) (h : rs.length = 8) : (rcL pc rs r)[9]? = some (.bool r) := by
  unfold rcL; rw [List.getElem?_cons_succ, List.getElem?_append_right (by simp [h])]; simp [h]
theorem info33 (l : List Value) (h : l.length = 33) : (Tryz.prog.info? 36).map (·.size) = some l.length := by rw [h]; kernel_rfl
theorem info33a (A : Array Value) (h : A.size = 33) : (Tryz.prog.info? 36).map (·.size) = some A.size := by rw [h]; kernel_rfl
theorem info10 (l : List Value) (h : l.length = 10) : (Tryz.prog.info? 41).map (·.size) = some l.length := by rw [h]; kernel_rfl
theorem info10a (A : Array Value) (h : A.size = 10) : (Tryz.prog.info? 41).map (·.size) = some A.size := by rw [h]; kernel_rfl
theorem info128 (l : List Value) (h : l.length = 128) : (Tryz.prog.info? 38).map (·.size) = some l.length := by rw [h]; kernel_rfl
theorem info128a (A : Array Value) (h : A.size = 128) : (Tryz.prog.info? 38).map (·.size) = some A.size := by rw [h]; kernel_rfl
/-- Noughts. -/
def Z128 : List UInt8 := List.replicate 128 0
def Z32 : List UInt8 := List.replicate 32 0
def Z8 : List Nat := List.replicate 8 0
theorem z128_len : Z128.length = 128 := List.length_replicate
theorem z32_len : Z32.length = 32 := List.length_replicate
theorem z8_len : Z8.length = 8 := List.length_replicate
theorem zero_gr (w : World) : (zeroValue 38).run Tryz.prog w = .ok (.agg (Z128.map B8).toArray) w := by kernel_rfl
theorem build_gr (w : World) : (Instr.build 38 #[]).run Tryz.prog w = .ok (.agg (Z128.map B8).toArray) w := by kernel_rfl
theorem zero_rp (w : World) : (zeroValue 36).run Tryz.prog w = .ok (.agg (rpL Z32 0).toArray) w := by kernel_rfl
theorem build_rp (w : World) : (Instr.build 36 #[]).run Tryz.prog w = .ok (.agg (rpL Z32 0).toArray) w := by kernel_rfl
theorem zero_rc (w : World) : (zeroValue 41).run Tryz.prog w = .ok (.agg (rcL 0 Z8 false).toArray) w := by kernel_rfl
theorem build_rc (w : World) : (Instr.build 41 #[]).run Tryz.prog w = .ok (.agg (rcL 0 Z8 false).toArray) w := by kernel_rfl

/-- May they be? -/
def mayR (n : Nat) : Bool := decide (n % 128 = 0 ∧ n / 128 ≤ 4032)
def mayC (pc : Nat) : Bool := decide (pc % 8 = 0)

theorem pmayC_any (pc : Nat) (rs : List Nat) (r : Bool) (w : World) :
    Calls Tryz.prog 90 #[.agg (rcL pc rs r).toArray] w fun e w' => e = .returned (.bool (mayC pc)) ∧ Below w.heap.size w w' := by
  have hc0 := cell_of_row _ w.heap.size 0 _ _ _ (heap_alloc_new w (.cells (rcL pc rs r).toArray 41 (0, 0)))
  rw [List.getElem?_toArray, rcL_pc] at hc0
  have hbl : Below w.heap.size w (w.alloc (.cells (rcL pc rs r).toArray 41 (0, 0))) := (Below.refl _ _).alloc (Nat.le_refl _) _
  have HBL : Hid _ := hbl
  generalize (rcL pc rs r).toArray = PA at *
  clear hbl
  go_enter Tryz.func90, Tryz.ntmps90
  go_wp2
  go_ret
  refine ⟨ret_bool ?_, HBL.out⟩
  unfold mayC
  by_cases h : pc % 8 = 0
  · simp [h]; omega
  · simp [h]; omega
theorem rmayC_any (pc : Nat) (rs : List Nat) (r : Bool) (w : World) :
    Calls Tryz.prog 74 #[.agg (rcL pc rs r).toArray] w fun e w' => e = .returned (.bool (mayC pc)) ∧ Below w.heap.size w w' := by
  have hc0 := cell_of_row _ w.heap.size 0 _ _ _ (heap_alloc_new w (.cells (rcL pc rs r).toArray 41 (0, 0)))
  rw [List.getElem?_toArray, rcL_pc] at hc0
  have hbl : Below w.heap.size w (w.alloc (.cells (rcL pc rs r).toArray 41 (0, 0))) := (Below.refl _ _).alloc (Nat.le_refl _) _
  have HBL : Hid _ := hbl
  generalize (rcL pc rs r).toArray = PA at *
  clear hbl
  go_enter Tryz.func74, Tryz.ntmps74
  go_wp2
  go_ret
  refine ⟨ret_bool ?_, HBL.out⟩
  unfold mayC
  by_cases h : pc % 8 = 0
  · simp [h]; omega
  · simp [h]; omega
end Go.Proofs.YtekbppfocnbhbaaGreat.PC
