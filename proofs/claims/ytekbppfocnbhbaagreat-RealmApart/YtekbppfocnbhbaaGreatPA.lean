import Derived.WalkKit
import Derived.Test.YtekbppfocnbhbaaGreatRows
import Derived.WalkSpells
import Derived.WalkLawsBesides
import Derived.Deep.RegionLaw
import Derived.Deep.AppendLies
import Derived.Laws.Tables
import Derived.Deep.MidRow
import Derived.Laws.CopyOwn
import Derived.Laws.CopyRow
import Derived.Laws.IdiomCopy
import Derived.BigQuiet
import Derived.Deep.QuietTactic
import Derived.WalkSmall
import Derived.Deep.RegionHeld3
import Derived.Stop.BytesEq
import Derived.Laws.AppendOwnNone
set_option linter.unusedVariables false
set_option linter.unusedSimpArgs false
set_option maxHeartbeats 16000000
set_option maxRecDepth 100000
namespace Go.Proofs.YtekbppfocnbhbaaGreat
theorem qT {α : Type _} (l : List α) (i : Nat) (a : α) : l.toArray.setIfInBounds i a = (l.set i a).toArray := List.setIfInBounds_toArray l i a
theorem q0 {α : Type _} (a b : α) (bs : List α) : (a :: bs).set 0 b = b :: bs := rfl
theorem qS {α : Type _} (a b : α) (bs : List α) (i : Nat) : (a :: bs).set (i + 1) b = a :: bs.set i b := rfl
section
variable {P : Program} {ops : Array Oper} {Q : Exit → Act → World → Prop} {md : Region.Mode} {S : World → Prop} {fuel : Nat} {listed : Array Bool} {a : Act} {w : World}
theorem qzK (i : Nat) (oi : Oper) (v : Value) (hi : ops[i]? = some oi) (hb : (Region.noSelect ops && (Region.free md ops listed i && (Region.ready md ops listed).contains i)) = true) (hQ : ∀ c a w, Q (.panic c) (a.put oi.dst v) w → Q (.panic c) a w) (hy : YieldsIf P ops S oi v a) (hS : S w) (h : wpAnyH P md ops Q S fuel (listed.setIfInBounds i true) (a.put oi.dst v) w) : wpAnyH P md ops Q S (fuel + 1) listed a w := by
  rw [Bool.and_eq_true, Bool.and_eq_true] at hb
  exact wpAnyH_take hi hb.1 hb.2.1 hb.2.2 hQ hy hS h
theorem qzI (i : Nat) (oi : Oper) (v : Value) (hi : ops[i]? = some oi) (hb : (Region.noSelect ops && (Region.free md ops listed i && (Region.ready md ops listed).contains i)) = true) (hQ : ∀ c a w, Q (.panic c) (a.put oi.dst v) w → Q (.panic c) a w) (hw : Region.wanted oi (yielded ops a.tmps) = true) (hy : ∀ w, S w → (execOp a.eval oi).run P w = .ok (.value v) w) (hS : S w) (h : wpAnyH P md ops Q S fuel (listed.setIfInBounds i true) (a.put oi.dst v) w) : wpAnyH P md ops Q S (fuel + 1) listed a w :=
  qzK i oi v hi hb hQ (Or.inl ⟨hw, hy⟩) hS h
theorem qzN (i : Nat) (oi : Oper) (hi : ops[i]? = some oi) (hb : (Region.noSelect ops && (Region.free md ops listed i && (Region.ready md ops listed).contains i)) = true) (hQ : ∀ c a w, Q (.panic c) (a.put oi.dst undef) w → Q (.panic c) a w) (hw : Region.wanted oi (yielded ops a.tmps) = false) (hS : S w) (h : wpAnyH P md ops Q S fuel (listed.setIfInBounds i true) (a.put oi.dst undef) w) : wpAnyH P md ops Q S (fuel + 1) listed a w :=
  qzK i oi undef hi hb hQ (Or.inr ⟨hw, rfl⟩) hS h
theorem qzR (i : Nat) (o : Oper) (hr : Region.ready md ops listed = [i]) (ho : ops[i]? = some o) (hw : Region.wanted o (yielded ops a.tmps) = true) (h : ∀ K' : Act → World → Prop, Shut (∀ a w, S w → (S w → wpAnyH P md ops Q S fuel (listed.setIfInBounds i true) a w) → K' a w) → Oper.wp P o a w K' Q) : wpAnyH P md ops Q S (fuel + 1) listed a w := by
  refine wpAnyH_ready (rs := [i]) hr (by simp) ?_
  refine AllReadyH.cons (o := o) ho (fun K hK => ?_) AllReadyH.nil
  rw [if_pos hw]
  exact h K hK
end
namespace W1
def le : Nat → Nat → List UInt8
  | 0, _ => []
  | s + 1, n => UInt8.ofNat (n % 256) :: le s (n / 256)
theorem le_length (s n : Nat) : (le s n).length = s := by
  induction s generalizing n with
  | zero => rfl
  | succ s ih => simp [le, ih]
theorem le_get (s n i : Nat) (h : i < s) : (le s n)[i]? = some (UInt8.ofNat (n / 256 ^ i % 256)) := by
  induction s generalizing n i with
  | zero => omega
  | succ s ih =>
    cases i with
    | zero => simp [le]
    | succ i =>
      simp only [le, List.getElem?_cons_succ]
      rw [ih _ _ (by omega), Nat.div_div_eq_div_mul, Nat.pow_succ, Nat.mul_comm 256]
theorem pow256 (k : Nat) : (2 : Nat) ^ (8 * k) = 256 ^ k := by rw [Nat.pow_mul]
theorem wrap_u64 (n : Int) : IntKind.u64.wrap n = n % 18446744073709551616 := by simp [IntKind.wrap, IntKind.bits, IntKind.signed]
theorem shr_byte (k n : Nat) (hn : n < 18446744073709551616) : IntKind.u8.wrap ((n : Int) / 2 ^ (8 * k)) = (((UInt8.ofNat (n / 256 ^ k % 256)).toNat : Nat) : Int) := by
  have : ((2 : Int) ^ (8 * k)) = ((256 ^ k : Nat) : Int) := by rw [← pow256]; simp
  rw [this, IntKind.wrap_u8]
  simp
end W1
open Go.RowKit
def HB (w : World) (v : Value) (l : List UInt8) : Prop :=
  (l = [] ∧ ∃ p cap, v = .slice p 0 cap ∧ (p = none → cap = 0)) ∨ (∃ b o cap, v = .slice (some ⟨b, o, none⟩) l.length cap ∧ l.length ≤ cap ∧ cap ≤ maxLen ∧ ∀ i, i < l.length → w.cell? ⟨b, o + i, none⟩ = some (.int .u8 ((l.getD i 0).toNat : Int)))
theorem block_lt {w : World} {a : Addr} {v : Value} (h : w.cell? a = some v) : a.block < w.heap.size := by
  rcases Nat.lt_or_ge a.block w.heap.size with h1 | h1
  · exact h1
  · have : w.heap[a.block]? = none := Array.getElem?_eq_none h1
    simp [World.cell?, this] at h
theorem HB.below {w w' : World} {v : Value} {l : List UInt8} (h : HB w v l) (hb : Below w.heap.size w w') : HB w' v l := by
  rcases h with ⟨h1, h2⟩ | ⟨b, o, cap, h1, h2, h3, h4⟩
  · exact .inl ⟨h1, h2⟩
  · refine .inr ⟨b, o, cap, h1, h2, h3, fun i hi => ?_⟩
    have hc := h4 i hi
    rw [hb.cell (p := ⟨b, o + i, none⟩) (block_lt hc)]
    exact hc
def B8 (x : UInt8) : Value := .int .u8 (x.toNat : Int)
def FB (base : Nat) (w : World) (v : Value) (l : List UInt8) : Prop := w.ownsRow base 5 1 v l.length (l.map B8)
theorem FB.hb {base : Nat} {w : World} {v : Value} {l : List UInt8} (h : FB base w v l) : HB w v l := by
  rcases h.2 with ⟨h1, h2⟩ | ⟨g, cap, cur, h1, h2, h3, h4, h5, h6⟩
  · exact .inl ⟨List.eq_nil_of_length_eq_zero h2, none, 0, h1, fun _ => rfl⟩
  · refine .inr ⟨g, 0, cap, h1, h4, h5, fun i hi => ?_⟩
    subst h1
    have := h.cellAt (g := g) i (by omega)
    rw [Nat.zero_add, this, List.getElem?_map, List.getElem?_eq_getElem hi]
    simp [B8, List.getD, List.getElem?_eq_getElem hi]
theorem Tryz.infoU8 : (Tryz.prog.info? 5).map (fun i => (i.zero, i.size, i.bytes)) = some (some (.int .u8 0), 1, 1) := by kernel_rfl
theorem le_set (s n k : Nat) (h : k < s) : ((W1.le s n).take k ++ List.replicate (s - k) (0 : UInt8)).set k (UInt8.ofNat (n / 256 ^ k % 256)) = (W1.le s n).take (k + 1) ++ List.replicate (s - (k + 1)) 0 := by
  have hlen := W1.le_length s n
  have hk : k < (W1.le s n).length := by omega
  have hg := W1.le_get s n k h
  rw [List.getElem?_eq_getElem hk, Option.some.injEq] at hg
  rw [List.take_succ_eq_append_getElem hk, hg, List.set_append_right _ _ (by simp; omega), List.length_take, Nat.min_eq_left (by omega), Nat.sub_self, show s - k = (s - (k + 1)) + 1 by omega, List.replicate_succ, List.set_cons_zero]
  simp
theorem lowestFirst_any (n : Nat) (size : Nat) (w : World) (hn : n < 18446744073709551616) (hs : size ≤ 8) :
    Calls Tryz.prog 98 #[.int .u64 (n : Int), .int .i64 (size : Int)] w fun e w' => e = .returned (.slice (some ⟨w.heap.size, 0, none⟩) size size) ∧ FB w.heap.size w' (.slice (some ⟨w.heap.size, 0, none⟩) size size) (W1.le size n) ∧ Below w.heap.size w w' := by
  obtain ⟨i0, hi, hz0, hz1, hz2⟩ := info_parts Tryz.infoU8
  go_enter Tryz.func98, Tryz.ntmps98
  go_wp2_with (at_make; refine wpList_make_full _ rfl _ _ 106 rfl w.heap.size 5 i0 (.int .u8 0) 1 Tryz.underlying106 hi hz0 hz1 _ _ _ _ size rfl rfl (by omega) (by omega) ?b2 ?b3 (Nat.le_refl _) ?_)
  case b2 => rw [hz2]; omega
  case b3 => unfold maxLen; omega
  intro w0 hown0 hgrow0
  go_wp2
  go_loopw [10] (fun i wr => ∃ k : Nat, k ≤ size ∧ i = .int .i64 k ∧ wr.ownsRow w.heap.size 5 1 (.slice (some ⟨w.heap.size, 0, none⟩) size size) size (((W1.le size n).take k ++ List.replicate (size - k) 0).map B8) ∧ Below w.heap.size w wr)
    (fun i _ => size - (intOf i).toNat)
  case atStart =>
    refine ⟨0, Nat.zero_le _, rfl, ?_, (Below.refl _ _).grown hgrow0 (Nat.le_refl _) (fun k h => by cases h)⟩
    rw [toList_madeCells_one] at hown0
    simpa [B8] using hown0
  case round =>
    obtain ⟨k, hk, rfl, hown, hbel⟩ := hrel
    by_cases hlt : k < size
    · have hst := hown.stored k (B8 (UInt8.ofNat (n / 256 ^ k % 256)))
      have hlen := W1.le_length size n
      have hce := hown.cellAt k (by omega)
      have hfz := hown.frozenAt k
      rw [List.map_append, List.getElem?_append_right (by simp; omega)] at hce
      simp only [List.length_map, List.length_take, hlen, Nat.min_eq_left (show k ≤ size by omega), Nat.sub_self, List.map_replicate] at hce
      rw [List.getElem?_replicate, if_pos (by omega)] at hce
      have HS : Hid _ := W1.shr_byte k n hn
      have HST : Hid _ := hst
      clear hst hown0 hgrow0 hown hlen
      go_wp2
      go_roundw
      case rel =>
        have hst := HST.out
        rw [← List.map_set, le_set size n k hlt] at hst
        refine ⟨k + 1, by omega, by go_num, ?_, hbel.setCell (p := ⟨w.heap.size, k, none⟩) (Nat.le_refl _) _⟩
        have e := HS.out
        unfold B8 at hst
        rw [← e] at hst
        exact hst.1
      case measure => simp [intOf]; omega
    · have : k = size := by omega
      subst this
      go_wp2
      go_ret
      refine ⟨rfl, ?_, hbel⟩
      unfold FB
      rw [W1.le_length]
      simpa [List.take_of_length_le (show (W1.le k n).length ≤ k by rw [W1.le_length]; omega)] using hown
theorem shr_zero (n size : Nat) (hf : n < 256 ^ size) : ((n : Int) / 2 ^ (8 * size) != 0) = false := by
  have : ((2 : Int) ^ (8 * size)) = ((256 ^ size : Nat) : Int) := by rw [← W1.pow256]; simp
  rw [this, bne_eq_false_iff_eq, ← Int.natCast_ediv, Nat.div_eq_of_lt hf]; rfl
theorem put_ok (n : Nat) (size : Nat) (w : World) (h1 : 1 ≤ size) (h8 : size ≤ 8) (hn : n < 18446744073709551616) (hf : n < 256 ^ size) :
    Calls Tryz.prog 81 #[.int .u64 (n : Int), .int .i64 (size : Int)] w fun e w' => e = .returned (.tuple #[.slice (some ⟨w.heap.size, 0, none⟩) size size, .int .i64 0]) ∧ FB w.heap.size w' (.slice (some ⟨w.heap.size, 0, none⟩) size size) (W1.le size n) ∧ Below w.heap.size w w' := by
  have hsh := shr_zero n size hf
  clear hf
  go_enter Tryz.func81, Tryz.ntmps81
  go_wp2_with (go_at_call 98; refine (lowestFirst_any _ _ _ hn h8).mono ?_; rintro e w1 ⟨rfl, hfb, hbel⟩)
  go_ret2
  exact ⟨rfl, hfb, hbel⟩
namespace W1
end W1
def txt (l : List UInt8) : ByteArray := ⟨l.toArray⟩
theorem conv_hb (w : World) (v : Value) (l : List UInt8) (h : HB w v l) : (convert 106 9 v).run Tryz.prog w = .ok (.string (txt l)) w := by
  rcases h with ⟨rfl, p, cap, rfl, hpc⟩ | ⟨b, o, cap, rfl, _, _, hc⟩
  · cases p with
    | none => exact run_convert_bytes_nil w _ _ Tryz.underlying106 Tryz.underlying5 0 cap _ Tryz.underlying9
    | some a =>
      rw [run_convert_bytes_string w _ _ _ _ 0 cap Tryz.underlying106 Tryz.underlying5 Tryz.underlying9, run_bytesToString w _ 0 cap [] (by
        have := run_loadCells_list (P := Tryz.prog) w a [] (fun j u hj => by simp at hj)
        simpa using this)]
      rfl
  · rw [run_convert_bytes_arg w _ _ Tryz.underlying106 Tryz.underlying5 b o l.length cap (l.map fun x => (x.toNat : Int)) (by simp) (fun i hi => by rw [hc i hi]; simp [List.getD, List.getElem?_eq_getElem hi]) _ Tryz.underlying9]
    congr 2
    unfold strOfNums txt
    congr 2
    rw [List.map_map]
    conv => rhs; rw [← List.map_id l]
    apply List.map_congr_left
    intro x _
    simp
end Go.Proofs.YtekbppfocnbhbaaGreat
namespace Go.Proofs.YtekbppfocnbhbaaGreat.PC
open Go.RowKit
theorem row_lt {w : World} {d : Nat} {o : Obj} (h : w.heap[d]? = some o) : d < w.heap.size := (Array.getElem?_eq_some_iff.1 h).1
theorem B8_one (l : List UInt8) : ∀ u ∈ l.map B8, u.oneCell' = true := by
  intro u hu
  obtain ⟨x, _, rfl⟩ := List.mem_map.1 hu
  rfl
theorem onea {l : List Value} (h : ∀ u ∈ l, u.oneCell' = true) : l.toArray.all (·.oneCell') = true := by
  rw [Array.all_eq_true_iff_forall_mem]
  intro v hv
  exact h v (by simpa using hv)
theorem B8_onea (l : List UInt8) : (l.map B8).toArray.all (·.oneCell') = true := onea (B8_one l)
theorem heap_at (w : World) (o : Obj) (n : Nat) (h : n = w.heap.size) : (w.alloc o).heap[n]? = some o := by subst h; exact heap_alloc_new _ _
theorem rangeAt_below {w w' : World} {b o : Nat} {cs : List Value} (h : w.rangeAt b o cs) (hb : Below w.heap.size w w') : w'.rangeAt b o cs := fun j v hv => (hb.cell (block_lt (h j v hv))).trans (h j v hv)
theorem rangeAt_row {w : World} {b : Nat} {cs : List Value} {t : TypeId} {fr : Nat × Nat} (h : w.heap[b]? = some (.cells cs.toArray t fr)) : w.rangeAt b 0 cs := fun j v hv => by
  rw [Nat.zero_add, cell_of_row _ _ j _ _ _ h]; simpa using hv
theorem rangeAt_part {w : World} {b o : Nat} {cs : List Value} (h : w.rangeAt b o cs) (k n : Nat) : w.rangeAt b (o + k) ((cs.drop k).take n) := fun j v hv => by
  have hj : j < n := by have := (List.getElem?_eq_some_iff.1 hv).1; rw [List.length_take] at this; omega
  rw [List.getElem?_take_of_lt hj, List.getElem?_drop] at hv
  rw [show o + k + j = o + (k + j) by omega]
  exact h _ _ hv
theorem add_none (b o j : Nat) : (⟨b, o, none⟩ : Addr).add j = ⟨b, o + j, none⟩ := by unfold Addr.add; split <;> simp_all
theorem size_u8 (w : World) : (sizeOf 5).run Tryz.prog w = .ok 1 w := by kernel_rfl
theorem hb_range {w : World} {b o cap : Nat} {l : List UInt8} (k : Nat) (hk : k = l.length) (h1 : l.length ≤ cap) (h2 : cap ≤ maxLen) (h : w.rangeAt b o (l.map B8)) : HB w (.slice (some ⟨b, o, none⟩) k cap) l := by
  subst hk
  refine .inr ⟨b, o, cap, rfl, h1, h2, fun i hi => ?_⟩
  have := h i (B8 l[i]) (by rw [List.getElem?_map, List.getElem?_eq_getElem hi]; rfl)
  rw [this]
  simp [B8, List.getD, List.getElem?_eq_getElem hi]
theorem hb_cells {w : World} {v : Value} {l : List UInt8} (h : HB w v l) : ∃ p cap, v = .slice p l.length cap ∧ (p = none → l = [] ∧ cap = 0) ∧ (∀ a, p = some a → ∀ (j : Nat) u, (l.map B8)[j]? = some u → w.cell? (a.add j) = some u) := by
  rcases h with ⟨rfl, p, cap, rfl, hpc⟩ | ⟨b, o, cap, rfl, _, _, hc⟩
  · exact ⟨p, cap, rfl, fun h => ⟨rfl, hpc h⟩, fun a _ j u hu => by simp at hu⟩
  · refine ⟨_, cap, rfl, fun h => by simp at h, fun a ha j u hu => ?_⟩
    simp only [Option.some.injEq] at ha
    subst ha
    have hj : j < l.length := by
      have := (List.getElem?_eq_some_iff.1 hu).1
      simpa using this
    rw [add_none, hc j hj]
    rw [List.getElem?_map, List.getElem?_eq_getElem hj] at hu
    simp only [Option.map_some, Option.some.injEq] at hu
    rw [← hu]
    simp [B8, List.getD, List.getElem?_eq_getElem hj]
theorem hb_alloc {w : World} {v : Value} {l : List UInt8} (h : HB w v l) (o : Obj) : HB (w.alloc o) v l := h.below ((Below.refl _ _).alloc (Nat.le_refl _) o)
theorem splice_map {α β : Type} (f : α → β) (L : List α) (o : Nat) (cs : List α) : splice (L.map f) o (cs.map f) = (splice L o cs).map f := by simp [splice, List.map_take, List.map_drop]
theorem exec_build (ev : Operand → Value) (o : Oper) (t : TypeId) (parts : Array (Nat × Operand)) (vals : Array (Nat × Value)) (v : Value) (w : World) (ho : o.op = .build t parts) (hp : (parts.map fun (i, x) => (i, ev x)) = vals)
    (hr : (Instr.build t vals).run Tryz.prog w = .ok v w) : (execOp ev o).run Tryz.prog w = .ok (.value v) w := by
  unfold execOp
  simp only [ho, Sem.run_bind, hp, hr, Result.andThen_ok]
  rfl
theorem wpList_build {ops : Array Oper} {rest : List Oper} {o : Oper} {a : Act} {Q : Exit → Act → World → Prop} {w : World} (hgd : o.guard = none) (t : TypeId) (parts : Array (Nat × Operand)) (ho : o.op = .build t parts) (vals : Array (Nat × Value)) (v : Value) (hp : (parts.map fun (i, x) => (i, a.eval x)) = vals)
    (hr : (Instr.build t vals).run Tryz.prog w = .ok v w) (h : wpList Tryz.prog ops Q rest (a.put o.dst v) w) : wpList Tryz.prog ops Q (o :: rest) a w := by
  refine wpList_plain hgd fun K' hK' => ?_
  unfold Oper.wp
  rw [exec_build a.eval o t parts vals v w ho hp hr]
  exact hK' _ _ h
theorem results2 {fn : Func} {p u : Tmp} {ty : TypeId} {d : TypeDesc} (h : fn.results = #[.cell p ty, .tmp u]) (tmps : Array Value) (w : World) (g : Nat) (t : TypeId) (cs : List Value) (fr : Nat × Nat) (x : Value)
    (hp : tmps.getD p undef = .pointer (some ⟨g, 0, none⟩)) (hx : tmps.getD u undef = x) (hg : w.heap[g]? = some (.cells cs.toArray t fr)) (hu : Tryz.prog.underlying ty = some d) (hd : d.isRow = true) (hi : (Tryz.prog.info? ty).map (·.size) = some cs.length) :
    (results fn tmps).run Tryz.prog w = .ok (.tuple #[.agg cs.toArray, x]) w := by
  rw [results_cell_tmp h, hp, hx]
  simp [asAddr, run_loadVar_mid w g 0 ty cs d (rangeAt_row hg) hu hd hi]
theorem ret_bool {a b : Bool} (h : a = b) : Ending.returned (.bool a) = .returned (.bool b) := by rw [h]
def rpL (V : List UInt8) (n : Nat) : List Value := V.map B8 ++ [.int .u64 (n : Int)]
def U8 (x : Nat) : Value := .int .u64 (x : Int)
def rcL (pc : Nat) (rs : List Nat) (r : Bool) : List Value := U8 pc :: (rs.map U8 ++ [.bool r])
theorem rpL_len (V : List UInt8) (n : Nat) (h : V.length = 32) : (rpL V n).length = 33 := by unfold rpL; simp [h]
theorem rcL_len (pc : Nat) (rs : List Nat) (r : Bool) (h : rs.length = 8) : (rcL pc rs r).length = 10 := by unfold rcL; simp [h]
theorem rcL_one (pc : Nat) (rs : List Nat) (r : Bool) : ∀ u ∈ rcL pc rs r, u.oneCell' = true := by
  intro u hu
  unfold rcL at hu
  rcases List.mem_cons.1 hu with h | h
  · subst h; rfl
  · rcases List.mem_append.1 h with h | h
    · obtain ⟨x, _, rfl⟩ := List.mem_map.1 h; rfl
    · rw [List.mem_singleton] at h; subst h; rfl
theorem rpL_n (V : List UInt8) (n : Nat) (h : V.length = 32) : (rpL V n)[32]? = some (.int .u64 (n : Int)) := by
  unfold rpL; rw [List.getElem?_append_right (by simp [h])]; simp [h]
theorem rpL_v (V : List UInt8) (n : Nat) (h : V.length = 32) : ((rpL V n).drop 0).take 32 = V.map B8 := by
  unfold rpL; rw [List.drop_zero, List.take_append_of_le_length (by simp [h]), List.take_of_length_le (by simp [h])]
theorem rcL_pc (pc : Nat) (rs : List Nat) (r : Bool) : (rcL pc rs r)[0]? = some (.int .u64 (pc : Int)) := rfl
theorem rcL_r (pc : Nat) (rs : List Nat) (r : Bool) (i : Nat) (hi : i < rs.length) : (rcL pc rs r)[1 + i]? = some (.int .u64 ((rs.getD i 0 : Nat) : Int)) := by
  unfold rcL; rw [Nat.add_comm, List.getElem?_cons_succ, List.getElem?_append_left (by simpa using hi), List.getElem?_map, List.getElem?_eq_getElem hi]
  simp [U8, List.getD, List.getElem?_eq_getElem hi]
theorem rcL_b (pc : Nat) (rs : List Nat) (r : Bool) (h : rs.length = 8) : (rcL pc rs r)[9]? = some (.bool r) := by
  unfold rcL; rw [List.getElem?_cons_succ, List.getElem?_append_right (by simp [h])]; simp [h]
theorem info33 (l : List Value) (h : l.length = 33) : (Tryz.prog.info? 36).map (·.size) = some l.length := by rw [h]; kernel_rfl
theorem info10 (l : List Value) (h : l.length = 10) : (Tryz.prog.info? 41).map (·.size) = some l.length := by rw [h]; kernel_rfl
theorem info128 (l : List Value) (h : l.length = 128) : (Tryz.prog.info? 38).map (·.size) = some l.length := by rw [h]; kernel_rfl
theorem info128a (A : Array Value) (h : A.size = 128) : (Tryz.prog.info? 38).map (·.size) = some A.size := by rw [h]; kernel_rfl
def Z128 : List UInt8 := List.replicate 128 0
def Z32 : List UInt8 := List.replicate 32 0
def Z8 : List Nat := List.replicate 8 0
theorem z128_len : Z128.length = 128 := List.length_replicate
theorem z32_len : Z32.length = 32 := List.length_replicate
theorem z8_len : Z8.length = 8 := List.length_replicate
theorem zero_gr (w : World) : (zeroValue 38).run Tryz.prog w = .ok (.agg (Z128.map B8).toArray) w := by kernel_rfl
theorem build_gr (w : World) : (Instr.build 38 #[]).run Tryz.prog w = .ok (.agg (Z128.map B8).toArray) w := by kernel_rfl
theorem build_rp (w : World) : (Instr.build 36 #[]).run Tryz.prog w = .ok (.agg (rpL Z32 0).toArray) w := by kernel_rfl
def mayC (pc : Nat) : Bool := decide (pc % 8 = 0)
theorem pmayC_any (pc : Nat) (rs : List Nat) (r : Bool) (w : World) :
    Calls Tryz.prog 90 #[.agg (rcL pc rs r).toArray] w fun e w' => e = .returned (.bool (mayC pc)) ∧ Below w.heap.size w w' := by
  have hc0 := cell_of_row _ w.heap.size 0 _ _ _ (heap_alloc_new w (.cells (rcL pc rs r).toArray 41 (0, 0)))
  rw [List.getElem?_toArray, rcL_pc] at hc0
  have hbl : Below w.heap.size w (w.alloc (.cells (rcL pc rs r).toArray 41 (0, 0))) := (Below.refl _ _).alloc (Nat.le_refl _) _
  have HBL : Hid _ := hbl
  generalize (rcL pc rs r).toArray = PA at *
  clear hbl
  go_enter Tryz.func90, Tryz.ntmps90
  go_wp2
  go_ret
  refine ⟨ret_bool ?_, HBL.out⟩
  unfold mayC
  by_cases h : pc % 8 = 0
  · simp [h]; omega
  · simp [h]; omega
theorem rmayC_any (pc : Nat) (rs : List Nat) (r : Bool) (w : World) :
    Calls Tryz.prog 74 #[.agg (rcL pc rs r).toArray] w fun e w' => e = .returned (.bool (mayC pc)) ∧ Below w.heap.size w w' := by
  have hc0 := cell_of_row _ w.heap.size 0 _ _ _ (heap_alloc_new w (.cells (rcL pc rs r).toArray 41 (0, 0)))
  rw [List.getElem?_toArray, rcL_pc] at hc0
  have hbl : Below w.heap.size w (w.alloc (.cells (rcL pc rs r).toArray 41 (0, 0))) := (Below.refl _ _).alloc (Nat.le_refl _) _
  have HBL : Hid _ := hbl
  generalize (rcL pc rs r).toArray = PA at *
  clear hbl
  go_enter Tryz.func74, Tryz.ntmps74
  go_wp2
  go_ret
  refine ⟨ret_bool ?_, HBL.out⟩
  unfold mayC
  by_cases h : pc % 8 = 0
  · simp [h]; omega
  · simp [h]; omega
end Go.Proofs.YtekbppfocnbhbaaGreat.PC
