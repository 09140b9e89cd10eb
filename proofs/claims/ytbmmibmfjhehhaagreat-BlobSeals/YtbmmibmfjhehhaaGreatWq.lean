/- Several texts in one. -/
import Derived.Test.YtbmmibmfjhehhaaGreatWa
import Derived.Maps.Keyed
import Derived.DeepKeys4
import Derived.MapViews
import Derived.Test.YtbmmibmfjhehhaaGreatWb
import Derived.Maps.Own
import Derived.Test.YtbmmibmfjhehhaaGreatWh
import Derived.WalkSpells
import Derived.Great.BuildSlice
set_option linter.unusedVariables false
set_option linter.unusedSimpArgs false
/- Questions as keys of the program's map; the map in memory. -/
namespace Go.Proofs.YtbmmibmfjhehhaaGreat.R5
open scoped Classical
open Go.RowKit

def tx (l : List UInt8) : Value := .string ⟨l.toArray⟩
def kL (q : Qn) : List Value := qL q (tx q.data)
def kV (q : Qn) : Value := .agg (kL q).toArray
structure kOk (q : Qn) : Prop where
  key : q.key.length = 32
  kind : (Lit.int .i64 q.kind).wf = true
  dom : (Lit.int .i64 q.dom).wf = true
  data : q.data.length ≤ 1099511627776
theorem B8_inj {a b : UInt8} (h : B8 a = B8 b) : a = b := by
  unfold B8 at h
  simp only [Value.int.injEq, true_and] at h
  exact UInt8.toNat_inj.1 (by omega)
theorem mapB8_inj : ∀ {a b : List UInt8}, a.map B8 = b.map B8 → a = b
  | [], [], _ => rfl
  | [], _ :: _, h => by simp at h
  | _ :: _, [], h => by simp at h
  | x :: a, y :: b, h => by
    simp only [List.map_cons, List.cons.injEq] at h
    rw [B8_inj h.1, mapB8_inj h.2]
theorem kL_len (q : Qn) (h : q.key.length = 32) : (kL q).length = 35 := qL_len q _ h
theorem kL_inj {p q : Qn} (hp : p.key.length = 32) (hq : q.key.length = 32) (h : kL p = kL q) : p = q := by
  unfold kL qL at h
  rw [List.cons.injEq] at h
  obtain ⟨h1, h2⟩ := h
  have h3 := List.append_inj h2 (by simp [hp, hq])
  obtain ⟨h4, h5⟩ := h3
  have h6 := mapB8_inj h4
  simp only [tx, List.cons.injEq, Value.int.injEq, true_and, Value.string.injEq, ByteArray.mk.injEq, and_true] at h1 h5
  obtain ⟨h7, h8⟩ := h5
  have h9 : p.data = q.data := by simpa using h8
  obtain ⟨a, b, c, d⟩ := p
  obtain ⟨a', b', c', d'⟩ := q
  simp_all
theorem kV_inj {p q : Qn} (hp : p.key.length = 32) (hq : q.key.length = 32) (h : kV p = kV q) : p = q := by
  unfold kV at h
  exact kL_inj hp hq (by simpa using h)

theorem laidOut5 : laidOutB Tryz.prog = true := by kernel_rfl
theorem lawQ : Maps.Keyed Tryz.prog 63 := Maps.Keyed.of_law (deep_law_laid laidOut5 (m := 3) (by omega) (of_decide_eq_true (by kernel_rfl)) (by kernel_rfl) (by kernel_rfl))
theorem mapM_some {α β : Type} (f : α → Option β) (g : α → β) : ∀ l : List α, (∀ x ∈ l, f x = some (g x)) → l.mapM f = some (l.map g)
  | [], _ => rfl
  | x :: l, h => by
    rw [List.mapM_cons, h x (by simp), mapM_some f g l (fun y hy => h y (by simp [hy]))]
    rfl
theorem B8_wf (x : UInt8) : (Lit.int .u8 (x.toNat : Int)).wf = true := by
  have := x.toNat_lt
  simp [Lit.wf, IntKind.min, IntKind.max, IntKind.signed, IntKind.bits]
  omega
theorem size5 : ∃ m, Tryz.prog.types.size = m + 2 := ⟨Tryz.prog.types.size - 2, by have : 2 ≤ Tryz.prog.types.size := of_decide_eq_true (by kernel_rfl); omega⟩
theorem cells_q : Tryz.prog.cellsOf 63 = 35 := by kernel_rfl
theorem cells_k : Tryz.prog.cellsOf 60 = 1 := by kernel_rfl
theorem cells_m : Tryz.prog.cellsOf 61 = 1 := by kernel_rfl
theorem cells_s : Tryz.prog.cellsOf 9 = 1 := by kernel_rfl
theorem cells_d : Tryz.prog.cellsOf 23 = 32 := by kernel_rfl
theorem cells_b : Tryz.prog.cellsOf 5 = 1 := by kernel_rfl
theorem take_one {l : List Value} {i : Nat} {v : Value} (h : l[i]? = some v) : (l.drop (i * 1)).take 1 = [v] := by
  rw [Nat.mul_one]
  obtain ⟨hi, e⟩ := List.getElem?_eq_some_iff.1 h
  rw [List.drop_eq_getElem_cons hi, e]
  rfl
theorem keyLits_dig (d : Nat) (l : List UInt8) (h : l.length = 32) : ∃ ls, Tryz.prog.keyLits (d + 2) 23 (l.map B8) = some ls := by
  unfold Program.keyLits
  rw [Tryz.underlying23]
  simp only
  rw [if_pos (by rw [cells_d]; simp [h])]
  rw [mapM_some _ (fun i => [Lit.int .u8 ((l.getD i 0).toNat : Int)])]
  · exact ⟨_, rfl⟩
  · intro i hi
    have hi' : i < l.length := by rw [h]; simpa using hi
    have hg : (l.map B8)[i]? = some (B8 (l.getD i 0)) := by
      rw [List.getElem?_map, List.getElem?_eq_getElem hi', List.getD, List.getElem?_eq_getElem hi']
      rfl
    rw [cells_b, take_one hg]
    unfold Program.keyLits
    rw [Tryz.underlying5]
    simp [B8, B8_wf]
theorem keyLits_int5 (d : Nat) (t : TypeId) (n : Int) (hu : Tryz.prog.underlying t = some (.int .i64)) (h : (Lit.int .i64 n).wf = true) : Tryz.prog.keyLits (d + 1) t [.int .i64 n] = some [.int .i64 n] := by
  unfold Program.keyLits
  rw [hu]
  simp [h]
theorem keyLits_str5 (d : Nat) (l : List UInt8) (h : l.length ≤ 1099511627776) : ∃ ls, Tryz.prog.keyLits (d + 1) 9 [tx l] = some ls := by
  unfold Program.keyLits
  rw [Tryz.underlying9]
  unfold tx
  simp only
  rw [if_pos (by unfold maxLen; simp [ByteArray.size]; omega)]
  exact ⟨_, rfl⟩
theorem key_ok (q : Qn) (h : kOk q) : ∃ kl, keyOf Tryz.prog 63 (kV q) = some kl := by
  obtain ⟨m, hm⟩ := size5
  obtain ⟨ld, hd⟩ := keyLits_dig m q.key h.key
  obtain ⟨ls, hs⟩ := keyLits_str5 (m + 1) q.data h.data
  have hk := keyLits_int5 (m + 1) 60 q.kind Tryz.underlying60 h.kind
  have ho := keyLits_int5 (m + 1) 61 q.dom Tryz.underlying61 h.dom
  have e1 : ((kL q).drop 0).take 1 = [.int .i64 q.kind] := by unfold kL qL; simp
  have e2 : ((kL q).drop 1).take 32 = q.key.map B8 := by
    unfold kL qL
    rw [List.drop_succ_cons, List.drop_zero, List.take_append_of_le_length (by simp [h.key]), List.take_of_length_le (by simp [h.key])]
  have e3 : ((kL q).drop 33).take 1 = [.int .i64 q.dom] := by
    unfold kL qL
    rw [List.drop_succ_cons, List.drop_append_of_le_length (by simp [h.key]), List.drop_eq_nil_of_le (by simp [h.key])]
    simp
  have e4 : ((kL q).drop 34).take 1 = [tx q.data] := by
    unfold kL qL
    rw [List.drop_succ_cons, List.drop_append, List.drop_eq_nil_of_le (by simp [h.key])]
    simp [h.key]
  have hlits : Tryz.prog.keyLits (m + 2 + 1) 63 (kL q) = some ([[Lit.int .i64 q.kind], ld, [.int .i64 q.dom], ls].flatten) := by
    unfold Program.keyLits
    rw [Tryz.underlying63]
    simp only
    rw [if_pos ⟨by rw [cells_q, kL_len q h.key], by kernel_rfl⟩]
    simp only [List.mapM_cons, List.mapM_nil, cells_k, cells_m, cells_s, cells_d, e1, e2, e3, e4, hd, hs, hk, ho]
    rfl
  unfold keyOf
  rw [Tryz.underlying63]
  simp only
  rw [if_pos, hm]
  · rw [show (kV q).cells.toList = kL q by unfold kV; simp [Value.cells], hlits]
    exact ⟨_, rfl⟩
  · rw [Bool.and_eq_true]
    refine ⟨by kernel_rfl, ?_⟩
    unfold kV Value.formed
    rw [Tryz.underlying63, cells_q]
    simp [kL_len q h.key]

end Go.Proofs.YtbmmibmfjhehhaaGreat.R5

/- The program's map of answers in memory. -/
namespace Go.Proofs.YtbmmibmfjhehhaaGreat.R5
open scoped Classical
open Go.RowKit
open Go.ChangeMaps (setBlock heap_setBlock_same heap_setBlock_other)

def dV (a : List UInt8) : Value := .agg (a.map B8).toArray
structure lOk (l : List (Qn × List UInt8)) : Prop where
  all : ∀ x ∈ l, kOk x.1 ∧ x.2.length = 32
  once : (l.map (·.1)).Nodup
def MH (w : World) (mb : Nat) (l : List (Qn × List UInt8)) : Prop :=
  ∃ es clock, w.heap[mb]? = some (.map es clock) ∧ (es.toList.map fun e => (e.key, e.val)).Perm (l.map fun x => (kV x.1, dV x.2))
theorem MH.lt {w : World} {mb : Nat} {l : List (Qn × List UInt8)} (h : MH w mb l) : mb < w.heap.size := by
  obtain ⟨es, c, h1, _⟩ := h; exact row_lt h1
theorem MH.keep {w w' : World} {mb : Nat} {l : List (Qn × List UInt8)} (h : MH w mb l) (e : w'.heap[mb]? = w.heap[mb]?) : MH w' mb l := by
  obtain ⟨es, c, h1, h2⟩ := h; exact ⟨es, c, e.trans h1, h2⟩
theorem MH.mem {es : Array MapEntry} {l : List (Qn × List UInt8)} (h : (es.toList.map fun e => (e.key, e.val)).Perm (l.map fun x => (kV x.1, dV x.2))) {e : MapEntry} (he : e ∈ es.toList) : ∃ x ∈ l, e.key = kV x.1 ∧ e.val = dV x.2 := by
  have := h.subset (List.mem_map.2 ⟨e, he, rfl⟩)
  obtain ⟨x, hx, hxe⟩ := List.mem_map.1 this
  simp only [Prod.mk.injEq] at hxe
  exact ⟨x, hx, hxe.1.symm, hxe.2.symm⟩
theorem MH.mem' {es : Array MapEntry} {l : List (Qn × List UInt8)} (h : (es.toList.map fun e => (e.key, e.val)).Perm (l.map fun x => (kV x.1, dV x.2))) {x : Qn × List UInt8} (hx : x ∈ l) : ∃ e ∈ es.toList, e.key = kV x.1 ∧ e.val = dV x.2 := by
  have := h.symm.subset (List.mem_map.2 ⟨x, hx, rfl⟩)
  obtain ⟨e, he, hxe⟩ := List.mem_map.1 this
  simp only [Prod.mk.injEq] at hxe
  exact ⟨e, he, hxe.1, hxe.2⟩
theorem nodup_snd : ∀ {l : List (Qn × List UInt8)}, (l.map (·.1)).Nodup → ∀ {q : Qn} {A B : List UInt8}, (q, A) ∈ l → (q, B) ∈ l → A = B
  | [], _, _, _, _, h, _ => by simp at h
  | x :: l, hn, q, A, B, h1, h2 => by
    simp only [List.map_cons, List.nodup_cons] at hn
    rcases List.mem_cons.1 h1 with e1 | e1 <;> rcases List.mem_cons.1 h2 with e2 | e2
    · rw [← e1] at e2; simpa using e2.symm
    · exact absurd (List.mem_map.2 ⟨_, e2, rfl⟩) (by rw [← e1] at hn; exact hn.1)
    · exact absurd (List.mem_map.2 ⟨_, e1, rfl⟩) (by rw [← e2] at hn; exact hn.1)
    · exact nodup_snd hn.2 e1 e2
theorem find_q {w : World} {mb : Nat} {l : List (Qn × List UInt8)} (hl : lOk l) {es : Array MapEntry} (h2 : (es.toList.map fun e => (e.key, e.val)).Perm (l.map fun x => (kV x.1, dV x.2))) {q : Qn} (hq : kOk q) :
    (fndA q l = none ∧ (Instr.findKey 63 (kV q) es.toList).run Tryz.prog w = .ok none w) ∨
    (∃ A j, fndA q l = some A ∧ (Instr.findKey 63 (kV q) es.toList).run Tryz.prog w = .ok (some (j, dV A)) w) := by
  obtain ⟨kl, hk⟩ := key_ok q hq
  rcases lawQ.find w hk es.toList (fun e he => by obtain ⟨x, hx, e1, _⟩ := MH.mem h2 he; rw [e1]; exact key_ok x.1 (hl.all x hx).1) with ⟨hr, hn⟩ | ⟨j, e, hr, hj, he⟩
  · refine .inl ⟨?_, hr⟩
    cases hf : fndA q l with
    | none => rfl
    | some A =>
      obtain ⟨e, he, e1, _⟩ := MH.mem' h2 (fndA_some hf)
      exact absurd e1 (hn e he)
  · obtain ⟨x, hx, e1, e2⟩ := MH.mem h2 (List.mem_of_getElem? hj)
    have hxq : x.1 = q := kV_inj (hl.all x hx).1.key hq.key (e1.symm.trans he)
    refine .inr ⟨x.2, j, ?_, by rw [← e2]; exact hr⟩
    cases hf : fndA q l with
    | none => exact absurd hxq (fndA_none hf x hx)
    | some A =>
      have := fndA_some hf
      rw [nodup_snd hl.once this (B := x.2) (by rw [← hxq]; exact hx)]
def lookV (l : List (Qn × List UInt8)) (q : Qn) : Value := match fndA q l with | some A => dV A | none => dV (List.replicate 32 0)
theorem mh_look {w : World} {mb : Nat} {l : List (Qn × List UInt8)} (hl : lOk l) (h : MH w mb l) {q : Qn} (hq : kOk q) (c : Bool) (hz : (zeroValue 23).run Tryz.prog w = .ok (dV (List.replicate 32 0)) w) :
    (Instr.lookup 57 (.map (some mb)) (kV q) c).run Tryz.prog w = .ok (if c then .tuple #[lookV l q, .bool (fndA q l).isSome] else lookV l q) w := by
  obtain ⟨es, clock, h1, h2⟩ := h
  obtain ⟨kl, hk⟩ := key_ok q hq
  rcases find_q (w := w) (mb := mb) hl h2 hq with ⟨hf, hr⟩ | ⟨A, j, hf, hr⟩
  · simp [Instr.lookup, run_underlying Tryz.underlying57, MapKept.run_getObj_map h1, lawQ.check w _ hk, hr, hz, hf, lookV, Result.andThen]
  · simp [Instr.lookup, run_underlying Tryz.underlying57, MapKept.run_getObj_map h1, lawQ.check w _ hk, hr, hf, lookV, Result.andThen]
theorem mh_put {w : World} {mb : Nat} {l : List (Qn × List UInt8)} (hl : lOk l) (h : MH w mb l) {q : Qn} (hq : kOk q) (A : List UInt8) (hf : fndA q l = none) :
    ∃ o, (Instr.mapUpdate 57 (.map (some mb)) (kV q) (dV A)).run Tryz.prog w = .ok () (setBlock w mb o) ∧ MH (setBlock w mb o) mb (l ++ [(q, A)]) ∧ w.grownBy (setBlock w mb o) (some mb) := by
  obtain ⟨es, clock, h1, h2⟩ := h
  obtain ⟨kl, hk⟩ := key_ok q hq
  rcases find_q (w := w) (mb := mb) hl h2 hq with ⟨_, hr⟩ | ⟨A', j, hf', hr⟩
  · refine ⟨.map (es.push ⟨kV q, dV A, clock⟩) (clock + 1), ?_, ⟨_, _, heap_setBlock_same h1 _, ?_⟩, ⟨rfl, rfl, rfl, by simp [setBlock], fun i _ hi => heap_setBlock_other h1 _ (fun e => hi (by rw [e]))⟩⟩
    · simp [Instr.mapUpdate, run_underlying Tryz.underlying57, MapKept.run_getObj_map h1, lawQ.check w false hk, hr, MapKept.run_setObj_map _ h1, Result.andThen, setBlock]
    · rw [Array.toList_push, List.map_append, List.map_append]
      exact h2.append_right _
  · rw [hf] at hf'; cases hf'
theorem lOk.snoc {l : List (Qn × List UInt8)} (h : lOk l) {q : Qn} (hq : kOk q) {A : List UInt8} (hA : A.length = 32) (hf : fndA q l = none) : lOk (l ++ [(q, A)]) := by
  refine ⟨fun x hx => ?_, ?_⟩
  · rcases List.mem_append.1 hx with hx | hx
    · exact h.all x hx
    · have : x = (q, A) := by simpa using hx
      subst this
      exact ⟨hq, hA⟩
  · rw [List.map_append, List.nodup_append]
    refine ⟨h.once, by simp, fun a ha b hb e => ?_⟩
    have hbq : b = q := by simpa using hb
    obtain ⟨x, hx, hxa⟩ := List.mem_map.1 ha
    exact fndA_none hf x hx (by rw [hxa, e, hbq])
end Go.Proofs.YtbmmibmfjhehhaaGreat.R5

/- The program's oracle in memory; contracts of none, isDomain, numberBytes. -/
namespace Go.Proofs.YtbmmibmfjhehhaaGreat.R5
open scoped Classical
open Go.RowKit

structure Pra where
  ideal : Bool
  master : List UInt8
  draws : List (List UInt8)
  log : List (Qn × List UInt8)
def pL (ideal : Bool) (m : List UInt8) (dv ov : Value) (mb : Nat) : List Value := .bool ideal :: (m.map B8 ++ [dv, ov, .map (some mb)])
theorem pL_0 (i : Bool) (m : List UInt8) (dv ov : Value) (mb : Nat) : (pL i m dv ov mb).toArray[0]? = some (.bool i) := by unfold pL; simp
theorem pL_at (i : Bool) (m : List UInt8) (dv ov : Value) (mb : Nat) (h : m.length = 32) (j : Nat) : (pL i m dv ov mb).toArray[33 + j]? = [dv, ov, .map (some mb)][j]? := by
  unfold pL
  rw [List.getElem?_toArray, show 33 + j = (32 + j) + 1 by omega, List.getElem?_cons_succ, List.getElem?_append_right (by simp [h])]
  simp [h]
theorem pL_set34 (i : Bool) (m : List UInt8) (dv ov : Value) (mb : Nat) (h : m.length = 32) (ov' : Value) : (pL i m dv ov mb).toArray.setIfInBounds 34 ov' = (pL i m dv ov' mb).toArray := by
  unfold pL
  rw [List.setIfInBounds_toArray, show (34 : Nat) = 33 + 1 from rfl, List.set_cons_succ, List.set_append_right _ _ (by simp [h])]
  simp [h]
def kC (l : List (Qn × List UInt8)) : List Value := l.flatMap fun x => kL x.1
structure PO (B og mb : Nat) (S : Nat → Prop) (w : World) (o : Pra) (dv ov : Value) : Prop where
  ml : o.master.length = 32
  row : w.heap[og]? = some (.cells (pL o.ideal o.master dv ov mb).toArray 59 (0, 0))
  draws : HDs w dv o.draws
  dro : ∀ k, dv.ownBlock = some k → ¬ S k ∧ k < w.heap.size
  ok : lOk o.log
  order : w.ownsRow B 63 35 ov o.log.length (kC o.log)
  map : MH w mb o.log
  sog : S og
  smb : S mb
  sov : ∀ k, ov.ownBlock = some k → S k ∧ k ≠ og
  low : ∀ k, S k → B ≤ k
  top : ∀ k, S k → k < w.heap.size
section
variable {B og mb : Nat} {S : Nat → Prop} {w : World} {o : Pra} {dv ov : Value}
theorem PO.ne (h : PO B og mb S w o dv ov) : mb ≠ og := fun e => by
  obtain ⟨es, c, h1, _⟩ := h.map
  rw [e, h.row] at h1
  cases h1
theorem PO.ovne (h : PO B og mb S w o dv ov) : ov.ownBlock ≠ some mb := fun e => by
  obtain ⟨es, c, h1, _⟩ := h.map
  rcases h.order.2 with ⟨e1, _⟩ | ⟨g, cap, cur, e1, _, e3, _⟩
  · rw [e1] at e; cases e
  · rw [e1] at e
    have e' : g = mb := by simpa [Value.ownBlock] using e
    rw [e', h1] at e3
    cases e3
theorem PO.keep {w' : World} (h : PO B og mb S w o dv ov) (hs : w.heap.size ≤ w'.heap.size) (hk : ∀ k, k < w.heap.size → (S k ∨ dv.ownBlock = some k) → w'.heap[k]? = w.heap[k]?) : PO B og mb S w' o dv ov :=
  ⟨h.ml, (hk og (row_lt h.row) (.inl h.sog)).trans h.row, hds_keep h.draws (fun k e hl => hk k hl (.inr e)), fun k e => ⟨(h.dro k e).1, Nat.lt_of_lt_of_le (h.dro k e).2 hs⟩, h.ok,
    own_keep h.order (fun k e hl => hk k hl (.inl (h.sov k e).1)), h.map.keep (hk mb h.map.lt (.inl h.smb)), h.sog, h.smb, h.sov, h.low, fun k hk => Nat.lt_of_lt_of_le (h.top k hk) hs⟩
theorem PO.below {w' : World} (h : PO B og mb S w o dv ov) (hb : Below w.heap.size w w') : PO B og mb S w' o dv ov := h.keep hb.size (fun k hk _ => hb.block k hk)
theorem PO.more {S' : Nat → Prop} (h : PO B og mb S w o dv ov) (hs : ∀ k, S k → S' k) (hl : ∀ k, S' k → S k ∨ dv.ownBlock ≠ some k) (hl2 : ∀ k, S' k → B ≤ k ∧ k < w.heap.size) : PO B og mb S' w o dv ov :=
  ⟨h.ml, h.row, h.draws, fun k e => ⟨fun hs' => (hl k hs').elim (h.dro k e).1 (fun hg => hg e), (h.dro k e).2⟩, h.ok, h.order, h.map, hs _ h.sog, hs _ h.smb, fun k e => ⟨hs _ (h.sov k e).1, (h.sov k e).2⟩, fun k hk => (hl2 k hk).1, fun k hk => (hl2 k hk).2⟩
theorem PO.grow {w' : World} (h : PO B og mb S w o dv ov) (hb : Below w.heap.size w w') (hB : B ≤ w.heap.size) : PO B og mb (fun k => S k ∨ (w.heap.size ≤ k ∧ k < w'.heap.size)) w' o dv ov :=
  (h.below hb).more (fun k h => .inl h) (fun k hk => hk.imp id (fun hg e => by have := (h.dro k e).2; omega)) (fun k hk => hk.elim (fun hk => ⟨h.low k hk, Nat.lt_of_lt_of_le (h.top k hk) hb.size⟩) (fun hk => ⟨by omega, hk.2⟩))
theorem PO.cells (h : PO B og mb S w o dv ov) : w.cell? ⟨og, 0, none⟩ = some (.bool o.ideal) ∧ w.cell? ⟨og, 33, none⟩ = some dv ∧ w.cell? ⟨og, 34, none⟩ = some ov ∧ w.cell? ⟨og, 35, none⟩ = some (.map (some mb)) ∧ w.frozen? ⟨og, 34, none⟩ = false := by
  refine ⟨?_, ?_, ?_, ?_, frozen_of_row _ _ 34 _ _ h.row⟩
  · rw [cell_of_row _ _ 0 _ _ _ h.row]; exact pL_0 _ _ _ _ _
  · rw [cell_of_row _ _ 33 _ _ _ h.row]; exact pL_at _ _ _ _ _ h.ml 0
  · rw [cell_of_row _ _ 34 _ _ _ h.row]; exact pL_at _ _ _ _ _ h.ml 1
  · rw [cell_of_row _ _ 35 _ _ _ h.row]; exact pL_at _ _ _ _ _ h.ml 2
theorem PO.master (h : PO B og mb S w o dv ov) : w.rangeAt og 1 (o.master.map B8) := fun j v hv => by
  rw [cell_of_row _ _ (1 + j) _ _ _ h.row]
  have hj : j < o.master.length := by have := (List.getElem?_eq_some_iff.1 hv).1; simpa using this
  unfold pL
  rw [List.getElem?_toArray, show 1 + j = j + 1 by omega, List.getElem?_cons_succ, List.getElem?_append_left (by simpa using hj)]
  exact hv
theorem PO.ordV (h : PO B og mb S w o dv ov) : ∃ p cap, ov = .slice p o.log.length cap := by
  rcases h.order.2 with ⟨e1, e2⟩ | ⟨g, cap, cur, e1, _⟩
  · exact ⟨none, 0, by rw [e1, e2]⟩
  · exact ⟨_, cap, e1⟩
end

set_option maxHeartbeats 1000000 in
set_option maxRecDepth 100000 in
theorem none_no (og mb : Nat) (w : World) (hc : w.cell? ⟨og, 35, none⟩ = some (.map (some mb))) : Calls Tryz.prog 22 #[.pointer (some ⟨og, 0, none⟩)] w fun e w' => e = .returned (.bool false) ∧ w' = w := by
  have qT : ∀ (w : World) (r : Option Nat), (binOp .eql 57 (.map r) (.map none)).run Tryz.prog w = .ok (.bool r.isNone) w := fun w r => run_eql_map_nil w _ _ _ r Tryz.underlying57
  go_enter Tryz.func22, Tryz.ntmps22
  go_wp2
  go_ret
  exact ⟨rfl, rfl⟩
set_option maxHeartbeats 1000000 in
set_option maxRecDepth 100000 in
theorem none_nil (w : World) : Calls Tryz.prog 22 #[.pointer none] w fun e w' => e = .returned (.bool true) ∧ w' = w := by
  go_enter Tryz.func22, Tryz.ntmps22
  go_wp2
  go_ret
  exact ⟨rfl, rfl⟩
end Go.Proofs.YtbmmibmfjhehhaaGreat.R5

/- Contracts of the program's numberBytes and draw. -/
namespace Go.Proofs.YtbmmibmfjhehhaaGreat.R5
open scoped Classical
open Go.RowKit

set_option maxHeartbeats 1000000 in
set_option maxRecDepth 100000 in
theorem numB_any (n : Nat) (w : World) (hn : n < 9223372036854775808) : Calls Tryz.prog 68 #[.int .i64 (n : Int)] w fun e w' => ∃ v, e = .returned v ∧ FB w.heap.size w' v (W1.le 8 n) ∧ Below w.heap.size w w' := by
  have hput := fun W => put_ok n 8 W (by omega) (by omega) (by omega) (by omega)
  have hwr : IntKind.u64.wrap (n : Int) = (n : Int) := by rw [IntKind.wrap_u64]; omega
  go_enter Tryz.func68, Tryz.ntmps68
  go_wp2_with (go_at_call 45; refine (hput _).mono ?_; rintro e w1 ⟨rfl, hfb, hbel⟩)
  go_ret
  exact ⟨_, rfl, hfb, hbel⟩

set_option maxHeartbeats 4000000 in
set_option maxRecDepth 100000 in
theorem pdraw_any (og n : Nat) (p : Option Addr) (cap : Nat) (dv : Value) (ds : List (List UInt8)) (w : World) (hn : n < 9223372036854775808) (hc : w.cell? ⟨og, 33, none⟩ = some dv) (hco : w.cell? ⟨og, 34, none⟩ = some (.slice p n cap)) (hd : HDs w dv ds) :
    Calls Tryz.prog 64 #[.pointer (some ⟨og, 0, none⟩)] w fun e w' => e = .returned (.agg ((drawD ds n).map B8).toArray) ∧ Below w.heap.size w w' := by
  have hRl := drawD_len ds n hd.1
  have hog := block_lt hc
  simp only at hog
  obtain ⟨h0, p', cap', rfl, h2⟩ := hd
  have hzv := fun W => zero_dig W
  obtain ⟨ZA, hZA⟩ : ∃ A, A = ((List.replicate 32 (0 : UInt8)).map B8).toArray := ⟨_, rfl⟩
  rw [← hZA] at hzv
  have HZS : Hid (ZA.size = 32) := by show _ = _; rw [hZA]; simp
  obtain ⟨RL, hRL⟩ : ∃ A, A = (drawD ds n).map B8 := ⟨_, rfl⟩
  rw [← hRL]
  have HRS : Hid (RL.toArray.size = 32) := by show _ = _; rw [hRL]; simp [hRl]
  have HRI : Hid _ := info32a RL.toArray HRS.out
  have HR1 : Hid (RL.toArray.all (·.oneCell') = true) := by show _ = _; rw [hRL]; exact B8_onea _
  have HQ : Hid ((w.alloc (.cells ZA 23 (0, 0))).heap[w.heap.size]? = some (.cells ZA 23 (0, 0))) := heap_at _ _ _ rfl
  have hb0 : Below w.heap.size w (w.alloc (.cells ZA 23 (0, 0))) := (Below.refl _ _).alloc (Nat.le_refl _) _
  have hc0 : (w.alloc (.cells ZA 23 (0, 0))).cell? ⟨og, 33, none⟩ = some (.slice p' ds.length cap') := (hb0.cell hog).trans hc
  have hc1 : (w.alloc (.cells ZA 23 (0, 0))).cell? ⟨og, 34, none⟩ = some (.slice p n cap) := (hb0.cell hog).trans hco
  have HB0 : Hid _ := hb0
  by_cases hlt : n < ds.length
  · have hnI : (n : Int) < (ds.length : Int) := by omega
    obtain ⟨b, o, rfl, hr⟩ := h2 n hlt
    have hre : RL = (ds.getD n []).map B8 := by rw [hRL]; unfold drawD; rw [if_pos hlt]
    have HRG : Hid ((w.alloc (.cells ZA 23 (0, 0))).rangeAt b (o + n * 32) RL) := by
      rw [hre]; exact rangeAt_below hr hb0
    have HIL : Hid ((Tryz.prog.info? 23).map (·.size) = some RL.length) := by have := HRI.out; rwa [List.size_toArray] at this
    clear hRL hre hr h2 hc hco hb0 hZA hRl
    go_enter Tryz.func64, Tryz.ntmps64
    go_wp2_with (first
      | (refine wpList_load_mid rfl 23 _ rfl b (o + n * 32) rfl RL _ HRG.out Tryz.underlying23 rfl HIL.out ?_)
      | (refine wpList_store_row rfl 23 _ _ rfl w.heap.size RL.toArray rfl rfl 23 ZA HQ.out HRI.out (HZS.out.trans HRS.out.symm) HR1.out ?_))
    refine bodyPost_ret (v := .agg RL.toArray) ?_ rfl ⟨rfl, below_setRow HB0.out (Nat.le_refl _) _⟩
    exact results_cell_row Tryz.results64 _ _ w.heap.size 23 _ (0, 0) _ rfl (setRow_heap _ _ _ _ _ _ HQ.out) Tryz.underlying23 rfl HRI.out
  · have hnI : ¬ (n : Int) < (ds.length : Int) := by omega
    have hLl := W1.le_length 8 n
    have HRE : Hid (((W1.le 8 n ++ List.replicate 24 0).map B8).toArray.setIfInBounds 31 (.int .u8 1) = RL.toArray) := by
      show _ = _
      rw [set_31 _ hLl, hRL]; unfold drawD; rw [if_neg hlt]
    have HSP : Hid (splice ((List.replicate 32 (0 : UInt8)).map B8) 0 ((W1.le 8 n).map B8) = (W1.le 8 n ++ List.replicate 24 0).map B8) := splice_le _ hLl
    have hle := fun W => numB_any n W (by omega)
    have HZA : Hid _ := hZA
    generalize W1.le 8 n = L at *
    have HLl : Hid _ := hLl
    have HQ2 : Hid (((w.alloc (.cells ZA 23 (0, 0))).alloc (.cells ZA 23 (0, 0))).heap[w.heap.size]? = some (.cells ZA 23 (0, 0))) := alloc2_first _ _ _
    have HQ3 : Hid (((w.alloc (.cells ZA 23 (0, 0))).alloc (.cells ZA 23 (0, 0))).heap[w.heap.size + 1]? = some (.cells ZA 23 (0, 0))) := heap_at _ _ _ (by simp)
    have HBA : Hid (Below w.heap.size w ((w.alloc (.cells ZA 23 (0, 0))).alloc (.cells ZA 23 (0, 0))).drew) := (HB0.out.alloc (by simp) _).drew
    have hsl := fun W => sliceDig W (w.heap.size + 1) 0
    clear hRL h2 hc hco hb0 hZA hRl hLl
    go_enter Tryz.func64, Tryz.ntmps64
    go_wp2
    refine wp_region_held_drew (S := fun w' => Below w.heap.size w w') (by kernel_rfl) HBA.out (fun hHeld => ?_)
    refine wpAnyH_take (i := 0) (oi := ⟨some 24, .slice 23 (.tmp 4) none none none, 64, _, #[], none⟩) (v := .slice (some ⟨w.heap.size + 1, 0, none⟩) 32 32) rfl (by kernel_rfl) (by kernel_rfl) (by kernel_rfl) (fun _ _ _ h => h) (Or.inl ⟨by rfl, fun w' hw' => ?_⟩) hHeld ?_
    · first | (go_simp; done) | (go_simp; rfl)
    try simp only [Act.put, qT, q0, qS]
    refine wpAnyH_take (i := 1) (oi := ⟨some 25, .move (.tmp 3), 3, _, #[], none⟩) (v := .int .i64 (n : Int)) rfl (by kernel_rfl) (by kernel_rfl) (by kernel_rfl) (fun _ _ _ h => h) (Or.inl ⟨by rfl, fun w' hw' => ?_⟩) hHeld ?_
    · first | (go_simp; done) | (go_simp; rfl)
    try simp only [Act.put, qT, q0, qS]
    refine wpAnyH_ready (rs := [2]) (by kernel_rfl) (by simp) ?_
    refine AllReadyH.cons (o := { dst := some 26, op := .call { callee := Go.Callee.value (.func 68), args := #[.tmp 25], argTypes := #[3] }, type := 64, pos := _, after := #[⟨1, .data⟩], guard := none }) rfl (fun K hK => ?_) AllReadyH.nil
    rw [if_pos (by rfl)]
    go_wp2_with fail
    refine (hle _).mono ?_
    rintro e w3 ⟨v3, rfl, hf3, hb3⟩
    have hb3' : Below (w.heap.size + 2) ((w.alloc (.cells ZA 23 (0, 0))).alloc (.cells ZA 23 (0, 0))).drew w3 := hb3.mono (by rw [heap_drew]; simp)
    have HR3 : Hid (w3.heap[w.heap.size]? = some (.cells ZA 23 (0, 0))) := (hb3'.block _ (by omega)).trans HQ2.out
    have HR4 : Hid (w3.heap[w.heap.size + 1]? = some (.cells ((List.replicate 32 (0 : UInt8)).map B8).toArray 23 (0, 0))) := by
      show _ = _
      rw [← HZA.out]; exact (hb3'.block _ (by omega)).trans HQ3.out
    have hh3 := hf3.hb
    obtain ⟨p3, c3, rfl, hpn, hpc⟩ := hb_cells hh3
    have hHeld3 : Below w.heap.size w w3 := hHeld.trans (hb3.mono (by rw [heap_drew]; simp; omega))
    rw [HLl.out]
    refine hK.out _ _ hHeld3 (fun _ => ?_)
    clear hK K
    try simp only [Act.put, qT, q0, qS]
    refine wpAnyH_ready (rs := [3]) (by kernel_rfl) (by simp) ?_
    refine AllReadyH.cons (o := { dst := some 27, op := .call { callee := Go.Callee.builtin Go.Builtin.copy, args := #[.tmp 24, .tmp 26], argTypes := #[64, 64] }, type := 3, pos := _, after := #[⟨0, .data⟩, ⟨2, .data⟩, ⟨2, .chain⟩], guard := none }) rfl (fun K hK => ?_) AllReadyH.nil
    rw [if_pos (by rfl)]
    refine wp_copy_seg (.tmp 24) (.tmp 26) rfl (w.heap.size + 1) 0 32 32 p3 8 c3 rfl rfl ((List.replicate 32 (0 : UInt8)).map B8) 23 HR4.out (L.map B8) ?_ ?_ ?_ (B8_one L) ?_
    · rw [List.length_map, HLl.out]; rfl
    · intro _
      cases p3 with
      | none => have := (hpn rfl).1; have h8 := HLl.out; rw [this] at h8; simp at h8
      | some a => exact ⟨a, rfl, hpc a rfl⟩
    · rw [List.length_map, HLl.out, List.length_map, List.length_replicate]; decide
    rw [HSP.out]
    have hHeld4 := below_setRow hHeld3 (show w.heap.size ≤ w.heap.size + 1 by omega) ((L ++ List.replicate 24 0).map B8).toArray
    refine hK.out _ _ hHeld4 (fun _ => ?_)
    clear hK K
    try simp only [Act.put, qT, q0, qS]
    refine wpAnyH_done (by kernel_rfl) ?_ _
    have hr5 := setRow_heap _ _ _ ((L ++ List.replicate 24 0).map B8).toArray _ _ HR4.out
    have HR5 : Hid _ := hr5
    have HR6 : Hid ((w3.setRow (w.heap.size + 1) ((L ++ List.replicate 24 0).map B8).toArray).heap[w.heap.size]? = some (.cells ZA 23 (0, 0))) := by show _ = _; rw [setRow_other _ _ _ _ (by omega)]; exact HR3.out
    have HB6 : Hid _ := hHeld4
    have f31 := frozen_of_row _ _ 31 _ _ hr5
    obtain ⟨u, hu⟩ : ∃ u, ((L ++ List.replicate 24 0).map B8).toArray[31]? = some (.int .u8 u) := by
      have hl : 31 < (L ++ List.replicate 24 (0 : UInt8)).length := by simp [HLl.out]
      exact ⟨_, by simp only [List.getElem?_toArray, List.getElem?_map, List.getElem?_eq_getElem hl]; rfl⟩
    have c31 := cell_of_row _ _ 31 _ _ _ hr5
    rw [hu] at c31
    clear hHeld hHeld3 hHeld4 HR3 HR4 hb3 hb3' hf3 hh3 hpn hpc hr5 hu hle
    generalize w3.setRow (w.heap.size + 1) ((L ++ List.replicate 24 0).map B8).toArray = w4 at *
    have HR7 : Hid ((w4.setCell ⟨w.heap.size + 1, 31, none⟩ (.int .u8 1)).heap[w.heap.size + 1]? = some (.cells RL.toArray 23 (0, 0))) := by show _ = _; rw [← HRE.out]; exact heap_setCell_same _ (w.heap.size + 1) 31 _ 23 _ HR5.out
    have HR8 : Hid ((w4.setCell ⟨w.heap.size + 1, 31, none⟩ (.int .u8 1)).heap[w.heap.size]? = some (.cells ZA 23 (0, 0))) := by show _ = _; rw [heap_setCell_other _ _ _ _ (by show w.heap.size ≠ w.heap.size + 1; omega)]; exact HR6.out
    have HB8 : Hid (Below w.heap.size w (w4.setCell ⟨w.heap.size + 1, 31, none⟩ (.int .u8 1))) := HB6.out.setCell (p := ⟨w.heap.size + 1, 31, none⟩) (by show w.heap.size ≤ w.heap.size + 1; omega) _
    go_wp2_with (first
      | (refine wpList_load_row rfl 23 _ rfl (w.heap.size + 1) rfl 23 RL.toArray (0, 0) _ HR7.out Tryz.underlying23 rfl HRI.out ?_)
      | (refine wpList_store_row rfl 23 _ _ rfl w.heap.size RL.toArray rfl rfl 23 ZA HR8.out HRI.out (HZS.out.trans HRS.out.symm) HR1.out ?_))
    refine bodyPost_ret (v := .agg RL.toArray) ?_ rfl ⟨rfl, below_setRow HB8.out (Nat.le_refl _) _⟩
    exact results_cell_row Tryz.results64 _ _ w.heap.size 23 _ (0, 0) _ rfl (setRow_heap _ _ _ _ _ _ HR8.out) Tryz.underlying23 rfl HRI.out

end Go.Proofs.YtbmmibmfjhehhaaGreat.R5

/- The program's answer: states of memory on the way. -/
namespace Go.Proofs.YtbmmibmfjhehhaaGreat.R5
open scoped Classical
open Go.RowKit
open Go.ChangeMaps (setBlock heap_setBlock_same heap_setBlock_other)

def zKq : Array Value := (kL ⟨0, List.replicate 32 0, 0, []⟩).toArray
theorem infoKq : (Tryz.prog.info? 63).map (fun i => (i.zero, i.size, i.bytes)) = some (some (.agg zKq), 35, 64) := by kernel_rfl
theorem zero_kq (w : World) : (zeroValue 63).run Tryz.prog w = .ok (.agg zKq) w := by kernel_rfl
theorem info35k (RS : List Value) (h : RS.length = 35) : (Tryz.prog.info? 63).map (·.size) = some RS.length := by rw [h]; kernel_rfl
theorem info35ka (RS : Array Value) (h : RS.size = 35) : (Tryz.prog.info? 63).map (·.size) = some RS.size := by rw [h]; kernel_rfl
theorem kL_one (q : Qn) : ∀ u ∈ kL q, u.oneCell' = true := qL_one q _ rfl
theorem kL_onea (q : Qn) : (kL q).toArray.all (·.oneCell') = true := by
  rw [Array.all_eq_true_iff_forall_mem]
  intro v hv
  exact kL_one q v (by simpa using hv)
set_option maxHeartbeats 4000000 in
set_option maxRecDepth 100000 in
theorem build_kq (w : World) (a b : Int) (c : ByteArray) (DL : List Value) (h2 : DL.length = 32) : (Instr.build 63 #[(0, .int .i64 a), (1, .agg DL.toArray), (2, .int .i64 b), (3, .string c)]).run Tryz.prog w = .ok (.agg (.int .i64 a :: (DL ++ [.int .i64 b, .string c])).toArray) w := by
  iterate 32 (obtain ⟨_, _, e, g⟩ := cons_of h2; clear h2; subst e; have h2 := g; clear g)
  obtain rfl := List.eq_nil_of_length_eq_zero h2
  show _ = _
  kernel_rfl
set_option maxHeartbeats 4000000 in
set_option maxRecDepth 100000 in
theorem fill_kq (AL : List Value) (h : AL.length = 35) : Instr.fill (fun i => some (i * 35, 35)) ((Array.range (1 * 35)).map ((Value.agg zKq).cells[· % (Value.agg zKq).cells.size]!)) [(0, .agg AL.toArray)] = some AL.toArray := by
  iterate 35 (obtain ⟨_, _, e, g⟩ := cons_of h; clear h; subst e; have h := g; clear g)
  obtain rfl := List.eq_nil_of_length_eq_zero h
  show _ = _
  kernel_rfl
theorem wpList_build {ops : Array Oper} {rest : List Oper} {o : Oper} {a : Act} {Q : Exit → Act → World → Prop} {w : World} (hgd : o.guard = none) (t : TypeId) (parts : Array (Nat × Operand)) (ho : o.op = .build t parts) (vals : Array (Nat × Value)) (v : Value) (hp : (parts.map fun (i, x) => (i, a.eval x)) = vals)
    (hr : (Instr.build t vals).run Tryz.prog w = .ok v w) (h : wpList Tryz.prog ops Q rest (a.put o.dst v) w) : wpList Tryz.prog ops Q (o :: rest) a w := by
  refine wpList_plain hgd fun K' hK' => ?_
  unfold Oper.wp
  rw [exec_build a.eval o t parts vals v w ho hp hr]
  exact hK' _ _ h
theorem wp_mapUpd {op : Oper} {a : Act} {w w' : World} {K : Act → World → Prop} {Q : Exit → Act → World → Prop} (m x v : Operand) (t : TypeId) (ho : op.op = Op.mapUpdate t m x v) (mv kv vv : Value) (hm : a.eval m = mv) (hx : a.eval x = kv) (hv : a.eval v = vv)
    (hr : (Instr.mapUpdate t mv kv vv).run Tryz.prog w = .ok () w') (h : K (a.put op.dst undef) w') : op.wp Tryz.prog a w K Q := by
  unfold Oper.wp
  simp [execOp, ho, hm, hx, hv, hr, Result.andThen]
  exact h

structure S2 (w : World) (QL KL : List Value) (ZA : Array Value) (X : World) : Prop where
  bel : Below w.heap.size w X
  q : X.heap[w.heap.size]? = some (.cells QL.toArray 66 (0, 0))
  z : X.heap[w.heap.size + 1]? = some (.cells ZA 23 (0, 0))
  k : X.heap[w.heap.size + 1 + 1]? = some (.cells KL.toArray 63 (0, 0))
theorem S2.step {w : World} {QL KL : List Value} {ZA : Array Value} {X Y : World} (h : S2 w QL KL ZA X) (hb : Below (w.heap.size + 3) X Y) : S2 w QL KL ZA Y :=
  ⟨h.bel.trans (hb.mono (by omega)), (hb.block _ (by omega)).trans h.q, (hb.block _ (by omega)).trans h.z, (hb.block _ (by omega)).trans h.k⟩
theorem S2.alloc {w : World} {QL KL : List Value} {ZA : Array Value} {X : World} (h : S2 w QL KL ZA X) (ob : Obj) : S2 w QL KL ZA (X.alloc ob) := h.step ((Below.refl _ _).alloc (by have := row_lt h.k; omega) _)
theorem S2.drew {w : World} {QL KL : List Value} {ZA : Array Value} {X : World} (h : S2 w QL KL ZA X) : S2 w QL KL ZA X.drew := h.step (Below.refl _ _).drew
structure S6 (S : Nat → Prop) (w : World) (b5 : Nat) (KL DL : List Value) (ZA : Array Value) (X : World) : Prop where
  fr : Fr S w X
  z : X.heap[w.heap.size + 1]? = some (.cells ZA 23 (0, 0))
  k : X.heap[w.heap.size + 1 + 1]? = some (.cells KL.toArray 63 (0, 0))
  d : X.heap[b5]? = some (.cells DL.toArray 23 (0, 0))
theorem S6.step {S : Nat → Prop} {w : World} {b5 : Nat} {KL DL : List Value} {ZA : Array Value} {X Y : World} (h : S6 S w b5 KL DL ZA X) (hF : Fr S X Y) (hlow : ∀ k, S k → k < w.heap.size) (h5 : w.heap.size ≤ b5) : S6 S w b5 KL DL ZA Y := by
  have hk : ∀ k, w.heap.size ≤ k → k < X.heap.size → Y.heap[k]? = X.heap[k]? := fun k h1 h2 => hF.block k h2 (fun hs => by have := hlow k hs; omega)
  exact ⟨h.fr.trans hF (fun k hk => .inl hk), (hk _ (by omega) (row_lt h.z)).trans h.z, (hk _ (by omega) (row_lt h.k)).trans h.k, (hk _ h5 (row_lt h.d)).trans h.d⟩
theorem Fr.drew {S : Nat → Prop} {a b : World} (h : Fr S a b) : Fr S a b.drew := ⟨h.os, h.tape, h.output, h.size, h.block⟩
theorem S6.drew {S : Nat → Prop} {w : World} {b5 : Nat} {KL DL : List Value} {ZA : Array Value} {X : World} (h : S6 S w b5 KL DL ZA X) : S6 S w b5 KL DL ZA X.drew := ⟨h.fr.drew, h.z, h.k, h.d⟩
structure S7 (S : Nat → Prop) (w : World) (b5 og : Nat) (KL DL PL : List Value) (ZA : Array Value) (X : World) : Prop where
  s : S6 S w b5 KL DL ZA X
  o : X.heap[og]? = some (.cells PL.toArray 59 (0, 0))
theorem po_more {B og mb : Nat} {S : Nat → Prop} {w Z : World} {o : Pra} {dv ov : Value} {q : Qn} {A : List UInt8} {g cap2 : Nat} (ho : PO B og mb S w o dv ov) (hq : kOk q) (hA : A.length = 32) (hf : fndA q o.log = none) (hB : B ≤ w.heap.size) (hfr : Fr S w Z)
    (hrow : Z.heap[og]? = some (.cells (pL o.ideal o.master dv (.slice (some ⟨g, 0, none⟩) (o.log.length + 1) cap2) mb).toArray 59 (0, 0)))
    (hown : Z.ownsRow B 63 35 (.slice (some ⟨g, 0, none⟩) (o.log.length + 1) cap2) (o.log.length + 1) (kC o.log ++ kL q)) (hgl : ov.ownBlock = some g ∨ w.heap.size ≤ g) (hgZ : g < Z.heap.size) (hmap : MH Z mb (o.log ++ [(q, A)])) :
    PO B og mb (fun k => S k ∨ (w.heap.size ≤ k ∧ k < Z.heap.size)) Z { o with log := o.log ++ [(q, A)] } dv (.slice (some ⟨g, 0, none⟩) (o.log.length + 1) cap2) := by
  have hogl := row_lt ho.row
  refine ⟨ho.ml, hrow, hds_keep ho.draws (fun k e hl => hfr.block k hl (ho.dro k e).1), fun k e => ⟨fun hs => hs.elim (ho.dro k e).1 (fun h => by have := (ho.dro k e).2; omega), Nat.lt_of_lt_of_le (ho.dro k e).2 hfr.size⟩, ho.ok.snoc hq hA hf, ?_, hmap, .inl ho.sog, .inl ho.smb, fun k e => ?_, fun k hk => hk.elim (ho.low k) (fun h => by omega), fun k hk => hk.elim (fun h => Nat.lt_of_lt_of_le (ho.top k h) hfr.size) (fun h => h.2)⟩
  · show Z.ownsRow B 63 35 _ (o.log ++ [(q, A)]).length (kC (o.log ++ [(q, A)]))
    rw [List.length_append, List.length_singleton]
    have : kC (o.log ++ [(q, A)]) = kC o.log ++ kL q := by unfold kC; simp
    rw [this]
    exact hown
  · have e' : g = k := by simpa [Value.ownBlock] using e
    subst e'
    rcases hgl with hg | hg
    · exact ⟨.inl (ho.sov _ hg).1, (ho.sov _ hg).2⟩
    · exact ⟨.inr ⟨hg, hgZ⟩, by omega⟩
end Go.Proofs.YtbmmibmfjhehhaaGreat.R5

/- Contract of the program's answer. -/
namespace Go.Proofs.YtbmmibmfjhehhaaGreat.R5
open scoped Classical
open Go.RowKit
open Go.ChangeMaps (setBlock heap_setBlock_same heap_setBlock_other)

def PAns (B og mb : Nat) (S : Nat → Prop) (w : World) (o' : Pra) (dv : Value) (A : List UInt8) (e : Ending) (w' : World) : Prop :=
  e = .returned (dV A) ∧ Fr S w w' ∧ ∃ ov', PO B og mb (fun k => S k ∨ (w.heap.size ≤ k ∧ k < w'.heap.size)) w' o' dv ov'


set_option maxHeartbeats 8000000 in
set_option maxRecDepth 100000 in
theorem panswer_found (B og mb : Nat) (S : Nat → Prop) (dq dv ov : Value) (o : Pra) (q : Qn) (A : List UInt8) (fv : Value) (w : World) (hB : B ≤ w.heap.size) (ho : PO B og mb S w o dv ov) (hq : kOk q) (hdq : HB w dq q.data) (hf : fndA q o.log = some A) :
    Calls Tryz.prog 51 #[.pointer (some ⟨og, 0, none⟩), .agg (qL q dq).toArray, fv] w fun e w' => PAns B og mb S w o dv A e w' := by
  have HAl : Hid (A.length = 32) := (ho.ok.all _ (fndA_some hf)).2
  have hfs : (fndA q o.log).isSome = true := by rw [hf]; rfl
  obtain ⟨RL, hRL⟩ : ∃ L, L = A.map B8 := ⟨_, rfl⟩
  have hlv : lookV o.log q = .agg RL.toArray := by rw [hRL]; unfold lookV; rw [hf]; rfl
  have HRS : Hid (RL.toArray.size = 32) := by show _ = _; rw [hRL]; simpa using HAl.out
  have HR1 : Hid (RL.toArray.all (·.oneCell') = true) := by show _ = _; rw [hRL]; exact B8_onea _
  have HPA : Hid (dV A = .agg RL.toArray) := by show _ = _; rw [hRL]; rfl
  have HRI : Hid _ := info32a RL.toArray HRS.out
  clear hRL
  have hqk := hq.key
  have hc1 := conv_hb _ dq q.data (hb_alloc (hb_alloc hdq (.cells (qL q dq).toArray 66 (0, 0))) (.cells ((List.replicate 32 (0 : UInt8)).map B8).toArray 23 (0, 0)))
  obtain ⟨c0, c33, c34, c35, cf⟩ := ho.cells
  have hbk := fun W => build_kq W q.kind q.dom (txt q.data) (q.key.map B8) (by simpa using hqk)
  have hkL : Value.int .i64 q.kind :: (q.key.map B8 ++ [Value.int .i64 q.dom, .string (txt q.data)]) = kL q := rfl
  rw [hkL] at hbk
  clear hkL
  have hzv := fun W => zero_dig W
  have hzk := fun W => zero_kq W
  have hKl := kL_len q hqk
  have HK1 : Hid _ := kL_onea q
  have hlk := fun (W : World) (h : MH W mb o.log) => mh_look ho.ok h hq true (zero_dig W)
  obtain ⟨a0, a1, a2, a3⟩ := q_facts hqk (alloc2_first w (.cells (qL q dq).toArray 66 (0, 0)) (.cells ((List.replicate 32 (0 : UInt8)).map B8).toArray 23 (0, 0)))
  have HI1 : Hid _ := info32 (q.key.map B8) (by simpa using hqk)
  have hZ1 := B8_onea (List.replicate 32 (0 : UInt8))
  unfold kV at hlk
  simp only [hlv, hfs, if_true] at hlk
  obtain ⟨ZL, hZL⟩ : ∃ L, L = (List.replicate 32 (0 : UInt8)).map B8 := ⟨_, rfl⟩
  try rw [← hZL] at hlk
  rw [← hZL] at hzv hc1 a0 a1 a2 a3 hZ1
  have HZS : Hid (ZL.toArray.size = 32) := by show _ = _; rw [hZL]; simp
  obtain ⟨QL, hQL⟩ : ∃ L, L = qL q dq := ⟨_, rfl⟩
  rw [← hQL] at hc1 a0 a1 a2 a3 ⊢
  obtain ⟨KL, hKL⟩ : ∃ L, L = kL q := ⟨_, rfl⟩
  rw [← hKL] at hbk hKl HK1 hlk
  have HKS : Hid (KL.toArray.size = 35) := by show _ = _; simpa using hKl
  have HKI : Hid _ := info35ka KL.toArray HKS.out
  have HKL : Hid _ := hKL
  have HKN : Hid _ := hKl
  obtain ⟨ZK, hZK⟩ : ∃ A, A = zKq := ⟨_, rfl⟩
  rw [← hZK] at hzk
  have HZKS : Hid (ZK.size = 35) := by show _ = _; rw [hZK]; kernel_rfl
  have HA1 : Hid _ := a1
  have HX2 : Hid ((((w.alloc (.cells QL.toArray 66 (0, 0))).alloc (.cells ZL.toArray 23 (0, 0))).alloc (.cells ZK 63 (0, 0))).heap[w.heap.size + 1 + 1]? = some (.cells ZK 63 (0, 0))) := heap_at _ _ _ (by simp)
  have hS2 : S2 w QL KL ZL.toArray ((((w.alloc (.cells QL.toArray 66 (0, 0))).alloc (.cells ZL.toArray 23 (0, 0))).alloc (.cells ZK 63 (0, 0))).setRow (w.heap.size + 1 + 1) KL.toArray).drew := by
    refine S2.drew ⟨?_, ?_, ?_, setRow_heap _ _ _ _ _ _ HX2.out⟩
    · exact below_setRow ((((Below.refl _ _).alloc (Nat.le_refl _) _).alloc (by simp) _).alloc (by simp; omega) _) (by omega) _
    · rw [setRow_other _ _ _ _ (by omega), Below.heap_alloc _ _ _ (by simp; omega), alloc2_first]
    · rw [setRow_other _ _ _ _ (by omega), Below.heap_alloc _ _ _ (by simp)]; exact heap_at _ _ _ (by simp)
  have HS2 : Hid _ := hS2
  have HC35 : Hid _ := c35
  have HLK : Hid _ := hlk
  have HO : Hid _ := ho
  have HDQ : Hid _ := hdq
  have hog := row_lt ho.row
  clear hQL hZL hKL hZK a1 hS2 c35 c0 c33 c34 cf hlk ho hdq hKl
  go_enter Tryz.func51, Tryz.ntmps51
  go_wp2_with (first
    | (refine wpList_load_mid rfl 23 _ rfl w.heap.size 1 rfl (q.key.map B8) _ HA1.out Tryz.underlying23 rfl HI1.out ?_)
    | (refine wpList_build rfl 63 _ rfl _ (.agg KL.toArray) (by simp; exact ⟨rfl, rfl, rfl, rfl⟩) (hbk _) ?_)
    | (refine wpList_store_row rfl 63 _ _ rfl (w.heap.size + 1 + 1) KL.toArray rfl rfl 63 ZK HX2.out HKI.out (HZKS.out.trans HKS.out.symm) HK1.out ?_))
  refine wp_region_held_drew (S := S2 w QL KL ZL.toArray) (by kernel_rfl) HS2.out (fun hHeld => ?_)
  generalize ((((w.alloc (.cells QL.toArray 66 (0, 0))).alloc (.cells ZL.toArray 23 (0, 0))).alloc (.cells ZK 63 (0, 0))).setRow (w.heap.size + 1 + 1) KL.toArray).drew = W at *
  have HKI2 : Hid ((Tryz.prog.info? 63).map (·.size) = some KL.length) := by have := HKI.out; rwa [List.size_toArray] at this
  refine wpAnyH_take (i := 0) (oi := ⟨some 22, .move (.tmp 0), 31, _, #[], none⟩) (v := .pointer (some ⟨og, 0, none⟩)) rfl (by kernel_rfl) (by kernel_rfl) (by kernel_rfl) (fun _ _ _ h => h) (Or.inl ⟨by rfl, fun w' hw' => ?_⟩) hHeld ?_
  · first | (go_simp; done) | (go_simp; rfl)
  try simp only [Act.put, qT, q0, qS]
  refine wpAnyH_take (i := 1) (oi := ⟨some 23, .nilCheck (.tmp 22), 0, _, #[⟨0, .data⟩], none⟩) (v := .pointer (some ⟨og, 0, none⟩)) rfl (by kernel_rfl) (by kernel_rfl) (by kernel_rfl) (fun _ _ _ h => h) (Or.inl ⟨by rfl, fun w' hw' => ?_⟩) hHeld ?_
  · first | (go_simp; done) | (go_simp; rfl)
  try simp only [Act.put, qT, q0, qS]
  refine wpAnyH_take (i := 2) (oi := ⟨some 24, .fieldAddr 59 (.tmp 23) 4, 0, _, #[⟨1, .data⟩], none⟩) (v := .pointer (some ⟨og, 35, none⟩)) rfl (by kernel_rfl) (by kernel_rfl) (by kernel_rfl) (fun _ _ _ h => h) (Or.inl ⟨by rfl, fun w' hw' => ?_⟩) hHeld ?_
  · first | (go_simp; done) | (go_simp; rfl)
  try simp only [Act.put, qT, q0, qS]
  refine wpAnyH_take (i := 3) (oi := ⟨some 25, .load 57 (.tmp 24), 57, _, #[⟨2, .data⟩], none⟩) (v := .map (some mb)) rfl (by kernel_rfl) (by kernel_rfl) (by kernel_rfl) (fun _ _ _ h => h) (Or.inl ⟨by rfl, fun w' hw' => ?_⟩) hHeld ?_
  · have hcc := (hw'.bel.cell (show (⟨og, 35, none⟩ : Addr).block < w.heap.size from hog)).trans HC35.out; first | (go_simp; done) | (go_simp; rfl)
  try simp only [Act.put, qT, q0, qS]
  refine wpAnyH_take (i := 4) (oi := ⟨some 26, .load 63 (.tmp 7), 63, _, #[], none⟩) rfl (by kernel_rfl) (by kernel_rfl) (by kernel_rfl) (fun _ _ _ h => h) (yieldsIf_load_mid (by rfl) 63 (.tmp 7) rfl (w.heap.size + 1 + 1) (0) rfl (KL) _ (fun _ h => rangeAt_row h.k) Tryz.underlying63 rfl HKI2.out) hHeld ?_
  try simp only [Act.put, qT, q0, qS]
  refine wpAnyH_take (i := 5) (oi := ⟨some 27, .lookup 57 (.tmp 25) (.tmp 26) true, 120, _, #[⟨3, .data⟩, ⟨4, .data⟩], none⟩) (v := .tuple #[.agg RL.toArray, .bool true]) rfl (by kernel_rfl) (by kernel_rfl) (by kernel_rfl) (fun _ _ _ h => h) (Or.inl ⟨by rfl, fun w' hw' => ?_⟩) hHeld ?_
  · have hll := HLK.out w' (HO.out.map.keep (hw'.bel.block _ HO.out.map.lt)); first | (go_simp; done) | (go_simp; rfl)
  try simp only [Act.put, qT, q0, qS]
  refine wpAnyH_take (i := 6) (oi := ⟨some 21, .move (.tmp 27), 120, _, #[⟨5, .data⟩], none⟩) (v := .tuple #[.agg RL.toArray, .bool true]) rfl (by kernel_rfl) (by kernel_rfl) (by kernel_rfl) (fun _ _ _ h => h) (Or.inl ⟨by rfl, fun w' hw' => ?_⟩) hHeld ?_
  · first | (go_simp; done) | (go_simp; rfl)
  try simp only [Act.put, qT, q0, qS]
  refine wpAnyH_take (i := 7) (oi := ⟨some 28, .extract (.tmp 21) 0, 23, _, #[⟨6, .data⟩], none⟩) (v := .agg RL.toArray) rfl (by kernel_rfl) (by kernel_rfl) (by kernel_rfl) (fun _ _ _ h => h) (Or.inl ⟨by rfl, fun w' hw' => ?_⟩) hHeld ?_
  · first | (go_simp; done) | (go_simp; rfl)
  try simp only [Act.put, qT, q0, qS]
  refine wpAnyH_take (i := 8) (oi := { dst := some 29, op := .extract (.tmp 21) 1, type := 4, pos := _, after := #[⟨6, .data⟩, { on := 10, ground := .gcOnly Go.Departure.lateStores }], guard := none }) (v := .bool true) rfl (by kernel_rfl) (by kernel_rfl) (by kernel_rfl) (fun _ _ _ h => h) (Or.inl ⟨by rfl, fun w' hw' => ?_⟩) hHeld ?_
  · first | (go_simp; done) | (go_simp; rfl)
  try simp only [Act.put, qT, q0, qS]
  have hHeld1 := hHeld.alloc (.cells ZL.toArray 23 (0, 0))
  have HWN : Hid ((W.alloc (.cells ZL.toArray 23 (0, 0))).heap[W.heap.size]? = some (.cells ZL.toArray 23 (0, 0))) := heap_at _ _ _ rfl
  refine wpAnyH_ready (rs := [9]) (by kernel_rfl) (by simp) ?_
  refine AllReadyH.cons (o := ⟨some 8, .alloc 23, 0, _, #[], none⟩) rfl (fun K hK => ?_) AllReadyH.nil
  rw [if_pos (by rfl)]
  go_wp2_with fail
  refine hK.out _ _ hHeld1 (fun _ => ?_)
  clear hK K
  try simp only [Act.put, qT, q0, qS]
  have hsW : w.heap.size + 3 ≤ W.heap.size := by have := row_lt hHeld.k; omega
  refine wpAnyH_ready (rs := [10]) (by kernel_rfl) (by simp) ?_
  refine AllReadyH.cons (o := { dst := none, op := .store 23 (.tmp 8) (.tmp 28), type := 0, pos := _, after := #[⟨9, .data⟩, ⟨7, .data⟩, ⟨0, .phase⟩, ⟨1, .phase⟩, ⟨2, .phase⟩, ⟨3, .phase⟩, ⟨4, .phase⟩, ⟨5, .phase⟩, ⟨6, .phase⟩, ⟨7, .phase⟩, { on := 8, ground := .textOnly Go.Departure.lateStores }, ⟨9, .phase⟩], guard := none }) rfl (fun K hK => ?_) AllReadyH.nil
  rw [if_pos (by rfl)]
  refine wp_store_row 23 _ _ rfl W.heap.size RL.toArray rfl rfl 23 _ HWN.out HRI.out (HZS.out.trans HRS.out.symm) HR1.out ?_
  have hHeld2 := hHeld1.step (below_setRow (Below.refl _ _) hsW RL.toArray)
  refine hK.out _ _ hHeld2 (fun _ => ?_)
  clear hK K
  try simp only [Act.put, qT, q0, qS]
  refine wpAnyH_ready (rs := [11]) (by kernel_rfl) (by simp) ?_
  refine AllReadyH.cons (o := ⟨some 9, .assign (.tmp 29), 4, _, #[⟨8, .data⟩, ⟨10, .chain⟩, ⟨0, .phase⟩, ⟨1, .phase⟩, ⟨2, .phase⟩, ⟨3, .phase⟩, ⟨4, .phase⟩, ⟨5, .phase⟩, ⟨6, .phase⟩, ⟨7, .phase⟩, ⟨8, .phase⟩, ⟨9, .phase⟩, ⟨10, .phase⟩], none⟩) rfl (fun K hK => ?_) AllReadyH.nil
  rw [if_pos (by rfl)]
  go_wp2_with fail
  refine hK.out _ _ hHeld2 (fun _ => ?_)
  clear hK K
  try simp only [Act.put, qT, q0, qS]
  refine wpAnyH_done (by kernel_rfl) ?_ _
  have HXR : Hid _ := setRow_heap _ _ _ RL.toArray _ _ HWN.out
  have HXZ : Hid _ := hHeld2.z
  have HXB : Hid _ := hHeld2.bel
  clear hHeld hHeld1 hHeld2
  generalize (W.alloc (.cells ZL.toArray 23 (0, 0))).setRow W.heap.size RL.toArray = X at *
  go_wp2_with (first
    | (refine wpList_load_row rfl 23 _ rfl W.heap.size rfl 23 RL.toArray (0, 0) _ HXR.out Tryz.underlying23 rfl HRI.out ?_)
    | (refine wpList_store_row rfl 23 _ _ rfl (w.heap.size + 1) RL.toArray rfl rfl 23 ZL.toArray HXZ.out HRI.out (HZS.out.trans HRS.out.symm) HR1.out ?_))
  have hbX : Below w.heap.size w (X.setRow (w.heap.size + 1) RL.toArray) := below_setRow HXB.out (by omega) _
  refine bodyPost_ret (v := .agg RL.toArray) ?_ rfl ⟨by rw [HPA.out], Fr.ofBelow hbX, ov, HO.out.grow hbX hB⟩
  exact results_cell_row Tryz.results51 _ _ (w.heap.size + 1) 23 _ (0, 0) _ rfl (setRow_heap _ _ _ _ _ _ HXZ.out) Tryz.underlying23 rfl HRI.out


set_option maxHeartbeats 8000000 in
set_option maxRecDepth 100000 in
theorem panswer_draw (B og mb : Nat) (S : Nat → Prop) (dq dv ov : Value) (o : Pra) (q : Qn) (w : World) (hB : B ≤ w.heap.size) (hll : o.log.length < 1000000) (ho : PO B og mb S w o dv ov) (hq : kOk q) (hdq : HB w dq q.data) (hf : fndA q o.log = none) :
    Calls Tryz.prog 51 #[.pointer (some ⟨og, 0, none⟩), .agg (qL q dq).toArray, .func (.func 64) #[.pointer (some ⟨og, 0, none⟩)] #[]] w fun e w' => PAns B og mb S w { o with log := o.log ++ [(q, drawD o.draws o.log.length)] } dv (drawD o.draws o.log.length) e w' := by
  obtain ⟨D, hD⟩ : ∃ D, D = drawD o.draws o.log.length := ⟨_, rfl⟩
  rw [← hD]
  have HDD : Hid _ := hD
  clear hD
  have hfs : (fndA q o.log).isSome = false := by rw [hf]; rfl
  have hlv : lookV o.log q = .agg ((List.replicate 32 (0 : UInt8)).map B8).toArray := by unfold lookV; rw [hf]; rfl
  have hqk := hq.key
  have hc1 := conv_hb _ dq q.data (hb_alloc (hb_alloc hdq (.cells (qL q dq).toArray 66 (0, 0))) (.cells ((List.replicate 32 (0 : UInt8)).map B8).toArray 23 (0, 0)))
  obtain ⟨c0, c33, c34, c35, cf⟩ := ho.cells
  have hbk := fun W => build_kq W q.kind q.dom (txt q.data) (q.key.map B8) (by simpa using hqk)
  have hkL : Value.int .i64 q.kind :: (q.key.map B8 ++ [Value.int .i64 q.dom, .string (txt q.data)]) = kL q := rfl
  rw [hkL] at hbk
  clear hkL
  have hzv := fun W => zero_dig W
  have hzk := fun W => zero_kq W
  have hKl := kL_len q hqk
  have HK1 : Hid _ := kL_onea q
  have hlk := fun (W : World) (h : MH W mb o.log) => mh_look ho.ok h hq true (zero_dig W)
  obtain ⟨a0, a1, a2, a3⟩ := q_facts hqk (alloc2_first w (.cells (qL q dq).toArray 66 (0, 0)) (.cells ((List.replicate 32 (0 : UInt8)).map B8).toArray 23 (0, 0)))
  have HI1 : Hid _ := info32 (q.key.map B8) (by simpa using hqk)
  have hZ1 := B8_onea (List.replicate 32 (0 : UInt8))
  unfold kV at hlk
  simp only [hlv, hfs, if_true] at hlk
  obtain ⟨ZL, hZL⟩ : ∃ L, L = (List.replicate 32 (0 : UInt8)).map B8 := ⟨_, rfl⟩
  try rw [← hZL] at hlk
  rw [← hZL] at hzv hc1 a0 a1 a2 a3 hZ1
  have HZS : Hid (ZL.toArray.size = 32) := by show _ = _; rw [hZL]; simp
  obtain ⟨QL, hQL⟩ : ∃ L, L = qL q dq := ⟨_, rfl⟩
  rw [← hQL] at hc1 a0 a1 a2 a3 ⊢
  obtain ⟨KL, hKL⟩ : ∃ L, L = kL q := ⟨_, rfl⟩
  rw [← hKL] at hbk hKl HK1 hlk
  have HKS : Hid (KL.toArray.size = 35) := by show _ = _; simpa using hKl
  have HKI : Hid _ := info35ka KL.toArray HKS.out
  have HKL : Hid _ := hKL
  have HKN : Hid _ := hKl
  obtain ⟨ZK, hZK⟩ : ∃ A, A = zKq := ⟨_, rfl⟩
  rw [← hZK] at hzk
  have HZKS : Hid (ZK.size = 35) := by show _ = _; rw [hZK]; kernel_rfl
  have HA1 : Hid _ := a1
  have HX2 : Hid ((((w.alloc (.cells QL.toArray 66 (0, 0))).alloc (.cells ZL.toArray 23 (0, 0))).alloc (.cells ZK 63 (0, 0))).heap[w.heap.size + 1 + 1]? = some (.cells ZK 63 (0, 0))) := heap_at _ _ _ (by simp)
  have hS2 : S2 w QL KL ZL.toArray ((((w.alloc (.cells QL.toArray 66 (0, 0))).alloc (.cells ZL.toArray 23 (0, 0))).alloc (.cells ZK 63 (0, 0))).setRow (w.heap.size + 1 + 1) KL.toArray).drew := by
    refine S2.drew ⟨?_, ?_, ?_, setRow_heap _ _ _ _ _ _ HX2.out⟩
    · exact below_setRow ((((Below.refl _ _).alloc (Nat.le_refl _) _).alloc (by simp) _).alloc (by simp; omega) _) (by omega) _
    · rw [setRow_other _ _ _ _ (by omega), Below.heap_alloc _ _ _ (by simp; omega), alloc2_first]
    · rw [setRow_other _ _ _ _ (by omega), Below.heap_alloc _ _ _ (by simp)]; exact heap_at _ _ _ (by simp)
  have HS2 : Hid _ := hS2
  have HC35 : Hid _ := c35
  have HLK : Hid _ := hlk
  have HO : Hid _ := ho
  have HDQ : Hid _ := hdq
  have hog := row_lt ho.row
  clear hQL hZL hKL hZK a1 hS2 c35 c0 c33 c34 cf hlk ho hdq hKl
  go_enter Tryz.func51, Tryz.ntmps51
  go_wp2_with (first
    | (refine wpList_load_mid rfl 23 _ rfl w.heap.size 1 rfl (q.key.map B8) _ HA1.out Tryz.underlying23 rfl HI1.out ?_)
    | (refine wpList_build rfl 63 _ rfl _ (.agg KL.toArray) (by simp; exact ⟨rfl, rfl, rfl, rfl⟩) (hbk _) ?_)
    | (refine wpList_store_row rfl 63 _ _ rfl (w.heap.size + 1 + 1) KL.toArray rfl rfl 63 ZK HX2.out HKI.out (HZKS.out.trans HKS.out.symm) HK1.out ?_))
  refine wp_region_held_drew (S := S2 w QL KL ZL.toArray) (by kernel_rfl) HS2.out (fun hHeld => ?_)
  generalize ((((w.alloc (.cells QL.toArray 66 (0, 0))).alloc (.cells ZL.toArray 23 (0, 0))).alloc (.cells ZK 63 (0, 0))).setRow (w.heap.size + 1 + 1) KL.toArray).drew = W at *
  have HKI2 : Hid ((Tryz.prog.info? 63).map (·.size) = some KL.length) := by have := HKI.out; rwa [List.size_toArray] at this
  refine wpAnyH_take (i := 0) (oi := ⟨some 22, .move (.tmp 0), 31, _, #[], none⟩) (v := .pointer (some ⟨og, 0, none⟩)) rfl (by kernel_rfl) (by kernel_rfl) (by kernel_rfl) (fun _ _ _ h => h) (Or.inl ⟨by rfl, fun w' hw' => ?_⟩) hHeld ?_
  · first | (go_simp; done) | (go_simp; rfl)
  try simp only [Act.put, qT, q0, qS]
  refine wpAnyH_take (i := 1) (oi := ⟨some 23, .nilCheck (.tmp 22), 0, _, #[⟨0, .data⟩], none⟩) (v := .pointer (some ⟨og, 0, none⟩)) rfl (by kernel_rfl) (by kernel_rfl) (by kernel_rfl) (fun _ _ _ h => h) (Or.inl ⟨by rfl, fun w' hw' => ?_⟩) hHeld ?_
  · first | (go_simp; done) | (go_simp; rfl)
  try simp only [Act.put, qT, q0, qS]
  refine wpAnyH_take (i := 2) (oi := ⟨some 24, .fieldAddr 59 (.tmp 23) 4, 0, _, #[⟨1, .data⟩], none⟩) (v := .pointer (some ⟨og, 35, none⟩)) rfl (by kernel_rfl) (by kernel_rfl) (by kernel_rfl) (fun _ _ _ h => h) (Or.inl ⟨by rfl, fun w' hw' => ?_⟩) hHeld ?_
  · first | (go_simp; done) | (go_simp; rfl)
  try simp only [Act.put, qT, q0, qS]
  refine wpAnyH_take (i := 3) (oi := ⟨some 25, .load 57 (.tmp 24), 57, _, #[⟨2, .data⟩], none⟩) (v := .map (some mb)) rfl (by kernel_rfl) (by kernel_rfl) (by kernel_rfl) (fun _ _ _ h => h) (Or.inl ⟨by rfl, fun w' hw' => ?_⟩) hHeld ?_
  · have hcc := (hw'.bel.cell (show (⟨og, 35, none⟩ : Addr).block < w.heap.size from hog)).trans HC35.out; first | (go_simp; done) | (go_simp; rfl)
  try simp only [Act.put, qT, q0, qS]
  refine wpAnyH_take (i := 4) (oi := ⟨some 26, .load 63 (.tmp 7), 63, _, #[], none⟩) rfl (by kernel_rfl) (by kernel_rfl) (by kernel_rfl) (fun _ _ _ h => h) (yieldsIf_load_mid (by rfl) 63 (.tmp 7) rfl (w.heap.size + 1 + 1) (0) rfl (KL) _ (fun _ h => rangeAt_row h.k) Tryz.underlying63 rfl HKI2.out) hHeld ?_
  try simp only [Act.put, qT, q0, qS]
  refine wpAnyH_take (i := 5) (oi := ⟨some 27, .lookup 57 (.tmp 25) (.tmp 26) true, 120, _, #[⟨3, .data⟩, ⟨4, .data⟩], none⟩) (v := .tuple #[.agg ZL.toArray, .bool false]) rfl (by kernel_rfl) (by kernel_rfl) (by kernel_rfl) (fun _ _ _ h => h) (Or.inl ⟨by rfl, fun w' hw' => ?_⟩) hHeld ?_
  · have hll := HLK.out w' (HO.out.map.keep (hw'.bel.block _ HO.out.map.lt)); first | (go_simp; done) | (go_simp; rfl)
  try simp only [Act.put, qT, q0, qS]
  refine wpAnyH_take (i := 6) (oi := ⟨some 21, .move (.tmp 27), 120, _, #[⟨5, .data⟩], none⟩) (v := .tuple #[.agg ZL.toArray, .bool false]) rfl (by kernel_rfl) (by kernel_rfl) (by kernel_rfl) (fun _ _ _ h => h) (Or.inl ⟨by rfl, fun w' hw' => ?_⟩) hHeld ?_
  · first | (go_simp; done) | (go_simp; rfl)
  try simp only [Act.put, qT, q0, qS]
  refine wpAnyH_take (i := 7) (oi := ⟨some 28, .extract (.tmp 21) 0, 23, _, #[⟨6, .data⟩], none⟩) (v := .agg ZL.toArray) rfl (by kernel_rfl) (by kernel_rfl) (by kernel_rfl) (fun _ _ _ h => h) (Or.inl ⟨by rfl, fun w' hw' => ?_⟩) hHeld ?_
  · first | (go_simp; done) | (go_simp; rfl)
  try simp only [Act.put, qT, q0, qS]
  refine wpAnyH_take (i := 8) (oi := { dst := some 29, op := .extract (.tmp 21) 1, type := 4, pos := _, after := #[⟨6, .data⟩, { on := 10, ground := .gcOnly Go.Departure.lateStores }], guard := none }) (v := .bool false) rfl (by kernel_rfl) (by kernel_rfl) (by kernel_rfl) (fun _ _ _ h => h) (Or.inl ⟨by rfl, fun w' hw' => ?_⟩) hHeld ?_
  · first | (go_simp; done) | (go_simp; rfl)
  try simp only [Act.put, qT, q0, qS]
  have hHeld1 := hHeld.alloc (.cells ZL.toArray 23 (0, 0))
  have HWN : Hid ((W.alloc (.cells ZL.toArray 23 (0, 0))).heap[W.heap.size]? = some (.cells ZL.toArray 23 (0, 0))) := heap_at _ _ _ rfl
  refine wpAnyH_ready (rs := [9]) (by kernel_rfl) (by simp) ?_
  refine AllReadyH.cons (o := ⟨some 8, .alloc 23, 0, _, #[], none⟩) rfl (fun K hK => ?_) AllReadyH.nil
  rw [if_pos (by rfl)]
  go_wp2_with fail
  refine hK.out _ _ hHeld1 (fun _ => ?_)
  clear hK K
  try simp only [Act.put, qT, q0, qS]
  have hsW : w.heap.size + 3 ≤ W.heap.size := by have := row_lt hHeld.k; omega
  refine wpAnyH_ready (rs := [10]) (by kernel_rfl) (by simp) ?_
  refine AllReadyH.cons (o := { dst := none, op := .store 23 (.tmp 8) (.tmp 28), type := 0, pos := _, after := #[⟨9, .data⟩, ⟨7, .data⟩, ⟨0, .phase⟩, ⟨1, .phase⟩, ⟨2, .phase⟩, ⟨3, .phase⟩, ⟨4, .phase⟩, ⟨5, .phase⟩, ⟨6, .phase⟩, ⟨7, .phase⟩, { on := 8, ground := .textOnly Go.Departure.lateStores }, ⟨9, .phase⟩], guard := none }) rfl (fun K hK => ?_) AllReadyH.nil
  rw [if_pos (by rfl)]
  refine wp_store_row 23 _ _ rfl W.heap.size ZL.toArray rfl rfl 23 _ HWN.out (info32a _ HZS.out) rfl hZ1 ?_
  have hHeld2 := hHeld1.step (below_setRow (Below.refl _ _) hsW ZL.toArray)
  refine hK.out _ _ hHeld2 (fun _ => ?_)
  clear hK K
  try simp only [Act.put, qT, q0, qS]
  refine wpAnyH_ready (rs := [11]) (by kernel_rfl) (by simp) ?_
  refine AllReadyH.cons (o := ⟨some 9, .assign (.tmp 29), 4, _, #[⟨8, .data⟩, ⟨10, .chain⟩, ⟨0, .phase⟩, ⟨1, .phase⟩, ⟨2, .phase⟩, ⟨3, .phase⟩, ⟨4, .phase⟩, ⟨5, .phase⟩, ⟨6, .phase⟩, ⟨7, .phase⟩, ⟨8, .phase⟩, ⟨9, .phase⟩, ⟨10, .phase⟩], none⟩) rfl (fun K hK => ?_) AllReadyH.nil
  rw [if_pos (by rfl)]
  go_wp2_with fail
  refine hK.out _ _ hHeld2 (fun _ => ?_)
  clear hK K
  try simp only [Act.put, qT, q0, qS]
  refine wpAnyH_done (by kernel_rfl) ?_ _
  have HX : Hid _ := hHeld2
  have hsX : w.heap.size + 3 ≤ ((W.alloc (.cells ZL.toArray 23 (0, 0))).setRow W.heap.size ZL.toArray).heap.size := by have := row_lt hHeld2.k; omega
  clear hHeld hHeld1 hHeld2
  generalize (W.alloc (.cells ZL.toArray 23 (0, 0))).setRow W.heap.size ZL.toArray = X at *
  have hPX := HO.out.below HX.out.bel
  obtain ⟨p, cap, hov⟩ := HO.out.ordV
  have HPX : Hid _ := hPX
  have HOV : Hid _ := hov
  have HDn : Hid _ := drawD_len o.draws o.log.length HO.out.draws.1
  have hdr := pdraw_any og o.log.length p cap dv o.draws X (by omega) hPX.cells.2.1 (by rw [← hov]; exact hPX.cells.2.2.1) hPX.draws
  rw [← HDD.out] at hdr HDn
  obtain ⟨DL, hDL⟩ : ∃ L, L = D.map B8 := ⟨_, rfl⟩
  rw [← hDL] at hdr
  have HDR : Hid _ := hdr
  clear hov hPX hdr
  go_wp2_with fail
  refine Calls.mono HDR.out ?_
  rintro e w5 ⟨rfl, hb5⟩
  have hDn : DL.length = 32 := by rw [hDL, List.length_map]; exact HDn.out
  have HDS : Hid (DL.toArray.size = 32) := by show _ = _; simpa using hDn
  have HDI : Hid _ := info32 DL hDn
  have HD1 : Hid (DL.toArray.all (·.oneCell') = true) := by show _ = _; rw [hDL]; exact B8_onea _
  have HDL : Hid _ := hDL
  have HDN : Hid _ := hDn
  have hs5 := hb5.size
  have HB5 : Hid (Below w.heap.size w w5) := HX.out.bel.trans (hb5.mono (by omega))
  have HWN5 : Hid ((w5.alloc (.cells ZL.toArray 23 (0, 0))).heap[w5.heap.size]? = some (.cells ZL.toArray 23 (0, 0))) := heap_at _ _ _ rfl
  have hb6 : Below w5.heap.size w5 ((w5.alloc (.cells ZL.toArray 23 (0, 0))).setRow w5.heap.size DL.toArray) := below_setRow ((Below.refl _ _).alloc (Nat.le_refl _) _) (Nat.le_refl _) _
  have hS6 : S6 S w w5.heap.size KL DL ZL.toArray ((w5.alloc (.cells ZL.toArray 23 (0, 0))).setRow w5.heap.size DL.toArray).drew := by
    refine S6.drew ⟨Fr.ofBelow (HB5.out.trans (hb6.mono (by omega))), ?_, ?_, setRow_heap _ _ _ _ _ _ HWN5.out⟩
    · exact (hb6.block _ (by omega)).trans ((hb5.block _ (by omega)).trans HX.out.z)
    · exact (hb6.block _ (by omega)).trans ((hb5.block _ (by omega)).trans HX.out.k)
  have hP6 : PO B og mb S ((w5.alloc (.cells ZL.toArray 23 (0, 0))).setRow w5.heap.size DL.toArray).drew o dv ov := (HO.out.below (HB5.out.trans (hb6.mono (by omega)))).keep (Nat.le_refl _) (fun k _ _ => rfl)
  have hs6 : w.heap.size + 3 ≤ ((w5.alloc (.cells ZL.toArray 23 (0, 0))).setRow w5.heap.size DL.toArray).drew.heap.size := by have := row_lt hS6.k; omega
  have HS6 : Hid _ := hS6
  have HP6 : Hid _ := hP6
  have HTOP : Hid _ := HO.out.top
  have hw5 : w.heap.size ≤ w5.heap.size := by omega
  have HWL : Hid (w5.heap.size < ((w5.alloc (.cells ZL.toArray 23 (0, 0))).setRow w5.heap.size DL.toArray).drew.heap.size) := row_lt hS6.d
  clear hb5 hs5 hb6 hS6 hP6 hDL hDn
  go_wp2_with (refine wpList_store_row rfl 23 _ _ rfl w5.heap.size DL.toArray rfl rfl 23 ZL.toArray HWN5.out (info32a _ HDS.out) (HZS.out.trans HDS.out.symm) HD1.out ?_)
  refine wp_region_held_drew (S := S6 S w w5.heap.size KL DL ZL.toArray) (by kernel_rfl) HS6.out (fun hHeld => ?_)
  generalize ((w5.alloc (.cells ZL.toArray 23 (0, 0))).setRow w5.heap.size DL.toArray).drew = Y at *
  have hcY := HP6.out.cells.2.2.1
  rw [HOV.out] at hcY
  have HFA : Hid _ := fill_kq KL HKN.out
  obtain ⟨i0, hi, hz0, hz1, hz2⟩ := info_parts infoKq
  have HI0 : Hid _ := hi
  have HIZ : Hid _ := hz0
  have HI2 : Hid _ := hz1
  have HI3 : Hid _ := hz2
  clear hi hz0 hz1 hz2
  have hHA : S6 S w w5.heap.size KL DL ZL.toArray (Y.alloc (.cells KL.toArray 63 (0, 0))) := hHeld.step (Fr.ofBelow ((Below.refl _ _).alloc (Nat.le_refl _) _)) HTOP.out (by omega)
  have hcA : (Y.alloc (.cells KL.toArray 63 (0, 0))).cell? ⟨og, 34, none⟩ = some (.slice p o.log.length cap) := (Below.cell ((Below.refl _ Y).alloc (Nat.le_refl _) _) (show (⟨og, 34, none⟩ : Addr).block < Y.heap.size by show og < Y.heap.size; omega)).trans hcY
  have HOWN : Hid ((Y.alloc (.cells KL.toArray 63 (0, 0))).ownsRow B 63 35 (.slice p o.log.length cap) o.log.length (kC o.log)) := by
    have h := HP6.out.order
    rw [HOV.out] at h
    exact h.alloc _
  have HNEW : Hid (∀ j u, KL[j]? = some u → (Y.alloc (.cells KL.toArray 63 (0, 0))).cell? ((⟨Y.heap.size, 0, none⟩ : Addr).add j) = some u) := fun j u hu => by
    have h := rangeAt_row (heap_alloc_new Y (.cells KL.toArray 63 (0, 0))) j u hu
    rw [add_none]; exact h
  have HK1' : Hid (∀ u ∈ KL, u.oneCell' = true) := by rw [HKL.out]; exact kL_one q
  refine wpAnyH_take (i := 0) (oi := ⟨some 34, .move (.tmp 0), 31, _, #[], none⟩) (v := .pointer (some ⟨og, 0, none⟩)) rfl (by kernel_rfl) (by kernel_rfl) (by kernel_rfl) (fun _ _ _ h => h) (Or.inl ⟨by rfl, fun w' hw' => ?_⟩) hHeld ?_
  · first | (go_simp; done) | (go_simp; rfl)
  try simp only [Act.put, qT, q0, qS]
  refine wpAnyH_take (i := 1) (oi := ⟨some 35, .move (.tmp 0), 31, _, #[], none⟩) (v := .pointer (some ⟨og, 0, none⟩)) rfl (by kernel_rfl) (by kernel_rfl) (by kernel_rfl) (fun _ _ _ h => h) (Or.inl ⟨by rfl, fun w' hw' => ?_⟩) hHeld ?_
  · first | (go_simp; done) | (go_simp; rfl)
  try simp only [Act.put, qT, q0, qS]
  refine wpAnyH_take (i := 2) (oi := ⟨some 36, .nilCheck (.tmp 35), 0, _, #[⟨1, .data⟩], none⟩) (v := .pointer (some ⟨og, 0, none⟩)) rfl (by kernel_rfl) (by kernel_rfl) (by kernel_rfl) (fun _ _ _ h => h) (Or.inl ⟨by rfl, fun w' hw' => ?_⟩) hHeld ?_
  · first | (go_simp; done) | (go_simp; rfl)
  try simp only [Act.put, qT, q0, qS]
  refine wpAnyH_take (i := 3) (oi := ⟨some 37, .fieldAddr 59 (.tmp 36) 3, 0, _, #[⟨2, .data⟩], none⟩) (v := .pointer (some ⟨og, 34, none⟩)) rfl (by kernel_rfl) (by kernel_rfl) (by kernel_rfl) (fun _ _ _ h => h) (Or.inl ⟨by rfl, fun w' hw' => ?_⟩) hHeld ?_
  · first | (go_simp; done) | (go_simp; rfl)
  try simp only [Act.put, qT, q0, qS]
  refine wpAnyH_take (i := 5) (oi := ⟨some 39, .load 63 (.tmp 7), 63, _, #[], none⟩) rfl (by kernel_rfl) (by kernel_rfl) (by kernel_rfl) (fun _ _ _ h => h) (yieldsIf_load_mid (by rfl) 63 (.tmp 7) rfl (w.heap.size + 1 + 1) (0) rfl (KL) _ (fun _ h => rangeAt_row h.k) Tryz.underlying63 rfl HKI2.out) hHeld ?_
  try simp only [Act.put, qT, q0, qS]
  refine wpAnyH_ready (rs := [4, 6]) (by kernel_rfl) (by simp) ?_
  refine AllReadyH.cons (o := ⟨some 38, .load 56 (.tmp 37), 56, _, #[⟨3, .data⟩], none⟩) rfl (fun K hK => ?_) (AllReadyH.cons (o := ⟨some 40, .buildSlice 56 1 #[(0, .tmp 39)], 56, _, #[⟨5, .data⟩], none⟩) rfl (fun K hK => ?_) AllReadyH.nil)
  all_goals rw [if_pos (by rfl)]
  · go_wp2_with fail
    refine hK.out _ _ hHeld (fun _ => ?_)
    clear hK K
    try simp only [Act.put, qT, q0, qS]
    refine wpAnyH_ready (rs := [6]) (by kernel_rfl) (by simp) ?_
    refine AllReadyH.cons (o := ⟨some 40, .buildSlice 56 1 #[(0, .tmp 39)], 56, _, #[⟨5, .data⟩], none⟩) rfl (fun K hK => ?_) AllReadyH.nil
    rw [if_pos (by rfl)]
    refine wp_buildSlice 56 63 1 _ rfl KL.toArray i0 (.agg zKq) Tryz.underlying56 HI0.out HIZ.out (by rw [HI2.out]; decide) (by rw [HI2.out]; decide) (by rw [HI2.out]; refine (congrArg (Instr.fill _ _) ?_).trans HFA.out; simp; rfl) ?_
    refine hK.out _ _ hHA (fun _ => ?_)
    clear hK K
    try simp only [Act.put, qT, q0, qS]
    refine wpAnyH_ready (rs := [7]) (by kernel_rfl) (by simp) ?_
    refine AllReadyH.cons (o := { dst := some 41, op := .call { callee := Go.Callee.builtin Go.Builtin.append, args := #[.tmp 38, .tmp 40], argTypes := #[56, 56] }, type := 56, pos := _, after := #[⟨4, .data⟩, ⟨6, .data⟩], guard := none }) rfl (fun K hK => ?_) AllReadyH.nil
    rw [if_pos (by rfl)]
    refine wp_append_lies _ (.tmp 38) (.tmp 40) 56 rfl B 63 i0 (.agg zKq) 35 64 Tryz.underlying56 HI0.out HIZ.out HI2.out HI3.out rfl (by decide) (.slice p o.log.length cap) o.log.length (kC o.log) rfl HOWN.out ⟨Y.heap.size, 0, none⟩ 1 1 KL rfl HKN.out HNEW.out HK1'.out (by decide) (by unfold maxLen; omega) (by omega) (by simp; omega) (Y.heap.size + 1) (by simp) ?_
    intro g cap2 Z hown hgr hgl hgZ
    rw [← HOV.out] at hgr hgl
    have hHZ := hHA.step (Fr.grown (Fr.refl _ _) hgr (fun k e => .inl (HO.out.sov k e).1)) HTOP.out (by omega)
    have hoZ : Z.heap[og]? = some (.cells (pL o.ideal o.master dv ov mb).toArray 59 (0, 0)) := (hgr.block og (by simp; omega) (fun e => (HO.out.sov og e.symm).2 rfl)).trans ((heap_alloc_old _ _ (by omega)).trans HP6.out.row)
    have cZ : Z.cell? ⟨og, 34, none⟩ = some (.slice p o.log.length cap) := by rw [cell_of_row _ _ 34 _ _ _ hoZ, ← HOV.out]; exact pL_at _ _ _ _ _ HO.out.ml 1
    have fZ := frozen_of_row _ _ 34 _ _ hoZ
    have hHV := hHZ.step (Fr.setCell (Fr.refl _ Z) og 34 (.slice (some ⟨g, 0, none⟩) (o.log.length + 1) cap2) (.inl HO.out.sog)) HTOP.out (by omega)
    have HOZ : Hid _ := hoZ
    have HOWZ : Hid _ := hown
    have HGL : Hid _ := hgl
    have HGZ : Hid _ := hgZ
    have HGR : Hid _ := hgr
    clear hoZ hown hgl hgr
    refine hK.out _ _ hHZ (fun _ => ?_)
    clear hK K
    try simp only [Act.put, qT, q0, qS]
    have hHeld := hHZ
    refine wpAnyH_take (i := 8) (oi := ⟨some 42, .nilCheck (.tmp 34), 0, _, #[⟨0, .data⟩, ⟨0, .phase⟩, ⟨1, .phase⟩, ⟨2, .phase⟩, ⟨3, .phase⟩, ⟨4, .phase⟩, ⟨5, .phase⟩, ⟨6, .phase⟩, ⟨7, .phase⟩], none⟩) (v := .pointer (some ⟨og, 0, none⟩)) rfl (by kernel_rfl) (by kernel_rfl) (by kernel_rfl) (fun _ _ _ h => h) (Or.inl ⟨by rfl, fun w' hw' => ?_⟩) hHeld ?_
    · first | (go_simp; done) | (go_simp; rfl)
    try simp only [Act.put, qT, q0, qS]
    refine wpAnyH_take (i := 9) (oi := ⟨some 43, .fieldAddr 59 (.tmp 42) 3, 0, _, #[⟨8, .data⟩, ⟨0, .phase⟩, ⟨1, .phase⟩, ⟨2, .phase⟩, ⟨3, .phase⟩, ⟨4, .phase⟩, ⟨5, .phase⟩, ⟨6, .phase⟩, ⟨7, .phase⟩], none⟩) (v := .pointer (some ⟨og, 34, none⟩)) rfl (by kernel_rfl) (by kernel_rfl) (by kernel_rfl) (fun _ _ _ h => h) (Or.inl ⟨by rfl, fun w' hw' => ?_⟩) hHeld ?_
    · first | (go_simp; done) | (go_simp; rfl)
    try simp only [Act.put, qT, q0, qS]
    refine wpAnyH_ready (rs := [10]) (by kernel_rfl) (by simp) ?_
    refine AllReadyH.cons (o := ⟨none, .store 56 (.tmp 43) (.tmp 41), 0, _, #[⟨9, .data⟩, ⟨7, .data⟩, ⟨7, .chain⟩, ⟨0, .phase⟩, ⟨1, .phase⟩, ⟨2, .phase⟩, ⟨3, .phase⟩, ⟨4, .phase⟩, ⟨5, .phase⟩, ⟨6, .phase⟩, ⟨7, .phase⟩], none⟩) rfl (fun K hK => ?_) AllReadyH.nil
    rw [if_pos (by rfl)]
    go_wp2_with fail
    refine hK.out _ _ hHV (fun _ => ?_)
    clear hK K
    try simp only [Act.put, qT, q0, qS]
    refine wpAnyH_done (by kernel_rfl) ?_ _
    obtain ⟨PL, hPL⟩ : ∃ L, L = pL o.ideal o.master dv (.slice (some ⟨g, 0, none⟩) (o.log.length + 1) cap2) mb := ⟨_, rfl⟩
    have hgo : g ≠ og := HGL.out.elim (fun e => (HO.out.sov g e).2) (fun e => by omega)
    have hoV : (Z.setCell ⟨og, 34, none⟩ (.slice (some ⟨g, 0, none⟩) (o.log.length + 1) cap2)).heap[og]? = some (.cells PL.toArray 59 (0, 0)) := (heap_setCell_same _ og 34 _ _ _ HOZ.out).trans (by rw [pL_set34 _ _ _ _ _ HO.out.ml, hPL])
    have hownV : (Z.setCell ⟨og, 34, none⟩ (.slice (some ⟨g, 0, none⟩) (o.log.length + 1) cap2)).ownsRow B 63 35 (.slice (some ⟨g, 0, none⟩) (o.log.length + 1) cap2) (o.log.length + 1) (kC o.log ++ kL q) := by
      rw [← HKL.out]
      exact own_keep HOWZ.out (fun k e hl => heap_setCell_other _ _ _ _ (by have e' : g = k := (by simpa [Value.ownBlock] using e); show k ≠ og; exact e' ▸ hgo))
    have hmapV : MH (Z.setCell ⟨og, 34, none⟩ (.slice (some ⟨g, 0, none⟩) (o.log.length + 1) cap2)) mb o.log := HP6.out.map.keep ((heap_setCell_other _ _ _ _ (by show mb ≠ og; exact HO.out.ne)).trans ((HGR.out.block mb (by simp; have := HP6.out.map.lt; omega) (fun e => HO.out.ovne e.symm)).trans (heap_alloc_old _ _ HP6.out.map.lt)))
    have hgV : g < (Z.setCell ⟨og, 34, none⟩ (.slice (some ⟨g, 0, none⟩) (o.log.length + 1) cap2)).heap.size := by simpa [World.setCell] using hgZ
    have HS7 : Hid (S7 S w w5.heap.size og KL DL PL ZL.toArray (Z.setCell ⟨og, 34, none⟩ (.slice (some ⟨g, 0, none⟩) (o.log.length + 1) cap2)).drew) := ⟨hHV.drew, hoV⟩
    have HPL : Hid _ := hPL
    have HOWV : Hid _ := hownV
    have HMV : Hid (MH (Z.setCell ⟨og, 34, none⟩ (.slice (some ⟨g, 0, none⟩) (o.log.length + 1) cap2)) mb o.log) := hmapV
    have HGV : Hid _ := hgV
    have HGO : Hid _ := hgo
    have hPLl : PL.toArray[35]? = some (.map (some mb)) := by rw [hPL]; exact pL_at _ _ _ _ _ HO.out.ml 2
    have HPC : Hid _ := hPLl
    clear hPL hgo hoV hownV hmapV hgV hPLl hHV hHZ hHA hHeld cZ fZ hcA hcY HOZ HOWZ HNEW HOWN HGR
    go_wp2_with fail
    refine wp_region_held_drew (S := S7 S w w5.heap.size og KL DL PL ZL.toArray) (by kernel_rfl) HS7.out (fun hHeld => ?_)
    have HMU : Hid (MH (Z.setCell ⟨og, 34, none⟩ (.slice (some ⟨g, 0, none⟩) (o.log.length + 1) cap2)).drew mb o.log) := HMV.out.keep rfl
    have HOWU : Hid ((Z.setCell ⟨og, 34, none⟩ (.slice (some ⟨g, 0, none⟩) (o.log.length + 1) cap2)).drew.ownsRow B 63 35 (.slice (some ⟨g, 0, none⟩) (o.log.length + 1) cap2) (o.log.length + 1) (kC o.log ++ kL q)) := own_keep HOWV.out (fun _ _ _ => rfl)
    have HGU : Hid (g < (Z.setCell ⟨og, 34, none⟩ (.slice (some ⟨g, 0, none⟩) (o.log.length + 1) cap2)).drew.heap.size) := HGV.out
    clear HMV HOWV HGV
    generalize (Z.setCell ⟨og, 34, none⟩ (.slice (some ⟨g, 0, none⟩) (o.log.length + 1) cap2)).drew = U at *
    refine wpAnyH_take (i := 0) (oi := ⟨some 44, .move (.tmp 0), 31, _, #[], none⟩) (v := .pointer (some ⟨og, 0, none⟩)) rfl (by kernel_rfl) (by kernel_rfl) (by kernel_rfl) (fun _ _ _ h => h) (Or.inl ⟨by rfl, fun w' hw' => ?_⟩) hHeld ?_
    · first | (go_simp; done) | (go_simp; rfl)
    try simp only [Act.put, qT, q0, qS]
    refine wpAnyH_take (i := 1) (oi := ⟨some 45, .nilCheck (.tmp 44), 0, _, #[⟨0, .data⟩], none⟩) (v := .pointer (some ⟨og, 0, none⟩)) rfl (by kernel_rfl) (by kernel_rfl) (by kernel_rfl) (fun _ _ _ h => h) (Or.inl ⟨by rfl, fun w' hw' => ?_⟩) hHeld ?_
    · first | (go_simp; done) | (go_simp; rfl)
    try simp only [Act.put, qT, q0, qS]
    refine wpAnyH_take (i := 2) (oi := ⟨some 46, .fieldAddr 59 (.tmp 45) 4, 0, _, #[⟨1, .data⟩], none⟩) (v := .pointer (some ⟨og, 35, none⟩)) rfl (by kernel_rfl) (by kernel_rfl) (by kernel_rfl) (fun _ _ _ h => h) (Or.inl ⟨by rfl, fun w' hw' => ?_⟩) hHeld ?_
    · first | (go_simp; done) | (go_simp; rfl)
    try simp only [Act.put, qT, q0, qS]
    refine wpAnyH_take (i := 3) (oi := ⟨some 47, .load 57 (.tmp 46), 57, _, #[⟨2, .data⟩], none⟩) (v := .map (some mb)) rfl (by kernel_rfl) (by kernel_rfl) (by kernel_rfl) (fun _ _ _ h => h) (Or.inl ⟨by rfl, fun w' hw' => ?_⟩) hHeld ?_
    · have hcc : w'.cell? ⟨og, 35, none⟩ = some (.map (some mb)) := by { rw [cell_of_row _ _ 35 _ _ _ hw'.o]; exact HPC.out }; first | (go_simp; done) | (go_simp; rfl)
    try simp only [Act.put, qT, q0, qS]
    refine wpAnyH_take (i := 4) (oi := ⟨some 48, .load 63 (.tmp 7), 63, _, #[], none⟩) rfl (by kernel_rfl) (by kernel_rfl) (by kernel_rfl) (fun _ _ _ h => h) (yieldsIf_load_mid (by rfl) 63 (.tmp 7) rfl (w.heap.size + 1 + 1) (0) rfl (KL) _ (fun _ h => rangeAt_row h.s.k) Tryz.underlying63 rfl HKI2.out) hHeld ?_
    try simp only [Act.put, qT, q0, qS]
    refine wpAnyH_take (i := 5) (oi := ⟨some 49, .load 23 (.tmp 10), 23, _, #[], none⟩) rfl (by kernel_rfl) (by kernel_rfl) (by kernel_rfl) (fun _ _ _ h => h) (yieldsIf_load_mid (by rfl) 23 (.tmp 10) rfl (w5.heap.size) (0) rfl (DL) _ (fun _ h => rangeAt_row h.s.d) Tryz.underlying23 rfl HDI.out) hHeld ?_
    try simp only [Act.put, qT, q0, qS]
    obtain ⟨ob, hrun, hmT, hgT⟩ := mh_put HO.out.ok HMU.out hq D hf
    rw [show kV q = .agg KL.toArray by rw [HKL.out]; rfl, show dV D = .agg DL.toArray by rw [HDL.out]; rfl] at hrun
    refine wpAnyH_ready (rs := [6]) (by kernel_rfl) (by simp) ?_
    refine AllReadyH.cons (o := ⟨none, .mapUpdate 57 (.tmp 47) (.tmp 48) (.tmp 49), 0, _, #[⟨3, .data⟩, ⟨4, .data⟩, ⟨5, .data⟩, ⟨0, .phase⟩, ⟨1, .phase⟩, ⟨2, .phase⟩, ⟨3, .phase⟩, ⟨4, .phase⟩, ⟨5, .phase⟩], none⟩) rfl (fun K hK => ?_) AllReadyH.nil
    rw [if_pos (by rfl)]
    refine wp_mapUpd (.tmp 47) (.tmp 48) (.tmp 49) 57 rfl _ _ _ rfl rfl rfl hrun ?_
    have hsU := hHeld.s.fr.size
    have hogU := row_lt hHeld.o
    have hH7 : S7 S w w5.heap.size og KL DL PL ZL.toArray (setBlock U mb ob) := ⟨hHeld.s.step (Fr.grown (Fr.refl _ _) hgT (fun k e => .inl (by have e' : mb = k := (by simpa using e); exact e' ▸ HO.out.smb))) HTOP.out (by omega), (hgT.block og hogU (by simpa using HO.out.ne.symm)).trans hHeld.o⟩
    have HOT : Hid ((setBlock U mb ob).ownsRow B 63 35 (.slice (some ⟨g, 0, none⟩) (o.log.length + 1) cap2) (o.log.length + 1) (kC o.log ++ kL q)) := own_keep HOWU.out (fun k e hl => hgT.block k hl (fun e2 => by
      have e' : g = k := (by simpa [Value.ownBlock] using e)
      have e3 : k = mb := (by simpa using e2)
      rcases HGL.out with h | h
      · exact HO.out.ovne (by rw [h, e', e3])
      · have := HO.out.top mb HO.out.smb; omega))
    refine hK.out _ _ hH7 (fun _ => ?_)
    clear hK K
    try simp only [Act.put, qT, q0, qS]
    refine wpAnyH_done (by kernel_rfl) ?_ _
    have HGT : Hid (g < (setBlock U mb ob).heap.size) := Nat.lt_of_lt_of_le HGU.out hgT.size
    have HMT : Hid (MH (setBlock U mb ob) mb (o.log ++ [(q, D)])) := hmT
    have HH7 : Hid _ := hH7
    clear hrun hgT hmT hH7 hHeld HMU HOWU HGU HS7
    generalize setBlock U mb ob = T at *
    have HTD : Hid _ := rangeAt_row HH7.out.s.d
    have HTZ : Hid _ := HH7.out.s.z
    go_wp2_with (first
      | (refine wpList_load_mid rfl 23 _ rfl w5.heap.size 0 rfl DL _ HTD.out Tryz.underlying23 rfl HDI.out ?_)
      | (refine wpList_store_row rfl 23 _ _ rfl (w.heap.size + 1) DL.toArray rfl rfl 23 ZL.toArray HTZ.out (info32a _ HDS.out) (HZS.out.trans HDS.out.symm) HD1.out ?_))
    have hfrT : Fr S w (T.setRow (w.heap.size + 1) DL.toArray) := HH7.out.s.fr.setRow _ _ (.inr (by omega))
    have hsT : (T.setRow (w.heap.size + 1) DL.toArray).heap.size = T.heap.size := by simp
    refine bodyPost_ret (v := .agg DL.toArray) ?_ rfl ⟨by rw [HDL.out]; rfl, hfrT, _, po_more (cap2 := cap2) HO.out hq HDn.out hf hB hfrT ?_ ?_ (HGL.out.imp id (fun h => by omega)) (by rw [hsT]; exact HGT.out) ?_⟩
    · exact results_cell_row Tryz.results51 _ _ (w.heap.size + 1) 23 _ (0, 0) _ rfl (setRow_heap _ _ _ _ _ _ HTZ.out) Tryz.underlying23 rfl (info32a _ HDS.out)
    · exact (setRow_other _ _ _ _ (by omega)).trans (by rw [← HPL.out]; exact HH7.out.o)
    · refine own_keep HOT.out (fun k e hl => setRow_other _ _ _ _ ?_)
      have e' : g = k := (by simpa [Value.ownBlock] using e)
      rcases HGL.out with h | h
      · have := HO.out.top g (HO.out.sov g h).1; omega
      · omega
    · exact HMT.out.keep (setRow_other _ _ _ _ (by have := HO.out.top mb HO.out.smb; omega))
  · have hHB := hHA
    refine wp_buildSlice 56 63 1 _ rfl KL.toArray i0 (.agg zKq) Tryz.underlying56 HI0.out HIZ.out (by rw [HI2.out]; decide) (by rw [HI2.out]; decide) (by rw [HI2.out]; refine (congrArg (Instr.fill _ _) ?_).trans HFA.out; simp; rfl) ?_
    refine hK.out _ _ hHA (fun _ => ?_)
    clear hK K
    try simp only [Act.put, qT, q0, qS]
    have hHeld := hHA
    refine wpAnyH_ready (rs := [4]) (by kernel_rfl) (by simp) ?_
    refine AllReadyH.cons (o := ⟨some 38, .load 56 (.tmp 37), 56, _, #[⟨3, .data⟩], none⟩) rfl (fun K hK => ?_) AllReadyH.nil
    rw [if_pos (by rfl)]
    go_wp2_with fail
    refine hK.out _ _ hHA (fun _ => ?_)
    clear hK K
    try simp only [Act.put, qT, q0, qS]
    refine wpAnyH_ready (rs := [7]) (by kernel_rfl) (by simp) ?_
    refine AllReadyH.cons (o := { dst := some 41, op := .call { callee := Go.Callee.builtin Go.Builtin.append, args := #[.tmp 38, .tmp 40], argTypes := #[56, 56] }, type := 56, pos := _, after := #[⟨4, .data⟩, ⟨6, .data⟩], guard := none }) rfl (fun K hK => ?_) AllReadyH.nil
    rw [if_pos (by rfl)]
    refine wp_append_lies _ (.tmp 38) (.tmp 40) 56 rfl B 63 i0 (.agg zKq) 35 64 Tryz.underlying56 HI0.out HIZ.out HI2.out HI3.out rfl (by decide) (.slice p o.log.length cap) o.log.length (kC o.log) rfl HOWN.out ⟨Y.heap.size, 0, none⟩ 1 1 KL rfl HKN.out HNEW.out HK1'.out (by decide) (by unfold maxLen; omega) (by omega) (by simp; omega) (Y.heap.size + 1) (by simp) ?_
    intro g cap2 Z hown hgr hgl hgZ
    rw [← HOV.out] at hgr hgl
    have hHZ := hHA.step (Fr.grown (Fr.refl _ _) hgr (fun k e => .inl (HO.out.sov k e).1)) HTOP.out (by omega)
    have hoZ : Z.heap[og]? = some (.cells (pL o.ideal o.master dv ov mb).toArray 59 (0, 0)) := (hgr.block og (by simp; omega) (fun e => (HO.out.sov og e.symm).2 rfl)).trans ((heap_alloc_old _ _ (by omega)).trans HP6.out.row)
    have cZ : Z.cell? ⟨og, 34, none⟩ = some (.slice p o.log.length cap) := by rw [cell_of_row _ _ 34 _ _ _ hoZ, ← HOV.out]; exact pL_at _ _ _ _ _ HO.out.ml 1
    have fZ := frozen_of_row _ _ 34 _ _ hoZ
    have hHV := hHZ.step (Fr.setCell (Fr.refl _ Z) og 34 (.slice (some ⟨g, 0, none⟩) (o.log.length + 1) cap2) (.inl HO.out.sog)) HTOP.out (by omega)
    have HOZ : Hid _ := hoZ
    have HOWZ : Hid _ := hown
    have HGL : Hid _ := hgl
    have HGZ : Hid _ := hgZ
    have HGR : Hid _ := hgr
    clear hoZ hown hgl hgr
    refine hK.out _ _ hHZ (fun _ => ?_)
    clear hK K
    try simp only [Act.put, qT, q0, qS]
    have hHeld := hHZ
    refine wpAnyH_take (i := 8) (oi := ⟨some 42, .nilCheck (.tmp 34), 0, _, #[⟨0, .data⟩, ⟨0, .phase⟩, ⟨1, .phase⟩, ⟨2, .phase⟩, ⟨3, .phase⟩, ⟨4, .phase⟩, ⟨5, .phase⟩, ⟨6, .phase⟩, ⟨7, .phase⟩], none⟩) (v := .pointer (some ⟨og, 0, none⟩)) rfl (by kernel_rfl) (by kernel_rfl) (by kernel_rfl) (fun _ _ _ h => h) (Or.inl ⟨by rfl, fun w' hw' => ?_⟩) hHeld ?_
    · first | (go_simp; done) | (go_simp; rfl)
    try simp only [Act.put, qT, q0, qS]
    refine wpAnyH_take (i := 9) (oi := ⟨some 43, .fieldAddr 59 (.tmp 42) 3, 0, _, #[⟨8, .data⟩, ⟨0, .phase⟩, ⟨1, .phase⟩, ⟨2, .phase⟩, ⟨3, .phase⟩, ⟨4, .phase⟩, ⟨5, .phase⟩, ⟨6, .phase⟩, ⟨7, .phase⟩], none⟩) (v := .pointer (some ⟨og, 34, none⟩)) rfl (by kernel_rfl) (by kernel_rfl) (by kernel_rfl) (fun _ _ _ h => h) (Or.inl ⟨by rfl, fun w' hw' => ?_⟩) hHeld ?_
    · first | (go_simp; done) | (go_simp; rfl)
    try simp only [Act.put, qT, q0, qS]
    refine wpAnyH_ready (rs := [10]) (by kernel_rfl) (by simp) ?_
    refine AllReadyH.cons (o := ⟨none, .store 56 (.tmp 43) (.tmp 41), 0, _, #[⟨9, .data⟩, ⟨7, .data⟩, ⟨7, .chain⟩, ⟨0, .phase⟩, ⟨1, .phase⟩, ⟨2, .phase⟩, ⟨3, .phase⟩, ⟨4, .phase⟩, ⟨5, .phase⟩, ⟨6, .phase⟩, ⟨7, .phase⟩], none⟩) rfl (fun K hK => ?_) AllReadyH.nil
    rw [if_pos (by rfl)]
    go_wp2_with fail
    refine hK.out _ _ hHV (fun _ => ?_)
    clear hK K
    try simp only [Act.put, qT, q0, qS]
    refine wpAnyH_done (by kernel_rfl) ?_ _
    obtain ⟨PL, hPL⟩ : ∃ L, L = pL o.ideal o.master dv (.slice (some ⟨g, 0, none⟩) (o.log.length + 1) cap2) mb := ⟨_, rfl⟩
    have hgo : g ≠ og := HGL.out.elim (fun e => (HO.out.sov g e).2) (fun e => by omega)
    have hoV : (Z.setCell ⟨og, 34, none⟩ (.slice (some ⟨g, 0, none⟩) (o.log.length + 1) cap2)).heap[og]? = some (.cells PL.toArray 59 (0, 0)) := (heap_setCell_same _ og 34 _ _ _ HOZ.out).trans (by rw [pL_set34 _ _ _ _ _ HO.out.ml, hPL])
    have hownV : (Z.setCell ⟨og, 34, none⟩ (.slice (some ⟨g, 0, none⟩) (o.log.length + 1) cap2)).ownsRow B 63 35 (.slice (some ⟨g, 0, none⟩) (o.log.length + 1) cap2) (o.log.length + 1) (kC o.log ++ kL q) := by
      rw [← HKL.out]
      exact own_keep HOWZ.out (fun k e hl => heap_setCell_other _ _ _ _ (by have e' : g = k := (by simpa [Value.ownBlock] using e); show k ≠ og; exact e' ▸ hgo))
    have hmapV : MH (Z.setCell ⟨og, 34, none⟩ (.slice (some ⟨g, 0, none⟩) (o.log.length + 1) cap2)) mb o.log := HP6.out.map.keep ((heap_setCell_other _ _ _ _ (by show mb ≠ og; exact HO.out.ne)).trans ((HGR.out.block mb (by simp; have := HP6.out.map.lt; omega) (fun e => HO.out.ovne e.symm)).trans (heap_alloc_old _ _ HP6.out.map.lt)))
    have hgV : g < (Z.setCell ⟨og, 34, none⟩ (.slice (some ⟨g, 0, none⟩) (o.log.length + 1) cap2)).heap.size := by simpa [World.setCell] using hgZ
    have HS7 : Hid (S7 S w w5.heap.size og KL DL PL ZL.toArray (Z.setCell ⟨og, 34, none⟩ (.slice (some ⟨g, 0, none⟩) (o.log.length + 1) cap2)).drew) := ⟨hHV.drew, hoV⟩
    have HPL : Hid _ := hPL
    have HOWV : Hid _ := hownV
    have HMV : Hid (MH (Z.setCell ⟨og, 34, none⟩ (.slice (some ⟨g, 0, none⟩) (o.log.length + 1) cap2)) mb o.log) := hmapV
    have HGV : Hid _ := hgV
    have HGO : Hid _ := hgo
    have hPLl : PL.toArray[35]? = some (.map (some mb)) := by rw [hPL]; exact pL_at _ _ _ _ _ HO.out.ml 2
    have HPC : Hid _ := hPLl
    clear hPL hgo hoV hownV hmapV hgV hPLl hHV hHZ hHA hHeld cZ fZ hcA hcY HOZ HOWZ HNEW HOWN HGR
    go_wp2_with fail
    refine wp_region_held_drew (S := S7 S w w5.heap.size og KL DL PL ZL.toArray) (by kernel_rfl) HS7.out (fun hHeld => ?_)
    have HMU : Hid (MH (Z.setCell ⟨og, 34, none⟩ (.slice (some ⟨g, 0, none⟩) (o.log.length + 1) cap2)).drew mb o.log) := HMV.out.keep rfl
    have HOWU : Hid ((Z.setCell ⟨og, 34, none⟩ (.slice (some ⟨g, 0, none⟩) (o.log.length + 1) cap2)).drew.ownsRow B 63 35 (.slice (some ⟨g, 0, none⟩) (o.log.length + 1) cap2) (o.log.length + 1) (kC o.log ++ kL q)) := own_keep HOWV.out (fun _ _ _ => rfl)
    have HGU : Hid (g < (Z.setCell ⟨og, 34, none⟩ (.slice (some ⟨g, 0, none⟩) (o.log.length + 1) cap2)).drew.heap.size) := HGV.out
    clear HMV HOWV HGV
    generalize (Z.setCell ⟨og, 34, none⟩ (.slice (some ⟨g, 0, none⟩) (o.log.length + 1) cap2)).drew = U at *
    refine wpAnyH_take (i := 0) (oi := ⟨some 44, .move (.tmp 0), 31, _, #[], none⟩) (v := .pointer (some ⟨og, 0, none⟩)) rfl (by kernel_rfl) (by kernel_rfl) (by kernel_rfl) (fun _ _ _ h => h) (Or.inl ⟨by rfl, fun w' hw' => ?_⟩) hHeld ?_
    · first | (go_simp; done) | (go_simp; rfl)
    try simp only [Act.put, qT, q0, qS]
    refine wpAnyH_take (i := 1) (oi := ⟨some 45, .nilCheck (.tmp 44), 0, _, #[⟨0, .data⟩], none⟩) (v := .pointer (some ⟨og, 0, none⟩)) rfl (by kernel_rfl) (by kernel_rfl) (by kernel_rfl) (fun _ _ _ h => h) (Or.inl ⟨by rfl, fun w' hw' => ?_⟩) hHeld ?_
    · first | (go_simp; done) | (go_simp; rfl)
    try simp only [Act.put, qT, q0, qS]
    refine wpAnyH_take (i := 2) (oi := ⟨some 46, .fieldAddr 59 (.tmp 45) 4, 0, _, #[⟨1, .data⟩], none⟩) (v := .pointer (some ⟨og, 35, none⟩)) rfl (by kernel_rfl) (by kernel_rfl) (by kernel_rfl) (fun _ _ _ h => h) (Or.inl ⟨by rfl, fun w' hw' => ?_⟩) hHeld ?_
    · first | (go_simp; done) | (go_simp; rfl)
    try simp only [Act.put, qT, q0, qS]
    refine wpAnyH_take (i := 3) (oi := ⟨some 47, .load 57 (.tmp 46), 57, _, #[⟨2, .data⟩], none⟩) (v := .map (some mb)) rfl (by kernel_rfl) (by kernel_rfl) (by kernel_rfl) (fun _ _ _ h => h) (Or.inl ⟨by rfl, fun w' hw' => ?_⟩) hHeld ?_
    · have hcc : w'.cell? ⟨og, 35, none⟩ = some (.map (some mb)) := by { rw [cell_of_row _ _ 35 _ _ _ hw'.o]; exact HPC.out }; first | (go_simp; done) | (go_simp; rfl)
    try simp only [Act.put, qT, q0, qS]
    refine wpAnyH_take (i := 4) (oi := ⟨some 48, .load 63 (.tmp 7), 63, _, #[], none⟩) rfl (by kernel_rfl) (by kernel_rfl) (by kernel_rfl) (fun _ _ _ h => h) (yieldsIf_load_mid (by rfl) 63 (.tmp 7) rfl (w.heap.size + 1 + 1) (0) rfl (KL) _ (fun _ h => rangeAt_row h.s.k) Tryz.underlying63 rfl HKI2.out) hHeld ?_
    try simp only [Act.put, qT, q0, qS]
    refine wpAnyH_take (i := 5) (oi := ⟨some 49, .load 23 (.tmp 10), 23, _, #[], none⟩) rfl (by kernel_rfl) (by kernel_rfl) (by kernel_rfl) (fun _ _ _ h => h) (yieldsIf_load_mid (by rfl) 23 (.tmp 10) rfl (w5.heap.size) (0) rfl (DL) _ (fun _ h => rangeAt_row h.s.d) Tryz.underlying23 rfl HDI.out) hHeld ?_
    try simp only [Act.put, qT, q0, qS]
    obtain ⟨ob, hrun, hmT, hgT⟩ := mh_put HO.out.ok HMU.out hq D hf
    rw [show kV q = .agg KL.toArray by rw [HKL.out]; rfl, show dV D = .agg DL.toArray by rw [HDL.out]; rfl] at hrun
    refine wpAnyH_ready (rs := [6]) (by kernel_rfl) (by simp) ?_
    refine AllReadyH.cons (o := ⟨none, .mapUpdate 57 (.tmp 47) (.tmp 48) (.tmp 49), 0, _, #[⟨3, .data⟩, ⟨4, .data⟩, ⟨5, .data⟩, ⟨0, .phase⟩, ⟨1, .phase⟩, ⟨2, .phase⟩, ⟨3, .phase⟩, ⟨4, .phase⟩, ⟨5, .phase⟩], none⟩) rfl (fun K hK => ?_) AllReadyH.nil
    rw [if_pos (by rfl)]
    refine wp_mapUpd (.tmp 47) (.tmp 48) (.tmp 49) 57 rfl _ _ _ rfl rfl rfl hrun ?_
    have hsU := hHeld.s.fr.size
    have hogU := row_lt hHeld.o
    have hH7 : S7 S w w5.heap.size og KL DL PL ZL.toArray (setBlock U mb ob) := ⟨hHeld.s.step (Fr.grown (Fr.refl _ _) hgT (fun k e => .inl (by have e' : mb = k := (by simpa using e); exact e' ▸ HO.out.smb))) HTOP.out (by omega), (hgT.block og hogU (by simpa using HO.out.ne.symm)).trans hHeld.o⟩
    have HOT : Hid ((setBlock U mb ob).ownsRow B 63 35 (.slice (some ⟨g, 0, none⟩) (o.log.length + 1) cap2) (o.log.length + 1) (kC o.log ++ kL q)) := own_keep HOWU.out (fun k e hl => hgT.block k hl (fun e2 => by
      have e' : g = k := (by simpa [Value.ownBlock] using e)
      have e3 : k = mb := (by simpa using e2)
      rcases HGL.out with h | h
      · exact HO.out.ovne (by rw [h, e', e3])
      · have := HO.out.top mb HO.out.smb; omega))
    refine hK.out _ _ hH7 (fun _ => ?_)
    clear hK K
    try simp only [Act.put, qT, q0, qS]
    refine wpAnyH_done (by kernel_rfl) ?_ _
    have HGT : Hid (g < (setBlock U mb ob).heap.size) := Nat.lt_of_lt_of_le HGU.out hgT.size
    have HMT : Hid (MH (setBlock U mb ob) mb (o.log ++ [(q, D)])) := hmT
    have HH7 : Hid _ := hH7
    clear hrun hgT hmT hH7 hHeld HMU HOWU HGU HS7
    generalize setBlock U mb ob = T at *
    have HTD : Hid _ := rangeAt_row HH7.out.s.d
    have HTZ : Hid _ := HH7.out.s.z
    go_wp2_with (first
      | (refine wpList_load_mid rfl 23 _ rfl w5.heap.size 0 rfl DL _ HTD.out Tryz.underlying23 rfl HDI.out ?_)
      | (refine wpList_store_row rfl 23 _ _ rfl (w.heap.size + 1) DL.toArray rfl rfl 23 ZL.toArray HTZ.out (info32a _ HDS.out) (HZS.out.trans HDS.out.symm) HD1.out ?_))
    have hfrT : Fr S w (T.setRow (w.heap.size + 1) DL.toArray) := HH7.out.s.fr.setRow _ _ (.inr (by omega))
    have hsT : (T.setRow (w.heap.size + 1) DL.toArray).heap.size = T.heap.size := by simp
    refine bodyPost_ret (v := .agg DL.toArray) ?_ rfl ⟨by rw [HDL.out]; rfl, hfrT, _, po_more (cap2 := cap2) HO.out hq HDn.out hf hB hfrT ?_ ?_ (HGL.out.imp id (fun h => by omega)) (by rw [hsT]; exact HGT.out) ?_⟩
    · exact results_cell_row Tryz.results51 _ _ (w.heap.size + 1) 23 _ (0, 0) _ rfl (setRow_heap _ _ _ _ _ _ HTZ.out) Tryz.underlying23 rfl (info32a _ HDS.out)
    · exact (setRow_other _ _ _ _ (by omega)).trans (by rw [← HPL.out]; exact HH7.out.o)
    · refine own_keep HOT.out (fun k e hl => setRow_other _ _ _ _ ?_)
      have e' : g = k := (by simpa [Value.ownBlock] using e)
      rcases HGL.out with h | h
      · have := HO.out.top g (HO.out.sov g h).1; omega
      · omega
    · exact HMT.out.keep (setRow_other _ _ _ _ (by have := HO.out.top mb HO.out.smb; omega))

end Go.Proofs.YtbmmibmfjhehhaaGreat.R5
