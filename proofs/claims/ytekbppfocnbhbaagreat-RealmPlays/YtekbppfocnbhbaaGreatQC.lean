/- The program's oracle in memory; contracts of none, isDomain, numberBytes. -/
import Derived.Test.YtekbppfocnbhbaaGreatC9
import Derived.Maps.Keyed
import Derived.DeepKeys4
import Derived.MapViews
import Derived.Test.YtekbppfocnbhbaaGreatE9
import Derived.Maps.Own
import Derived.Test.YtekbppfocnbhbaaGreatJ9
import Derived.Test.YtekbppfocnbhbaaGreatPA
import Derived.WalkSpells
set_option linter.unusedVariables false
set_option linter.unusedSimpArgs false
namespace Go.Proofs.YtekbppfocnbhbaaGreat.R5
open scoped Classical
open Go.RowKit

def tx (l : List UInt8) : Value := .string ⟨l.toArray⟩
def kL (q : Qn) : List Value := qL q (tx q.data)
def kV (q : Qn) : Value := .agg (kL q).toArray
structure kOk (q : Qn) : Prop where
  key : q.key.length = 32
  kind : (Lit.int .i64 q.kind).wf = true
  dom : (Lit.int .i64 q.dom).wf = true
  data : q.data.length ≤ 1099511627776
theorem B8_inj {a b : UInt8} (h : B8 a = B8 b) : a = b := by
  unfold B8 at h
  simp only [Value.int.injEq, true_and] at h
  exact UInt8.toNat_inj.1 (by omega)
theorem mapB8_inj : ∀ {a b : List UInt8}, a.map B8 = b.map B8 → a = b
  | [], [], _ => rfl
  | [], _ :: _, h => by simp at h
  | _ :: _, [], h => by simp at h
  | x :: a, y :: b, h => by
    simp only [List.map_cons, List.cons.injEq] at h
    rw [B8_inj h.1, mapB8_inj h.2]
theorem kL_len (q : Qn) (h : q.key.length = 32) : (kL q).length = 35 := qL_len q _ h
theorem kL_inj {p q : Qn} (hp : p.key.length = 32) (hq : q.key.length = 32) (h : kL p = kL q) : p = q := by
  unfold kL qL at h
  rw [List.cons.injEq] at h
  obtain ⟨h1, h2⟩ := h
  have h3 := List.append_inj h2 (by simp [hp, hq])
  obtain ⟨h4, h5⟩ := h3
  have h6 := mapB8_inj h4
  simp only [tx, List.cons.injEq, Value.int.injEq, true_and, Value.string.injEq, ByteArray.mk.injEq, and_true] at h1 h5
  obtain ⟨h7, h8⟩ := h5
  have h9 : p.data = q.data := by simpa using h8
  obtain ⟨a, b, c, d⟩ := p
  obtain ⟨a', b', c', d'⟩ := q
  simp_all
theorem kV_inj {p q : Qn} (hp : p.key.length = 32) (hq : q.key.length = 32) (h : kV p = kV q) : p = q := by
  unfold kV at h
  exact kL_inj hp hq (by simpa using h)

theorem laidOut5 : laidOutB Tryz.prog = true := by kernel_rfl
theorem lawQ : Maps.Keyed Tryz.prog 120 := Maps.Keyed.of_law (deep_law_laid laidOut5 (m := 3) (by omega) (of_decide_eq_true (by kernel_rfl)) (by kernel_rfl) (by kernel_rfl))
theorem mapM_some {α β : Type} (f : α → Option β) (g : α → β) : ∀ l : List α, (∀ x ∈ l, f x = some (g x)) → l.mapM f = some (l.map g)
  | [], _ => rfl
  | x :: l, h => by
    rw [List.mapM_cons, h x (by simp), mapM_some f g l (fun y hy => h y (by simp [hy]))]
    rfl
theorem B8_wf (x : UInt8) : (Lit.int .u8 (x.toNat : Int)).wf = true := by
  have := x.toNat_lt
  simp [Lit.wf, IntKind.min, IntKind.max, IntKind.signed, IntKind.bits]
  omega
theorem size5 : ∃ m, Tryz.prog.types.size = m + 2 := ⟨Tryz.prog.types.size - 2, by have : 2 ≤ Tryz.prog.types.size := of_decide_eq_true (by kernel_rfl); omega⟩
theorem cells_q : Tryz.prog.cellsOf 120 = 35 := by kernel_rfl
theorem cells_k : Tryz.prog.cellsOf 118 = 1 := by kernel_rfl
theorem cells_m : Tryz.prog.cellsOf 105 = 1 := by kernel_rfl
theorem cells_s : Tryz.prog.cellsOf 9 = 1 := by kernel_rfl
theorem cells_d : Tryz.prog.cellsOf 33 = 32 := by kernel_rfl
theorem cells_b : Tryz.prog.cellsOf 5 = 1 := by kernel_rfl
theorem take_one {l : List Value} {i : Nat} {v : Value} (h : l[i]? = some v) : (l.drop (i * 1)).take 1 = [v] := by
  rw [Nat.mul_one]
  obtain ⟨hi, e⟩ := List.getElem?_eq_some_iff.1 h
  rw [List.drop_eq_getElem_cons hi, e]
  rfl
theorem keyLits_dig (d : Nat) (l : List UInt8) (h : l.length = 32) : ∃ ls, Tryz.prog.keyLits (d + 2) 33 (l.map B8) = some ls := by
  unfold Program.keyLits
  rw [Tryz.underlying33]
  simp only
  rw [if_pos (by rw [cells_d]; simp [h])]
  rw [mapM_some _ (fun i => [Lit.int .u8 ((l.getD i 0).toNat : Int)])]
  · exact ⟨_, rfl⟩
  · intro i hi
    have hi' : i < l.length := by rw [h]; simpa using hi
    have hg : (l.map B8)[i]? = some (B8 (l.getD i 0)) := by
      rw [List.getElem?_map, List.getElem?_eq_getElem hi', List.getD, List.getElem?_eq_getElem hi']
      rfl
    rw [cells_b, take_one hg]
    unfold Program.keyLits
    rw [Tryz.underlying5]
    simp [B8, B8_wf]
theorem keyLits_int5 (d : Nat) (t : TypeId) (n : Int) (hu : Tryz.prog.underlying t = some (.int .i64)) (h : (Lit.int .i64 n).wf = true) : Tryz.prog.keyLits (d + 1) t [.int .i64 n] = some [.int .i64 n] := by
  unfold Program.keyLits
  rw [hu]
  simp [h]
theorem keyLits_str5 (d : Nat) (l : List UInt8) (h : l.length ≤ 1099511627776) : ∃ ls, Tryz.prog.keyLits (d + 1) 9 [tx l] = some ls := by
  unfold Program.keyLits
  rw [Tryz.underlying9]
  unfold tx
  simp only
  rw [if_pos (by unfold maxLen; simp [ByteArray.size]; omega)]
  exact ⟨_, rfl⟩
theorem key_ok (q : Qn) (h : kOk q) : ∃ kl, keyOf Tryz.prog 120 (kV q) = some kl := by
  obtain ⟨m, hm⟩ := size5
  obtain ⟨ld, hd⟩ := keyLits_dig m q.key h.key
  obtain ⟨ls, hs⟩ := keyLits_str5 (m + 1) q.data h.data
  have hk := keyLits_int5 (m + 1) 118 q.kind Tryz.underlying118 h.kind
  have ho := keyLits_int5 (m + 1) 105 q.dom Tryz.underlying105 h.dom
  have e1 : ((kL q).drop 0).take 1 = [.int .i64 q.kind] := by unfold kL qL; simp
  have e2 : ((kL q).drop 1).take 32 = q.key.map B8 := by
    unfold kL qL
    rw [List.drop_succ_cons, List.drop_zero, List.take_append_of_le_length (by simp [h.key]), List.take_of_length_le (by simp [h.key])]
  have e3 : ((kL q).drop 33).take 1 = [.int .i64 q.dom] := by
    unfold kL qL
    rw [List.drop_succ_cons, List.drop_append_of_le_length (by simp [h.key]), List.drop_eq_nil_of_le (by simp [h.key])]
    simp
  have e4 : ((kL q).drop 34).take 1 = [tx q.data] := by
    unfold kL qL
    rw [List.drop_succ_cons, List.drop_append, List.drop_eq_nil_of_le (by simp [h.key])]
    simp [h.key]
  have hlits : Tryz.prog.keyLits (m + 2 + 1) 120 (kL q) = some ([[Lit.int .i64 q.kind], ld, [.int .i64 q.dom], ls].flatten) := by
    unfold Program.keyLits
    rw [Tryz.underlying120]
    simp only
    rw [if_pos ⟨by rw [cells_q, kL_len q h.key], by kernel_rfl⟩]
    simp only [List.mapM_cons, List.mapM_nil, cells_k, cells_m, cells_s, cells_d, e1, e2, e3, e4, hd, hs, hk, ho]
    rfl
  unfold keyOf
  rw [Tryz.underlying120]
  simp only
  rw [if_pos, hm]
  · rw [show (kV q).cells.toList = kL q by unfold kV; simp [Value.cells], hlits]
    exact ⟨_, rfl⟩
  · rw [Bool.and_eq_true]
    refine ⟨by kernel_rfl, ?_⟩
    unfold kV Value.formed
    rw [Tryz.underlying120, cells_q]
    simp [kL_len q h.key]

end Go.Proofs.YtekbppfocnbhbaaGreat.R5

namespace Go.Proofs.YtekbppfocnbhbaaGreat.R5
open scoped Classical
open Go.RowKit
open Go.ChangeMaps (setBlock heap_setBlock_same heap_setBlock_other)

def dV (a : List UInt8) : Value := .agg (a.map B8).toArray
structure lOk (l : List (Qn × List UInt8)) : Prop where
  all : ∀ x ∈ l, kOk x.1 ∧ x.2.length = 32
  once : (l.map (·.1)).Nodup
def MH (w : World) (mb : Nat) (l : List (Qn × List UInt8)) : Prop :=
  ∃ es clock, w.heap[mb]? = some (.map es clock) ∧ (es.toList.map fun e => (e.key, e.val)).Perm (l.map fun x => (kV x.1, dV x.2))
theorem MH.lt {w : World} {mb : Nat} {l : List (Qn × List UInt8)} (h : MH w mb l) : mb < w.heap.size := by
  obtain ⟨es, c, h1, _⟩ := h; exact row_lt h1
theorem MH.keep {w w' : World} {mb : Nat} {l : List (Qn × List UInt8)} (h : MH w mb l) (e : w'.heap[mb]? = w.heap[mb]?) : MH w' mb l := by
  obtain ⟨es, c, h1, h2⟩ := h; exact ⟨es, c, e.trans h1, h2⟩
theorem MH.mem {es : Array MapEntry} {l : List (Qn × List UInt8)} (h : (es.toList.map fun e => (e.key, e.val)).Perm (l.map fun x => (kV x.1, dV x.2))) {e : MapEntry} (he : e ∈ es.toList) : ∃ x ∈ l, e.key = kV x.1 ∧ e.val = dV x.2 := by
  have := h.subset (List.mem_map.2 ⟨e, he, rfl⟩)
  obtain ⟨x, hx, hxe⟩ := List.mem_map.1 this
  simp only [Prod.mk.injEq] at hxe
  exact ⟨x, hx, hxe.1.symm, hxe.2.symm⟩
theorem MH.mem' {es : Array MapEntry} {l : List (Qn × List UInt8)} (h : (es.toList.map fun e => (e.key, e.val)).Perm (l.map fun x => (kV x.1, dV x.2))) {x : Qn × List UInt8} (hx : x ∈ l) : ∃ e ∈ es.toList, e.key = kV x.1 ∧ e.val = dV x.2 := by
  have := h.symm.subset (List.mem_map.2 ⟨x, hx, rfl⟩)
  obtain ⟨e, he, hxe⟩ := List.mem_map.1 this
  simp only [Prod.mk.injEq] at hxe
  exact ⟨e, he, hxe.1, hxe.2⟩
theorem nodup_snd : ∀ {l : List (Qn × List UInt8)}, (l.map (·.1)).Nodup → ∀ {q : Qn} {A B : List UInt8}, (q, A) ∈ l → (q, B) ∈ l → A = B
  | [], _, _, _, _, h, _ => by simp at h
  | x :: l, hn, q, A, B, h1, h2 => by
    simp only [List.map_cons, List.nodup_cons] at hn
    rcases List.mem_cons.1 h1 with e1 | e1 <;> rcases List.mem_cons.1 h2 with e2 | e2
    · rw [← e1] at e2; simpa using e2.symm
    · exact absurd (List.mem_map.2 ⟨_, e2, rfl⟩) (by rw [← e1] at hn; exact hn.1)
    · exact absurd (List.mem_map.2 ⟨_, e1, rfl⟩) (by rw [← e2] at hn; exact hn.1)
    · exact nodup_snd hn.2 e1 e2
theorem find_q {w : World} {mb : Nat} {l : List (Qn × List UInt8)} (hl : lOk l) {es : Array MapEntry} (h2 : (es.toList.map fun e => (e.key, e.val)).Perm (l.map fun x => (kV x.1, dV x.2))) {q : Qn} (hq : kOk q) :
    (fndA q l = none ∧ (Instr.findKey 120 (kV q) es.toList).run Tryz.prog w = .ok none w) ∨
    (∃ A j, fndA q l = some A ∧ (Instr.findKey 120 (kV q) es.toList).run Tryz.prog w = .ok (some (j, dV A)) w) := by
  obtain ⟨kl, hk⟩ := key_ok q hq
  rcases lawQ.find w hk es.toList (fun e he => by obtain ⟨x, hx, e1, _⟩ := MH.mem h2 he; rw [e1]; exact key_ok x.1 (hl.all x hx).1) with ⟨hr, hn⟩ | ⟨j, e, hr, hj, he⟩
  · refine .inl ⟨?_, hr⟩
    cases hf : fndA q l with
    | none => rfl
    | some A =>
      obtain ⟨e, he, e1, _⟩ := MH.mem' h2 (fndA_some hf)
      exact absurd e1 (hn e he)
  · obtain ⟨x, hx, e1, e2⟩ := MH.mem h2 (List.mem_of_getElem? hj)
    have hxq : x.1 = q := kV_inj (hl.all x hx).1.key hq.key (e1.symm.trans he)
    refine .inr ⟨x.2, j, ?_, by rw [← e2]; exact hr⟩
    cases hf : fndA q l with
    | none => exact absurd hxq (fndA_none hf x hx)
    | some A =>
      have := fndA_some hf
      rw [nodup_snd hl.once this (B := x.2) (by rw [← hxq]; exact hx)]
def lookV (l : List (Qn × List UInt8)) (q : Qn) : Value := match fndA q l with | some A => dV A | none => dV (List.replicate 32 0)
theorem mh_look {w : World} {mb : Nat} {l : List (Qn × List UInt8)} (hl : lOk l) (h : MH w mb l) {q : Qn} (hq : kOk q) (c : Bool) (hz : (zeroValue 33).run Tryz.prog w = .ok (dV (List.replicate 32 0)) w) :
    (Instr.lookup 114 (.map (some mb)) (kV q) c).run Tryz.prog w = .ok (if c then .tuple #[lookV l q, .bool (fndA q l).isSome] else lookV l q) w := by
  obtain ⟨es, clock, h1, h2⟩ := h
  obtain ⟨kl, hk⟩ := key_ok q hq
  rcases find_q (w := w) (mb := mb) hl h2 hq with ⟨hf, hr⟩ | ⟨A, j, hf, hr⟩
  · simp [Instr.lookup, run_underlying Tryz.underlying114, MapKept.run_getObj_map h1, lawQ.check w _ hk, hr, hz, hf, lookV, Result.andThen]
  · simp [Instr.lookup, run_underlying Tryz.underlying114, MapKept.run_getObj_map h1, lawQ.check w _ hk, hr, hf, lookV, Result.andThen]
theorem mh_put {w : World} {mb : Nat} {l : List (Qn × List UInt8)} (hl : lOk l) (h : MH w mb l) {q : Qn} (hq : kOk q) (A : List UInt8) (hf : fndA q l = none) :
    ∃ o, (Instr.mapUpdate 114 (.map (some mb)) (kV q) (dV A)).run Tryz.prog w = .ok () (setBlock w mb o) ∧ MH (setBlock w mb o) mb (l ++ [(q, A)]) ∧ w.grownBy (setBlock w mb o) (some mb) := by
  obtain ⟨es, clock, h1, h2⟩ := h
  obtain ⟨kl, hk⟩ := key_ok q hq
  rcases find_q (w := w) (mb := mb) hl h2 hq with ⟨_, hr⟩ | ⟨A', j, hf', hr⟩
  · refine ⟨.map (es.push ⟨kV q, dV A, clock⟩) (clock + 1), ?_, ⟨_, _, heap_setBlock_same h1 _, ?_⟩, ⟨rfl, rfl, rfl, by simp [setBlock], fun i _ hi => heap_setBlock_other h1 _ (fun e => hi (by rw [e]))⟩⟩
    · simp [Instr.mapUpdate, run_underlying Tryz.underlying114, MapKept.run_getObj_map h1, lawQ.check w false hk, hr, MapKept.run_setObj_map _ h1, Result.andThen, setBlock]
    · rw [Array.toList_push, List.map_append, List.map_append]
      exact h2.append_right _
  · rw [hf] at hf'; cases hf'
theorem lOk.snoc {l : List (Qn × List UInt8)} (h : lOk l) {q : Qn} (hq : kOk q) {A : List UInt8} (hA : A.length = 32) (hf : fndA q l = none) : lOk (l ++ [(q, A)]) := by
  refine ⟨fun x hx => ?_, ?_⟩
  · rcases List.mem_append.1 hx with hx | hx
    · exact h.all x hx
    · have : x = (q, A) := by simpa using hx
      subst this
      exact ⟨hq, hA⟩
  · rw [List.map_append, List.nodup_append]
    refine ⟨h.once, by simp, fun a ha b hb e => ?_⟩
    have hbq : b = q := by simpa using hb
    obtain ⟨x, hx, hxa⟩ := List.mem_map.1 ha
    exact fndA_none hf x hx (by rw [hxa, e, hbq])
end Go.Proofs.YtekbppfocnbhbaaGreat.R5

namespace Go.Proofs.YtekbppfocnbhbaaGreat.R5
open scoped Classical
open Go.RowKit

structure Pra where
  ideal : Bool
  master : List UInt8
  draws : List (List UInt8)
  log : List (Qn × List UInt8)
def pL (ideal : Bool) (m : List UInt8) (dv ov : Value) (mb : Nat) : List Value := .bool ideal :: (m.map B8 ++ [dv, ov, .map (some mb)])
theorem pL_0 (i : Bool) (m : List UInt8) (dv ov : Value) (mb : Nat) : (pL i m dv ov mb).toArray[0]? = some (.bool i) := by unfold pL; simp
theorem pL_at (i : Bool) (m : List UInt8) (dv ov : Value) (mb : Nat) (h : m.length = 32) (j : Nat) : (pL i m dv ov mb).toArray[33 + j]? = [dv, ov, .map (some mb)][j]? := by
  unfold pL
  rw [List.getElem?_toArray, show 33 + j = (32 + j) + 1 by omega, List.getElem?_cons_succ, List.getElem?_append_right (by simp [h])]
  simp [h]
theorem pL_set34 (i : Bool) (m : List UInt8) (dv ov : Value) (mb : Nat) (h : m.length = 32) (ov' : Value) : (pL i m dv ov mb).toArray.setIfInBounds 34 ov' = (pL i m dv ov' mb).toArray := by
  unfold pL
  rw [List.setIfInBounds_toArray, show (34 : Nat) = 33 + 1 from rfl, List.set_cons_succ, List.set_append_right _ _ (by simp [h])]
  simp [h]
def kC (l : List (Qn × List UInt8)) : List Value := l.flatMap fun x => kL x.1
structure PO (B og mb : Nat) (S : Nat → Prop) (w : World) (o : Pra) (dv ov : Value) : Prop where
  ml : o.master.length = 32
  row : w.heap[og]? = some (.cells (pL o.ideal o.master dv ov mb).toArray 116 (0, 0))
  draws : HDs w dv o.draws
  dro : ∀ k, dv.ownBlock = some k → ¬ S k ∧ k < w.heap.size
  ok : lOk o.log
  order : w.ownsRow B 120 35 ov o.log.length (kC o.log)
  map : MH w mb o.log
  sog : S og
  smb : S mb
  sov : ∀ k, ov.ownBlock = some k → S k ∧ k ≠ og
  low : ∀ k, S k → B ≤ k
  top : ∀ k, S k → k < w.heap.size
section
variable {B og mb : Nat} {S : Nat → Prop} {w : World} {o : Pra} {dv ov : Value}
theorem PO.ne (h : PO B og mb S w o dv ov) : mb ≠ og := fun e => by
  obtain ⟨es, c, h1, _⟩ := h.map
  rw [e, h.row] at h1
  cases h1
theorem PO.ovne (h : PO B og mb S w o dv ov) : ov.ownBlock ≠ some mb := fun e => by
  obtain ⟨es, c, h1, _⟩ := h.map
  rcases h.order.2 with ⟨e1, _⟩ | ⟨g, cap, cur, e1, _, e3, _⟩
  · rw [e1] at e; cases e
  · rw [e1] at e
    have e' : g = mb := by simpa [Value.ownBlock] using e
    rw [e', h1] at e3
    cases e3
theorem PO.keep {w' : World} (h : PO B og mb S w o dv ov) (hs : w.heap.size ≤ w'.heap.size) (hk : ∀ k, k < w.heap.size → (S k ∨ dv.ownBlock = some k) → w'.heap[k]? = w.heap[k]?) : PO B og mb S w' o dv ov :=
  ⟨h.ml, (hk og (row_lt h.row) (.inl h.sog)).trans h.row, hds_keep h.draws (fun k e hl => hk k hl (.inr e)), fun k e => ⟨(h.dro k e).1, Nat.lt_of_lt_of_le (h.dro k e).2 hs⟩, h.ok,
    own_keep h.order (fun k e hl => hk k hl (.inl (h.sov k e).1)), h.map.keep (hk mb h.map.lt (.inl h.smb)), h.sog, h.smb, h.sov, h.low, fun k hk => Nat.lt_of_lt_of_le (h.top k hk) hs⟩
theorem PO.below {w' : World} (h : PO B og mb S w o dv ov) (hb : Below w.heap.size w w') : PO B og mb S w' o dv ov := h.keep hb.size (fun k hk _ => hb.block k hk)
theorem PO.more {S' : Nat → Prop} (h : PO B og mb S w o dv ov) (hs : ∀ k, S k → S' k) (hl : ∀ k, S' k → S k ∨ dv.ownBlock ≠ some k) (hl2 : ∀ k, S' k → B ≤ k ∧ k < w.heap.size) : PO B og mb S' w o dv ov :=
  ⟨h.ml, h.row, h.draws, fun k e => ⟨fun hs' => (hl k hs').elim (h.dro k e).1 (fun hg => hg e), (h.dro k e).2⟩, h.ok, h.order, h.map, hs _ h.sog, hs _ h.smb, fun k e => ⟨hs _ (h.sov k e).1, (h.sov k e).2⟩, fun k hk => (hl2 k hk).1, fun k hk => (hl2 k hk).2⟩
theorem PO.grow {w' : World} (h : PO B og mb S w o dv ov) (hb : Below w.heap.size w w') (hB : B ≤ w.heap.size) : PO B og mb (fun k => S k ∨ (w.heap.size ≤ k ∧ k < w'.heap.size)) w' o dv ov :=
  (h.below hb).more (fun k h => .inl h) (fun k hk => hk.imp id (fun hg e => by have := (h.dro k e).2; omega)) (fun k hk => hk.elim (fun hk => ⟨h.low k hk, Nat.lt_of_lt_of_le (h.top k hk) hb.size⟩) (fun hk => ⟨by omega, hk.2⟩))
theorem PO.cells (h : PO B og mb S w o dv ov) : w.cell? ⟨og, 0, none⟩ = some (.bool o.ideal) ∧ w.cell? ⟨og, 33, none⟩ = some dv ∧ w.cell? ⟨og, 34, none⟩ = some ov ∧ w.cell? ⟨og, 35, none⟩ = some (.map (some mb)) ∧ w.frozen? ⟨og, 34, none⟩ = false := by
  refine ⟨?_, ?_, ?_, ?_, frozen_of_row _ _ 34 _ _ h.row⟩
  · rw [cell_of_row _ _ 0 _ _ _ h.row]; exact pL_0 _ _ _ _ _
  · rw [cell_of_row _ _ 33 _ _ _ h.row]; exact pL_at _ _ _ _ _ h.ml 0
  · rw [cell_of_row _ _ 34 _ _ _ h.row]; exact pL_at _ _ _ _ _ h.ml 1
  · rw [cell_of_row _ _ 35 _ _ _ h.row]; exact pL_at _ _ _ _ _ h.ml 2
theorem PO.master (h : PO B og mb S w o dv ov) : w.rangeAt og 1 (o.master.map B8) := fun j v hv => by
  rw [cell_of_row _ _ (1 + j) _ _ _ h.row]
  have hj : j < o.master.length := by have := (List.getElem?_eq_some_iff.1 hv).1; simpa using this
  unfold pL
  rw [List.getElem?_toArray, show 1 + j = j + 1 by omega, List.getElem?_cons_succ, List.getElem?_append_left (by simpa using hj)]
  exact hv
theorem PO.ordV (h : PO B og mb S w o dv ov) : ∃ p cap, ov = .slice p o.log.length cap := by
  rcases h.order.2 with ⟨e1, e2⟩ | ⟨g, cap, cur, e1, _⟩
  · exact ⟨none, 0, by rw [e1, e2]⟩
  · exact ⟨_, cap, e1⟩
end

set_option maxHeartbeats 1000000 in
set_option maxRecDepth 100000 in
theorem none_no (og mb : Nat) (w : World) (hc : w.cell? ⟨og, 35, none⟩ = some (.map (some mb))) : Calls Tryz.prog 56 #[.pointer (some ⟨og, 0, none⟩)] w fun e w' => e = .returned (.bool false) ∧ w' = w := by
  have qT : ∀ (w : World) (r : Option Nat), (binOp .eql 114 (.map r) (.map none)).run Tryz.prog w = .ok (.bool r.isNone) w := fun w r => run_eql_map_nil w _ _ _ r Tryz.underlying114
  go_enter Tryz.func56, Tryz.ntmps56
  go_wp2
  go_ret
  exact ⟨rfl, rfl⟩
end Go.Proofs.YtekbppfocnbhbaaGreat.R5
