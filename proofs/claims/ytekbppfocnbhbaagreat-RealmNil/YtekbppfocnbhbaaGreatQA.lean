/- Questions as keys of the program's map; the map in memory. -/
import Derived.Test.YtekbppfocnbhbaaGreatA9
import Derived.Maps.Keyed
import Derived.DeepKeys4
import Derived.MapViews
set_option linter.unusedVariables false
set_option linter.unusedSimpArgs false
namespace Go.Proofs.YtekbppfocnbhbaaGreat.R5
open scoped Classical
open Go.RowKit

/-- A text as a value. -/
def tx (l : List UInt8) : Value := .string ⟨l.toArray⟩
/-- A question as a key. -/
def kL (q : Qn) : List Value := qL q (tx q.data)
def kV (q : Qn) : Value := .agg (kL q).toArray
/-- A question that can be a key. -/
structure kOk (q : Qn) : Prop where
  key : q.key.length = 32
  kind : (Lit.int .i64 q.kind).wf = true
  dom : (Lit.int .i64 q.dom).wf = true
  data : q.data.length ≤ 1099511627776
theorem B8_inj {a b : UInt8} (h : B8 a = B8 b) : a = b := by
  unfold B8 at h
  simp only [Value.int.injEq, true_and] at h
  exact UInt8.toNat_inj.1 (by omega)
theorem mapB8_inj : ∀ {a b : List UInt8}, a.map B8 = b.map B8 → a = b
  | [], [], _ => rfl
  | [], _ :: _, h => by simp at h
  | _ :: _, [], h => by simp at h
  | x :: a, y :: b, h => by
    simp only [List.map_cons, List.cons.injEq] at h
    rw [B8_inj h.1, mapB8_inj h.2]
theorem kL_len (q : Qn) (h : q.key.length = 32) : (kL q).length = 35 := qL_len q _ h
theorem kL_inj {p q : Qn} (hp : p.key.length = 32) (hq : q.key.length = 32) (h : kL p = kL q) : p = q := by
  unfold kL qL at h
  rw [List.cons.injEq] at h
  obtain ⟨h1, h2⟩ := h
  have h3 := List.append_inj h2 (by simp [hp, hq])
  obtain ⟨h4, h5⟩ := h3
  have h6 := mapB8_inj h4
  simp only [tx, List.cons.injEq, Value.int.injEq, true_and, Value.string.injEq, ByteArray.mk.injEq, and_true] at h1 h5
  obtain ⟨h7, h8⟩ := h5
  have h9 : p.data = q.data := by simpa using h8
  obtain ⟨a, b, c, d⟩ := p
  obtain ⟨a', b', c', d'⟩ := q
  simp_all
theorem kV_inj {p q : Qn} (hp : p.key.length = 32) (hq : q.key.length = 32) (h : kV p = kV q) : p = q := by
  unfold kV at h
  exact kL_inj hp hq (by simpa using h)

theorem laidOut5 : laidOutB Tryz.prog = true := by kernel_rfl
theorem lawQ : Maps.Keyed Tryz.prog 120 := Maps.Keyed.of_law (deep_law_laid laidOut5 (m := 3) (by omega) (of_decide_eq_true (by kernel_rfl)) (by kernel_rfl) (by kernel_rfl))
theorem mapM_some {α β : Type} (f : α → Option β) (g : α → β) : ∀ l : List α, (∀ x ∈ l, f x = some (g x)) → l.mapM f = some (l.map g)
  | [], _ => rfl
  | x :: l, h => by
    rw [List.mapM_cons, h x (by simp), mapM_some f g l (fun y hy => h y (by simp [hy]))]
    rfl
theorem B8_wf (x : UInt8) : (Lit.int .u8 (x.toNat : Int)).wf = true := by
  have := x.toNat_lt
  simp [Lit.wf, IntKind.min, IntKind.max, IntKind.signed, IntKind.bits]
  omega
theorem size5 : ∃ m, Tryz.prog.types.size = m + 2 := ⟨Tryz.prog.types.size - 2, by have : 2 ≤ Tryz.prog.types.size := of_decide_eq_true (by kernel_rfl); omega⟩
theorem cells_q : Tryz.prog.cellsOf 120 = 35 := by kernel_rfl
theorem cells_k : Tryz.prog.cellsOf 118 = 1 := by kernel_rfl
theorem cells_m : Tryz.prog.cellsOf 105 = 1 := by kernel_rfl
theorem cells_s : Tryz.prog.cellsOf 9 = 1 := by kernel_rfl
theorem cells_d : Tryz.prog.cellsOf 33 = 32 := by kernel_rfl
theorem cells_b : Tryz.prog.cellsOf 5 = 1 := by kernel_rfl
theorem take_one {l : List Value} {i : Nat} {v : Value} (h : l[i]? = some v) : (l.drop (i * 1)).take 1 = [v] := by
  rw [Nat.mul_one]
  obtain ⟨hi, e⟩ := List.getElem?_eq_some_iff.1 h
  rw [List.drop_eq_getElem_cons hi, e]
  rfl
theorem keyLits_dig (d : Nat) (l : List UInt8) (h : l.length = 32) : ∃ ls, Tryz.prog.keyLits (d + 2) 33 (l.map B8) = some ls := by
  unfold Program.keyLits
  rw [Tryz.underlying33]
  simp only
  rw [if_pos (by rw [cells_d]; simp [h])]
  rw [mapM_some _ (fun i => [Lit.int .u8 ((l.getD i 0).toNat : Int)])]
  · exact ⟨_, rfl⟩
  · intro i hi
    have hi' : i < l.length := by rw [h]; simpa using hi
    have hg : (l.map B8)[i]? = some (B8 (l.getD i 0)) := by
      rw [List.getElem?_map, List.getElem?_eq_getElem hi', List.getD, List.getElem?_eq_getElem hi']
      rfl
    rw [cells_b, take_one hg]
    unfold Program.keyLits
    rw [Tryz.underlying5]
    simp [B8, B8_wf]
theorem keyLits_int5 (d : Nat) (t : TypeId) (n : Int) (hu : Tryz.prog.underlying t = some (.int .i64)) (h : (Lit.int .i64 n).wf = true) : Tryz.prog.keyLits (d + 1) t [.int .i64 n] = some [.int .i64 n] := by
  unfold Program.keyLits
  rw [hu]
  simp [h]
theorem keyLits_str5 (d : Nat) (l : List UInt8) (h : l.length ≤ 1099511627776) : ∃ ls, Tryz.prog.keyLits (d + 1) 9 [tx l] = some ls := by
  unfold Program.keyLits
  rw [Tryz.underlying9]
  unfold tx
  simp only
  rw [if_pos (by unfold maxLen; simp [ByteArray.size]; omega)]
  exact ⟨_, rfl⟩
theorem key_ok (q : Qn) (h : kOk q) : ∃ kl, keyOf Tryz.prog 120 (kV q) = some kl := by
  obtain ⟨m, hm⟩ := size5
  obtain ⟨ld, hd⟩ := keyLits_dig m q.key h.key
  obtain ⟨ls, hs⟩ := keyLits_str5 (m + 1) q.data h.data
  have hk := keyLits_int5 (m + 1) 118 q.kind Tryz.underlying118 h.kind
  have ho := keyLits_int5 (m + 1) 105 q.dom Tryz.underlying105 h.dom
  have e1 : ((kL q).drop 0).take 1 = [.int .i64 q.kind] := by unfold kL qL; simp
  have e2 : ((kL q).drop 1).take 32 = q.key.map B8 := by
    unfold kL qL
    rw [List.drop_succ_cons, List.drop_zero, List.take_append_of_le_length (by simp [h.key]), List.take_of_length_le (by simp [h.key])]
  have e3 : ((kL q).drop 33).take 1 = [.int .i64 q.dom] := by
    unfold kL qL
    rw [List.drop_succ_cons, List.drop_append_of_le_length (by simp [h.key]), List.drop_eq_nil_of_le (by simp [h.key])]
    simp
  have e4 : ((kL q).drop 34).take 1 = [tx q.data] := by
    unfold kL qL
    rw [List.drop_succ_cons, List.drop_append, List.drop_eq_nil_of_le (by simp [h.key])]
    simp [h.key]
  have hlits : Tryz.prog.keyLits (m + 2 + 1) 120 (kL q) = some ([[Lit.int .i64 q.kind], ld, [.int .i64 q.dom], ls].flatten) := by
    unfold Program.keyLits
    rw [Tryz.underlying120]
    simp only
    rw [if_pos ⟨by rw [cells_q, kL_len q h.key], by kernel_rfl⟩]
    simp only [List.mapM_cons, List.mapM_nil, cells_k, cells_m, cells_s, cells_d, e1, e2, e3, e4, hd, hs, hk, ho]
    rfl
  unfold keyOf
  rw [Tryz.underlying120]
  simp only
  rw [if_pos, hm]
  · rw [show (kV q).cells.toList = kL q by unfold kV; simp [Value.cells], hlits]
    exact ⟨_, rfl⟩
  · rw [Bool.and_eq_true]
    refine ⟨by kernel_rfl, ?_⟩
    unfold kV Value.formed
    rw [Tryz.underlying120, cells_q]
    simp [kL_len q h.key]

end Go.Proofs.YtekbppfocnbhbaaGreat.R5
