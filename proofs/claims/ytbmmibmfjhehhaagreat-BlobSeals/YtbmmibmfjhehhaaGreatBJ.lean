/- blob: comparisons of digests and granules in any region; what came in: a mode. -/
import Derived.Test.YtbmmibmfjhehhaaGreatBI
import Derived.ChangeOld
import Derived.WalkKit
import Derived.ProofKit
import Derived.OpenShut
import Derived.Deep.Slices
set_option linter.unusedVariables false
set_option linter.unusedSimpArgs false
namespace Go.Proofs.YtbmmibmfjhehhaaGreat.BC
open Go.RowKit

theorem eqg (t : TypeId) (x y : Operand) (xs ys : Array Value) (W : World) (h : Tryz.prog.eqGuardType Tryz.prog.depth t = false) : (eqGuard .eql t x y (.agg xs) (.agg ys)).run Tryz.prog W = .ok () W := by
  unfold eqGuard
  simp [h]
theorem run_eql {a : Act} {o : Oper} {t u : TypeId} {x y : Operand} {xs ys : Array Value} {w : World} {b : Bool} (ho : o.op = .binOp .eql t x y u) (hx : a.eval x = .agg xs) (hy : a.eval y = .agg ys) (hg : Tryz.prog.eqGuardType Tryz.prog.depth t = false) (hq : (Op.equalIn 10000 t (.agg xs) (.agg ys)).run Tryz.prog w = .ok b w) : (execOp a.eval o).run Tryz.prog w = .ok (.value (.bool b)) w := by
  have h1 := eqg t x y xs ys w hg
  have h2 : (binOp .eql t (.agg xs) (.agg ys)).run Tryz.prog w = .ok (.bool b) w := by
    have e : Op.equal t (.agg xs) (.agg ys) = Op.equalIn 10000 t (.agg xs) (.agg ys) := rfl
    show ((do pure (.bool (← Op.equal t (.agg xs) (.agg ys))) : Sem Value)).run Tryz.prog w = _
    rw [e]
    simp [hq]
  unfold execOp
  simp only [ho, hx, hy, Sem.run_bind, h1, h2, Result.andThen_ok]
  rfl
theorem gG : Tryz.prog.eqGuardType Tryz.prog.depth 29 = false := by kernel_rfl
set_option maxRecDepth 100000 in
theorem own : ownKnob Tryz.prog.godebug = none := by kernel_rfl
set_option maxRecDepth 100000 in
theorem laidOut : laidOutB Tryz.prog = true := by kernel_rfl
set_option maxRecDepth 100000 in
theorem b_u8 {z : Int} (h : (Lit.int .u8 z).wf = true) : 0 ≤ z ∧ z < 256 := by
  simp [Lit.wf, IntKind.min, IntKind.max, IntKind.signed, IntKind.bits] at h; omega
structure Mo where
  i : Bool
  m : List UInt8
  D : List (List UInt8)
def moL (c : Mo) (dv : Value) : List Value := .bool c.i :: (c.m.map B8 ++ [dv])
def Mo.ok (c : Mo) (dv : Value) (w : World) : Prop := c.m.length = 32 ∧ R5.HDs w dv c.D ∧ ∀ p n cap, dv = .slice p n cap → p = none → cap = 0
section
open Go.ChangeShapes Go.WideShapes Go.ChangeAt
set_option maxRecDepth 100000 in
theorem okWide_str {W : World} {r : Reach} {b0 : Nat} {k : TypeId} {fs : Array Field} {v : Value} (hu : Tryz.prog.underlying k = some (.struct fs)) (h : Value.okWide Tryz.prog W r b0 k v) : ∃ xs : Array Value, v = .agg xs := by
  simp only [Value.okWide, hu] at h
  obtain ⟨cs, h1, _⟩ := h
  exact ⟨cs, h1⟩
variable {H : Type} {enc : TypeId × Value → H} {w : World} {base : Nat} {held : Bool}
set_option maxRecDepth 100000 in
theorem okWide_agg {W : World} {r : Reach} {b0 : Nat} {k e : TypeId} {n : Nat} {v : Value} (hu : Tryz.prog.underlying k = some (.array n e)) (hk : Tryz.prog.cellsOf k = n) (h : Value.okWide Tryz.prog W r b0 k v) : ∃ xs : Array Value, v = .agg xs ∧ xs.size = n := by
  simp only [Value.okWide, hu] at h
  obtain ⟨cs, h1, h2, _⟩ := h
  exact ⟨cs, h1, by rw [h2, hk]⟩

set_option maxRecDepth 100000 in
theorem mapM_ints {P : Program} {e : TypeId} {q : IntKind} {sp : Nat → Bool} (he : P.underlying e = some (.int q)) {m : Nat} {cs : List Value} : ∀ (L : List Nat) (ys : List (DataW H × List MemPlace)),
    L.mapM (fun i => DataW.trod enc P w base sp held m e ((cs.drop (i * 1)).take 1)) = some ys → ∀ i ∈ L, ∃ z, (cs.drop (i * 1)).take 1 = [.int q z] ∧ (Lit.int q z).wf = true
  | [], ys, h => by simp
  | i :: L, ys, h => by
    rw [List.mapM_cons] at h
    simp only [bind, Option.bind_eq_some_iff, pure, Option.some.injEq] at h
    obtain ⟨y, hy, ys', hys, rfl⟩ := h
    obtain ⟨a, ea, _, wa⟩ := DataW.trod_int he hy
    intro j hj
    rcases List.mem_cons.1 hj with rfl | hj
    · exact ⟨a, ea, wa⟩
    · exact mapM_ints he L ys' hys j hj
set_option maxRecDepth 100000 in
theorem open_arr {k e : TypeId} {q : IntKind} {n : Nat} {cs : List Value} {fuel : Nat} {x : DataW H × List MemPlace} {sp : Nat → Bool} (hu : Tryz.prog.underlying k = some (.array n e)) (he : Tryz.prog.underlying e = some (.int q)) (hk : Tryz.prog.cellsOf k = n) (h1 : Tryz.prog.cellsOf e = 1)
    (h : DataW.trod enc Tryz.prog w base sp held fuel k cs = some x) : cs.length = n ∧ ∀ v ∈ cs, ∃ z, v = .int q z ∧ (Lit.int q z).wf = true := by
  cases fuel with
  | zero => simp [DataW.trod] at h
  | succ m =>
    rw [DataW.trod_step] at h
    unfold DataW.trodStep at h
    simp only [hu] at h
    by_cases hl : cs.length = Tryz.prog.cellsOf k
    · rw [if_pos hl] at h
      simp only [Option.map_eq_some_iff, h1] at h
      obtain ⟨ys, hy, e1⟩ := h
      have := mapM_ints he _ ys hy
      refine ⟨by rw [hl, hk], fun v hv => ?_⟩
      obtain ⟨i, hi, rfl⟩ := List.getElem_of_mem hv
      obtain ⟨z, e, hw⟩ := this i (by rw [hl, hk] at hi; simpa using hi)
      rw [Nat.mul_one, List.drop_eq_getElem_cons hi, List.take_succ_cons, List.take_zero] at e
      exact ⟨z, (List.cons.inj e).1, hw⟩
    · rw [if_neg hl] at h; cases h
set_option maxRecDepth 100000 in
theorem cells_u8 (cs : List Value) (h : ∀ v ∈ cs, ∃ z, v = .int .u8 z ∧ (Lit.int .u8 z).wf = true) : ∃ bs : List UInt8, cs = bs.map B8 := by
  induction cs with
  | nil => exact ⟨[], rfl⟩
  | cons v l ih =>
    obtain ⟨bs, hb⟩ := ih (fun u hu => h u (List.mem_cons_of_mem _ hu))
    obtain ⟨z, rfl, hw⟩ := h v (by simp)
    have hb8 := b_u8 hw
    refine ⟨UInt8.ofNat z.toNat :: bs, ?_⟩
    rw [List.map_cons, ← hb]
    congr 1
    unfold B8
    congr 1
    simp; omega
set_option maxRecDepth 100000 in
theorem open_octets {W : World} {r : Reach} {b0 base : Nat} {sp : Nat → Bool} {held : Bool} {k : TypeId} {n : Nat} {v : Value} {d : DataW H} {ps : List MemPlace} (hu : Tryz.prog.underlying k = some (.array n 5)) (hk : Tryz.prog.cellsOf k = n)
    (ho : Value.okWide Tryz.prog W r b0 k v) (hd : DataW.Trod enc Tryz.prog W base sp held k v d ps) : ∃ bs : List UInt8, v = .agg (bs.map B8).toArray ∧ bs.length = n := by
  obtain ⟨xs, rfl, hn⟩ := okWide_agg hu hk ho
  obtain ⟨fuel, hf⟩ := hd
  obtain ⟨l0, p0⟩ := open_arr hu Tryz.underlying5 hk (by kernel_rfl) hf
  obtain ⟨bs, hb⟩ := cells_u8 _ p0
  rw [hb] at l0
  refine ⟨bs, ?_, by simpa using l0⟩
  congr 1
  rw [← Array.toList_inj]
  exact hb
set_option maxRecDepth 100000 in
theorem choose_nat {α : Type} {n : Nat} {p : Nat → α → Prop} (h : ∀ i, i < n → ∃ x, p i x) : ∃ l : List α, l.length = n ∧ ∀ i x, l[i]? = some x → p i x := by
  induction n with
  | zero => exact ⟨[], rfl, fun i x hx => by simp at hx⟩
  | succ n ih =>
    obtain ⟨l, h1, h2⟩ := ih (fun i hi => h i (by omega))
    obtain ⟨x, hx⟩ := h n (by omega)
    refine ⟨l ++ [x], by simp [h1], fun i y hy => ?_⟩
    rcases Nat.lt_or_ge i l.length with hi | hi
    · rw [List.getElem?_append_left hi] at hy; exact h2 i y hy
    · rw [List.getElem?_append_right hi] at hy
      have hi0 : i - l.length = 0 := by have := (List.getElem?_eq_some_iff.1 hy).1; simp at this; omega
      rw [hi0] at hy
      have e : x = y := by simpa using hy
      have e2 : i = n := by omega
      rw [← e, e2]; exact hx
set_option maxRecDepth 100000 in
theorem cells_range {W : World} {base : Nat} {g o : Nat} {n : Nat} {cs : List Value} (h : W.cells? base ⟨g, o, none⟩ n = some cs) : W.rangeAt g o cs := fun j v hv => by
  obtain ⟨_, h2, h3⟩ := World.cells?_some h
  have hj : j < n := by rw [← h2]; exact (List.getElem?_eq_some_iff.1 hv).1
  have := h3 j hj
  have hadd : (⟨g, o, none⟩ : Addr).add j = ⟨g, o + j, none⟩ := by unfold Addr.add; split <;> simp_all
  rw [hadd] at this
  rw [this, hv]
set_option maxRecDepth 100000 in
theorem spot_none {W : World} {base : Nat} {g o : Nat} {sp : Option Nat} {k n : Nat} {cs : List Value} (hn : 0 < n) (h : W.cells? base ((⟨g, o, sp⟩ : Addr).add (0 * k)) n = some cs) : sp = none := by
  obtain ⟨_, h2, h3⟩ := World.cells?_some h
  have h0 := h3 0 hn
  have hl : 0 < cs.length := by omega
  rw [List.getElem?_eq_getElem hl] at h0
  have hs := World.cell?_spot h0
  cases sp with
  | none => rfl
  | some t =>
    exfalso
    simp [Addr.add] at hs
set_option maxRecDepth 100000 in
theorem open_digs {a : Option Addr} {len cap : Nat} {fuel : Nat} {x : DataW H × List MemPlace} (h : DataW.trod enc Tryz.prog w base (fun _ => true) held fuel 24 [.slice a len cap] = some x) : ∃ ds, R5.HDs w (.slice a len cap) ds ∧ ds.length ≤ 9223372036854775807 ∧ (a = none → cap = 0) := by
  have hcell : Tryz.prog.cellsOf 23 = 32 := by kernel_rfl
  rcases Go.Deep.open_slice Tryz.underlying24 h with ⟨hcs, _⟩ | ⟨ad, len', cap', m, n, D, Pl, hcs, hb, hl, hm, hmm, _, hr⟩
  · simp only [List.cons.injEq, and_true, Value.slice.injEq] at hcs
    obtain ⟨rfl, rfl, rfl⟩ := hcs
    exact ⟨[], ⟨fun d hd => by simp at hd, none, 0, rfl, fun i hi => by simp at hi⟩, by decide, fun _ => rfl⟩
  · simp only [List.cons.injEq, and_true, Value.slice.injEq] at hcs
    obtain ⟨rfl, rfl, rfl⟩ := hcs
    simp only [if_true] at hmm
    rw [hcell] at hr
    obtain ⟨g, o, sp⟩ := ad
    have hsp : 0 < len → sp = none := fun h0 => by
      obtain ⟨cs', h1, _⟩ := hr 0 (by omega)
      exact spot_none (by omega) h1
    obtain ⟨ds, h1, h2⟩ := choose_nat (n := len) (p := fun i (d : List UInt8) => w.rangeAt g (o + i * 32) (d.map B8) ∧ d.length = 32) (fun i hi => by
      obtain ⟨cs', h1, h2⟩ := hr i (by omega)
      obtain ⟨l1, p1⟩ := open_arr Tryz.underlying23 Tryz.underlying5 hcell (by kernel_rfl) h2
      obtain ⟨bs, e1⟩ := cells_u8 _ p1
      have e2 : bs.length = 32 := by rw [e1, List.length_map] at l1; exact l1
      have hs := hsp (by omega)
      subst hs
      have hadd : (⟨g, o, none⟩ : Addr).add (i * 32) = ⟨g, o + i * 32, none⟩ := by unfold Addr.add; split <;> simp_all
      rw [hadd] at h1
      exact ⟨bs, by rw [← e1]; exact cells_range h1, e2⟩)
    refine ⟨ds, ⟨fun d hd => ?_, some ⟨g, o, sp⟩, cap, by rw [h1], fun i hi => ⟨g, o, by rw [hsp (by omega)], ?_⟩⟩, by unfold maxLen at hm; omega, fun h => by cases h⟩
    · obtain ⟨i, hi⟩ := List.getElem?_of_mem hd
      exact (h2 i d hi).2
    · rw [List.getD, List.getElem?_eq_getElem hi]
      exact (h2 i _ (List.getElem?_eq_getElem hi)).1
set_option maxRecDepth 100000 in
theorem one_of {l : List Value} {k : Nat} (h : k < l.length) : ∃ v, (l.drop k).take 1 = [v] := by
  rw [List.drop_eq_getElem_cons h]
  exact ⟨_, rfl⟩
set_option maxRecDepth 100000 in
theorem slice_of {k e : TypeId} {v : Value} {fuel : Nat} {x : DataW H × List MemPlace} (hu : Tryz.prog.underlying k = some (.slice e)) (h : DataW.trod enc Tryz.prog w base (fun _ => true) held fuel k [v] = some x) : ∃ a n c, v = .slice a n c := by
  rcases Go.Deep.open_slice hu h with ⟨hcs, _⟩ | ⟨ad, len', cap', m, n, D, Pl, hcs, _⟩
  · simp only [List.cons.injEq, and_true] at hcs; exact ⟨_, _, _, hcs⟩
  · simp only [List.cons.injEq, and_true] at hcs; exact ⟨_, _, _, hcs⟩
set_option maxRecDepth 100000 in
theorem mo_split {l : List Value} (h : l.length = 34) : l = (l.drop 0).take 1 ++ ((l.drop 1).take 32 ++ (l.drop 33).take 1) := by
  apply List.ext_getElem?
  intro j
  simp only [List.getElem?_append, List.length_take, List.length_drop, List.getElem?_take, List.getElem?_drop, h]
  repeat' split
  all_goals first | (congr 1; omega) | (rw [List.getElem?_eq_none (by omega)]) | omega
set_option maxRecDepth 100000 in
theorem open_mode {cs : List Value} {fuel : Nat} {x : DataW H × List MemPlace} (h : DataW.trod enc Tryz.prog w base (fun _ => true) held fuel 26 cs = some x) : ∃ c dv, cs = moL c dv ∧ c.ok dv w := by
  cases fuel with
  | zero => simp [DataW.trod] at h
  | succ m =>
    rw [DataW.trod_step] at h
    unfold DataW.trodStep at h
    simp only [Tryz.underlying26] at h
    have hcell : Tryz.prog.cellsOf 26 = 34 := by kernel_rfl
    have c0 : Tryz.prog.cellsOf 4 = 1 := by kernel_rfl
    have c1 : Tryz.prog.cellsOf 23 = 32 := by kernel_rfl
    have c2 : Tryz.prog.cellsOf 24 = 1 := by kernel_rfl
    by_cases hl : cs.length = Tryz.prog.cellsOf 26
    · rw [if_pos hl] at h
      simp only [Option.map_eq_some_iff, List.mapM_cons, List.mapM_nil, bind, Option.bind_eq_some_iff, pure, Option.some.injEq, c0, c1, c2] at h
      obtain ⟨ys, ⟨y0, h0, z0, ⟨y1, h1, z1, ⟨y2, h2, _⟩, _⟩, _⟩, _⟩ := h
      rw [hcell] at hl
      obtain ⟨b, e0⟩ : ∃ b, (cs.drop 0).take 1 = [.bool b] := by obtain ⟨b, e0, _⟩ := DataW.trod_bool Tryz.underlying4 h0; exact ⟨b, e0⟩
      obtain ⟨l1, p1⟩ := open_arr Tryz.underlying23 Tryz.underlying5 c1 (by kernel_rfl) h1
      obtain ⟨ms, e1⟩ := cells_u8 _ p1
      have hm : ms.length = 32 := by rw [e1, List.length_map] at l1; exact l1
      obtain ⟨dv, e2⟩ := one_of (l := cs) (k := 33) (by omega)
      rw [e2] at h2
      obtain ⟨a2, n2, k2, rfl⟩ := slice_of Tryz.underlying24 h2
      obtain ⟨D, hD, _, hD0⟩ := open_digs h2
      have hs := mo_split hl
      rw [e0, e1, e2] at hs
      refine ⟨⟨b, ms, D⟩, .slice a2 n2 k2, ?_, hm, hD, ?_⟩
      · rw [hs]; unfold moL; simp
      · intro p n cap e hp
        simp only [Value.slice.injEq] at e
        obtain ⟨rfl, rfl, rfl⟩ := e
        exact hD0 hp
    · rw [if_neg hl] at h; cases h
end
end Go.Proofs.YtbmmibmfjhehhaaGreat.BC
