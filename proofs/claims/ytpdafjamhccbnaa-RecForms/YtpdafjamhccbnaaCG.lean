/- rec: what came in. -/
import Derived.Test.YtpdafjamhccbnaaCF
import Derived.ChangeOld
import Derived.WalkKit
import Derived.ProofKit
import Derived.OpenShut
import Derived.Deep.Slices
set_option linter.unusedVariables false
set_option linter.unusedSimpArgs false
namespace Go.Proofs.Ytpdafjamhccbnaa.VC
open Go.RowKit

theorem own : ownKnob Try.prog.godebug = none := by kernel_rfl
theorem laidOut : laidOutB Try.prog = true := by kernel_rfl
theorem b_u64 {z : Int} (h : (Lit.int .u64 z).wf = true) : u64 z := by
  unfold u64; simp [Lit.wf, IntKind.min, IntKind.max, IntKind.signed, IntKind.bits] at h; omega
theorem b_i64 {z : Int} (h : (Lit.int .i64 z).wf = true) : -9223372036854775808 ≤ z ∧ z ≤ 9223372036854775807 := by
  simp [Lit.wf, IntKind.min, IntKind.max, IntKind.signed, IntKind.bits] at h; omega
theorem b_u8 {z : Int} (h : (Lit.int .u8 z).wf = true) : 0 ≤ z ∧ z < 256 := by
  simp [Lit.wf, IntKind.min, IntKind.max, IntKind.signed, IntKind.bits] at h; omega
theorem eqg (t : TypeId) (x y : Operand) (xs ys : Array Value) (W : World) (h : Try.prog.eqGuardType Try.prog.depth t = false) : (eqGuard .eql t x y (.agg xs) (.agg ys)).run Try.prog W = .ok () W := by
  unfold eqGuard
  simp [h]
theorem run_eql {a : Act} {o : Oper} {t u : TypeId} {x y : Operand} {xs ys : Array Value} {w : World} {b : Bool} (ho : o.op = .binOp .eql t x y u) (hx : a.eval x = .agg xs) (hy : a.eval y = .agg ys) (hg : Try.prog.eqGuardType Try.prog.depth t = false) (hq : (Op.equalIn 10000 t (.agg xs) (.agg ys)).run Try.prog w = .ok b w) : (execOp a.eval o).run Try.prog w = .ok (.value (.bool b)) w := by
  have h1 := eqg t x y xs ys w hg
  have h2 : (binOp .eql t (.agg xs) (.agg ys)).run Try.prog w = .ok (.bool b) w := by
    have e : Op.equal t (.agg xs) (.agg ys) = Op.equalIn 10000 t (.agg xs) (.agg ys) := rfl
    show ((do pure (.bool (← Op.equal t (.agg xs) (.agg ys))) : Sem Value)).run Try.prog w = _
    rw [e]
    simp [hq]
  unfold execOp
  simp only [ho, hx, hy, Sem.run_bind, h1, h2, Result.andThen_ok]
  rfl
theorem eqgn (t : TypeId) (x y : Operand) (xs ys : Array Value) (W : World) (h : Try.prog.eqGuardType Try.prog.depth t = false) : (eqGuard .neq t x y (.agg xs) (.agg ys)).run Try.prog W = .ok () W := by
  unfold eqGuard
  simp [h]
theorem run_neq {a : Act} {o : Oper} {t u : TypeId} {x y : Operand} {xs ys : Array Value} {w : World} {b : Bool} (ho : o.op = .binOp .neq t x y u) (hx : a.eval x = .agg xs) (hy : a.eval y = .agg ys) (hg : Try.prog.eqGuardType Try.prog.depth t = false) (hq : (Op.equalIn 10000 t (.agg xs) (.agg ys)).run Try.prog w = .ok b w) : (execOp a.eval o).run Try.prog w = .ok (.value (.bool (!b))) w := by
  have h1 := eqgn t x y xs ys w hg
  have h2 : (binOp .neq t (.agg xs) (.agg ys)).run Try.prog w = .ok (.bool (!b)) w := by
    have e : Op.equal t (.agg xs) (.agg ys) = Op.equalIn 10000 t (.agg xs) (.agg ys) := rfl
    show ((do pure (.bool (!(← Op.equal t (.agg xs) (.agg ys)))) : Sem Value)).run Try.prog w = _
    rw [e]
    simp [hq]
  unfold execOp
  simp only [ho, hx, hy, Sem.run_bind, h1, h2, Result.andThen_ok]
  rfl
theorem gR : Try.prog.eqGuardType Try.prog.depth 28 = false := by kernel_rfl
structure cok (rs : List Int) (pc : Int) : Prop where
  len : rs.length = 8
  r : ∀ x ∈ rs, u64 x
  p : u64 pc
structure rok (r : Rc) : Prop where
  c : cok r.rs r.pc
  w : (Lit.int .i64 r.wt).wf = true
structure nok (ns : List Int) : Prop where
  len : ns.length = 4
  r : ∀ x ∈ ns, u64 x
structure ook (o : Ot) : Prop where
  n : nok o.ns
  a : u64 o.ad
  re : (Lit.int .i64 o.re).wf = true
  ran : (Lit.int .i64 o.ran).wf = true
section
open Go.ChangeShapes Go.WideShapes Go.ChangeAt
set_option maxRecDepth 100000 in
theorem okWide_str {W : World} {r : Reach} {b0 : Nat} {k : TypeId} {fs : Array Field} {v : Value} (hu : Try.prog.underlying k = some (.struct fs)) (h : Value.okWide Try.prog W r b0 k v) : ∃ xs : Array Value, v = .agg xs := by
  simp only [Value.okWide, hu] at h
  obtain ⟨cs, h1, _⟩ := h
  exact ⟨cs, h1⟩
variable {H : Type} {enc : TypeId × Value → H} {w : World} {base : Nat} {held : Bool}
theorem okWide_agg {W : World} {r : Reach} {b0 : Nat} {k e : TypeId} {n : Nat} {v : Value} (hu : Try.prog.underlying k = some (.array n e)) (hk : Try.prog.cellsOf k = n) (h : Value.okWide Try.prog W r b0 k v) : ∃ xs : Array Value, v = .agg xs ∧ xs.size = n := by
  simp only [Value.okWide, hu] at h
  obtain ⟨cs, h1, h2, _⟩ := h
  exact ⟨cs, h1, by rw [h2, hk]⟩

theorem mapM_ints {P : Program} {e : TypeId} {q : IntKind} {sp : Nat → Bool} (he : P.underlying e = some (.int q)) {m : Nat} {cs : List Value} : ∀ (L : List Nat) (ys : List (DataW H × List MemPlace)),
    L.mapM (fun i => DataW.trod enc P w base sp held m e ((cs.drop (i * 1)).take 1)) = some ys → ∀ i ∈ L, ∃ z, (cs.drop (i * 1)).take 1 = [.int q z] ∧ (Lit.int q z).wf = true
  | [], ys, h => by simp
  | i :: L, ys, h => by
    rw [List.mapM_cons] at h
    simp only [bind, Option.bind_eq_some_iff, pure, Option.some.injEq] at h
    obtain ⟨y, hy, ys', hys, rfl⟩ := h
    obtain ⟨a, ea, _, wa⟩ := DataW.trod_int he hy
    intro j hj
    rcases List.mem_cons.1 hj with rfl | hj
    · exact ⟨a, ea, wa⟩
    · exact mapM_ints he L ys' hys j hj
theorem open_arr {k e : TypeId} {q : IntKind} {n : Nat} {cs : List Value} {fuel : Nat} {x : DataW H × List MemPlace} {sp : Nat → Bool} (hu : Try.prog.underlying k = some (.array n e)) (he : Try.prog.underlying e = some (.int q)) (hk : Try.prog.cellsOf k = n) (h1 : Try.prog.cellsOf e = 1)
    (h : DataW.trod enc Try.prog w base sp held fuel k cs = some x) : cs.length = n ∧ ∀ v ∈ cs, ∃ z, v = .int q z ∧ (Lit.int q z).wf = true := by
  cases fuel with
  | zero => simp [DataW.trod] at h
  | succ m =>
    rw [DataW.trod_step] at h
    unfold DataW.trodStep at h
    simp only [hu] at h
    by_cases hl : cs.length = Try.prog.cellsOf k
    · rw [if_pos hl] at h
      simp only [Option.map_eq_some_iff, h1] at h
      obtain ⟨ys, hy, e1⟩ := h
      have := mapM_ints he _ ys hy
      refine ⟨by rw [hl, hk], fun v hv => ?_⟩
      obtain ⟨i, hi, rfl⟩ := List.getElem_of_mem hv
      obtain ⟨z, e, hw⟩ := this i (by rw [hl, hk] at hi; simpa using hi)
      rw [Nat.mul_one, List.drop_eq_getElem_cons hi, List.take_succ_cons, List.take_zero] at e
      exact ⟨z, (List.cons.inj e).1, hw⟩
    · rw [if_neg hl] at h; cases h
theorem cells_u (cs : List Value) (h : ∀ v ∈ cs, ∃ z, v = .int .u64 z ∧ (Lit.int .u64 z).wf = true) : ∃ bs : List Int, cs = bs.map U ∧ ∀ x ∈ bs, u64 x := by
  induction cs with
  | nil => exact ⟨[], rfl, fun x hx => by simp at hx⟩
  | cons v l ih =>
    obtain ⟨bs, hb, hx⟩ := ih (fun u hu => h u (List.mem_cons_of_mem _ hu))
    obtain ⟨z, rfl, hw⟩ := h v (by simp)
    refine ⟨z :: bs, by rw [List.map_cons, ← hb]; rfl, fun x hy => ?_⟩
    rcases List.mem_cons.1 hy with rfl | hy
    · exact b_u64 hw
    · exact hx x hy
theorem split_at {l : List Value} (k n : Nat) (h : l.length = k + n) : l = (l.drop 0).take k ++ (l.drop k).take n := by
  rw [List.drop_zero, List.take_of_length_le (l := l.drop k) (by simp [h]), List.take_append_drop]
theorem cells_u8 (cs : List Value) (h : ∀ v ∈ cs, ∃ z, v = .int .u8 z ∧ (Lit.int .u8 z).wf = true) : ∃ bs : List UInt8, cs = bs.map B8 := by
  induction cs with
  | nil => exact ⟨[], rfl⟩
  | cons v l ih =>
    obtain ⟨bs, hb⟩ := ih (fun u hu => h u (List.mem_cons_of_mem _ hu))
    obtain ⟨z, rfl, hw⟩ := h v (by simp)
    have hb8 := b_u8 hw
    refine ⟨UInt8.ofNat z.toNat :: bs, ?_⟩
    rw [List.map_cons, ← hb]
    congr 1
    unfold B8
    congr 1
    simp; omega
theorem open_octets {W : World} {r : Reach} {b0 base : Nat} {sp : Nat → Bool} {held : Bool} {k : TypeId} {n : Nat} {v : Value} {d : DataW H} {ps : List MemPlace} (hu : Try.prog.underlying k = some (.array n 5)) (hk : Try.prog.cellsOf k = n)
    (ho : Value.okWide Try.prog W r b0 k v) (hd : DataW.Trod enc Try.prog W base sp held k v d ps) : ∃ bs : List UInt8, v = .agg (bs.map B8).toArray ∧ bs.length = n := by
  obtain ⟨xs, rfl, hn⟩ := okWide_agg hu hk ho
  obtain ⟨fuel, hf⟩ := hd
  obtain ⟨l0, p0⟩ := open_arr hu Try.underlying5 hk (by kernel_rfl) hf
  obtain ⟨bs, hb⟩ := cells_u8 _ p0
  rw [hb] at l0
  refine ⟨bs, ?_, by simpa using l0⟩
  congr 1
  rw [← Array.toList_inj]
  exact hb
theorem open_cp {cs : List Value} {fuel : Nat} {x : DataW H × List MemPlace} {sp : Nat → Bool} (h : DataW.trod enc Try.prog w base sp held fuel 25 cs = some x) : ∃ rs pc, cs = cL rs pc ∧ cok rs pc := by
  cases fuel with
  | zero => simp [DataW.trod] at h
  | succ m =>
    rw [DataW.trod_step] at h
    unfold DataW.trodStep at h
    simp only [Try.underlying25] at h
    have hcell : Try.prog.cellsOf 25 = 9 := by kernel_rfl
    have c0 : Try.prog.cellsOf 23 = 8 := by kernel_rfl
    have c1 : Try.prog.cellsOf 22 = 1 := by kernel_rfl
    by_cases hl : cs.length = Try.prog.cellsOf 25
    · rw [if_pos hl] at h
      simp only [Option.map_eq_some_iff, List.mapM_cons, List.mapM_nil, bind, Option.bind_eq_some_iff, pure, Option.some.injEq, c0, c1] at h
      obtain ⟨ys, ⟨y0, h0, z0, ⟨y1, h1, _⟩, _⟩, _⟩ := h
      obtain ⟨l0, p0⟩ := open_arr Try.underlying23 Try.underlying22 c0 c1 h0
      obtain ⟨bs, hb, hx⟩ := cells_u _ p0
      obtain ⟨k, e1, _, w1⟩ := DataW.trod_int Try.underlying22 h1
      rw [hcell] at hl
      have hs := split_at 8 1 hl
      rw [hb] at hs l0
      rw [e1] at hs
      exact ⟨bs, k, hs, by simpa using l0, hx, b_u64 w1⟩
    · rw [if_neg hl] at h; cases h
theorem open_rec {cs : List Value} {fuel : Nat} {x : DataW H × List MemPlace} (h : DataW.trod enc Try.prog w base (fun _ => true) held fuel 28 cs = some x) : ∃ r, cs = rL r ∧ rok r := by
  cases fuel with
  | zero => simp [DataW.trod] at h
  | succ m =>
    rw [DataW.trod_step] at h
    unfold DataW.trodStep at h
    simp only [Try.underlying28] at h
    have hcell : Try.prog.cellsOf 28 = 13 := by kernel_rfl
    have c0 : Try.prog.cellsOf 3 = 1 := by kernel_rfl
    have c1 : Try.prog.cellsOf 22 = 1 := by kernel_rfl
    have c2 : Try.prog.cellsOf 25 = 9 := by kernel_rfl
    have c3 : Try.prog.cellsOf 4 = 1 := by kernel_rfl
    have c4 : Try.prog.cellsOf 26 = 1 := by kernel_rfl
    by_cases hl : cs.length = Try.prog.cellsOf 28
    · rw [if_pos hl] at h
      simp only [Option.map_eq_some_iff, List.mapM_cons, List.mapM_nil, bind, Option.bind_eq_some_iff, pure, Option.some.injEq, c0, c1, c2, c3, c4] at h
      obtain ⟨ys, ⟨y0, h0, z0, ⟨y1, h1, z1, ⟨y2, h2, z2, ⟨y3, h3, z3, ⟨y4, h4, _⟩, _⟩, _⟩, _⟩, _⟩, _⟩ := h
      obtain ⟨k0, e0, _, w0⟩ := DataW.trod_int Try.underlying3 h0
      obtain ⟨k1, e1, _, w1⟩ := DataW.trod_int Try.underlying22 h1
      obtain ⟨rs, pc, e2, w2⟩ := open_cp h2
      obtain ⟨rn, e3, _⟩ := DataW.trod_bool Try.underlying4 h3
      obtain ⟨k4, e4, _, w4⟩ := DataW.trod_int Try.underlying26 h4
      rw [hcell] at hl
      match cs, hl with
      | [v0, v1, v2, v3, v4, v5, v6, v7, v8, v9, v10, v11, v12], _ =>
        simp at e0 e1 e3 e4
        subst e0 e1 e3 e4
        refine ⟨⟨k0, k1, rs, pc, rn, k4⟩, ?_, w2, w4⟩
        have e5 : ([v2, v3, v4, v5, v6, v7, v8, v9, v10] : List Value) = rs.map U ++ [.int .u64 pc] := e2
        show _ :: _ :: ([v2, v3, v4, v5, v6, v7, v8, v9, v10] ++ [_, _]) = _
        rw [e5]
        simp [rL]
    · rw [if_neg hl] at h; cases h
theorem open_in {cs : List Value} {fuel : Nat} {x : DataW H × List MemPlace} (h : DataW.trod enc Try.prog w base (fun _ => true) held fuel 31 cs = some x) : ∃ ns, cs = ns.map U ∧ nok ns := by
  cases fuel with
  | zero => simp [DataW.trod] at h
  | succ m =>
    rw [DataW.trod_step] at h
    unfold DataW.trodStep at h
    simp only [Try.underlying31] at h
    have hcell : Try.prog.cellsOf 31 = 4 := by kernel_rfl
    have c0 : Try.prog.cellsOf 29 = 4 := by kernel_rfl
    by_cases hl : cs.length = Try.prog.cellsOf 31
    · rw [if_pos hl] at h
      simp only [Option.map_eq_some_iff, List.mapM_cons, List.mapM_nil, bind, Option.bind_eq_some_iff, pure, Option.some.injEq, c0] at h
      obtain ⟨ys, ⟨y0, h0, _⟩, _⟩ := h
      obtain ⟨l0, p0⟩ := open_arr Try.underlying29 Try.underlying22 c0 (by kernel_rfl) h0
      rw [hcell] at hl
      rw [List.drop_zero, List.take_of_length_le (by omega)] at p0
      obtain ⟨bs, hb, hx⟩ := cells_u _ p0
      exact ⟨bs, hb, by rw [hb] at hl; simpa using hl, hx⟩
    · rw [if_neg hl] at h; cases h
theorem open_out {cs : List Value} {fuel : Nat} {x : DataW H × List MemPlace} (h : DataW.trod enc Try.prog w base (fun _ => true) held fuel 40 cs = some x) : ∃ o, cs = oL o ∧ ook o := by
  cases fuel with
  | zero => simp [DataW.trod] at h
  | succ m =>
    rw [DataW.trod_step] at h
    unfold DataW.trodStep at h
    simp only [Try.underlying40] at h
    have hcell : Try.prog.cellsOf 40 = 8 := by kernel_rfl
    have c0 : Try.prog.cellsOf 38 = 1 := by kernel_rfl
    have c1 : Try.prog.cellsOf 29 = 4 := by kernel_rfl
    have c2 : Try.prog.cellsOf 22 = 1 := by kernel_rfl
    have c3 : Try.prog.cellsOf 4 = 1 := by kernel_rfl
    have c4 : Try.prog.cellsOf 3 = 1 := by kernel_rfl
    by_cases hl : cs.length = Try.prog.cellsOf 40
    · rw [if_pos hl] at h
      simp only [Option.map_eq_some_iff, List.mapM_cons, List.mapM_nil, bind, Option.bind_eq_some_iff, pure, Option.some.injEq, c0, c1, c2, c3, c4] at h
      obtain ⟨ys, ⟨y0, h0, z0, ⟨y1, h1, z1, ⟨y2, h2, z2, ⟨y3, h3, z3, ⟨y4, h4, _⟩, _⟩, _⟩, _⟩, _⟩, _⟩ := h
      obtain ⟨k0, e0, _, w0⟩ := DataW.trod_int Try.underlying38 h0
      obtain ⟨l1, p1⟩ := open_arr Try.underlying29 Try.underlying22 c1 (by kernel_rfl) h1
      obtain ⟨ns, e1, hx⟩ := cells_u _ p1
      obtain ⟨k2, e2, _, w2⟩ := DataW.trod_int Try.underlying22 h2
      obtain ⟨wr, e3, _⟩ := DataW.trod_bool Try.underlying4 h3
      obtain ⟨k4, e4, _, w4⟩ := DataW.trod_int Try.underlying3 h4
      rw [hcell] at hl
      rw [e1] at l1
      match cs, hl with
      | [v0, v1, v2, v3, v4, v5, v6, v7], _ =>
        simp at e0 e2 e3 e4
        subst e0 e2 e3 e4
        refine ⟨⟨k0, ns, k2, wr, k4⟩, ?_, ⟨by simpa using l1, hx⟩, b_u64 w2, w0, w4⟩
        have e5 : ([v1, v2, v3, v4] : List Value) = ns.map U := e1
        show _ :: ([v1, v2, v3, v4] ++ [_, _, _]) = _
        rw [e5]
        simp [oL]
    · rw [if_neg hl] at h; cases h
theorem open_rp {cs : List Value} {fuel : Nat} {x : DataW H × List MemPlace} (h : DataW.trod enc Try.prog w base (fun _ => true) held fuel 61 cs = some x) : ∃ pc rs rn, cs = pL pc rs rn ∧ cok rs pc := by
  cases fuel with
  | zero => simp [DataW.trod] at h
  | succ m =>
    rw [DataW.trod_step] at h
    unfold DataW.trodStep at h
    simp only [Try.underlying61] at h
    have hcell : Try.prog.cellsOf 61 = 10 := by kernel_rfl
    have c0 : Try.prog.cellsOf 22 = 1 := by kernel_rfl
    have c1 : Try.prog.cellsOf 23 = 8 := by kernel_rfl
    have c2 : Try.prog.cellsOf 4 = 1 := by kernel_rfl
    by_cases hl : cs.length = Try.prog.cellsOf 61
    · rw [if_pos hl] at h
      simp only [Option.map_eq_some_iff, List.mapM_cons, List.mapM_nil, bind, Option.bind_eq_some_iff, pure, Option.some.injEq, c0, c1, c2] at h
      obtain ⟨ys, ⟨y0, h0, z0, ⟨y1, h1, z1, ⟨y2, h2, _⟩, _⟩, _⟩, _⟩ := h
      obtain ⟨k, e0, _, w0⟩ := DataW.trod_int Try.underlying22 h0
      obtain ⟨l1, p1⟩ := open_arr Try.underlying23 Try.underlying22 c1 c0 h1
      obtain ⟨bs, hb, hx⟩ := cells_u _ p1
      obtain ⟨r, e2, _⟩ := DataW.trod_bool Try.underlying4 h2
      rw [hcell] at hl
      rw [hb] at l1
      match cs, hl with
      | [v0, v1, v2, v3, v4, v5, v6, v7, v8, v9], _ =>
        simp at e0 e2
        subst e0 e2
        refine ⟨k, bs, r, ?_, by simpa using l1, hx, b_u64 w0⟩
        have e5 : ([v1, v2, v3, v4, v5, v6, v7, v8] : List Value) = bs.map U := hb
        show _ :: ([v1, v2, v3, v4, v5, v6, v7, v8] ++ [_]) = _
        rw [e5]
        simp [pL]
    · rw [if_neg hl] at h; cases h
end
end Go.Proofs.Ytpdafjamhccbnaa.VC
