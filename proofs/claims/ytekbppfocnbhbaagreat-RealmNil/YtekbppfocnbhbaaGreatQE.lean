/- The program's answer: states of memory on the way. -/
import Derived.Test.YtekbppfocnbhbaaGreatQD
import Derived.Great.BuildSlice
set_option linter.unusedVariables false
set_option linter.unusedSimpArgs false
namespace Go.Proofs.YtekbppfocnbhbaaGreat.R5
open scoped Classical
open Go.RowKit
open Go.ChangeMaps (setBlock heap_setBlock_same heap_setBlock_other)

/-- The zero of a key. -/
def zKq : Array Value := (kL ⟨0, List.replicate 32 0, 0, []⟩).toArray
theorem infoKq : (Tryz.prog.info? 120).map (fun i => (i.zero, i.size, i.bytes)) = some (some (.agg zKq), 35, 64) := by kernel_rfl
theorem zero_kq (w : World) : (zeroValue 120).run Tryz.prog w = .ok (.agg zKq) w := by kernel_rfl
theorem info35k (RS : List Value) (h : RS.length = 35) : (Tryz.prog.info? 120).map (·.size) = some RS.length := by rw [h]; kernel_rfl
theorem info35ka (RS : Array Value) (h : RS.size = 35) : (Tryz.prog.info? 120).map (·.size) = some RS.size := by rw [h]; kernel_rfl
theorem kL_one (q : Qn) : ∀ u ∈ kL q, u.oneCell' = true := qL_one q _ rfl
theorem kL_onea (q : Qn) : (kL q).toArray.all (·.oneCell') = true := by
  rw [Array.all_eq_true_iff_forall_mem]
  intro v hv
  exact kL_one q v (by simpa using hv)
set_option maxHeartbeats 4000000 in
set_option maxRecDepth 100000 in
theorem build_kq (w : World) (a b : Int) (c : ByteArray) (DL : List Value) (h2 : DL.length = 32) : (Instr.build 120 #[(0, .int .i64 a), (1, .agg DL.toArray), (2, .int .i64 b), (3, .string c)]).run Tryz.prog w = .ok (.agg (.int .i64 a :: (DL ++ [.int .i64 b, .string c])).toArray) w := by
  iterate 32 (obtain ⟨_, _, e, g⟩ := cons_of h2; clear h2; subst e; have h2 := g; clear g)
  obtain rfl := List.eq_nil_of_length_eq_zero h2
  show _ = _
  kernel_rfl
set_option maxHeartbeats 4000000 in
set_option maxRecDepth 100000 in
theorem fill_kq (AL : List Value) (h : AL.length = 35) : Instr.fill (fun i => some (i * 35, 35)) ((Array.range (1 * 35)).map ((Value.agg zKq).cells[· % (Value.agg zKq).cells.size]!)) [(0, .agg AL.toArray)] = some AL.toArray := by
  iterate 35 (obtain ⟨_, _, e, g⟩ := cons_of h; clear h; subst e; have h := g; clear g)
  obtain rfl := List.eq_nil_of_length_eq_zero h
  show _ = _
  kernel_rfl
/-- A struct that is built, as a step. -/
theorem wpList_build {ops : Array Oper} {rest : List Oper} {o : Oper} {a : Act} {Q : Exit → Act → World → Prop} {w : World} (hgd : o.guard = none) (t : TypeId) (parts : Array (Nat × Operand)) (ho : o.op = .build t parts) (vals : Array (Nat × Value)) (v : Value) (hp : (parts.map fun (i, x) => (i, a.eval x)) = vals)
    (hr : (Instr.build t vals).run Tryz.prog w = .ok v w) (h : wpList Tryz.prog ops Q rest (a.put o.dst v) w) : wpList Tryz.prog ops Q (o :: rest) a w := by
  refine wpList_plain hgd fun K' hK' => ?_
  unfold Oper.wp
  rw [exec_build a.eval o t parts vals v w ho hp hr]
  exact hK' _ _ h
/-- m[k] = v as a step. -/
theorem wp_mapUpd {op : Oper} {a : Act} {w w' : World} {K : Act → World → Prop} {Q : Exit → Act → World → Prop} (m x v : Operand) (t : TypeId) (ho : op.op = Op.mapUpdate t m x v) (mv kv vv : Value) (hm : a.eval m = mv) (hx : a.eval x = kv) (hv : a.eval v = vv)
    (hr : (Instr.mapUpdate t mv kv vv).run Tryz.prog w = .ok () w') (h : K (a.put op.dst undef) w') : op.wp Tryz.prog a w K Q := by
  unfold Oper.wp
  simp [execOp, ho, hm, hx, hv, hr, Result.andThen]
  exact h

/-- Ahead of the look-up. -/
structure S2 (w : World) (QL KL : List Value) (ZA : Array Value) (X : World) : Prop where
  bel : Below w.heap.size w X
  q : X.heap[w.heap.size]? = some (.cells QL.toArray 138 (0, 0))
  z : X.heap[w.heap.size + 1]? = some (.cells ZA 33 (0, 0))
  k : X.heap[w.heap.size + 1 + 1]? = some (.cells KL.toArray 120 (0, 0))
theorem S2.step {w : World} {QL KL : List Value} {ZA : Array Value} {X Y : World} (h : S2 w QL KL ZA X) (hb : Below (w.heap.size + 3) X Y) : S2 w QL KL ZA Y :=
  ⟨h.bel.trans (hb.mono (by omega)), (hb.block _ (by omega)).trans h.q, (hb.block _ (by omega)).trans h.z, (hb.block _ (by omega)).trans h.k⟩
theorem S2.alloc {w : World} {QL KL : List Value} {ZA : Array Value} {X : World} (h : S2 w QL KL ZA X) (ob : Obj) : S2 w QL KL ZA (X.alloc ob) := h.step ((Below.refl _ _).alloc (by have := row_lt h.k; omega) _)
theorem S2.drew {w : World} {QL KL : List Value} {ZA : Array Value} {X : World} (h : S2 w QL KL ZA X) : S2 w QL KL ZA X.drew := h.step (Below.refl _ _).drew
/-- Behind it. -/
structure S6 (S : Nat → Prop) (w : World) (b5 : Nat) (KL DL : List Value) (ZA : Array Value) (X : World) : Prop where
  fr : Fr S w X
  z : X.heap[w.heap.size + 1]? = some (.cells ZA 33 (0, 0))
  k : X.heap[w.heap.size + 1 + 1]? = some (.cells KL.toArray 120 (0, 0))
  d : X.heap[b5]? = some (.cells DL.toArray 33 (0, 0))
theorem S6.step {S : Nat → Prop} {w : World} {b5 : Nat} {KL DL : List Value} {ZA : Array Value} {X Y : World} (h : S6 S w b5 KL DL ZA X) (hF : Fr S X Y) (hlow : ∀ k, S k → k < w.heap.size) (h5 : w.heap.size ≤ b5) : S6 S w b5 KL DL ZA Y := by
  have hk : ∀ k, w.heap.size ≤ k → k < X.heap.size → Y.heap[k]? = X.heap[k]? := fun k h1 h2 => hF.block k h2 (fun hs => by have := hlow k hs; omega)
  exact ⟨h.fr.trans hF (fun k hk => .inl hk), (hk _ (by omega) (row_lt h.z)).trans h.z, (hk _ (by omega) (row_lt h.k)).trans h.k, (hk _ h5 (row_lt h.d)).trans h.d⟩
theorem Fr.drew {S : Nat → Prop} {a b : World} (h : Fr S a b) : Fr S a b.drew := ⟨h.os, h.tape, h.output, h.size, h.block⟩
theorem S6.drew {S : Nat → Prop} {w : World} {b5 : Nat} {KL DL : List Value} {ZA : Array Value} {X : World} (h : S6 S w b5 KL DL ZA X) : S6 S w b5 KL DL ZA X.drew := ⟨h.fr.drew, h.z, h.k, h.d⟩
/-- .. with the oracle's own row. -/
structure S7 (S : Nat → Prop) (w : World) (b5 og : Nat) (KL DL PL : List Value) (ZA : Array Value) (X : World) : Prop where
  s : S6 S w b5 KL DL ZA X
  o : X.heap[og]? = some (.cells PL.toArray 116 (0, 0))
/-- One more question with its answer. -/
theorem po_more {B og mb : Nat} {S : Nat → Prop} {w Z : World} {o : Pra} {dv ov : Value} {q : Qn} {A : List UInt8} {g cap2 : Nat} (ho : PO B og mb S w o dv ov) (hq : kOk q) (hA : A.length = 32) (hf : fndA q o.log = none) (hB : B ≤ w.heap.size) (hfr : Fr S w Z)
    (hrow : Z.heap[og]? = some (.cells (pL o.ideal o.master dv (.slice (some ⟨g, 0, none⟩) (o.log.length + 1) cap2) mb).toArray 116 (0, 0)))
    (hown : Z.ownsRow B 120 35 (.slice (some ⟨g, 0, none⟩) (o.log.length + 1) cap2) (o.log.length + 1) (kC o.log ++ kL q)) (hgl : ov.ownBlock = some g ∨ w.heap.size ≤ g) (hgZ : g < Z.heap.size) (hmap : MH Z mb (o.log ++ [(q, A)])) :
    PO B og mb (fun k => S k ∨ (w.heap.size ≤ k ∧ k < Z.heap.size)) Z { o with log := o.log ++ [(q, A)] } dv (.slice (some ⟨g, 0, none⟩) (o.log.length + 1) cap2) := by
  have hogl := row_lt ho.row
  refine ⟨ho.ml, hrow, hds_keep ho.draws (fun k e hl => hfr.block k hl (ho.dro k e).1), fun k e => ⟨fun hs => hs.elim (ho.dro k e).1 (fun h => by have := (ho.dro k e).2; omega), Nat.lt_of_lt_of_le (ho.dro k e).2 hfr.size⟩, ho.ok.snoc hq hA hf, ?_, hmap, .inl ho.sog, .inl ho.smb, fun k e => ?_, fun k hk => hk.elim (ho.low k) (fun h => by omega), fun k hk => hk.elim (fun h => Nat.lt_of_lt_of_le (ho.top k h) hfr.size) (fun h => h.2)⟩
  · show Z.ownsRow B 120 35 _ (o.log ++ [(q, A)]).length (kC (o.log ++ [(q, A)]))
    rw [List.length_append, List.length_singleton]
    have : kC (o.log ++ [(q, A)]) = kC o.log ++ kL q := by unfold kC; simp
    rw [this]
    exact hown
  · have e' : g = k := by simpa [Value.ownBlock] using e
    subst e'
    rcases hgl with hg | hg
    · exact ⟨.inl (ho.sov _ hg).1, (ho.sov _ hg).2⟩
    · exact ⟨.inr ⟨hg, hgZ⟩, by omega⟩
end Go.Proofs.YtekbppfocnbhbaaGreat.R5
