/- One more question in an oracle's log: memory. -/
import Derived.Test.YtekbppfocnbhbaaGreatH9
import Derived.Deep.AppendLies
set_option linter.unusedVariables false
set_option linter.unusedSimpArgs false
namespace Go.Proofs.YtekbppfocnbhbaaGreat.R5
open scoped Classical
open Go.RowKit

/-- What stands while the log grows. -/
structure S11 (w : World) (og b8 H8 : Nat) (QN DL : List Value) (ZA : Array Value) (L : Nat → Prop) (v1 : Value) (dd : List UInt8) (X : World) : Prop where
  fr : Fr (fun k => k = og ∨ L k) w X
  q : X.heap[w.heap.size]? = some (.cells QN.toArray 138 (0, 0))
  d : X.heap[b8]? = some (.cells DL.toArray 33 (0, 0))
  z : X.heap[w.heap.size + 1 + 1]? = some (.cells ZA 33 (0, 0))
  dat : HB X v1 dd
  vb : ∀ k, v1.ownBlock = some k → H8 ≤ k ∧ k < X.heap.size
theorem S11.step {w : World} {og b8 H8 : Nat} {QN DL : List Value} {ZA : Array Value} {L : Nat → Prop} {v1 : Value} {dd : List UInt8} {X Y : World} (h : S11 w og b8 H8 QN DL ZA L v1 dd X) (hF : Fr (fun k => k = og ∨ L k) X Y) (hlow : ∀ k, (k = og ∨ L k) → k < w.heap.size) (h8 : w.heap.size ≤ b8) (hH : w.heap.size ≤ H8) : S11 w og b8 H8 QN DL ZA L v1 dd Y := by
  have hk : ∀ k, w.heap.size ≤ k → k < X.heap.size → Y.heap[k]? = X.heap[k]? := fun k h1 h2 => hF.block k h2 (fun h3 => by have := hlow k h3; omega)
  exact ⟨h.fr.trans hF (fun k hk => .inl hk), (hk _ (Nat.le_refl _) (row_lt h.q)).trans h.q, (hk _ h8 (row_lt h.d)).trans h.d, (hk _ (by omega) (row_lt h.z)).trans h.z,
    hb_keep h.dat (fun k e hl => hk k (Nat.le_trans hH (h.vb k e).1) hl), fun k e => ⟨(h.vb k e).1, Nat.lt_of_lt_of_le (h.vb k e).2 hF.size⟩⟩

theorem S11.drew {w : World} {og b8 H8 : Nat} {QN DL : List Value} {ZA : Array Value} {L : Nat → Prop} {v1 : Value} {dd : List UInt8} {X : World} (h : S11 w og b8 H8 QN DL ZA L v1 dd X) : S11 w og b8 H8 QN DL ZA L v1 dd X.drew :=
  ⟨⟨h.fr.os, h.fr.tape, h.fr.output, h.fr.size, h.fr.block⟩, h.q, h.d, h.z, hb_drew h.dat, h.vb⟩
theorem qL_one (q : Qn) (dv : Value) (h : dv.oneCell' = true) : ∀ u ∈ qL q dv, u.oneCell' = true := by
  intro u hu
  unfold qL at hu
  rcases List.mem_cons.1 hu with rfl | hu
  · rfl
  · rcases List.mem_append.1 hu with hu | hu
    · exact B8_one _ u hu
    · rcases List.mem_cons.1 hu with rfl | hu
      · rfl
      · obtain rfl := List.mem_singleton.1 hu
        exact h

theorem add_none (b o j : Nat) : (⟨b, o, none⟩ : Addr).add j = ⟨b, o + j, none⟩ := by
  unfold Addr.add
  split <;> simp_all
theorem exec_build (ev : Operand → Value) (o : Oper) (t : TypeId) (parts : Array (Nat × Operand)) (vals : Array (Nat × Value)) (v : Value) (w : World) (ho : o.op = .build t parts) (hp : (parts.map fun (i, x) => (i, ev x)) = vals) (h : (Instr.build t vals).run Tryz.prog w = .ok v w) :
    (execOp ev o).run Tryz.prog w = .ok (.value v) w := by
  unfold execOp
  simp only [ho, Sem.run_bind, hp, h, Result.andThen_ok]
  rfl

theorem own_keep {B : Nat} {e : TypeId} {s : Nat} {v : Value} {n : Nat} {xs : List Value} {w w' : World} (h : w.ownsRow B e s v n xs) (hk : ∀ k, v.ownBlock = some k → k < w.heap.size → w'.heap[k]? = w.heap[k]?) : w'.ownsRow B e s v n xs := by
  refine ⟨h.1, ?_⟩
  rcases h.2 with hn | ⟨g, cap, cur, e1, e2, e3, rest⟩
  · exact .inl hn
  · exact .inr ⟨g, cap, cur, e1, e2, (hk g (by rw [e1]; rfl) (row_lt e3)).trans e3, rest⟩

theorem or_more {B og : Nat} {S : Nat → Prop} {w Z : World} {o : Ora} {dv lv : Value} {lds : List Value} {t : TypeId} {q : Qn} {D : List UInt8} {v1 : Value} {g cap2 H : Nat}
    (ho : OR B og S w o dv lv lds t) (hB : B ≤ w.heap.size) (hqk : q.key.length = 32) (hD : D.length = 32) (hfr : Fr (fun k => k = og ∨ lv.ownBlock = some k) w Z)
    (hrow : Z.heap[og]? = some (.cells (oL o.ideal o.master dv (o.used + 1) (.slice (some ⟨g, 0, none⟩) (o.log.length + 1) cap2)).toArray t (0, 0)))
    (hown : Z.ownsRow B 140 67 (.slice (some ⟨g, 0, none⟩) (o.log.length + 1) cap2) (o.log.length + 1) (lC o.log lds ++ aL (q, D) v1))
    (hg : lv.ownBlock = some g ∨ g = H) (hH : w.heap.size ≤ H) (hgZ : g < Z.heap.size) (hdat : HB Z v1 q.data) (hv : ∀ k, v1.ownBlock = some k → w.heap.size ≤ k ∧ k < H ∧ k < Z.heap.size) :
    Fr S w Z ∧ OR B og (fun k => S k ∨ (w.heap.size ≤ k ∧ k < Z.heap.size)) Z { o with used := o.used + 1, log := o.log ++ [(q, D)] } dv (.slice (some ⟨g, 0, none⟩) (o.log.length + 1) cap2) (lds ++ [v1]) t := by
  have hog := row_lt ho.row
  have hlw : ∀ k, lv.ownBlock = some k → k < w.heap.size := fun k e => (ho.log.2.2.1.lt k e).2
  have hS : Fr S w Z := ⟨hfr.os, hfr.tape, hfr.output, hfr.size, fun k hk hs => hfr.block k hk (fun h => h.elim (fun e => hs (e ▸ ho.sog)) (fun e => hs (ho.slog k e).1))⟩
  refine ⟨hS, ho.ml, hrow, hds_keepN ho.draws (fun hne k e hl => hS.block k hl (fun hs => by have := ho.low k hs; have := ho.dlow hne k e; omega)), ho.dlow, ⟨?_, ?_, ?_, ?_⟩, .inl ho.sog, ?_, ?_, ?_, fun k hk => hk.elim (fun h => Nat.lt_of_lt_of_le (ho.top k h) hfr.size) (fun h => h.2)⟩
  · intro e he
    rcases List.mem_append.1 he with he | he
    · exact ho.log.1 e he
    · obtain rfl := List.mem_singleton.1 he
      exact ⟨hqk, hD⟩
  · simp [ho.log.2.1]
  · show Z.ownsRow B _ 67 _ (o.log ++ [(q, D)]).length (lC (o.log ++ [(q, D)]) (lds ++ [v1]))
    rw [lC_snoc _ _ _ _ ho.log.2.1, List.length_append]
    exact hown
  · intro i e d he hd
    by_cases hi : i < o.log.length
    · rw [List.getElem?_append_left hi] at he
      rw [List.getElem?_append_left (by rw [ho.log.2.1]; exact hi)] at hd
      refine hb_keep (ho.log.2.2.2 i e d he hd) (fun k ek hl => hfr.block k hl (fun h => ?_))
      have hs := ho.sdat d (List.mem_of_getElem? hd) k ek
      rcases h with h | h
      · exact hs.2.1 h
      · exact hs.2.2.2 h
    · rw [List.getElem?_append_right (by omega)] at he
      rw [List.getElem?_append_right (by rw [ho.log.2.1]; omega)] at hd
      have he' := List.mem_singleton.1 (List.mem_of_getElem? he)
      have hd' := List.mem_singleton.1 (List.mem_of_getElem? hd)
      subst he' hd'
      exact hdat
  · intro k e
    have ek : g = k := by simpa [Value.ownBlock] using e
    subst ek
    rcases hg with hg | hg
    · exact ⟨.inl (ho.slog g hg).1, (ho.slog g hg).2⟩
    · exact ⟨.inr ⟨by omega, hgZ⟩, by omega⟩
  · intro d hd k e
    rcases List.mem_append.1 hd with hd | hd
    · have hs := ho.sdat d hd k e
      refine ⟨.inl hs.1, hs.2.1, Nat.lt_of_lt_of_le hs.2.2.1 hfr.size, fun ek => ?_⟩
      have ek : g = k := by simpa [Value.ownBlock] using ek
      subst ek
      rcases hg with hg | hg
      · exact hs.2.2.2 hg
      · have := hs.2.2.1; omega
    · obtain rfl := List.mem_singleton.1 hd
      have hs := hv k e
      refine ⟨.inr ⟨hs.1, hs.2.2⟩, by omega, hs.2.2, fun ek => ?_⟩
      have ek : g = k := by simpa [Value.ownBlock] using ek
      subst ek
      rcases hg with hg | hg
      · have := hlw g hg; omega
      · omega
  · intro k hk
    rcases hk with hk | hk
    · exact ho.low k hk
    · omega

end Go.Proofs.YtekbppfocnbhbaaGreat.R5
