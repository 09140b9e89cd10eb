import Derived.Test.YtekbppfocnbhbaaGreatF9
import Derived.Great.BuildSlice
import Derived.Deep.AppendLies
import Derived.Test.YtekbppfocnbhbaaGreatQB
import Derived.Test.YtekbppfocnbhbaaGreatPA
import Derived.WalkSpells
set_option linter.unusedVariables false
set_option linter.unusedSimpArgs false
set_option maxHeartbeats 16000000
set_option maxRecDepth 100000
namespace Go.Proofs.YtekbppfocnbhbaaGreat.R5
open scoped Classical
open Go.RowKit
def oL (ideal : Bool) (m : List UInt8) (dv : Value) (u : Nat) (lv : Value) : List Value := .bool ideal :: (m.map B8 ++ [dv, .int .i64 (u : Int), lv])
theorem oL_0 (i : Bool) (m : List UInt8) (dv : Value) (u : Nat) (lv : Value) : (oL i m dv u lv).toArray[0]? = some (.bool i) := by unfold oL; simp
theorem oL_at (i : Bool) (m : List UInt8) (dv : Value) (u : Nat) (lv : Value) (h : m.length = 32) (j : Nat) : (oL i m dv u lv).toArray[33 + j]? = [dv, .int .i64 (u : Int), lv][j]? := by
  unfold oL
  rw [List.getElem?_toArray, show 33 + j = (32 + j) + 1 by omega, List.getElem?_cons_succ, List.getElem?_append_right (by simp [h])]
  simp [h]
theorem oL_33 (i : Bool) (m : List UInt8) (dv : Value) (u : Nat) (lv : Value) (h : m.length = 32) : (oL i m dv u lv).toArray[33]? = some dv := oL_at i m dv u lv h 0
theorem oL_34 (i : Bool) (m : List UInt8) (dv : Value) (u : Nat) (lv : Value) (h : m.length = 32) : (oL i m dv u lv).toArray[34]? = some (.int .i64 (u : Int)) := oL_at i m dv u lv h 1
theorem oL_35 (i : Bool) (m : List UInt8) (dv : Value) (u : Nat) (lv : Value) (h : m.length = 32) : (oL i m dv u lv).toArray[35]? = some lv := oL_at i m dv u lv h 2
theorem cons_of {α : Type} {l : List α} {n : Nat} (h : l.length = n + 1) : ∃ a t, l = a :: t ∧ t.length = n := by
  cases l with
  | nil => simp at h
  | cons a t => exact ⟨a, t, rfl, by simpa using h⟩
theorem oL_set34 (i : Bool) (m : List UInt8) (dv : Value) (u : Nat) (lv : Value) (h : m.length = 32) (u' : Nat) : (oL i m dv u lv).toArray.setIfInBounds 34 (.int .i64 (u' : Int)) = (oL i m dv u' lv).toArray := by
  unfold oL
  rw [List.setIfInBounds_toArray, show (34 : Nat) = 33 + 1 from rfl, List.set_cons_succ, List.set_append_right _ _ (by simp [h])]
  simp [h]
theorem oL_set35 (i : Bool) (m : List UInt8) (dv : Value) (u : Nat) (lv : Value) (h : m.length = 32) (lv' : Value) : (oL i m dv u lv).toArray.setIfInBounds 35 lv' = (oL i m dv u lv').toArray := by
  unfold oL
  rw [List.setIfInBounds_toArray, show (35 : Nat) = 34 + 1 from rfl, List.set_cons_succ, List.set_append_right _ _ (by simp [h])]
  simp [h]
theorem qL_set34 (q : Qn) (dv dv' : Value) (h : q.key.length = 32) : (qL q dv).toArray.setIfInBounds 34 dv' = (qL q dv').toArray := by
  unfold qL
  rw [List.setIfInBounds_toArray, show (34 : Nat) = 33 + 1 from rfl, List.set_cons_succ, List.set_append_right _ _ (by simp [h])]
  simp [h]
def zAk : List Value := qL ⟨0, List.replicate 32 0, 0, []⟩ (.slice none 0 0) ++ (List.replicate 32 0).map B8
theorem infoAk : (Tryz.prog.info? 140).map (fun i => (i.zero, i.size, i.bytes)) = some (some (.agg zAk.toArray), 67, 104) := by kernel_rfl
theorem build_asked (w : World) (QL DL : List Value) (h1 : QL.length = 35) (h2 : DL.length = 32) : (Instr.build 140 #[(0, .agg QL.toArray), (1, .agg DL.toArray)]).run Tryz.prog w = .ok (.agg (QL ++ DL).toArray) w := by
  iterate 35 (obtain ⟨_, _, e, g⟩ := cons_of h1; clear h1; subst e; have h1 := g; clear g)
  obtain rfl := List.eq_nil_of_length_eq_zero h1
  iterate 32 (obtain ⟨_, _, e, g⟩ := cons_of h2; clear h2; subst e; have h2 := g; clear g)
  obtain rfl := List.eq_nil_of_length_eq_zero h2
  show _ = _
  kernel_rfl
theorem fill_asked (AL : List Value) (h : AL.length = 67) : Instr.fill (fun i => some (i * 67, 67)) ((Array.range (1 * 67)).map ((Value.agg zAk.toArray).cells[· % (Value.agg zAk.toArray).cells.size]!)) [(0, .agg AL.toArray)] = some AL.toArray := by
  iterate 67 (obtain ⟨_, _, e, g⟩ := cons_of h; clear h; subst e; have h := g; clear g)
  obtain rfl := List.eq_nil_of_length_eq_zero h
  show _ = _
  kernel_rfl
theorem hb_keep {w w' : World} {v : Value} {l : List UInt8} (h : HB w v l) (hk : ∀ k, v.ownBlock = some k → k < w.heap.size → w'.heap[k]? = w.heap[k]?) : HB w' v l := by
  rcases h with ⟨h1, h2⟩ | ⟨b, o, cap, h1, h2, h3, h4⟩
  · exact .inl ⟨h1, h2⟩
  · refine .inr ⟨b, o, cap, h1, h2, h3, fun i hi => ?_⟩
    have hc := h4 i hi
    have hb := hk b (by rw [h1]; rfl) (block_lt hc)
    exact (World.cell?_of_block (a := ⟨b, o + i, none⟩) hb).trans hc
theorem hds_keep {w w' : World} {v : Value} {ds : List (List UInt8)} (h : HDs w v ds) (hk : ∀ k, v.ownBlock = some k → k < w.heap.size → w'.heap[k]? = w.heap[k]?) : HDs w' v ds := by
  obtain ⟨h0, p, cap, h1, h2⟩ := h
  refine ⟨h0, p, cap, h1, fun i hi => ?_⟩
  obtain ⟨b, o, e, hr⟩ := h2 i hi
  refine ⟨b, o, e, fun j u hu => ?_⟩
  have hc := hr j u hu
  exact (World.cell?_of_block (a := ⟨b, o + i * 32 + j, none⟩) (hk b (by rw [h1, e]; rfl) (block_lt hc))).trans hc
theorem hds_keepN {w w' : World} {v : Value} {ds : List (List UInt8)} (h : HDs w v ds) (hk : ds ≠ [] → ∀ k, v.ownBlock = some k → k < w.heap.size → w'.heap[k]? = w.heap[k]?) : HDs w' v ds := by
  by_cases hd : ds = []
  · subst hd
    obtain ⟨h0, p, cap, h1, _⟩ := h
    exact ⟨h0, p, cap, h1, fun i hi => by simp at hi⟩
  · exact hds_keep h (hk hd)
theorem hlg_keep {B : Nat} {w w' : World} {lv : Value} {l : List (Qn × List UInt8)} {lds : List Value} (h : HLg B w lv l lds) (hk : ∀ k, (lv.ownBlock = some k ∨ ∃ d ∈ lds, d.ownBlock = some k) → k < w.heap.size → w'.heap[k]? = w.heap[k]?) : HLg B w' lv l lds := by
  obtain ⟨h1, h2, h3, h4⟩ := h
  refine ⟨h1, h2, ⟨h3.1, ?_⟩, fun i e d he hd => hb_keep (h4 i e d he hd) (fun k hd' => hk k (.inr ⟨d, List.mem_of_getElem? hd, hd'⟩))⟩
  rcases h3.2 with hn | ⟨g, cap, cur, e1, e2, e3, rest⟩
  · exact .inl hn
  · exact .inr ⟨g, cap, cur, e1, e2, (hk g (.inl (by rw [e1]; rfl)) (row_lt e3)).trans e3, rest⟩
structure Fr (S : Nat → Prop) (w w' : World) : Prop where
  os : w'.os = w.os
  tape : w'.tape = w.tape
  output : w'.output = w.output
  size : w.heap.size ≤ w'.heap.size
  block : ∀ k, k < w.heap.size → ¬ S k → w'.heap[k]? = w.heap[k]?
theorem Fr.refl (S : Nat → Prop) (w : World) : Fr S w w := ⟨rfl, rfl, rfl, Nat.le_refl _, fun _ _ _ => rfl⟩
theorem Fr.trans {S T : Nat → Prop} {a b c : World} (h : Fr S a b) (g : Fr T b c) (hT : ∀ k, T k → S k ∨ a.heap.size ≤ k) : Fr S a c :=
  ⟨g.os.trans h.os, g.tape.trans h.tape, g.output.trans h.output, Nat.le_trans h.size g.size, fun k hk hs => (g.block k (Nat.lt_of_lt_of_le hk h.size) (fun ht => (hT k ht).elim hs (fun h2 => by omega))).trans (h.block k hk hs)⟩
theorem Fr.ofBelow {S : Nat → Prop} {w w' : World} (h : Below w.heap.size w w') : Fr S w w' := ⟨h.os, h.tape, h.output, h.size, fun k hk _ => h.block k hk⟩
theorem Fr.then {S : Nat → Prop} {a b c : World} (h : Fr S a b) (g : Below b.heap.size b c) : Fr S a c := h.trans (T := fun _ => False) (Fr.ofBelow g) (fun _ hf => hf.elim)
theorem Fr.setCell {S : Nat → Prop} {a b : World} (h : Fr S a b) (g o : Nat) (v : Value) (hg : S g ∨ a.heap.size ≤ g) : Fr S a (b.setCell ⟨g, o, none⟩ v) := by
  have hb : Below g b (b.setCell ⟨g, o, none⟩ v) := (Below.refl _ _).setCell (p := ⟨g, o, none⟩) (by simp) _
  refine ⟨hb.os.trans h.os, hb.tape.trans h.tape, hb.output.trans h.output, Nat.le_trans h.size hb.size, fun k hk hs => ?_⟩
  have hne : k ≠ g := fun e => hg.elim (fun hh => hs (e ▸ hh)) (fun hh => by omega)
  exact (heap_setCell_other _ _ _ _ (by simpa using hne)).trans (h.block k hk hs)
theorem Fr.setRow {S : Nat → Prop} {a b : World} (h : Fr S a b) (g : Nat) (N : Array Value) (hg : S g ∨ a.heap.size ≤ g) : Fr S a (b.setRow g N) := by
  have hb : Below g b (b.setRow g N) := below_setRow (Below.refl _ _) (Nat.le_refl _) _
  refine ⟨hb.os.trans h.os, hb.tape.trans h.tape, hb.output.trans h.output, Nat.le_trans h.size hb.size, fun k hk hs => ?_⟩
  have hne : k ≠ g := fun e => hg.elim (fun hh => hs (e ▸ hh)) (fun hh => by omega)
  exact (setRow_other _ _ _ _ hne).trans (h.block k hk hs)
theorem Fr.grown {S : Nat → Prop} {a b c : World} {row : Option Nat} (h : Fr S a b) (g : b.grownBy c row) (hr : ∀ k, row = some k → S k ∨ a.heap.size ≤ k) : Fr S a c :=
  ⟨g.os.trans h.os, g.tape.trans h.tape, g.output.trans h.output, Nat.le_trans h.size g.size, fun k hk hs => (g.block k (Nat.lt_of_lt_of_le hk h.size) (fun e => (hr k e.symm).elim hs (fun h2 => by omega))).trans (h.block k hk hs)⟩
structure Ora where
  ideal : Bool
  master : List UInt8
  draws : List (List UInt8)
  used : Nat
  log : List (Qn × List UInt8)
structure OR (B og : Nat) (S : Nat → Prop) (w : World) (o : Ora) (dv lv : Value) (lds : List Value) (t : TypeId) : Prop where
  ml : o.master.length = 32
  row : w.heap[og]? = some (.cells (oL o.ideal o.master dv o.used lv).toArray t (0, 0))
  draws : HDs w dv o.draws
  dlow : o.draws ≠ [] → ∀ k, dv.ownBlock = some k → k < B
  log : HLg B w lv o.log lds
  sog : S og
  slog : ∀ k, lv.ownBlock = some k → S k ∧ k ≠ og
  sdat : ∀ d ∈ lds, ∀ k, d.ownBlock = some k → S k ∧ k ≠ og ∧ k < w.heap.size ∧ lv.ownBlock ≠ some k
  low : ∀ k, S k → B ≤ k
  top : ∀ k, S k → k < w.heap.size
theorem OR.keep {B og : Nat} {S : Nat → Prop} {w w' : World} {o : Ora} {dv lv : Value} {lds : List Value} {t : TypeId} (h : OR B og S w o dv lv lds t) (hs : w.heap.size ≤ w'.heap.size) (hk : ∀ k, k < w.heap.size → (S k ∨ k < B) → w'.heap[k]? = w.heap[k]?) : OR B og S w' o dv lv lds t :=
  ⟨h.ml, (hk og (row_lt h.row) (.inl h.sog)).trans h.row, hds_keepN h.draws (fun hne k e hl => hk k hl (.inr (h.dlow hne k e))), h.dlow,
    hlg_keep h.log (fun k e hl => hk k hl (.inl (e.elim (fun e => (h.slog k e).1) (fun ⟨d, hd, e⟩ => (h.sdat d hd k e).1)))), h.sog, h.slog,
    fun d hd k e => ⟨(h.sdat d hd k e).1, (h.sdat d hd k e).2.1, Nat.lt_of_lt_of_le (h.sdat d hd k e).2.2.1 hs, (h.sdat d hd k e).2.2.2⟩, h.low, fun k hk => Nat.lt_of_lt_of_le (h.top k hk) hs⟩
theorem OR.more {B og : Nat} {S S' : Nat → Prop} {w : World} {o : Ora} {dv lv : Value} {lds : List Value} {t : TypeId} (h : OR B og S w o dv lv lds t) (hs : ∀ k, S k → S' k) (hl : ∀ k, S' k → B ≤ k ∧ k < w.heap.size) : OR B og S' w o dv lv lds t :=
  ⟨h.ml, h.row, h.draws, h.dlow, h.log, hs _ h.sog, fun k e => ⟨hs _ (h.slog k e).1, (h.slog k e).2⟩, fun d hd k e => ⟨hs _ (h.sdat d hd k e).1, (h.sdat d hd k e).2⟩, fun k hk => (hl k hk).1, fun k hk => (hl k hk).2⟩
structure S11 (w : World) (og b8 H8 : Nat) (QN DL : List Value) (ZA : Array Value) (L : Nat → Prop) (v1 : Value) (dd : List UInt8) (X : World) : Prop where
  fr : Fr (fun k => k = og ∨ L k) w X
  q : X.heap[w.heap.size]? = some (.cells QN.toArray 138 (0, 0))
  d : X.heap[b8]? = some (.cells DL.toArray 33 (0, 0))
  z : X.heap[w.heap.size + 1 + 1]? = some (.cells ZA 33 (0, 0))
  dat : HB X v1 dd
  vb : ∀ k, v1.ownBlock = some k → H8 ≤ k ∧ k < X.heap.size
theorem S11.step {w : World} {og b8 H8 : Nat} {QN DL : List Value} {ZA : Array Value} {L : Nat → Prop} {v1 : Value} {dd : List UInt8} {X Y : World} (h : S11 w og b8 H8 QN DL ZA L v1 dd X) (hF : Fr (fun k => k = og ∨ L k) X Y) (hlow : ∀ k, (k = og ∨ L k) → k < w.heap.size) (h8 : w.heap.size ≤ b8) (hH : w.heap.size ≤ H8) : S11 w og b8 H8 QN DL ZA L v1 dd Y := by
  have hk : ∀ k, w.heap.size ≤ k → k < X.heap.size → Y.heap[k]? = X.heap[k]? := fun k h1 h2 => hF.block k h2 (fun h3 => by have := hlow k h3; omega)
  exact ⟨h.fr.trans hF (fun k hk => .inl hk), (hk _ (Nat.le_refl _) (row_lt h.q)).trans h.q, (hk _ h8 (row_lt h.d)).trans h.d, (hk _ (by omega) (row_lt h.z)).trans h.z,
    hb_keep h.dat (fun k e hl => hk k (Nat.le_trans hH (h.vb k e).1) hl), fun k e => ⟨(h.vb k e).1, Nat.lt_of_lt_of_le (h.vb k e).2 hF.size⟩⟩
theorem S11.drew {w : World} {og b8 H8 : Nat} {QN DL : List Value} {ZA : Array Value} {L : Nat → Prop} {v1 : Value} {dd : List UInt8} {X : World} (h : S11 w og b8 H8 QN DL ZA L v1 dd X) : S11 w og b8 H8 QN DL ZA L v1 dd X.drew :=
  ⟨⟨h.fr.os, h.fr.tape, h.fr.output, h.fr.size, h.fr.block⟩, h.q, h.d, h.z, hb_drew h.dat, h.vb⟩
theorem qL_one (q : Qn) (dv : Value) (h : dv.oneCell' = true) : ∀ u ∈ qL q dv, u.oneCell' = true := by
  intro u hu
  unfold qL at hu
  rcases List.mem_cons.1 hu with rfl | hu
  · rfl
  · rcases List.mem_append.1 hu with hu | hu
    · exact B8_one _ u hu
    · rcases List.mem_cons.1 hu with rfl | hu
      · rfl
      · obtain rfl := List.mem_singleton.1 hu
        exact h
theorem add_none (b o j : Nat) : (⟨b, o, none⟩ : Addr).add j = ⟨b, o + j, none⟩ := by
  unfold Addr.add
  split <;> simp_all
theorem exec_build (ev : Operand → Value) (o : Oper) (t : TypeId) (parts : Array (Nat × Operand)) (vals : Array (Nat × Value)) (v : Value) (w : World) (ho : o.op = .build t parts) (hp : (parts.map fun (i, x) => (i, ev x)) = vals) (h : (Instr.build t vals).run Tryz.prog w = .ok v w) :
    (execOp ev o).run Tryz.prog w = .ok (.value v) w := by
  unfold execOp
  simp only [ho, Sem.run_bind, hp, h, Result.andThen_ok]
  rfl
theorem own_keep {B : Nat} {e : TypeId} {s : Nat} {v : Value} {n : Nat} {xs : List Value} {w w' : World} (h : w.ownsRow B e s v n xs) (hk : ∀ k, v.ownBlock = some k → k < w.heap.size → w'.heap[k]? = w.heap[k]?) : w'.ownsRow B e s v n xs := by
  refine ⟨h.1, ?_⟩
  rcases h.2 with hn | ⟨g, cap, cur, e1, e2, e3, rest⟩
  · exact .inl hn
  · exact .inr ⟨g, cap, cur, e1, e2, (hk g (by rw [e1]; rfl) (row_lt e3)).trans e3, rest⟩
theorem or_more {B og : Nat} {S : Nat → Prop} {w Z : World} {o : Ora} {dv lv : Value} {lds : List Value} {t : TypeId} {q : Qn} {D : List UInt8} {v1 : Value} {g cap2 H : Nat}
    (ho : OR B og S w o dv lv lds t) (hB : B ≤ w.heap.size) (hqk : q.key.length = 32) (hD : D.length = 32) (hfr : Fr (fun k => k = og ∨ lv.ownBlock = some k) w Z)
    (hrow : Z.heap[og]? = some (.cells (oL o.ideal o.master dv (o.used + 1) (.slice (some ⟨g, 0, none⟩) (o.log.length + 1) cap2)).toArray t (0, 0)))
    (hown : Z.ownsRow B 140 67 (.slice (some ⟨g, 0, none⟩) (o.log.length + 1) cap2) (o.log.length + 1) (lC o.log lds ++ aL (q, D) v1))
    (hg : lv.ownBlock = some g ∨ g = H) (hH : w.heap.size ≤ H) (hgZ : g < Z.heap.size) (hdat : HB Z v1 q.data) (hv : ∀ k, v1.ownBlock = some k → w.heap.size ≤ k ∧ k < H ∧ k < Z.heap.size) :
    Fr S w Z ∧ OR B og (fun k => S k ∨ (w.heap.size ≤ k ∧ k < Z.heap.size)) Z { o with used := o.used + 1, log := o.log ++ [(q, D)] } dv (.slice (some ⟨g, 0, none⟩) (o.log.length + 1) cap2) (lds ++ [v1]) t := by
  have hog := row_lt ho.row
  have hlw : ∀ k, lv.ownBlock = some k → k < w.heap.size := fun k e => (ho.log.2.2.1.lt k e).2
  have hS : Fr S w Z := ⟨hfr.os, hfr.tape, hfr.output, hfr.size, fun k hk hs => hfr.block k hk (fun h => h.elim (fun e => hs (e ▸ ho.sog)) (fun e => hs (ho.slog k e).1))⟩
  refine ⟨hS, ho.ml, hrow, hds_keepN ho.draws (fun hne k e hl => hS.block k hl (fun hs => by have := ho.low k hs; have := ho.dlow hne k e; omega)), ho.dlow, ⟨?_, ?_, ?_, ?_⟩, .inl ho.sog, ?_, ?_, ?_, fun k hk => hk.elim (fun h => Nat.lt_of_lt_of_le (ho.top k h) hfr.size) (fun h => h.2)⟩
  · intro e he
    rcases List.mem_append.1 he with he | he
    · exact ho.log.1 e he
    · obtain rfl := List.mem_singleton.1 he
      exact ⟨hqk, hD⟩
  · simp [ho.log.2.1]
  · show Z.ownsRow B _ 67 _ (o.log ++ [(q, D)]).length (lC (o.log ++ [(q, D)]) (lds ++ [v1]))
    rw [lC_snoc _ _ _ _ ho.log.2.1, List.length_append]
    exact hown
  · intro i e d he hd
    by_cases hi : i < o.log.length
    · rw [List.getElem?_append_left hi] at he
      rw [List.getElem?_append_left (by rw [ho.log.2.1]; exact hi)] at hd
      refine hb_keep (ho.log.2.2.2 i e d he hd) (fun k ek hl => hfr.block k hl (fun h => ?_))
      have hs := ho.sdat d (List.mem_of_getElem? hd) k ek
      rcases h with h | h
      · exact hs.2.1 h
      · exact hs.2.2.2 h
    · rw [List.getElem?_append_right (by omega)] at he
      rw [List.getElem?_append_right (by rw [ho.log.2.1]; omega)] at hd
      have he' := List.mem_singleton.1 (List.mem_of_getElem? he)
      have hd' := List.mem_singleton.1 (List.mem_of_getElem? hd)
      subst he' hd'
      exact hdat
  · intro k e
    have ek : g = k := by simpa [Value.ownBlock] using e
    subst ek
    rcases hg with hg | hg
    · exact ⟨.inl (ho.slog g hg).1, (ho.slog g hg).2⟩
    · exact ⟨.inr ⟨by omega, hgZ⟩, by omega⟩
  · intro d hd k e
    rcases List.mem_append.1 hd with hd | hd
    · have hs := ho.sdat d hd k e
      refine ⟨.inl hs.1, hs.2.1, Nat.lt_of_lt_of_le hs.2.2.1 hfr.size, fun ek => ?_⟩
      have ek : g = k := by simpa [Value.ownBlock] using ek
      subst ek
      rcases hg with hg | hg
      · exact hs.2.2.2 hg
      · have := hs.2.2.1; omega
    · obtain rfl := List.mem_singleton.1 hd
      have hs := hv k e
      refine ⟨.inr ⟨hs.1, hs.2.2⟩, by omega, hs.2.2, fun ek => ?_⟩
      have ek : g = k := by simpa [Value.ownBlock] using ek
      subst ek
      rcases hg with hg | hg
      · have := hlw g hg; omega
      · omega
  · intro k hk
    rcases hk with hk | hk
    · exact ho.low k hk
    · omega
structure Pra where
  ideal : Bool
  master : List UInt8
  draws : List (List UInt8)
  log : List (Qn × List UInt8)
def pL (ideal : Bool) (m : List UInt8) (dv ov : Value) (mb : Nat) : List Value := .bool ideal :: (m.map B8 ++ [dv, ov, .map (some mb)])
theorem pL_len (i : Bool) (m : List UInt8) (dv ov : Value) (mb : Nat) (h : m.length = 32) : (pL i m dv ov mb).length = 36 := by unfold pL; simp [h]
theorem pL_0 (i : Bool) (m : List UInt8) (dv ov : Value) (mb : Nat) : (pL i m dv ov mb).toArray[0]? = some (.bool i) := by unfold pL; simp
theorem pL_at (i : Bool) (m : List UInt8) (dv ov : Value) (mb : Nat) (h : m.length = 32) (j : Nat) : (pL i m dv ov mb).toArray[33 + j]? = [dv, ov, .map (some mb)][j]? := by
  unfold pL
  rw [List.getElem?_toArray, show 33 + j = (32 + j) + 1 by omega, List.getElem?_cons_succ, List.getElem?_append_right (by simp [h])]
  simp [h]
theorem pL_set34 (i : Bool) (m : List UInt8) (dv ov : Value) (mb : Nat) (h : m.length = 32) (ov' : Value) : (pL i m dv ov mb).toArray.setIfInBounds 34 ov' = (pL i m dv ov' mb).toArray := by
  unfold pL
  rw [List.setIfInBounds_toArray, show (34 : Nat) = 33 + 1 from rfl, List.set_cons_succ, List.set_append_right _ _ (by simp [h])]
  simp [h]
def kC (l : List (Qn × List UInt8)) : List Value := l.flatMap fun x => kL x.1
structure PO (B og mb : Nat) (S : Nat → Prop) (w : World) (o : Pra) (dv ov : Value) : Prop where
  ml : o.master.length = 32
  row : w.heap[og]? = some (.cells (pL o.ideal o.master dv ov mb).toArray 116 (0, 0))
  draws : HDs w dv o.draws
  dro : ∀ k, dv.ownBlock = some k → ¬ S k ∧ k < w.heap.size
  ok : lOk o.log
  order : w.ownsRow B 120 35 ov o.log.length (kC o.log)
  map : MH w mb o.log
  sog : S og
  smb : S mb
  sov : ∀ k, ov.ownBlock = some k → S k ∧ k ≠ og
  low : ∀ k, S k → B ≤ k
  top : ∀ k, S k → k < w.heap.size
section
variable {B og mb : Nat} {S : Nat → Prop} {w : World} {o : Pra} {dv ov : Value}
theorem PO.ne (h : PO B og mb S w o dv ov) : mb ≠ og := fun e => by
  obtain ⟨es, c, h1, _⟩ := h.map
  rw [e, h.row] at h1
  cases h1
theorem PO.ovne (h : PO B og mb S w o dv ov) : ov.ownBlock ≠ some mb := fun e => by
  obtain ⟨es, c, h1, _⟩ := h.map
  rcases h.order.2 with ⟨e1, _⟩ | ⟨g, cap, cur, e1, _, e3, _⟩
  · rw [e1] at e; cases e
  · rw [e1] at e
    have e' : g = mb := by simpa [Value.ownBlock] using e
    rw [e', h1] at e3
    cases e3
theorem PO.keep {w' : World} (h : PO B og mb S w o dv ov) (hs : w.heap.size ≤ w'.heap.size) (hk : ∀ k, k < w.heap.size → (S k ∨ dv.ownBlock = some k) → w'.heap[k]? = w.heap[k]?) : PO B og mb S w' o dv ov :=
  ⟨h.ml, (hk og (row_lt h.row) (.inl h.sog)).trans h.row, hds_keep h.draws (fun k e hl => hk k hl (.inr e)), fun k e => ⟨(h.dro k e).1, Nat.lt_of_lt_of_le (h.dro k e).2 hs⟩, h.ok,
    own_keep h.order (fun k e hl => hk k hl (.inl (h.sov k e).1)), h.map.keep (hk mb h.map.lt (.inl h.smb)), h.sog, h.smb, h.sov, h.low, fun k hk => Nat.lt_of_lt_of_le (h.top k hk) hs⟩
theorem PO.below {w' : World} (h : PO B og mb S w o dv ov) (hb : Below w.heap.size w w') : PO B og mb S w' o dv ov := h.keep hb.size (fun k hk _ => hb.block k hk)
theorem PO.more {S' : Nat → Prop} (h : PO B og mb S w o dv ov) (hs : ∀ k, S k → S' k) (hl : ∀ k, S' k → S k ∨ dv.ownBlock ≠ some k) (hl2 : ∀ k, S' k → B ≤ k ∧ k < w.heap.size) : PO B og mb S' w o dv ov :=
  ⟨h.ml, h.row, h.draws, fun k e => ⟨fun hs' => (hl k hs').elim (h.dro k e).1 (fun hg => hg e), (h.dro k e).2⟩, h.ok, h.order, h.map, hs _ h.sog, hs _ h.smb, fun k e => ⟨hs _ (h.sov k e).1, (h.sov k e).2⟩, fun k hk => (hl2 k hk).1, fun k hk => (hl2 k hk).2⟩
theorem PO.grow {w' : World} (h : PO B og mb S w o dv ov) (hb : Below w.heap.size w w') (hB : B ≤ w.heap.size) : PO B og mb (fun k => S k ∨ (w.heap.size ≤ k ∧ k < w'.heap.size)) w' o dv ov :=
  (h.below hb).more (fun k h => .inl h) (fun k hk => hk.imp id (fun hg e => by have := (h.dro k e).2; omega)) (fun k hk => hk.elim (fun hk => ⟨h.low k hk, Nat.lt_of_lt_of_le (h.top k hk) hb.size⟩) (fun hk => ⟨by omega, hk.2⟩))
theorem PO.cells (h : PO B og mb S w o dv ov) : w.cell? ⟨og, 0, none⟩ = some (.bool o.ideal) ∧ w.cell? ⟨og, 33, none⟩ = some dv ∧ w.cell? ⟨og, 34, none⟩ = some ov ∧ w.cell? ⟨og, 35, none⟩ = some (.map (some mb)) ∧ w.frozen? ⟨og, 34, none⟩ = false := by
  refine ⟨?_, ?_, ?_, ?_, frozen_of_row _ _ 34 _ _ h.row⟩
  · rw [cell_of_row _ _ 0 _ _ _ h.row]; exact pL_0 _ _ _ _ _
  · rw [cell_of_row _ _ 33 _ _ _ h.row]; exact pL_at _ _ _ _ _ h.ml 0
  · rw [cell_of_row _ _ 34 _ _ _ h.row]; exact pL_at _ _ _ _ _ h.ml 1
  · rw [cell_of_row _ _ 35 _ _ _ h.row]; exact pL_at _ _ _ _ _ h.ml 2
theorem PO.master (h : PO B og mb S w o dv ov) : w.rangeAt og 1 (o.master.map B8) := fun j v hv => by
  rw [cell_of_row _ _ (1 + j) _ _ _ h.row]
  have hj : j < o.master.length := by have := (List.getElem?_eq_some_iff.1 hv).1; simpa using this
  unfold pL
  rw [List.getElem?_toArray, show 1 + j = j + 1 by omega, List.getElem?_cons_succ, List.getElem?_append_left (by simpa using hj)]
  exact hv
theorem PO.ordV (h : PO B og mb S w o dv ov) : ∃ p cap, ov = .slice p o.log.length cap := by
  rcases h.order.2 with ⟨e1, e2⟩ | ⟨g, cap, cur, e1, _⟩
  · exact ⟨none, 0, by rw [e1, e2]⟩
  · exact ⟨_, cap, e1⟩
end
theorem none_no (og mb : Nat) (w : World) (hc : w.cell? ⟨og, 35, none⟩ = some (.map (some mb))) : Calls Tryz.prog 56 #[.pointer (some ⟨og, 0, none⟩)] w fun e w' => e = .returned (.bool false) ∧ w' = w := by
  have qT : ∀ (w : World) (r : Option Nat), (binOp .eql 114 (.map r) (.map none)).run Tryz.prog w = .ok (.bool r.isNone) w := fun w r => run_eql_map_nil w _ _ _ r Tryz.underlying114
  go_enter Tryz.func56, Tryz.ntmps56
  go_wp2
  go_ret
  exact ⟨rfl, rfl⟩
theorem none_nil (w : World) : Calls Tryz.prog 56 #[.pointer none] w fun e w' => e = .returned (.bool true) ∧ w' = w := by
  go_enter Tryz.func56, Tryz.ntmps56
  go_wp2
  go_ret
  exact ⟨rfl, rfl⟩
end Go.Proofs.YtekbppfocnbhbaaGreat.R5
