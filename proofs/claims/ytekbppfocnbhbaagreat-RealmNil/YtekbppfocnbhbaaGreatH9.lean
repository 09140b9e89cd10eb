/- An oracle of ref 5 in memory; rows of one more question. -/
import Derived.Test.YtekbppfocnbhbaaGreatF9
import Derived.Great.BuildSlice
set_option linter.unusedVariables false
set_option linter.unusedSimpArgs false
namespace Go.Proofs.YtekbppfocnbhbaaGreat.R5
open scoped Classical
open Go.RowKit

/-- The cells of an oracle. -/
def oL (ideal : Bool) (m : List UInt8) (dv : Value) (u : Nat) (lv : Value) : List Value := .bool ideal :: (m.map B8 ++ [dv, .int .i64 (u : Int), lv])
theorem oL_len (i : Bool) (m : List UInt8) (dv : Value) (u : Nat) (lv : Value) (h : m.length = 32) : (oL i m dv u lv).length = 36 := by unfold oL; simp [h]
theorem oL_0 (i : Bool) (m : List UInt8) (dv : Value) (u : Nat) (lv : Value) : (oL i m dv u lv).toArray[0]? = some (.bool i) := by unfold oL; simp
theorem oL_at (i : Bool) (m : List UInt8) (dv : Value) (u : Nat) (lv : Value) (h : m.length = 32) (j : Nat) : (oL i m dv u lv).toArray[33 + j]? = [dv, .int .i64 (u : Int), lv][j]? := by
  unfold oL
  rw [List.getElem?_toArray, show 33 + j = (32 + j) + 1 by omega, List.getElem?_cons_succ, List.getElem?_append_right (by simp [h])]
  simp [h]
theorem oL_33 (i : Bool) (m : List UInt8) (dv : Value) (u : Nat) (lv : Value) (h : m.length = 32) : (oL i m dv u lv).toArray[33]? = some dv := oL_at i m dv u lv h 0
theorem oL_34 (i : Bool) (m : List UInt8) (dv : Value) (u : Nat) (lv : Value) (h : m.length = 32) : (oL i m dv u lv).toArray[34]? = some (.int .i64 (u : Int)) := oL_at i m dv u lv h 1
theorem oL_35 (i : Bool) (m : List UInt8) (dv : Value) (u : Nat) (lv : Value) (h : m.length = 32) : (oL i m dv u lv).toArray[35]? = some lv := oL_at i m dv u lv h 2
theorem cons_of {α : Type} {l : List α} {n : Nat} (h : l.length = n + 1) : ∃ a t, l = a :: t ∧ t.length = n := by
  cases l with
  | nil => simp at h
  | cons a t => exact ⟨a, t, rfl, by simpa using h⟩
theorem oL_set34 (i : Bool) (m : List UInt8) (dv : Value) (u : Nat) (lv : Value) (h : m.length = 32) (u' : Nat) : (oL i m dv u lv).toArray.setIfInBounds 34 (.int .i64 (u' : Int)) = (oL i m dv u' lv).toArray := by
  unfold oL
  rw [List.setIfInBounds_toArray, show (34 : Nat) = 33 + 1 from rfl, List.set_cons_succ, List.set_append_right _ _ (by simp [h])]
  simp [h]
theorem oL_set35 (i : Bool) (m : List UInt8) (dv : Value) (u : Nat) (lv : Value) (h : m.length = 32) (lv' : Value) : (oL i m dv u lv).toArray.setIfInBounds 35 lv' = (oL i m dv u lv').toArray := by
  unfold oL
  rw [List.setIfInBounds_toArray, show (35 : Nat) = 34 + 1 from rfl, List.set_cons_succ, List.set_append_right _ _ (by simp [h])]
  simp [h]
theorem qL_set34 (q : Qn) (dv dv' : Value) (h : q.key.length = 32) : (qL q dv).toArray.setIfInBounds 34 dv' = (qL q dv').toArray := by
  unfold qL
  rw [List.setIfInBounds_toArray, show (34 : Nat) = 33 + 1 from rfl, List.set_cons_succ, List.set_append_right _ _ (by simp [h])]
  simp [h]

/-- The zero of a question with its answer. -/
def zAk : List Value := qL ⟨0, List.replicate 32 0, 0, []⟩ (.slice none 0 0) ++ (List.replicate 32 0).map B8
theorem infoAk : (Tryz.prog.info? 140).map (fun i => (i.zero, i.size, i.bytes)) = some (some (.agg zAk.toArray), 67, 104) := by kernel_rfl

set_option maxHeartbeats 4000000 in
set_option maxRecDepth 100000 in
theorem build_asked (w : World) (QL DL : List Value) (h1 : QL.length = 35) (h2 : DL.length = 32) : (Instr.build 140 #[(0, .agg QL.toArray), (1, .agg DL.toArray)]).run Tryz.prog w = .ok (.agg (QL ++ DL).toArray) w := by
  iterate 35 (obtain ⟨_, _, e, g⟩ := cons_of h1; clear h1; subst e; have h1 := g; clear g)
  obtain rfl := List.eq_nil_of_length_eq_zero h1
  iterate 32 (obtain ⟨_, _, e, g⟩ := cons_of h2; clear h2; subst e; have h2 := g; clear g)
  obtain rfl := List.eq_nil_of_length_eq_zero h2
  show _ = _
  kernel_rfl
set_option maxHeartbeats 4000000 in
set_option maxRecDepth 100000 in
theorem fill_asked (AL : List Value) (h : AL.length = 67) : Instr.fill (fun i => some (i * 67, 67)) ((Array.range (1 * 67)).map ((Value.agg zAk.toArray).cells[· % (Value.agg zAk.toArray).cells.size]!)) [(0, .agg AL.toArray)] = some AL.toArray := by
  iterate 67 (obtain ⟨_, _, e, g⟩ := cons_of h; clear h; subst e; have h := g; clear g)
  obtain rfl := List.eq_nil_of_length_eq_zero h
  show _ = _
  kernel_rfl

theorem hb_keep {w w' : World} {v : Value} {l : List UInt8} (h : HB w v l) (hk : ∀ k, v.ownBlock = some k → k < w.heap.size → w'.heap[k]? = w.heap[k]?) : HB w' v l := by
  rcases h with ⟨h1, h2⟩ | ⟨b, o, cap, h1, h2, h3, h4⟩
  · exact .inl ⟨h1, h2⟩
  · refine .inr ⟨b, o, cap, h1, h2, h3, fun i hi => ?_⟩
    have hc := h4 i hi
    have hb := hk b (by rw [h1]; rfl) (block_lt hc)
    exact (World.cell?_of_block (a := ⟨b, o + i, none⟩) hb).trans hc
theorem hds_keep {w w' : World} {v : Value} {ds : List (List UInt8)} (h : HDs w v ds) (hk : ∀ k, v.ownBlock = some k → k < w.heap.size → w'.heap[k]? = w.heap[k]?) : HDs w' v ds := by
  obtain ⟨h0, p, cap, h1, h2⟩ := h
  refine ⟨h0, p, cap, h1, fun i hi => ?_⟩
  obtain ⟨b, o, e, hr⟩ := h2 i hi
  refine ⟨b, o, e, fun j u hu => ?_⟩
  have hc := hr j u hu
  exact (World.cell?_of_block (a := ⟨b, o + i * 32 + j, none⟩) (hk b (by rw [h1, e]; rfl) (block_lt hc))).trans hc
theorem hds_keepN {w w' : World} {v : Value} {ds : List (List UInt8)} (h : HDs w v ds) (hk : ds ≠ [] → ∀ k, v.ownBlock = some k → k < w.heap.size → w'.heap[k]? = w.heap[k]?) : HDs w' v ds := by
  by_cases hd : ds = []
  · subst hd
    obtain ⟨h0, p, cap, h1, _⟩ := h
    exact ⟨h0, p, cap, h1, fun i hi => by simp at hi⟩
  · exact hds_keep h (hk hd)
theorem hlg_keep {B : Nat} {w w' : World} {lv : Value} {l : List (Qn × List UInt8)} {lds : List Value} (h : HLg B w lv l lds) (hk : ∀ k, (lv.ownBlock = some k ∨ ∃ d ∈ lds, d.ownBlock = some k) → k < w.heap.size → w'.heap[k]? = w.heap[k]?) : HLg B w' lv l lds := by
  obtain ⟨h1, h2, h3, h4⟩ := h
  refine ⟨h1, h2, ⟨h3.1, ?_⟩, fun i e d he hd => hb_keep (h4 i e d he hd) (fun k hd' => hk k (.inr ⟨d, List.mem_of_getElem? hd, hd'⟩))⟩
  rcases h3.2 with hn | ⟨g, cap, cur, e1, e2, e3, rest⟩
  · exact .inl hn
  · exact .inr ⟨g, cap, cur, e1, e2, (hk g (.inl (by rw [e1]; rfl)) (row_lt e3)).trans e3, rest⟩

/-- All blocks stay but those of a set. -/
structure Fr (S : Nat → Prop) (w w' : World) : Prop where
  os : w'.os = w.os
  tape : w'.tape = w.tape
  output : w'.output = w.output
  size : w.heap.size ≤ w'.heap.size
  block : ∀ k, k < w.heap.size → ¬ S k → w'.heap[k]? = w.heap[k]?
theorem Fr.refl (S : Nat → Prop) (w : World) : Fr S w w := ⟨rfl, rfl, rfl, Nat.le_refl _, fun _ _ _ => rfl⟩
theorem Fr.trans {S T : Nat → Prop} {a b c : World} (h : Fr S a b) (g : Fr T b c) (hT : ∀ k, T k → S k ∨ a.heap.size ≤ k) : Fr S a c :=
  ⟨g.os.trans h.os, g.tape.trans h.tape, g.output.trans h.output, Nat.le_trans h.size g.size, fun k hk hs => (g.block k (Nat.lt_of_lt_of_le hk h.size) (fun ht => (hT k ht).elim hs (fun h2 => by omega))).trans (h.block k hk hs)⟩
theorem Fr.ofBelow {S : Nat → Prop} {w w' : World} (h : Below w.heap.size w w') : Fr S w w' := ⟨h.os, h.tape, h.output, h.size, fun k hk _ => h.block k hk⟩
theorem Fr.then {S : Nat → Prop} {a b c : World} (h : Fr S a b) (g : Below b.heap.size b c) : Fr S a c := h.trans (T := fun _ => False) (Fr.ofBelow g) (fun _ hf => hf.elim)
theorem Fr.setCell {S : Nat → Prop} {a b : World} (h : Fr S a b) (g o : Nat) (v : Value) (hg : S g ∨ a.heap.size ≤ g) : Fr S a (b.setCell ⟨g, o, none⟩ v) := by
  have hb : Below g b (b.setCell ⟨g, o, none⟩ v) := (Below.refl _ _).setCell (p := ⟨g, o, none⟩) (by simp) _
  refine ⟨hb.os.trans h.os, hb.tape.trans h.tape, hb.output.trans h.output, Nat.le_trans h.size hb.size, fun k hk hs => ?_⟩
  have hne : k ≠ g := fun e => hg.elim (fun hh => hs (e ▸ hh)) (fun hh => by omega)
  exact (heap_setCell_other _ _ _ _ (by simpa using hne)).trans (h.block k hk hs)
theorem Fr.setRow {S : Nat → Prop} {a b : World} (h : Fr S a b) (g : Nat) (N : Array Value) (hg : S g ∨ a.heap.size ≤ g) : Fr S a (b.setRow g N) := by
  have hb : Below g b (b.setRow g N) := below_setRow (Below.refl _ _) (Nat.le_refl _) _
  refine ⟨hb.os.trans h.os, hb.tape.trans h.tape, hb.output.trans h.output, Nat.le_trans h.size hb.size, fun k hk hs => ?_⟩
  have hne : k ≠ g := fun e => hg.elim (fun hh => hs (e ▸ hh)) (fun hh => by omega)
  exact (setRow_other _ _ _ _ hne).trans (h.block k hk hs)
theorem Fr.grown {S : Nat → Prop} {a b c : World} {row : Option Nat} (h : Fr S a b) (g : b.grownBy c row) (hr : ∀ k, row = some k → S k ∨ a.heap.size ≤ k) : Fr S a c :=
  ⟨g.os.trans h.os, g.tape.trans h.tape, g.output.trans h.output, Nat.le_trans h.size g.size, fun k hk hs => (g.block k (Nat.lt_of_lt_of_le hk h.size) (fun e => (hr k e.symm).elim hs (fun h2 => by omega))).trans (h.block k hk hs)⟩

/-- What an oracle knows. -/
structure Ora where
  ideal : Bool
  master : List UInt8
  draws : List (List UInt8)
  used : Nat
  log : List (Qn × List UInt8)
/-- An oracle in memory, at og, with all that is its own in S, from B on. -/
structure OR (B og : Nat) (S : Nat → Prop) (w : World) (o : Ora) (dv lv : Value) (lds : List Value) (t : TypeId) : Prop where
  ml : o.master.length = 32
  row : w.heap[og]? = some (.cells (oL o.ideal o.master dv o.used lv).toArray t (0, 0))
  draws : HDs w dv o.draws
  dlow : o.draws ≠ [] → ∀ k, dv.ownBlock = some k → k < B
  log : HLg B w lv o.log lds
  sog : S og
  slog : ∀ k, lv.ownBlock = some k → S k ∧ k ≠ og
  sdat : ∀ d ∈ lds, ∀ k, d.ownBlock = some k → S k ∧ k ≠ og ∧ k < w.heap.size ∧ lv.ownBlock ≠ some k
  low : ∀ k, S k → B ≤ k
  top : ∀ k, S k → k < w.heap.size
theorem OR.keep {B og : Nat} {S : Nat → Prop} {w w' : World} {o : Ora} {dv lv : Value} {lds : List Value} {t : TypeId} (h : OR B og S w o dv lv lds t) (hs : w.heap.size ≤ w'.heap.size) (hk : ∀ k, k < w.heap.size → (S k ∨ k < B) → w'.heap[k]? = w.heap[k]?) : OR B og S w' o dv lv lds t :=
  ⟨h.ml, (hk og (row_lt h.row) (.inl h.sog)).trans h.row, hds_keepN h.draws (fun hne k e hl => hk k hl (.inr (h.dlow hne k e))), h.dlow,
    hlg_keep h.log (fun k e hl => hk k hl (.inl (e.elim (fun e => (h.slog k e).1) (fun ⟨d, hd, e⟩ => (h.sdat d hd k e).1)))), h.sog, h.slog,
    fun d hd k e => ⟨(h.sdat d hd k e).1, (h.sdat d hd k e).2.1, Nat.lt_of_lt_of_le (h.sdat d hd k e).2.2.1 hs, (h.sdat d hd k e).2.2.2⟩, h.low, fun k hk => Nat.lt_of_lt_of_le (h.top k hk) hs⟩
theorem OR.more {B og : Nat} {S S' : Nat → Prop} {w : World} {o : Ora} {dv lv : Value} {lds : List Value} {t : TypeId} (h : OR B og S w o dv lv lds t) (hs : ∀ k, S k → S' k) (hl : ∀ k, S' k → B ≤ k ∧ k < w.heap.size) : OR B og S' w o dv lv lds t :=
  ⟨h.ml, h.row, h.draws, h.dlow, h.log, hs _ h.sog, fun k e => ⟨hs _ (h.slog k e).1, (h.slog k e).2⟩, fun d hd k e => ⟨hs _ (h.sdat d hd k e).1, (h.sdat d hd k e).2⟩, fun k hk => (hl k hk).1, fun k hk => (hl k hk).2⟩

end Go.Proofs.YtekbppfocnbhbaaGreat.R5
