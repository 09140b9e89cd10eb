/- cpu: deeds: the map of what each operation does. -/
import Derived.Test.YtkpjfhphohanlaaGreatDoorJG
set_option linter.unusedVariables false
set_option linter.unusedSimpArgs false
namespace Go.Proofs.YtkpjfhphohanlaaGreatDoor.JC
open Go.RowKit
open Go.Proofs.YtkpjfhphohanlaaGreatDoor.EC (row_lt heap_at rangeAt_below rangeAt_row ret_bool ret_i64 beq_int)

/-- A pointer at a block; a closure. -/
def pB (b : Nat) : Value := .pointer (some ⟨b, 0, none⟩)
def cV (f : Nat) (c : Array Value) : Value := .func (.func f) #[] c
/-- What deeds has made ahead of the map: the instruction, the loaded word, Imm as a word, goOn, jump. -/
structure Env where
  i : Ins
  ld : Int
  b2 : Nat
  b3 : Nat
  b5 : Nat
  b6 : Nat
  b7 : Nat
def Env.f54 (E : Env) : Value := cV 47 #[]
def Env.f55 (E : Env) : Value := cV 48 #[pB E.b5]
def Env.f70 (E : Env) : Value := cV 63 #[pB E.b2, pB E.b6, pB E.b7]
def Env.cp (E : Env) : Value := cV 49 #[pB E.b2, pB E.b6]
def Env.ca (E : Env) : Value := cV 51 #[pB E.b6]
/-- What is reckoned, by the operation. -/
def Env.fv (E : Env) (k : Nat) : Value := match k with
  | 2 => cV 53 #[pB E.b5]
  | 3 => cV 54 #[]
  | 4 => cV 55 #[]
  | 5 => cV 56 #[]
  | 6 => cV 57 #[]
  | 7 => cV 58 #[]
  | 8 => cV 59 #[]
  | 9 => cV 60 #[]
  | 10 => cV 61 #[]
  | _ => cV 62 #[pB E.b3]
structure SB (E : Env) (w : World) : Prop where
  i : w.heap[E.b2]? = some (.cells (iL E.i).toArray 41 (0, 0))
  ld : w.heap[E.b3]? = some (.cells #[.int .u64 E.ld] 36 (0, 0))
  imm : w.heap[E.b5]? = some (.cells #[.int .u64 (IntKind.u64.wrap E.i.imm)] 36 (0, 0))
  go : w.heap[E.b6]? = some (.cells #[E.f54] 80 (0, 0))
  jp : w.heap[E.b7]? = some (.cells #[E.f55] 80 (0, 0))
/-- A block that holds cells stays. -/
def Kc (w w' : World) : Prop := ∀ (b : Nat) (cs : Array Value) (t : TypeId) (fr : Nat × Nat), w.heap[b]? = some (.cells cs t fr) → w'.heap[b]? = some (.cells cs t fr)
theorem Kc.of_below {w w' : World} (h : Below w.heap.size w w') : Kc w w' := fun b cs t fr hb => (h.block b (row_lt hb)).trans hb
theorem Kc.trans {w w' w'' : World} (h : Kc w w') (h' : Kc w' w'') : Kc w w'' := fun b cs t fr hb => h' b cs t fr (h b cs t fr hb)
theorem SB.keep {E : Env} {w w' : World} (h : SB E w) (k : Kc w w') : SB E w' := ⟨k _ _ _ _ h.i, k _ _ _ _ h.ld, k _ _ _ _ h.imm, k _ _ _ _ h.go, k _ _ _ _ h.jp⟩
/-- What stands in the map for an operation. -/
def G (E : Env) (k : Int) (w : World) (v : Value) : Prop :=
  (k = 1 ∨ k = 12) ∧ v = E.f54 ∨ k = 13 ∧ v = E.f55 ∨ k = 14 ∧ v = E.f70 ∨ k = 17 ∧ v = cV 64 #[] ∨
  (∃ r, 2 ≤ k ∧ k ≤ 11 ∧ v = cV 50 #[pB r, pB E.b2, pB E.b6] ∧ w.heap[r]? = some (.cells #[E.fv k.toNat] 105 (0, 0))) ∨
  (∃ r ev x, (k = 15 ∧ ev = 2 ∧ x = E.i.d ∨ k = 16 ∧ ev = 1 ∧ x = E.i.imm) ∧ v = cV 52 #[pB E.b6, pB r, pB (r + 1)] ∧ w.heap[r]? = some (.cells #[.int .i64 ev] 51 (0, 0)) ∧ w.heap[r + 1]? = some (.cells #[.int .i64 x] 3 (0, 0)))
theorem G.keep {E : Env} {k : Int} {w w' : World} {v : Value} (h : G E k w v) (hk : Kc w w') : G E k w' v := by
  rcases h with h | h | h | h | ⟨r, h1, h2, h3, h4⟩ | ⟨r, ev, x, h1, h2, h3, h4⟩
  · exact .inl h
  · exact .inr (.inl h)
  · exact .inr (.inr (.inl h))
  · exact .inr (.inr (.inr (.inl h)))
  · exact .inr (.inr (.inr (.inr (.inl ⟨r, h1, h2, h3, hk _ _ _ _ h4⟩))))
  · exact .inr (.inr (.inr (.inr (.inr ⟨r, ev, x, h1, h2, hk _ _ _ _ h3, hk _ _ _ _ h4⟩))))
def stN : List (Nat × Nat) := [(1, 17), (3, 18), (4, 19), (7, 21), (10, 23), (13, 25), (16, 27), (19, 29), (22, 31), (25, 33), (28, 35), (31, 37), (32, 38), (35, 40), (37, 41), (39, 42), (41, 43), (42, 44), (43, 45), (46, 47), (47, 48), (48, 49)]
def clN : List (Nat × Nat × Nat) := [(5, 20, 2), (8, 22, 3), (11, 24, 4), (14, 26, 5), (17, 28, 6), (20, 30, 7), (23, 32, 8), (26, 34, 9), (29, 36, 10), (33, 39, 11), (44, 46, 15), (49, 50, 16)]
def inN : List (Nat × Nat) := [(2, 1), (6, 2), (9, 3), (12, 4), (15, 5), (18, 6), (21, 7), (24, 8), (27, 9), (30, 10), (34, 11), (36, 12), (38, 13), (40, 14), (45, 15), (50, 16), (51, 17)]
def sv (E : Env) (t : Nat) : Value := match t with
  | 17 => E.f54
  | 18 => E.cp
  | 19 => E.fv 2
  | 21 => E.cp
  | 23 => E.cp
  | 25 => E.cp
  | 27 => E.cp
  | 29 => E.cp
  | 31 => E.cp
  | 33 => E.cp
  | 35 => E.cp
  | 37 => E.cp
  | 38 => E.fv 11
  | 40 => E.f54
  | 41 => E.f55
  | 42 => E.f70
  | 43 => E.ca
  | 44 => .pointer (some ⟨E.b2, 1, none⟩)
  | 45 => .int .i64 E.i.d
  | 47 => E.ca
  | 48 => .pointer (some ⟨E.b2, 4, none⟩)
  | 49 => .int .i64 E.i.imm
  | _ => undef
def oldN : List Nat := [2, 3, 5, 6, 7, 8, 9]
def ov (E : Env) (t : Nat) : Value := match t with
  | 2 => pB E.b2
  | 3 => pB E.b3
  | 5 => pB E.b5
  | 6 => pB E.b6
  | 7 => pB E.b7
  | 8 => E.cp
  | 9 => E.ca
  | _ => undef
/-- While the map is made, in whatever order. -/
structure IV (E : Env) (w0 : World) (l : Array Bool) (a : Act) (w : World) : Prop where
  sb : SB E w
  bel : Below w0.heap.size w0 w
  lsz : l.size = 54
  asz : a.tmps.size = 52
  ad : a.defers = []
  old : ∀ t ∈ oldN, a.tmps.getD t undef = ov E t
  st : ∀ x ∈ stN, l.getD x.1 false = true → a.tmps.getD x.2 undef = sv E x.2
  cl : ∀ x ∈ clN, l.getD x.1 false = true → G E x.2.2 w (a.tmps.getD x.2.1 undef)
  mp : l.getD 0 false = true → ∃ m ml, a.tmps.getD 16 undef = .map (some m) ∧ MF w m ml ∧ w0.heap.size ≤ m ∧ (∀ x ∈ ml, G E x.1 w x.2) ∧ (∀ x ∈ inN, (l.getD x.1 false = true ↔ ∃ v, ((x.2 : Int), v) ∈ ml)) ∧ (∀ x ∈ ml, ∀ y ∈ ml, x.1 = y.1 → x = y)
  no : l.getD 0 false = false → (∀ x ∈ inN, l.getD x.1 false = false) ∧ l.getD 52 false = false ∧ l.getD 53 false = false
  f1 : l.getD 52 false = true → a.tmps.getD 51 undef = a.tmps.getD 16 undef
  f2 : l.getD 53 false = true → a.tmps.getD 4 undef = a.tmps.getD 16 undef
theorem set_getD (l : Array Bool) (i j : Nat) (h : i < l.size) : (l.setIfInBounds i true).getD j false = if i = j then true else l.getD j false := by
  by_cases hij : i = j
  · subst hij; rw [if_pos rfl]; simp [Array.getD, h]
  · rw [if_neg hij]; simp only [Array.getD]; by_cases hj : j < l.size <;> simp [hj, Array.getElem_setIfInBounds, hij]
theorem put_getD (a : Act) (t u : Nat) (v : Value) (h : t < a.tmps.size) : (a.put (some t) v).tmps.getD u undef = if t = u then v else a.tmps.getD u undef := by
  unfold Act.put
  by_cases hij : t = u
  · subst hij; rw [if_pos rfl]; simp [Array.getD, h]
  · rw [if_neg hij]; simp only [Array.getD]; by_cases hj : u < a.tmps.size <;> simp [hj, Array.getElem_setIfInBounds, hij]
def sideB (i t : Nat) : Bool := decide (i < 54) && decide (t < 52) && !(oldN.contains t) && stN.all (fun x => decide (x.1 = i ↔ x.2 = t)) && clN.all (fun x => decide (x.1 = i ↔ x.2.1 = t)) && decide (i = 0 ↔ t = 16) && decide (i = 52 ↔ t = 51) && decide (i = 53 ↔ t = 4) && inN.all (fun x => decide (x.1 ≠ i))
theorem IV.put {E : Env} {w0 : World} {l : Array Bool} {a : Act} {w w' : World} {i t : Nat} {v : Value} (h : IV E w0 l a w) (hs : sideB i t = true) (hb : Below w.heap.size w w')
    (hst : ∀ x ∈ stN, x.1 = i → v = sv E x.2) (hcl : ∀ x ∈ clN, x.1 = i → G E x.2.2 w' v)
    (h0 : i = 0 → l.getD 0 false = false ∧ ∃ m, v = .map (some m) ∧ MF w' m [] ∧ w0.heap.size ≤ m) (h52 : i = 52 ∨ i = 53 → l.getD 0 false = true ∧ v = a.tmps.getD 16 undef) : IV E w0 (l.setIfInBounds i true) (a.put (some t) v) w' := by
  unfold sideB at hs
  simp only [Bool.and_eq_true, decide_eq_true_eq, Bool.not_eq_true', List.all_eq_true] at hs
  obtain ⟨⟨⟨⟨⟨⟨⟨⟨hi, ht⟩, ho⟩, hS⟩, hC⟩, hZ⟩, h51⟩, h4⟩, hN⟩ := hs
  have hil : i < l.size := by rw [h.lsz]; exact hi
  have hta : t < a.tmps.size := by rw [h.asz]; exact ht
  have hk := Kc.of_below hb
  refine ⟨h.sb.keep hk, h.bel.trans (hb.mono h.bel.size), by simp [h.lsz], by simp [Act.put, h.asz], h.ad, ?_, ?_, ?_, ?_, ?_, ?_, ?_⟩
  · intro u hu
    rw [put_getD a t u v hta, if_neg (fun e => by subst e; rw [List.contains_iff_mem.2 hu] at ho; cases ho)]
    exact h.old u hu
  · intro x hx hl
    rw [set_getD l i x.1 hil] at hl
    rw [put_getD a t x.2 v hta]
    by_cases e : x.1 = i
    · rw [if_pos ((hS x hx).1 e).symm]; exact hst x hx e
    · rw [if_neg (fun e' => e ((hS x hx).2 e'.symm))]
      rw [if_neg (fun e' => e e'.symm)] at hl
      exact h.st x hx hl
  · intro x hx hl
    rw [set_getD l i x.1 hil] at hl
    rw [put_getD a t x.2.1 v hta]
    by_cases e : x.1 = i
    · rw [if_pos ((hC x hx).1 e).symm]; exact hcl x hx e
    · rw [if_neg (fun e' => e ((hC x hx).2 e'.symm))]
      rw [if_neg (fun e' => e e'.symm)] at hl
      exact (h.cl x hx hl).keep hk
  · intro hl
    rw [set_getD l i 0 hil] at hl
    rw [put_getD a t 16 v hta]
    by_cases e : i = 0
    · obtain ⟨hl0, m, hv, hm, hge⟩ := h0 e
      rw [if_pos (hZ.1 e)]
      refine ⟨m, [], hv, hm, hge, fun x hx => (List.not_mem_nil hx).elim, fun x hx => ?_, fun x hx => (List.not_mem_nil hx).elim⟩
      rw [set_getD l i x.1 hil, if_neg (fun e' => hN x hx e'.symm)]
      constructor
      · intro e'; rw [(h.no hl0).1 x hx] at e'; cases e'
      · rintro ⟨v', hv'⟩; exact (List.not_mem_nil hv').elim
    · rw [if_neg (fun e' => e (hZ.2 e'))]
      rw [if_neg e] at hl
      obtain ⟨m, ml, h1, h2, h3, h4', h5, h6⟩ := h.mp hl
      refine ⟨m, ml, h1, h2.keep (hb.block m h2.lt), h3, fun x hx => (h4' x hx).keep hk, fun x hx => ?_, h6⟩
      rw [set_getD l i x.1 hil, if_neg (fun e' => hN x hx e'.symm)]
      exact h5 x hx
  · intro hl
    rw [set_getD l i 0 hil] at hl
    by_cases e : i = 0
    · rw [if_pos e] at hl; cases hl
    · rw [if_neg e] at hl
      have hq : ¬ (i = 52 ∨ i = 53) := fun e' => by rw [(h52 e').1] at hl; cases hl
      refine ⟨fun x hx => ?_, ?_, ?_⟩
      · rw [set_getD l i x.1 hil, if_neg (fun e' => hN x hx e'.symm)]
        exact (h.no hl).1 x hx
      · rw [set_getD l i 52 hil, if_neg (fun e' => hq (.inl e'))]; exact (h.no hl).2.1
      · rw [set_getD l i 53 hil, if_neg (fun e' => hq (.inr e'))]; exact (h.no hl).2.2
  · intro hl
    rw [set_getD l i 52 hil] at hl
    rw [put_getD a t 51 v hta, put_getD a t 16 v hta]
    by_cases e : i = 52
    · rw [if_pos (h51.1 e), if_neg (fun e' => by have := hZ.2 e'; omega)]; exact (h52 (.inl e)).2
    · rw [if_neg e] at hl
      rw [if_neg (fun e' => e (h51.2 e'))]
      by_cases e0 : i = 0
      · exfalso; rw [(h.no (h0 e0).1).2.1] at hl; cases hl
      · rw [if_neg (fun e' => e0 (hZ.2 e'))]; exact h.f1 hl
  · intro hl
    rw [set_getD l i 53 hil] at hl
    rw [put_getD a t 4 v hta, put_getD a t 16 v hta]
    by_cases e : i = 53
    · rw [if_pos (h4.1 e), if_neg (fun e' => by have := hZ.2 e'; omega)]; exact (h52 (.inr e)).2
    · rw [if_neg e] at hl
      rw [if_neg (fun e' => e (h4.2 e'))]
      by_cases e0 : i = 0
      · exfalso; rw [(h.no (h0 e0).1).2.2] at hl; cases hl
      · rw [if_neg (fun e' => e0 (hZ.2 e'))]; exact h.f2 hl
theorem Kc.grown {w w' : World} {m : Nat} {ml : List (Int × Value)} (hm : MF w m ml) (hg : w.grownBy w' (some m)) : Kc w w' := fun b cs t fr hb => by
  have hne : b ≠ m := fun e => by
    obtain ⟨es, c, h1, _⟩ := hm.ex
    rw [e, h1] at hb; cases hb
  exact (hg.block b (row_lt hb) (by simp; omega)).trans hb
theorem IV.ins {E : Env} {w0 : World} {l : Array Bool} {a : Act} {w : World} {i k : Nat} {v : Value} (h : IV E w0 l a w) (hik : (i, k) ∈ inN) (hl0 : l.getD 0 false = true) (hun : l.getD i false = false) (hG : G E k w v) :
    ∃ w', (Instr.mapUpdate 82 (a.tmps.getD 16 undef) (.int .i64 k) v).run Tryz.prog w = .ok () w' ∧ IV E w0 (l.setIfInBounds i true) a w' := by
  obtain ⟨m, ml, h1, h2, h3, h4, h5, h6⟩ := h.mp hl0
  have hall : inN.all (fun x => inN.all fun y => decide (x.1 = y.1 ↔ x.2 = y.2)) = true := by decide
  have hbd : inN.all (fun x => decide (x.1 < 54 ∧ x.2 < 18 ∧ x.1 ≠ 0 ∧ x.1 ≠ 52 ∧ x.1 ≠ 53)) = true := by decide
  have hst : inN.all (fun x => stN.all (fun y => decide (y.1 ≠ x.1)) && clN.all (fun y => decide (y.1 ≠ x.1))) = true := by decide
  simp only [List.all_eq_true, decide_eq_true_eq, Bool.and_eq_true] at hall hbd hst
  obtain ⟨b1, b2, b3, b4, b5⟩ := hbd _ hik
  simp only at b1 b2 b3 b4 b5
  have hil : i < l.size := by rw [h.lsz]; exact b1
  have hno : ∀ x ∈ ml, x.1 ≠ (k : Int) := fun x hx e => by
    have := (h5 (i, k) hik).2 ⟨x.2, by show ((k : Int), x.2) ∈ ml; rw [← e]; exact hx⟩
    simp only at this
    rw [hun] at this; cases this
  obtain ⟨w', hr, hm', hg⟩ := mf_new h2 (k := (k : Int)) (by unfold iOk; simp [Lit.wf, IntKind.min, IntKind.max, IntKind.signed, IntKind.bits]; omega) hno v
  have hk : Kc w w' := Kc.grown h2 hg
  refine ⟨w', by rw [h1]; exact hr, h.sb.keep hk, h.bel.grown hg (Nat.le_trans (by have := h.bel.size; omega) (Nat.le_refl _)) (fun q e => by cases e; exact h3), by simp [h.lsz], h.asz, h.ad, h.old, ?_, ?_, ?_, ?_, ?_, ?_⟩
  · intro x hx hl
    rw [set_getD l i x.1 hil, if_neg (fun e => (hst _ hik).1 x hx e.symm)] at hl
    exact h.st x hx hl
  · intro x hx hl
    rw [set_getD l i x.1 hil, if_neg (fun e => (hst _ hik).2 x hx e.symm)] at hl
    exact (h.cl x hx hl).keep hk
  · intro _
    refine ⟨m, ml ++ [((k : Int), v)], h1, hm', h3, ?_, ?_, ?_⟩
    · intro x hx
      rcases List.mem_append.1 hx with hx | hx
      · exact (h4 x hx).keep hk
      · obtain rfl : x = _ := by simpa using hx
        exact hG.keep hk
    · intro x hx
      rw [set_getD l i x.1 hil]
      by_cases e : i = x.1
      · rw [if_pos e]
        have e2 := (hall (i, k) hik x hx).1 e
        exact ⟨fun _ => ⟨v, by rw [← e2]; simp⟩, fun _ => rfl⟩
      · rw [if_neg e, h5 x hx]
        have e2 : x.2 ≠ k := fun e' => e ((hall (i, k) hik x hx).2 e'.symm)
        constructor
        · rintro ⟨u, hu⟩; exact ⟨u, List.mem_append_left _ hu⟩
        · rintro ⟨u, hu⟩
          rcases List.mem_append.1 hu with hu | hu
          · exact ⟨u, hu⟩
          · exfalso; simp at hu; omega
    · intro x hx y hy e
      rcases List.mem_append.1 hx with hx | hx <;> rcases List.mem_append.1 hy with hy | hy
      · exact h6 x hx y hy e
      · obtain rfl : y = _ := by simpa using hy
        exact absurd e (hno x hx)
      · obtain rfl : x = _ := by simpa using hx
        exact absurd e.symm (hno y hy)
      · obtain rfl : x = _ := by simpa using hx
        obtain rfl : y = _ := by simpa using hy
        rfl
  · intro hl
    rw [set_getD l i 0 hil, if_neg b3, hl0] at hl; cases hl
  · intro hl
    rw [set_getD l i 52 hil, if_neg b4] at hl; exact h.f1 hl
  · intro hl
    rw [set_getD l i 53 hil, if_neg b5] at hl; exact h.f2 hl
end Go.Proofs.YtkpjfhphohanlaaGreatDoor.JC
