/- cpu: deeds: the map, in whatever order it is made. -/
import Derived.Test.YtkpjfhphohanlaaGreatDoorJI
set_option linter.unusedVariables false
set_option linter.unusedSimpArgs false
namespace Go.Proofs.YtkpjfhphohanlaaGreatDoor.JC
open Go.RowKit
open Go.Proofs.YtkpjfhphohanlaaGreatDoor.EC (row_lt heap_at rangeAt_below rangeAt_row ret_bool ret_i64 beq_int)

def stSide (i t : Nat) : Bool := sideB i t && clN.all (fun x => decide (x.1 ≠ i)) && decide (i ≠ 0) && decide (i ≠ 52) && decide (i ≠ 53)
def clSide (i t k : Nat) : Bool := sideB i t && stN.all (fun x => decide (x.1 ≠ i)) && clN.all (fun x => decide (x.1 = i → x.2.2 = k)) && decide (i ≠ 0) && decide (i ≠ 52) && decide (i ≠ 53)
section
variable {E : Env} {w0 : World} {l : Array Bool} {a : Act} {w : World} {Q : Exit → Act → World → Prop}
theorem st_val {i t : Nat} {X : Op} (h : IV E w0 l a w) (hX : (((regOf Tryz.f28 6)[i]?).map fun o => (o.op, o.dst, o.guard)) = some (X, some t, none)) (hs : stSide i t = true) (hr : ∀ o, o.op = X → (execOp a.eval o).run Tryz.prog w = .ok (.value (sv E t)) w) :
    wpOp Tryz.prog (regOf Tryz.f28 6) Q i (fun a' w' => IV E w0 (l.setIfInBounds i true) a' w') a w := by
  obtain ⟨o, ho, hop, hd, hg⟩ := dOp hX
  unfold stSide at hs
  simp only [Bool.and_eq_true, decide_eq_true_eq, List.all_eq_true] at hs
  obtain ⟨⟨⟨⟨h1, h2⟩, h3⟩, h4⟩, h5⟩ := hs
  have hS : ∀ x ∈ stN, x.1 = i → x.2 = t := by
    unfold sideB at h1
    simp only [Bool.and_eq_true, decide_eq_true_eq, Bool.not_eq_true', List.all_eq_true] at h1
    exact fun x hx e => (h1.1.1.1.1.1.2 x hx).1 e
  refine wpOp_value ho hg (hr o hop) ?_
  rw [hd]
  exact h.put h1 (Below.refl _ _) (fun x hx e => by rw [hS x hx e]) (fun x hx e => absurd e (h2 x hx)) (fun e => absurd e h3) (fun e => by rcases e with e | e; exact absurd e h4; exact absurd e h5)
theorem st_put {i t k : Nat} {fo xo : Operand} {ts : Array TypeId} (h : IV E w0 l a w) (hX : (((regOf Tryz.f28 6)[i]?).map fun o => (o.op, o.dst, o.guard)) = some (.call { callee := .value fo, args := #[xo], argTypes := ts }, some t, none)) (hs : clSide i t k = true) (hk : 2 ≤ k ∧ k ≤ 11) (hf : a.eval fo = E.cp) (hx : a.eval xo = E.fv k) :
    wpOp Tryz.prog (regOf Tryz.f28 6) Q i (fun a' w' => IV E w0 (l.setIfInBounds i true) a' w') a w := by
  obtain ⟨o, ho, hop, hd, hg⟩ := dOp hX
  unfold clSide at hs
  simp only [Bool.and_eq_true, decide_eq_true_eq, List.all_eq_true] at hs
  obtain ⟨⟨⟨⟨⟨h1, h2⟩, h2'⟩, h3⟩, h4⟩, h5⟩ := hs
  have hcl : ∃ f c, E.fv k = cV f c := by unfold Env.fv; split <;> exact ⟨_, _, rfl⟩
  refine wpOp_enter (R := fun v w' => v = cV 50 #[pB w.heap.size, pB E.b2, pB E.b6] ∧ w' = w.alloc (.cells #[E.fv k] 105 (0, 0))) ho hg (run_put hop hf w) ?_ ?_
  · rw [hx]
    exact (put_any (E.fv k) hcl E.b2 E.b6 w).mono fun e w' hh => ⟨_, hh.1, rfl, hh.2⟩
  · rintro v w' ⟨rfl, rfl⟩
    rw [hd]
    refine h.put h1 ((Below.refl _ _).alloc (Nat.le_refl _) _) (fun x hx e => absurd e (h2 x hx)) (fun x hx' e => ?_) (fun e => absurd e h3) (fun e => by rcases e with e | e; exact absurd e h4; exact absurd e h5)
    rw [h2' x hx' e]
    exact .inr (.inr (.inr (.inr (.inl ⟨w.heap.size, by omega, by omega, rfl, heap_alloc_new _ _⟩))))
theorem st_ask {i t k : Nat} {ev x : Int} {fo xo : Operand} {ts : Array TypeId} (h : IV E w0 l a w) (hX : (((regOf Tryz.f28 6)[i]?).map fun o => (o.op, o.dst, o.guard)) = some (.call { callee := .value fo, args := #[.const (.int .i64 ev), xo], argTypes := ts }, some t, none)) (hs : clSide i t k = true) (hk : k = 15 ∧ ev = 2 ∧ x = E.i.d ∨ k = 16 ∧ ev = 1 ∧ x = E.i.imm) (hf : a.eval fo = E.ca) (hx : a.eval xo = .int .i64 x) :
    wpOp Tryz.prog (regOf Tryz.f28 6) Q i (fun a' w' => IV E w0 (l.setIfInBounds i true) a' w') a w := by
  obtain ⟨o, ho, hop, hd, hg⟩ := dOp hX
  unfold clSide at hs
  simp only [Bool.and_eq_true, decide_eq_true_eq, List.all_eq_true] at hs
  obtain ⟨⟨⟨⟨⟨h1, h2⟩, h2'⟩, h3⟩, h4⟩, h5⟩ := hs
  refine wpOp_enter (R := fun v w' => v = cV 52 #[pB E.b6, pB w.heap.size, pB (w.heap.size + 1)] ∧ w' = (w.alloc (.cells #[.int .i64 ev] 51 (0, 0))).alloc (.cells #[.int .i64 x] 3 (0, 0))) ho hg (run_ask hop hf w) ?_ ?_
  · rw [hx]
    exact (ask_any ev x E.b6 w).mono fun e w' hh => ⟨_, hh.1, rfl, hh.2⟩
  · rintro v w' ⟨rfl, rfl⟩
    rw [hd]
    refine h.put h1 (((Below.refl _ _).alloc (Nat.le_refl _) _).alloc (by simp) _) (fun x hx e => absurd e (h2 x hx)) (fun x hx' e => ?_) (fun e => absurd e h3) (fun e => by rcases e with e | e; exact absurd e h4; exact absurd e h5)
    rw [h2' x hx' e]
    refine .inr (.inr (.inr (.inr (.inr ⟨w.heap.size, ev, _, ?_, rfl, ?_, heap_at _ _ _ (by simp)⟩))))
    · rcases hk with ⟨e1, e2, e3⟩ | ⟨e1, e2, e3⟩
      · exact .inl ⟨by omega, e2, e3⟩
      · exact .inr ⟨by omega, e2, e3⟩
    · exact (heap_alloc_old _ _ (by simp)).trans (heap_alloc_new _ _)
theorem st_ins {i k : Nat} {xo : Operand} (h : IV E w0 l a w) (hi : i ∈ Region.ready .any (regOf Tryz.f28 6) l) (hX : (((regOf Tryz.f28 6)[i]?).map fun o => (o.op, o.dst, o.guard)) = some (.insert 82 (.tmp 16) (.const (.int .i64 (k : Int))) xo, none, none)) (hik : (i, k) ∈ inN) (h0 : l.getD 0 false = true) (hG : G E k w (a.eval xo)) :
    wpOp Tryz.prog (regOf Tryz.f28 6) Q i (fun a' w' => IV E w0 (l.setIfInBounds i true) a' w') a w := by
  obtain ⟨o, ho, hop, hd, hg⟩ := dOp hX
  have hb : inN.all (fun x => decide (x.1 < 54)) = true := by decide
  simp only [List.all_eq_true, decide_eq_true_eq] at hb
  obtain ⟨w', hr, hI⟩ := h.ins hik h0 (unlisted (by rw [h.lsz]; exact hb _ hik) hi) hG
  refine wpOp_skip ho hg (run_ins hop hr) ?_
  rw [hd]
  exact hI
theorem ld1 (W : World) (b : Nat) (v : Value) (t : TypeId) (hv : ∃ f c, v = cV f c) (h : W.heap[b]? = some (.cells #[v] t (0, 0))) : (Instr.loadAt 80 (.pointer (some ⟨b, 0, none⟩))).run Tryz.prog W = .ok v W := by
  obtain ⟨f, c, rfl⟩ := hv
  have hc : W.cell? ⟨b, 0, none⟩ = some (cV f c) := by rw [cell_of_row _ _ 0 _ _ _ h]; rfl
  unfold cV at *
  go_simp
theorem ldI (W : World) (b k : Nat) (x : Int) (h : W.cell? ⟨b, k, none⟩ = some (.int .i64 x)) : (Instr.loadAt 3 (.pointer (some ⟨b, k, none⟩))).run Tryz.prog W = .ok (.int .i64 x) W ∧ (Instr.loadAt 2 (.pointer (some ⟨b, k, none⟩))).run Tryz.prog W = .ok (.int .i64 x) W := by
  constructor <;> go_simp
theorem st_0 (h : IV E w0 l a w) (hi : 0 ∈ Region.ready .any (regOf Tryz.f28 6) l) : wpOp Tryz.prog (regOf Tryz.f28 6) Q 0 (fun a' w' => IV E w0 (l.setIfInBounds 0 true) a' w') a w := by
  obtain ⟨o, ho, hop, hd, hg⟩ := dOp (i := 0) (X := .makeMap 82 none) (D := some 16) (by kernel_rfl)
  refine wpOp_value ho hg (run_mk hop w) ?_
  rw [hd]
  exact h.put (by decide) ((Below.refl _ _).alloc (Nat.le_refl _) _) (fun x hx e => absurd e (by revert x; decide)) (fun x hx e => absurd e (by revert x; decide)) (fun _ => ⟨unlisted (by rw [h.lsz]; decide) hi, w.heap.size, rfl, ⟨⟨#[], 0, heap_alloc_new _ _, rfl⟩, fun x hx => (List.not_mem_nil hx).elim⟩, h.bel.size⟩) (fun e => absurd e (by decide))
theorem st_52 (h : IV E w0 l a w) (hi : 52 ∈ Region.ready .any (regOf Tryz.f28 6) l) : wpOp Tryz.prog (regOf Tryz.f28 6) Q 52 (fun a' w' => IV E w0 (l.setIfInBounds 52 true) a' w') a w := by
  obtain ⟨o, ho, hop, hd, hg⟩ := dOp (i := 52) (X := .move (.tmp 16)) (D := some 51) (by kernel_rfl)
  refine wpOp_value ho hg (run_move hop w) ?_
  rw [hd]
  exact h.put (by decide) (Below.refl _ _) (fun x hx e => absurd e (by revert x; decide)) (fun x hx e => absurd e (by revert x; decide)) (fun e => absurd e (by decide)) (fun _ => ⟨dNeed hi (by kernel_rfl), rfl⟩)
theorem st_53 (h : IV E w0 l a w) (hi : 53 ∈ Region.ready .any (regOf Tryz.f28 6) l) : wpOp Tryz.prog (regOf Tryz.f28 6) Q 53 (fun a' w' => IV E w0 (l.setIfInBounds 53 true) a' w') a w := by
  obtain ⟨o, ho, hop, hd, hg⟩ := dOp (i := 53) (X := .assign (.tmp 51)) (D := some 4) (by kernel_rfl)
  refine wpOp_value ho hg (run_assign hop w) ?_
  rw [hd]
  exact h.put (by decide) (Below.refl _ _) (fun x hx e => absurd e (by revert x; decide)) (fun x hx e => absurd e (by revert x; decide)) (fun e => absurd e (by decide)) (fun _ => ⟨dNeed hi (by kernel_rfl), h.f1 (dNeed hi (by kernel_rfl))⟩)
end
theorem stepA {E : Env} {w0 : World} {l : Array Bool} {a : Act} {w : World} {Q : Exit → Act → World → Prop} (i : Nat) (hlo : 0 ≤ i) (hhi : i < 18) (h : IV E w0 l a w) (hi : i ∈ Region.ready .any (regOf Tryz.f28 6) l) : wpOp Tryz.prog (regOf Tryz.f28 6) Q i (fun a' w' => IV E w0 (l.setIfInBounds i true) a' w') a w := by
  have hc : i = 0 ∨ i = 1 ∨ i = 2 ∨ i = 3 ∨ i = 4 ∨ i = 5 ∨ i = 6 ∨ i = 7 ∨ i = 8 ∨ i = 9 ∨ i = 10 ∨ i = 11 ∨ i = 12 ∨ i = 13 ∨ i = 14 ∨ i = 15 ∨ i = 16 ∨ i = 17 := by omega
  rcases hc with rfl | rfl | rfl | rfl | rfl | rfl | rfl | rfl | rfl | rfl | rfl | rfl | rfl | rfl | rfl | rfl | rfl | rfl
  · exact st_0 h hi
  · exact st_val (X := .load 80 (.tmp 6)) (t := 17) h (by kernel_rfl) (by decide) (fun o ho => run_ld ho (h.old 6 (by decide)) w (ld1 w _ _ _ ⟨_, _, rfl⟩ h.sb.go))
  · exact st_ins (xo := .tmp 17) (k := 1) h hi (by kernel_rfl) (by decide) (dNeed hi (by kernel_rfl)) (.inl ⟨.inl rfl, (h.st (1, 17) (by decide) (dNeed hi (by kernel_rfl)))⟩)
  · exact st_val (X := .move (.tmp 8)) (t := 18) h (by kernel_rfl) (by decide) (fun o ho => (run_move ho w).trans (by rw [show a.eval (.tmp 8) = _ from h.old 8 (by decide)]; rfl))
  · exact st_val (X := .makeFunc (.func 53) #[] #[.tmp 5]) (t := 19) h (by kernel_rfl) (by decide) (fun o ho => (run_clo ho w).trans (by rw [show (#[Operand.tmp 5].map a.eval) = #[a.eval (.tmp 5)] by simp, show a.eval (.tmp 5) = _ from h.old 5 (by decide)]; rfl))
  · exact st_put (fo := .tmp 18) (xo := .tmp 19) (ts := #[105]) (t := 20) (k := 2) h (by kernel_rfl) (by decide) (by decide) (h.st (3, 18) (by decide) (dNeed hi (by kernel_rfl))) (h.st (4, 19) (by decide) (dNeed hi (by kernel_rfl)))
  · exact st_ins (xo := .tmp 20) (k := 2) h hi (by kernel_rfl) (by decide) (dNeed hi (by kernel_rfl)) (h.cl (5, 20, 2) (by decide) (dNeed hi (by kernel_rfl)))
  · exact st_val (X := .move (.tmp 8)) (t := 21) h (by kernel_rfl) (by decide) (fun o ho => (run_move ho w).trans (by rw [show a.eval (.tmp 8) = _ from h.old 8 (by decide)]; rfl))
  · exact st_put (fo := .tmp 21) (xo := .func 54) (ts := #[105]) (t := 22) (k := 3) h (by kernel_rfl) (by decide) (by decide) (h.st (7, 21) (by decide) (dNeed hi (by kernel_rfl))) rfl
  · exact st_ins (xo := .tmp 22) (k := 3) h hi (by kernel_rfl) (by decide) (dNeed hi (by kernel_rfl)) (h.cl (8, 22, 3) (by decide) (dNeed hi (by kernel_rfl)))
  · exact st_val (X := .move (.tmp 8)) (t := 23) h (by kernel_rfl) (by decide) (fun o ho => (run_move ho w).trans (by rw [show a.eval (.tmp 8) = _ from h.old 8 (by decide)]; rfl))
  · exact st_put (fo := .tmp 23) (xo := .func 55) (ts := #[105]) (t := 24) (k := 4) h (by kernel_rfl) (by decide) (by decide) (h.st (10, 23) (by decide) (dNeed hi (by kernel_rfl))) rfl
  · exact st_ins (xo := .tmp 24) (k := 4) h hi (by kernel_rfl) (by decide) (dNeed hi (by kernel_rfl)) (h.cl (11, 24, 4) (by decide) (dNeed hi (by kernel_rfl)))
  · exact st_val (X := .move (.tmp 8)) (t := 25) h (by kernel_rfl) (by decide) (fun o ho => (run_move ho w).trans (by rw [show a.eval (.tmp 8) = _ from h.old 8 (by decide)]; rfl))
  · exact st_put (fo := .tmp 25) (xo := .func 56) (ts := #[105]) (t := 26) (k := 5) h (by kernel_rfl) (by decide) (by decide) (h.st (13, 25) (by decide) (dNeed hi (by kernel_rfl))) rfl
  · exact st_ins (xo := .tmp 26) (k := 5) h hi (by kernel_rfl) (by decide) (dNeed hi (by kernel_rfl)) (h.cl (14, 26, 5) (by decide) (dNeed hi (by kernel_rfl)))
  · exact st_val (X := .move (.tmp 8)) (t := 27) h (by kernel_rfl) (by decide) (fun o ho => (run_move ho w).trans (by rw [show a.eval (.tmp 8) = _ from h.old 8 (by decide)]; rfl))
  · exact st_put (fo := .tmp 27) (xo := .func 57) (ts := #[105]) (t := 28) (k := 6) h (by kernel_rfl) (by decide) (by decide) (h.st (16, 27) (by decide) (dNeed hi (by kernel_rfl))) rfl
theorem stepB {E : Env} {w0 : World} {l : Array Bool} {a : Act} {w : World} {Q : Exit → Act → World → Prop} (i : Nat) (hlo : 18 ≤ i) (hhi : i < 36) (h : IV E w0 l a w) (hi : i ∈ Region.ready .any (regOf Tryz.f28 6) l) : wpOp Tryz.prog (regOf Tryz.f28 6) Q i (fun a' w' => IV E w0 (l.setIfInBounds i true) a' w') a w := by
  have hc : i = 18 ∨ i = 19 ∨ i = 20 ∨ i = 21 ∨ i = 22 ∨ i = 23 ∨ i = 24 ∨ i = 25 ∨ i = 26 ∨ i = 27 ∨ i = 28 ∨ i = 29 ∨ i = 30 ∨ i = 31 ∨ i = 32 ∨ i = 33 ∨ i = 34 ∨ i = 35 := by omega
  rcases hc with rfl | rfl | rfl | rfl | rfl | rfl | rfl | rfl | rfl | rfl | rfl | rfl | rfl | rfl | rfl | rfl | rfl | rfl
  · exact st_ins (xo := .tmp 28) (k := 6) h hi (by kernel_rfl) (by decide) (dNeed hi (by kernel_rfl)) (h.cl (17, 28, 6) (by decide) (dNeed hi (by kernel_rfl)))
  · exact st_val (X := .move (.tmp 8)) (t := 29) h (by kernel_rfl) (by decide) (fun o ho => (run_move ho w).trans (by rw [show a.eval (.tmp 8) = _ from h.old 8 (by decide)]; rfl))
  · exact st_put (fo := .tmp 29) (xo := .func 58) (ts := #[105]) (t := 30) (k := 7) h (by kernel_rfl) (by decide) (by decide) (h.st (19, 29) (by decide) (dNeed hi (by kernel_rfl))) rfl
  · exact st_ins (xo := .tmp 30) (k := 7) h hi (by kernel_rfl) (by decide) (dNeed hi (by kernel_rfl)) (h.cl (20, 30, 7) (by decide) (dNeed hi (by kernel_rfl)))
  · exact st_val (X := .move (.tmp 8)) (t := 31) h (by kernel_rfl) (by decide) (fun o ho => (run_move ho w).trans (by rw [show a.eval (.tmp 8) = _ from h.old 8 (by decide)]; rfl))
  · exact st_put (fo := .tmp 31) (xo := .func 59) (ts := #[105]) (t := 32) (k := 8) h (by kernel_rfl) (by decide) (by decide) (h.st (22, 31) (by decide) (dNeed hi (by kernel_rfl))) rfl
  · exact st_ins (xo := .tmp 32) (k := 8) h hi (by kernel_rfl) (by decide) (dNeed hi (by kernel_rfl)) (h.cl (23, 32, 8) (by decide) (dNeed hi (by kernel_rfl)))
  · exact st_val (X := .move (.tmp 8)) (t := 33) h (by kernel_rfl) (by decide) (fun o ho => (run_move ho w).trans (by rw [show a.eval (.tmp 8) = _ from h.old 8 (by decide)]; rfl))
  · exact st_put (fo := .tmp 33) (xo := .func 60) (ts := #[105]) (t := 34) (k := 9) h (by kernel_rfl) (by decide) (by decide) (h.st (25, 33) (by decide) (dNeed hi (by kernel_rfl))) rfl
  · exact st_ins (xo := .tmp 34) (k := 9) h hi (by kernel_rfl) (by decide) (dNeed hi (by kernel_rfl)) (h.cl (26, 34, 9) (by decide) (dNeed hi (by kernel_rfl)))
  · exact st_val (X := .move (.tmp 8)) (t := 35) h (by kernel_rfl) (by decide) (fun o ho => (run_move ho w).trans (by rw [show a.eval (.tmp 8) = _ from h.old 8 (by decide)]; rfl))
  · exact st_put (fo := .tmp 35) (xo := .func 61) (ts := #[105]) (t := 36) (k := 10) h (by kernel_rfl) (by decide) (by decide) (h.st (28, 35) (by decide) (dNeed hi (by kernel_rfl))) rfl
  · exact st_ins (xo := .tmp 36) (k := 10) h hi (by kernel_rfl) (by decide) (dNeed hi (by kernel_rfl)) (h.cl (29, 36, 10) (by decide) (dNeed hi (by kernel_rfl)))
  · exact st_val (X := .move (.tmp 8)) (t := 37) h (by kernel_rfl) (by decide) (fun o ho => (run_move ho w).trans (by rw [show a.eval (.tmp 8) = _ from h.old 8 (by decide)]; rfl))
  · exact st_val (X := .makeFunc (.func 62) #[] #[.tmp 3]) (t := 38) h (by kernel_rfl) (by decide) (fun o ho => (run_clo ho w).trans (by rw [show (#[Operand.tmp 3].map a.eval) = #[a.eval (.tmp 3)] by simp, show a.eval (.tmp 3) = _ from h.old 3 (by decide)]; rfl))
  · exact st_put (fo := .tmp 37) (xo := .tmp 38) (ts := #[105]) (t := 39) (k := 11) h (by kernel_rfl) (by decide) (by decide) (h.st (31, 37) (by decide) (dNeed hi (by kernel_rfl))) (h.st (32, 38) (by decide) (dNeed hi (by kernel_rfl)))
  · exact st_ins (xo := .tmp 39) (k := 11) h hi (by kernel_rfl) (by decide) (dNeed hi (by kernel_rfl)) (h.cl (33, 39, 11) (by decide) (dNeed hi (by kernel_rfl)))
  · exact st_val (X := .load 80 (.tmp 6)) (t := 40) h (by kernel_rfl) (by decide) (fun o ho => run_ld ho (h.old 6 (by decide)) w (ld1 w _ _ _ ⟨_, _, rfl⟩ h.sb.go))
theorem stepC {E : Env} {w0 : World} {l : Array Bool} {a : Act} {w : World} {Q : Exit → Act → World → Prop} (i : Nat) (hlo : 36 ≤ i) (hhi : i < 54) (h : IV E w0 l a w) (hi : i ∈ Region.ready .any (regOf Tryz.f28 6) l) : wpOp Tryz.prog (regOf Tryz.f28 6) Q i (fun a' w' => IV E w0 (l.setIfInBounds i true) a' w') a w := by
  have hc : i = 36 ∨ i = 37 ∨ i = 38 ∨ i = 39 ∨ i = 40 ∨ i = 41 ∨ i = 42 ∨ i = 43 ∨ i = 44 ∨ i = 45 ∨ i = 46 ∨ i = 47 ∨ i = 48 ∨ i = 49 ∨ i = 50 ∨ i = 51 ∨ i = 52 ∨ i = 53 := by omega
  rcases hc with rfl | rfl | rfl | rfl | rfl | rfl | rfl | rfl | rfl | rfl | rfl | rfl | rfl | rfl | rfl | rfl | rfl | rfl
  · exact st_ins (xo := .tmp 40) (k := 12) h hi (by kernel_rfl) (by decide) (dNeed hi (by kernel_rfl)) (.inl ⟨.inr rfl, (h.st (35, 40) (by decide) (dNeed hi (by kernel_rfl)))⟩)
  · exact st_val (X := .load 80 (.tmp 7)) (t := 41) h (by kernel_rfl) (by decide) (fun o ho => run_ld ho (h.old 7 (by decide)) w (ld1 w _ _ _ ⟨_, _, rfl⟩ h.sb.jp))
  · exact st_ins (xo := .tmp 41) (k := 13) h hi (by kernel_rfl) (by decide) (dNeed hi (by kernel_rfl)) (.inr (.inl ⟨rfl, (h.st (37, 41) (by decide) (dNeed hi (by kernel_rfl)))⟩))
  · exact st_val (X := .makeFunc (.func 63) #[] #[.tmp 2, .tmp 6, .tmp 7]) (t := 42) h (by kernel_rfl) (by decide) (fun o ho => (run_clo ho w).trans (by rw [show (#[Operand.tmp 2, Operand.tmp 6, Operand.tmp 7].map a.eval) = #[a.eval (.tmp 2), a.eval (.tmp 6), a.eval (.tmp 7)] by simp, show a.eval (.tmp 2) = _ from h.old 2 (by decide), show a.eval (.tmp 6) = _ from h.old 6 (by decide), show a.eval (.tmp 7) = _ from h.old 7 (by decide)]; rfl))
  · exact st_ins (xo := .tmp 42) (k := 14) h hi (by kernel_rfl) (by decide) (dNeed hi (by kernel_rfl)) (.inr (.inr (.inl ⟨rfl, (h.st (39, 42) (by decide) (dNeed hi (by kernel_rfl)))⟩)))
  · exact st_val (X := .move (.tmp 9)) (t := 43) h (by kernel_rfl) (by decide) (fun o ho => (run_move ho w).trans (by rw [show a.eval (.tmp 9) = _ from h.old 9 (by decide)]; rfl))
  · exact st_val (X := .fieldAddr 41 (.tmp 2) 1) (t := 44) h (by kernel_rfl) (by decide) (fun o ho => run_fld ho (by decide) (h.old 2 (by decide)) w)
  · exact st_val (X := .load 3 (.tmp 44)) (t := 45) h (by kernel_rfl) (by decide) (fun o ho => run_ld ho (h.st (42, 44) (by decide) (dNeed hi (by kernel_rfl))) w (ldI w _ _ _ ((fields5 _ _ _ _ _ h.sb.i 1).trans rfl)).1)
  · exact st_ask (ev := 2) (fo := .tmp 43) (xo := .tmp 45) (ts := #[51, 3]) (t := 46) (k := 15) h (by kernel_rfl) (by decide) (.inl ⟨rfl, rfl, rfl⟩) (h.st (41, 43) (by decide) (dNeed hi (by kernel_rfl))) (h.st (43, 45) (by decide) (dNeed hi (by kernel_rfl)))
  · exact st_ins (xo := .tmp 46) (k := 15) h hi (by kernel_rfl) (by decide) (dNeed hi (by kernel_rfl)) (h.cl (44, 46, 15) (by decide) (dNeed hi (by kernel_rfl)))
  · exact st_val (X := .move (.tmp 9)) (t := 47) h (by kernel_rfl) (by decide) (fun o ho => (run_move ho w).trans (by rw [show a.eval (.tmp 9) = _ from h.old 9 (by decide)]; rfl))
  · exact st_val (X := .fieldAddr 41 (.tmp 2) 4) (t := 48) h (by kernel_rfl) (by decide) (fun o ho => run_fld ho (by decide) (h.old 2 (by decide)) w)
  · exact st_val (X := .load 2 (.tmp 48)) (t := 49) h (by kernel_rfl) (by decide) (fun o ho => run_ld ho (h.st (47, 48) (by decide) (dNeed hi (by kernel_rfl))) w (ldI w _ _ _ ((fields5 _ _ _ _ _ h.sb.i 4).trans rfl)).2)
  · exact st_ask (ev := 1) (fo := .tmp 47) (xo := .tmp 49) (ts := #[51, 3]) (t := 50) (k := 16) h (by kernel_rfl) (by decide) (.inr ⟨rfl, rfl, rfl⟩) (h.st (46, 47) (by decide) (dNeed hi (by kernel_rfl))) (h.st (48, 49) (by decide) (dNeed hi (by kernel_rfl)))
  · exact st_ins (xo := .tmp 50) (k := 16) h hi (by kernel_rfl) (by decide) (dNeed hi (by kernel_rfl)) (h.cl (49, 50, 16) (by decide) (dNeed hi (by kernel_rfl)))
  · exact st_ins (xo := .func 64) (k := 17) h hi (by kernel_rfl) (by decide) (dNeed hi (by kernel_rfl)) (.inr (.inr (.inr (.inl ⟨rfl, rfl⟩))))
  · exact st_52 h hi
  · exact st_53 h hi
theorem step_all {E : Env} {w0 : World} {Q : Exit → Act → World → Prop} (l : Array Bool) (a : Act) (w : World) (i : Nat) (h : IV E w0 l a w) (hi : i ∈ Region.ready .any (regOf Tryz.f28 6) l) : wpOp Tryz.prog (regOf Tryz.f28 6) Q i (fun a' w' => IV E w0 (l.setIfInBounds i true) a' w') a w := by
  have h54 : i < 54 := by
    have := (mem_ready.1 hi).1
    rcases Nat.lt_or_ge i l.size with h' | h'
    · rw [h.lsz] at h'; exact h'
    · simp [Array.getD, Nat.not_lt.2 h'] at this
  by_cases h1 : i < 18
  · exact stepA i (Nat.zero_le _) h1 h hi
  · by_cases h2 : i < 36
    · exact stepB i (by omega) h2 h hi
    · exact stepC i (by omega) h54 h hi
/-- Where nothing can come up all has. -/
theorem all_listed {l : Array Bool} (hs : l.size = 54) (hr : Region.ready .any (regOf Tryz.f28 6) l = []) : ∀ n, n < 54 → l.getD n false = true := by
  have hlow : ((List.range 54).all fun i => match (regOf Tryz.f28 6)[i]? with | some o => o.after.all (fun e => decide (e.on < i)) | none => false) = true := by kernel_rfl
  rw [List.all_eq_true] at hlow
  intro n
  induction n using Nat.strongRecOn with
  | ind n ih =>
    intro hn
    have h1 := hlow n (List.mem_range.2 hn)
    cases ho : (regOf Tryz.f28 6)[n]? with
    | none => rw [ho] at h1; cases h1
    | some o =>
      rw [ho] at h1
      simp only [Array.all_eq_true', decide_eq_true_eq] at h1
      cases hl : l.getD n false with
      | true => rfl
      | false =>
        exfalso
        have : n ∈ Region.ready .any (regOf Tryz.f28 6) l := mem_ready.2 ⟨by simp [Array.getD, hs, hn] at hl ⊢; exact hl, o, ho, fun e he hb => ih e.on (h1 e he) (by have := h1 e he; omega)⟩
        rw [hr] at this; cases this
end Go.Proofs.YtkpjfhphohanlaaGreatDoor.JC
