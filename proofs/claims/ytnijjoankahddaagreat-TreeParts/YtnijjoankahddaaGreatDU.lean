/- tree: is a case small; digests compared; lists as rows of one's own. -/
import Derived.Test.YtnijjoankahddaaGreatDT
import Derived.Test.YtnijjoankahddaaGreatDQ
import Derived.Stop.BytesEq
set_option linter.unusedVariables false
set_option linter.unusedSimpArgs false
namespace Go.Proofs.YtnijjoankahddaaGreat.DC
open Go.RowKit

theorem eqg (t : TypeId) (x y : Operand) (xs ys : Array Value) (W : World) (h : Tryz.prog.eqGuardType Tryz.prog.depth t = false) : (eqGuard .eql t x y (.agg xs) (.agg ys)).run Tryz.prog W = .ok () W := by
  unfold eqGuard
  simp [h]
theorem run_eql {a : Act} {o : Oper} {t u : TypeId} {x y : Operand} {xs ys : Array Value} {w : World} {b : Bool} (ho : o.op = .binOp .eql t x y u) (hx : a.eval x = .agg xs) (hy : a.eval y = .agg ys) (hg : Tryz.prog.eqGuardType Tryz.prog.depth t = false) (hq : (Op.equalIn 10000 t (.agg xs) (.agg ys)).run Tryz.prog w = .ok b w) : (execOp a.eval o).run Tryz.prog w = .ok (.value (.bool b)) w := by
  have h1 := eqg t x y xs ys w hg
  have h2 : (binOp .eql t (.agg xs) (.agg ys)).run Tryz.prog w = .ok (.bool b) w := by
    have e : Op.equal t (.agg xs) (.agg ys) = Op.equalIn 10000 t (.agg xs) (.agg ys) := rfl
    show ((do pure (.bool (← Op.equal t (.agg xs) (.agg ys))) : Sem Value)).run Tryz.prog w = _
    rw [e]
    simp [hq]
  unfold execOp
  simp only [ho, hx, hy, Sem.run_bind, h1, h2, Result.andThen_ok]
  rfl
theorem eqgn (t : TypeId) (x y : Operand) (xs ys : Array Value) (W : World) (h : Tryz.prog.eqGuardType Tryz.prog.depth t = false) : (eqGuard .neq t x y (.agg xs) (.agg ys)).run Tryz.prog W = .ok () W := by
  unfold eqGuard
  simp [h]
theorem run_neq {a : Act} {o : Oper} {t u : TypeId} {x y : Operand} {xs ys : Array Value} {w : World} {b : Bool} (ho : o.op = .binOp .neq t x y u) (hx : a.eval x = .agg xs) (hy : a.eval y = .agg ys) (hg : Tryz.prog.eqGuardType Tryz.prog.depth t = false) (hq : (Op.equalIn 10000 t (.agg xs) (.agg ys)).run Tryz.prog w = .ok b w) : (execOp a.eval o).run Tryz.prog w = .ok (.value (.bool (!b))) w := by
  have h1 := eqgn t x y xs ys w hg
  have h2 : (binOp .neq t (.agg xs) (.agg ys)).run Tryz.prog w = .ok (.bool (!b)) w := by
    have e : Op.equal t (.agg xs) (.agg ys) = Op.equalIn 10000 t (.agg xs) (.agg ys) := rfl
    show ((do pure (.bool (!(← Op.equal t (.agg xs) (.agg ys)))) : Sem Value)).run Tryz.prog w = _
    rw [e]
    simp [hq]
  unfold execOp
  simp only [ho, hx, hy, Sem.run_bind, h1, h2, Result.andThen_ok]
  rfl

theorem gD : Tryz.prog.eqGuardType Tryz.prog.depth 23 = false := by kernel_rfl
theorem eq_dig (w : World) (xs ys : List UInt8) (hx : xs.length = 32) (hy : ys.length = 32) (b : Bool) (h : (xs == ys) = b) : (Op.equalIn 10000 23 (.agg (xs.map B8).toArray) (.agg (ys.map B8).toArray)).run Tryz.prog w = .ok b w := by
  rw [← h]; exact run_equalIn_bytes (P := Tryz.prog) w 9998 23 5 32 Tryz.underlying23 Tryz.underlying5 MC.size_u8 xs ys hx hy
def smB (c : Ca) : Bool := decide (c.D.length ≤ 700 ∧ 1 ≤ c.n ∧ c.n ≤ 80 ∧ c.F.length ≤ 80)
set_option maxHeartbeats 2000000 in
set_option maxRecDepth 100000 in
theorem small_any (X : World) (c : Ca) (pd pf : Option Addr) (capd capf : Nat) (hm : c.m.length = 32) :
    Calls Tryz.prog 6 #[.agg (caL c (.slice pd c.D.length capd) (.slice pf c.F.length capf)).toArray] X fun e Y => e = .returned (.bool (smB c)) ∧ Below X.heap.size X Y := by
  obtain ⟨X0, hX0⟩ : ∃ X0, X0 = X.alloc (.cells (caL c (.slice pd c.D.length capd) (.slice pf c.F.length capf)).toArray 28 (0, 0)) := ⟨_, rfl⟩
  have HB : Hid (Below X.heap.size X X0) := by rw [hX0]; exact (Below.refl _ _).alloc (Nat.le_refl _) _
  have C0 : CaC X.heap.size c (.slice pd c.D.length capd) (.slice pf c.F.length capf) X0 := CaC.of hm (by rw [hX0]; exact heap_alloc_new _ _)
  have k33 := C0.c33
  have k34 := C0.c34
  have k35 := C0.c35
  have HX : Hid (X0 = X.alloc (.cells (caL c (.slice pd c.D.length capd) (.slice pf c.F.length capf)).toArray 28 (0, 0))) := hX0
  rw [hX0] at k33 k34 k35
  have HSM : Hid (smB c = decide (c.D.length ≤ 700 ∧ 1 ≤ c.n ∧ c.n ≤ 80 ∧ c.F.length ≤ 80)) := rfl
  generalize (caL c (.slice pd c.D.length capd) (.slice pf c.F.length capf)).toArray = CL at *
  generalize smB c = sb at *
  generalize c.D.length = dn at *
  generalize c.F.length = fn at *
  generalize c.n = cn at *
  clear C0 hX0 hm
  by_cases h1 : dn ≤ 700
  · have h1I : (dn : Int) ≤ 700 := by omega
    by_cases h2 : 1 ≤ cn
    · by_cases h3 : cn ≤ 80
      · by_cases h4 : fn ≤ 80
        · have h4I : (fn : Int) ≤ 80 := by omega
          have hsb : sb = true := by rw [HSM.out]; exact decide_eq_true ⟨h1, h2, h3, h4⟩
          subst hsb
          clear HSM
          go_enter Tryz.func6, Tryz.ntmps6
          go_wp2
          go_ret
          exact ⟨rfl, by rw [← HX.out]; exact HB.out⟩
        · have h4I : ¬ (fn : Int) ≤ 80 := by omega
          have hsb : sb = false := by rw [HSM.out]; exact decide_eq_false (fun h => h4 h.2.2.2)
          subst hsb
          clear HSM
          go_enter Tryz.func6, Tryz.ntmps6
          go_wp2
          go_ret
          exact ⟨by first | rfl | (show Ending.returned (.bool (decide _)) = _; rw [decide_eq_false (by omega)]), by rw [← HX.out]; exact HB.out⟩
      · skip
        have hsb : sb = false := by rw [HSM.out]; exact decide_eq_false (fun h => h3 h.2.2.1)
        subst hsb
        clear HSM
        go_enter Tryz.func6, Tryz.ntmps6
        go_wp2
        go_ret
        exact ⟨rfl, by rw [← HX.out]; exact HB.out⟩
    · skip
      have hsb : sb = false := by rw [HSM.out]; exact decide_eq_false (fun h => h2 h.2.1)
      subst hsb
      clear HSM
      go_enter Tryz.func6, Tryz.ntmps6
      go_wp2
      go_ret
      exact ⟨rfl, by rw [← HX.out]; exact HB.out⟩
  · have h1I : ¬ (dn : Int) ≤ 700 := by omega
    have hsb : sb = false := by rw [HSM.out]; exact decide_eq_false (fun h => h1 h.1)
    subst hsb
    clear HSM
    go_enter Tryz.func6, Tryz.ntmps6
    go_wp2
    go_ret
    exact ⟨rfl, by rw [← HX.out]; exact HB.out⟩
section
variable {w X Y : World} {og mb rg : Nat} {i : Bool} {m : List UInt8} {D : List (List UInt8)} {L R : Lg} {rows : Rws}
/-- A list that was made is a row of one's own. -/
theorem TB.list (h : TB w og mb rg i m D L R rows X) (hb : Below X.heap.size X Y) {v : Value} {ls : List Int} (hl : 0 < ls.length) (hf : FI X.heap.size Y v ls) : ∃ g M, TB w og mb rg i m D L R ((g, 3, M) :: rows) Y ∧ ∀ W, W.heap[g]? = some (.cells M.toArray 3 (0, 0)) → HI W v ls := by
  rcases hf.2 with ⟨h1, h2⟩ | ⟨g, cap, cur, h1, h2, h3, h4⟩
  · omega
  · obtain ⟨S, dv, ov, T, dr, lv, lds, a1, a2, a3, a4, a5⟩ := h.ex
    have hs := hb.size
    have hw := h.bel.size
    have hlow : X.heap.size ≤ g := (World.ownsRow.lt hf g (by rw [h1]; rfl)).1
    refine ⟨g, cur.toList, ⟨⟨S, dv, ov, T, dr, lv, lds, a1.below hb, a2.keep hb.size (fun k hk _ => hb.block k hk), a3, a4, fun r hr => ?_⟩, (h.rs.step hb).add (by omega) (by rw [Array.toArray_toList]; exact h3) (fun r hr e => ?_)⟩, fun W hW => ?_⟩
    · rcases List.mem_cons.1 hr with rfl | hr
      · exact ⟨fun hS => by have := a1.top _ hS; omega, fun hT => by have := a2.top _ hT; omega, fun e => by have := (a1.dro _ e).2; omega⟩
      · exact a5 r hr
    · have := MC.row_lt (h.rs.row r hr); omega
    · have := (hf.keep (w' := W) (fun j hj => ?_)).hi
      · exact this
      · have : j = g := by rw [h1] at hj; simpa [Value.ownBlock] using hj.symm
        rw [this, hW, h3, Array.toArray_toList]
end
end Go.Proofs.YtnijjoankahddaaGreat.DC
