/- measure: what MeasureSteps walks, as one bundle of facts. -/
import Derived.Test.YtpmknkagnkagpaaGreatZC
import Derived.Test.YtpmknkagnkagpaaGreatZQ
import Derived.Test.YtpmknkagnkagpaaGreatZV
set_option linter.unusedVariables false
set_option linter.unusedSimpArgs false
namespace Go.Proofs.YtpmknkagnkagpaaGreat.ZC
open Go.RowKit

theorem neq_d (w : World) (xs : List UInt8) (hx : xs.length = 32) : (binOp .neq 24 (.agg (xs.map B8).toArray) (.agg (xs.map B8).toArray)).run Tryz.prog w = .ok (.bool false) w := by
  have := run_equalIn_bytes (P := Tryz.prog) w 9998 24 5 32 Tryz.underlying24 Tryz.underlying5 PC.size_u8 xs xs hx hx
  rw [show (xs == xs) = true by simp] at this
  have h2 : (Op.equalIn 10000 24 (.agg (xs.map B8).toArray) (.agg (xs.map B8).toArray)).run Tryz.prog w = .ok true w := this
  rw [run_neq_struct, h2]
  rfl
theorem eqd_self (w : World) (xs : List UInt8) (hx : xs.length = 32) : (binOp .eql 24 (.agg (xs.map B8).toArray) (.agg (xs.map B8).toArray)).run Tryz.prog w = .ok (.bool true) w := by
  have h := run_eql_bytes (P := Tryz.prog) w 24 5 32 Tryz.underlying24 Tryz.underlying5 PC.size_u8 xs xs hx hx
  rw [show (xs == xs) = true by simp] at h
  exact h
theorem build_g {ops : Array Oper} {rest : List Oper} {o : Oper} {a : Act} {w : World} {Q : Exit → Act → World → Prop} (hw : Region.wanted o (yielded ops a.tmps) = true) (t : TypeId) (parts : Array (Nat × Operand)) (ho : o.op = .build t parts) (vals : Array (Nat × Value)) (v : Value) (hp : (parts.map fun (i, x) => (i, a.eval x)) = vals)
    (hr : (Instr.build t vals).run Tryz.prog w = .ok v w) (h : wpList Tryz.prog ops Q rest (a.put o.dst v) w) : wpList Tryz.prog ops Q (o :: rest) a w :=
  wpList_step fun K hK => by
    rw [if_pos hw]
    unfold Oper.wp
    rw [PC.exec_build a.eval o t parts vals v w ho hp hr]
    exact hK _ _ h
theorem slog_same (va vb : Value) (l : Lg) (w : World) (hl : l.length < 1000000) (ha : R5.HLr w va l) (hb : R5.HLr w vb l) :
    Calls Tryz.prog 13 #[va, vb] w fun e w' => e = .returned (.bool true) ∧ Below w.heap.size w w' := by
  refine (R5.sameLog_any va vb l l w hl hl ha hb).mono ?_
  rintro e w' ⟨rfl, h⟩
  exact ⟨by simp, h⟩
def lL (L : Lg) : Prop := ∀ e ∈ L, e.2.length = 32
theorem nx2_ok {i : Bool} {D : List (List UInt8)} {L : Lg} (hD : ∀ d ∈ D, d.length = 32) (hL : lL L) (q : R5.Qn) : (nx2 i D L q).1.length = 32 ∧ lL (nx2 i D L q).2 := by
  unfold nx2
  cases h : R5.fndA q L with
  | some A => exact ⟨hL _ (R5.fndA_some h), hL⟩
  | none =>
    have hA : (if i then R5.drawD D L.length else R5.compD q).length = 32 := by split; exact R5.drawD_len _ _ hD; exact R5.compD_len q
    refine ⟨hA, fun e he => ?_⟩
    rcases List.mem_append.1 he with he | he
    · exact hL e he
    · obtain rfl := List.mem_singleton.1 he
      exact hA
abbrev Rws := List (Nat × Array Value × TypeId)
def RS (rows : Rws) (X : World) : Prop := ∀ r ∈ rows, X.heap[r.1]? = some (.cells r.2.1 r.2.2 (0, 0))
theorem TW.rs {w X : World} {og mb rg : Nat} {i : Bool} {m : List UInt8} {D : List (List UInt8)} {L R : Lg} {rows : Rws} (h : TW w og mb rg i m D L R rows X) : RS rows X := fun r hr => h.row hr
theorem RS.at {rows : Rws} {X : World} (h : RS rows X) {b : Nat} {l : List Value} {t : TypeId} (hm : (b, l.toArray, t) ∈ rows) : X.rangeAt b 0 l := PC.rangeAt_row (h _ hm)
structure Two (w : World) (i : Bool) (m : List UInt8) (D : List (List UInt8)) (pf rf : Nat) (pa ra : List Value) (ok : Bool) (A : List Value) (e : Int) (L L' : Lg) (ZL : List Value) : Prop where
  p : ∀ og mb rg rows X, TW w og mb rg i m D L L rows X → Calls Tryz.prog pf (.pointer (some ⟨og, 0, none⟩) :: pa).toArray X fun x Y => x = .returned (.tuple #[.agg A.toArray, .int .i64 e]) ∧ TW w og mb rg i m D L' L rows Y
  r : ok = true → ∀ og mb rg rows X, TW w og mb rg i m D L' L rows X → Calls Tryz.prog rf (.pointer (some ⟨rg, 0, none⟩) :: ra).toArray X fun x Y => x = .returned (.agg A.toArray) ∧ TW w og mb rg i m D L' L' rows Y
  y : ok = true → e = 0
  n : ok = false → e = 2 ∧ A = ZL ∧ L' = L
  len : A.length = 32
  one : A.toArray.all (·.oneCell') = true
  ne : ∀ W, (binOp .neq 24 (.agg A.toArray) (.agg A.toArray)).run Tryz.prog W = .ok (.bool false) W
  eq : ∀ W, (binOp .eql 24 (.agg A.toArray) (.agg A.toArray)).run Tryz.prog W = .ok (.bool true) W
section
variable {w : World} {i : Bool} {m : List UInt8} {D : List (List UInt8)} {L : Lg}
end
end Go.Proofs.YtpmknkagnkagpaaGreat.ZC
