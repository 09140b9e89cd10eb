/- Appends as laws; contract of ref's Tag. -/
import Derived.Test.YtojafgilpnnbiabE5
import Derived.Laws.AppendOwnNone
import Derived.Deep.AppendLies
set_option linter.unusedVariables false
set_option linter.unusedSimpArgs false
namespace Go.Proofs.Ytojafgilpnnbiab
open Go.RowKit

/-- append(s, b...), b whatever it be. -/
theorem wpList_appHB {ops : Array Oper} {rest : List Oper} {o : Oper} {a : Act} {Q : Exit → Act → World → Prop} {w : World} (hgd : o.guard = none) (s x : Operand) (ho : o.op = .call { callee := .builtin .append, args := #[s, x], argTypes := #[22, 22] })
    (base : Nat) (v u : Value) (l b : List UInt8) (hs : a.eval s = v) (hx : a.eval x = u) (hown : FB base w v l) (hb : HB w u b) (hl : l.length + b.length ≤ 2199023255552) (hbase : base ≤ w.heap.size)
    (h : ∀ v' w', FB base w' v' (l ++ b) → w.grownBy w' v.ownBlock → wpList Try.prog ops Q rest (a.put o.dst v') w') : wpList Try.prog ops Q (o :: rest) a w := by
  obtain ⟨i0, hi, hz0, hz1, hz2⟩ := info_parts Try.infoU8
  obtain ⟨p, cp, rfl, hpn, hpc⟩ := hb.cells
  cases p with
  | none =>
    obtain ⟨rfl, rfl⟩ := hpn rfl
    refine wpList_append_own_none hgd s x 22 ho base 5 i0 1 Try.underlying22 hi v _ _ hs hown hx ?_
    exact h v w (by rw [List.append_nil]; exact hown) ⟨rfl, rfl, rfl, Nat.le_refl _, fun _ _ _ => rfl⟩
  | some ad =>
    refine wpList_append_own w hgd s x 22 ho base 5 i0 (.int .u8 0) 1 1 Try.underlying22 hi hz0 hz1 hz2 rfl (by decide) v _ _ hs hown ad b.length cp (b.map B8) hx (by simp) (hpc ad rfl) (B8_one b) (by unfold maxLen; omega) (by omega) hbase ?_
    intro v' w' h1 h2 _
    refine h v' w' ?_ h2
    unfold FB
    rw [List.length_append, List.map_append]
    exact h1

/-- append(s, c). -/
theorem wpList_app1 {ops : Array Oper} {rest : List Oper} {o : Oper} {a : Act} {Q : Exit → Act → World → Prop} {W : World} {cv : Value} (hgd : o.guard = none) (s x : Operand) (ho : o.op = .call { callee := .builtin .append, args := #[s, x], argTypes := #[22, 22] })
    (base : Nat) (v : Value) (l : List UInt8) (c : UInt8) (hcv : cv = B8 c) (hs : a.eval s = v) (hx : a.eval x = .slice (some ⟨W.heap.size, 0, none⟩) 1 1) (hown : FB base W v l) (hl : l.length ≤ 2199023255552) (hbase : base ≤ W.heap.size)
    (h : ∀ g cap w', FB base w' (.slice (some ⟨g, 0, none⟩) (l.length + 1) cap) (l ++ [c]) → (W.alloc (.cells #[cv] 5)).grownBy w' v.ownBlock → (v.ownBlock = some g ∨ g = W.heap.size + 1) → g < w'.heap.size → wpList Try.prog ops Q rest (a.put o.dst (.slice (some ⟨g, 0, none⟩) (l.length + 1) cap)) w') :
    wpList Try.prog ops Q (o :: rest) a (W.alloc (.cells #[cv] 5)) := by
  obtain ⟨i0, hi, hz0, hz1, hz2⟩ := info_parts Try.infoU8
  refine wpList_append_lies _ hgd s x 22 ho base 5 i0 (.int .u8 0) 1 1 Try.underlying22 hi hz0 hz1 hz2 rfl (by decide) v _ _ hs (World.ownsRow.alloc hown _) ⟨W.heap.size, 0, none⟩ 1 1 [cv] hx rfl (by exact cell_one_new _ _ _) (by intro u hu; simp at hu; subst hu; rw [hcv]; rfl) (by decide) (by unfold maxLen; omega) (by omega) (by simp; omega) (W.heap.size + 1) (by simp) ?_
  intro g cap w' h1 h2 h3 h4
  refine h g cap w' ?_ h2 h3 h4
  unfold FB
  rw [List.length_append, List.map_append, List.map_cons, List.map_nil, ← hcv]
  exact h1

theorem FB.alloc {base : Nat} {w : World} {v : Value} {l : List UInt8} (h : FB base w v l) (o : Obj) : FB base (w.alloc o) v l := World.ownsRow.alloc h o
theorem FB.ge {base : Nat} {w : World} {v : Value} {l : List UInt8} (h : FB base w v l) : ∀ k, v.ownBlock = some k → base ≤ k ∧ k < w.heap.size := fun k hk => by
  rcases h.2 with ⟨h1, _⟩ | ⟨g, cap, cur, h1, h2, h3, _⟩
  · rw [h1] at hk; cases hk
  · rw [h1] at hk
    simp only [Value.ownBlock, Option.some.injEq] at hk
    subst hk
    exact ⟨h2, (Array.getElem?_eq_some_iff.1 h3).1⟩

end Go.Proofs.Ytojafgilpnnbiab
