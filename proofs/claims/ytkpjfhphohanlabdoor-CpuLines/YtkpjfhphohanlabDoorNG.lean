/- cpu: instructions that came in, a list of them. -/
import Derived.Test.YtkpjfhphohanlabDoorJZ
import Derived.Deep.Slices
set_option linter.unusedVariables false
set_option linter.unusedSimpArgs false
namespace Go.Proofs.YtkpjfhphohanlabDoor.JC
open Go.ChangeShapes Go.WideShapes Go.ChangeAt Go.RowKit

/-- A list of instructions that can be read. -/
def HJ (w : World) (v : Value) (ls : List Ins) : Prop := ∃ p cap, v = .slice p ls.length cap ∧ ∀ i x, ls[i]? = some x → iwf x ∧ ∃ b o, p = some ⟨b, o, none⟩ ∧ w.rangeAt b (o + i * 5) (iL x)
theorem HJ.keep {w w' : World} {v : Value} {ls : List Ins} (h : HJ w v ls) (hb : Below w.heap.size w w') : HJ w' v ls := by
  obtain ⟨p, cap, h1, h2⟩ := h
  refine ⟨p, cap, h1, fun i x hx => ?_⟩
  obtain ⟨hu, b, o, h3, h4⟩ := h2 i x hx
  exact ⟨hu, b, o, h3, fun j u hj => (hb.cell (block_lt (h4 j u hj))).trans (h4 j u hj)⟩
section
variable {H : Type} {enc : TypeId × Value → H} {w : World} {base : Nat} {held : Bool}
theorem choose_nat {α : Type} {n : Nat} {p : Nat → α → Prop} (h : ∀ i, i < n → ∃ x, p i x) : ∃ l : List α, l.length = n ∧ ∀ i x, l[i]? = some x → p i x := by
  induction n with
  | zero => exact ⟨[], rfl, fun i x hx => by simp at hx⟩
  | succ n ih =>
    obtain ⟨l, h1, h2⟩ := ih (fun i hi => h i (by omega))
    obtain ⟨x, hx⟩ := h n (by omega)
    refine ⟨l ++ [x], by simp [h1], fun i y hy => ?_⟩
    rcases Nat.lt_or_ge i l.length with hi | hi
    · rw [List.getElem?_append_left hi] at hy; exact h2 i y hy
    · rw [List.getElem?_append_right hi] at hy
      have hi0 : i - l.length = 0 := by have := (List.getElem?_eq_some_iff.1 hy).1; simp at this; omega
      rw [hi0] at hy
      have e : x = y := by simpa using hy
      have e2 : i = n := by omega
      rw [← e, e2]; exact hx
theorem cells_range {W : World} {base : Nat} {g o : Nat} {n : Nat} {cs : List Value} (h : W.cells? base ⟨g, o, none⟩ n = some cs) : W.rangeAt g o cs := fun j v hv => by
  obtain ⟨_, h2, h3⟩ := World.cells?_some h
  have hj : j < n := by rw [← h2]; exact (List.getElem?_eq_some_iff.1 hv).1
  have := h3 j hj
  have hadd : (⟨g, o, none⟩ : Addr).add j = ⟨g, o + j, none⟩ := by unfold Addr.add; split <;> simp_all
  rw [hadd] at this
  rw [this, hv]
theorem spot_none {W : World} {base : Nat} {g o : Nat} {sp : Option Nat} {k n : Nat} {cs : List Value} (hn : 0 < n) (h : W.cells? base ((⟨g, o, sp⟩ : Addr).add (0 * k)) n = some cs) : sp = none := by
  obtain ⟨_, h2, h3⟩ := World.cells?_some h
  have h0 := h3 0 hn
  have hl : 0 < cs.length := by omega
  rw [List.getElem?_eq_getElem hl] at h0
  have hs := World.cell?_spot h0
  cases sp with
  | none => rfl
  | some t =>
    exfalso
    simp [Addr.add] at hs
theorem open_js {v : Value} {fuel : Nat} {x : DataW H × List MemPlace} (h : DataW.trod enc Tryd.prog w base (fun _ => true) held fuel 22 [v] = some x) : ∃ ls, HJ w v ls ∧ ls.length ≤ 9223372036854775807 := by
  have hcell : Tryd.prog.cellsOf 34 = 5 := by kernel_rfl
  rcases Go.Deep.open_slice Tryd.underlying22 h with ⟨hcs, _⟩ | ⟨a, len, cap, m, n, D, Pl, hcs, hb, hl, hm, hmm, _, hr⟩
  · simp only [List.cons.injEq, and_true] at hcs
    subst hcs
    exact ⟨[], ⟨none, 0, rfl, fun i a ha => by simp at ha⟩, by decide⟩
  · simp only [List.cons.injEq, and_true] at hcs
    subst hcs
    simp only [if_true] at hmm
    rw [hcell] at hr
    obtain ⟨g, o, sp⟩ := a
    have hsp : 0 < len → sp = none := fun h0 => by
      obtain ⟨cs', h1, _⟩ := hr 0 (by omega)
      exact spot_none (by omega) h1
    obtain ⟨ls, h1, h2⟩ := choose_nat (n := len) (p := fun i (r : Ins) => w.rangeAt g (o + i * 5) (iL r) ∧ iwf r) (fun i hi => by
      obtain ⟨cs', h1, h2⟩ := hr i (by omega)
      obtain ⟨r, e1, rest⟩ := open_ins h2
      have hs := hsp (by omega)
      subst hs
      have hadd : (⟨g, o, none⟩ : Addr).add (i * 5) = ⟨g, o + i * 5, none⟩ := by unfold Addr.add; split <;> simp_all
      rw [hadd] at h1
      exact ⟨r, by rw [← e1]; exact cells_range h1, rest⟩)
    refine ⟨ls, ⟨some ⟨g, o, sp⟩, cap, by rw [h1], fun i a ha => ?_⟩, by unfold maxLen at hm; omega⟩
    have hi : i < len := by rw [← h1]; exact (List.getElem?_eq_some_iff.1 ha).1
    obtain ⟨h3, h4⟩ := h2 i a ha
    exact ⟨h4, g, o, by rw [hsp (by omega)], h3⟩
end
end Go.Proofs.YtkpjfhphohanlabDoor.JC
