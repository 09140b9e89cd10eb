/- cpu: words that came in; the statements' same, of equal words. -/
import Derived.Test.YtkpjfhphohanlaaGreatDoorLY
import Derived.ProofKit
import Derived.OpenShut
import Derived.ChangeOld
import Derived.Deep.Matrix
import Derived.Deep.QuietTactic
set_option linter.unusedVariables false
set_option linter.unusedSimpArgs false
namespace Go.Proofs.YtkpjfhphohanlaaGreatDoor.JC
open Go.ChangeShapes Go.WideShapes Go.ChangeAt Go.RowKit
open Go.Proofs.YtkpjfhphohanlaaGreatDoor.EC (row_lt heap_at rangeAt_below rangeAt_row ret_bool ret_i64 beq_int)

/-- Words that can be read. -/
def HU (w : World) (v : Value) (ls : List Int) : Prop := ∃ p cap, v = .slice p ls.length cap ∧ ls.length ≤ cap ∧ ∀ i x, ls[i]? = some x → u64 x ∧ ∃ b o, p = some ⟨b, o, none⟩ ∧ w.cell? ⟨b, o + i, none⟩ = some (.int .u64 x)
theorem HU.keep {w w' : World} {v : Value} {ls : List Int} (h : HU w v ls) (hb : Below w.heap.size w w') : HU w' v ls := by
  obtain ⟨p, cap, h1, h0, h2⟩ := h
  refine ⟨p, cap, h1, h0, fun i x hx => ?_⟩
  obtain ⟨hu, b, o, h3, h4⟩ := h2 i x hx
  exact ⟨hu, b, o, h3, (hb.cell (block_lt h4)).trans h4⟩
theorem FU.hu {base : Nat} {w : World} {v : Value} {ls : List Int} (h : FU base w v ls) (hu : ∀ x ∈ ls, u64 x) : HU w v ls := by
  rcases h.2 with ⟨h1, h2⟩ | ⟨g, cap, cur, h1, h2, h3, h4, h5, h6⟩
  · have : ls = [] := List.eq_nil_of_length_eq_zero h2
    subst this
    exact ⟨none, 0, h1, Nat.le_refl _, fun i a ha => by simp at ha⟩
  · refine ⟨some ⟨g, 0, none⟩, cap, h1, h4, fun i a ha => ⟨hu a (List.mem_of_getElem? ha), g, 0, rfl, ?_⟩⟩
    have hi := (List.getElem?_eq_some_iff.1 ha).1
    subst h1
    rw [Nat.zero_add, World.ownsRow.cellAt h i (by omega), List.getElem?_map, ha]; rfl
section
variable {H : Type} {enc : TypeId × Value → H} {w : World} {base : Nat} {held : Bool}
theorem open_us {v : Value} {fuel : Nat} {x : DataW H × List MemPlace} (h : DataW.trod enc Tryz.prog w base (fun _ => true) held fuel 22 [v] = some x) : ∃ l, HU w v l ∧ l.length ≤ 9223372036854775807 := by
  rcases open_ints Tryz.underlying22 Tryz.underlying36 (by kernel_rfl) h with ⟨hcs, _⟩ | ⟨a, len, cap, zs, hcs, _, hl, hm, hz, _, hc, hw⟩
  · simp only [List.cons.injEq, and_true] at hcs
    subst hcs
    exact ⟨[], ⟨none, 0, rfl, Nat.le_refl _, fun i a ha => by simp at ha⟩, by decide⟩
  · simp only [List.cons.injEq, and_true] at hcs
    subst hcs
    simp only [if_true] at hz
    have hln : (zs.take len).length = len := by rw [List.length_take]; omega
    refine ⟨zs.take len, ⟨some a, cap, by rw [hln], by omega, fun i x hx => ?_⟩, by unfold maxLen at hm; omega⟩
    have hi : i < len := by have := (List.getElem?_eq_some_iff.1 hx).1; omega
    rw [List.getElem?_take_of_lt hi] at hx
    have hc0 := hc i (by omega)
    obtain ⟨b, off, spot⟩ := a
    have hspot : spot = none := by simpa [Addr.add] using World.cell?_spot (hc 0 (by omega))
    subst hspot
    have hadd : (⟨b, off, none⟩ : Addr).add i = ⟨b, off + i, none⟩ := by unfold Addr.add; split <;> simp_all
    rw [hadd] at hc0
    have hg : zs.getD i 0 = x := by simp [List.getD, hx]
    rw [hg] at hc0
    exact ⟨bounds_u64 (hw x (List.mem_of_getElem? hx)), b, off, rfl, hc0⟩
end
set_option maxHeartbeats 1000000 in
set_option maxRecDepth 100000 in
theorem same_eq (v1 v2 : Value) (ls : List Int) (w : World) (hl : ls.length ≤ 1000000) (h1 : HU w v1 ls) (h2 : HU w v2 ls) : Calls Tryz.prog 7 #[v1, v2] w fun e w' => e = .returned (.bool true) ∧ Below w.heap.size w w' := by
  obtain ⟨p1, c1, rfl, _, r1⟩ := h1
  obtain ⟨p2, c2, rfl, _, r2⟩ := h2
  have HR1 : Hid (∀ i x, ls[i]? = some x → ∃ b o, p1 = some ⟨b, o, none⟩ ∧ w.cell? ⟨b, o + i, none⟩ = some (.int .u64 x)) := fun i x hx => (r1 i x hx).2
  have HR2 : Hid (∀ i x, ls[i]? = some x → ∃ b o, p2 = some ⟨b, o, none⟩ ∧ w.cell? ⟨b, o + i, none⟩ = some (.int .u64 x)) := fun i x hx => (r2 i x hx).2
  have HG : Hid (∀ k, k < ls.length → ∃ x, ls[k]? = some x) := fun k hk => ⟨ls[k], List.getElem?_eq_getElem hk⟩
  clear r1 r2
  generalize ls.length = n at *
  go_enter Tryz.func7, Tryz.ntmps7
  go_wp2
  go_loopw [5] (fun i wr => ∃ k : Nat, k ≤ n ∧ i = .int .i64 k ∧ Below w.heap.size w wr) (fun i _ => n - (intOf i).toNat)
  case atStart => exact ⟨0, by omega, rfl, Below.refl _ _⟩
  case round =>
    obtain ⟨k, hk, rfl, hB⟩ := hrel
    have HB : Hid (Below w.heap.size w wr) := hB
    by_cases hlt : k < n
    · obtain ⟨x, hx⟩ := HG.out k hlt
      obtain ⟨b1, o1, rfl, hc1⟩ := HR1.out k x hx
      obtain ⟨b2, o2, rfl, hc2⟩ := HR2.out k x hx
      have hd1 : wr.cell? ⟨b1, o1 + k, none⟩ = some (.int .u64 x) := (hB.cell (block_lt hc1)).trans hc1
      have hd2 : wr.cell? ⟨b2, o2 + k, none⟩ = some (.int .u64 x) := (hB.cell (block_lt hc2)).trans hc2
      have hkI : (k : Int) < (n : Int) := by omega
      have hkn : k < n := hlt
      clear hc1 hc2 hB hx
      go_wp2
      go_quiet (fail)
      go_wp2
      go_roundw
      case rel => exact ⟨k + 1, by omega, by go_num, HB.out.trans ⟨rfl, rfl, rfl, Nat.le_refl _, fun _ _ => rfl⟩⟩
      case measure => simp [intOf]; omega
    · have hkI : ¬ ((k : Int) < (n : Int)) := by omega
      clear hB
      go_wp2
      go_ret
      exact ⟨rfl, HB.out⟩
end Go.Proofs.YtkpjfhphohanlaaGreatDoor.JC
