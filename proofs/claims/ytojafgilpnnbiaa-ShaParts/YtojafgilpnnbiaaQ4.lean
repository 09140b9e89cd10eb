/- A slice of bytes that came in: what it holds. -/
import Derived.Test.YtojafgilpnnbiaaO4
import Derived.ChangeOld
set_option linter.unusedVariables false
set_option linter.unusedSimpArgs false
namespace Go.Proofs.Ytojafgilpnnbiaa
open Go.ChangeShapes Go.WideShapes Go.ChangeAt Go.RowKit

/-- Numbers as bytes. -/
def toBytes (zs : List Int) : List UInt8 := zs.map fun n => UInt8.ofNat n.toNat

theorem toBytes_cell {n : Int} (h : (Lit.int .u8 n).wf = true) : ((UInt8.ofNat n.toNat).toNat : Int) = n := by
  have := bounds_u8 h
  simp; omega

theorem HB.of_row {w : World} {a : Addr} {len cap : Nat} {zs : List Int} (hl : len ≤ cap) (hm : cap ≤ maxLen) (hz : zs.length = cap) (hc : ∀ i, i < cap → w.cell? (a.add i) = some (.int .u8 (zs.getD i 0))) (hw : ∀ n ∈ zs, (Lit.int .u8 n).wf = true) :
    HB w (.slice (some a) len cap) (toBytes (zs.take len)) := by
  have hlen : (toBytes (zs.take len)).length = len := by simp [toBytes]; omega
  by_cases h0 : len = 0
  · subst h0
    exact .inl ⟨by simp [toBytes], some a, cap, rfl, fun h => by cases h⟩
  · obtain ⟨b, off, spot⟩ := a
    have hspot : spot = none := by simpa [Addr.add] using World.cell?_spot (hc 0 (by omega))
    subst hspot
    refine .inr ⟨b, off, cap, by rw [hlen], by omega, hm, fun i hi => ?_⟩
    rw [hlen] at hi
    have := hc i (by omega)
    have hadd : (⟨b, off, none⟩ : Addr).add i = ⟨b, off + i, none⟩ := by unfold Addr.add; split <;> simp_all
    rw [hadd] at this
    rw [this]
    have hiz : i < zs.length := by omega
    have hg : zs.getD i 0 = zs[i] := by simp [List.getD, List.getElem?_eq_getElem hiz]
    have hg2 : (toBytes (zs.take len)).getD i 0 = UInt8.ofNat (zs[i]).toNat := by
      simp [toBytes, List.getD, List.getElem?_take_of_lt hi, List.getElem?_eq_getElem hiz]
    rw [hg, hg2, toBytes_cell (hw _ (List.getElem_mem hiz))]

theorem HB.of_any {w : World} {A : Option Addr} {len cap : Nat} {zs : List Int} (hl : len ≤ cap) (hm : cap ≤ maxLen) (hz : zs.length = cap) (hw : ∀ n ∈ zs, (Lit.int .u8 n).wf = true) (hn : A = none → cap = 0) (hc : ∀ a, A = some a → ∀ i, i < cap → w.cell? (a.add i) = some (.int .u8 (zs.getD i 0))) :
    HB w (.slice A len cap) (toBytes (zs.take len)) := by
  cases A with
  | none =>
    have := hn rfl
    subst this
    have : len = 0 := by omega
    subst this
    exact .inl ⟨by simp [toBytes], none, 0, rfl, fun _ => rfl⟩
  | some a => exact HB.of_row hl hm hz (hc a rfl) hw

theorem toBytes_len (zs : List Int) (n : Nat) : (toBytes (zs.take n)).length ≤ n := by simp [toBytes]; omega

section
variable {H : Type} {enc : TypeId × Value → H} {w : World} {base : Nat} {held : Bool}

theorem open_bytes {v : Value} {fuel : Nat} {x : DataW H × List MemPlace} (h : DataW.trod enc Try.prog w base (fun _ => true) held fuel 22 [v] = some x) : ∃ l, HB w v l ∧ l.length ≤ 9223372036854775807 := by
  rcases open_ints Try.underlying22 Try.underlying5 (by kernel_rfl) h with ⟨hcs, _⟩ | ⟨a, len, cap, zs, hcs, _, hl, hm, hz, _, hc, hw⟩
  · simp only [List.cons.injEq, and_true] at hcs
    subst hcs
    exact ⟨[], .inl ⟨rfl, none, 0, rfl, fun _ => rfl⟩, by decide⟩
  · simp only [List.cons.injEq, and_true] at hcs
    subst hcs
    simp only [if_true] at hz
    exact ⟨_, HB.of_row hl hm hz (fun i hi => hc i (by omega)) hw, by have := toBytes_len zs len; unfold maxLen at hm; omega⟩

end

end Go.Proofs.Ytojafgilpnnbiaa
