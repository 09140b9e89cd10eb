/- Contracts of wire's functions that make bytes: a number's bytes, laid into new memory. -/
import Derived.Test.YtkpjfhphohanlaaGreatDoorA1
set_option linter.unusedVariables false
set_option linter.unusedSimpArgs false
namespace Go.Proofs.YtkpjfhphohanlaaGreatDoor
open Go.RowKit

/-- A byte as a cell holds it. -/
def B8 (x : UInt8) : Value := .int .u8 (x.toNat : Int)

/-- The value v is a slice of the bytes l in memory from block 'base' on, of its own. -/
def FB (base : Nat) (w : World) (v : Value) (l : List UInt8) : Prop := w.ownsRow base 5 1 v l.length (l.map B8)

theorem FB.hb {base : Nat} {w : World} {v : Value} {l : List UInt8} (h : FB base w v l) : HB w v l := by
  rcases h.2 with ⟨h1, h2⟩ | ⟨g, cap, cur, h1, h2, h3, h4, h5, h6⟩
  · exact .inl ⟨List.eq_nil_of_length_eq_zero h2, none, 0, h1, fun _ => rfl⟩
  · refine .inr ⟨g, 0, cap, h1, h4, h5, fun i hi => ?_⟩
    subst h1
    have := h.cellAt (g := g) i (by omega)
    rw [Nat.zero_add, this, List.getElem?_map, List.getElem?_eq_getElem hi]
    simp [B8, List.getD, List.getElem?_eq_getElem hi]

theorem Tryz.infoU8 : (Tryz.prog.info? 5).map (fun i => (i.zero, i.size, i.bytes)) = some (some (.int .u8 0), 1, 1) := by kernel_rfl

theorem le_set (s n k : Nat) (h : k < s) : ((W1.le s n).take k ++ List.replicate (s - k) (0 : UInt8)).set k (UInt8.ofNat (n / 256 ^ k % 256)) = (W1.le s n).take (k + 1) ++ List.replicate (s - (k + 1)) 0 := by
  have hlen := W1.le_length s n
  have hk : k < (W1.le s n).length := by omega
  have hg := W1.le_get s n k h
  rw [List.getElem?_eq_getElem hk, Option.some.injEq] at hg
  rw [List.take_succ_eq_append_getElem hk, hg, List.set_append_right _ _ (by simp; omega), List.length_take, Nat.min_eq_left (by omega), Nat.sub_self, show s - k = (s - (k + 1)) + 1 by omega, List.replicate_succ, List.set_cons_zero]
  simp


end Go.Proofs.YtkpjfhphohanlaaGreatDoor
