/- Contracts of wire's Hex, and of bytes as a text. -/
import Derived.Test.YtekbppfocnbhbaaGreatC1
import Derived.Deep.RegionLaw
import Derived.Deep.AppendLies
set_option linter.unusedVariables false
set_option linter.unusedSimpArgs false
namespace Go.Proofs.YtekbppfocnbhbaaGreat
open Go.RowKit

namespace W1
def hexd (n : Nat) : UInt8 := if n < 10 then UInt8.ofNat (48 + n) else UInt8.ofNat (87 + n)
def hex (l : List UInt8) : List UInt8 := l.flatMap fun c => [hexd (c.toNat / 16), hexd (c.toNat % 16)]
theorem hex_length (l : List UInt8) : (hex l).length = 2 * l.length := by
  induction l with
  | nil => rfl
  | cons x r ih => simp only [hex, List.flatMap_cons, List.length_append, List.length_cons, List.length_nil] at *; omega
theorem hex_take_succ (l : List UInt8) (k : Nat) (h : k < l.length) : hex (l.take (k + 1)) = hex (l.take k) ++ [hexd (l[k].toNat / 16), hexd (l[k].toNat % 16)] := by
  simp only [hex]; rw [List.take_succ_eq_append_getElem h, List.flatMap_append]; simp
end W1

/-- Bytes as a text. -/
def txt (l : List UInt8) : ByteArray := ⟨l.toArray⟩

theorem conv_hb (w : World) (v : Value) (l : List UInt8) (h : HB w v l) : (convert 106 9 v).run Tryz.prog w = .ok (.string (txt l)) w := by
  rcases h with ⟨rfl, p, cap, rfl, hpc⟩ | ⟨b, o, cap, rfl, _, _, hc⟩
  · cases p with
    | none => exact run_convert_bytes_nil w _ _ Tryz.underlying106 Tryz.underlying5 0 cap _ Tryz.underlying9
    | some a =>
      rw [run_convert_bytes_string w _ _ _ _ 0 cap Tryz.underlying106 Tryz.underlying5 Tryz.underlying9, run_bytesToString w _ 0 cap [] (by
        have := run_loadCells_list (P := Tryz.prog) w a [] (fun j u hj => by simp at hj)
        simpa using this)]
      rfl
  · rw [run_convert_bytes_arg w _ _ Tryz.underlying106 Tryz.underlying5 b o l.length cap (l.map fun x => (x.toNat : Int)) (by simp) (fun i hi => by rw [hc i hi]; simp [List.getD, List.getElem?_eq_getElem hi]) _ Tryz.underlying9]
    congr 2
    unfold strOfNums txt
    congr 2
    rw [List.map_map]
    conv => rhs; rw [← List.map_id l]
    apply List.map_congr_left
    intro x _
    simp

/-- Cells of a new block of two. -/
theorem news_two (w : World) (x y : Value) (t : TypeId) : ∀ j u, [x, y][j]? = some u → (w.alloc (.cells #[x, y] t)).cell? ((⟨w.heap.size, 0, none⟩ : Addr).add j) = some u :=
  World.news_of_block (cs := #[x, y]) (fr := (0, 0)) (heap_alloc_new _ _)


end Go.Proofs.YtekbppfocnbhbaaGreat
