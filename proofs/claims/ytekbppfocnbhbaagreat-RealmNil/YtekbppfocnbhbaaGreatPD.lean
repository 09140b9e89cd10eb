/- params: RealmBytes. -/
import Derived.Test.YtekbppfocnbhbaaGreatPB
import Derived.Lib.SmallJoins
set_option linter.unusedVariables false
set_option linter.unusedSimpArgs false
namespace Go.Proofs.YtekbppfocnbhbaaGreat.PC
open Go.RowKit

/-- A realm's bytes, ahead of the noughts. -/
def rbP (V : List UInt8) (n : Nat) : List UInt8 := [114, 101, 97, 108, 109, 0, 0, 0] ++ V ++ W1.le 8 n
def rbL (V : List UInt8) (n : Nat) : List UInt8 := pd (rbP V n)
theorem rbP_len (V : List UInt8) (n : Nat) (h : V.length = 32) : (rbP V n).length = 48 := by unfold rbP; simp [h, W1.le_length]
theorem rbL_len (V : List UInt8) (n : Nat) (h : V.length = 32) : (rbL V n).length = 128 := pd_len _ (by rw [rbP_len V n h]; decide)
theorem lay_to {w : World} {pb rb gb cb ab : Nat} {tp : TypeId} {PL ZL : List Value} {P : List UInt8} {W : World} (h : LY w pb rb gb cb ab tp PL ZL P W) (v : Value) (l : List UInt8) (s : Nat) (P' : List UInt8) (hP : P ++ l ++ List.replicate (s - l.length) 0 = P') (hv : HB W v l) (hl : l.length ≤ s) (hs : P.length + s ≤ 128) (h1 : 1 ≤ s) :
    Calls Tryz.prog 108 #[v, .int .i64 (s : Int), .pointer (some ⟨cb, 0, none⟩), .pointer (some ⟨ab, 0, none⟩)] W fun e W' => e = .returned (.tuple #[]) ∧ LY w pb rb gb cb ab tp PL ZL P' W' := by
  rw [← hP]; exact lay_any h v l s hv hl hs h1
/-- Bytes in a block of their own. -/
theorem hb_new (W : World) (l : List UInt8) (A : Array Value) (t : TypeId) (fr : Nat × Nat) (k : Nat) (hk : k = l.length) (hA : A = (l.map B8).toArray) (hl : l.length ≤ 1099511627776) : HB (W.alloc (.cells A t fr)) (.slice (some ⟨W.heap.size, 0, none⟩) k k) l :=
  hb_range k hk (by omega) (by unfold maxLen; omega) (rangeAt_row (by rw [heap_alloc_new, hA]))
/-- The start: parameters and what is handed back. -/
structure L0 (w : World) (tp : TypeId) (PL ZL : List Value) (W : World) : Prop where
  bel : Below w.heap.size w W
  par : W.heap[w.heap.size]? = some (.cells PL.toArray tp (0, 0))
  res : W.heap[w.heap.size + 1]? = some (.cells ZL.toArray 38 (0, 0))
theorem L0.start (w : World) (tp : TypeId) (PL ZL : List Value) : L0 w tp PL ZL ((w.alloc (.cells PL.toArray tp (0, 0))).alloc (.cells ZL.toArray 38 (0, 0))) :=
  ⟨((Below.refl _ _).alloc (Nat.le_refl _) _).alloc (by simp) _, (Below.heap_alloc _ _ _ (by simp)).trans (heap_alloc_new _ _), heap_at _ _ _ (by simp)⟩
theorem L0.below {w : World} {tp : TypeId} {PL ZL : List Value} {W W' : World} (h : L0 w tp PL ZL W) (hb : Below W.heap.size W W') : L0 w tp PL ZL W' := by
  obtain ⟨h1, h2, h3⟩ := h
  exact ⟨h1.trans (hb.mono h1.size), (hb.block _ (row_lt h2)).trans h2, (hb.block _ (row_lt h3)).trans h3⟩
theorem L0.ly {w : World} {tp : TypeId} {PL ZL : List Value} {W : World} (h : L0 w tp PL ZL W) (hZ : ZL = Z128.map B8) :
    LY w w.heap.size (w.heap.size + 1) W.heap.size (W.heap.size + 1) (W.heap.size + 1 + 1) tp PL ZL [] (((W.alloc (.cells ZL.toArray 38 (0, 0))).alloc (.cells #[.pointer (some ⟨W.heap.size, 0, none⟩)] 158 (0, 0))).alloc (.cells #[.int .i64 0] 3 (0, 0))) := by
  obtain ⟨h1, h2, h3⟩ := h
  have l3 := row_lt h3
  have k : ∀ j, j < W.heap.size → (((W.alloc (.cells ZL.toArray 38 (0, 0))).alloc (.cells #[.pointer (some ⟨W.heap.size, 0, none⟩)] 158 (0, 0))).alloc (.cells #[.int .i64 0] 3 (0, 0))).heap[j]? = W.heap[j]? := fun j hj => by
    rw [Below.heap_alloc _ _ _ (by simp; omega), Below.heap_alloc _ _ _ (by simp; omega), Below.heap_alloc _ _ _ hj]
  refine ⟨((h1.alloc (by omega) _).alloc (by simp; omega) _).alloc (by simp; omega) _, (k _ (by omega)).trans h2, (k _ (by omega)).trans h3, ?_, ?_, ?_, Nat.le_refl _, by omega, by omega, by omega, by omega⟩
  · rw [pd_nil, ← hZ, Below.heap_alloc _ _ _ (by simp; omega), Below.heap_alloc _ _ _ (by simp)]; exact heap_alloc_new _ _
  · rw [Below.heap_alloc _ _ _ (by simp)]; exact heap_at _ _ _ (by simp)
  · exact heap_at _ _ _ (by simp)
end Go.Proofs.YtekbppfocnbhbaaGreat.PC
