/- params: taker, its closure; wire's Word of eight bytes. -/
import Derived.Test.YtabnmhmlcoakkaaPE
set_option linter.unusedVariables false
set_option linter.unusedSimpArgs false
namespace Go.Proofs.Ytabnmhmlcoakkaa.PC
open Go.RowKit

/-- While bytes are taken one behind the other: gb the granule, rb what is handed back, qb what was read, cb the pointer to the granule, ab the place. -/
structure TK (w : World) (gb rb qb cb ab : Nat) (tq : TypeId) (G : List UInt8) (ZL QL : List Value) (k : Nat) (W : World) : Prop where
  bel : Below w.heap.size w W
  gr : W.heap[gb]? = some (.cells (G.map B8).toArray 28 (0, 0))
  res : W.heap[rb]? = some (.cells ZL.toArray tq (0, 0))
  q : W.heap[qb]? = some (.cells QL.toArray tq (0, 0))
  c1 : W.heap[cb]? = some (.cells #[.pointer (some ⟨gb, 0, none⟩)] 55 (0, 0))
  c2 : W.heap[ab]? = some (.cells #[.int .i64 (k : Int)] 3 (0, 0))
  o1 : w.heap.size ≤ gb
  o2 : gb < rb
  o3 : rb < qb
  o4 : qb < cb
  o5 : cb < ab
theorem TK.below {w : World} {gb rb qb cb ab : Nat} {tq : TypeId} {G : List UInt8} {ZL QL : List Value} {k : Nat} {W W' : World} (h : TK w gb rb qb cb ab tq G ZL QL k W) (hb : Below W.heap.size W W') : TK w gb rb qb cb ab tq G ZL QL k W' := by
  obtain ⟨h1, h2, h3, h4, h5, h6, o1, o2, o3, o4, o5⟩ := h
  exact ⟨h1.trans (hb.mono h1.size), (hb.block _ (row_lt h2)).trans h2, (hb.block _ (row_lt h3)).trans h3, (hb.block _ (row_lt h4)).trans h4, (hb.block _ (row_lt h5)).trans h5, (hb.block _ (row_lt h6)).trans h6, o1, o2, o3, o4, o5⟩
theorem TK.drew {w : World} {gb rb qb cb ab : Nat} {tq : TypeId} {G : List UInt8} {ZL QL : List Value} {k : Nat} {W : World} (h : TK w gb rb qb cb ab tq G ZL QL k W) : TK w gb rb qb cb ab tq G ZL QL k W.drew := h.below (Below.refl _ _).drew
theorem TK.went {w : World} {gb rb qb cb ab : Nat} {tq : TypeId} {G : List UInt8} {ZL QL : List Value} {k : Nat} {W : World} (h : TK w gb rb qb cb ab tq G ZL QL k W) (s : Nat) (A : Int) (hA : A = (k : Int) + (s : Int)) :
    TK w gb rb qb cb ab tq G ZL QL (k + s) (W.setCell ⟨ab, 0, none⟩ (.int .i64 A)) := by
  obtain ⟨h1, h2, h3, h4, h5, h6, o1, o2, o3, o4, o5⟩ := h
  have kp : ∀ j, j ≠ ab → (W.setCell ⟨ab, 0, none⟩ (.int .i64 A)).heap[j]? = W.heap[j]? := fun j hj => heap_setCell_other _ _ _ _ (by show j ≠ ab; exact hj)
  refine ⟨h1.setCell (p := ⟨ab, 0, none⟩) (by show w.heap.size ≤ ab; omega) _, (kp _ (by omega)).trans h2, (kp _ (by omega)).trans h3, (kp _ (by omega)).trans h4, (kp _ (by omega)).trans h5, ?_, o1, o2, o3, o4, o5⟩
  rw [heap_setCell_same _ _ 0 _ _ _ h6]
  have : ((k + s : Nat) : Int) = A := by omega
  rw [this]
  rfl
/-- What was read is stored. -/
theorem TK.row {w : World} {gb rb qb cb ab : Nat} {tq : TypeId} {G : List UInt8} {ZL QL : List Value} {k : Nat} {W : World} (h : TK w gb rb qb cb ab tq G ZL QL k W) (L : List Value) : TK w gb rb qb cb ab tq G ZL L k (W.setRow qb L.toArray) := by
  obtain ⟨h1, h2, h3, h4, h5, h6, o1, o2, o3, o4, o5⟩ := h
  have kp : ∀ j, j ≠ qb → (W.setRow qb L.toArray).heap[j]? = W.heap[j]? := fun j hj => setRow_other _ _ _ _ hj
  exact ⟨below_setRow h1 (by omega) _, (kp _ (by omega)).trans h2, (kp _ (by omega)).trans h3, setRow_heap _ _ _ _ _ _ h4, (kp _ (by omega)).trans h5, (kp _ (by omega)).trans h6, o1, o2, o3, o4, o5⟩
theorem TK.set {w : World} {gb rb qb cb ab : Nat} {tq : TypeId} {G : List UInt8} {ZL QL : List Value} {k : Nat} {W : World} (h : TK w gb rb qb cb ab tq G ZL QL k W) (i : Nat) (x : Value) (L : List Value) (hL : QL.set i x = L) : TK w gb rb qb cb ab tq G ZL L k (W.setCell ⟨qb, i, none⟩ x) := by
  obtain ⟨h1, h2, h3, h4, h5, h6, o1, o2, o3, o4, o5⟩ := h
  have kp : ∀ j, j ≠ qb → (W.setCell ⟨qb, i, none⟩ x).heap[j]? = W.heap[j]? := fun j hj => heap_setCell_other _ _ _ _ (by show j ≠ qb; exact hj)
  refine ⟨h1.setCell (p := ⟨qb, i, none⟩) (by show w.heap.size ≤ qb; omega) _, (kp _ (by omega)).trans h2, (kp _ (by omega)).trans h3, ?_, (kp _ (by omega)).trans h5, (kp _ (by omega)).trans h6, o1, o2, o3, o4, o5⟩
  rw [← hL, ← List.setIfInBounds_toArray]
  exact heap_setCell_same _ _ i _ _ _ h4
theorem TK.hb {w : World} {gb rb qb cb ab : Nat} {tq : TypeId} {G : List UInt8} {ZL QL : List Value} {k : Nat} {W : World} (h : TK w gb rb qb cb ab tq G ZL QL k W) (hG : G.length = 128) (i s : Nat) (hs : i + s ≤ 128) : HB W (.slice (some ⟨gb, i, none⟩) s (128 - i)) ((G.drop i).take s) := by
  have h0 := rangeAt_part (rangeAt_row h.gr) i s
  rw [← List.map_drop, ← List.map_take, Nat.zero_add] at h0
  have hl : ((G.drop i).take s).length = s := by rw [List.length_take, List.length_drop]; omega
  exact hb_range s hl.symm (by omega) (by unfold maxLen; omega) h0
theorem taker_any (g : Nat) (w : World) : Calls Try.prog 29 #[.pointer (some ⟨g, 0, none⟩)] w fun e w' => e = .returned (.func (.func 36) #[] #[.pointer (some ⟨w.heap.size, 0, none⟩), .pointer (some ⟨w.heap.size + 1, 0, none⟩)]) ∧ w' = (w.alloc (.cells #[.pointer (some ⟨g, 0, none⟩)] 55 (0, 0))).alloc (.cells #[.int .i64 0] 3 (0, 0)) := by
  go_enter Try.func29, Try.ntmps29
  go_wp2
  go_ret
  exact ⟨rfl, rfl⟩
set_option maxHeartbeats 1000000 in
theorem take_any {w : World} {gb rb qb cb ab : Nat} {tq : TypeId} {G : List UInt8} {ZL QL : List Value} {k : Nat} {W : World} (h : TK w gb rb qb cb ab tq G ZL QL k W) (s : Nat) (hs : k + s ≤ 128) (h1 : 1 ≤ s) :
    Calls Try.prog 36 #[.int .i64 (s : Int), .pointer (some ⟨cb, 0, none⟩), .pointer (some ⟨ab, 0, none⟩)] W fun e W' => e = .returned (.slice (some ⟨gb, k, none⟩) s (128 - k)) ∧ TK w gb rb qb cb ab tq G ZL QL (k + s) W' := by
  have HEND : Hid (∀ A : Int, A = (k : Int) + (s : Int) → TK w gb rb qb cb ab tq G ZL QL (k + s) (W.drew.setCell ⟨ab, 0, none⟩ (.int .i64 A))) := fun A hA => h.drew.went s A hA
  have hc1 : W.drew.cell? ⟨cb, 0, none⟩ = some (.pointer (some ⟨gb, 0, none⟩)) := by rw [cell_of_row _ _ 0 _ _ _ (by rw [heap_drew]; exact h.c1)]; rfl
  have hc2 : W.drew.cell? ⟨ab, 0, none⟩ = some (.int .i64 (k : Int)) := by rw [cell_of_row _ _ 0 _ _ _ (by rw [heap_drew]; exact h.c2)]; rfl
  have hz1 : W.drew.frozen? ⟨ab, 0, none⟩ = false := frozen_of_row _ _ 0 _ _ (by rw [heap_drew]; exact h.c2)
  have hsl := fun X => slice_grLH X gb k s ((k : Int) + (s : Int)) rfl hs h1
  have hwr : IntKind.i64.wrap ((k : Int) + (s : Int)) = (k : Int) + (s : Int) := by rw [IntKind.wrap_i64]; omega
  have hk8 : k ≤ 128 := by omega
  have hs8 : s ≤ 128 := by omega
  have HS0 : Hid (W.drew.cell? ⟨cb, 0, none⟩ = some (.pointer (some ⟨gb, 0, none⟩)) ∧ W.drew.cell? ⟨ab, 0, none⟩ = some (.int .i64 (k : Int))) := ⟨hc1, hc2⟩
  clear h hs hc1
  go_enter Try.func36, Try.ntmps36
  go_wp2
  refine wp_region_held_drew (S := fun X => X.cell? ⟨cb, 0, none⟩ = some (.pointer (some ⟨gb, 0, none⟩)) ∧ X.cell? ⟨ab, 0, none⟩ = some (.int .i64 (k : Int))) (by kernel_rfl) HS0.out (fun hHeld => ?_)
  refine wpAnyH_take (i := 0) (oi := { dst := some 6, op := Go.Op.load 55 (Go.Operand.tmp 1), type := 55, pos := _, after := #[], guard := none }) (v := .pointer (some ⟨gb, 0, none⟩)) rfl (by kernel_rfl) (by kernel_rfl) (by kernel_rfl) (fun _ _ _ h => h) (Or.inl ⟨by rfl, fun w' hw' => ?_⟩) hHeld ?_
  · have hcc := hw'.1; first | (go_simp; done) | (go_simp; rfl)
  try simp only [Act.put, List.setIfInBounds_toArray, List.set_cons_zero, List.set_cons_succ]
  refine wpAnyH_take (i := 1) (oi := { dst := some 7, op := Go.Op.nilCheck (Go.Operand.tmp 6), type := 55, pos := _, after := #[{ on := 0, ground := Go.Ground.data }], guard := none }) (v := .pointer (some ⟨gb, 0, none⟩)) rfl (by kernel_rfl) (by kernel_rfl) (by kernel_rfl) (fun _ _ _ h => h) (Or.inl ⟨by rfl, fun w' hw' => ?_⟩) hHeld ?_
  · first | (go_simp; done) | (go_simp; rfl)
  try simp only [Act.put, List.setIfInBounds_toArray, List.set_cons_zero, List.set_cons_succ]
  refine wpAnyH_take (i := 2) (oi := { dst := some 8, op := Go.Op.load 3 (Go.Operand.tmp 2), type := 3, pos := _, after := #[], guard := none }) (v := .int .i64 (k : Int)) rfl (by kernel_rfl) (by kernel_rfl) (by kernel_rfl) (fun _ _ _ h => h) (Or.inl ⟨by rfl, fun w' hw' => ?_⟩) hHeld ?_
  · have hcc := hw'.2; first | (go_simp; done) | (go_simp; rfl)
  try simp only [Act.put, List.setIfInBounds_toArray, List.set_cons_zero, List.set_cons_succ]
  refine wpAnyH_take (i := 3) (oi := { dst := some 9, op := Go.Op.load 3 (Go.Operand.tmp 2), type := 3, pos := _, after := #[], guard := none }) (v := .int .i64 (k : Int)) rfl (by kernel_rfl) (by kernel_rfl) (by kernel_rfl) (fun _ _ _ h => h) (Or.inl ⟨by rfl, fun w' hw' => ?_⟩) hHeld ?_
  · have hcc := hw'.2; first | (go_simp; done) | (go_simp; rfl)
  try simp only [Act.put, List.setIfInBounds_toArray, List.set_cons_zero, List.set_cons_succ]
  refine wpAnyH_take (i := 4) (oi := { dst := some 10, op := Go.Op.move (Go.Operand.tmp 0), type := 3, pos := _, after := #[], guard := none }) (v := .int .i64 (s : Int)) rfl (by kernel_rfl) (by kernel_rfl) (by kernel_rfl) (fun _ _ _ h => h) (Or.inl ⟨by rfl, fun w' hw' => ?_⟩) hHeld ?_
  · first | (go_simp; done) | (go_simp; rfl)
  try simp only [Act.put, List.setIfInBounds_toArray, List.set_cons_zero, List.set_cons_succ]
  refine wpAnyH_take (i := 5) (oi := { dst := some 11, op := Go.Op.binOp Go.BinOp.add 3 (Go.Operand.tmp 9) (Go.Operand.tmp 10) 3, type := 3, pos := _, after := #[{ on := 3, ground := Go.Ground.data }, { on := 4, ground := Go.Ground.data }], guard := none }) (v := .int .i64 ((k : Int) + (s : Int))) rfl (by kernel_rfl) (by kernel_rfl) (by kernel_rfl) (fun _ _ _ h => h) (Or.inl ⟨by rfl, fun w' hw' => ?_⟩) hHeld ?_
  · first | (go_simp; done) | (go_simp; rfl)
  try simp only [Act.put, List.setIfInBounds_toArray, List.set_cons_zero, List.set_cons_succ]
  refine wpAnyH_take (i := 6) (oi := { dst := some 12, op := Go.Op.slice 28 (Go.Operand.tmp 7) (some (Go.Operand.tmp 8)) (some (Go.Operand.tmp 11)) none, type := 56, pos := _, after := #[{ on := 1, ground := Go.Ground.data }, { on := 2, ground := Go.Ground.data }, { on := 5, ground := Go.Ground.data }], guard := none }) (v := .slice (some ⟨gb, k, none⟩) s (128 - k)) rfl (by kernel_rfl) (by kernel_rfl) (by kernel_rfl) (fun _ _ _ h => h) (Or.inl ⟨by rfl, fun w' hw' => ?_⟩) hHeld ?_
  · first | (go_simp; done) | (go_simp; rfl)
  try simp only [Act.put, List.setIfInBounds_toArray, List.set_cons_zero, List.set_cons_succ]
  refine wpAnyH_take (i := 7) (oi := { dst := some 5, op := Go.Op.assign (Go.Operand.tmp 12), type := 56, pos := _, after := #[{ on := 6, ground := Go.Ground.data }, { on := 0, ground := Go.Ground.phase }, { on := 1, ground := Go.Ground.phase }, { on := 2, ground := Go.Ground.phase }, { on := 3, ground := Go.Ground.phase }, { on := 4, ground := Go.Ground.phase }, { on := 5, ground := Go.Ground.phase }, { on := 6, ground := Go.Ground.phase }], guard := none }) (v := .slice (some ⟨gb, k, none⟩) s (128 - k)) rfl (by kernel_rfl) (by kernel_rfl) (by kernel_rfl) (fun _ _ _ h => h) (Or.inl ⟨by rfl, fun w' hw' => ?_⟩) hHeld ?_
  · first | (go_simp; done) | (go_simp; rfl)
  try simp only [Act.put, List.setIfInBounds_toArray, List.set_cons_zero, List.set_cons_succ]
  refine wpAnyH_done (by kernel_rfl) ?_ _
  clear hHeld HS0 hsl
  go_wp2
  go_ret
  exact ⟨rfl, HEND.out _ rfl⟩
theorem take_at {w : World} {gb rb qb cb ab : Nat} {tq : TypeId} {G : List UInt8} {ZL QL : List Value} {k : Nat} {W : World} (h : TK w gb rb qb cb ab tq G ZL QL k W) (s k' c : Nat) (hk : k + s = k') (hc : 128 - k = c) (hs : k' ≤ 128) (h1 : 1 ≤ s) :
    Calls Try.prog 36 #[.int .i64 (s : Int), .pointer (some ⟨cb, 0, none⟩), .pointer (some ⟨ab, 0, none⟩)] W fun e W' => e = .returned (.slice (some ⟨gb, k, none⟩) s c) ∧ TK w gb rb qb cb ab tq G ZL QL k' W' := by
  subst hk hc; exact take_any h s hs h1
set_option maxHeartbeats 1000000 in
theorem word8 (b o cap : Nat) (l : List UInt8) (w : World) (hl : l.length = 8) (hc : 8 ≤ cap) (h : HB w (.slice (some ⟨b, o, none⟩) 8 cap) l) :
    Calls Try.prog 30 #[.slice (some ⟨b, o, none⟩) 8 cap, .int .i64 0] w fun e w' => e = .returned (.int .u64 (W1.num l : Int)) ∧ w = w' := by
  have HN : Hid _ := number_any (.slice (some ⟨b, o, none⟩) 8 cap) l w (by omega) h
  clear h hl
  go_enter Try.func30, Try.ntmps30
  go_wp2_with fail
  refine Calls.mono HN.out ?_
  rintro e w1 ⟨rfl, rfl⟩
  go_wp2
  go_ret
  exact ⟨rfl, rfl⟩
end Go.Proofs.Ytabnmhmlcoakkaa.PC
