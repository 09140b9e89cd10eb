/- The document's memory (ref 6): contracts of New, Within, Word, SetWord, Get, Put. -/
import Derived.Test.YtnijjoankahddaaMI
set_option linter.unusedVariables false
set_option linter.unusedSimpArgs false
namespace Go.Proofs.Ytnijjoankahddaa.MC
open Go.RowKit

/-- The document's memory, to be read. -/
structure RR (w : World) (rb bb n cap : Nat) (l : List UInt8) : Prop where
  cell : w.cell? ⟨rb, 0, none⟩ = some (.slice (some ⟨bb, 0, none⟩) (128 * n) cap)
  row : w.rangeAt bb 0 (l.map B8)
  len : l.length = 128 * n
  pos : 1 ≤ n
  le : n ≤ 4096
  cap : 128 * n ≤ cap
/-- And to be written. -/
structure RM (w : World) (rb bb n : Nat) (l : List UInt8) : Prop where
  head : w.heap[rb]? = some (.cells #[.slice (some ⟨bb, 0, none⟩) (128 * n) (128 * n)] 93 (0, 0))
  row : AR w bb l
  len : l.length = 128 * n
  pos : 1 ≤ n
  le : n ≤ 4096
  ne : rb ≠ bb
theorem RM.cell {w : World} {rb bb n : Nat} {l : List UInt8} (h : RM w rb bb n l) : w.cell? ⟨rb, 0, none⟩ = some (.slice (some ⟨bb, 0, none⟩) (128 * n) (128 * n)) := by
  rw [cell_of_row _ _ 0 _ _ _ h.head]; rfl
theorem RM.rr {w : World} {rb bb n : Nat} {l : List UInt8} (h : RM w rb bb n l) : RR w rb bb n (128 * n) l := ⟨h.cell, rangeAt_row h.row, h.len, h.pos, h.le, Nat.le_refl _⟩
theorem RR.below {w w' : World} {rb bb n cap : Nat} {l : List UInt8} (h : RR w rb bb n cap l) (hb : Below w.heap.size w w') : RR w' rb bb n cap l :=
  ⟨(hb.cell (block_lt h.cell)).trans h.cell, rangeAt_below h.row hb, h.len, h.pos, h.le, h.cap⟩
theorem RM.below {w w' : World} {rb bb n : Nat} {l : List UInt8} (h : RM w rb bb n l) (hb : Below w.heap.size w w') : RM w' rb bb n l :=
  ⟨(hb.block _ (row_lt h.head)).trans h.head, (hb.block _ (row_lt h.row)).trans h.row, h.len, h.pos, h.le, h.ne⟩
theorem RM.kb {w w' : World} {b rb bb n : Nat} {l : List UInt8} (h : RM w rb bb n l) (hb : KB b w w') (h1 : rb ≠ b) (h2 : bb ≠ b) : RM w' rb bb n l :=
  ⟨(hb.2 _ (row_lt h.head) h1).trans h.head, (hb.2 _ (row_lt h.row) h2).trans h.row, h.len, h.pos, h.le, h.ne⟩
def RNewEnd (w : World) (n : Nat) (e : Ending) (w' : World) : Prop := ∃ rb bb, e = .returned (.pointer (some ⟨rb, 0, none⟩)) ∧ RM w' rb bb n (List.replicate (128 * n) 0) ∧ w.heap.size ≤ rb ∧ w.heap.size ≤ bb ∧ Below w.heap.size w w'
theorem own_ar {B : Nat} {w : World} {p N : Nat} (h : w.ownsRow B 5 1 (.slice (some ⟨p, 0, none⟩) N N) N (madeCells #[.int .u8 0] N).toList) : AR w p (List.replicate N 0) := by
  unfold AR
  rcases h.2 with ⟨e1, e2⟩ | ⟨g, cap, cur, e1, e2, e3, e4, e5, e6, e7⟩
  · simp at e1
  · simp only [Value.slice.injEq, Option.some.injEq, Addr.mk.injEq] at e1
    obtain ⟨⟨rfl, _, _⟩, _, rfl⟩ := e1
    rw [e3]
    congr 2
    rw [← Array.toList_inj, List.toList_toArray]
    rw [toList_madeCells_one] at e7
    rw [List.take_of_length_le (by simp; omega)] at e7
    rw [e7, List.map_replicate]
    simp [B8]
set_option maxHeartbeats 400000 in
set_option maxRecDepth 100000 in
theorem rnew_ok (n : Nat) (w : World) (h1 : 1 ≤ n) (h2 : n ≤ 4096) : Calls Try.prog 26 #[.int .i64 (n : Int)] w fun e w' => RNewEnd w n e w' := by
  obtain ⟨i0, hi, hz0, hz1, hz2⟩ := info_parts Try.infoU8
  go_enter Try.func26, Try.ntmps26
  go_wp2_with (at_make; refine wpList_make_full _ rfl _ _ 91 rfl w.heap.size 5 i0 (.int .u8 0) 1 Try.underlying91 hi hz0 hz1 _ _ _ _ (128 * n) rfl rfl (by omega) (by omega) ?b2 ?b3 (Nat.le_refl _) ?_)
  case b2 => rw [hz2]; omega
  case b3 => unfold maxLen; omega
  intro w0 hown0 hgrow0
  have hb0 : Below w.heap.size w w0 := (Below.refl _ _).grown hgrow0 (Nat.le_refl _) (fun k h => by cases h)
  have HR : Hid _ := own_ar hown0
  have HB0 : Hid _ := hb0
  clear hown0 hgrow0 hb0
  go_wp2
  go_ret
  have hlt := row_lt HR.out
  exact ⟨w0.heap.size, w.heap.size, rfl, ⟨heap_alloc_new _ _, (Below.heap_alloc _ _ _ hlt).trans HR.out, by simp, h1, h2, by omega⟩, HB0.out.size, Nat.le_refl _, HB0.out.alloc HB0.out.size _⟩
theorem wAt_step (l : List UInt8) (p k : Nat) (h : p + k + 1 ≤ l.length) : W1.num ((l.drop p).take (k + 1)) = (l.getD p 0).toNat + 256 * W1.num ((l.drop (p + 1)).take k) := by
  have hp : p < l.length := by omega
  rw [List.drop_eq_getElem_cons hp, List.take_succ_cons, W1.num]
  congr 2
  simp [List.getD, List.getElem?_eq_getElem hp]
theorem shl8 (x : Nat) (h : x < 256 ^ 7) : (256 : Int) * (x : Int) < 18446744073709551616 := by
  have : (256 : Nat) ^ 7 = 72057594037927936 := by decide
  omega
set_option maxHeartbeats 1000000 in
set_option maxRecDepth 100000 in
theorem rput_ok (rb bb n g : Nat) (l gl : List UInt8) (w : World) (h : RM w rb bb n l) (hg : g < n) (hgl : gl.length = 128) :
    Calls Try.prog 28 #[.pointer (some ⟨rb, 0, none⟩), .int .i64 (g : Int), gV gl] w fun e w' => (∃ v, e = .returned v) ∧ RM w' rb bb n (splice l (128 * g) gl) ∧ KB bb w w' := by
  unfold gV
  obtain ⟨GL, hGL⟩ : ∃ L, L = gl.map B8 := ⟨_, rfl⟩
  have hl128 : GL.length = 128 := by rw [hGL, List.length_map]; exact hgl
  rw [← hGL]
  have HG1 : Hid (∀ v ∈ GL, v.oneCell' = true) := by rw [hGL]; exact B8_one _
  obtain ⟨W1, hW1⟩ : ∃ W1, W1 = w.alloc (.cells GL.toArray 68 (0, 0)) := ⟨_, rfl⟩
  have hbl : Below w.heap.size w W1 := by rw [hW1]; exact (Below.refl _ _).alloc (Nat.le_refl _) _
  have h1 := h.below hbl
  have hbb := row_lt h.row
  have HK0 : Hid (KB bb w W1) := KB.of (by omega) hbl
  have HRB : Hid (W1.heap[w.heap.size]? = some (.cells GL.toArray 68 (0, 0))) := by rw [hW1]; exact heap_alloc_new _ _
  have hs1 : W1.heap.size = w.heap.size + 1 := by rw [hW1]; simp
  obtain ⟨N, hN⟩ : ∃ N, N = 128 * n := ⟨_, rfl⟩
  have hn4 := h.le
  have hN2 : N ≤ 524288 := by omega
  have hgN : 128 * g + 128 ≤ N := by omega
  have HCE : Hid (∀ W, KB bb W1 W → W.cell? ⟨rb, 0, none⟩ = some (.slice (some ⟨bb, 0, none⟩) N N)) := fun W hW => by
    rw [World.cell?_of_block (w := W1) (a := ⟨rb, 0, none⟩) (hW.2 rb (row_lt h1.head) h.ne), hN]; exact h1.cell
  have HROW : Hid (W1.drew.heap[bb]? = some (.cells (l.map B8).toArray 5 (0, 0))) := by rw [heap_drew]; exact h1.row
  have HSR : Hid (∀ j v, GL[j]? = some v → W1.drew.cell? ((⟨w.heap.size, 0, none⟩ : Addr).add j) = some v) := fun j v hv => by
    rw [add_none]
    exact rangeAt_row (w := W1.drew) HRB.out j v hv
  have HCN : Hid (GL.length = Nat.min 128 (N - 128 * g)) := by show _ = _; rw [hl128]; exact (Nat.min_eq_left (by omega)).symm
  have HFIT : Hid (0 + 128 * g + GL.length ≤ (l.map B8).length) := by show _ ≤ _; rw [hl128, List.length_map, h.len]; omega
  have HEND : Hid (RM (W1.drew.setRow bb (splice (l.map B8) (0 + 128 * g) GL).toArray) rb bb n (splice l (128 * g) gl)) := by
    refine ⟨?_, ?_, ?_, h.pos, h.le, h.ne⟩
    · rw [setRow_other _ _ _ _ h.ne, heap_drew]; exact h1.head
    · unfold AR; rw [setRow_heap _ _ _ _ _ _ HROW.out, hGL, splice_map, Nat.zero_add]
    · rw [splice_len _ _ _ (by rw [hgl, h.len]; omega)]; exact h.len
  have hs2 := fun W => slice_off W bb 0 N N (128 * g) (by omega) (by omega)
  have hs3 := fun W => slice_offA W bb 0 N N (128 * g) (by omega) (by omega)
  have hs4 := fun W => slice_grA W w.heap.size 0
  rw [show ((128 * g : Nat) : Int) = 128 * (g : Int) by omega] at hs2 hs3
  clear hGL hl128 h1 h hN
  go_enter Try.func28, Try.ntmps28
  go_wp2
  rw [← hW1]
  clear hW1
  refine wp_region_held_drew (S := KB bb W1) (by kernel_rfl) (KB.drew (KB.refl _ _)) (fun hHeld => ?_)
  refine wpAnyH_take (i := 0) (oi := { dst := some 6, op := Go.Op.move (Go.Operand.tmp 0), type := 37, pos := _, after := #[], guard := none }) (v := .pointer (some ⟨rb, 0, none⟩)) rfl (by kernel_rfl) (by kernel_rfl) (by kernel_rfl) (fun _ _ _ h => h) (Or.inl ⟨by rfl, fun w' hw' => ?_⟩) hHeld ?_
  · first | (go_simp; done) | (go_simp; rfl)
  try simp only [Act.put, List.setIfInBounds_toArray, List.set_cons_zero, List.set_cons_succ]
  refine wpAnyH_take (i := 1) (oi := { dst := some 7, op := Go.Op.nilCheck (Go.Operand.tmp 6), type := 0, pos := _, after := #[{ on := 0, ground := Go.Ground.data }], guard := none }) (v := .pointer (some ⟨rb, 0, none⟩)) rfl (by kernel_rfl) (by kernel_rfl) (by kernel_rfl) (fun _ _ _ h => h) (Or.inl ⟨by rfl, fun w' hw' => ?_⟩) hHeld ?_
  · first | (go_simp; done) | (go_simp; rfl)
  try simp only [Act.put, List.setIfInBounds_toArray, List.set_cons_zero, List.set_cons_succ]
  refine wpAnyH_take (i := 2) (oi := { dst := some 8, op := Go.Op.fieldAddr 93 (Go.Operand.tmp 7) 0, type := 0, pos := _, after := #[{ on := 1, ground := Go.Ground.data }], guard := none }) (v := .pointer (some ⟨rb, 0, none⟩)) rfl (by kernel_rfl) (by kernel_rfl) (by kernel_rfl) (fun _ _ _ h => h) (Or.inl ⟨by rfl, fun w' hw' => ?_⟩) hHeld ?_
  · first | (go_simp; done) | (go_simp; rfl)
  try simp only [Act.put, List.setIfInBounds_toArray, List.set_cons_zero, List.set_cons_succ]
  refine wpAnyH_take (i := 3) (oi := { dst := some 9, op := Go.Op.load 91 (Go.Operand.tmp 8), type := 91, pos := _, after := #[{ on := 2, ground := Go.Ground.data }], guard := none }) (v := .slice (some ⟨bb, 0, none⟩) N N) rfl (by kernel_rfl) (by kernel_rfl) (by kernel_rfl) (fun _ _ _ h => h) (Or.inl ⟨by rfl, fun w' hw' => ?_⟩) hHeld ?_
  · have hcc := HCE.out _ hw'; first | (go_simp; done) | (go_simp; rfl)
  try simp only [Act.put, List.setIfInBounds_toArray, List.set_cons_zero, List.set_cons_succ]
  refine wpAnyH_take (i := 4) (oi := { dst := some 10, op := Go.Op.move (Go.Operand.tmp 1), type := 3, pos := _, after := #[], guard := none }) (v := .int .i64 (g : Int)) rfl (by kernel_rfl) (by kernel_rfl) (by kernel_rfl) (fun _ _ _ h => h) (Or.inl ⟨by rfl, fun w' hw' => ?_⟩) hHeld ?_
  · first | (go_simp; done) | (go_simp; rfl)
  try simp only [Act.put, List.setIfInBounds_toArray, List.set_cons_zero, List.set_cons_succ]
  refine wpAnyH_take (i := 5) (oi := { dst := some 11, op := Go.Op.binOp Go.BinOp.mul 3 (Go.Operand.const (Go.Value.int Go.IntKind.i64 128)) (Go.Operand.tmp 10) 3, type := 3, pos := _, after := #[{ on := 4, ground := Go.Ground.data }], guard := none }) (v := .int .i64 (128 * (g : Int))) rfl (by kernel_rfl) (by kernel_rfl) (by kernel_rfl) (fun _ _ _ h => h) (Or.inl ⟨by rfl, fun w' hw' => ?_⟩) hHeld ?_
  · first | (go_simp; done) | (go_simp; exact wrap_i64_in _ (by omega) (by omega))
  try simp only [Act.put, List.setIfInBounds_toArray, List.set_cons_zero, List.set_cons_succ]
  refine wpAnyH_take (i := 6) (oi := { dst := some 12, op := Go.Op.slice 91 (Go.Operand.tmp 9) (some (Go.Operand.tmp 11)) none none, type := 91, pos := _, after := #[{ on := 3, ground := Go.Ground.data }, { on := 5, ground := Go.Ground.data }], guard := none }) (v := .slice (some ⟨bb, 0 + 128 * g, none⟩) (N - 128 * g) (N - 128 * g)) rfl (by kernel_rfl) (by kernel_rfl) (by kernel_rfl) (fun _ _ _ h => h) (Or.inl ⟨by rfl, fun w' hw' => ?_⟩) hHeld ?_
  · first | (go_simp; done) | (go_simp; rfl)
  try simp only [Act.put, List.setIfInBounds_toArray, List.set_cons_zero, List.set_cons_succ]
  refine wpAnyH_take (i := 7) (oi := { dst := some 13, op := Go.Op.slice 68 (Go.Operand.tmp 5) none none none, type := 91, pos := _, after := #[], guard := none }) (v := .slice (some ⟨w.heap.size, 0, none⟩) 128 128) rfl (by kernel_rfl) (by kernel_rfl) (by kernel_rfl) (fun _ _ _ h => h) (Or.inl ⟨by rfl, fun w' hw' => ?_⟩) hHeld ?_
  · first | (go_simp; done) | (go_simp; rfl)
  try simp only [Act.put, List.setIfInBounds_toArray, List.set_cons_zero, List.set_cons_succ]
  refine wpAnyH_ready (rs := [8]) (by kernel_rfl) (by simp) ?_
  refine AllReadyH.cons (o := { dst := some 14, op := Go.Op.call { callee := Go.Callee.builtin Go.Builtin.copy, args := #[Go.Operand.tmp 12, Go.Operand.tmp 13], argTypes := #[91, 91] }, type := 3, pos := _, after := #[{ on := 6, ground := Go.Ground.data }, { on := 7, ground := Go.Ground.data }], guard := none }) rfl (fun K hK => ?_) AllReadyH.nil
  rw [if_pos (by rfl)]
  refine wp_copy_seg _ _ rfl bb (0 + 128 * g) (N - 128 * g) (N - 128 * g) (some ⟨w.heap.size, 0, none⟩) 128 128 rfl rfl (l.map B8) 5 HROW.out GL HCN.out (fun _ => ⟨_, rfl, HSR.out⟩) HFIT.out HG1.out ?_
  have hK2 := KB.set hHeld (splice (l.map B8) (0 + 128 * g) GL).toArray
  refine hK.out _ _ hK2 (fun _ => ?_)
  clear hK K
  try simp only [Act.put, List.setIfInBounds_toArray, List.set_cons_zero, List.set_cons_succ]
  refine wpAnyH_done (by kernel_rfl) ?_ _
  go_wp2
  go_end0
  exact ⟨⟨_, rfl⟩, HEND.out, HK0.out.trans hK2⟩
end Go.Proofs.Ytnijjoankahddaa.MC
