/- The document's memory (ref 6): contracts of New, Within, Word, SetWord, Get, Put. -/
import Derived.Test.YtikchlmfklbojaaMI
set_option linter.unusedVariables false
set_option linter.unusedSimpArgs false
namespace Go.Proofs.Ytikchlmfklbojaa.MC
open Go.RowKit

/-- The document's memory, to be read. -/
structure RR (w : World) (rb bb n cap : Nat) (l : List UInt8) : Prop where
  cell : w.cell? ⟨rb, 0, none⟩ = some (.slice (some ⟨bb, 0, none⟩) (128 * n) cap)
  row : w.rangeAt bb 0 (l.map B8)
  len : l.length = 128 * n
  pos : 1 ≤ n
  le : n ≤ 4096
  cap : 128 * n ≤ cap
/-- And to be written. -/
structure RM (w : World) (rb bb n : Nat) (l : List UInt8) : Prop where
  head : w.heap[rb]? = some (.cells #[.slice (some ⟨bb, 0, none⟩) (128 * n) (128 * n)] 43 (0, 0))
  row : AR w bb l
  len : l.length = 128 * n
  pos : 1 ≤ n
  le : n ≤ 4096
  ne : rb ≠ bb
theorem RM.cell {w : World} {rb bb n : Nat} {l : List UInt8} (h : RM w rb bb n l) : w.cell? ⟨rb, 0, none⟩ = some (.slice (some ⟨bb, 0, none⟩) (128 * n) (128 * n)) := by
  rw [cell_of_row _ _ 0 _ _ _ h.head]; rfl
theorem RM.rr {w : World} {rb bb n : Nat} {l : List UInt8} (h : RM w rb bb n l) : RR w rb bb n (128 * n) l := ⟨h.cell, rangeAt_row h.row, h.len, h.pos, h.le, Nat.le_refl _⟩
theorem RR.below {w w' : World} {rb bb n cap : Nat} {l : List UInt8} (h : RR w rb bb n cap l) (hb : Below w.heap.size w w') : RR w' rb bb n cap l :=
  ⟨(hb.cell (block_lt h.cell)).trans h.cell, rangeAt_below h.row hb, h.len, h.pos, h.le, h.cap⟩
theorem RM.below {w w' : World} {rb bb n : Nat} {l : List UInt8} (h : RM w rb bb n l) (hb : Below w.heap.size w w') : RM w' rb bb n l :=
  ⟨(hb.block _ (row_lt h.head)).trans h.head, (hb.block _ (row_lt h.row)).trans h.row, h.len, h.pos, h.le, h.ne⟩
theorem RM.kb {w w' : World} {b rb bb n : Nat} {l : List UInt8} (h : RM w rb bb n l) (hb : KB b w w') (h1 : rb ≠ b) (h2 : bb ≠ b) : RM w' rb bb n l :=
  ⟨(hb.2 _ (row_lt h.head) h1).trans h.head, (hb.2 _ (row_lt h.row) h2).trans h.row, h.len, h.pos, h.le, h.ne⟩
def RNewEnd (w : World) (n : Nat) (e : Ending) (w' : World) : Prop := ∃ rb bb, e = .returned (.pointer (some ⟨rb, 0, none⟩)) ∧ RM w' rb bb n (List.replicate (128 * n) 0) ∧ w.heap.size ≤ rb ∧ w.heap.size ≤ bb ∧ Below w.heap.size w w'
theorem own_ar {B : Nat} {w : World} {p N : Nat} (h : w.ownsRow B 5 1 (.slice (some ⟨p, 0, none⟩) N N) N (madeCells #[.int .u8 0] N).toList) : AR w p (List.replicate N 0) := by
  unfold AR
  rcases h.2 with ⟨e1, e2⟩ | ⟨g, cap, cur, e1, e2, e3, e4, e5, e6, e7⟩
  · simp at e1
  · simp only [Value.slice.injEq, Option.some.injEq, Addr.mk.injEq] at e1
    obtain ⟨⟨rfl, _, _⟩, _, rfl⟩ := e1
    rw [e3]
    congr 2
    rw [← Array.toList_inj, List.toList_toArray]
    rw [toList_madeCells_one] at e7
    rw [List.take_of_length_le (by simp; omega)] at e7
    rw [e7, List.map_replicate]
    simp [B8]
set_option maxHeartbeats 400000 in
theorem rnew_ok (n : Nat) (w : World) (h1 : 1 ≤ n) (h2 : n ≤ 4096) : Calls Try.prog 10 #[.int .i64 (n : Int)] w fun e w' => RNewEnd w n e w' := by
  obtain ⟨i0, hi, hz0, hz1, hz2⟩ := info_parts Try.infoU8
  go_enter Try.func10, Try.ntmps10
  go_wp2_with (at_make; refine wpList_make_full _ rfl _ _ 32 rfl w.heap.size 5 i0 (.int .u8 0) 1 Try.underlying32 hi hz0 hz1 _ _ _ _ (128 * n) rfl rfl (by omega) (by omega) ?b2 ?b3 (Nat.le_refl _) ?_)
  case b2 => rw [hz2]; omega
  case b3 => unfold maxLen; omega
  intro w0 hown0 hgrow0
  have hb0 : Below w.heap.size w w0 := (Below.refl _ _).grown hgrow0 (Nat.le_refl _) (fun k h => by cases h)
  have HR : Hid _ := own_ar hown0
  have HB0 : Hid _ := hb0
  clear hown0 hgrow0 hb0
  go_wp2
  go_ret
  have hlt := row_lt HR.out
  exact ⟨w0.heap.size, w.heap.size, rfl, ⟨heap_alloc_new _ _, (Below.heap_alloc _ _ _ hlt).trans HR.out, by simp, h1, h2, by omega⟩, HB0.out.size, Nat.le_refl _, HB0.out.alloc HB0.out.size _⟩
set_option maxHeartbeats 1000000 in
theorem rwithin_any (rb bb n cap a m : Nat) (l : List UInt8) (w : World) (h : RR w rb bb n cap l) (ha : a < 18446744073709551616) (hm : m ≤ 9223372036854775807) :
    Calls Try.prog 14 #[.pointer (some ⟨rb, 0, none⟩), .int .u64 (a : Int), .int .i64 (m : Int)] w fun e w' => e = .returned (.bool (wIn n a m)) ∧ w = w' := by
  have hc := h.cell
  have hn4 := h.le
  obtain ⟨N, hN⟩ : ∃ N, N = 128 * n := ⟨_, rfl⟩
  rw [← hN] at hc
  have hN2 : N ≤ 524288 := by omega
  have hwI : wIn n a m = decide (m = 0 ∨ (a < N ∧ m ≤ N - a)) := by unfold wIn; rw [hN]
  rw [hwI]
  clear h hwI hN
  by_cases h0 : m = 0
  · subst h0
    go_enter Try.func14, Try.ntmps14
    go_wp2
    go_ret
    exact ⟨ret_bool (by simp), rfl⟩
  · have h0I : ¬ (m : Int) = 0 := by omega
    by_cases h1 : a < N
    · have h1I : (a : Int) < (N : Int) := by omega
      by_cases h3 : m ≤ N
      · have h3I : (m : Int) ≤ (N : Int) := by omega
        go_enter Try.func14, Try.ntmps14
        go_wp2
        go_ret
        refine ⟨ret_bool ?_, rfl⟩
        by_cases h2 : m ≤ N - a
        · rw [decide_eq_true (show (m = 0 ∨ (a < N ∧ m ≤ N - a)) from .inr ⟨h1, h2⟩)]; simp; omega
        · rw [decide_eq_false (show ¬ (m = 0 ∨ (a < N ∧ m ≤ N - a)) by omega)]; simp; omega
      · have h3I : ¬ (m : Int) ≤ (N : Int) := by omega
        rw [decide_eq_false (show ¬ (m = 0 ∨ (a < N ∧ m ≤ N - a)) by omega)]
        go_enter Try.func14, Try.ntmps14
        go_wp2
        go_ret
        exact ⟨rfl, rfl⟩
    · have h1I : ¬ (a : Int) < (N : Int) := by omega
      rw [decide_eq_false (show ¬ (m = 0 ∨ (a < N ∧ m ≤ N - a)) by omega)]
      go_enter Try.func14, Try.ntmps14
      go_wp2
      go_ret
      exact ⟨rfl, rfl⟩
theorem wAt_step (l : List UInt8) (p k : Nat) (h : p + k + 1 ≤ l.length) : W1.num ((l.drop p).take (k + 1)) = (l.getD p 0).toNat + 256 * W1.num ((l.drop (p + 1)).take k) := by
  have hp : p < l.length := by omega
  rw [List.drop_eq_getElem_cons hp, List.take_succ_cons, W1.num]
  congr 2
  simp [List.getD, List.getElem?_eq_getElem hp]
theorem shl8 (x : Nat) (h : x < 256 ^ 7) : (256 : Int) * (x : Int) < 18446744073709551616 := by
  have : (256 : Nat) ^ 7 = 72057594037927936 := by decide
  omega
set_option maxHeartbeats 1000000 in
theorem rword_ok (rb bb n cap a : Nat) (l : List UInt8) (w : World) (h : RR w rb bb n cap l) (hab : a + 8 ≤ 128 * n) :
    Calls Try.prog 15 #[.pointer (some ⟨rb, 0, none⟩), .int .u64 (a : Int)] w fun e w' => e = .returned (.int .u64 (wAt l a : Int)) ∧ w = w' := by
  have hc := h.cell
  have hn4 := h.le
  have hcap := h.cap
  have HL : Hid _ := h.len
  have hcel : ∀ i, i < 128 * n → w.cell? ⟨bb, i, none⟩ = some (.int .u8 ((l.getD i 0).toNat : Int)) := fun i hi => by
    have hi2 : i < l.length := by rw [HL.out]; exact hi
    have := h.row i (B8 l[i]) (by rw [List.getElem?_map, List.getElem?_eq_getElem hi2]; rfl)
    rw [Nat.zero_add] at this
    rw [this]
    simp [B8, List.getD, List.getElem?_eq_getElem hi2]
  have HCE : Hid _ := hcel
  obtain ⟨N, hN⟩ : ∃ N, N = 128 * n := ⟨_, rfl⟩
  rw [← hN] at hc hcap hab
  have hN2 : N ≤ 524288 := by omega
  have HN : Hid _ := hN
  clear h hcel hN
  go_enter Try.func15, Try.ntmps15
  go_wp2
  go_loop [5, 6] (fun x i => ∃ k : Nat, k ≤ 8 ∧ i = .int .i64 (7 - (k : Int)) ∧ x = .int .u64 (W1.num ((l.drop (a + 8 - k)).take k) : Int)) (fun _ i => (intOf i + 1).toNat)
  case atStart => exact ⟨0, Nat.zero_le _, rfl, rfl⟩
  case round =>
    obtain ⟨k, hk, rfl, rfl⟩ := hrel
    by_cases hlt : k < 8
    · obtain ⟨j, hj⟩ : ∃ j : Nat, (j : Int) = 7 - (k : Int) := ⟨7 - k, by omega⟩
      rw [← hj]
      have hj7 : j ≤ 7 := by omega
      have hce := HCE.out (a + j) (by rw [← HN.out]; omega)
      have hst := wAt_step l (a + j) k (by rw [HL.out, ← HN.out]; omega)
      rw [show a + 8 - k = a + j + 1 by omega]
      have hlo := W1.num_lt ((l.drop (a + j + 1)).take k)
      obtain ⟨X, hX⟩ : ∃ X, X = W1.num ((l.drop (a + j + 1)).take k) := ⟨_, rfl⟩
      rw [← hX] at hst hlo
      rw [← hX]
      have hX7 : X < 256 ^ 7 := Nat.lt_of_lt_of_le hlo (Nat.pow_le_pow_right (by decide) (by rw [List.length_take]; omega))
      have hX8 : X < 72057594037927936 := by have : (256 : Nat) ^ 7 = 72057594037927936 := (by decide); omega
      have hu8 := (l.getD (a + j) 0).toNat_lt
      have HST : Hid (X * 256 + (l.getD (a + j) 0).toNat = W1.num ((l.drop (a + 8 - (k + 1))).take (k + 1))) := by
        show _ = _
        rw [show a + 8 - (k + 1) = a + j by omega, hst]; omega
      have HJ : Hid _ := hj
      generalize (l.getD (a + j) 0).toNat = Y at *
      clear hst hlo hX hX7 hj
      go_wp2
      refine ⟨⟨k + 1, by omega, ?_, ?_⟩, ?_⟩
      · have := HJ.out
        congr 1; omega
      · rw [← HST.out]
        congr 1
      · simp only [intOf]; omega
    · have hke : k = 8 := by omega
      subst hke
      rw [show a + 8 - 8 = a by omega]
      go_wp2
      go_ret
      exact ⟨rfl, rfl⟩
set_option maxHeartbeats 1000000 in
theorem rsetword_ok (rb bb n a x : Nat) (l : List UInt8) (w : World) (h : RM w rb bb n l) (hx : x < 18446744073709551616) (hab : a + 8 ≤ 128 * n) :
    Calls Try.prog 28 #[.pointer (some ⟨rb, 0, none⟩), .int .u64 (a : Int), .int .u64 (x : Int)] w fun e w' => (∃ v, e = .returned v) ∧ RM w' rb bb n (splice l a (W1.le 8 x)) ∧ KB bb w w' := by
  have hn4 := h.le
  obtain ⟨N, hN⟩ : ∃ N, N = 128 * n := ⟨_, rfl⟩
  have hN2 : N ≤ 524288 := by omega
  have HM0 : Hid _ := h
  have HR0 : Hid (AR w bb (splice l a ((W1.le 8 x).take 0))) := by
    show AR _ _ _
    rw [List.take_zero, splice_nil]; exact h.row
  have hl8 : (W1.le 8 x).length = 8 := W1.le_length 8 x
  have hll : l.length = N := by rw [hN]; exact h.len
  have HN : Hid _ := hN
  rw [← hN] at hab
  clear h hN
  go_enter Try.func28, Try.ntmps28
  go_wp2
  go_loopw [6] (fun i wr => ∃ k : Nat, k ≤ 8 ∧ i = .int .i64 k ∧ AR wr bb (splice l a ((W1.le 8 x).take k)) ∧ KB bb w wr) (fun i _ => 8 - (intOf i).toNat)
  case atStart => exact ⟨0, Nat.zero_le _, rfl, HR0.out, KB.refl _ _⟩
  case round =>
    clear HR0
    obtain ⟨k, hk, rfl, hR, hB⟩ := hrel
    by_cases hlt : k < 8
    · have hl : (splice l a ((W1.le 8 x).take k)).length = N := by rw [splice_len _ _ _ (by rw [List.length_take, hl8, hll]; omega), hll]
      obtain ⟨u0, hce⟩ := hR.cell (a + k) (by omega)
      have hfz := hR.frozen (a + k)
      have HST : Hid _ := AR.step l a (W1.le 8 x) k _ hR (by rw [hll, hl8]; omega) (W1.le_get 8 x k hlt)
      have HBB : Hid (KB bb w wr) := hB
      have HSH : Hid _ := W1.shr_byte k x hx
      have hc : wr.cell? ⟨rb, 0, none⟩ = some (.slice (some ⟨bb, 0, none⟩) N N) := by
        rw [World.cell?_of_block (w := w) (a := ⟨rb, 0, none⟩) (hB.2 rb (row_lt HM0.out.head) HM0.out.ne), HN.out]; exact HM0.out.cell
      clear hR hB hl
      go_wp2
      go_roundw
      case rel =>
        refine ⟨k + 1, by omega, by go_num, ?_, HBB.out.setCell _⟩
        have h := HST.out
        unfold B8 at h
        rw [← HSH.out, IntKind.wrap_u8] at h
        exact h
      case measure => simp [intOf]; omega
    · have hke : k = 8 := by omega
      subst hke
      rw [List.take_of_length_le (by omega)] at hR
      have HRT : Hid _ := hR
      have HBT : Hid (KB bb w wr) := hB
      clear hR hB
      go_wp2
      go_end0
      have h := HM0.out
      exact ⟨⟨_, rfl⟩, ⟨(HBT.out.2 _ (row_lt h.head) h.ne).trans h.head, HRT.out, by rw [splice_len _ _ _ (by omega)]; exact h.len, h.pos, h.le, h.ne⟩, HBT.out⟩
set_option maxHeartbeats 1000000 in
theorem rput_ok (rb bb n g : Nat) (l gl : List UInt8) (w : World) (h : RM w rb bb n l) (hg : g < n) (hgl : gl.length = 128) :
    Calls Try.prog 30 #[.pointer (some ⟨rb, 0, none⟩), .int .i64 (g : Int), gV gl] w fun e w' => (∃ v, e = .returned v) ∧ RM w' rb bb n (splice l (128 * g) gl) ∧ KB bb w w' := by
  unfold gV
  obtain ⟨GL, hGL⟩ : ∃ L, L = gl.map B8 := ⟨_, rfl⟩
  have hl128 : GL.length = 128 := by rw [hGL, List.length_map]; exact hgl
  rw [← hGL]
  have HG1 : Hid (∀ v ∈ GL, v.oneCell' = true) := by rw [hGL]; exact B8_one _
  obtain ⟨W1, hW1⟩ : ∃ W1, W1 = w.alloc (.cells GL.toArray 45 (0, 0)) := ⟨_, rfl⟩
  have hbl : Below w.heap.size w W1 := by rw [hW1]; exact (Below.refl _ _).alloc (Nat.le_refl _) _
  have h1 := h.below hbl
  have hbb := row_lt h.row
  have HK0 : Hid (KB bb w W1) := KB.of (by omega) hbl
  have HRB : Hid (W1.heap[w.heap.size]? = some (.cells GL.toArray 45 (0, 0))) := by rw [hW1]; exact heap_alloc_new _ _
  have hs1 : W1.heap.size = w.heap.size + 1 := by rw [hW1]; simp
  obtain ⟨N, hN⟩ : ∃ N, N = 128 * n := ⟨_, rfl⟩
  have hn4 := h.le
  have hN2 : N ≤ 524288 := by omega
  have hgN : 128 * g + 128 ≤ N := by omega
  have HCE : Hid (∀ W, KB bb W1 W → W.cell? ⟨rb, 0, none⟩ = some (.slice (some ⟨bb, 0, none⟩) N N)) := fun W hW => by
    rw [World.cell?_of_block (w := W1) (a := ⟨rb, 0, none⟩) (hW.2 rb (row_lt h1.head) h.ne), hN]; exact h1.cell
  have HROW : Hid (W1.drew.heap[bb]? = some (.cells (l.map B8).toArray 5 (0, 0))) := by rw [heap_drew]; exact h1.row
  have HSR : Hid (∀ j v, GL[j]? = some v → W1.drew.cell? ((⟨w.heap.size, 0, none⟩ : Addr).add j) = some v) := fun j v hv => by
    rw [add_none]
    exact rangeAt_row (w := W1.drew) HRB.out j v hv
  have HCN : Hid (GL.length = Nat.min 128 (N - 128 * g)) := by show _ = _; rw [hl128]; exact (Nat.min_eq_left (by omega)).symm
  have HFIT : Hid (0 + 128 * g + GL.length ≤ (l.map B8).length) := by show _ ≤ _; rw [hl128, List.length_map, h.len]; omega
  have HEND : Hid (RM (W1.drew.setRow bb (splice (l.map B8) (0 + 128 * g) GL).toArray) rb bb n (splice l (128 * g) gl)) := by
    refine ⟨?_, ?_, ?_, h.pos, h.le, h.ne⟩
    · rw [setRow_other _ _ _ _ h.ne, heap_drew]; exact h1.head
    · unfold AR; rw [setRow_heap _ _ _ _ _ _ HROW.out, hGL, splice_map, Nat.zero_add]
    · rw [splice_len _ _ _ (by rw [hgl, h.len]; omega)]; exact h.len
  have hs2 := fun W => slice_off W bb 0 N N (128 * g) (by omega) (by omega)
  have hs3 := fun W => slice_offA W bb 0 N N (128 * g) (by omega) (by omega)
  have hs4 := fun W => slice_grA W w.heap.size 0
  rw [show ((128 * g : Nat) : Int) = 128 * (g : Int) by omega] at hs2 hs3
  clear hGL hl128 h1 h hN
  go_enter Try.func30, Try.ntmps30
  go_wp2
  rw [← hW1]
  clear hW1
  refine wp_region_held_drew (S := KB bb W1) (by kernel_rfl) (KB.drew (KB.refl _ _)) (fun hHeld => ?_)
  refine wpAnyH_take (i := 0) (oi := { dst := some 6, op := Go.Op.move (Go.Operand.tmp 0), type := 29, pos := _, after := #[], guard := none }) (v := .pointer (some ⟨rb, 0, none⟩)) rfl (by kernel_rfl) (by kernel_rfl) (by kernel_rfl) (fun _ _ _ h => h) (Or.inl ⟨by rfl, fun w' hw' => ?_⟩) hHeld ?_
  · first | (go_simp; done) | (go_simp; rfl)
  try simp only [Act.put, List.setIfInBounds_toArray, List.set_cons_zero, List.set_cons_succ]
  refine wpAnyH_take (i := 1) (oi := { dst := some 7, op := Go.Op.nilCheck (Go.Operand.tmp 6), type := 0, pos := _, after := #[{ on := 0, ground := Go.Ground.data }], guard := none }) (v := .pointer (some ⟨rb, 0, none⟩)) rfl (by kernel_rfl) (by kernel_rfl) (by kernel_rfl) (fun _ _ _ h => h) (Or.inl ⟨by rfl, fun w' hw' => ?_⟩) hHeld ?_
  · first | (go_simp; done) | (go_simp; rfl)
  try simp only [Act.put, List.setIfInBounds_toArray, List.set_cons_zero, List.set_cons_succ]
  refine wpAnyH_take (i := 2) (oi := { dst := some 8, op := Go.Op.fieldAddr 43 (Go.Operand.tmp 7) 0, type := 0, pos := _, after := #[{ on := 1, ground := Go.Ground.data }], guard := none }) (v := .pointer (some ⟨rb, 0, none⟩)) rfl (by kernel_rfl) (by kernel_rfl) (by kernel_rfl) (fun _ _ _ h => h) (Or.inl ⟨by rfl, fun w' hw' => ?_⟩) hHeld ?_
  · first | (go_simp; done) | (go_simp; rfl)
  try simp only [Act.put, List.setIfInBounds_toArray, List.set_cons_zero, List.set_cons_succ]
  refine wpAnyH_take (i := 3) (oi := { dst := some 9, op := Go.Op.load 32 (Go.Operand.tmp 8), type := 32, pos := _, after := #[{ on := 2, ground := Go.Ground.data }], guard := none }) (v := .slice (some ⟨bb, 0, none⟩) N N) rfl (by kernel_rfl) (by kernel_rfl) (by kernel_rfl) (fun _ _ _ h => h) (Or.inl ⟨by rfl, fun w' hw' => ?_⟩) hHeld ?_
  · have hcc := HCE.out _ hw'; first | (go_simp; done) | (go_simp; rfl)
  try simp only [Act.put, List.setIfInBounds_toArray, List.set_cons_zero, List.set_cons_succ]
  refine wpAnyH_take (i := 4) (oi := { dst := some 10, op := Go.Op.move (Go.Operand.tmp 1), type := 3, pos := _, after := #[], guard := none }) (v := .int .i64 (g : Int)) rfl (by kernel_rfl) (by kernel_rfl) (by kernel_rfl) (fun _ _ _ h => h) (Or.inl ⟨by rfl, fun w' hw' => ?_⟩) hHeld ?_
  · first | (go_simp; done) | (go_simp; rfl)
  try simp only [Act.put, List.setIfInBounds_toArray, List.set_cons_zero, List.set_cons_succ]
  refine wpAnyH_take (i := 5) (oi := { dst := some 11, op := Go.Op.binOp Go.BinOp.mul 3 (Go.Operand.const (Go.Value.int Go.IntKind.i64 128)) (Go.Operand.tmp 10) 3, type := 3, pos := _, after := #[{ on := 4, ground := Go.Ground.data }], guard := none }) (v := .int .i64 (128 * (g : Int))) rfl (by kernel_rfl) (by kernel_rfl) (by kernel_rfl) (fun _ _ _ h => h) (Or.inl ⟨by rfl, fun w' hw' => ?_⟩) hHeld ?_
  · first | (go_simp; done) | (go_simp; exact wrap_i64_in _ (by omega) (by omega))
  try simp only [Act.put, List.setIfInBounds_toArray, List.set_cons_zero, List.set_cons_succ]
  refine wpAnyH_take (i := 6) (oi := { dst := some 12, op := Go.Op.slice 32 (Go.Operand.tmp 9) (some (Go.Operand.tmp 11)) none none, type := 32, pos := _, after := #[{ on := 3, ground := Go.Ground.data }, { on := 5, ground := Go.Ground.data }], guard := none }) (v := .slice (some ⟨bb, 0 + 128 * g, none⟩) (N - 128 * g) (N - 128 * g)) rfl (by kernel_rfl) (by kernel_rfl) (by kernel_rfl) (fun _ _ _ h => h) (Or.inl ⟨by rfl, fun w' hw' => ?_⟩) hHeld ?_
  · first | (go_simp; done) | (go_simp; rfl)
  try simp only [Act.put, List.setIfInBounds_toArray, List.set_cons_zero, List.set_cons_succ]
  refine wpAnyH_take (i := 7) (oi := { dst := some 13, op := Go.Op.slice 45 (Go.Operand.tmp 5) none none none, type := 32, pos := _, after := #[], guard := none }) (v := .slice (some ⟨w.heap.size, 0, none⟩) 128 128) rfl (by kernel_rfl) (by kernel_rfl) (by kernel_rfl) (fun _ _ _ h => h) (Or.inl ⟨by rfl, fun w' hw' => ?_⟩) hHeld ?_
  · first | (go_simp; done) | (go_simp; rfl)
  try simp only [Act.put, List.setIfInBounds_toArray, List.set_cons_zero, List.set_cons_succ]
  refine wpAnyH_ready (rs := [8]) (by kernel_rfl) (by simp) ?_
  refine AllReadyH.cons (o := { dst := some 14, op := Go.Op.call { callee := Go.Callee.builtin Go.Builtin.copy, args := #[Go.Operand.tmp 12, Go.Operand.tmp 13], argTypes := #[32, 32] }, type := 3, pos := _, after := #[{ on := 6, ground := Go.Ground.data }, { on := 7, ground := Go.Ground.data }], guard := none }) rfl (fun K hK => ?_) AllReadyH.nil
  rw [if_pos (by rfl)]
  refine wp_copy_seg _ _ rfl bb (0 + 128 * g) (N - 128 * g) (N - 128 * g) (some ⟨w.heap.size, 0, none⟩) 128 128 rfl rfl (l.map B8) 5 HROW.out GL HCN.out (fun _ => ⟨_, rfl, HSR.out⟩) HFIT.out HG1.out ?_
  have hK2 := KB.set hHeld (splice (l.map B8) (0 + 128 * g) GL).toArray
  refine hK.out _ _ hK2 (fun _ => ?_)
  clear hK K
  try simp only [Act.put, List.setIfInBounds_toArray, List.set_cons_zero, List.set_cons_succ]
  refine wpAnyH_done (by kernel_rfl) ?_ _
  go_wp2
  go_end0
  exact ⟨⟨_, rfl⟩, HEND.out, HK0.out.trans hK2⟩
set_option maxHeartbeats 1000000 in
theorem rget_ok (rb bb n cap g : Nat) (l : List UInt8) (w : World) (h : RR w rb bb n cap l) (hg : g < n) (hcm : cap ≤ maxLen) :
    Calls Try.prog 18 #[.pointer (some ⟨rb, 0, none⟩), .int .i64 (g : Int)] w fun e w' => e = .returned (gV (getB l g)) ∧ Below w.heap.size w w' := by
  unfold gV
  have hzv := fun W => zero_gr W
  obtain ⟨ZL, hZL⟩ : ∃ L, L = Z128.map B8 := ⟨_, rfl⟩
  rw [← hZL] at hzv
  have HZS : Hid (ZL.toArray.size = 128) := by show _ = _; rw [hZL]; simp [Z128]
  have HZ1 : Hid (ZL.toArray.all (·.oneCell') = true) := by show _ = _; rw [hZL]; exact B8_onea _
  have HZL : Hid _ := hZL
  clear hZL
  obtain ⟨GL, hGL⟩ : ∃ L, L = (getB l g).map B8 := ⟨_, rfl⟩
  have hl128 : GL.length = 128 := by rw [hGL, List.length_map]; exact getB_len l n g h.len hg
  rw [← hGL]
  have HGI : Hid _ := info128 GL hl128
  have HGA : Hid (GL.toArray.size = 128) := by show _ = _; simpa using hl128
  have HG1 : Hid (∀ v ∈ GL, v.oneCell' = true) := by rw [hGL]; exact B8_one _
  have HG1a : Hid (GL.toArray.all (·.oneCell') = true) := by show _ = _; rw [hGL]; exact B8_onea _
  obtain ⟨V2, hV2⟩ : ∃ V2, V2 = (w.alloc (.cells ZL.toArray 45 (0, 0))).alloc (.cells ZL.toArray 45 (0, 0)) := ⟨_, rfl⟩
  have hbl : Below w.heap.size w V2 := by rw [hV2]; exact ((Below.refl _ _).alloc (Nat.le_refl _) _).alloc (by simp) _
  have hs2 : V2.heap.size = w.heap.size + 2 := by rw [hV2]; simp
  have HR1 : Hid (V2.heap[w.heap.size]? = some (.cells ZL.toArray 45 (0, 0))) := by
    rw [hV2]; exact (Below.heap_alloc _ _ _ (by simp)).trans (heap_alloc_new _ _)
  have HR2 : Hid (V2.heap[w.heap.size + 1]? = some (.cells ZL.toArray 45 (0, 0))) := by rw [hV2]; exact heap_at _ _ _ (by simp)
  have hR := h.below hbl
  have hrl : rb < w.heap.size := block_lt h.cell
  obtain ⟨N, hN⟩ : ∃ N, N = 128 * n := ⟨_, rfl⟩
  have hn4 := h.le
  have hN2 : N ≤ 524288 := by omega
  have hgN : 128 * g + 128 ≤ N := by omega
  have hcap := h.cap
  rw [← hN] at hcap
  have HCE : Hid (∀ W, KB (w.heap.size + 1) V2 W → W.cell? ⟨rb, 0, none⟩ = some (.slice (some ⟨bb, 0, none⟩) N cap)) := fun W hW => by
    rw [World.cell?_of_block (w := V2) (a := ⟨rb, 0, none⟩) (hW.2 rb (by omega) (by omega)), hN]; exact hR.cell
  have HSR : Hid (∀ j v, GL[j]? = some v → V2.drew.cell? ((⟨bb, 0 + 128 * g, none⟩ : Addr).add j) = some v) := fun j v hv => by
    rw [add_none]
    have hrr : V2.drew.rangeAt bb 0 (l.map B8) := hR.row
    have := rangeAt_part hrr (128 * g) 128
    rw [getB_map, ← hGL] at this
    exact this j v hv
  have HCN : Hid (GL.length = Nat.min (N - 128 * g) 128) := by show _ = _; rw [hl128]; exact (Nat.min_eq_right (by omega)).symm
  have HZLl : Hid (ZL.length = 128) := by show _ = _; have := HZS.out; simpa using this
  have HFIT : Hid (0 + GL.length ≤ ZL.length) := by show _ ≤ _; rw [hl128, HZLl.out]; omega
  have HROW : Hid (V2.drew.heap[w.heap.size + 1]? = some (.cells ZL.toArray 45 (0, 0))) := by rw [heap_drew]; exact HR2.out
  have HSP : Hid (splice ZL 0 GL = GL) := splice_all _ _ (by rw [hl128, HZLl.out])
  have hsl2 := fun W => slice_off W bb 0 N cap (128 * g) (by omega) (by omega)
  have hsl3 := fun W => slice_offA W bb 0 N cap (128 * g) (by omega) (by omega)
  have hsl4 := fun W => slice_grA W (w.heap.size + 1) 0
  rw [show ((128 * g : Nat) : Int) = 128 * (g : Int) by omega] at hsl2 hsl3
  have HBL : Hid _ := hbl
  clear hGL hl128 h hN hR hbl
  go_enter Try.func18, Try.ntmps18
  go_wp2
  rw [← hV2]
  clear hV2
  refine wp_region_held_drew (S := KB (w.heap.size + 1) V2) (by kernel_rfl) (KB.drew (KB.refl _ _)) (fun hHeld => ?_)
  refine wpAnyH_take (i := 0) (oi := { dst := some 6, op := Go.Op.slice 45 (Go.Operand.tmp 5) none none none, type := 32, pos := _, after := #[], guard := none }) (v := .slice (some ⟨w.heap.size + 1, 0, none⟩) 128 128) rfl (by kernel_rfl) (by kernel_rfl) (by kernel_rfl) (fun _ _ _ h => h) (Or.inl ⟨by rfl, fun w' hw' => ?_⟩) hHeld ?_
  · first | (go_simp; done) | (go_simp; rfl)
  try simp only [Act.put, List.setIfInBounds_toArray, List.set_cons_zero, List.set_cons_succ]
  refine wpAnyH_take (i := 1) (oi := { dst := some 7, op := Go.Op.move (Go.Operand.tmp 0), type := 29, pos := _, after := #[], guard := none }) (v := .pointer (some ⟨rb, 0, none⟩)) rfl (by kernel_rfl) (by kernel_rfl) (by kernel_rfl) (fun _ _ _ h => h) (Or.inl ⟨by rfl, fun w' hw' => ?_⟩) hHeld ?_
  · first | (go_simp; done) | (go_simp; rfl)
  try simp only [Act.put, List.setIfInBounds_toArray, List.set_cons_zero, List.set_cons_succ]
  refine wpAnyH_take (i := 2) (oi := { dst := some 8, op := Go.Op.nilCheck (Go.Operand.tmp 7), type := 0, pos := _, after := #[{ on := 1, ground := Go.Ground.data }], guard := none }) (v := .pointer (some ⟨rb, 0, none⟩)) rfl (by kernel_rfl) (by kernel_rfl) (by kernel_rfl) (fun _ _ _ h => h) (Or.inl ⟨by rfl, fun w' hw' => ?_⟩) hHeld ?_
  · first | (go_simp; done) | (go_simp; rfl)
  try simp only [Act.put, List.setIfInBounds_toArray, List.set_cons_zero, List.set_cons_succ]
  refine wpAnyH_take (i := 3) (oi := { dst := some 9, op := Go.Op.fieldAddr 43 (Go.Operand.tmp 8) 0, type := 0, pos := _, after := #[{ on := 2, ground := Go.Ground.data }], guard := none }) (v := .pointer (some ⟨rb, 0, none⟩)) rfl (by kernel_rfl) (by kernel_rfl) (by kernel_rfl) (fun _ _ _ h => h) (Or.inl ⟨by rfl, fun w' hw' => ?_⟩) hHeld ?_
  · first | (go_simp; done) | (go_simp; rfl)
  try simp only [Act.put, List.setIfInBounds_toArray, List.set_cons_zero, List.set_cons_succ]
  refine wpAnyH_take (i := 4) (oi := { dst := some 10, op := Go.Op.load 32 (Go.Operand.tmp 9), type := 32, pos := _, after := #[{ on := 3, ground := Go.Ground.data }], guard := none }) (v := .slice (some ⟨bb, 0, none⟩) N cap) rfl (by kernel_rfl) (by kernel_rfl) (by kernel_rfl) (fun _ _ _ h => h) (Or.inl ⟨by rfl, fun w' hw' => ?_⟩) hHeld ?_
  · have hcc := HCE.out _ hw'; first | (go_simp; done) | (go_simp; rfl)
  try simp only [Act.put, List.setIfInBounds_toArray, List.set_cons_zero, List.set_cons_succ]
  refine wpAnyH_take (i := 5) (oi := { dst := some 11, op := Go.Op.move (Go.Operand.tmp 1), type := 3, pos := _, after := #[], guard := none }) (v := .int .i64 (g : Int)) rfl (by kernel_rfl) (by kernel_rfl) (by kernel_rfl) (fun _ _ _ h => h) (Or.inl ⟨by rfl, fun w' hw' => ?_⟩) hHeld ?_
  · first | (go_simp; done) | (go_simp; rfl)
  try simp only [Act.put, List.setIfInBounds_toArray, List.set_cons_zero, List.set_cons_succ]
  refine wpAnyH_take (i := 6) (oi := { dst := some 12, op := Go.Op.binOp Go.BinOp.mul 3 (Go.Operand.const (Go.Value.int Go.IntKind.i64 128)) (Go.Operand.tmp 11) 3, type := 3, pos := _, after := #[{ on := 5, ground := Go.Ground.data }], guard := none }) (v := .int .i64 (128 * (g : Int))) rfl (by kernel_rfl) (by kernel_rfl) (by kernel_rfl) (fun _ _ _ h => h) (Or.inl ⟨by rfl, fun w' hw' => ?_⟩) hHeld ?_
  · first | (go_simp; done) | (go_simp; exact wrap_i64_in _ (by omega) (by omega))
  try simp only [Act.put, List.setIfInBounds_toArray, List.set_cons_zero, List.set_cons_succ]
  refine wpAnyH_take (i := 7) (oi := { dst := some 13, op := Go.Op.slice 32 (Go.Operand.tmp 10) (some (Go.Operand.tmp 12)) none none, type := 32, pos := _, after := #[{ on := 4, ground := Go.Ground.data }, { on := 6, ground := Go.Ground.data }], guard := none }) (v := .slice (some ⟨bb, 0 + 128 * g, none⟩) (N - 128 * g) (cap - 128 * g)) rfl (by kernel_rfl) (by kernel_rfl) (by kernel_rfl) (fun _ _ _ h => h) (Or.inl ⟨by rfl, fun w' hw' => ?_⟩) hHeld ?_
  · first | (go_simp; done) | (go_simp; rfl)
  try simp only [Act.put, List.setIfInBounds_toArray, List.set_cons_zero, List.set_cons_succ]
  refine wpAnyH_ready (rs := [8]) (by kernel_rfl) (by simp) ?_
  refine AllReadyH.cons (o := { dst := some 14, op := Go.Op.call { callee := Go.Callee.builtin Go.Builtin.copy, args := #[Go.Operand.tmp 6, Go.Operand.tmp 13], argTypes := #[32, 32] }, type := 3, pos := _, after := #[{ on := 0, ground := Go.Ground.data }, { on := 7, ground := Go.Ground.data }], guard := none }) rfl (fun K hK => ?_) AllReadyH.nil
  rw [if_pos (by rfl)]
  refine wp_copy_seg _ _ rfl (w.heap.size + 1) 0 128 128 (some ⟨bb, 0 + 128 * g, none⟩) (N - 128 * g) (cap - 128 * g) rfl rfl ZL 45 HROW.out GL HCN.out (fun _ => ⟨_, rfl, HSR.out⟩) HFIT.out HG1.out ?_
  rw [HSP.out]
  have hK2 := KB.set hHeld GL.toArray
  refine hK.out _ _ hK2 (fun _ => ?_)
  clear hK K
  try simp only [Act.put, List.setIfInBounds_toArray, List.set_cons_zero, List.set_cons_succ]
  refine wpAnyH_done (by kernel_rfl) ?_ _
  have hr3 : (V2.drew.setRow (w.heap.size + 1) GL.toArray).heap[w.heap.size + 1]? = some (.cells GL.toArray 45 (0, 0)) := setRow_heap _ _ _ _ _ _ HROW.out
  have HRA3 : Hid _ := rangeAt_row hr3
  have HR13 : Hid ((V2.drew.setRow (w.heap.size + 1) GL.toArray).heap[w.heap.size]? = some (.cells ZL.toArray 45 (0, 0))) := (setRow_other _ _ _ _ (by omega)).trans HR1.out
  have HB3 : Hid (Below w.heap.size w (V2.drew.setRow (w.heap.size + 1) GL.toArray)) := below_setRow HBL.out.drew (by omega) _
  generalize V2.drew.setRow (w.heap.size + 1) GL.toArray = V3 at *
  clear hr3 hK2
  go_wp2_with (first
    | (refine wpList_load_mid rfl 45 _ rfl (w.heap.size + 1) 0 rfl GL _ HRA3.out Try.underlying45 rfl HGI.out ?_)
    | (refine wpList_store_row rfl 45 _ _ rfl w.heap.size GL.toArray rfl rfl 45 ZL.toArray HR13.out (info128a _ HGA.out) (HZS.out.trans HGA.out.symm) HG1a.out ?_))
  refine bodyPost_ret (v := .agg GL.toArray) (results_cell_row Try.results18 _ _ w.heap.size 45 _ (0, 0) _ rfl (setRow_heap _ _ _ _ _ _ HR13.out) Try.underlying45 rfl (info128a _ HGA.out)) rfl ⟨rfl, below_setRow HB3.out (Nat.le_refl _) _⟩
end Go.Proofs.Ytikchlmfklbojaa.MC
