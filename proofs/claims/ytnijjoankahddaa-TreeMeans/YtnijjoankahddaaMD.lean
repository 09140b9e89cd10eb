/- machine: contracts of Put, Scrub, Write. -/
import Derived.Test.YtnijjoankahddaaMB
set_option linter.unusedVariables false
set_option linter.unusedSimpArgs false
namespace Go.Proofs.Ytnijjoankahddaa.MC
open Go.RowKit

theorem size_u8 (w : World) : (sizeOf 5).run Try.prog w = .ok 1 w := by kernel_rfl
theorem add_none (b o j : Nat) : (⟨b, o, none⟩ : Addr).add j = ⟨b, o + j, none⟩ := by unfold Addr.add; split <;> simp_all
/-- A granule's bytes from a place on. -/
theorem slice_gr (W : World) (b o k : Nat) (h : k < 128) : (Instr.sliceAt 68 (.pointer (some ⟨b, o, none⟩)) (some (.int .i64 (k : Int))) none none).run Try.prog W = .ok (.slice (some ⟨b, o + k, none⟩) (128 - k) (128 - k)) W := by
  have ha : Try.prog.arrayLen 68 = 128 := by kernel_rfl
  have hu : Try.prog.underlying 68 = some (.array (Try.prog.arrayLen 68) (Try.prog.elem 68)) := by kernel_rfl
  have he : Try.prog.elem 68 = 5 := by kernel_rfl
  rw [run_sliceAt_array_l W 68 _ hu .i64 _ (by omega) (by rw [ha]; omega), he, size_u8, ha]
  simp only [Result.andThen, slicedAt]
  rw [if_neg (by omega), add_none]
  simp
theorem slice_grA (W : World) (b o : Nat) : (Instr.sliceAt 68 (.pointer (some ⟨b, o, none⟩)) none none none).run Try.prog W = .ok (.slice (some ⟨b, o, none⟩) 128 128) W := by
  have ha : Try.prog.arrayLen 68 = 128 := by kernel_rfl
  have hu : Try.prog.underlying 68 = some (.array (Try.prog.arrayLen 68) (Try.prog.elem 68)) := by kernel_rfl
  have he : Try.prog.elem 68 = 5 := by kernel_rfl
  rw [run_sliceAt_array_all W 68 _ hu, he, size_u8, ha]
  simp only [Result.andThen, slicedAt]
  rw [if_neg (by decide), add_none]
  simp
/-- Bytes from a place on. -/
theorem slice_off (W : World) (b o N cap k : Nat) (h : k ≤ N) (hc : k < cap) : (Instr.slice 91 (.slice (some ⟨b, o, none⟩) N cap) (some (.int .i64 (k : Int))) none none).run Try.prog W = .ok (.slice (some ⟨b, o + k, none⟩) (N - k) (cap - k)) W := by
  have hu : Try.prog.underlying 91 = some (.slice (Try.prog.elem 91)) := by kernel_rfl
  have he : Try.prog.elem 91 = 5 := by kernel_rfl
  rw [run_slice_l W 91 _ _ _ hu .i64 _ (by omega) (by omega), he, size_u8]
  simp only [Result.andThen, sliced]
  rw [if_neg (by omega), Option.map_some, add_none]
  simp
theorem slice_offA (W : World) (b o N cap k : Nat) (h : k ≤ N) (hc : k < cap) : (Instr.sliceAt 91 (.slice (some ⟨b, o, none⟩) N cap) (some (.int .i64 (k : Int))) none none).run Try.prog W = .ok (.slice (some ⟨b, o + k, none⟩) (N - k) (cap - k)) W := by
  rw [run_sliceAt_slice W 91 _ _ _ _ (by kernel_rfl)]; exact slice_off W b o N cap k h hc
theorem of_at (x : Int) (g p : Nat) (w : World) (hx : x = ((g * 128 + p : Nat) : Int)) (hp : p < 128) (hl : g * 128 + p < 18446744073709551616) : Calls Try.prog 56 #[.int .u64 x] w fun e w' => e = .returned (.tuple #[.int .i64 (g : Int), .int .i64 (p : Int)]) ∧ w = w' := by
  subst hx
  have := of_any (g * 128 + p) w hl
  rw [show (g * 128 + p) / 128 = g by omega, show (g * 128 + p) % 128 = p by omega] at this
  exact this

set_option maxHeartbeats 1000000 in
set_option maxRecDepth 100000 in
theorem put_bad (pv : Value) (g c : Int) (GL : List Value) (w : World) (hc : c ≠ 0) (hf : ∀ W, Below w.heap.size w W → Calls Try.prog 43 #[pv, .int .i64 g] W fun e w' => e = .returned (.int .i64 c) ∧ W = w') :
    Calls Try.prog 27 #[pv, .int .i64 g, .agg GL.toArray] w fun e w' => e = .returned (.int .i64 c) ∧ Below w.heap.size w w' := by
  have hbl : Below w.heap.size w (w.alloc (.cells GL.toArray 68 (0, 0))) := (Below.refl _ _).alloc (Nat.le_refl _) _
  have HF : Hid _ := hf _ hbl
  clear hf
  go_enter Try.func27, Try.ntmps27
  go_wp2_with fail
  refine Calls.mono HF.out ?_
  rintro e w1 ⟨rfl, rfl⟩
  go_wp2
  go_ret
  exact ⟨rfl, hbl⟩
set_option maxHeartbeats 1000000 in
set_option maxRecDepth 100000 in
theorem put_ok (mb gb n g : Nat) (l gl : List UInt8) (w : World) (h : PM w mb gb n l) (hg : g < n) (hgl : gl.length = 128) :
    Calls Try.prog 27 #[.pointer (some ⟨mb, 0, none⟩), .int .i64 (g : Int), gV gl] w fun e w' => e = .returned (.int .i64 0) ∧ PM w' mb gb n (splice l (128 * g) gl) ∧ KB gb w w' := by
  unfold gV
  obtain ⟨GL, hGL⟩ : ∃ L, L = gl.map B8 := ⟨_, rfl⟩
  have hl128 : GL.length = 128 := by rw [hGL, List.length_map]; exact hgl
  rw [← hGL]
  have HGA : Hid (GL.toArray.size = 128) := by show _ = _; simpa using hl128
  have HGI : Hid _ := info128 GL hl128
  have HG1 : Hid (GL.toArray.all (·.oneCell') = true) := by show _ = _; rw [hGL]; exact B8_onea _
  have hbl : Below w.heap.size w (w.alloc (.cells GL.toArray 68 (0, 0))) := (Below.refl _ _).alloc (Nat.le_refl _) _
  obtain ⟨W1, hW1⟩ : ∃ W1, W1 = w.alloc (.cells GL.toArray 68 (0, 0)) := ⟨_, rfl⟩
  rw [← hW1] at hbl
  have h1 := h.below hbl
  have hgb := row_lt h.row
  have hf := gfault_any mb n n _ (g : Int) W1 h1.cell h1.pos
  rw [show gF n (g : Int) = 0 by unfold gF; rw [if_neg (by omega)]] at hf
  have HF : Hid _ := hf
  have HK0 : Hid (KB gb w W1) := KB.of (by omega) hbl
  have HRB : Hid (W1.heap[w.heap.size]? = some (.cells GL.toArray 68 (0, 0))) := by rw [hW1]; exact heap_alloc_new _ _
  have hs1 : W1.heap.size = w.heap.size + 1 := by rw [hW1]; simp
  have HCE : Hid (∀ W, KB gb W1 W → W.cell? ⟨mb, 0, none⟩ = some (.slice (some ⟨gb, 0, none⟩) n n)) := fun W hW => by
    rw [World.cell?_of_block (w := W1) (a := ⟨mb, 0, none⟩) (hW.2 mb (row_lt h1.head) h.ne)]; exact h1.cell
  have HRA : Hid (∀ W, KB gb W1 W → W.rangeAt w.heap.size 0 GL) := fun W hW => rangeAt_blk (rangeAt_row HRB.out) (hW.2 _ (by omega) (by omega))
  have hrow := h1.row
  have HROW : Hid (W1.drew.heap[gb]? = some (.cells (l.map B8).toArray 68 (0, 0))) := by rw [heap_drew]; exact hrow
  have HFIT : Hid (g * 128 + GL.toArray.size ≤ (l.map B8).length) := by show _ ≤ _; rw [HGA.out, List.length_map, h.len]; omega
  have HEND : Hid (PM (W1.drew.setRow gb (splice (l.map B8) (g * 128) GL.toArray.toList).toArray) mb gb n (splice l (128 * g) gl)) := by
    refine ⟨?_, ?_, ?_, h.pos, h.le, h.ne⟩
    · rw [setRow_other _ _ _ _ h.ne, heap_drew]; exact h1.head
    · rw [setRow_heap _ _ _ _ _ _ HROW.out, List.toList_toArray, hGL, splice_map, Nat.mul_comm]
    · rw [splice_len _ _ _ (by rw [hgl, h.len]; omega)]; exact h.len
  have hn4 := h.le
  clear hGL hl128 hf h1 h hrow
  go_enter Try.func27, Try.ntmps27
  go_wp2_with fail
  rw [← hW1]
  clear hW1
  refine Calls.mono HF.out ?_
  rintro e w1 ⟨rfl, rfl⟩
  go_wp2
  refine wp_region_held_drew (S := KB gb W1) (by kernel_rfl) (KB.drew (KB.refl _ _)) (fun hHeld => ?_)
  refine wpAnyH_take (i := 0) (oi := { dst := some 14, op := Go.Op.move (Go.Operand.tmp 0), type := 35, pos := _, after := #[], guard := none }) (v := .pointer (some ⟨mb, 0, none⟩)) rfl (by kernel_rfl) (by kernel_rfl) (by kernel_rfl) (fun _ _ _ h => h) (Or.inl ⟨by rfl, fun w' hw' => ?_⟩) hHeld ?_
  · first | (go_simp; done) | (go_simp; rfl)
  try simp only [Act.put, List.setIfInBounds_toArray, List.set_cons_zero, List.set_cons_succ]
  refine wpAnyH_take (i := 1) (oi := { dst := some 15, op := Go.Op.nilCheck (Go.Operand.tmp 14), type := 0, pos := _, after := #[{ on := 0, ground := Go.Ground.data }], guard := none }) (v := .pointer (some ⟨mb, 0, none⟩)) rfl (by kernel_rfl) (by kernel_rfl) (by kernel_rfl) (fun _ _ _ h => h) (Or.inl ⟨by rfl, fun w' hw' => ?_⟩) hHeld ?_
  · first | (go_simp; done) | (go_simp; rfl)
  try simp only [Act.put, List.setIfInBounds_toArray, List.set_cons_zero, List.set_cons_succ]
  refine wpAnyH_take (i := 2) (oi := { dst := some 16, op := Go.Op.fieldAddr 87 (Go.Operand.tmp 15) 0, type := 0, pos := _, after := #[{ on := 1, ground := Go.Ground.data }], guard := none }) (v := .pointer (some ⟨mb, 0, none⟩)) rfl (by kernel_rfl) (by kernel_rfl) (by kernel_rfl) (fun _ _ _ h => h) (Or.inl ⟨by rfl, fun w' hw' => ?_⟩) hHeld ?_
  · first | (go_simp; done) | (go_simp; rfl)
  try simp only [Act.put, List.setIfInBounds_toArray, List.set_cons_zero, List.set_cons_succ]
  refine wpAnyH_take (i := 3) (oi := { dst := some 17, op := Go.Op.load 25 (Go.Operand.tmp 16), type := 25, pos := _, after := #[{ on := 2, ground := Go.Ground.data }], guard := none }) (v := .slice (some ⟨gb, 0, none⟩) n n) rfl (by kernel_rfl) (by kernel_rfl) (by kernel_rfl) (fun _ _ _ h => h) (Or.inl ⟨by rfl, fun w' hw' => ?_⟩) hHeld ?_
  · have hcc := HCE.out _ hw'; first | (go_simp; done) | (go_simp; rfl)
  try simp only [Act.put, List.setIfInBounds_toArray, List.set_cons_zero, List.set_cons_succ]
  refine wpAnyH_take (i := 4) (oi := { dst := some 18, op := Go.Op.move (Go.Operand.tmp 1), type := 3, pos := _, after := #[], guard := none }) (v := .int .i64 (g : Int)) rfl (by kernel_rfl) (by kernel_rfl) (by kernel_rfl) (fun _ _ _ h => h) (Or.inl ⟨by rfl, fun w' hw' => ?_⟩) hHeld ?_
  · first | (go_simp; done) | (go_simp; rfl)
  try simp only [Act.put, List.setIfInBounds_toArray, List.set_cons_zero, List.set_cons_succ]
  refine wpAnyH_take (i := 5) (oi := { dst := some 19, op := Go.Op.load 68 (Go.Operand.tmp 5), type := 68, pos := _, after := #[], guard := none }) rfl (by kernel_rfl) (by kernel_rfl) (by kernel_rfl) (fun _ _ _ h => h) (yieldsIf_load_mid (by rfl) 68 (.tmp 5) rfl (w.heap.size) (0) rfl (GL) _ (fun _ h => HRA.out _ h) Try.underlying68 rfl HGI.out) hHeld ?_
  try simp only [Act.put, List.setIfInBounds_toArray, List.set_cons_zero, List.set_cons_succ]
  refine wpAnyH_take (i := 6) (oi := { dst := some 20, op := Go.Op.indexAddr 25 (Go.Operand.tmp 17) (Go.Operand.tmp 18), type := 0, pos := _, after := #[{ on := 3, ground := Go.Ground.data }, { on := 4, ground := Go.Ground.data }, { on := 0, ground := Go.Ground.phase }, { on := 1, ground := Go.Ground.phase }, { on := 2, ground := Go.Ground.phase }, { on := 3, ground := Go.Ground.phase }, { on := 4, ground := Go.Ground.phase }, { on := 5, ground := Go.Ground.phase }], guard := none }) (v := .pointer (some ⟨gb, g * 128, none⟩)) rfl (by kernel_rfl) (by kernel_rfl) (by kernel_rfl) (fun _ _ _ h => h) (Or.inl ⟨by rfl, fun w' hw' => ?_⟩) hHeld ?_
  · first | (go_simp; done) | (go_simp; rfl)
  try simp only [Act.put, List.setIfInBounds_toArray, List.set_cons_zero, List.set_cons_succ]
  refine wpAnyH_ready (rs := [7]) (by kernel_rfl) (by simp) ?_
  refine AllReadyH.cons (o := { dst := none, op := Go.Op.store 68 (Go.Operand.tmp 20) (Go.Operand.tmp 19), type := 0, pos := _, after := #[{ on := 6, ground := Go.Ground.data }, { on := 5, ground := Go.Ground.data }, { on := 0, ground := Go.Ground.phase }, { on := 1, ground := Go.Ground.phase }, { on := 2, ground := Go.Ground.phase }, { on := 3, ground := Go.Ground.phase }, { on := 4, ground := Go.Ground.phase }, { on := 5, ground := Go.Ground.phase }], guard := none }) rfl (fun K hK => ?_) AllReadyH.nil
  rw [if_pos (by rfl)]
  refine wp_store_seg 68 _ _ rfl gb (g * 128) GL.toArray (l.map B8) 68 rfl rfl HROW.out (info128a _ HGA.out) HFIT.out HG1.out ?_
  have hK2 := KB.set hHeld (splice (l.map B8) (g * 128) GL.toArray.toList).toArray
  refine hK.out _ _ hK2 (fun _ => ?_)
  clear hK K
  try simp only [Act.put, List.setIfInBounds_toArray, List.set_cons_zero, List.set_cons_succ]
  refine wpAnyH_done (by kernel_rfl) ?_ _
  go_wp2
  go_ret
  exact ⟨rfl, HEND.out, HK0.out.trans hK2⟩
end Go.Proofs.Ytnijjoankahddaa.MC
