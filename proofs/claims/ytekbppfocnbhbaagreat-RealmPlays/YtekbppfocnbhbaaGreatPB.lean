/- params: copies into a part of a row; layer, its closure, number. -/
import Derived.Test.YtekbppfocnbhbaaGreatPA
set_option linter.unusedVariables false
set_option linter.unusedSimpArgs false
namespace Go.Proofs.YtekbppfocnbhbaaGreat.PC
open Go.RowKit

theorem wp_copy_seg {op : Oper} {a : Act} {w : World} {K : Act → World → Prop} {Q : Exit → Act → World → Prop} (d s : Operand) (ho : op.op = .call { callee := .builtin .copy, args := #[d, s], argTypes := #[106, 106] })
    (b o dLen dCap : Nat) (sp : Option Addr) (sLen sCap : Nat) (hd : a.eval d = .slice (some ⟨b, o, none⟩) dLen dCap) (hs : a.eval s = .slice sp sLen sCap) (cur : List Value) (t : TypeId) (hg : w.heap[b]? = some (.cells cur.toArray t (0, 0)))
    (cs : List Value) (hn : cs.length = Nat.min sLen dLen) (hpos : 0 < cs.length → ∃ ad, sp = some ad ∧ ∀ j v, cs[j]? = some v → w.cell? (ad.add j) = some v) (hfit : o + cs.length ≤ cur.length) (h1 : ∀ v ∈ cs, v.oneCell' = true)
    (h : K (a.put op.dst (goInt cs.length)) (w.setRow b (splice cur o cs).toArray)) : op.wp Tryz.prog a w K Q := by
  by_cases h0 : cs.length = 0
  · obtain rfl : cs = [] := List.eq_nil_of_length_eq_zero h0
    have hrun := run_copy_none (P := Tryz.prog) w 106 106 op.type 5 (some ⟨b, o, none⟩) sp dLen dCap sLen sCap Tryz.underlying106 (by kernel_rfl) (by simpa using hn.symm)
    have e : w.setRow b (splice cur o []).toArray = w := by
      have : splice cur o [] = cur := by simp [splice]
      rw [this]; exact setRow_self w b cur.toArray t (0, 0) hg
    rw [e] at h
    unfold Oper.wp
    simp [execOp, ho, resolve, invoke, builtin, hd, hs, hrun, Result.andThen]
    exact h
  · obtain ⟨ad, rfl, hsrc⟩ := hpos (by omega)
    have hrun := run_copy_row (P := Tryz.prog) w 106 106 op.type 5 b o dLen dCap ad sLen sCap cur.toArray t cs Tryz.underlying106 (by kernel_rfl) hg hn hsrc (by simpa using hfit) h1
    have e : (cur.toArray.toList.take o ++ cs ++ cur.toArray.toList.drop (o + cs.length)).toArray = (splice cur o cs).toArray := by simp [splice]
    rw [e] at hrun
    unfold Oper.wp
    simp [execOp, ho, resolve, invoke, builtin, hd, hs, hrun, Result.andThen]
    exact h
theorem slice_grLH (W : World) (b k s : Nat) (K2 : Int) (hK : K2 = (k : Int) + (s : Int)) (h : k + s ≤ 128) (hs : 1 ≤ s) : (Instr.sliceAt 38 (.pointer (some ⟨b, 0, none⟩)) (some (.int .i64 (k : Int))) (some (.int .i64 K2)) none).run Tryz.prog W = .ok (.slice (some ⟨b, k, none⟩) s (128 - k)) W := by
  have ha : Tryz.prog.arrayLen 38 = 128 := by kernel_rfl
  have hu : Tryz.prog.underlying 38 = some (.array (Tryz.prog.arrayLen 38) (Tryz.prog.elem 38)) := by kernel_rfl
  have he : Tryz.prog.elem 38 = 5 := by kernel_rfl
  rw [run_sliceAt_array_lh W 38 _ hu .i64 .i64 _ _ (by omega) (by omega) (by rw [ha]; omega), he, size_u8, ha]
  simp only [Result.andThen, slicedAt]
  rw [if_neg (by omega), add_none]
  have e1 : K2.toNat = k + s := by omega
  simp [e1]
theorem slice_gr (W : World) (b : Nat) : (Instr.sliceAt 38 (.pointer (some ⟨b, 0, none⟩)) none none none).run Tryz.prog W = .ok (.slice (some ⟨b, 0, none⟩) 128 128) W := by
  have ha : Tryz.prog.arrayLen 38 = 128 := by kernel_rfl
  have hu : Tryz.prog.underlying 38 = some (.array (Tryz.prog.arrayLen 38) (Tryz.prog.elem 38)) := by kernel_rfl
  have he : Tryz.prog.elem 38 = 5 := by kernel_rfl
  rw [run_sliceAt_array_all W 38 _ hu, he, size_u8, ha]
  simp only [Result.andThen, slicedAt]
  rw [if_neg (by decide), add_none]
theorem slice_dg (W : World) (b o : Nat) : (Instr.sliceAt 33 (.pointer (some ⟨b, o, none⟩)) none none none).run Tryz.prog W = .ok (.slice (some ⟨b, o, none⟩) 32 32) W := by
  have ha : Tryz.prog.arrayLen 33 = 32 := by kernel_rfl
  have hu : Tryz.prog.underlying 33 = some (.array (Tryz.prog.arrayLen 33) (Tryz.prog.elem 33)) := by kernel_rfl
  have he : Tryz.prog.elem 33 = 5 := by kernel_rfl
  rw [run_sliceAt_array_all W 33 _ hu, he, size_u8, ha]
  simp only [Result.andThen, slicedAt]
  rw [if_neg (by decide), add_none]
  simp
def pd (P : List UInt8) : List UInt8 := P ++ List.replicate (128 - P.length) 0
theorem pd_nil : pd [] = Z128 := rfl
theorem pd_len (P : List UInt8) (h : P.length ≤ 128) : (pd P).length = 128 := by unfold pd; simp; omega
theorem pd_lay (P l : List UInt8) (s : Nat) (hl : l.length ≤ s) (hs : P.length + s ≤ 128) : splice (pd P) P.length l = pd (P ++ l ++ List.replicate (s - l.length) 0) := by
  unfold splice pd
  rw [List.take_append_of_le_length (Nat.le_refl _), List.take_length, List.drop_append, List.drop_of_length_le (by omega), List.nil_append, List.drop_replicate]
  simp only [List.append_assoc, List.length_append, List.length_replicate]
  rw [List.replicate_append_replicate]
  congr 3
  omega
structure LY (w : World) (pb rb gb cb ab : Nat) (tp : TypeId) (PL ZL : List Value) (P : List UInt8) (W : World) : Prop where
  bel : Below w.heap.size w W
  par : W.heap[pb]? = some (.cells PL.toArray tp (0, 0))
  res : W.heap[rb]? = some (.cells ZL.toArray 38 (0, 0))
  gr : W.heap[gb]? = some (.cells ((pd P).map B8).toArray 38 (0, 0))
  c1 : W.heap[cb]? = some (.cells #[.pointer (some ⟨gb, 0, none⟩)] 158 (0, 0))
  c2 : W.heap[ab]? = some (.cells #[.int .i64 (P.length : Int)] 3 (0, 0))
  o1 : w.heap.size ≤ pb
  o2 : pb < rb
  o3 : rb < gb
  o4 : gb < cb
  o5 : cb < ab
theorem LY.below {w : World} {pb rb gb cb ab : Nat} {tp : TypeId} {PL ZL : List Value} {P : List UInt8} {W W' : World} (h : LY w pb rb gb cb ab tp PL ZL P W) (hb : Below W.heap.size W W') : LY w pb rb gb cb ab tp PL ZL P W' := by
  obtain ⟨h1, h2, h3, h4, h5, h6, o1, o2, o3, o4, o5⟩ := h
  exact ⟨h1.trans (hb.mono h1.size), (hb.block _ (row_lt h2)).trans h2, (hb.block _ (row_lt h3)).trans h3, (hb.block _ (row_lt h4)).trans h4, (hb.block _ (row_lt h5)).trans h5, (hb.block _ (row_lt h6)).trans h6, o1, o2, o3, o4, o5⟩
theorem LY.lay {w : World} {pb rb gb cb ab : Nat} {tp : TypeId} {PL ZL : List Value} {P : List UInt8} {W : World} (h : LY w pb rb gb cb ab tp PL ZL P W) (l : List UInt8) (s : Nat) (hl : l.length ≤ s) (hs : P.length + s ≤ 128) (A : Int) (hA : A = (P.length : Int) + (s : Int)) :
    LY w pb rb gb cb ab tp PL ZL (P ++ l ++ List.replicate (s - l.length) 0) ((W.drew.setRow gb (splice ((pd P).map B8) P.length (l.map B8)).toArray).setCell ⟨ab, 0, none⟩ (.int .i64 A)) := by
  obtain ⟨h1, h2, h3, h4, h5, h6, o1, o2, o3, o4, o5⟩ := h
  have k : ∀ j, j ≠ gb → j ≠ ab → ((W.drew.setRow gb (splice ((pd P).map B8) P.length (l.map B8)).toArray).setCell ⟨ab, 0, none⟩ (.int .i64 A)).heap[j]? = W.heap[j]? := fun j hj hk => by
    rw [heap_setCell_other _ _ _ _ (by show j ≠ ab; exact hk), setRow_other _ _ _ _ hj, heap_drew]
  refine ⟨(below_setRow h1.drew (by omega) _).setCell (p := ⟨ab, 0, none⟩) (by show w.heap.size ≤ ab; omega) _, (k _ (by omega) (by omega)).trans h2, (k _ (by omega) (by omega)).trans h3, ?_, (k _ (by omega) (by omega)).trans h5, ?_, o1, o2, o3, o4, o5⟩
  · rw [heap_setCell_other _ _ _ _ (by show gb ≠ ab; omega), ← pd_lay P l s hl hs, ← splice_map]
    exact setRow_heap _ _ _ _ _ _ (by rw [heap_drew]; exact h4)
  · have h6' : (W.drew.setRow gb (splice ((pd P).map B8) P.length (l.map B8)).toArray).heap[ab]? = some (.cells #[.int .i64 (P.length : Int)] 3 (0, 0)) := by
      rw [setRow_other _ _ _ _ (by omega), heap_drew]; exact h6
    rw [heap_setCell_same _ _ 0 _ _ _ h6']
    have : ((P ++ l ++ List.replicate (s - l.length) 0).length : Int) = A := by simp; omega
    rw [this]
    rfl
theorem layer_any (g : Nat) (w : World) : Calls Tryz.prog 91 #[.pointer (some ⟨g, 0, none⟩)] w fun e w' => e = .returned (.func (.func 108) #[] #[.pointer (some ⟨w.heap.size, 0, none⟩), .pointer (some ⟨w.heap.size + 1, 0, none⟩)]) ∧ w' = (w.alloc (.cells #[.pointer (some ⟨g, 0, none⟩)] 158 (0, 0))).alloc (.cells #[.int .i64 0] 3 (0, 0)) := by
  go_enter Tryz.func91, Tryz.ntmps91
  go_wp2
  go_ret
  exact ⟨rfl, rfl⟩
set_option maxHeartbeats 1000000 in
theorem lay_any {w : World} {pb rb gb cb ab : Nat} {tp : TypeId} {PL ZL : List Value} {P : List UInt8} {W : World} (h : LY w pb rb gb cb ab tp PL ZL P W) (v : Value) (l : List UInt8) (s : Nat) (hv : HB W v l) (hl : l.length ≤ s) (hs : P.length + s ≤ 128) (h1 : 1 ≤ s) :
    Calls Tryz.prog 108 #[v, .int .i64 (s : Int), .pointer (some ⟨cb, 0, none⟩), .pointer (some ⟨ab, 0, none⟩)] W fun e W' => e = .returned (.tuple #[]) ∧ LY w pb rb gb cb ab tp PL ZL (P ++ l ++ List.replicate (s - l.length) 0) W' := by
  have HEND : Hid (∀ A : Int, A = (P.length : Int) + (s : Int) → LY w pb rb gb cb ab tp PL ZL (P ++ l ++ List.replicate (s - l.length) 0) ((W.drew.setRow gb (splice ((pd P).map B8) P.length (l.map B8)).toArray).setCell ⟨ab, 0, none⟩ (.int .i64 A))) := fun A hA => h.lay l s hl hs A hA
  have HGR : Hid (W.drew.heap[gb]? = some (.cells ((pd P).map B8).toArray 38 (0, 0))) := by show _ = _; rw [heap_drew]; exact h.gr
  have HFIT : Hid (P.length + (l.map B8).length ≤ ((pd P).map B8).length) := by show _ ≤ _; rw [List.length_map, List.length_map, pd_len P (by omega)]; omega
  have HV : Hid (HB W.drew v l) := hv.below (Below.refl _ _).drew
  have hc1 : W.drew.cell? ⟨cb, 0, none⟩ = some (.pointer (some ⟨gb, 0, none⟩)) := by rw [cell_of_row _ _ 0 _ _ _ (by rw [heap_drew]; exact h.c1)]; rfl
  have hc2 : W.drew.cell? ⟨ab, 0, none⟩ = some (.int .i64 (P.length : Int)) := by rw [cell_of_row _ _ 0 _ _ _ (by rw [heap_drew]; exact h.c2)]; rfl
  have hsl := fun X => slice_grLH X gb P.length s ((P.length : Int) + (s : Int)) rfl hs h1
  have hwr : IntKind.i64.wrap ((P.length : Int) + (s : Int)) = (P.length : Int) + (s : Int) := by rw [IntKind.wrap_i64]; omega
  have hne := h.o5
  have hne2 := h.o4
  have hb2 : W.drew.heap[ab]? = some (.cells #[.int .i64 (P.length : Int)] 3 (0, 0)) := by rw [heap_drew]; exact h.c2
  obtain ⟨p, cap, rfl, hpn, hpc⟩ := hb_cells HV.out
  have HPN : Hid (0 < (l.map B8).length → ∃ ad, p = some ad ∧ ∀ j v, (l.map B8)[j]? = some v → W.drew.cell? (ad.add j) = some v) := fun h0 => by
    cases p with
    | none => rw [(hpn rfl).1] at h0; simp at h0
    | some a => exact ⟨a, rfl, hpc a rfl⟩
  have HMIN : Hid ((l.map B8).length = Nat.min l.length s) := by show _ = _; rw [List.length_map]; exact (Nat.min_eq_left hl).symm
  have H1 : Hid _ := B8_one l
  have hc3 : (W.drew.setRow gb (splice ((pd P).map B8) P.length (l.map B8)).toArray).cell? ⟨cb, 0, none⟩ = some (.pointer (some ⟨gb, 0, none⟩)) := by rw [cell_of_row _ _ 0 _ _ _ (by rw [setRow_other _ _ _ _ (by omega), heap_drew]; exact h.c1)]; rfl
  have hcc : (W.drew.setRow gb (splice ((pd P).map B8) P.length (l.map B8)).toArray).heap[ab]? = some (.cells #[.int .i64 (P.length : Int)] 3 (0, 0)) := by rw [setRow_other _ _ _ _ (by omega)]; exact hb2
  clear h hv hpn hpc HV
  have hA8 : P.length ≤ 128 := by omega
  have hs8 : s ≤ 128 := by omega
  clear hl hs
  generalize P.length = A at *
  generalize (pd P).map B8 = GL at *
  generalize l.map B8 = LL at *
  have hz0 := cell_of_row _ _ 0 _ _ _ hcc
  have hz1 := frozen_of_row _ _ 0 _ _ hcc
  simp only [List.getElem?_toArray, List.getElem?_cons_zero] at hz0
  have HS0 : Hid (W.drew.cell? ⟨cb, 0, none⟩ = some (.pointer (some ⟨gb, 0, none⟩)) ∧ W.drew.cell? ⟨ab, 0, none⟩ = some (.int .i64 (A : Int))) := ⟨hc1, hc2⟩
  have HS2 : Hid ((W.drew.setRow gb (splice GL A LL).toArray).cell? ⟨cb, 0, none⟩ = some (.pointer (some ⟨gb, 0, none⟩)) ∧ (W.drew.setRow gb (splice GL A LL).toArray).cell? ⟨ab, 0, none⟩ = some (.int .i64 (A : Int))) := ⟨hc3, hz0⟩
  clear hcc hb2 hc1 hc2 hc3
  go_enter Tryz.func108, Tryz.ntmps108
  go_wp2
  refine wp_region_held_drew (S := fun X => X.cell? ⟨cb, 0, none⟩ = some (.pointer (some ⟨gb, 0, none⟩)) ∧ X.cell? ⟨ab, 0, none⟩ = some (.int .i64 (A : Int))) (by kernel_rfl) HS0.out (fun hHeld => ?_)
  refine wpAnyH_take (i := 0) (oi := ⟨some 6, .load 158 (.tmp 2), 158, _, #[], none⟩) (v := .pointer (some ⟨gb, 0, none⟩)) rfl (by kernel_rfl) (by kernel_rfl) (by kernel_rfl) (fun _ _ _ h => h) (Or.inl ⟨by rfl, fun w' hw' => ?_⟩) hHeld ?_
  · have hcc := hw'.1; first | (go_simp; done) | (go_simp; rfl)
  try simp only [Act.put, qT, q0, qS]
  refine wpAnyH_take (i := 1) (oi := ⟨some 7, .nilCheck (.tmp 6), 158, _, #[⟨0, .data⟩], none⟩) (v := .pointer (some ⟨gb, 0, none⟩)) rfl (by kernel_rfl) (by kernel_rfl) (by kernel_rfl) (fun _ _ _ h => h) (Or.inl ⟨by rfl, fun w' hw' => ?_⟩) hHeld ?_
  · first | (go_simp; done) | (go_simp; rfl)
  try simp only [Act.put, qT, q0, qS]
  refine wpAnyH_take (i := 2) (oi := ⟨some 8, .load 3 (.tmp 3), 3, _, #[], none⟩) (v := .int .i64 (A : Int)) rfl (by kernel_rfl) (by kernel_rfl) (by kernel_rfl) (fun _ _ _ h => h) (Or.inl ⟨by rfl, fun w' hw' => ?_⟩) hHeld ?_
  · have hcc := hw'.2; first | (go_simp; done) | (go_simp; rfl)
  try simp only [Act.put, qT, q0, qS]
  refine wpAnyH_take (i := 3) (oi := ⟨some 9, .load 3 (.tmp 3), 3, _, #[], none⟩) (v := .int .i64 (A : Int)) rfl (by kernel_rfl) (by kernel_rfl) (by kernel_rfl) (fun _ _ _ h => h) (Or.inl ⟨by rfl, fun w' hw' => ?_⟩) hHeld ?_
  · have hcc := hw'.2; first | (go_simp; done) | (go_simp; rfl)
  try simp only [Act.put, qT, q0, qS]
  refine wpAnyH_take (i := 4) (oi := ⟨some 10, .move (.tmp 1), 3, _, #[], none⟩) (v := .int .i64 (s : Int)) rfl (by kernel_rfl) (by kernel_rfl) (by kernel_rfl) (fun _ _ _ h => h) (Or.inl ⟨by rfl, fun w' hw' => ?_⟩) hHeld ?_
  · first | (go_simp; done) | (go_simp; rfl)
  try simp only [Act.put, qT, q0, qS]
  refine wpAnyH_take (i := 5) (oi := ⟨some 11, .binOp .add 3 (.tmp 9) (.tmp 10) 3, 3, _, #[⟨3, .data⟩, ⟨4, .data⟩], none⟩) (v := .int .i64 ((A : Int) + (s : Int))) rfl (by kernel_rfl) (by kernel_rfl) (by kernel_rfl) (fun _ _ _ h => h) (Or.inl ⟨by rfl, fun w' hw' => ?_⟩) hHeld ?_
  · first | (go_simp; done) | (go_simp; rfl)
  try simp only [Act.put, qT, q0, qS]
  refine wpAnyH_take (i := 6) (oi := ⟨some 12, .slice 38 (.tmp 7) (some (.tmp 8)) (some (.tmp 11)) none, 106, _, #[⟨1, .data⟩, ⟨2, .data⟩, ⟨5, .data⟩], none⟩) (v := .slice (some ⟨gb, A, none⟩) s (128 - A)) rfl (by kernel_rfl) (by kernel_rfl) (by kernel_rfl) (fun _ _ _ h => h) (Or.inl ⟨by rfl, fun w' hw' => ?_⟩) hHeld ?_
  · first | (go_simp; done) | (go_simp; rfl)
  try simp only [Act.put, qT, q0, qS]
  refine wpAnyH_take (i := 7) (oi := ⟨some 13, .move (.tmp 0), 106, _, #[], none⟩) (v := .slice p l.length cap) rfl (by kernel_rfl) (by kernel_rfl) (by kernel_rfl) (fun _ _ _ h => h) (Or.inl ⟨by rfl, fun w' hw' => ?_⟩) hHeld ?_
  · first | (go_simp; done) | (go_simp; rfl)
  try simp only [Act.put, qT, q0, qS]
  refine wpAnyH_ready (rs := [8]) (by kernel_rfl) (by simp) ?_
  refine AllReadyH.cons (o := { dst := some 14, op := .call { callee := Go.Callee.builtin Go.Builtin.copy, args := #[.tmp 12, .tmp 13], argTypes := #[106, 106] }, type := 3, pos := _, after := #[⟨6, .data⟩, ⟨7, .data⟩], guard := none }) rfl (fun K hK => ?_) AllReadyH.nil
  rw [if_pos (by rfl)]
  refine wp_copy_seg (.tmp 12) (.tmp 13) rfl gb A s (128 - A) p l.length cap rfl rfl GL 38 HGR.out LL HMIN.out HPN.out HFIT.out H1.out ?_
  generalize W.drew.setRow gb (splice GL A LL).toArray = W2 at *
  refine hK.out _ _ HS2.out (fun _ => ?_)
  clear hK K
  try simp only [Act.put, qT, q0, qS]
  refine wpAnyH_done (by kernel_rfl) ?_ _
  clear hHeld HS0 HGR HPN hsl
  go_wp2
  go_end0
  exact ⟨rfl, HEND.out _ rfl⟩
theorem number_pc (n : Nat) (w : World) (hn : n < 18446744073709551616) :
    Calls Tryz.prog 92 #[.int .u64 (n : Int)] w fun e w' => e = .returned (.slice (some ⟨w.heap.size, 0, none⟩) 8 8) ∧ FB w.heap.size w' (.slice (some ⟨w.heap.size, 0, none⟩) 8 8) (W1.le 8 n) ∧ Below w.heap.size w w' := by
  have HP : Hid (Calls Tryz.prog 81 #[.int .u64 (n : Int), .int .i64 (8 : Int)] w fun e w' => e = .returned (.tuple #[.slice (some ⟨w.heap.size, 0, none⟩) 8 8, .int .i64 0]) ∧ FB w.heap.size w' (.slice (some ⟨w.heap.size, 0, none⟩) 8 8) (W1.le 8 n) ∧ Below w.heap.size w w') := put_ok n 8 w (by decide) (by decide) hn hn
  go_enter Tryz.func92, Tryz.ntmps92
  go_wp2_with fail
  refine Calls.mono HP.out ?_
  rintro e w1 ⟨rfl, hf, hb⟩
  have HF : Hid _ := hf
  clear hf HP
  go_wp2
  go_ret
  exact ⟨rfl, HF.out, hb⟩
end Go.Proofs.YtekbppfocnbhbaaGreat.PC
