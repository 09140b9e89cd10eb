import Derived.Test.YtekbppfocnbhbaaGreatPA
import Derived.Lib.SmallJoins
set_option linter.unusedVariables false
set_option linter.unusedSimpArgs false
set_option maxHeartbeats 16000000
set_option maxRecDepth 100000
namespace Go.Proofs.YtekbppfocnbhbaaGreat.PC
open Go.RowKit
theorem wp_copy_seg {op : Oper} {a : Act} {w : World} {K : Act → World → Prop} {Q : Exit → Act → World → Prop} (d s : Operand) (ho : op.op = .call { callee := .builtin .copy, args := #[d, s], argTypes := #[106, 106] })
    (b o dLen dCap : Nat) (sp : Option Addr) (sLen sCap : Nat) (hd : a.eval d = .slice (some ⟨b, o, none⟩) dLen dCap) (hs : a.eval s = .slice sp sLen sCap) (cur : List Value) (t : TypeId) (hg : w.heap[b]? = some (.cells cur.toArray t (0, 0)))
    (cs : List Value) (hn : cs.length = Nat.min sLen dLen) (hpos : 0 < cs.length → ∃ ad, sp = some ad ∧ ∀ j v, cs[j]? = some v → w.cell? (ad.add j) = some v) (hfit : o + cs.length ≤ cur.length) (h1 : ∀ v ∈ cs, v.oneCell' = true)
    (h : K (a.put op.dst (goInt cs.length)) (w.setRow b (splice cur o cs).toArray)) : op.wp Tryz.prog a w K Q := by
  by_cases h0 : cs.length = 0
  · obtain rfl : cs = [] := List.eq_nil_of_length_eq_zero h0
    have hrun := run_copy_none (P := Tryz.prog) w 106 106 op.type 5 (some ⟨b, o, none⟩) sp dLen dCap sLen sCap Tryz.underlying106 (by kernel_rfl) (by simpa using hn.symm)
    have e : w.setRow b (splice cur o []).toArray = w := by
      have : splice cur o [] = cur := by simp [splice]
      rw [this]; exact setRow_self w b cur.toArray t (0, 0) hg
    rw [e] at h
    unfold Oper.wp
    simp [execOp, ho, resolve, invoke, builtin, hd, hs, hrun, Result.andThen]
    exact h
  · obtain ⟨ad, rfl, hsrc⟩ := hpos (by omega)
    have hrun := run_copy_row (P := Tryz.prog) w 106 106 op.type 5 b o dLen dCap ad sLen sCap cur.toArray t cs Tryz.underlying106 (by kernel_rfl) hg hn hsrc (by simpa using hfit) h1
    have e : (cur.toArray.toList.take o ++ cs ++ cur.toArray.toList.drop (o + cs.length)).toArray = (splice cur o cs).toArray := by simp [splice]
    rw [e] at hrun
    unfold Oper.wp
    simp [execOp, ho, resolve, invoke, builtin, hd, hs, hrun, Result.andThen]
    exact h
theorem slice_grLH (W : World) (b k s : Nat) (K2 : Int) (hK : K2 = (k : Int) + (s : Int)) (h : k + s ≤ 128) (hs : 1 ≤ s) : (Instr.sliceAt 38 (.pointer (some ⟨b, 0, none⟩)) (some (.int .i64 (k : Int))) (some (.int .i64 K2)) none).run Tryz.prog W = .ok (.slice (some ⟨b, k, none⟩) s (128 - k)) W := by
  have ha : Tryz.prog.arrayLen 38 = 128 := by kernel_rfl
  have hu : Tryz.prog.underlying 38 = some (.array (Tryz.prog.arrayLen 38) (Tryz.prog.elem 38)) := by kernel_rfl
  have he : Tryz.prog.elem 38 = 5 := by kernel_rfl
  rw [run_sliceAt_array_lh W 38 _ hu .i64 .i64 _ _ (by omega) (by omega) (by rw [ha]; omega), he, size_u8, ha]
  simp only [Result.andThen, slicedAt]
  rw [if_neg (by omega), add_none]
  have e1 : K2.toNat = k + s := by omega
  simp [e1]
theorem slice_gr (W : World) (b : Nat) : (Instr.sliceAt 38 (.pointer (some ⟨b, 0, none⟩)) none none none).run Tryz.prog W = .ok (.slice (some ⟨b, 0, none⟩) 128 128) W := by
  have ha : Tryz.prog.arrayLen 38 = 128 := by kernel_rfl
  have hu : Tryz.prog.underlying 38 = some (.array (Tryz.prog.arrayLen 38) (Tryz.prog.elem 38)) := by kernel_rfl
  have he : Tryz.prog.elem 38 = 5 := by kernel_rfl
  rw [run_sliceAt_array_all W 38 _ hu, he, size_u8, ha]
  simp only [Result.andThen, slicedAt]
  rw [if_neg (by decide), add_none]
theorem slice_dg (W : World) (b o : Nat) : (Instr.sliceAt 33 (.pointer (some ⟨b, o, none⟩)) none none none).run Tryz.prog W = .ok (.slice (some ⟨b, o, none⟩) 32 32) W := by
  have ha : Tryz.prog.arrayLen 33 = 32 := by kernel_rfl
  have hu : Tryz.prog.underlying 33 = some (.array (Tryz.prog.arrayLen 33) (Tryz.prog.elem 33)) := by kernel_rfl
  have he : Tryz.prog.elem 33 = 5 := by kernel_rfl
  rw [run_sliceAt_array_all W 33 _ hu, he, size_u8, ha]
  simp only [Result.andThen, slicedAt]
  rw [if_neg (by decide), add_none]
  simp
def pd (P : List UInt8) : List UInt8 := P ++ List.replicate (128 - P.length) 0
theorem pd_nil : pd [] = Z128 := rfl
theorem pd_len (P : List UInt8) (h : P.length ≤ 128) : (pd P).length = 128 := by unfold pd; simp; omega
theorem pd_lay (P l : List UInt8) (s : Nat) (hl : l.length ≤ s) (hs : P.length + s ≤ 128) : splice (pd P) P.length l = pd (P ++ l ++ List.replicate (s - l.length) 0) := by
  unfold splice pd
  rw [List.take_append_of_le_length (Nat.le_refl _), List.take_length, List.drop_append, List.drop_of_length_le (by omega), List.nil_append, List.drop_replicate]
  simp only [List.append_assoc, List.length_append, List.length_replicate]
  rw [List.replicate_append_replicate]
  congr 3
  omega
structure LY (w : World) (pb rb gb cb ab : Nat) (tp : TypeId) (PL ZL : List Value) (P : List UInt8) (W : World) : Prop where
  bel : Below w.heap.size w W
  par : W.heap[pb]? = some (.cells PL.toArray tp (0, 0))
  res : W.heap[rb]? = some (.cells ZL.toArray 38 (0, 0))
  gr : W.heap[gb]? = some (.cells ((pd P).map B8).toArray 38 (0, 0))
  c1 : W.heap[cb]? = some (.cells #[.pointer (some ⟨gb, 0, none⟩)] 158 (0, 0))
  c2 : W.heap[ab]? = some (.cells #[.int .i64 (P.length : Int)] 3 (0, 0))
  o1 : w.heap.size ≤ pb
  o2 : pb < rb
  o3 : rb < gb
  o4 : gb < cb
  o5 : cb < ab
theorem LY.below {w : World} {pb rb gb cb ab : Nat} {tp : TypeId} {PL ZL : List Value} {P : List UInt8} {W W' : World} (h : LY w pb rb gb cb ab tp PL ZL P W) (hb : Below W.heap.size W W') : LY w pb rb gb cb ab tp PL ZL P W' := by
  obtain ⟨h1, h2, h3, h4, h5, h6, o1, o2, o3, o4, o5⟩ := h
  exact ⟨h1.trans (hb.mono h1.size), (hb.block _ (row_lt h2)).trans h2, (hb.block _ (row_lt h3)).trans h3, (hb.block _ (row_lt h4)).trans h4, (hb.block _ (row_lt h5)).trans h5, (hb.block _ (row_lt h6)).trans h6, o1, o2, o3, o4, o5⟩
theorem LY.lay {w : World} {pb rb gb cb ab : Nat} {tp : TypeId} {PL ZL : List Value} {P : List UInt8} {W : World} (h : LY w pb rb gb cb ab tp PL ZL P W) (l : List UInt8) (s : Nat) (hl : l.length ≤ s) (hs : P.length + s ≤ 128) (A : Int) (hA : A = (P.length : Int) + (s : Int)) :
    LY w pb rb gb cb ab tp PL ZL (P ++ l ++ List.replicate (s - l.length) 0) ((W.drew.setRow gb (splice ((pd P).map B8) P.length (l.map B8)).toArray).setCell ⟨ab, 0, none⟩ (.int .i64 A)) := by
  obtain ⟨h1, h2, h3, h4, h5, h6, o1, o2, o3, o4, o5⟩ := h
  have k : ∀ j, j ≠ gb → j ≠ ab → ((W.drew.setRow gb (splice ((pd P).map B8) P.length (l.map B8)).toArray).setCell ⟨ab, 0, none⟩ (.int .i64 A)).heap[j]? = W.heap[j]? := fun j hj hk => by
    rw [heap_setCell_other _ _ _ _ (by show j ≠ ab; exact hk), setRow_other _ _ _ _ hj, heap_drew]
  refine ⟨(below_setRow h1.drew (by omega) _).setCell (p := ⟨ab, 0, none⟩) (by show w.heap.size ≤ ab; omega) _, (k _ (by omega) (by omega)).trans h2, (k _ (by omega) (by omega)).trans h3, ?_, (k _ (by omega) (by omega)).trans h5, ?_, o1, o2, o3, o4, o5⟩
  · rw [heap_setCell_other _ _ _ _ (by show gb ≠ ab; omega), ← pd_lay P l s hl hs, ← splice_map]
    exact setRow_heap _ _ _ _ _ _ (by rw [heap_drew]; exact h4)
  · have h6' : (W.drew.setRow gb (splice ((pd P).map B8) P.length (l.map B8)).toArray).heap[ab]? = some (.cells #[.int .i64 (P.length : Int)] 3 (0, 0)) := by
      rw [setRow_other _ _ _ _ (by omega), heap_drew]; exact h6
    rw [heap_setCell_same _ _ 0 _ _ _ h6']
    have : ((P ++ l ++ List.replicate (s - l.length) 0).length : Int) = A := by simp; omega
    rw [this]
    rfl
theorem layer_any (g : Nat) (w : World) : Calls Tryz.prog 91 #[.pointer (some ⟨g, 0, none⟩)] w fun e w' => e = .returned (.func (.func 108) #[] #[.pointer (some ⟨w.heap.size, 0, none⟩), .pointer (some ⟨w.heap.size + 1, 0, none⟩)]) ∧ w' = (w.alloc (.cells #[.pointer (some ⟨g, 0, none⟩)] 158 (0, 0))).alloc (.cells #[.int .i64 0] 3 (0, 0)) := by
  go_enter Tryz.func91, Tryz.ntmps91
  go_wp2
  go_ret
  exact ⟨rfl, rfl⟩
theorem lay_any {w : World} {pb rb gb cb ab : Nat} {tp : TypeId} {PL ZL : List Value} {P : List UInt8} {W : World} (h : LY w pb rb gb cb ab tp PL ZL P W) (v : Value) (l : List UInt8) (s : Nat) (hv : HB W v l) (hl : l.length ≤ s) (hs : P.length + s ≤ 128) (h1 : 1 ≤ s) :
    Calls Tryz.prog 108 #[v, .int .i64 (s : Int), .pointer (some ⟨cb, 0, none⟩), .pointer (some ⟨ab, 0, none⟩)] W fun e W' => e = .returned (.tuple #[]) ∧ LY w pb rb gb cb ab tp PL ZL (P ++ l ++ List.replicate (s - l.length) 0) W' := by
  have HEND : Hid (∀ A : Int, A = (P.length : Int) + (s : Int) → LY w pb rb gb cb ab tp PL ZL (P ++ l ++ List.replicate (s - l.length) 0) ((W.drew.setRow gb (splice ((pd P).map B8) P.length (l.map B8)).toArray).setCell ⟨ab, 0, none⟩ (.int .i64 A))) := fun A hA => h.lay l s hl hs A hA
  have HGR : Hid (W.drew.heap[gb]? = some (.cells ((pd P).map B8).toArray 38 (0, 0))) := by show _ = _; rw [heap_drew]; exact h.gr
  have HFIT : Hid (P.length + (l.map B8).length ≤ ((pd P).map B8).length) := by show _ ≤ _; rw [List.length_map, List.length_map, pd_len P (by omega)]; omega
  have HV : Hid (HB W.drew v l) := hv.below (Below.refl _ _).drew
  have hc1 : W.drew.cell? ⟨cb, 0, none⟩ = some (.pointer (some ⟨gb, 0, none⟩)) := by rw [cell_of_row _ _ 0 _ _ _ (by rw [heap_drew]; exact h.c1)]; rfl
  have hc2 : W.drew.cell? ⟨ab, 0, none⟩ = some (.int .i64 (P.length : Int)) := by rw [cell_of_row _ _ 0 _ _ _ (by rw [heap_drew]; exact h.c2)]; rfl
  have hsl := fun X => slice_grLH X gb P.length s ((P.length : Int) + (s : Int)) rfl hs h1
  have hwr : IntKind.i64.wrap ((P.length : Int) + (s : Int)) = (P.length : Int) + (s : Int) := by rw [IntKind.wrap_i64]; omega
  have hne := h.o5
  have hne2 := h.o4
  have hb2 : W.drew.heap[ab]? = some (.cells #[.int .i64 (P.length : Int)] 3 (0, 0)) := by rw [heap_drew]; exact h.c2
  obtain ⟨p, cap, rfl, hpn, hpc⟩ := hb_cells HV.out
  have HPN : Hid (0 < (l.map B8).length → ∃ ad, p = some ad ∧ ∀ j v, (l.map B8)[j]? = some v → W.drew.cell? (ad.add j) = some v) := fun h0 => by
    cases p with
    | none => rw [(hpn rfl).1] at h0; simp at h0
    | some a => exact ⟨a, rfl, hpc a rfl⟩
  have HMIN : Hid ((l.map B8).length = Nat.min l.length s) := by show _ = _; rw [List.length_map]; exact (Nat.min_eq_left hl).symm
  have H1 : Hid _ := B8_one l
  have hc3 : (W.drew.setRow gb (splice ((pd P).map B8) P.length (l.map B8)).toArray).cell? ⟨cb, 0, none⟩ = some (.pointer (some ⟨gb, 0, none⟩)) := by rw [cell_of_row _ _ 0 _ _ _ (by rw [setRow_other _ _ _ _ (by omega), heap_drew]; exact h.c1)]; rfl
  have hcc : (W.drew.setRow gb (splice ((pd P).map B8) P.length (l.map B8)).toArray).heap[ab]? = some (.cells #[.int .i64 (P.length : Int)] 3 (0, 0)) := by rw [setRow_other _ _ _ _ (by omega)]; exact hb2
  clear h hv hpn hpc HV
  have hA8 : P.length ≤ 128 := by omega
  have hs8 : s ≤ 128 := by omega
  clear hl hs
  generalize P.length = A at *
  generalize (pd P).map B8 = GL at *
  generalize l.map B8 = LL at *
  have hz0 := cell_of_row _ _ 0 _ _ _ hcc
  have hz1 := frozen_of_row _ _ 0 _ _ hcc
  simp only [List.getElem?_toArray, List.getElem?_cons_zero] at hz0
  have HS0 : Hid (W.drew.cell? ⟨cb, 0, none⟩ = some (.pointer (some ⟨gb, 0, none⟩)) ∧ W.drew.cell? ⟨ab, 0, none⟩ = some (.int .i64 (A : Int))) := ⟨hc1, hc2⟩
  have HS2 : Hid ((W.drew.setRow gb (splice GL A LL).toArray).cell? ⟨cb, 0, none⟩ = some (.pointer (some ⟨gb, 0, none⟩)) ∧ (W.drew.setRow gb (splice GL A LL).toArray).cell? ⟨ab, 0, none⟩ = some (.int .i64 (A : Int))) := ⟨hc3, hz0⟩
  clear hcc hb2 hc1 hc2 hc3
  go_enter Tryz.func108, Tryz.ntmps108
  go_wp2
  refine wp_region_held_drew (S := fun X => X.cell? ⟨cb, 0, none⟩ = some (.pointer (some ⟨gb, 0, none⟩)) ∧ X.cell? ⟨ab, 0, none⟩ = some (.int .i64 (A : Int))) (by kernel_rfl) HS0.out (fun hHeld => ?_)
  refine qzI 0 ⟨some 6, .load 158 (.tmp 2), 158, _, #[], none⟩ (.pointer (some ⟨gb, 0, none⟩)) rfl (by kernel_rfl) (fun _ _ _ h => h) (by rfl) (fun w' hw' => ?_) hHeld ?_
  · have hcc := hw'.1; go_simp <;> rfl
  try simp only [Act.put, qT, q0, qS]
  refine qzI 1 ⟨some 7, .nilCheck (.tmp 6), 158, _, #[⟨0, .data⟩], none⟩ (.pointer (some ⟨gb, 0, none⟩)) rfl (by kernel_rfl) (fun _ _ _ h => h) (by rfl) (fun w' hw' => ?_) hHeld ?_
  · go_simp <;> rfl
  try simp only [Act.put, qT, q0, qS]
  refine qzI 2 ⟨some 8, .load 3 (.tmp 3), 3, _, #[], none⟩ (.int .i64 (A : Int)) rfl (by kernel_rfl) (fun _ _ _ h => h) (by rfl) (fun w' hw' => ?_) hHeld ?_
  · have hcc := hw'.2; go_simp <;> rfl
  try simp only [Act.put, qT, q0, qS]
  refine qzI 3 ⟨some 9, .load 3 (.tmp 3), 3, _, #[], none⟩ (.int .i64 (A : Int)) rfl (by kernel_rfl) (fun _ _ _ h => h) (by rfl) (fun w' hw' => ?_) hHeld ?_
  · have hcc := hw'.2; go_simp <;> rfl
  try simp only [Act.put, qT, q0, qS]
  refine qzI 4 ⟨some 10, .move (.tmp 1), 3, _, #[], none⟩ (.int .i64 (s : Int)) rfl (by kernel_rfl) (fun _ _ _ h => h) (by rfl) (fun w' hw' => ?_) hHeld ?_
  · go_simp <;> rfl
  try simp only [Act.put, qT, q0, qS]
  refine qzI 5 ⟨some 11, .binOp .add 3 (.tmp 9) (.tmp 10) 3, 3, _, #[⟨3, .data⟩, ⟨4, .data⟩], none⟩ (.int .i64 ((A : Int) + (s : Int))) rfl (by kernel_rfl) (fun _ _ _ h => h) (by rfl) (fun w' hw' => ?_) hHeld ?_
  · go_simp <;> rfl
  try simp only [Act.put, qT, q0, qS]
  refine qzI 6 ⟨some 12, .slice 38 (.tmp 7) (some (.tmp 8)) (some (.tmp 11)) none, 106, _, #[⟨1, .data⟩, ⟨2, .data⟩, ⟨5, .data⟩], none⟩ (.slice (some ⟨gb, A, none⟩) s (128 - A)) rfl (by kernel_rfl) (fun _ _ _ h => h) (by rfl) (fun w' hw' => ?_) hHeld ?_
  · go_simp <;> rfl
  try simp only [Act.put, qT, q0, qS]
  refine qzI 7 ⟨some 13, .move (.tmp 0), 106, _, #[], none⟩ (.slice p l.length cap) rfl (by kernel_rfl) (fun _ _ _ h => h) (by rfl) (fun w' hw' => ?_) hHeld ?_
  · go_simp <;> rfl
  try simp only [Act.put, qT, q0, qS]
  refine qzR 8 ⟨some 14, .call ⟨.builtin Go.Builtin.copy, #[.tmp 12, .tmp 13], #[106, 106]⟩, 3, _, #[⟨6, .data⟩, ⟨7, .data⟩], none⟩ (by kernel_rfl) rfl (by rfl) (fun K hK => ?_)
  refine wp_copy_seg (.tmp 12) (.tmp 13) rfl gb A s (128 - A) p l.length cap rfl rfl GL 38 HGR.out LL HMIN.out HPN.out HFIT.out H1.out ?_
  generalize W.drew.setRow gb (splice GL A LL).toArray = W2 at *
  refine hK.out _ _ HS2.out (fun _ => ?_)
  clear hK K
  try simp only [Act.put, qT, q0, qS]
  refine wpAnyH_done (by kernel_rfl) ?_ _
  clear hHeld HS0 HGR HPN hsl
  go_wp2
  go_end0
  exact ⟨rfl, HEND.out _ rfl⟩
theorem number_pc (n : Nat) (w : World) (hn : n < 18446744073709551616) :
    Calls Tryz.prog 92 #[.int .u64 (n : Int)] w fun e w' => e = .returned (.slice (some ⟨w.heap.size, 0, none⟩) 8 8) ∧ FB w.heap.size w' (.slice (some ⟨w.heap.size, 0, none⟩) 8 8) (W1.le 8 n) ∧ Below w.heap.size w w' := by
  have HP : Hid (Calls Tryz.prog 81 #[.int .u64 (n : Int), .int .i64 (8 : Int)] w fun e w' => e = .returned (.tuple #[.slice (some ⟨w.heap.size, 0, none⟩) 8 8, .int .i64 0]) ∧ FB w.heap.size w' (.slice (some ⟨w.heap.size, 0, none⟩) 8 8) (W1.le 8 n) ∧ Below w.heap.size w w') := put_ok n 8 w (by decide) (by decide) hn hn
  go_enter Tryz.func92, Tryz.ntmps92
  go_wp2_with fail
  refine Calls.mono HP.out ?_
  rintro e w1 ⟨rfl, hf, hb⟩
  have HF : Hid _ := hf
  clear hf HP
  go_wp2
  go_ret
  exact ⟨rfl, HF.out, hb⟩
theorem lay_to {w : World} {pb rb gb cb ab : Nat} {tp : TypeId} {PL ZL : List Value} {P : List UInt8} {W : World} (h : LY w pb rb gb cb ab tp PL ZL P W) (v : Value) (l : List UInt8) (s : Nat) (P' : List UInt8) (hP : P ++ l ++ List.replicate (s - l.length) 0 = P') (hv : HB W v l) (hl : l.length ≤ s) (hs : P.length + s ≤ 128) (h1 : 1 ≤ s) :
    Calls Tryz.prog 108 #[v, .int .i64 (s : Int), .pointer (some ⟨cb, 0, none⟩), .pointer (some ⟨ab, 0, none⟩)] W fun e W' => e = .returned (.tuple #[]) ∧ LY w pb rb gb cb ab tp PL ZL P' W' := by
  rw [← hP]; exact lay_any h v l s hv hl hs h1
theorem hb_new (W : World) (l : List UInt8) (A : Array Value) (t : TypeId) (fr : Nat × Nat) (k : Nat) (hk : k = l.length) (hA : A = (l.map B8).toArray) (hl : l.length ≤ 1099511627776) : HB (W.alloc (.cells A t fr)) (.slice (some ⟨W.heap.size, 0, none⟩) k k) l :=
  hb_range k hk (by omega) (by unfold maxLen; omega) (rangeAt_row (by rw [heap_alloc_new, hA]))
structure L0 (w : World) (tp : TypeId) (PL ZL : List Value) (W : World) : Prop where
  bel : Below w.heap.size w W
  par : W.heap[w.heap.size]? = some (.cells PL.toArray tp (0, 0))
  res : W.heap[w.heap.size + 1]? = some (.cells ZL.toArray 38 (0, 0))
theorem L0.start (w : World) (tp : TypeId) (PL ZL : List Value) : L0 w tp PL ZL ((w.alloc (.cells PL.toArray tp (0, 0))).alloc (.cells ZL.toArray 38 (0, 0))) :=
  ⟨((Below.refl _ _).alloc (Nat.le_refl _) _).alloc (by simp) _, (Below.heap_alloc _ _ _ (by simp)).trans (heap_alloc_new _ _), heap_at _ _ _ (by simp)⟩
theorem L0.below {w : World} {tp : TypeId} {PL ZL : List Value} {W W' : World} (h : L0 w tp PL ZL W) (hb : Below W.heap.size W W') : L0 w tp PL ZL W' := by
  obtain ⟨h1, h2, h3⟩ := h
  exact ⟨h1.trans (hb.mono h1.size), (hb.block _ (row_lt h2)).trans h2, (hb.block _ (row_lt h3)).trans h3⟩
theorem L0.ly {w : World} {tp : TypeId} {PL ZL : List Value} {W : World} (h : L0 w tp PL ZL W) (hZ : ZL = Z128.map B8) :
    LY w w.heap.size (w.heap.size + 1) W.heap.size (W.heap.size + 1) (W.heap.size + 1 + 1) tp PL ZL [] (((W.alloc (.cells ZL.toArray 38 (0, 0))).alloc (.cells #[.pointer (some ⟨W.heap.size, 0, none⟩)] 158 (0, 0))).alloc (.cells #[.int .i64 0] 3 (0, 0))) := by
  obtain ⟨h1, h2, h3⟩ := h
  have l3 := row_lt h3
  have k : ∀ j, j < W.heap.size → (((W.alloc (.cells ZL.toArray 38 (0, 0))).alloc (.cells #[.pointer (some ⟨W.heap.size, 0, none⟩)] 158 (0, 0))).alloc (.cells #[.int .i64 0] 3 (0, 0))).heap[j]? = W.heap[j]? := fun j hj => by
    rw [Below.heap_alloc _ _ _ (by simp; omega), Below.heap_alloc _ _ _ (by simp; omega), Below.heap_alloc _ _ _ hj]
  refine ⟨((h1.alloc (by omega) _).alloc (by simp; omega) _).alloc (by simp; omega) _, (k _ (by omega)).trans h2, (k _ (by omega)).trans h3, ?_, ?_, ?_, Nat.le_refl _, by omega, by omega, by omega, by omega⟩
  · rw [pd_nil, ← hZ, Below.heap_alloc _ _ _ (by simp; omega), Below.heap_alloc _ _ _ (by simp)]; exact heap_alloc_new _ _
  · rw [Below.heap_alloc _ _ _ (by simp)]; exact heap_at _ _ _ (by simp)
  · exact heap_at _ _ _ (by simp)
def cb0 (pc : Nat) (rs : List Nat) (k : Nat) : List UInt8 := [114, 101, 99, 0, 0, 0, 0, 0] ++ W1.le 8 pc ++ (rs.take k).flatMap (W1.le 8)
def cbP (pc : Nat) (rs : List Nat) (r : Bool) : List UInt8 := cb0 pc rs 8 ++ [if r then 1 else 0]
def cbL (pc : Nat) (rs : List Nat) (r : Bool) : List UInt8 := pd (cbP pc rs r)
theorem flat_len (rs : List Nat) : (rs.flatMap (W1.le 8)).length = 8 * rs.length := by
  induction rs with
  | nil => rfl
  | cons x l ih => rw [List.flatMap_cons, List.length_append, ih, W1.le_length, List.length_cons]; omega
theorem cb0_len (pc : Nat) (rs : List Nat) (k : Nat) (h : k ≤ rs.length) : (cb0 pc rs k).length = 16 + 8 * k := by
  unfold cb0; rw [List.length_append, List.length_append, flat_len, W1.le_length, List.length_take, Nat.min_eq_left h]; rfl
theorem cbP_len (pc : Nat) (rs : List Nat) (r : Bool) (h : rs.length = 8) : (cbP pc rs r).length = 81 := by
  unfold cbP; rw [List.length_append, cb0_len _ _ _ (by omega)]; rfl
theorem cbL_len (pc : Nat) (rs : List Nat) (r : Bool) (h : rs.length = 8) : (cbL pc rs r).length = 128 := pd_len _ (by rw [cbP_len _ _ _ h]; decide)
theorem cb0_step (pc : Nat) (rs : List Nat) (k : Nat) (h : k < rs.length) : cb0 pc rs k ++ W1.le 8 (rs.getD k 0) = cb0 pc rs (k + 1) := by
  unfold cb0
  have hg : rs.getD k 0 = rs[k] := by simp [List.getD, List.getElem?_eq_getElem h]
  rw [List.take_succ_eq_append_getElem h, List.flatMap_append, hg]
  simp [List.append_assoc]
theorem pd_zero (P : List UInt8) (h : P.length < 128) : pd (P ++ [0]) = pd P := by
  unfold pd
  rw [List.length_append, List.length_singleton, List.append_assoc, show 128 - P.length = (128 - (P.length + 1)) + 1 by omega, List.replicate_succ]
  rfl
theorem cb_bad (pc : Nat) (rs : List Nat) (r : Bool) (w : World) (hr : rs.length = 8) (hm : mayC pc = false) :
    Calls Tryz.prog 67 #[.agg (rcL pc rs r).toArray] w fun e w' => e = .returned (.tuple #[.agg (Z128.map B8).toArray, .int .i64 2]) ∧ Below w.heap.size w w' := by
  have hM := fun W => pmayC_any pc rs r W
  rw [hm] at hM
  have hpl := rcL_len pc rs r hr
  generalize rcL pc rs r = PL at *
  have HPI : Hid _ := info10 PL hpl
  have hzg := fun W => zero_gr W
  obtain ⟨ZL, hZL⟩ : ∃ L, L = Z128.map B8 := ⟨_, rfl⟩
  rw [← hZL] at hzg
  have HBG : Hid (∀ W, (Instr.build 38 #[]).run Tryz.prog W = .ok (.agg ZL.toArray) W) := fun W => by rw [hZL]; exact build_gr W
  have hzl : ZL.length = 128 := by rw [hZL, List.length_map, z128_len]
  have HGI : Hid ((Tryz.prog.info? 38).map (·.size) = some ZL.length) := info128 ZL hzl
  have HGA : Hid ((Tryz.prog.info? 38).map (·.size) = some ZL.toArray.size) := info128a _ (by simpa using hzl)
  have HG1 : Hid (ZL.toArray.all (·.oneCell') = true) := by show _ = _; rw [hZL]; exact B8_onea _
  have HGL : Hid _ := hzl
  have HZL : Hid _ := hZL
  clear hZL hzl
  rw [← HZL.out]
  have HL0 : Hid _ := L0.start w 41 PL ZL
  have HPR : Hid _ := rangeAt_row HL0.out.par
  clear hm hpl
  go_enter Tryz.func67, Tryz.ntmps67
  go_wp2_with (refine wpList_load_mid rfl 41 _ rfl w.heap.size 0 rfl PL _ HPR.out Tryz.underlying41 rfl HPI.out ?_)
  refine Calls.mono (hM _) ?_
  rintro e w1 ⟨rfl, hb1⟩
  have HL1 : Hid _ := HL0.out.below hb1
  have HR1 : Hid _ := HL1.out.res
  clear hb1 HL0 HPR
  go_wp2_with (first
    | (refine wpList_build rfl 38 #[] rfl #[] (.agg ZL.toArray) (by simp) (HBG.out _) ?_)
    | (refine wpList_store_row rfl 38 _ _ rfl (w.heap.size + 1) ZL.toArray rfl rfl 38 ZL.toArray HR1.out HGA.out rfl HG1.out ?_))
  refine bodyPost_ret (v := .tuple #[.agg ZL.toArray, .int .i64 2]) (results2 Tryz.results67 _ _ (w.heap.size + 1) 38 ZL (0, 0) _ rfl rfl (setRow_heap _ _ _ _ _ _ HR1.out) Tryz.underlying38 rfl HGI.out) rfl ⟨rfl, below_setRow HL1.out.bel (by omega) _⟩
theorem cb_ok (pc : Nat) (rs : List Nat) (r : Bool) (w : World) (hr : rs.length = 8) (hp : pc < 18446744073709551616) (hrs : ∀ x ∈ rs, x < 18446744073709551616) (hm : mayC pc = true) :
    Calls Tryz.prog 67 #[.agg (rcL pc rs r).toArray] w fun e w' => e = .returned (.tuple #[.agg ((cbL pc rs r).map B8).toArray, .int .i64 0]) ∧ Below w.heap.size w w' := by
  have hM := fun W => pmayC_any pc rs r W
  rw [hm] at hM
  have hpl := rcL_len pc rs r hr
  have HPP : Hid ((rcL pc rs r)[0]? = some (.int .u64 (pc : Int))) := rcL_pc pc rs r
  have HPR8 : Hid (∀ i, i < 8 → (rcL pc rs r)[1 + i]? = some (.int .u64 ((rs.getD i 0 : Nat) : Int))) := fun i hi => rcL_r pc rs r i (by omega)
  have HPB : Hid ((rcL pc rs r)[9]? = some (.bool r)) := rcL_b pc rs r hr
  generalize rcL pc rs r = PL at *
  have HPI : Hid _ := info10 PL hpl
  have hzg := fun W => zero_gr W
  obtain ⟨ZL, hZL⟩ : ∃ L, L = Z128.map B8 := ⟨_, rfl⟩
  rw [← hZL] at hzg
  have HBG : Hid (∀ W, (Instr.build 38 #[]).run Tryz.prog W = .ok (.agg ZL.toArray) W) := fun W => by rw [hZL]; exact build_gr W
  have hzl : ZL.length = 128 := by rw [hZL, List.length_map, z128_len]
  have HGI : Hid ((Tryz.prog.info? 38).map (·.size) = some ZL.length) := info128 ZL hzl
  have HGA : Hid ((Tryz.prog.info? 38).map (·.size) = some ZL.toArray.size) := info128a _ (by simpa using hzl)
  have HG1 : Hid (ZL.toArray.all (·.oneCell') = true) := by show _ = _; rw [hZL]; exact B8_onea _
  have HGL : Hid _ := hzl
  have HZL : Hid _ := hZL
  clear hZL hzl
  have HL0 : Hid _ := L0.start w 41 PL ZL
  have HPR : Hid _ := rangeAt_row HL0.out.par
  have hnum := fun W => number_pc pc W hp
  have HNR : Hid (∀ i, i < 8 → rs.getD i 0 < 18446744073709551616) := fun i hi => by
    have h8 : i < rs.length := by omega
    rw [show rs.getD i 0 = rs[i] by simp [List.getD, List.getElem?_eq_getElem h8]]
    exact hrs _ (List.getElem_mem h8)
  obtain ⟨GL, hGL⟩ : ∃ L, L = (cbL pc rs r).map B8 := ⟨_, rfl⟩
  have hgl : GL.length = 128 := by rw [hGL, List.length_map, cbL_len pc rs r hr]
  have HII : Hid _ := info128 GL hgl
  have HIA : Hid _ := info128a GL.toArray (by simpa using hgl)
  have HI1 : Hid (GL.toArray.all (·.oneCell') = true) := by show _ = _; rw [hGL]; exact B8_onea _
  have HIS : Hid (ZL.toArray.size = GL.toArray.size) := by show _ = _; simp [HGL.out, hgl]
  rw [← hGL]
  have HGLL : Hid _ := hGL
  have HR8 : Hid _ := hr
  have HC0 : Hid ([114, 101, 99, 0, 0, 0, 0, 0] ++ W1.le 8 pc = cb0 pc rs 0) := by show _ = _; unfold cb0; simp
  clear hm hpl hGL hgl hr hrs hp
  go_enter Tryz.func67, Tryz.ntmps67
  go_wp2_with (refine wpList_load_mid rfl 41 _ rfl w.heap.size 0 rfl PL _ HPR.out Tryz.underlying41 rfl HPI.out ?_)
  refine Calls.mono (hM _) ?_
  rintro e w1 ⟨rfl, hb1⟩
  have HL1 : Hid _ := HL0.out.below hb1
  have HLY : Hid _ := HL1.out.ly HZL.out
  clear hb1 HL0 HPR hM
  go_wp2_with fail
  refine Calls.mono (layer_any w1.heap.size _) ?_
  rintro e w2 ⟨rfl, hw2⟩
  have HLY2 : Hid (LY w w.heap.size (w.heap.size + 1) w1.heap.size (w1.heap.size + 1) (w1.heap.size + 1 + 1) 41 PL ZL [] w2) := by rw [hw2]; exact HLY.out
  clear HLY hw2
  have hcv := Go.Joins.run_convert_bytes_const_at w2 106 5 #[.int .u8 114, .int .u8 101, .int .u8 99] 3 3 w2.heap.size rfl Tryz.underlying106 Tryz.underlying5
  have HB2 : Hid (HB (w2.alloc (.cells #[.int .u8 114, .int .u8 101, .int .u8 99] 5 (3, 4))) (.slice (some ⟨w2.heap.size, 0, none⟩) 3 3) [114, 101, 99]) := hb_new w2 _ _ _ _ 3 rfl rfl (by decide)
  have HLY3 : Hid _ := HLY2.out.below ((Below.refl _ _).alloc (Nat.le_refl _) (.cells #[.int .u8 114, .int .u8 101, .int .u8 99] 5 (3, 4)))
  clear HLY2
  go_wp2_with fail
  refine Calls.mono (lay_to HLY3.out _ _ 8 [114, 101, 99, 0, 0, 0, 0, 0] rfl HB2.out (by decide) (by decide) (by decide)) ?_
  rintro e w3 ⟨rfl, hw3⟩
  have HLY4 : Hid _ := hw3
  have hcn : w3.cell? ⟨w.heap.size, 0, none⟩ = some (.int .u64 (pc : Int)) := by
    rw [cell_of_row _ _ 0 _ _ _ hw3.par, List.getElem?_toArray]; exact HPP.out
  clear hw3 HLY3 HB2 hcv
  go_wp2_with fail
  refine Calls.mono (hnum _) ?_
  rintro e w4 ⟨rfl, hf4, hb4⟩
  have HLY5 : Hid _ := HLY4.out.below hb4
  have HF4 : Hid _ := hf4.hb
  clear hf4 hb4 HLY4 hnum hcn
  go_wp2_with fail
  refine Calls.mono (lay_to HLY5.out _ _ 8 (cb0 pc rs 0) (by rw [W1.le_length, ← HC0.out]; simp) HF4.out (by rw [W1.le_length]; decide) (by decide) (by decide)) ?_
  rintro e w5 ⟨rfl, hw5⟩
  have HLY6 : Hid _ := hw5
  clear hw5 HLY5 HF4 HC0
  go_wp2
  go_loopw [21] (fun i wr => ∃ k : Nat, k ≤ 8 ∧ i = .int .i64 k ∧ Hid (LY w w.heap.size (w.heap.size + 1) w1.heap.size (w1.heap.size + 1) (w1.heap.size + 1 + 1) 41 PL ZL (cb0 pc rs k) wr)) (fun i _ => 8 - (intOf i).toNat)
  case atStart => exact ⟨0, by omega, rfl, HLY6.out⟩
  case round =>
    obtain ⟨k, hk, rfl, HK⟩ := hrel
    clear HLY6
    generalize wr = W at *
    by_cases hlt : k < 8
    · have hcn : W.cell? ⟨w.heap.size, 1 + k, none⟩ = some (.int .u64 ((rs.getD k 0 : Nat) : Int)) := by
        rw [cell_of_row _ _ (1 + k) _ _ _ HK.out.par, List.getElem?_toArray]; exact HPR8.out k hlt
      have hnum := fun X => number_pc (rs.getD k 0) X (HNR.out k hlt)
      have HST : Hid _ := cb0_step pc rs k (by rw [HR8.out]; exact hlt)
      have HLEN : Hid _ := cb0_len pc rs k (by rw [HR8.out]; exact hk)
      generalize rs.getD k 0 = x at *
      generalize cb0 pc rs k = P0 at *
      obtain ⟨P1, hP1⟩ : ∃ P1, P1 = cb0 pc rs (k + 1) := ⟨_, rfl⟩
      rw [← hP1] at HST
      have HP1 : Hid _ := hP1
      clear hP1
      go_wp2_with fail
      refine Calls.mono (hnum _) ?_
      rintro e w6 ⟨rfl, hf6, hb6⟩
      have HK6 : Hid _ := HK.out.below hb6
      have HF6 : Hid _ := hf6.hb
      clear hf6 hb6 HK hnum hcn
      go_wp2_with fail
      refine Calls.mono (lay_to HK6.out _ _ 8 P1 (by rw [W1.le_length, ← HST.out]; simp) HF6.out (by rw [W1.le_length]; decide) (by rw [HLEN.out]; omega) (by decide)) ?_
      rintro e w7 ⟨rfl, hw7⟩
      have HK7 : Hid _ := hw7
      clear hw7 HK6 HF6
      go_wp2
      go_roundw
      case rel => exact ⟨k + 1, by omega, by go_num, by rw [← HP1.out]; exact HK7.out⟩
      case measure => simp [intOf]; omega
    · have hk8 : k = 8 := by omega
      have HLEN : Hid (LY w w.heap.size (w.heap.size + 1) w1.heap.size (w1.heap.size + 1) (w1.heap.size + 1 + 1) 41 PL ZL (cb0 pc rs 8) W ∧ (cb0 pc rs 8).length = 80) := by
        rw [hk8] at HK
        exact ⟨HK.out, cb0_len pc rs 8 (by rw [HR8.out]; decide)⟩
      have hcb : W.cell? ⟨w.heap.size, 9, none⟩ = some (.bool r) := by
        rw [cell_of_row _ _ 9 _ _ _ HK.out.par, List.getElem?_toArray]; exact HPB.out
      clear HK hk8
      cases r with
      | false =>
        have HLYZ : Hid _ := HLEN.out.1
        have HLY9 : Hid (W.heap[w1.heap.size]? = some (.cells ((cbL pc rs false).map B8).toArray 38 (0, 0))) := by
          show _ = _
          unfold cbL cbP
          rw [show (if false = true then (1 : UInt8) else 0) = 0 from rfl, pd_zero _ (by rw [HLEN.out.2]; decide)]
          exact HLYZ.out.gr
        generalize hw9 : W = w9 at *
        clear hw9
        have HGR : Hid (w9.rangeAt w1.heap.size 0 GL) := by rw [HGLL.out]; exact rangeAt_row HLY9.out
        have HRS : Hid _ := HLYZ.out.res
        go_wp2_with (first
          | (refine wpList_load_mid rfl 38 _ rfl w1.heap.size 0 rfl GL _ HGR.out Tryz.underlying38 rfl HII.out ?_)
          | (refine wpList_store_row rfl 38 _ _ rfl (w.heap.size + 1) GL.toArray rfl rfl 38 ZL.toArray HRS.out HIA.out HIS.out HI1.out ?_))
        refine bodyPost_ret (v := .tuple #[.agg GL.toArray, .int .i64 0]) (results2 Tryz.results67 _ _ (w.heap.size + 1) 38 GL (0, 0) _ rfl rfl (setRow_heap _ _ _ _ _ _ HRS.out) Tryz.underlying38 rfl HII.out) rfl ⟨rfl, below_setRow HLYZ.out.bel (by omega) _⟩
      | true =>
        have HBN : Hid (HB (W.alloc (.cells #[.int .u8 1] 5 (0, 0))) (.slice (some ⟨W.heap.size, 0, none⟩) 1 1) [1]) := hb_new W _ _ _ _ 1 rfl rfl (by decide)
        have HLYA : Hid _ := HLEN.out.1.below ((Below.refl _ _).alloc (Nat.le_refl _) (.cells #[.int .u8 1] 5 (0, 0)))
        go_wp2_with fail
        refine Calls.mono (lay_to HLYA.out _ _ 1 (cbP pc rs true) (by unfold cbP; simp) HBN.out (by decide) (by rw [HLEN.out.2]; decide) (by decide)) ?_
        rintro e w9 ⟨rfl, hw9⟩
        have HLYZ : Hid _ := hw9
        have HLY9 : Hid (w9.heap[w1.heap.size]? = some (.cells ((cbL pc rs true).map B8).toArray 38 (0, 0))) := hw9.gr
        clear hw9 HLYA HBN HLEN hcb
        have HGR : Hid (w9.rangeAt w1.heap.size 0 GL) := by rw [HGLL.out]; exact rangeAt_row HLY9.out
        have HRS : Hid _ := HLYZ.out.res
        go_wp2_with (first
          | (refine wpList_load_mid rfl 38 _ rfl w1.heap.size 0 rfl GL _ HGR.out Tryz.underlying38 rfl HII.out ?_)
          | (refine wpList_store_row rfl 38 _ _ rfl (w.heap.size + 1) GL.toArray rfl rfl 38 ZL.toArray HRS.out HIA.out HIS.out HI1.out ?_))
        refine bodyPost_ret (v := .tuple #[.agg GL.toArray, .int .i64 0]) (results2 Tryz.results67 _ _ (w.heap.size + 1) 38 GL (0, 0) _ rfl rfl (setRow_heap _ _ _ _ _ _ HRS.out) Tryz.underlying38 rfl HII.out) rfl ⟨rfl, below_setRow HLYZ.out.bel (by omega) _⟩
end Go.Proofs.YtekbppfocnbhbaaGreat.PC
