/- report: a report's text, by the program and by the document. -/
import Derived.Test.YtpklboicgjpmeaaDoorTn
import Derived.Test.YtpklboicgjpmeaaDoorTc
import Derived.Test.YtpklboicgjpmeaaDoorH3
set_option linter.unusedVariables false
set_option linter.unusedSimpArgs false
namespace Go.Proofs.YtpklboicgjpmeaaDoor.RB
open Go.RowKit

def Z6 : List Value := [sV [], sV [], sV [], sV [], sV [], sV []]
/-- The six words as cells. -/
def S6 (r : Rp) : List Value := [sV w1, sV (Lib.decDigits r.inst), sV w2, sV (W1.hex r.ms), sV w3, sV (W1.hex r.ch)]
theorem zero_6 (W : World) : (zeroValue 54).run Tryd.prog W = .ok (.agg Z6.toArray) W := by kernel_rfl
theorem build_6 (a b c d e f : ByteArray) (W : World) : (Instr.build 54 #[(0, .string a), (1, .string b), (2, .string c), (3, .string d), (4, .string e), (5, .string f)]).run Tryd.prog W = .ok (.agg #[.string a, .string b, .string c, .string d, .string e, .string f]) W := by kernel_rfl
theorem info_6 (L : List Value) (h : L.length = 6) : (Tryd.prog.info? 54).map (·.size) = some L.toArray.size := by rw [List.size_toArray, h]; kernel_rfl
theorem info_6l (L : List Value) (h : L.length = 6) : (Tryd.prog.info? 54).map (·.size) = some L.length := by rw [h]; kernel_rfl
theorem slice_6 (W : World) (b : Nat) : (Instr.sliceAt 54 (.pointer (some ⟨b, 0, none⟩)) none none none).run Tryd.prog W = .ok (.slice (some ⟨b, 0, none⟩) 6 6) W := by kernel_rfl
theorem s6_one (r : Rp) : (S6 r).toArray.all (·.oneCell') = true := onea fun u hu => by
  simp only [S6, List.mem_cons, List.not_mem_nil, or_false] at hu
  rcases hu with rfl | rfl | rfl | rfl | rfl | rfl <;> rfl
theorem wrds_cells (r : Rp) (j : Nat) (x : ByteArray) (h : ((wrds r).map fun l => (⟨l.toArray⟩ : ByteArray))[j]? = some x) : (S6 r)[j]? = some (.string x) := by
  have e : S6 r = ((wrds r).map fun l => (⟨l.toArray⟩ : ByteArray)).map Value.string := rfl
  rw [e, List.getElem?_map, h]; rfl
theorem join6_any (r : Rp) (h : r.ok) (b : Nat) (X : World) (hr : X.heap[b]? = some (.cells (S6 r).toArray 54 (0, 0))) : Calls Tryd.prog 28 #[.slice (some ⟨b, 0, none⟩) 6 6, sV [32]] X fun e w' => e = .returned (sV (tex r)) ∧ Below X.heap.size X w' := by
  have e1 : (((wrds r).map fun l => (⟨l.toArray⟩ : ByteArray)).map (·.data.toList)) = wrds r := by
    rw [List.map_map]
    exact (List.map_congr_left fun l _ => by simp).trans (List.map_id _)
  have e2 : (⟨#[32]⟩ : ByteArray).data.toList = [32] := rfl
  have hj := Tryd.strings_Join b 0 6 ((wrds r).map fun l => (⟨l.toArray⟩ : ByteArray)) ⟨#[32]⟩ X (fun j x hx => by
    rw [Nat.zero_add]
    exact (fields5 _ _ _ _ _ hr j).trans (by rw [List.getElem?_toArray]; exact wrds_cells r j x hx)) (row_lt hr) (by simp [wrds]) (by simp [wrds]) (by
    rw [e1, e2, join_tex]
    have := tex_len h
    omega)
  rw [e1, e2, join_tex] at hj
  exact hj
set_option maxHeartbeats 2000000 in
set_option maxRecDepth 100000 in
theorem ptext_any (r : Rp) (h : r.ok) (w : World) (hG : GV w) : Calls Tryd.prog 11 #[rV r] w fun e w' => e = .returned (sV (tex r)) ∧ Below w.heap.size w w' := by
  have hz := zero_6
  have HFM : Hid (∀ X, Below w.heap.size w X → Calls Tryd.prog 26 #[.int .u64 (r.inst : Int), .int .i64 10] X fun e w' => e = .returned (sV (Lib.decDigits r.inst)) ∧ Below X.heap.size X w') := fun X hb => fmt_any r.inst h.i X (hG.below hb)
  have HHM : Hid (∀ X, X.heap[w.heap.size]? = some (.cells (rL r).toArray 26 (0, 0)) → Calls Tryd.prog 27 #[.slice (some ⟨w.heap.size, 1, none⟩) 32 32] X fun e w' => e = .returned (sV (W1.hex r.ms)) ∧ Below X.heap.size X w') := fun X hr => hex_any _ r.ms X (by rw [h.m]; decide) (hb_range 32 h.m.symm (by rw [h.m]; decide) (by decide) (digs_m h (rangeAt_row hr)))
  have HHC : Hid (∀ X, X.heap[w.heap.size]? = some (.cells (rL r).toArray 26 (0, 0)) → Calls Tryd.prog 27 #[.slice (some ⟨w.heap.size, 33, none⟩) 32 32] X fun e w' => e = .returned (sV (W1.hex r.ch)) ∧ Below X.heap.size X w') := fun X hr => hex_any _ r.ch X (by rw [h.c]; decide) (hb_range 32 h.c.symm (by rw [h.c]; decide) (by decide) (digs_c h (rangeAt_row hr)))
  have HJN : Hid (∀ b X, X.heap[b]? = some (.cells (S6 r).toArray 54 (0, 0)) → Calls Tryd.prog 28 #[.slice (some ⟨b, 0, none⟩) 6 6, sV [32]] X fun e w' => e = .returned (sV (tex r)) ∧ Below X.heap.size X w') := fun b X hr => join6_any r h b X hr
  have HR0 : (rL r)[0]? = some (.int .u64 (r.inst : Int)) := rfl
  have HIN : Hid _ := infRA h
  have HI2 : Hid _ := rL_one r
  have hsd1 := fun W => slice_dg W w.heap.size 1
  have hsd2 := fun W => slice_dg W w.heap.size 33
  clear h hG
  unfold rV
  go_enter Tryd.func11, Tryd.ntmps11
  go_wp2_with fail
  refine wp_region_held_drew (S := fun X => RS w [(w.heap.size, 26, rL r)] X) (by kernel_rfl) (((RS.start w).alloc w.heap.size rfl 26 (rL r)).step (Below.refl _ _).drew) (fun hHeld => ?_)
  generalize World.drew _ = V0 at *
  refine wpAnyH_take (i := 0) (oi := { dst := some 4, op := Go.Op.fieldAddr 26 (Go.Operand.tmp 1) 0, type := 0, pos := _, after := #[], guard := none }) (v := .pointer (some ⟨w.heap.size, 0, none⟩)) rfl (by kernel_rfl) (by kernel_rfl) (by kernel_rfl) (fun _ _ _ h => h) (Or.inl ⟨by rfl, fun w' hw' => ?_⟩) hHeld ?_
  · first | (go_simp; done) | (go_simp; rfl)
  try simp only [Act.put, List.setIfInBounds_toArray, List.set_cons_zero, List.set_cons_succ]
  refine wpAnyH_take (i := 1) (oi := { dst := some 5, op := Go.Op.load 22 (Go.Operand.tmp 4), type := 22, pos := _, after := #[{ on := 0, ground := Go.Ground.data }], guard := none }) (v := .int .u64 (r.inst : Int)) rfl (by kernel_rfl) (by kernel_rfl) (by kernel_rfl) (fun _ _ _ h => h) (Or.inl ⟨by rfl, fun w' hw' => ?_⟩) hHeld ?_
  · have hcc := RS.cell hw' 0 rfl 0 HR0; first | (go_simp; done) | (go_simp; rfl)
  try simp only [Act.put, List.setIfInBounds_toArray, List.set_cons_zero, List.set_cons_succ]
  refine wpAnyH_take (i := 3) (oi := { dst := some 7, op := Go.Op.fieldAddr 26 (Go.Operand.tmp 1) 1, type := 0, pos := _, after := #[], guard := none }) (v := .pointer (some ⟨w.heap.size, 1, none⟩)) rfl (by kernel_rfl) (by kernel_rfl) (by kernel_rfl) (fun _ _ _ h => h) (Or.inl ⟨by rfl, fun w' hw' => ?_⟩) hHeld ?_
  · first | (go_simp; done) | (go_simp; rfl)
  try simp only [Act.put, List.setIfInBounds_toArray, List.set_cons_zero, List.set_cons_succ]
  refine wpAnyH_take (i := 4) (oi := { dst := some 8, op := Go.Op.slice 24 (Go.Operand.tmp 7) none none none, type := 28, pos := _, after := #[{ on := 3, ground := Go.Ground.data }], guard := none }) (v := .slice (some ⟨w.heap.size, 1, none⟩) 32 32) rfl (by kernel_rfl) (by kernel_rfl) (by kernel_rfl) (fun _ _ _ h => h) (Or.inl ⟨by rfl, fun w' hw' => ?_⟩) hHeld ?_
  · first | (go_simp; done) | (go_simp; rfl)
  try simp only [Act.put, List.setIfInBounds_toArray, List.set_cons_zero, List.set_cons_succ]
  refine wpAnyH_take (i := 6) (oi := { dst := some 10, op := Go.Op.fieldAddr 26 (Go.Operand.tmp 1) 2, type := 0, pos := _, after := #[], guard := none }) (v := .pointer (some ⟨w.heap.size, 33, none⟩)) rfl (by kernel_rfl) (by kernel_rfl) (by kernel_rfl) (fun _ _ _ h => h) (Or.inl ⟨by rfl, fun w' hw' => ?_⟩) hHeld ?_
  · first | (go_simp; done) | (go_simp; rfl)
  try simp only [Act.put, List.setIfInBounds_toArray, List.set_cons_zero, List.set_cons_succ]
  refine wpAnyH_take (i := 7) (oi := { dst := some 11, op := Go.Op.slice 24 (Go.Operand.tmp 10) none none none, type := 28, pos := _, after := #[{ on := 6, ground := Go.Ground.data }], guard := none }) (v := .slice (some ⟨w.heap.size, 33, none⟩) 32 32) rfl (by kernel_rfl) (by kernel_rfl) (by kernel_rfl) (fun _ _ _ h => h) (Or.inl ⟨by rfl, fun w' hw' => ?_⟩) hHeld ?_
  · first | (go_simp; done) | (go_simp; rfl)
  try simp only [Act.put, List.setIfInBounds_toArray, List.set_cons_zero, List.set_cons_succ]
  refine wpAnyH_ready (rs := [2, 10]) (by kernel_rfl) (by simp) ?_
  refine AllReadyH.cons (o := { dst := some 6, op := Go.Op.call { callee := Go.Callee.value (Go.Operand.func 26), args := #[Go.Operand.tmp 5, Go.Operand.const (Go.Value.int Go.IntKind.i64 10)], argTypes := #[22, 3] }, type := 9, pos := _, after := #[{ on := 1, ground := Go.Ground.data }], guard := none }) rfl (fun K hK => ?_) (AllReadyH.cons (o := { dst := some 3, op := Go.Op.alloc 54, type := 0, pos := _, after := #[], guard := none }) rfl (fun K hK => ?_) AllReadyH.nil)
  all_goals rw [if_pos (by rfl)]
  · skip
    go_wp2_with fail
    refine Calls.mono (HFM.out _ hHeld.bel) ?_
    rintro e V1 ⟨rfl, hb⟩
    replace hHeld := RS.step hHeld hb
    clear hb
    refine hK.out _ _ hHeld (fun _ => ?_)
    clear hK K
    try simp only [Act.put, List.setIfInBounds_toArray, List.set_cons_zero, List.set_cons_succ]
    refine wpAnyH_ready (rs := [5, 10]) (by kernel_rfl) (by simp) ?_
    refine AllReadyH.cons (o := { dst := some 9, op := Go.Op.call { callee := Go.Callee.value (Go.Operand.func 27), args := #[Go.Operand.tmp 8], argTypes := #[28] }, type := 9, pos := _, after := #[{ on := 4, ground := Go.Ground.data }, { on := 2, ground := Go.Ground.chain }], guard := none }) rfl (fun K hK => ?_) (AllReadyH.cons (o := { dst := some 3, op := Go.Op.alloc 54, type := 0, pos := _, after := #[], guard := none }) rfl (fun K hK => ?_) AllReadyH.nil)
    all_goals rw [if_pos (by rfl)]
    · skip
      go_wp2_with fail
      refine Calls.mono (HHM.out _ (hHeld.at 0 rfl)) ?_
      rintro e V2 ⟨rfl, hb⟩
      replace hHeld := RS.step hHeld hb
      clear hb
      refine hK.out _ _ hHeld (fun _ => ?_)
      clear hK K
      try simp only [Act.put, List.setIfInBounds_toArray, List.set_cons_zero, List.set_cons_succ]
      refine wpAnyH_ready (rs := [8, 10]) (by kernel_rfl) (by simp) ?_
      refine AllReadyH.cons (o := { dst := some 12, op := Go.Op.call { callee := Go.Callee.value (Go.Operand.func 27), args := #[Go.Operand.tmp 11], argTypes := #[28] }, type := 9, pos := _, after := #[{ on := 7, ground := Go.Ground.data }, { on := 5, ground := Go.Ground.chain }], guard := none }) rfl (fun K hK => ?_) (AllReadyH.cons (o := { dst := some 3, op := Go.Op.alloc 54, type := 0, pos := _, after := #[], guard := none }) rfl (fun K hK => ?_) AllReadyH.nil)
      all_goals rw [if_pos (by rfl)]
      · skip
        go_wp2_with fail
        refine Calls.mono (HHC.out _ (hHeld.at 0 rfl)) ?_
        rintro e V3 ⟨rfl, hb⟩
        replace hHeld := RS.step hHeld hb
        clear hb
        refine hK.out _ _ hHeld (fun _ => ?_)
        clear hK K
        try simp only [Act.put, List.setIfInBounds_toArray, List.set_cons_zero, List.set_cons_succ]
        refine wpAnyH_take (i := 9) (oi := { dst := some 13, op := Go.Op.build 54 #[(0, Go.Operand.const (Go.Value.string { data := #[105, 110, 115, 116, 97, 110, 99, 101] })), (1, Go.Operand.tmp 6), (2, Go.Operand.const (Go.Value.string { data := #[109, 101, 97, 115, 117, 114, 101] })), (3, Go.Operand.tmp 9), (4, Go.Operand.const (Go.Value.string { data := #[99, 104, 97, 108, 108, 101, 110, 103, 101] })), (5, Go.Operand.tmp 12)], type := 54, pos := _, after := #[{ on := 2, ground := Go.Ground.data }, { on := 5, ground := Go.Ground.data }, { on := 8, ground := Go.Ground.data }], guard := none }) (v := .agg (S6 r).toArray) rfl (by kernel_rfl) (by kernel_rfl) (by kernel_rfl) (fun _ _ _ h => h) (Or.inl ⟨by rfl, fun w' hw' => ?_⟩) hHeld ?_
        · exact exec_build _ _ _ _ _ _ _ rfl (by simp; exact ⟨rfl, rfl, rfl, rfl, rfl, rfl⟩) (build_6 _ _ _ _ _ _ w')
        try simp only [Act.put, List.setIfInBounds_toArray, List.set_cons_zero, List.set_cons_succ]
        refine wpAnyH_ready (rs := [10]) (by kernel_rfl) (by simp) ?_
        refine AllReadyH.cons (o := { dst := some 3, op := Go.Op.alloc 54, type := 0, pos := _, after := #[], guard := none }) rfl (fun K hK => ?_) AllReadyH.nil
        rw [if_pos (by rfl)]
        go_wp2_with fail
        have hN := RS.alloc hHeld V3.heap.size rfl 54 Z6
        replace hHeld := RS.step hHeld ((Below.refl V3.heap.size V3).alloc (Nat.le_refl _) (.cells Z6.toArray 54 (0, 0)))
        generalize V3.alloc (.cells Z6.toArray 54 (0, 0)) = V4 at *
        generalize V3.heap.size = nb at *
        refine hK.out _ _ hHeld (fun _ => ?_)
        clear hK K
        try simp only [Act.put, List.setIfInBounds_toArray, List.set_cons_zero, List.set_cons_succ]
        refine wpAnyH_ready (rs := [11]) (by kernel_rfl) (by simp) ?_
        refine AllReadyH.cons (o := { dst := none, op := Go.Op.store 54 (Go.Operand.tmp 3) (Go.Operand.tmp 13), type := 0, pos := _, after := #[{ on := 10, ground := Go.Ground.data }, { on := 9, ground := Go.Ground.data }, { on := 8, ground := Go.Ground.chain }, { on := 0, ground := Go.Ground.phase }, { on := 1, ground := Go.Ground.phase }, { on := 2, ground := Go.Ground.phase }, { on := 3, ground := Go.Ground.phase }, { on := 4, ground := Go.Ground.phase }, { on := 5, ground := Go.Ground.phase }, { on := 6, ground := Go.Ground.phase }, { on := 7, ground := Go.Ground.phase }, { on := 8, ground := Go.Ground.phase }, { on := 9, ground := Go.Ground.phase }, { on := 10, ground := Go.Ground.phase }], guard := none }) rfl (fun K hK => ?_) AllReadyH.nil
        rw [if_pos (by rfl)]
        refine wp_store_row 54 _ _ rfl nb (S6 r).toArray rfl rfl 54 Z6.toArray (hN.at 0 rfl) (info_6 _ rfl) rfl (s6_one r) ?_
        have hN2 := RS.put hN 0 rfl (S6 r)
        have HJ : Hid _ := HJN.out nb _ (hN2.at 0 rfl)
        have HBL : Hid _ := hN2.bel
        generalize V4.setRow nb (S6 r).toArray = V9 at *
        refine hK.out _ _ (⟨hN2.bel, fun q hq => hN2.low q (List.mem_cons_of_mem _ hq), (List.nodup_cons.1 (show (nb :: [w.heap.size]).Nodup from hN2.nd)).2, fun q hq => hN2.row q (List.mem_cons_of_mem _ hq)⟩ : RS w [(w.heap.size, 26, rL r)] V9) (fun _ => ?_)
        clear hK K
        try simp only [Act.put, List.setIfInBounds_toArray, List.set_cons_zero, List.set_cons_succ]
        refine wpAnyH_done (by kernel_rfl) ?_ _
        clear hHeld hN hN2
        have hs6 := fun W => slice_6 W nb
        go_wp2_with fail
        refine Calls.mono HJ.out ?_
        rintro e V10 ⟨rfl, hb⟩
        have HBZ : Hid _ := HBL.out.trans (hb.mono HBL.out.size)
        clear hb HBL HJ hs6
        go_wp2
        go_ret
        exact ⟨rfl, HBZ.out⟩
      · skip
        go_wp2_with fail
        have hN := RS.alloc hHeld V2.heap.size rfl 54 Z6
        replace hHeld := RS.step hHeld ((Below.refl V2.heap.size V2).alloc (Nat.le_refl _) (.cells Z6.toArray 54 (0, 0)))
        generalize V2.alloc (.cells Z6.toArray 54 (0, 0)) = V3 at *
        generalize V2.heap.size = nb at *
        refine hK.out _ _ hHeld (fun _ => ?_)
        clear hK K
        try simp only [Act.put, List.setIfInBounds_toArray, List.set_cons_zero, List.set_cons_succ]
        refine wpAnyH_ready (rs := [8]) (by kernel_rfl) (by simp) ?_
        refine AllReadyH.cons (o := { dst := some 12, op := Go.Op.call { callee := Go.Callee.value (Go.Operand.func 27), args := #[Go.Operand.tmp 11], argTypes := #[28] }, type := 9, pos := _, after := #[{ on := 7, ground := Go.Ground.data }, { on := 5, ground := Go.Ground.chain }], guard := none }) rfl (fun K hK => ?_) AllReadyH.nil
        rw [if_pos (by rfl)]
        go_wp2_with fail
        refine Calls.mono (HHC.out _ (hHeld.at 0 rfl)) ?_
        rintro e V4 ⟨rfl, hb⟩
        replace hN := RS.step hN hb
        replace hHeld := RS.step hHeld hb
        clear hb
        refine hK.out _ _ hHeld (fun _ => ?_)
        clear hK K
        try simp only [Act.put, List.setIfInBounds_toArray, List.set_cons_zero, List.set_cons_succ]
        refine wpAnyH_take (i := 9) (oi := { dst := some 13, op := Go.Op.build 54 #[(0, Go.Operand.const (Go.Value.string { data := #[105, 110, 115, 116, 97, 110, 99, 101] })), (1, Go.Operand.tmp 6), (2, Go.Operand.const (Go.Value.string { data := #[109, 101, 97, 115, 117, 114, 101] })), (3, Go.Operand.tmp 9), (4, Go.Operand.const (Go.Value.string { data := #[99, 104, 97, 108, 108, 101, 110, 103, 101] })), (5, Go.Operand.tmp 12)], type := 54, pos := _, after := #[{ on := 2, ground := Go.Ground.data }, { on := 5, ground := Go.Ground.data }, { on := 8, ground := Go.Ground.data }], guard := none }) (v := .agg (S6 r).toArray) rfl (by kernel_rfl) (by kernel_rfl) (by kernel_rfl) (fun _ _ _ h => h) (Or.inl ⟨by rfl, fun w' hw' => ?_⟩) hHeld ?_
        · exact exec_build _ _ _ _ _ _ _ rfl (by simp; exact ⟨rfl, rfl, rfl, rfl, rfl, rfl⟩) (build_6 _ _ _ _ _ _ w')
        try simp only [Act.put, List.setIfInBounds_toArray, List.set_cons_zero, List.set_cons_succ]
        refine wpAnyH_ready (rs := [11]) (by kernel_rfl) (by simp) ?_
        refine AllReadyH.cons (o := { dst := none, op := Go.Op.store 54 (Go.Operand.tmp 3) (Go.Operand.tmp 13), type := 0, pos := _, after := #[{ on := 10, ground := Go.Ground.data }, { on := 9, ground := Go.Ground.data }, { on := 8, ground := Go.Ground.chain }, { on := 0, ground := Go.Ground.phase }, { on := 1, ground := Go.Ground.phase }, { on := 2, ground := Go.Ground.phase }, { on := 3, ground := Go.Ground.phase }, { on := 4, ground := Go.Ground.phase }, { on := 5, ground := Go.Ground.phase }, { on := 6, ground := Go.Ground.phase }, { on := 7, ground := Go.Ground.phase }, { on := 8, ground := Go.Ground.phase }, { on := 9, ground := Go.Ground.phase }, { on := 10, ground := Go.Ground.phase }], guard := none }) rfl (fun K hK => ?_) AllReadyH.nil
        rw [if_pos (by rfl)]
        refine wp_store_row 54 _ _ rfl nb (S6 r).toArray rfl rfl 54 Z6.toArray (hN.at 0 rfl) (info_6 _ rfl) rfl (s6_one r) ?_
        have hN2 := RS.put hN 0 rfl (S6 r)
        have HJ : Hid _ := HJN.out nb _ (hN2.at 0 rfl)
        have HBL : Hid _ := hN2.bel
        generalize V4.setRow nb (S6 r).toArray = V9 at *
        refine hK.out _ _ (⟨hN2.bel, fun q hq => hN2.low q (List.mem_cons_of_mem _ hq), (List.nodup_cons.1 (show (nb :: [w.heap.size]).Nodup from hN2.nd)).2, fun q hq => hN2.row q (List.mem_cons_of_mem _ hq)⟩ : RS w [(w.heap.size, 26, rL r)] V9) (fun _ => ?_)
        clear hK K
        try simp only [Act.put, List.setIfInBounds_toArray, List.set_cons_zero, List.set_cons_succ]
        refine wpAnyH_done (by kernel_rfl) ?_ _
        clear hHeld hN hN2
        have hs6 := fun W => slice_6 W nb
        go_wp2_with fail
        refine Calls.mono HJ.out ?_
        rintro e V10 ⟨rfl, hb⟩
        have HBZ : Hid _ := HBL.out.trans (hb.mono HBL.out.size)
        clear hb HBL HJ hs6
        go_wp2
        go_ret
        exact ⟨rfl, HBZ.out⟩
    · skip
      go_wp2_with fail
      have hN := RS.alloc hHeld V1.heap.size rfl 54 Z6
      replace hHeld := RS.step hHeld ((Below.refl V1.heap.size V1).alloc (Nat.le_refl _) (.cells Z6.toArray 54 (0, 0)))
      generalize V1.alloc (.cells Z6.toArray 54 (0, 0)) = V2 at *
      generalize V1.heap.size = nb at *
      refine hK.out _ _ hHeld (fun _ => ?_)
      clear hK K
      try simp only [Act.put, List.setIfInBounds_toArray, List.set_cons_zero, List.set_cons_succ]
      refine wpAnyH_ready (rs := [5]) (by kernel_rfl) (by simp) ?_
      refine AllReadyH.cons (o := { dst := some 9, op := Go.Op.call { callee := Go.Callee.value (Go.Operand.func 27), args := #[Go.Operand.tmp 8], argTypes := #[28] }, type := 9, pos := _, after := #[{ on := 4, ground := Go.Ground.data }, { on := 2, ground := Go.Ground.chain }], guard := none }) rfl (fun K hK => ?_) AllReadyH.nil
      rw [if_pos (by rfl)]
      go_wp2_with fail
      refine Calls.mono (HHM.out _ (hHeld.at 0 rfl)) ?_
      rintro e V3 ⟨rfl, hb⟩
      replace hN := RS.step hN hb
      replace hHeld := RS.step hHeld hb
      clear hb
      refine hK.out _ _ hHeld (fun _ => ?_)
      clear hK K
      try simp only [Act.put, List.setIfInBounds_toArray, List.set_cons_zero, List.set_cons_succ]
      refine wpAnyH_ready (rs := [8]) (by kernel_rfl) (by simp) ?_
      refine AllReadyH.cons (o := { dst := some 12, op := Go.Op.call { callee := Go.Callee.value (Go.Operand.func 27), args := #[Go.Operand.tmp 11], argTypes := #[28] }, type := 9, pos := _, after := #[{ on := 7, ground := Go.Ground.data }, { on := 5, ground := Go.Ground.chain }], guard := none }) rfl (fun K hK => ?_) AllReadyH.nil
      rw [if_pos (by rfl)]
      go_wp2_with fail
      refine Calls.mono (HHC.out _ (hHeld.at 0 rfl)) ?_
      rintro e V4 ⟨rfl, hb⟩
      replace hN := RS.step hN hb
      replace hHeld := RS.step hHeld hb
      clear hb
      refine hK.out _ _ hHeld (fun _ => ?_)
      clear hK K
      try simp only [Act.put, List.setIfInBounds_toArray, List.set_cons_zero, List.set_cons_succ]
      refine wpAnyH_take (i := 9) (oi := { dst := some 13, op := Go.Op.build 54 #[(0, Go.Operand.const (Go.Value.string { data := #[105, 110, 115, 116, 97, 110, 99, 101] })), (1, Go.Operand.tmp 6), (2, Go.Operand.const (Go.Value.string { data := #[109, 101, 97, 115, 117, 114, 101] })), (3, Go.Operand.tmp 9), (4, Go.Operand.const (Go.Value.string { data := #[99, 104, 97, 108, 108, 101, 110, 103, 101] })), (5, Go.Operand.tmp 12)], type := 54, pos := _, after := #[{ on := 2, ground := Go.Ground.data }, { on := 5, ground := Go.Ground.data }, { on := 8, ground := Go.Ground.data }], guard := none }) (v := .agg (S6 r).toArray) rfl (by kernel_rfl) (by kernel_rfl) (by kernel_rfl) (fun _ _ _ h => h) (Or.inl ⟨by rfl, fun w' hw' => ?_⟩) hHeld ?_
      · exact exec_build _ _ _ _ _ _ _ rfl (by simp; exact ⟨rfl, rfl, rfl, rfl, rfl, rfl⟩) (build_6 _ _ _ _ _ _ w')
      try simp only [Act.put, List.setIfInBounds_toArray, List.set_cons_zero, List.set_cons_succ]
      refine wpAnyH_ready (rs := [11]) (by kernel_rfl) (by simp) ?_
      refine AllReadyH.cons (o := { dst := none, op := Go.Op.store 54 (Go.Operand.tmp 3) (Go.Operand.tmp 13), type := 0, pos := _, after := #[{ on := 10, ground := Go.Ground.data }, { on := 9, ground := Go.Ground.data }, { on := 8, ground := Go.Ground.chain }, { on := 0, ground := Go.Ground.phase }, { on := 1, ground := Go.Ground.phase }, { on := 2, ground := Go.Ground.phase }, { on := 3, ground := Go.Ground.phase }, { on := 4, ground := Go.Ground.phase }, { on := 5, ground := Go.Ground.phase }, { on := 6, ground := Go.Ground.phase }, { on := 7, ground := Go.Ground.phase }, { on := 8, ground := Go.Ground.phase }, { on := 9, ground := Go.Ground.phase }, { on := 10, ground := Go.Ground.phase }], guard := none }) rfl (fun K hK => ?_) AllReadyH.nil
      rw [if_pos (by rfl)]
      refine wp_store_row 54 _ _ rfl nb (S6 r).toArray rfl rfl 54 Z6.toArray (hN.at 0 rfl) (info_6 _ rfl) rfl (s6_one r) ?_
      have hN2 := RS.put hN 0 rfl (S6 r)
      have HJ : Hid _ := HJN.out nb _ (hN2.at 0 rfl)
      have HBL : Hid _ := hN2.bel
      generalize V4.setRow nb (S6 r).toArray = V9 at *
      refine hK.out _ _ (⟨hN2.bel, fun q hq => hN2.low q (List.mem_cons_of_mem _ hq), (List.nodup_cons.1 (show (nb :: [w.heap.size]).Nodup from hN2.nd)).2, fun q hq => hN2.row q (List.mem_cons_of_mem _ hq)⟩ : RS w [(w.heap.size, 26, rL r)] V9) (fun _ => ?_)
      clear hK K
      try simp only [Act.put, List.setIfInBounds_toArray, List.set_cons_zero, List.set_cons_succ]
      refine wpAnyH_done (by kernel_rfl) ?_ _
      clear hHeld hN hN2
      have hs6 := fun W => slice_6 W nb
      go_wp2_with fail
      refine Calls.mono HJ.out ?_
      rintro e V10 ⟨rfl, hb⟩
      have HBZ : Hid _ := HBL.out.trans (hb.mono HBL.out.size)
      clear hb HBL HJ hs6
      go_wp2
      go_ret
      exact ⟨rfl, HBZ.out⟩
  · skip
    go_wp2_with fail
    have hN := RS.alloc hHeld V0.heap.size rfl 54 Z6
    replace hHeld := RS.step hHeld ((Below.refl V0.heap.size V0).alloc (Nat.le_refl _) (.cells Z6.toArray 54 (0, 0)))
    generalize V0.alloc (.cells Z6.toArray 54 (0, 0)) = V1 at *
    generalize V0.heap.size = nb at *
    refine hK.out _ _ hHeld (fun _ => ?_)
    clear hK K
    try simp only [Act.put, List.setIfInBounds_toArray, List.set_cons_zero, List.set_cons_succ]
    refine wpAnyH_ready (rs := [2]) (by kernel_rfl) (by simp) ?_
    refine AllReadyH.cons (o := { dst := some 6, op := Go.Op.call { callee := Go.Callee.value (Go.Operand.func 26), args := #[Go.Operand.tmp 5, Go.Operand.const (Go.Value.int Go.IntKind.i64 10)], argTypes := #[22, 3] }, type := 9, pos := _, after := #[{ on := 1, ground := Go.Ground.data }], guard := none }) rfl (fun K hK => ?_) AllReadyH.nil
    rw [if_pos (by rfl)]
    go_wp2_with fail
    refine Calls.mono (HFM.out _ hHeld.bel) ?_
    rintro e V2 ⟨rfl, hb⟩
    replace hN := RS.step hN hb
    replace hHeld := RS.step hHeld hb
    clear hb
    refine hK.out _ _ hHeld (fun _ => ?_)
    clear hK K
    try simp only [Act.put, List.setIfInBounds_toArray, List.set_cons_zero, List.set_cons_succ]
    refine wpAnyH_ready (rs := [5]) (by kernel_rfl) (by simp) ?_
    refine AllReadyH.cons (o := { dst := some 9, op := Go.Op.call { callee := Go.Callee.value (Go.Operand.func 27), args := #[Go.Operand.tmp 8], argTypes := #[28] }, type := 9, pos := _, after := #[{ on := 4, ground := Go.Ground.data }, { on := 2, ground := Go.Ground.chain }], guard := none }) rfl (fun K hK => ?_) AllReadyH.nil
    rw [if_pos (by rfl)]
    go_wp2_with fail
    refine Calls.mono (HHM.out _ (hHeld.at 0 rfl)) ?_
    rintro e V3 ⟨rfl, hb⟩
    replace hN := RS.step hN hb
    replace hHeld := RS.step hHeld hb
    clear hb
    refine hK.out _ _ hHeld (fun _ => ?_)
    clear hK K
    try simp only [Act.put, List.setIfInBounds_toArray, List.set_cons_zero, List.set_cons_succ]
    refine wpAnyH_ready (rs := [8]) (by kernel_rfl) (by simp) ?_
    refine AllReadyH.cons (o := { dst := some 12, op := Go.Op.call { callee := Go.Callee.value (Go.Operand.func 27), args := #[Go.Operand.tmp 11], argTypes := #[28] }, type := 9, pos := _, after := #[{ on := 7, ground := Go.Ground.data }, { on := 5, ground := Go.Ground.chain }], guard := none }) rfl (fun K hK => ?_) AllReadyH.nil
    rw [if_pos (by rfl)]
    go_wp2_with fail
    refine Calls.mono (HHC.out _ (hHeld.at 0 rfl)) ?_
    rintro e V4 ⟨rfl, hb⟩
    replace hN := RS.step hN hb
    replace hHeld := RS.step hHeld hb
    clear hb
    refine hK.out _ _ hHeld (fun _ => ?_)
    clear hK K
    try simp only [Act.put, List.setIfInBounds_toArray, List.set_cons_zero, List.set_cons_succ]
    refine wpAnyH_take (i := 9) (oi := { dst := some 13, op := Go.Op.build 54 #[(0, Go.Operand.const (Go.Value.string { data := #[105, 110, 115, 116, 97, 110, 99, 101] })), (1, Go.Operand.tmp 6), (2, Go.Operand.const (Go.Value.string { data := #[109, 101, 97, 115, 117, 114, 101] })), (3, Go.Operand.tmp 9), (4, Go.Operand.const (Go.Value.string { data := #[99, 104, 97, 108, 108, 101, 110, 103, 101] })), (5, Go.Operand.tmp 12)], type := 54, pos := _, after := #[{ on := 2, ground := Go.Ground.data }, { on := 5, ground := Go.Ground.data }, { on := 8, ground := Go.Ground.data }], guard := none }) (v := .agg (S6 r).toArray) rfl (by kernel_rfl) (by kernel_rfl) (by kernel_rfl) (fun _ _ _ h => h) (Or.inl ⟨by rfl, fun w' hw' => ?_⟩) hHeld ?_
    · exact exec_build _ _ _ _ _ _ _ rfl (by simp; exact ⟨rfl, rfl, rfl, rfl, rfl, rfl⟩) (build_6 _ _ _ _ _ _ w')
    try simp only [Act.put, List.setIfInBounds_toArray, List.set_cons_zero, List.set_cons_succ]
    refine wpAnyH_ready (rs := [11]) (by kernel_rfl) (by simp) ?_
    refine AllReadyH.cons (o := { dst := none, op := Go.Op.store 54 (Go.Operand.tmp 3) (Go.Operand.tmp 13), type := 0, pos := _, after := #[{ on := 10, ground := Go.Ground.data }, { on := 9, ground := Go.Ground.data }, { on := 8, ground := Go.Ground.chain }, { on := 0, ground := Go.Ground.phase }, { on := 1, ground := Go.Ground.phase }, { on := 2, ground := Go.Ground.phase }, { on := 3, ground := Go.Ground.phase }, { on := 4, ground := Go.Ground.phase }, { on := 5, ground := Go.Ground.phase }, { on := 6, ground := Go.Ground.phase }, { on := 7, ground := Go.Ground.phase }, { on := 8, ground := Go.Ground.phase }, { on := 9, ground := Go.Ground.phase }, { on := 10, ground := Go.Ground.phase }], guard := none }) rfl (fun K hK => ?_) AllReadyH.nil
    rw [if_pos (by rfl)]
    refine wp_store_row 54 _ _ rfl nb (S6 r).toArray rfl rfl 54 Z6.toArray (hN.at 0 rfl) (info_6 _ rfl) rfl (s6_one r) ?_
    have hN2 := RS.put hN 0 rfl (S6 r)
    have HJ : Hid _ := HJN.out nb _ (hN2.at 0 rfl)
    have HBL : Hid _ := hN2.bel
    generalize V4.setRow nb (S6 r).toArray = V9 at *
    refine hK.out _ _ (⟨hN2.bel, fun q hq => hN2.low q (List.mem_cons_of_mem _ hq), (List.nodup_cons.1 (show (nb :: [w.heap.size]).Nodup from hN2.nd)).2, fun q hq => hN2.row q (List.mem_cons_of_mem _ hq)⟩ : RS w [(w.heap.size, 26, rL r)] V9) (fun _ => ?_)
    clear hK K
    try simp only [Act.put, List.setIfInBounds_toArray, List.set_cons_zero, List.set_cons_succ]
    refine wpAnyH_done (by kernel_rfl) ?_ _
    clear hHeld hN hN2
    have hs6 := fun W => slice_6 W nb
    go_wp2_with fail
    refine Calls.mono HJ.out ?_
    rintro e V10 ⟨rfl, hb⟩
    have HBZ : Hid _ := HBL.out.trans (hb.mono HBL.out.size)
    clear hb HBL HJ hs6
    go_wp2
    go_ret
    exact ⟨rfl, HBZ.out⟩
end Go.Proofs.YtpklboicgjpmeaaDoor.RB
