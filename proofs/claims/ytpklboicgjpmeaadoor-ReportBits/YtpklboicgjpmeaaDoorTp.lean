/- report: the document's Text. -/
import Derived.Test.YtpklboicgjpmeaaDoorTo
import Derived.Test.YtpklboicgjpmeaaDoorTg
set_option linter.unusedVariables false
set_option linter.unusedSimpArgs false
namespace Go.Proofs.YtpklboicgjpmeaaDoor.RB
open Go.RowKit

theorem hexr_dg {w : World} {b o : Nat} {l : List UInt8} (hl : l.length = 32) (h : w.rangeAt b o (l.map B8)) : Calls Tryd.prog 29 #[.slice (some ⟨b, o, none⟩) 32 32] w fun e w' => e = .returned (sV (W1.hex l)) ∧ Below w.heap.size w w' := by
  have := hexr_some b o 32 l w (by rw [hl]; decide) (fun i hi => by
    have := h i (B8 l[i]) (by rw [List.getElem?_map, List.getElem?_eq_getElem hi]; rfl)
    rw [this]
    simp [B8, List.getD, List.getElem?_eq_getElem hi])
  rw [hl] at this
  exact this
abbrev tA : ByteArray := { data := #[105, 110, 115, 116, 97, 110, 99, 101, 32] }
abbrev tB : ByteArray := { data := #[32, 109, 101, 97, 115, 117, 114, 101, 32] }
abbrev tC : ByteArray := { data := #[32, 99, 104, 97, 108, 108, 101, 110, 103, 101, 32] }
theorem tex_app (r : Rp) : tA ++ ⟨(Lib.decDigits r.inst).toArray⟩ ++ tB ++ ⟨(W1.hex r.ms).toArray⟩ ++ tC ++ ⟨(W1.hex r.ch).toArray⟩ = (⟨(tex r).toArray⟩ : ByteArray) := by
  have e1 : tA = ⟨(w1 ++ [32]).toArray⟩ := rfl
  have e2 : tB = ⟨(32 :: (w2 ++ [32])).toArray⟩ := rfl
  have e3 : tC = ⟨(32 :: (w3 ++ [32])).toArray⟩ := rfl
  rw [e1, e2, e3, bytes_app, bytes_app, bytes_app, bytes_app, bytes_app]
  unfold tex
  simp
set_option maxHeartbeats 2000000 in
set_option maxRecDepth 100000 in
theorem rtext_any (r : Rp) (h : r.ok) (w : World) (hG : GV w) : Calls Tryd.prog 12 #[rV r] w fun e w' => e = .returned (sV (tex r)) ∧ Below w.heap.size w w' := by
  have HFM : Hid (∀ X, Below w.heap.size w X → Calls Tryd.prog 26 #[.int .u64 (r.inst : Int), .int .i64 10] X fun e w' => e = .returned (sV (Lib.decDigits r.inst)) ∧ Below X.heap.size X w') := fun X hb => fmt_any r.inst h.i X (hG.below hb)
  have HHM : Hid (∀ X, X.heap[w.heap.size]? = some (.cells (rL r).toArray 26 (0, 0)) → Calls Tryd.prog 29 #[.slice (some ⟨w.heap.size, 1, none⟩) 32 32] X fun e w' => e = .returned (sV (W1.hex r.ms)) ∧ Below X.heap.size X w') := fun X hr => hexr_dg h.m (digs_m h (rangeAt_row hr))
  have HHC : Hid (∀ X, X.heap[w.heap.size]? = some (.cells (rL r).toArray 26 (0, 0)) → Calls Tryd.prog 29 #[.slice (some ⟨w.heap.size, 33, none⟩) 32 32] X fun e w' => e = .returned (sV (W1.hex r.ch)) ∧ Below X.heap.size X w') := fun X hr => hexr_dg h.c (digs_c h (rangeAt_row hr))
  have HR0 : (rL r)[0]? = some (.int .u64 (r.inst : Int)) := rfl
  have HIN : Hid _ := infRA h
  have HI2 : Hid _ := rL_one r
  have hsd1 := fun W => slice_dg W w.heap.size 1
  have hsd2 := fun W => slice_dg W w.heap.size 33
  have HTX : Hid _ := tex_app r
  have HS1 : Hid ((⟨(Lib.decDigits r.inst).toArray⟩ : ByteArray).size ≤ 20) := by show _ ≤ _; rw [sz_str]; exact dec_len _ h.i
  have HS2 : Hid ((⟨(W1.hex r.ms).toArray⟩ : ByteArray).size ≤ 64) := by show _ ≤ _; rw [sz_str, W1.hex_length, h.m]; decide
  have HS3 : Hid ((⟨(W1.hex r.ch).toArray⟩ : ByteArray).size ≤ 64) := by show _ ≤ _; rw [sz_str, W1.hex_length, h.c]; decide
  clear h hG
  unfold rV sV at *
  generalize (⟨(Lib.decDigits r.inst).toArray⟩ : ByteArray) = D1 at *
  generalize (⟨(W1.hex r.ms).toArray⟩ : ByteArray) = D2 at *
  generalize (⟨(W1.hex r.ch).toArray⟩ : ByteArray) = D3 at *
  generalize (⟨(tex r).toArray⟩ : ByteArray) = TX at *
  go_enter Tryd.func12, Tryd.ntmps12
  go_wp2_with fail
  refine wp_region_held_drew (S := fun X => RS w [(w.heap.size, 26, rL r)] X) (by kernel_rfl) (((RS.start w).alloc w.heap.size rfl 26 (rL r)).step (Below.refl _ _).drew) (fun hHeld => ?_)
  generalize World.drew _ = V0 at *
  refine wpAnyH_take (i := 0) (oi := { dst := some 3, op := Go.Op.fieldAddr 26 (Go.Operand.tmp 1) 0, type := 0, pos := _, after := #[], guard := none }) (v := .pointer (some ⟨w.heap.size, 0, none⟩)) rfl (by kernel_rfl) (by kernel_rfl) (by kernel_rfl) (fun _ _ _ h => h) (Or.inl ⟨by rfl, fun w' hw' => ?_⟩) hHeld ?_
  · first | (go_simp; done) | (go_simp; rfl)
  try simp only [Act.put, List.setIfInBounds_toArray, List.set_cons_zero, List.set_cons_succ]
  refine wpAnyH_take (i := 1) (oi := { dst := some 4, op := Go.Op.load 22 (Go.Operand.tmp 3), type := 22, pos := _, after := #[{ on := 0, ground := Go.Ground.data }], guard := none }) (v := .int .u64 (r.inst : Int)) rfl (by kernel_rfl) (by kernel_rfl) (by kernel_rfl) (fun _ _ _ h => h) (Or.inl ⟨by rfl, fun w' hw' => ?_⟩) hHeld ?_
  · have hcc := RS.cell hw' 0 rfl 0 HR0; first | (go_simp; done) | (go_simp; rfl)
  try simp only [Act.put, List.setIfInBounds_toArray, List.set_cons_zero, List.set_cons_succ]
  refine wpAnyH_take (i := 5) (oi := { dst := some 8, op := Go.Op.fieldAddr 26 (Go.Operand.tmp 1) 1, type := 0, pos := _, after := #[], guard := none }) (v := .pointer (some ⟨w.heap.size, 1, none⟩)) rfl (by kernel_rfl) (by kernel_rfl) (by kernel_rfl) (fun _ _ _ h => h) (Or.inl ⟨by rfl, fun w' hw' => ?_⟩) hHeld ?_
  · first | (go_simp; done) | (go_simp; rfl)
  try simp only [Act.put, List.setIfInBounds_toArray, List.set_cons_zero, List.set_cons_succ]
  refine wpAnyH_take (i := 6) (oi := { dst := some 9, op := Go.Op.slice 24 (Go.Operand.tmp 8) none none none, type := 28, pos := _, after := #[{ on := 5, ground := Go.Ground.data }], guard := none }) (v := .slice (some ⟨w.heap.size, 1, none⟩) 32 32) rfl (by kernel_rfl) (by kernel_rfl) (by kernel_rfl) (fun _ _ _ h => h) (Or.inl ⟨by rfl, fun w' hw' => ?_⟩) hHeld ?_
  · first | (go_simp; done) | (go_simp; rfl)
  try simp only [Act.put, List.setIfInBounds_toArray, List.set_cons_zero, List.set_cons_succ]
  refine wpAnyH_take (i := 10) (oi := { dst := some 13, op := Go.Op.fieldAddr 26 (Go.Operand.tmp 1) 2, type := 0, pos := _, after := #[], guard := none }) (v := .pointer (some ⟨w.heap.size, 33, none⟩)) rfl (by kernel_rfl) (by kernel_rfl) (by kernel_rfl) (fun _ _ _ h => h) (Or.inl ⟨by rfl, fun w' hw' => ?_⟩) hHeld ?_
  · first | (go_simp; done) | (go_simp; rfl)
  try simp only [Act.put, List.setIfInBounds_toArray, List.set_cons_zero, List.set_cons_succ]
  refine wpAnyH_take (i := 11) (oi := { dst := some 14, op := Go.Op.slice 24 (Go.Operand.tmp 13) none none none, type := 28, pos := _, after := #[{ on := 10, ground := Go.Ground.data }], guard := none }) (v := .slice (some ⟨w.heap.size, 33, none⟩) 32 32) rfl (by kernel_rfl) (by kernel_rfl) (by kernel_rfl) (fun _ _ _ h => h) (Or.inl ⟨by rfl, fun w' hw' => ?_⟩) hHeld ?_
  · first | (go_simp; done) | (go_simp; rfl)
  try simp only [Act.put, List.setIfInBounds_toArray, List.set_cons_zero, List.set_cons_succ]
  refine wpAnyH_ready (rs := [2]) (by kernel_rfl) (by simp) ?_
  refine AllReadyH.cons (o := { dst := some 5, op := Go.Op.call { callee := Go.Callee.value (Go.Operand.func 26), args := #[Go.Operand.tmp 4, Go.Operand.const (Go.Value.int Go.IntKind.i64 10)], argTypes := #[22, 3] }, type := 9, pos := _, after := #[{ on := 1, ground := Go.Ground.data }], guard := none }) rfl (fun K hK => ?_) AllReadyH.nil
  rw [if_pos (by rfl)]
  go_wp2_with fail
  refine Calls.mono (HFM.out _ hHeld.bel) ?_
  rintro e V1 ⟨rfl, hb⟩
  replace hHeld := RS.step hHeld hb
  clear hb
  refine hK.out _ _ hHeld (fun _ => ?_)
  clear hK K
  try simp only [Act.put, List.setIfInBounds_toArray, List.set_cons_zero, List.set_cons_succ]
  refine wpAnyH_take (i := 3) (oi := { dst := some 6, op := Go.Op.binOp Go.BinOp.add 9 (Go.Operand.const (Go.Value.string { data := #[105, 110, 115, 116, 97, 110, 99, 101, 32] })) (Go.Operand.tmp 5) 9, type := 9, pos := _, after := #[{ on := 2, ground := Go.Ground.data }], guard := none }) (v := .string (tA ++ D1)) rfl (by kernel_rfl) (by kernel_rfl) (by kernel_rfl) (fun _ _ _ h => h) (Or.inl ⟨by rfl, fun w' hw' => ?_⟩) hHeld ?_
  · have q1 := HS1.out; have q2 := HS2.out; have q3 := HS3.out; (go_simp; omega)
  try simp only [Act.put, List.setIfInBounds_toArray, List.set_cons_zero, List.set_cons_succ]
  refine wpAnyH_take (i := 4) (oi := { dst := some 7, op := Go.Op.binOp Go.BinOp.add 9 (Go.Operand.tmp 6) (Go.Operand.const (Go.Value.string { data := #[32, 109, 101, 97, 115, 117, 114, 101, 32] })) 9, type := 9, pos := _, after := #[{ on := 3, ground := Go.Ground.data }], guard := none }) (v := .string (tA ++ D1 ++ tB)) rfl (by kernel_rfl) (by kernel_rfl) (by kernel_rfl) (fun _ _ _ h => h) (Or.inl ⟨by rfl, fun w' hw' => ?_⟩) hHeld ?_
  · have q1 := HS1.out; have q2 := HS2.out; have q3 := HS3.out; (go_simp; omega)
  try simp only [Act.put, List.setIfInBounds_toArray, List.set_cons_zero, List.set_cons_succ]
  refine wpAnyH_ready (rs := [7]) (by kernel_rfl) (by simp) ?_
  refine AllReadyH.cons (o := { dst := some 10, op := Go.Op.call { callee := Go.Callee.value (Go.Operand.func 29), args := #[Go.Operand.tmp 9], argTypes := #[28] }, type := 9, pos := _, after := #[{ on := 6, ground := Go.Ground.data }, { on := 2, ground := Go.Ground.chain }], guard := none }) rfl (fun K hK => ?_) AllReadyH.nil
  rw [if_pos (by rfl)]
  go_wp2_with fail
  refine Calls.mono (HHM.out _ (hHeld.at 0 rfl)) ?_
  rintro e V2 ⟨rfl, hb⟩
  replace hHeld := RS.step hHeld hb
  clear hb
  refine hK.out _ _ hHeld (fun _ => ?_)
  clear hK K
  try simp only [Act.put, List.setIfInBounds_toArray, List.set_cons_zero, List.set_cons_succ]
  refine wpAnyH_take (i := 8) (oi := { dst := some 11, op := Go.Op.binOp Go.BinOp.add 9 (Go.Operand.tmp 7) (Go.Operand.tmp 10) 9, type := 9, pos := _, after := #[{ on := 4, ground := Go.Ground.data }, { on := 7, ground := Go.Ground.data }], guard := none }) (v := .string (tA ++ D1 ++ tB ++ D2)) rfl (by kernel_rfl) (by kernel_rfl) (by kernel_rfl) (fun _ _ _ h => h) (Or.inl ⟨by rfl, fun w' hw' => ?_⟩) hHeld ?_
  · have q1 := HS1.out; have q2 := HS2.out; have q3 := HS3.out; (go_simp; omega)
  try simp only [Act.put, List.setIfInBounds_toArray, List.set_cons_zero, List.set_cons_succ]
  refine wpAnyH_take (i := 9) (oi := { dst := some 12, op := Go.Op.binOp Go.BinOp.add 9 (Go.Operand.tmp 11) (Go.Operand.const (Go.Value.string { data := #[32, 99, 104, 97, 108, 108, 101, 110, 103, 101, 32] })) 9, type := 9, pos := _, after := #[{ on := 8, ground := Go.Ground.data }], guard := none }) (v := .string (tA ++ D1 ++ tB ++ D2 ++ tC)) rfl (by kernel_rfl) (by kernel_rfl) (by kernel_rfl) (fun _ _ _ h => h) (Or.inl ⟨by rfl, fun w' hw' => ?_⟩) hHeld ?_
  · have q1 := HS1.out; have q2 := HS2.out; have q3 := HS3.out; (go_simp; omega)
  try simp only [Act.put, List.setIfInBounds_toArray, List.set_cons_zero, List.set_cons_succ]
  refine wpAnyH_ready (rs := [12]) (by kernel_rfl) (by simp) ?_
  refine AllReadyH.cons (o := { dst := some 15, op := Go.Op.call { callee := Go.Callee.value (Go.Operand.func 29), args := #[Go.Operand.tmp 14], argTypes := #[28] }, type := 9, pos := _, after := #[{ on := 11, ground := Go.Ground.data }, { on := 7, ground := Go.Ground.chain }], guard := none }) rfl (fun K hK => ?_) AllReadyH.nil
  rw [if_pos (by rfl)]
  go_wp2_with fail
  refine Calls.mono (HHC.out _ (hHeld.at 0 rfl)) ?_
  rintro e V3 ⟨rfl, hb⟩
  replace hHeld := RS.step hHeld hb
  clear hb
  refine hK.out _ _ hHeld (fun _ => ?_)
  clear hK K
  try simp only [Act.put, List.setIfInBounds_toArray, List.set_cons_zero, List.set_cons_succ]
  refine wpAnyH_take (i := 13) (oi := { dst := some 16, op := Go.Op.binOp Go.BinOp.add 9 (Go.Operand.tmp 12) (Go.Operand.tmp 15) 9, type := 9, pos := _, after := #[{ on := 9, ground := Go.Ground.data }, { on := 12, ground := Go.Ground.data }], guard := none }) (v := .string (tA ++ D1 ++ tB ++ D2 ++ tC ++ D3)) rfl (by kernel_rfl) (by kernel_rfl) (by kernel_rfl) (fun _ _ _ h => h) (Or.inl ⟨by rfl, fun w' hw' => ?_⟩) hHeld ?_
  · have q1 := HS1.out; have q2 := HS2.out; have q3 := HS3.out; (go_simp; omega)
  try simp only [Act.put, List.setIfInBounds_toArray, List.set_cons_zero, List.set_cons_succ]
  refine wpAnyH_take (i := 14) (oi := { dst := some 2, op := Go.Op.assign (Go.Operand.tmp 16), type := 9, pos := _, after := #[{ on := 13, ground := Go.Ground.data }, { on := 12, ground := Go.Ground.chain }, { on := 0, ground := Go.Ground.phase }, { on := 1, ground := Go.Ground.phase }, { on := 2, ground := Go.Ground.phase }, { on := 3, ground := Go.Ground.phase }, { on := 4, ground := Go.Ground.phase }, { on := 5, ground := Go.Ground.phase }, { on := 6, ground := Go.Ground.phase }, { on := 7, ground := Go.Ground.phase }, { on := 8, ground := Go.Ground.phase }, { on := 9, ground := Go.Ground.phase }, { on := 10, ground := Go.Ground.phase }, { on := 11, ground := Go.Ground.phase }, { on := 12, ground := Go.Ground.phase }, { on := 13, ground := Go.Ground.phase }], guard := none }) (v := .string (tA ++ D1 ++ tB ++ D2 ++ tC ++ D3)) rfl (by kernel_rfl) (by kernel_rfl) (by kernel_rfl) (fun _ _ _ h => h) (Or.inl ⟨by rfl, fun w' hw' => ?_⟩) hHeld ?_
  · first | (go_simp; done) | (go_simp; rfl)
  try simp only [Act.put, List.setIfInBounds_toArray, List.set_cons_zero, List.set_cons_succ]
  refine wpAnyH_done (by kernel_rfl) ?_ _
  have HBZ : Hid _ := hHeld.bel
  go_wp2
  go_ret
  exact ⟨by rw [HTX.out]; rfl, HBZ.out⟩
end Go.Proofs.YtpklboicgjpmeaaDoor.RB
