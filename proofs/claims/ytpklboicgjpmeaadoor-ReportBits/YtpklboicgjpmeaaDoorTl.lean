/- report: what is told of bytes, by the program and by the document. -/
import Derived.Test.YtpklboicgjpmeaaDoorTj
set_option linter.unusedVariables false
set_option linter.unusedSimpArgs false
namespace Go.Proofs.YtpklboicgjpmeaaDoor.RB
open Go.RowKit

theorem zero_rp (W : World) : (zeroValue 26).run Tryd.prog W = .ok (.agg (rL r0).toArray) W := by kernel_rfl
theorem build_rp (W : World) : (Instr.build 26 #[]).run Tryd.prog W = .ok (.agg (rL r0).toArray) W := by kernel_rfl
theorem build_rp1 (n : Int) (W : World) : (Instr.build 26 #[(0, .int .u64 n)]).run Tryd.prog W = .ok (.agg (Value.int .u64 n :: (Z32.map B8 ++ Z32.map B8)).toArray) W := by kernel_rfl
theorem br_len {l : List UInt8} (h : l.length ≠ 80) : BR l r0 false := .inr ⟨rfl, rfl, fun q hq e => h (by rw [← e]; exact byt_len hq)⟩
theorem br_yes {l : List UInt8} (h : l.length = 80) (he : byt (rdB l) = l) : BR l (rdB l) true := .inl ⟨rdB_ok h, he, rfl⟩
theorem br_no {l : List UInt8} (h : l.length = 80) (he : byt (rdB l) ≠ l) : BR l r0 false := .inr ⟨rfl, rfl, fun q hq e => he (by rw [← e, rdB_byt hq])⟩
theorem hb_part {X : World} {g o cap k s n c : Nat} {l : List UInt8} (h : HB X (.slice (some ⟨g, o, none⟩) n cap) l) (hn : l.length = 80) (hk : k + s ≤ 80) (h0 : 0 < s) (hc : cap - k = c) : HB X (.slice (some ⟨g, o + k, none⟩) s c) ((l.drop k).take s) := by
  rcases h with ⟨rfl, _⟩ | ⟨b, o', cap', e, h1, h2, hcl⟩
  · simp at hn
  · obtain ⟨rfl, rfl, rfl, rfl⟩ : b = g ∧ o' = o ∧ l.length = n ∧ cap' = cap := by simp_all
    refine .inr ⟨b, o' + k, c, ?_, by simp; omega, by omega, fun i hi => ?_⟩
    · congr 1; simp; omega
    · have hi' : i < s := by simp at hi; omega
      have := hcl (k + i) (by omega)
      rw [show o' + k + i = o' + (k + i) by omega, this]
      congr 3
      rw [List.getD_eq_getElem?_getD, List.getD_eq_getElem?_getD, List.getElem?_take_of_lt hi', List.getElem?_drop]
theorem spl_m {i : Nat} {a c m : List UInt8} (ha : a.length = 32) (hm : m.length = 32) : splice (rL ⟨i, a, c⟩) 1 (m.map B8) = rL ⟨i, m, c⟩ := by
  unfold splice rL
  simp only [List.take_succ_cons, List.take_zero, List.length_map, hm, List.cons_append, List.nil_append]
  rw [show 1 + 32 = 32 + 1 from rfl, List.drop_succ_cons, List.drop_append_of_le_length (by simp [ha]), List.drop_of_length_le (by simp [ha]), List.nil_append]
theorem spl_c {i : Nat} {a c m : List UInt8} (ha : a.length = 32) (hc : c.length = 32) (hm : m.length = 32) : splice (rL ⟨i, a, c⟩) 33 (m.map B8) = rL ⟨i, a, m⟩ := by
  unfold splice rL
  simp only [List.length_map, hm]
  rw [show (33 : Nat) = 32 + 1 from rfl, List.take_succ_cons, show 32 + 1 + 32 = 64 + 1 from rfl, List.drop_succ_cons, List.take_append_of_le_length (by simp [ha]), List.take_of_length_le (by simp [ha]), List.drop_of_length_le (by simp [ha, hc]), List.append_nil]
  simp
/-- The rows while a report is taken. -/
def tkR (n gb o cap k : Nat) (L Z : List Value) : List (Nat × TypeId × List Value) := [(n + 3, 3, [.int .i64 (k : Int)]), (n + 2, 28, [.slice (some ⟨gb, o, none⟩) 80 cap]), (n + 1, 26, L), (n, 26, Z)]
theorem take_rs {w X : World} {n gb o cap k : Nat} {L Z : List Value} (h : RS w (tkR n gb o cap k L Z) X) (size k' : Nat) (hcap : 80 ≤ cap) (hfit : k + size ≤ 80) (h0 : 0 < size) (hk : k + size = k') :
    Calls Tryd.prog 45 #[.int .i64 (size : Int), pB (n + 2), pB (n + 3)] X fun e X' => e = .returned (.slice (some ⟨gb, o + k, none⟩) size (cap - k)) ∧ RS w (tkR n gb o cap k' L Z) X' := by
  refine Calls.mono (take_any (n + 2) (n + 3) gb o cap k size X (h.at 1 rfl) (h.at 0 rfl) hcap hfit h0) ?_
  rintro e X' ⟨rfl, rfl⟩
  refine ⟨rfl, ?_⟩
  have h1 := h.poke 0 rfl 0 (.int .i64 ((k : Int) + (size : Int))) rfl
  subst hk
  have e : ((k : Int) + (size : Int)) = ((k + size : Nat) : Int) := by omega
  rw [e] at h1 ⊢
  exact h1
set_option maxHeartbeats 2000000 in
set_option maxRecDepth 100000 in
theorem pof_any (v : Value) (l : List UInt8) (w : World) (hv : HB w v l) : Calls Tryd.prog 16 #[v] w fun e w' => ∃ r b, e = .returned (.tuple #[rV r, .int .i64 (if b = true then 0 else 4)]) ∧ BR l r b ∧ Below w.heap.size w w' := by
  have hz := zero_rp
  have HBD : Hid _ := build_rp
  have HI0 : Hid _ := infR r0_ok
  have HI0A : Hid _ := infRA r0_ok
  have H01 : Hid _ := rL_one r0
  have HR : Hid _ := (RS.start w).alloc _ rfl 26 (rL r0)
  have HF0 : Hid (∀ {X : World} {b : Bool}, BR l r0 b → Below w.heap.size w X → ∃ r b', (Ending.returned (.tuple #[.agg (rL r0).toArray, .int .i64 (if b = true then 0 else 4)]) : Ending) = .returned (.tuple #[rV r, .int .i64 (if b' = true then 0 else 4)]) ∧ BR l r b' ∧ Below w.heap.size w X) := fun h1 h2 => ⟨r0, _, rfl, h1, h2⟩
  by_cases hl : l.length = 80
  · have hnz : v ≠ .slice none 0 0 := by
      rintro rfl
      rcases hv with ⟨rfl, _⟩ | ⟨b, o, cap, e, _⟩
      · simp at hl
      · simp at e
    obtain ⟨gb, o, cap, rfl, hcap⟩ : ∃ gb o cap, v = .slice (some ⟨gb, o, none⟩) 80 cap ∧ 80 ≤ cap := by
      rcases hv with ⟨rfl, _⟩ | ⟨b, o, cap, e, h1, _⟩
      · simp at hl
      · exact ⟨b, o, cap, by rw [e, hl], by omega⟩
    have HV : Hid _ := hv
    have HW8 : Hid (∀ X, Below w.heap.size w X → Calls Tryd.prog 31 #[.slice (some ⟨gb, o + 8, none⟩) 8 (cap - 8), .int .i64 0] X fun e w' => e = .returned (.int .u64 ((rdB l).inst : Int)) ∧ X = w') := fun X hb => word8 gb (o + 8) (cap - 8) ((l.drop 8).take 8) X (by simp [hl]) (by omega) (hb_part (hv.below hb) hl (by decide) (by decide) rfl)
    have HMS : Hid (∀ X, Below w.heap.size w X → ∀ j u, ((rdB l).ms.map B8)[j]? = some u → X.cell? ((⟨gb, o + 16, none⟩ : Addr).add j) = some u) := fun X hb => by
      obtain ⟨p, c, e, _, h2⟩ := hb_cells (hb_part (k := 16) (s := 32) (hv.below hb) hl (by decide) (by decide) rfl)
      exact h2 _ (by injection e with e1 _ _; exact e1.symm)
    have HCS : Hid (∀ X, Below w.heap.size w X → ∀ j u, ((rdB l).ch.map B8)[j]? = some u → X.cell? ((⟨gb, o + 48, none⟩ : Addr).add j) = some u) := fun X hb => by
      obtain ⟨p, c, e, _, h2⟩ := hb_cells (hb_part (k := 48) (s := 32) (hv.below hb) hl (by decide) (by decide) rfl)
      have e3 : (l.drop 48).take 32 = (rdB l).ch := rfl
      exact h2 _ (by injection e with e1 _ _; exact e1.symm)
    have HOK : Hid (rdB l).ok := rdB_ok hl
    have HCAP : Hid (80 ≤ cap) := hcap
    have HRB : Hid _ := HR.out.alloc (w.heap.size + 1) (by simp) 26 (rL r0)
    have HPB : Hid _ := fun W => pbytes_any (rdB l) (rdB_ok hl) W
    have HYES : Hid (byt (rdB l) = l → BR l (rdB l) true) := br_yes hl
    have HNO : Hid (byt (rdB l) ≠ l → BR l r0 false) := br_no hl
    clear hv hnz hl
    go_enter Tryd.func16, Tryd.ntmps16
    go_wp2_with fail
    refine Calls.mono (tkr_any (some ⟨gb, o, none⟩) 80 cap _) ?_
    rintro e w1 ⟨rfl, hw1⟩
    have hR : RS w (tkR w.heap.size gb o cap 0 (rL r0) (rL r0)) w1 := by
      subst hw1
      exact (HRB.out.alloc (w.heap.size + 2) (by simp) _ _).alloc (w.heap.size + 3) (by simp) _ _
    have HR1 : Hid _ := hR
    clear hR hw1 HR HRB
    go_wp2_with fail
    refine Calls.mono (take_rs HR1.out 8 8 HCAP.out (by decide) (by decide) rfl) ?_
    rintro e w2 ⟨rfl, hR⟩
    have HR2 : Hid _ := hR
    clear hR HR1
    go_wp2_with fail
    refine Calls.mono (take_rs HR2.out 8 16 HCAP.out (by decide) (by decide) rfl) ?_
    rintro e w3 ⟨rfl, hR⟩
    have hc3 := hR.cell 2 rfl 0 (v := .int .u64 0) rfl
    have hf3 := frozen_of_row _ _ 0 _ _ (hR.at 2 rfl)
    have HR3 : Hid _ := hR
    clear hR HR2
    go_wp2_with fail
    refine Calls.mono (HW8.out _ HR3.out.bel) ?_
    rintro e w4 ⟨rfl, rfl⟩
    have HR4 : Hid (RS w (tkR w.heap.size gb o cap 16 (rL ⟨(rdB l).inst, Z32, Z32⟩) (rL r0)) (w3.setCell ⟨w.heap.size + 1, 0, none⟩ (.int .u64 ((rdB l).inst : Int)))) := HR3.out.poke 2 rfl 0 _ rfl
    clear HR3 HW8
    go_wp2_with fail
    generalize w3.setCell _ _ = w5 at *
    have hsd1 := fun W => slice_dg W (w.heap.size + 1) 1
    have hsd2 := fun W => slice_dg W (w.heap.size + 1) 33
    obtain ⟨rqms, hqm⟩ : ∃ r : Rp, r = ⟨(rdB l).inst, (rdB l).ms, Z32⟩ := ⟨_, rfl⟩
    obtain ⟨rqch, hqc⟩ : ∃ r : Rp, r = rdB l := ⟨_, rfl⟩
    have HQC : Hid _ := hqc
    have HLNms : Hid ((rL ⟨(rdB l).inst, Z32, Z32⟩).length = 65) := rfl
    have HSPms : Hid (splice (rL ⟨(rdB l).inst, Z32, Z32⟩) 1 ((rdB l).ms.map B8) = rL rqms) := by rw [hqm]; exact spl_m rfl HOK.out.m
    have HLNch : Hid ((rL rqms).length = 65) := by show _ = _; rw [hqm]; simp [rL, HOK.out.m, Z32]
    have HSPch : Hid (splice (rL rqms) 33 ((rdB l).ch.map B8) = rL rqch) := by rw [hqm, hqc]; exact spl_c HOK.out.m rfl HOK.out.c
    clear hqm hqc
    clear hc3 hf3
    refine wp_region_held_drew (S := fun _ => True) (by kernel_rfl) trivial (fun hHeld => ?_)
    have HRA : Hid _ := HR4.out.step (Below.refl _ _).drew
    clear HR4
    generalize World.drew _ = V0 at *
    refine wpAnyH_take (i := 0) (oi := { dst := some 18, op := Go.Op.fieldAddr 26 (Go.Operand.tmp 4) 1, type := 0, pos := _, after := #[], guard := none }) (v := .pointer (some ⟨w.heap.size + 1, 1, none⟩)) rfl (by kernel_rfl) (by kernel_rfl) (by kernel_rfl) (fun _ _ _ h => h) (Or.inl ⟨by rfl, fun w' hw' => ?_⟩) hHeld ?_
    · first | (go_simp; done) | (go_simp; rfl)
    try simp only [Act.put, List.setIfInBounds_toArray, List.set_cons_zero, List.set_cons_succ]
    refine wpAnyH_take (i := 1) (oi := { dst := some 19, op := Go.Op.slice 24 (Go.Operand.tmp 18) none none none, type := 28, pos := _, after := #[{ on := 0, ground := Go.Ground.data }], guard := none }) (v := .slice (some ⟨w.heap.size + 1, 1, none⟩) 32 32) rfl (by kernel_rfl) (by kernel_rfl) (by kernel_rfl) (fun _ _ _ h => h) (Or.inl ⟨by rfl, fun w' hw' => ?_⟩) hHeld ?_
    · first | (go_simp; done) | (go_simp; rfl)
    try simp only [Act.put, List.setIfInBounds_toArray, List.set_cons_zero, List.set_cons_succ]
    refine wpAnyH_take (i := 2) (oi := { dst := some 20, op := Go.Op.move (Go.Operand.tmp 5), type := 57, pos := _, after := #[], guard := none }) (v := .func (.func 45) #[] #[pB (w.heap.size + 1 + 1), pB (w.heap.size + 1 + 1 + 1)]) rfl (by kernel_rfl) (by kernel_rfl) (by kernel_rfl) (fun _ _ _ h => h) (Or.inl ⟨by rfl, fun w' hw' => ?_⟩) hHeld ?_
    · first | (go_simp; done) | (go_simp; rfl)
    try simp only [Act.put, List.setIfInBounds_toArray, List.set_cons_zero, List.set_cons_succ]
    refine wpAnyH_ready (rs := [3]) (by kernel_rfl) (by simp) ?_
    refine AllReadyH.cons (o := { dst := some 21, op := Go.Op.call { callee := Go.Callee.value (Go.Operand.tmp 20), args := #[Go.Operand.const (Go.Value.int Go.IntKind.i64 32)], argTypes := #[3] }, type := 28, pos := _, after := #[{ on := 2, ground := Go.Ground.data }], guard := none }) rfl (fun K hK => ?_) AllReadyH.nil
    rw [if_pos (by rfl)]
    go_wp2_with fail
    refine Calls.mono (take_rs HRA.out 32 48 HCAP.out (by decide) (by decide) rfl) ?_
    rintro e V1 ⟨rfl, hR⟩
    have HRB : Hid _ := hR
    clear hR HRA
    refine hK.out _ _ trivial (fun _ => ?_)
    clear hK K
    try simp only [Act.put, List.setIfInBounds_toArray, List.set_cons_zero, List.set_cons_succ]
    refine wpAnyH_ready (rs := [4]) (by kernel_rfl) (by simp) ?_
    refine AllReadyH.cons (o := { dst := some 22, op := Go.Op.call { callee := Go.Callee.builtin Go.Builtin.copy, args := #[Go.Operand.tmp 19, Go.Operand.tmp 21], argTypes := #[28, 28] }, type := 3, pos := _, after := #[{ on := 1, ground := Go.Ground.data }, { on := 3, ground := Go.Ground.data }, { on := 3, ground := Go.Ground.chain }], guard := none }) rfl (fun K hK => ?_) AllReadyH.nil
    rw [if_pos (by rfl)]
    refine wp_copy_seg (.tmp 19) (.tmp 21) rfl (w.heap.size + 1) 1 32 32 (some ⟨gb, o + 16, none⟩) 32 (cap - 16) rfl rfl _ 26 (HRB.out.at 2 rfl) ((rdB l).ms.map B8) (by rw [List.length_map, HOK.out.m]; rfl) (fun _ => ⟨_, rfl, HMS.out _ HRB.out.bel⟩) (by rw [List.length_map, HOK.out.m, HLNms.out]; decide) (B8_one _) ?_
    have hRC := HRB.out.put 2 rfl (rL rqms)
    rw [HSPms.out]
    have HR4 : Hid (RS w (tkR w.heap.size gb o cap 48 (rL rqms) (rL r0)) (V1.setRow (w.heap.size + 1) (rL rqms).toArray)) := hRC
    clear hRC HRB
    generalize V1.setRow (w.heap.size + 1) _ = V2 at *
    refine hK.out _ _ trivial (fun _ => ?_)
    clear hK K
    try simp only [Act.put, List.setIfInBounds_toArray, List.set_cons_zero, List.set_cons_succ]
    refine wpAnyH_done (by kernel_rfl) ?_ _
    clear hHeld
    go_wp2_with fail
    refine wp_region_held_drew (S := fun _ => True) (by kernel_rfl) trivial (fun hHeld => ?_)
    have HRA : Hid _ := HR4.out.step (Below.refl _ _).drew
    clear HR4
    generalize World.drew _ = V0 at *
    refine wpAnyH_take (i := 0) (oi := { dst := some 23, op := Go.Op.fieldAddr 26 (Go.Operand.tmp 4) 2, type := 0, pos := _, after := #[], guard := none }) (v := .pointer (some ⟨w.heap.size + 1, 33, none⟩)) rfl (by kernel_rfl) (by kernel_rfl) (by kernel_rfl) (fun _ _ _ h => h) (Or.inl ⟨by rfl, fun w' hw' => ?_⟩) hHeld ?_
    · first | (go_simp; done) | (go_simp; rfl)
    try simp only [Act.put, List.setIfInBounds_toArray, List.set_cons_zero, List.set_cons_succ]
    refine wpAnyH_take (i := 1) (oi := { dst := some 24, op := Go.Op.slice 24 (Go.Operand.tmp 23) none none none, type := 28, pos := _, after := #[{ on := 0, ground := Go.Ground.data }], guard := none }) (v := .slice (some ⟨w.heap.size + 1, 33, none⟩) 32 32) rfl (by kernel_rfl) (by kernel_rfl) (by kernel_rfl) (fun _ _ _ h => h) (Or.inl ⟨by rfl, fun w' hw' => ?_⟩) hHeld ?_
    · first | (go_simp; done) | (go_simp; rfl)
    try simp only [Act.put, List.setIfInBounds_toArray, List.set_cons_zero, List.set_cons_succ]
    refine wpAnyH_take (i := 2) (oi := { dst := some 25, op := Go.Op.move (Go.Operand.tmp 5), type := 57, pos := _, after := #[], guard := none }) (v := .func (.func 45) #[] #[pB (w.heap.size + 1 + 1), pB (w.heap.size + 1 + 1 + 1)]) rfl (by kernel_rfl) (by kernel_rfl) (by kernel_rfl) (fun _ _ _ h => h) (Or.inl ⟨by rfl, fun w' hw' => ?_⟩) hHeld ?_
    · first | (go_simp; done) | (go_simp; rfl)
    try simp only [Act.put, List.setIfInBounds_toArray, List.set_cons_zero, List.set_cons_succ]
    refine wpAnyH_ready (rs := [3]) (by kernel_rfl) (by simp) ?_
    refine AllReadyH.cons (o := { dst := some 26, op := Go.Op.call { callee := Go.Callee.value (Go.Operand.tmp 25), args := #[Go.Operand.const (Go.Value.int Go.IntKind.i64 32)], argTypes := #[3] }, type := 28, pos := _, after := #[{ on := 2, ground := Go.Ground.data }], guard := none }) rfl (fun K hK => ?_) AllReadyH.nil
    rw [if_pos (by rfl)]
    go_wp2_with fail
    refine Calls.mono (take_rs HRA.out 32 80 HCAP.out (by decide) (by decide) rfl) ?_
    rintro e V1 ⟨rfl, hR⟩
    have HRB : Hid _ := hR
    clear hR HRA
    refine hK.out _ _ trivial (fun _ => ?_)
    clear hK K
    try simp only [Act.put, List.setIfInBounds_toArray, List.set_cons_zero, List.set_cons_succ]
    refine wpAnyH_ready (rs := [4]) (by kernel_rfl) (by simp) ?_
    refine AllReadyH.cons (o := { dst := some 27, op := Go.Op.call { callee := Go.Callee.builtin Go.Builtin.copy, args := #[Go.Operand.tmp 24, Go.Operand.tmp 26], argTypes := #[28, 28] }, type := 3, pos := _, after := #[{ on := 1, ground := Go.Ground.data }, { on := 3, ground := Go.Ground.data }, { on := 3, ground := Go.Ground.chain }], guard := none }) rfl (fun K hK => ?_) AllReadyH.nil
    rw [if_pos (by rfl)]
    refine wp_copy_seg (.tmp 24) (.tmp 26) rfl (w.heap.size + 1) 33 32 32 (some ⟨gb, o + 48, none⟩) 32 (cap - 48) rfl rfl _ 26 (HRB.out.at 2 rfl) ((rdB l).ch.map B8) (by rw [List.length_map, HOK.out.c]; rfl) (fun _ => ⟨_, rfl, HCS.out _ HRB.out.bel⟩) (by rw [List.length_map, HOK.out.c, HLNch.out]; decide) (B8_one _) ?_
    have hRC := HRB.out.put 2 rfl (rL rqch)
    rw [HSPch.out]
    have HR4 : Hid (RS w (tkR w.heap.size gb o cap 80 (rL rqch) (rL r0)) (V1.setRow (w.heap.size + 1) (rL rqch).toArray)) := hRC
    clear hRC HRB
    generalize V1.setRow (w.heap.size + 1) _ = V2 at *
    refine hK.out _ _ trivial (fun _ => ?_)
    clear hK K
    try simp only [Act.put, List.setIfInBounds_toArray, List.set_cons_zero, List.set_cons_succ]
    refine wpAnyH_done (by kernel_rfl) ?_ _
    clear hHeld
    have eq := HQC.out
    subst eq
    clear hsd1 hsd2 HSPms HSPch HLNms HLNch HMS HCS HQC
    have HIR : Hid _ := infR HOK.out
    have HIRA : Hid _ := infRA HOK.out
    go_wp2_with (refine wpList_load_mid rfl 26 (.tmp 4) rfl (w.heap.size + 1) 0 rfl (rL (rdB l)) _ (rangeAt_row (HR4.out.at 2 rfl)) Tryd.underlying26 rfl HIR.out ?_)
    refine Calls.mono (HPB.out _) ?_
    rintro e w6 ⟨g, rfl, hg, hb, hrow⟩
    have HR5 : Hid _ := HR4.out.step hb
    have HSM : Hid _ := psame_any (.slice (some ⟨g, 0, none⟩) 80 80) (.slice (some ⟨gb, o, none⟩) 80 cap) (byt (rdB l)) l w6 (hb_range 80 (byt_len HOK.out).symm (by rw [byt_len HOK.out]; exact Nat.le_refl _) (by decide) (rangeAt_row hrow)) (HB.below HV.out HR5.out.bel)
    clear hg hb hrow HR4 HPB HV
    go_wp2_with fail
    refine Calls.mono HSM.out ?_
    rintro e w7 ⟨rfl, rfl⟩
    clear HSM
    by_cases he : byt (rdB l) = l
    · have HBR : Hid (BR l (rdB l) true) := HYES.out he
      rw [decide_eq_true he]
      clear he HYES HNO
      have HRL : Hid _ := rL_one (rdB l)
      have HLL : Hid _ := rL_len HOK.out
      generalize rdB l = R at *
      go_wp2_with (first
        | (refine wpList_load_mid rfl 26 (.tmp 4) rfl (w.heap.size + 1) 0 rfl (rL R) _ (rangeAt_row (HR5.out.at 2 rfl)) Tryd.underlying26 rfl HIR.out ?_)
        | (refine wpList_store_row rfl 26 (.tmp 2) (.tmp 34) rfl w.heap.size (rL R).toArray rfl rfl 26 (rL r0).toArray (HR5.out.at 3 rfl) HIRA.out (by rw [List.size_toArray, List.size_toArray, HLL.out]; rfl) HRL.out ?_))
      have R8 := HR5.out.put 3 rfl (rL R)
      refine bodyPost_ret (v := .tuple #[.agg (rL R).toArray, .int .i64 0]) (results2 Tryd.results16 _ _ w.heap.size _ (rL R) _ _ rfl rfl (R8.at 3 rfl) Tryd.underlying26 rfl HIR.out) rfl ⟨R, true, rfl, HBR.out, R8.bel⟩
    · have HBR : Hid (BR l r0 false) := HNO.out he
      rw [decide_eq_false he]
      clear he HYES HNO
      go_wp2_with (first
        | (refine build_g (by rfl) 26 #[] rfl #[] (.agg (rL r0).toArray) (by simp [Act.eval]) (HBD.out _) ?_)
        | (refine wpList_store_row rfl 26 (.tmp 2) (.tmp 33) rfl w.heap.size (rL r0).toArray rfl rfl 26 (rL r0).toArray (HR5.out.at 3 rfl) HI0A.out rfl H01.out ?_))
      have R8 := HR5.out.put 3 rfl (rL r0)
      refine bodyPost_ret (v := .tuple #[.agg (rL r0).toArray, .int .i64 4]) (results2 Tryd.results16 _ _ w.heap.size _ (rL r0) _ _ rfl rfl (R8.at 3 rfl) Tryd.underlying26 rfl HI0.out) rfl (HF0.out HBR.out R8.bel)
  · obtain ⟨p, cap, rfl, _⟩ := hb_src hv
    have hl2 : (((l.length : Int) != 80)) = true := by rw [bne_iff_ne]; omega
    have HN : Hid (BR l r0 false) := br_len hl
    clear hv hl
    go_enter Tryd.func16, Tryd.ntmps16
    go_wp2_with (first
      | (refine build_g (by rfl) 26 #[] rfl #[] (.agg (rL r0).toArray) (by simp [Act.eval]) (HBD.out _) ?_)
      | (refine wpList_store_row rfl 26 (.tmp 2) (.tmp 9) rfl w.heap.size (rL r0).toArray rfl rfl 26 (rL r0).toArray (HR.out.at 0 rfl) HI0A.out rfl H01.out ?_))
    have R8 := HR.out.put 0 rfl (rL r0)
    refine bodyPost_ret (v := .tuple #[.agg (rL r0).toArray, .int .i64 4]) (results2 Tryd.results16 _ _ w.heap.size _ (rL r0) _ _ rfl rfl (R8.at 0 rfl) Tryd.underlying26 rfl HI0.out) rfl (HF0.out HN.out R8.bel)
end Go.Proofs.YtpklboicgjpmeaaDoor.RB
