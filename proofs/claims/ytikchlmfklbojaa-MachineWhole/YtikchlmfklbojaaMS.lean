/- machine: contracts of slices.Clone and slices.Equal at granules, Copy, Same, Whole; what is not there. -/
import Derived.Test.YtikchlmfklbojaaMQ
import Derived.Lib.LazyBuf
set_option linter.unusedVariables false
set_option linter.unusedSimpArgs false
namespace Go.Proofs.Ytikchlmfklbojaa.MC
open Go.RowKit

theorem cloneG_nil (w : World) : Calls Try.prog 36 #[.slice none 0 0] w fun e w' => e = .returned (.slice none 0 0) ∧ w = w' := by
  have hnil := fun wx => Lib.run_eql_slice_nil (P := Try.prog) wx 59 45 none 0 0 0 0 Try.underlying59
  go_enter Try.func36, Try.ntmps36
  go_wp2
  go_ret
  exact ⟨rfl, rfl⟩
/-- What Clone hands back. -/
def ClEnd (n : Nat) (l : List UInt8) (w : World) (e : Ending) (w' : World) : Prop := ∃ cb cap, e = .returned (.slice (some ⟨cb, 0, none⟩) n cap) ∧ w'.rangeAt cb 0 (l.map B8) ∧ w.heap.size ≤ cb ∧ n ≤ cap ∧ cap ≤ maxLen ∧ Below w.heap.size w w'
set_option maxHeartbeats 4000000 in
set_option maxRecDepth 100000 in
theorem cloneG_ok (gb n cap : Nat) (l : List UInt8) (w : World) (h : w.rangeAt gb 0 (l.map B8)) (hl : l.length = 128 * n) (h1 : 1 ≤ n) (h4 : n ≤ 4096) :
    Calls Try.prog 36 #[.slice (some ⟨gb, 0, none⟩) n cap] w fun e w' => ClEnd n l w e w' := by
  have hnil := fun wx => Lib.run_eql_slice_nil (P := Try.prog) wx 59 45 (some ⟨gb, 0, none⟩) n cap 0 0 Try.underlying59
  obtain ⟨i0, hi, hz0, hz1, hz2⟩ := info_parts infoGr
  obtain ⟨ZC, hZC⟩ : ∃ V, V = (Z128.map B8).toArray := ⟨_, rfl⟩
  unfold gV at hz0
  rw [← hZC] at hz0
  have HZC : Hid (ZC.size = 128) := by show _ = _; rw [hZC]; simp [Z128]
  clear hZC
  obtain ⟨XS, hXS⟩ : ∃ XS, XS = l.map B8 := ⟨_, rfl⟩
  have HXL : Hid (XS.length = n * 128) := by show _ = _; rw [hXS, List.length_map, hl]; omega
  have HO1 : Hid (∀ u ∈ XS, u.oneCell' = true) := by rw [hXS]; exact B8_one _
  rw [← hXS] at h
  have HN : Hid _ := h
  have HOE : Hid ((w.alloc (.cells #[] 45 (0, 0))).ownsRow w.heap.size 45 128 (.slice (some ⟨w.heap.size, 0, none⟩) 0 0) 0 []) := ⟨rfl, .inr ⟨w.heap.size, 0, #[], rfl, Nat.le_refl _, heap_alloc_new _ _, Nat.le_refl _, by unfold maxLen; omega, rfl, rfl⟩⟩
  have HN' : Hid (∀ j u, XS[j]? = some u → (w.alloc (.cells #[] 45 (0, 0))).cell? ((⟨gb, 0, none⟩ : Addr).add j) = some u) := fun j u hu => by
    rw [add_none]
    exact (Below.cell ((Below.refl _ w).alloc (Nat.le_refl _) _) (block_lt (HN.out j u hu))).trans (HN.out j u hu)
  have HXS : Hid _ := hXS
  clear h hXS hl
  go_enter Try.func36, Try.ntmps36
  go_wp2_with (at_builtin; refine wpList_append_own _ rfl (.tmp 5) (.tmp 6) 59 rfl w.heap.size 45 i0 (.agg ZC) 128 128 Try.underlying59 hi hz0 hz1 hz2 HZC.out (by decide) (.slice (some ⟨w.heap.size, 0, none⟩) 0 0) 0 [] rfl HOE.out ⟨gb, 0, none⟩ n cap XS rfl HXL.out HN'.out HO1.out (by unfold maxLen; omega) (by omega) (by simp) ?_; intro v1 w1 hown1 hgr1 hn1)
  go_ret
  rw [List.nil_append, Nat.zero_add] at hown1
  have hb : Below w.heap.size w w1 := ((Below.refl _ w).alloc (Nat.le_refl _) _).grown hgr1 (by simp) (fun k e => by have e' : w.heap.size = k := (by simpa [Value.ownBlock] using e); omega)
  rcases hown1.2 with ⟨e1, e2⟩ | ⟨g, cp, cur, rfl, e2, e3, e4, e5, e6, e7⟩
  · omega
  · refine ⟨g, cp, rfl, fun j u hu => ?_, e2, e4, e5, hb⟩
    rw [Nat.zero_add, cell_of_row _ _ _ _ _ _ e3, ← Array.getElem?_toList]
    have hj : j < n * 128 := by rw [← HXL.out, HXS.out]; exact (List.getElem?_eq_some_iff.1 hu).1
    rw [← HXS.out, ← e7, List.getElem?_take_of_lt hj] at hu
    exact hu
theorem copy_nil (p : Value) (w : World) (hl : Calls Try.prog 27 #[p] w fun e w' => e = .returned (.slice none 0 0) ∧ w = w') : Calls Try.prog 19 #[p] w fun e w' => e = .returned (.pointer none) ∧ w = w' := by
  have hnn := none_of _ _ _ _ w hl
  rw [show decide ((0 : Nat) = 0) = true from rfl] at hnn
  have HNN : Hid _ := hnn
  clear hnn hl
  go_enter Try.func19, Try.ntmps19
  go_wp2_with fail
  refine Calls.mono HNN.out ?_
  rintro e w1 ⟨rfl, rfl⟩
  go_wp2
  go_ret
  exact ⟨rfl, rfl⟩
def CpEnd (n : Nat) (l : List UInt8) (w : World) (e : Ending) (w' : World) : Prop := ∃ mc cb cap, e = .returned (.pointer (some ⟨mc, 0, none⟩)) ∧ PR w' mc cb n cap l ∧ w.heap.size ≤ mc ∧ w.heap.size ≤ cb ∧ Below w.heap.size w w'
theorem copy_ok (mb gb n cap : Nat) (l : List UInt8) (w : World) (h : PR w mb gb n cap l) : Calls Try.prog 19 #[.pointer (some ⟨mb, 0, none⟩)] w fun e w' => CpEnd n l w e w' := by
  have hnn := none_of _ _ _ _ w (list_at mb _ w h.cell)
  rw [show decide (n = 0) = false by simp; have := h.pos; omega] at hnn
  have HNN : Hid _ := hnn
  have HCL : Hid _ := cloneG_ok gb n cap l w h.row h.len h.pos h.le
  have hc := h.cell
  have HH : Hid _ := h
  clear hnn h
  go_enter Try.func19, Try.ntmps19
  go_wp2_with fail
  refine Calls.mono HNN.out ?_
  rintro e w1 ⟨rfl, rfl⟩
  go_wp2_with fail
  refine Calls.mono HCL.out ?_
  rintro e w1 ⟨cb, cp, rfl, hr, hcb, hcp, hcm, hb⟩
  have HR : Hid _ := hr
  have HB : Hid _ := hb
  clear hr hb
  go_wp2
  go_ret
  have hs := HB.out.size
  refine ⟨w1.heap.size, cb, cp, rfl, ⟨?_, rangeAt_below HR.out ((Below.refl _ _).alloc (Nat.le_refl _) _), HH.out.len, HH.out.pos, HH.out.le, hcp⟩, hs, hcb, HB.out.alloc hs _⟩
  rw [cell_of_row _ _ 0 _ _ _ (heap_alloc_new _ _)]; rfl
theorem write_nil (p : Value) (q : Option Addr) (cap : Nat) (a : Int) (w : World) (hl : Calls Try.prog 27 #[p] w fun e w' => e = .returned (.slice q 0 cap) ∧ w = w') : Calls Try.prog 25 #[p, .int .u64 a, .slice none 0 0] w fun e w' => e = .returned (.int .i64 1) ∧ w = w' := by
  have hnn := none_of _ _ _ _ w hl
  rw [show decide ((0 : Nat) = 0) = true from rfl] at hnn
  have HNN : Hid _ := hnn
  clear hnn hl
  go_enter Try.func25, Try.ntmps25
  go_wp2_with fail
  refine Calls.mono HNN.out ?_
  rintro e w1 ⟨rfl, rfl⟩
  go_wp2
  go_ret
  exact ⟨rfl, rfl⟩
/-- Two lists of granules: where all granules are alike. -/
theorem getB_ext (n : Nat) : ∀ (l1 l2 : List UInt8), l1.length = 128 * n → l2.length = 128 * n → (∀ k, k < n → getB l1 k = getB l2 k) → l1 = l2 := by
  intro l1 l2 h1 h2 h
  apply List.ext_getElem?
  intro i
  by_cases hi : i < 128 * n
  · have hk := h (i / 128) (by omega)
    have e : ∀ l : List UInt8, (getB l (i / 128))[i % 128]? = l[i]? := fun l => by
      unfold getB
      rw [List.getElem?_take_of_lt (Nat.mod_lt _ (by decide)), List.getElem?_drop]
      congr 1; omega
    rw [← e l1, ← e l2, hk]
  · rw [List.getElem?_eq_none (by omega), List.getElem?_eq_none (by omega)]
theorem neq_gr (w : World) (xs ys : List UInt8) (hx : xs.length = 128) (hy : ys.length = 128) (b : Bool) (h : (xs == ys) = b) : (Op.equalIn 10000 45 (.agg (xs.map B8).toArray) (.agg (ys.map B8).toArray)).run Try.prog w = .ok b w := by
  rw [eq_gr w xs ys hx hy, h]
theorem equal_short (p q : Option Addr) (n m c d : Nat) (w : World) (h : n ≠ m) : Calls Try.prog 38 #[.slice p n c, .slice q m d] w fun e w' => e = .returned (.bool false) ∧ w = w' := by
  have hI : ((n : Int) != (m : Int)) = true := by rw [bne_iff_ne]; omega
  clear h
  go_enter Try.func38, Try.ntmps38
  go_wp2
  go_ret
  exact ⟨rfl, rfl⟩
theorem equal_nil (p q : Option Addr) (c d : Nat) (w : World) : Calls Try.prog 38 #[.slice p 0 c, .slice q 0 d] w fun e w' => e = .returned (.bool true) ∧ w = w' := by
  go_enter Try.func38, Try.ntmps38
  go_wp2
  refine wp_loop_rounds 1 ?_
  rw [rounds_succ]
  go_wp2
  go_ret
  exact ⟨rfl, rfl⟩
theorem below_drew (w : World) : Below w.heap.size w w.drew := Below.drew (Below.refl _ _)
set_option maxHeartbeats 2000000 in
theorem equal_ok (b1 b2 n c1 c2 : Nat) (l1 l2 : List UInt8) (w : World) (h1 : w.rangeAt b1 0 (l1.map B8)) (h2 : w.rangeAt b2 0 (l2.map B8)) (hl1 : l1.length = 128 * n) (hl2 : l2.length = 128 * n) (hn : n ≤ 4096) :
    Calls Try.prog 38 #[.slice (some ⟨b1, 0, none⟩) n c1, .slice (some ⟨b2, 0, none⟩) n c2] w fun e w' => e = .returned (.bool (l1 == l2)) ∧ Below w.heap.size w w' := by
  have hI : ((n : Int) != (n : Int)) = false := by simp
  have HR1 : Hid _ := h1
  have HR2 : Hid _ := h2
  have HL1 : Hid _ := hl1
  have HL2 : Hid _ := hl2
  obtain ⟨RES, hRES⟩ : ∃ b, b = (l1 == l2) := ⟨_, rfl⟩
  have HRES : Hid _ := hRES
  rw [← hRES]
  clear h1 h2 hl1 hl2 hRES
  go_enter Try.func38, Try.ntmps38
  go_wp2
  go_loopw [5, 13] (fun _ i wr => ∃ k : Nat, k ≤ n ∧ i = .int .i64 k ∧ Below w.heap.size w wr ∧ Hid (∀ j, j < k → getB l1 j = getB l2 j)) (fun _ i _ => n - (intOf i).toNat)
  case atStart => exact ⟨0, Nat.zero_le _, rfl, Below.refl _ _, fun j hj => absurd hj (Nat.not_lt_zero _)⟩
  case round =>
    obtain ⟨k, hk, rfl, hB, HJ⟩ := hrel
    by_cases hlt : k < n
    · have hg1 := getB_len l1 n k HL1.out hlt
      have hg2 := getB_len l2 n k HL2.out hlt
      have hra1 := rangeAt_part (rangeAt_below HR1.out hB) (128 * k) 128
      have hra2 := rangeAt_part (rangeAt_below HR2.out hB) (128 * k) 128
      rw [getB_map, Nat.zero_add, Nat.mul_comm] at hra1 hra2
      obtain ⟨bq, hbq⟩ : ∃ b, (getB l1 k == getB l2 k) = b := ⟨_, rfl⟩
      have heq := fun W => neq_gr W (getB l1 k) (getB l2 k) hg1 hg2 bq hbq
      have HBQ : Hid _ := hbq
      have HI1 : Hid _ := info128 ((getB l1 k).map B8) (by rw [List.length_map]; exact hg1)
      have HI2 : Hid _ := info128 ((getB l2 k).map B8) (by rw [List.length_map]; exact hg2)
      have HA1 : Hid _ := hra1
      have HA2 : Hid _ := hra2
      generalize (getB l1 k).map B8 = G1 at *
      generalize (getB l2 k).map B8 = G2 at *
      have HB : Hid (Below w.heap.size w wr) := hB
      have hs := hB.size
      clear hra1 hra2 hbq hB hg1 hg2
      go_wp2
      refine wp_region_held_drew (S := Below wr.heap.size wr) (by kernel_rfl) (below_drew _) (fun hHeld => ?_)
      refine wpAnyH_take (i := 0) (oi := { dst := some 16, op := Go.Op.move (Go.Operand.tmp 0), type := 59, pos := _, after := #[], guard := none }) (v := .slice (some ⟨b1, 0, none⟩) n c1) rfl (by kernel_rfl) (by kernel_rfl) (by kernel_rfl) (fun _ _ _ h => h) (Or.inl ⟨by rfl, fun w' hw' => ?_⟩) hHeld ?_
      · first | (go_simp; done) | (go_simp; rfl)
      try simp only [Act.put, List.setIfInBounds_toArray, List.set_cons_zero, List.set_cons_succ]
      refine wpAnyH_take (i := 1) (oi := { dst := some 17, op := Go.Op.move (Go.Operand.tmp 5), type := 3, pos := _, after := #[], guard := none }) (v := .int .i64 (k : Int)) rfl (by kernel_rfl) (by kernel_rfl) (by kernel_rfl) (fun _ _ _ h => h) (Or.inl ⟨by rfl, fun w' hw' => ?_⟩) hHeld ?_
      · first | (go_simp; done) | (go_simp; rfl)
      try simp only [Act.put, List.setIfInBounds_toArray, List.set_cons_zero, List.set_cons_succ]
      refine wpAnyH_take (i := 2) (oi := { dst := some 18, op := Go.Op.indexAddr 59 (Go.Operand.tmp 16) (Go.Operand.tmp 17), type := 0, pos := _, after := #[{ on := 0, ground := Go.Ground.data }, { on := 1, ground := Go.Ground.data }], guard := none }) (v := .pointer (some ⟨b1, k * 128, none⟩)) rfl (by kernel_rfl) (by kernel_rfl) (by kernel_rfl) (fun _ _ _ h => h) (Or.inl ⟨by rfl, fun w' hw' => ?_⟩) hHeld ?_
      · first | (go_simp; done) | (go_simp; rfl)
      try simp only [Act.put, List.setIfInBounds_toArray, List.set_cons_zero, List.set_cons_succ]
      refine wpAnyH_take (i := 3) (oi := { dst := some 19, op := Go.Op.load 45 (Go.Operand.tmp 18), type := 45, pos := _, after := #[{ on := 2, ground := Go.Ground.data }], guard := none }) rfl (by kernel_rfl) (by kernel_rfl) (by kernel_rfl) (fun _ _ _ h => h) (yieldsIf_load_mid (by rfl) 45 (.tmp 18) rfl (b1) (k * 128) rfl (G1) _ (fun _ h => rangeAt_below HA1.out h) Try.underlying45 rfl HI1.out) hHeld ?_
      try simp only [Act.put, List.setIfInBounds_toArray, List.set_cons_zero, List.set_cons_succ]
      refine wpAnyH_take (i := 4) (oi := { dst := some 20, op := Go.Op.move (Go.Operand.tmp 1), type := 59, pos := _, after := #[], guard := none }) (v := .slice (some ⟨b2, 0, none⟩) n c2) rfl (by kernel_rfl) (by kernel_rfl) (by kernel_rfl) (fun _ _ _ h => h) (Or.inl ⟨by rfl, fun w' hw' => ?_⟩) hHeld ?_
      · first | (go_simp; done) | (go_simp; rfl)
      try simp only [Act.put, List.setIfInBounds_toArray, List.set_cons_zero, List.set_cons_succ]
      refine wpAnyH_take (i := 5) (oi := { dst := some 21, op := Go.Op.move (Go.Operand.tmp 5), type := 3, pos := _, after := #[], guard := none }) (v := .int .i64 (k : Int)) rfl (by kernel_rfl) (by kernel_rfl) (by kernel_rfl) (fun _ _ _ h => h) (Or.inl ⟨by rfl, fun w' hw' => ?_⟩) hHeld ?_
      · first | (go_simp; done) | (go_simp; rfl)
      try simp only [Act.put, List.setIfInBounds_toArray, List.set_cons_zero, List.set_cons_succ]
      refine wpAnyH_take (i := 6) (oi := { dst := some 22, op := Go.Op.indexAddr 59 (Go.Operand.tmp 20) (Go.Operand.tmp 21), type := 0, pos := _, after := #[{ on := 4, ground := Go.Ground.data }, { on := 5, ground := Go.Ground.data }], guard := none }) (v := .pointer (some ⟨b2, k * 128, none⟩)) rfl (by kernel_rfl) (by kernel_rfl) (by kernel_rfl) (fun _ _ _ h => h) (Or.inl ⟨by rfl, fun w' hw' => ?_⟩) hHeld ?_
      · first | (go_simp; done) | (go_simp; rfl)
      try simp only [Act.put, List.setIfInBounds_toArray, List.set_cons_zero, List.set_cons_succ]
      refine wpAnyH_take (i := 7) (oi := { dst := some 23, op := Go.Op.load 45 (Go.Operand.tmp 22), type := 45, pos := _, after := #[{ on := 6, ground := Go.Ground.data }], guard := none }) rfl (by kernel_rfl) (by kernel_rfl) (by kernel_rfl) (fun _ _ _ h => h) (yieldsIf_load_mid (by rfl) 45 (.tmp 22) rfl (b2) (k * 128) rfl (G2) _ (fun _ h => rangeAt_below HA2.out h) Try.underlying45 rfl HI2.out) hHeld ?_
      try simp only [Act.put, List.setIfInBounds_toArray, List.set_cons_zero, List.set_cons_succ]
      refine wpAnyH_take (i := 8) (oi := { dst := some 24, op := Go.Op.binOp Go.BinOp.neq 45 (Go.Operand.tmp 19) (Go.Operand.tmp 23) 45, type := 4, pos := _, after := #[{ on := 3, ground := Go.Ground.data }, { on := 7, ground := Go.Ground.data }], guard := none }) (v := .bool (!bq)) rfl (by kernel_rfl) (by kernel_rfl) (by kernel_rfl) (fun _ _ _ h => h) (Or.inl ⟨by rfl, fun w' hw' => ?_⟩) hHeld ?_
      · first | (go_simp; done) | (go_simp; rfl)
      try simp only [Act.put, List.setIfInBounds_toArray, List.set_cons_zero, List.set_cons_succ]
      refine wpAnyH_done (by kernel_rfl) ?_ _
      have HB2 : Hid (Below w.heap.size w wr.drew) := HB.out.drew
      clear hHeld heq HA1 HA2
      cases bq with
      | true =>
        have HJ2 : Hid (∀ j, j < k + 1 → getB l1 j = getB l2 j) := fun j hj => by
          rcases Nat.lt_succ_iff_lt_or_eq.1 hj with h | rfl
          · exact HJ.out j h
          · exact by simpa using HBQ.out
        go_wp2
        go_roundw
        case rel => exact ⟨k + 1, by omega, by go_num, HB2.out, HJ2⟩
        case measure => simp [intOf]; omega
      | false =>
        have HF : Hid (RES = false) := by
          show _ = _
          rw [HRES.out, beq_eq_false_iff_ne]
          intro e
          have := HBQ.out
          rw [e] at this
          simp at this
        go_wp2
        go_ret
        exact ⟨by rw [HF.out]; rfl, HB2.out⟩
    · have hke : k = n := by omega
      subst hke
      have HT : Hid (RES = true) := by
        show _ = _
        rw [HRES.out, beq_iff_eq]
        exact getB_ext k l1 l2 HL1.out HL2.out HJ.out
      have HB : Hid _ := hB
      clear hB
      go_wp2
      go_ret
      exact ⟨by rw [HT.out]; rfl, HB.out⟩
theorem same_nil (p : Value) (w : World) (hl : Calls Try.prog 27 #[p] w fun e w' => e = .returned (.slice none 0 0) ∧ w = w') : Calls Try.prog 21 #[p, .pointer none] w fun e w' => e = .returned (.bool true) ∧ w = w' := by
  have HL : Hid _ := hl
  have HN : Hid _ := list_nil w
  have HE : Hid _ := equal_nil none none 0 0 w
  clear hl
  go_enter Try.func21, Try.ntmps21
  go_wp2_with fail
  refine Calls.mono HL.out ?_
  rintro e w1 ⟨rfl, rfl⟩
  go_wp2_with fail
  refine Calls.mono HN.out ?_
  rintro e w1 ⟨rfl, rfl⟩
  go_wp2_with fail
  refine Calls.mono HE.out ?_
  rintro e w1 ⟨rfl, rfl⟩
  go_wp2
  go_ret
  exact ⟨rfl, rfl⟩
theorem same_ok (m1 b1 c1 m2 b2 c2 n : Nat) (l1 l2 : List UInt8) (w : World) (h1 : PR w m1 b1 n c1 l1) (h2 : PR w m2 b2 n c2 l2) : Calls Try.prog 21 #[.pointer (some ⟨m1, 0, none⟩), .pointer (some ⟨m2, 0, none⟩)] w fun e w' => e = .returned (.bool (l1 == l2)) ∧ Below w.heap.size w w' := by
  have HL1 : Hid _ := list_at m1 _ w h1.cell
  have HL2 : Hid _ := list_at m2 _ w h2.cell
  have HE : Hid _ := equal_ok b1 b2 n c1 c2 l1 l2 w h1.row h2.row h1.len h2.len h1.le
  clear h1 h2
  generalize (l1 == l2) = RES at *
  go_enter Try.func21, Try.ntmps21
  go_wp2_with fail
  refine Calls.mono HL1.out ?_
  rintro e w1 ⟨rfl, rfl⟩
  go_wp2_with fail
  refine Calls.mono HL2.out ?_
  rintro e w1 ⟨rfl, rfl⟩
  go_wp2_with fail
  refine Calls.mono HE.out ?_
  rintro e w1 ⟨rfl, hb⟩
  go_wp2
  go_ret
  exact ⟨rfl, hb⟩
/-- The function that Whole hands back, over the list at a block. -/
abbrev wFun (fb : Nat) : Value := .func (.func 37) #[] #[.pointer (some ⟨fb, 0, none⟩)]
def WnEnd (w : World) (e : Ending) (w' : World) : Prop := ∃ fb, e = .returned (wFun fb) ∧ w'.cell? ⟨fb, 0, none⟩ = some (.slice none 0 0) ∧ w.heap.size ≤ fb ∧ Below w.heap.size w w'
theorem whole_nil (p : Value) (w : World) (hl : Calls Try.prog 27 #[p] w fun e w' => e = .returned (.slice none 0 0) ∧ w = w') : Calls Try.prog 20 #[p] w fun e w' => WnEnd w e w' := by
  have HL : Hid _ := hl
  have HC : Hid _ := cloneG_nil w
  clear hl
  go_enter Try.func20, Try.ntmps20
  go_wp2_with fail
  refine Calls.mono HL.out ?_
  rintro e w1 ⟨rfl, rfl⟩
  go_wp2_with fail
  refine Calls.mono HC.out ?_
  rintro e w1 ⟨rfl, rfl⟩
  go_wp2
  go_ret
  refine ⟨w.heap.size, rfl, ?_, Nat.le_refl _, (Below.refl _ _).alloc (Nat.le_refl _) _⟩
  rw [cell_of_row _ _ 0 _ _ _ (heap_alloc_new _ _)]; rfl
/-- Whole's function can be gone over: the list at its block. -/
structure WH (w : World) (fb cb n cap : Nat) (l : List UInt8) : Prop where
  cell : w.cell? ⟨fb, 0, none⟩ = some (.slice (some ⟨cb, 0, none⟩) n cap)
  row : w.rangeAt cb 0 (l.map B8)
  len : l.length = 128 * n
  le : n ≤ 4096
theorem WH.lt {w : World} {fb cb n cap : Nat} {l : List UInt8} (h : WH w fb cb n cap l) : fb < w.heap.size := block_lt h.cell
theorem WH.below {w w' : World} {fb cb n cap : Nat} {l : List UInt8} (h : WH w fb cb n cap l) (hb : Below w.heap.size w w') : WH w' fb cb n cap l := ⟨(hb.cell (block_lt h.cell)).trans h.cell, rangeAt_below h.row hb, h.len, h.le⟩
def WoEnd (n : Nat) (l : List UInt8) (w : World) (e : Ending) (w' : World) : Prop := ∃ fb cb cap, e = .returned (wFun fb) ∧ WH w' fb cb n cap l ∧ w.heap.size ≤ fb ∧ w.heap.size ≤ cb ∧ Below w.heap.size w w'
theorem whole_ok (mb gb n cap : Nat) (l : List UInt8) (w : World) (h : PR w mb gb n cap l) : Calls Try.prog 20 #[.pointer (some ⟨mb, 0, none⟩)] w fun e w' => WoEnd n l w e w' := by
  have HL : Hid _ := list_at mb _ w h.cell
  have HC : Hid _ := cloneG_ok gb n cap l w h.row h.len h.pos h.le
  have HH : Hid _ := h
  clear h
  go_enter Try.func20, Try.ntmps20
  go_wp2_with fail
  refine Calls.mono HL.out ?_
  rintro e w1 ⟨rfl, rfl⟩
  go_wp2_with fail
  refine Calls.mono HC.out ?_
  rintro e w1 ⟨cb, cp, rfl, hr, hcb, hcp, hcm, hb⟩
  have HR : Hid _ := hr
  have HB : Hid _ := hb
  clear hr hb
  go_wp2
  go_ret
  have hs := HB.out.size
  refine ⟨w1.heap.size, cb, cp, rfl, ⟨?_, rangeAt_below HR.out ((Below.refl _ _).alloc (Nat.le_refl _) _), HH.out.len, HH.out.le⟩, hs, hcb, HB.out.alloc hs _⟩
  rw [cell_of_row _ _ 0 _ _ _ (heap_alloc_new _ _)]; rfl
set_option maxHeartbeats 1000000 in
theorem whole1_empty (y : Value) (b : Nat) (p : Option Addr) (cap : Nat) (w : World) (hc : w.cell? ⟨b, 0, none⟩ = some (.slice p 0 cap)) :
    Calls Try.prog 37 #[y, .pointer (some ⟨b, 0, none⟩)] w fun e w' => (∃ v, e = .returned v) ∧ Below w.heap.size w w' := by
  go_enter Try.func37, Try.ntmps37
  go_wp2
  refine wp_loop_rounds 1 ?_
  rw [rounds_succ]
  go_wp2
  go_end0
  exact ⟨⟨_, rfl⟩, Below.refl _ _⟩
end Go.Proofs.Ytikchlmfklbojaa.MC
