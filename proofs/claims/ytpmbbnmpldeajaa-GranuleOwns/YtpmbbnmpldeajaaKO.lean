/- granule: rows compared; contracts of slices.Clone and slices.Equal at rows, Copy, Same, Count. -/
import Derived.Test.YtpmbbnmpldeajaaKM
import Derived.Lib.LazyBuf
set_option linter.unusedVariables false
set_option linter.unusedSimpArgs false
namespace Go.Proofs.Ytpmbbnmpldeajaa.GC
open Go.RowKit

/-- Are two rows the same? -/
def rq (a b : Rw) : Bool := a.st == b.st && (a.ow == b.ow && a.held == b.held)
theorem rq_iff (a b : Rw) : rq a b = true ↔ a = b := by
  obtain ⟨a1, a2, a3⟩ := a
  obtain ⟨b1, b2, b3⟩ := b
  unfold rq
  simp [Rw.mk.injEq]
theorem eqI_rw (w : World) (a b : Rw) : (Op.equalIn 10000 43 (rV a) (rV b)).run Try.prog w = .ok (rq a b) w := by
  obtain ⟨a1, a2, a3⟩ := a
  obtain ⟨b1, b2, b3⟩ := b
  unfold rV rL rq
  go_simp
  by_cases e1 : a1 = b1
  · subst e1
    by_cases e2 : a2 = b2
    · subst e2
      by_cases e3 : a3 = b3
      · subst e3; simp
      · have h3 : ¬ (a3 : Int) = (b3 : Int) := by omega
        simp [e3, h3]
    · have h2 : ¬ (a2 : Int) = (b2 : Int) := by omega
      simp [e2, h2]
  · simp [e1]
/-- Are all rows the same? -/
def lq : List Rw → List Rw → Bool
  | [], [] => true
  | a :: l, b :: m => rq a b && lq l m
  | _, _ => false
theorem lq_iff : ∀ l m : List Rw, lq l m = true ↔ l = m
  | [], [] => by simp [lq]
  | [], _ :: _ => by simp [lq]
  | _ :: _, [] => by simp [lq]
  | a :: l, b :: m => by
    unfold lq
    rw [Bool.and_eq_true, rq_iff, lq_iff l m, List.cons.injEq]
theorem lq_self (l : List Rw) : lq l l = true := (lq_iff l l).2 rfl
theorem cloneR_nil (w : World) : Calls Try.prog 30 #[.slice none 0 0] w fun e w' => e = .returned (.slice none 0 0) ∧ w = w' := by
  have hnil := fun wx => Lib.run_eql_slice_nil (P := Try.prog) wx 28 43 none 0 0 0 0 Try.underlying28
  go_enter Try.func30, Try.ntmps30
  go_wp2
  go_ret
  exact ⟨rfl, rfl⟩
/-- What Clone hands back. -/
def ClEnd (n : Nat) (l : List Rw) (w : World) (e : Ending) (w' : World) : Prop := ∃ cb cap, e = .returned (.slice (some ⟨cb, 0, none⟩) n cap) ∧ w'.rangeAt cb 0 (fl l) ∧ w.heap.size ≤ cb ∧ n ≤ cap ∧ cap ≤ maxLen ∧ Below w.heap.size w w'
set_option maxHeartbeats 4000000 in
set_option maxRecDepth 100000 in
theorem cloneR_ok (gb n cap : Nat) (l : List Rw) (w : World) (h : w.rangeAt gb 0 (fl l)) (hl : l.length = n) (h1 : 1 ≤ n) (h4 : n ≤ 4096) :
    Calls Try.prog 30 #[.slice (some ⟨gb, 0, none⟩) n cap] w fun e w' => ClEnd n l w e w' := by
  have hnil := fun wx => Lib.run_eql_slice_nil (P := Try.prog) wx 28 43 (some ⟨gb, 0, none⟩) n cap 0 0 Try.underlying28
  obtain ⟨i0, hi, hz0, hz1, hz2⟩ := info_parts infoRow
  obtain ⟨ZC, hZC⟩ : ∃ V, V = (rL ZR).toArray := ⟨_, rfl⟩
  unfold rV at hz0
  rw [← hZC] at hz0
  have HZC : Hid (ZC.size = 3) := by show _ = _; rw [hZC]; rfl
  clear hZC
  obtain ⟨XS, hXS⟩ : ∃ XS, XS = fl l := ⟨_, rfl⟩
  have HXL : Hid (XS.length = n * 3) := by show _ = _; rw [hXS, fl_len, hl]
  have HO1 : Hid (∀ u ∈ XS, u.oneCell' = true) := by rw [hXS]; exact fl_one _
  rw [← hXS] at h
  have HN : Hid _ := h
  have HOE : Hid ((w.alloc (.cells #[] 43 (0, 0))).ownsRow w.heap.size 43 3 (.slice (some ⟨w.heap.size, 0, none⟩) 0 0) 0 []) := ⟨rfl, .inr ⟨w.heap.size, 0, #[], rfl, Nat.le_refl _, heap_alloc_new _ _, Nat.le_refl _, by unfold maxLen; omega, rfl, rfl⟩⟩
  have HN' : Hid (∀ j u, XS[j]? = some u → (w.alloc (.cells #[] 43 (0, 0))).cell? ((⟨gb, 0, none⟩ : Addr).add j) = some u) := fun j u hu => by
    rw [add_none]
    exact (Below.cell ((Below.refl _ w).alloc (Nat.le_refl _) _) (block_lt (HN.out j u hu))).trans (HN.out j u hu)
  have HXS : Hid _ := hXS
  clear h hXS hl
  go_enter Try.func30, Try.ntmps30
  go_wp2_with (at_builtin; refine wpList_append_own _ rfl (.tmp 5) (.tmp 6) 28 rfl w.heap.size 43 i0 (.agg ZC) 3 24 Try.underlying28 hi hz0 hz1 hz2 HZC.out (by decide) (.slice (some ⟨w.heap.size, 0, none⟩) 0 0) 0 [] rfl HOE.out ⟨gb, 0, none⟩ n cap XS rfl HXL.out HN'.out HO1.out (by unfold maxLen; omega) (by omega) (by simp) ?_; intro v1 w1 hown1 hgr1 hn1)
  go_ret
  rw [List.nil_append, Nat.zero_add] at hown1
  have hb : Below w.heap.size w w1 := ((Below.refl _ w).alloc (Nat.le_refl _) _).grown hgr1 (by simp) (fun k e => by have e' : w.heap.size = k := (by simpa [Value.ownBlock] using e); omega)
  rcases hown1.2 with ⟨e1, e2⟩ | ⟨g, cp, cur, rfl, e2, e3, e4, e5, e6, e7⟩
  · omega
  · refine ⟨g, cp, rfl, fun j u hu => ?_, e2, e4, e5, hb⟩
    rw [Nat.zero_add, cell_of_row _ _ _ _ _ _ e3, ← Array.getElem?_toList]
    have hj : j < n * 3 := by rw [← HXL.out, HXS.out]; exact (List.getElem?_eq_some_iff.1 hu).1
    rw [← HXS.out, ← e7, List.getElem?_take_of_lt hj] at hu
    exact hu
theorem copy_nil (p : Value) (w : World) (hl : Calls Try.prog 31 #[p] w fun e w' => e = .returned (.slice none 0 0) ∧ w = w') : Calls Try.prog 15 #[p] w fun e w' => e = .returned (.pointer none) ∧ w = w' := by
  have hnn := none_of _ _ _ _ w hl
  rw [show decide ((0 : Nat) = 0) = true from rfl] at hnn
  have HNN : Hid _ := hnn
  clear hnn hl
  go_enter Try.func15, Try.ntmps15
  go_wp2_with fail
  refine Calls.mono HNN.out ?_
  rintro e w1 ⟨rfl, rfl⟩
  go_wp2
  go_ret
  exact ⟨rfl, rfl⟩
def CpEnd (n : Nat) (l : List Rw) (w : World) (e : Ending) (w' : World) : Prop := ∃ mc cb cap, e = .returned (.pointer (some ⟨mc, 0, none⟩)) ∧ PR w' mc cb n cap l ∧ w.heap.size ≤ mc ∧ w.heap.size ≤ cb ∧ Below w.heap.size w w'
theorem copy_ok (tb gb n cap : Nat) (l : List Rw) (w : World) (h : PR w tb gb n cap l) : Calls Try.prog 15 #[.pointer (some ⟨tb, 0, none⟩)] w fun e w' => CpEnd n l w e w' := by
  have hnn := none_of _ _ _ _ w (list_at tb _ w h.cell)
  rw [show decide (n = 0) = false by simp; have := h.pos; omega] at hnn
  have HNN : Hid _ := hnn
  have HCL : Hid _ := cloneR_ok gb n cap l w h.row h.len h.pos h.le
  have hc := h.cell
  have HH : Hid _ := h
  clear hnn h
  go_enter Try.func15, Try.ntmps15
  go_wp2_with fail
  refine Calls.mono HNN.out ?_
  rintro e w1 ⟨rfl, rfl⟩
  go_wp2_with fail
  refine Calls.mono HCL.out ?_
  rintro e w1 ⟨cb, cp, rfl, hr, hcb, hcp, hcm, hb⟩
  have HR : Hid _ := hr
  have HB : Hid _ := hb
  clear hr hb
  go_wp2
  go_ret
  have hs := HB.out.size
  refine ⟨w1.heap.size, cb, cp, rfl, ⟨?_, rangeAt_below HR.out ((Below.refl _ _).alloc (Nat.le_refl _) _), HH.out.len, HH.out.pos, HH.out.le, hcp⟩, hs, hcb, HB.out.alloc hs _⟩
  rw [cell_of_row _ _ 0 _ _ _ (heap_alloc_new _ _)]; rfl
theorem equal_nil (p q : Option Addr) (c d : Nat) (w : World) : Calls Try.prog 33 #[.slice p 0 c, .slice q 0 d] w fun e w' => e = .returned (.bool true) ∧ w = w' := by
  go_enter Try.func33, Try.ntmps33
  go_wp2
  refine wp_loop_rounds 1 ?_
  rw [rounds_succ]
  go_wp2
  go_ret
  exact ⟨rfl, rfl⟩
set_option maxHeartbeats 2000000 in
theorem equal_ok (b1 b2 n c1 c2 : Nat) (l1 l2 : List Rw) (w : World) (h1 : w.rangeAt b1 0 (fl l1)) (h2 : w.rangeAt b2 0 (fl l2)) (hl1 : l1.length = n) (hl2 : l2.length = n) (hn : n ≤ 4096) :
    Calls Try.prog 33 #[.slice (some ⟨b1, 0, none⟩) n c1, .slice (some ⟨b2, 0, none⟩) n c2] w fun e w' => e = .returned (.bool (lq l1 l2)) ∧ Below w.heap.size w w' := by
  have hI : ((n : Int) != (n : Int)) = false := by simp
  have HR1 : Hid _ := h1
  have HR2 : Hid _ := h2
  have HL1 : Hid _ := hl1
  have HL2 : Hid _ := hl2
  obtain ⟨RES, hRES⟩ : ∃ b, b = lq l1 l2 := ⟨_, rfl⟩
  have HRES : Hid _ := hRES
  rw [← hRES]
  clear h1 h2 hl1 hl2 hRES
  go_enter Try.func33, Try.ntmps33
  go_wp2
  go_loopw [5, 13] (fun _ i wr => ∃ k : Nat, k ≤ n ∧ i = .int .i64 k ∧ Below w.heap.size w wr ∧ Hid (∀ j, j < k → l1[j]? = l2[j]?)) (fun _ i _ => n - (intOf i).toNat)
  case atStart => exact ⟨0, Nat.zero_le _, rfl, Below.refl _ _, fun j hj => absurd hj (Nat.not_lt_zero _)⟩
  case round =>
    obtain ⟨k, hk, rfl, hB, HJ⟩ := hrel
    by_cases hlt : k < n
    · obtain ⟨r1, hr1⟩ : ∃ r, l1[k]? = some r := ⟨_, List.getElem?_eq_getElem (by rw [HL1.out]; exact hlt)⟩
      obtain ⟨r2, hr2⟩ : ∃ r, l2[k]? = some r := ⟨_, List.getElem?_eq_getElem (by rw [HL2.out]; exact hlt)⟩
      have HA1 : Hid _ := range_row (rangeAt_below HR1.out hB) hr1
      have HA2 : Hid _ := range_row (rangeAt_below HR2.out hB) hr2
      obtain ⟨bq, hbq⟩ : ∃ b, rq r1 r2 = b := ⟨_, rfl⟩
      have heq : ∀ W, (Op.equalIn 10000 43 (.agg (rL r1).toArray) (.agg (rL r2).toArray)).run Try.prog W = .ok bq W := fun W => by rw [← hbq]; exact eqI_rw W r1 r2
      have HQ : Hid (bq = true ↔ l1[k]? = l2[k]?) := by
        show _ ↔ _
        rw [hr1, hr2, ← hbq, rq_iff, Option.some.injEq]
      have HI1 : Hid _ := info3 (rL r1) rfl
      have HI2 : Hid _ := info3 (rL r2) rfl
      generalize rL r1 = G1 at *
      generalize rL r2 = G2 at *
      have HB : Hid (Below w.heap.size w wr) := hB
      have hs := hB.size
      clear hbq hB hr1 hr2
      go_wp2
      refine wp_region_held_drew (S := Below wr.heap.size wr) (by kernel_rfl) (below_drew _) (fun hHeld => ?_)
      refine wpAnyH_take (i := 0) (oi := { dst := some 16, op := Go.Op.move (Go.Operand.tmp 0), type := 28, pos := _, after := #[], guard := none }) (v := .slice (some ⟨b1, 0, none⟩) n c1) rfl (by kernel_rfl) (by kernel_rfl) (by kernel_rfl) (fun _ _ _ h => h) (Or.inl ⟨by rfl, fun w' hw' => ?_⟩) hHeld ?_
      · first | (go_simp; done) | (go_simp; rfl)
      try simp only [Act.put, List.setIfInBounds_toArray, List.set_cons_zero, List.set_cons_succ]
      refine wpAnyH_take (i := 1) (oi := { dst := some 17, op := Go.Op.move (Go.Operand.tmp 5), type := 3, pos := _, after := #[], guard := none }) (v := .int .i64 (k : Int)) rfl (by kernel_rfl) (by kernel_rfl) (by kernel_rfl) (fun _ _ _ h => h) (Or.inl ⟨by rfl, fun w' hw' => ?_⟩) hHeld ?_
      · first | (go_simp; done) | (go_simp; rfl)
      try simp only [Act.put, List.setIfInBounds_toArray, List.set_cons_zero, List.set_cons_succ]
      refine wpAnyH_take (i := 2) (oi := { dst := some 18, op := Go.Op.indexAddr 28 (Go.Operand.tmp 16) (Go.Operand.tmp 17), type := 0, pos := _, after := #[{ on := 0, ground := Go.Ground.data }, { on := 1, ground := Go.Ground.data }], guard := none }) (v := .pointer (some ⟨b1, k * 3, none⟩)) rfl (by kernel_rfl) (by kernel_rfl) (by kernel_rfl) (fun _ _ _ h => h) (Or.inl ⟨by rfl, fun w' hw' => ?_⟩) hHeld ?_
      · first | (go_simp; done) | (go_simp; rfl)
      try simp only [Act.put, List.setIfInBounds_toArray, List.set_cons_zero, List.set_cons_succ]
      refine wpAnyH_take (i := 3) (oi := { dst := some 19, op := Go.Op.load 43 (Go.Operand.tmp 18), type := 43, pos := _, after := #[{ on := 2, ground := Go.Ground.data }], guard := none }) rfl (by kernel_rfl) (by kernel_rfl) (by kernel_rfl) (fun _ _ _ h => h) (yieldsIf_load_mid (by rfl) 43 (.tmp 18) rfl (b1) (k * 3) rfl (G1) _ (fun _ h => rangeAt_below HA1.out h) Try.underlying43 rfl HI1.out) hHeld ?_
      try simp only [Act.put, List.setIfInBounds_toArray, List.set_cons_zero, List.set_cons_succ]
      refine wpAnyH_take (i := 4) (oi := { dst := some 20, op := Go.Op.move (Go.Operand.tmp 1), type := 28, pos := _, after := #[], guard := none }) (v := .slice (some ⟨b2, 0, none⟩) n c2) rfl (by kernel_rfl) (by kernel_rfl) (by kernel_rfl) (fun _ _ _ h => h) (Or.inl ⟨by rfl, fun w' hw' => ?_⟩) hHeld ?_
      · first | (go_simp; done) | (go_simp; rfl)
      try simp only [Act.put, List.setIfInBounds_toArray, List.set_cons_zero, List.set_cons_succ]
      refine wpAnyH_take (i := 5) (oi := { dst := some 21, op := Go.Op.move (Go.Operand.tmp 5), type := 3, pos := _, after := #[], guard := none }) (v := .int .i64 (k : Int)) rfl (by kernel_rfl) (by kernel_rfl) (by kernel_rfl) (fun _ _ _ h => h) (Or.inl ⟨by rfl, fun w' hw' => ?_⟩) hHeld ?_
      · first | (go_simp; done) | (go_simp; rfl)
      try simp only [Act.put, List.setIfInBounds_toArray, List.set_cons_zero, List.set_cons_succ]
      refine wpAnyH_take (i := 6) (oi := { dst := some 22, op := Go.Op.indexAddr 28 (Go.Operand.tmp 20) (Go.Operand.tmp 21), type := 0, pos := _, after := #[{ on := 4, ground := Go.Ground.data }, { on := 5, ground := Go.Ground.data }], guard := none }) (v := .pointer (some ⟨b2, k * 3, none⟩)) rfl (by kernel_rfl) (by kernel_rfl) (by kernel_rfl) (fun _ _ _ h => h) (Or.inl ⟨by rfl, fun w' hw' => ?_⟩) hHeld ?_
      · first | (go_simp; done) | (go_simp; rfl)
      try simp only [Act.put, List.setIfInBounds_toArray, List.set_cons_zero, List.set_cons_succ]
      refine wpAnyH_take (i := 7) (oi := { dst := some 23, op := Go.Op.load 43 (Go.Operand.tmp 22), type := 43, pos := _, after := #[{ on := 6, ground := Go.Ground.data }], guard := none }) rfl (by kernel_rfl) (by kernel_rfl) (by kernel_rfl) (fun _ _ _ h => h) (yieldsIf_load_mid (by rfl) 43 (.tmp 22) rfl (b2) (k * 3) rfl (G2) _ (fun _ h => rangeAt_below HA2.out h) Try.underlying43 rfl HI2.out) hHeld ?_
      try simp only [Act.put, List.setIfInBounds_toArray, List.set_cons_zero, List.set_cons_succ]
      refine wpAnyH_take (i := 8) (oi := { dst := some 24, op := Go.Op.binOp Go.BinOp.neq 43 (Go.Operand.tmp 19) (Go.Operand.tmp 23) 43, type := 4, pos := _, after := #[{ on := 3, ground := Go.Ground.data }, { on := 7, ground := Go.Ground.data }], guard := none }) (v := .bool (!bq)) rfl (by kernel_rfl) (by kernel_rfl) (by kernel_rfl) (fun _ _ _ h => h) (Or.inl ⟨by rfl, fun w' hw' => ?_⟩) hHeld ?_
      · first | (go_simp; done) | (go_simp; rfl)
      try simp only [Act.put, List.setIfInBounds_toArray, List.set_cons_zero, List.set_cons_succ]
      refine wpAnyH_done (by kernel_rfl) ?_ _
      have HB2 : Hid (Below w.heap.size w wr.drew) := HB.out.drew
      clear hHeld heq HA1 HA2
      cases bq with
      | true =>
        have HJ2 : Hid (∀ j, j < k + 1 → l1[j]? = l2[j]?) := fun j hj => by
          rcases Nat.lt_succ_iff_lt_or_eq.1 hj with h | rfl
          · exact HJ.out j h
          · exact HQ.out.1 rfl
        go_wp2
        go_roundw
        case rel => exact ⟨k + 1, by omega, by go_num, HB2.out, HJ2⟩
        case measure => simp [intOf]; omega
      | false =>
        have HF : Hid (RES = false) := by
          show _ = _
          rw [HRES.out]
          cases hq : lq l1 l2 with
          | false => rfl
          | true =>
            have e := (lq_iff l1 l2).1 hq
            have := HQ.out.2 (by rw [e])
            cases this
        go_wp2
        go_ret
        exact ⟨by rw [HF.out]; rfl, HB2.out⟩
    · have hke : k = n := by omega
      subst hke
      have HT : Hid (RES = true) := by
        show _ = _
        rw [HRES.out, lq_iff]
        apply List.ext_getElem?
        intro j
        by_cases hj : j < k
        · exact HJ.out j hj
        · rw [List.getElem?_eq_none (by rw [HL1.out]; omega), List.getElem?_eq_none (by rw [HL2.out]; omega)]
      have HB : Hid _ := hB
      clear hB
      go_wp2
      go_ret
      exact ⟨by rw [HT.out]; rfl, HB.out⟩
theorem same_nil (p : Value) (w : World) (hl : Calls Try.prog 31 #[p] w fun e w' => e = .returned (.slice none 0 0) ∧ w = w') : Calls Try.prog 17 #[p, .pointer none] w fun e w' => e = .returned (.bool true) ∧ w = w' := by
  have HL : Hid _ := hl
  have HN : Hid _ := list_nil w
  have HE : Hid _ := equal_nil none none 0 0 w
  clear hl
  go_enter Try.func17, Try.ntmps17
  go_wp2_with fail
  refine Calls.mono HL.out ?_
  rintro e w1 ⟨rfl, rfl⟩
  go_wp2_with fail
  refine Calls.mono HN.out ?_
  rintro e w1 ⟨rfl, rfl⟩
  go_wp2_with fail
  refine Calls.mono HE.out ?_
  rintro e w1 ⟨rfl, rfl⟩
  go_wp2
  go_ret
  exact ⟨rfl, rfl⟩
theorem same_ok (m1 b1 c1 m2 b2 c2 n : Nat) (l1 l2 : List Rw) (w : World) (h1 : PR w m1 b1 n c1 l1) (h2 : PR w m2 b2 n c2 l2) : Calls Try.prog 17 #[.pointer (some ⟨m1, 0, none⟩), .pointer (some ⟨m2, 0, none⟩)] w fun e w' => e = .returned (.bool (lq l1 l2)) ∧ Below w.heap.size w w' := by
  have HL1 : Hid _ := list_at m1 _ w h1.cell
  have HL2 : Hid _ := list_at m2 _ w h2.cell
  have HE : Hid _ := equal_ok b1 b2 n c1 c2 l1 l2 w h1.row h2.row h1.len h2.len h1.le
  clear h1 h2
  generalize lq l1 l2 = RES at *
  go_enter Try.func17, Try.ntmps17
  go_wp2_with fail
  refine Calls.mono HL1.out ?_
  rintro e w1 ⟨rfl, rfl⟩
  go_wp2_with fail
  refine Calls.mono HL2.out ?_
  rintro e w1 ⟨rfl, rfl⟩
  go_wp2_with fail
  refine Calls.mono HE.out ?_
  rintro e w1 ⟨rfl, hb⟩
  go_wp2
  go_ret
  exact ⟨rfl, hb⟩
/-- How many have that state and that owner. -/
def hit (s : Int) (o : Nat) (r : Rw) : Bool := r.st == s && r.ow == o
def cnt (s : Int) (o : Nat) (l : List Rw) : Nat := (l.filter (hit s o)).length
theorem cnt_take (s : Int) (o : Nat) (l : List Rw) (k : Nat) (r : Rw) (h : l[k]? = some r) : cnt s o (l.take (k + 1)) = cnt s o (l.take k) + (if hit s o r = true then 1 else 0) := by
  obtain ⟨hk, rfl⟩ := List.getElem?_eq_some_iff.1 h
  unfold cnt
  rw [List.take_succ_eq_append_getElem hk, List.filter_append, List.length_append]
  congr 1
  by_cases hh : hit s o l[k] = true
  · rw [if_pos hh, List.filter_cons_of_pos hh]; rfl
  · rw [if_neg hh, List.filter_cons_of_neg hh]; rfl
theorem cnt_le (s : Int) (o : Nat) (l : List Rw) (k : Nat) : cnt s o (l.take k) ≤ k := by
  unfold cnt
  have := List.length_filter_le (hit s o) (l.take k)
  rw [List.length_take] at this
  omega
theorem count_nil (p : Value) (q : Option Addr) (cap : Nat) (s o : Int) (w : World) (hl : Calls Try.prog 31 #[p] w fun e w' => e = .returned (.slice q 0 cap) ∧ w = w') : Calls Try.prog 18 #[p, .int .i64 s, .int .u64 o] w fun e w' => e = .returned (.int .i64 0) ∧ w = w' := by
  have HL : Hid _ := hl
  clear hl
  go_enter Try.func18, Try.ntmps18
  go_wp2_with fail
  refine Calls.mono HL.out ?_
  rintro e w1 ⟨rfl, rfl⟩
  go_wp2
  refine wp_loop_rounds 1 ?_
  rw [rounds_succ]
  go_wp2
  go_ret
  exact ⟨rfl, rfl⟩
set_option maxHeartbeats 2000000 in
theorem count_ok (tb gb n cap : Nat) (l : List Rw) (s : Int) (o : Nat) (w : World) (h : PR w tb gb n cap l) :
    Calls Try.prog 18 #[.pointer (some ⟨tb, 0, none⟩), .int .i64 s, .int .u64 (o : Int)] w fun e w' => e = .returned (.int .i64 (cnt s o l : Int)) ∧ Below w.heap.size w w' := by
  have HL : Hid _ := list_at tb _ w h.cell
  have HP : Hid _ := h
  have hn4 := h.le
  obtain ⟨C, hC⟩ : ∃ C, C = cnt s o l := ⟨_, rfl⟩
  have HC : Hid _ := hC
  rw [← hC]
  clear h hC
  go_enter Try.func18, Try.ntmps18
  go_wp2_with fail
  refine Calls.mono HL.out ?_
  rintro e w1 ⟨rfl, rfl⟩
  go_wp2
  go_loopw [7, 13] (fun c i wr => ∃ k m : Nat, k ≤ n ∧ i = .int .i64 k ∧ c = .int .i64 m ∧ Hid (m = cnt s o (l.take k)) ∧ Below w.heap.size w wr) (fun _ i _ => n - (intOf i).toNat)
  case atStart => exact ⟨0, 0, Nat.zero_le _, rfl, rfl, by show _ = _; simp [cnt], Below.refl _ _⟩
  case round =>
    obtain ⟨k, m, hk, rfl, rfl, HM, hB⟩ := hrel
    by_cases hlt : k < n
    · have hkI : (k : Int) < (n : Int) := by omega
      have hml : m ≤ 4096 := by have := cnt_le s o l k; have := HM.out; omega
      obtain ⟨r, hr⟩ : ∃ r, l[k]? = some r := ⟨_, List.getElem?_eq_getElem (by rw [HP.out.len]; exact hlt)⟩
      have hnx := cnt_take s o l k r hr
      rw [← HM.out] at hnx
      obtain ⟨hc0, hc1, hc2⟩ := range_cells (range_row (rangeAt_below HP.out.row hB) hr)
      obtain ⟨st, ow, held⟩ := r
      have HB : Hid (∀ ob, Below w.heap.size w (wr.alloc ob)) := fun ob => hB.alloc hB.size _
      simp only at hc0 hc1 hc2
      unfold hit at hnx
      simp only at hnx
      by_cases hs : st = s
      · by_cases ho : ow = o
        · rw [if_pos (by simp [hs, ho])] at hnx
          have HNX : Hid _ := hnx
          have hoI : (ow : Int) = (o : Int) := by omega
          clear hB hr hnx ho HM
          go_wp2
          go_roundw
          case rel => exact ⟨k + 1, m + 1, by omega, by go_num, by go_num, HNX.out.symm, HB.out _⟩
          case measure => simp [intOf]; omega
        · rw [if_neg (by simp [ho]), Nat.add_zero] at hnx
          have HNX : Hid _ := hnx
          have hoI : ¬ (ow : Int) = (o : Int) := by omega
          clear hB hr hnx ho HM
          go_wp2
          go_roundw
          case rel => exact ⟨k + 1, m, by omega, by go_num, by go_num, HNX.out.symm, HB.out _⟩
          case measure => simp [intOf]; omega
      · rw [if_neg (by simp [hs]), Nat.add_zero] at hnx
        have HNX : Hid _ := hnx
        clear hB hr hnx HM
        go_wp2
        go_roundw
        case rel => exact ⟨k + 1, m, by omega, by go_num, by go_num, HNX.out.symm, HB.out _⟩
        case measure => simp [intOf]; omega
    · have hke : k = n := by omega
      subst hke
      rw [List.take_of_length_le (by rw [HP.out.len]; exact Nat.le_refl _)] at HM
      have HB : Hid _ := hB
      have HE : Hid (m = C) := HM.out.trans HC.out.symm
      clear hB
      go_wp2
      go_ret
      exact ⟨by rw [HE.out]; rfl, HB.out⟩
end Go.Proofs.Ytpmbbnmpldeajaa.GC
