/- Contract of the statements' rows; acts that came in. -/
import Derived.Test.YtpmbbnmpldeajaaKK
import Derived.ChangeOld
import Derived.ProofKit
import Derived.OpenShut
import Derived.Deep.Slices
set_option linter.unusedVariables false
set_option linter.unusedSimpArgs false
namespace Go.Proofs.Ytpmbbnmpldeajaa.GC
open Go.ChangeShapes Go.WideShapes Go.ChangeAt Go.RowKit

theorem rng3 {w : World} {b o : Nat} {st : Int} {ow held : Nat} (h : w.rangeAt b o (rL ⟨st, ow, held⟩)) : w.rangeAt b o [.int .i64 st, .int .u64 (ow : Int), .int .i64 (held : Int)] := h
set_option maxHeartbeats 4000000 in
set_option maxRecDepth 100000 in
theorem rows_any (tb gb n cap wb kw : Nat) (l : List Rw) (w : World) (h : PR w tb gb n cap l) (hw : w.rangeAt wb 0 (fl l)) :
    Calls Try.prog 11 #[.pointer (some ⟨tb, 0, none⟩), .slice (some ⟨wb, 0, none⟩) n kw] w fun e w' => e = .returned (.bool true) ∧ Below w.heap.size w w' := by
  have HG : Hid _ := granules_of _ _ n _ w (list_at tb _ w h.cell)
  have HP : Hid _ := h
  have HW : Hid _ := hw
  have hn4 := h.le
  have HL : Hid _ := h.len
  have hnn : ((n : Int) != (n : Int)) = false := by simp
  clear h hw
  go_enter Try.func11, Try.ntmps11
  go_wp2_with fail
  refine Calls.mono HG.out ?_
  rintro e w1 ⟨rfl, rfl⟩
  go_wp2
  go_loopw [5] (fun i wr => ∃ k : Nat, k ≤ n ∧ i = .int .i64 k ∧ Below w.heap.size w wr) (fun i _ => n - (intOf i).toNat)
  case atStart => exact ⟨0, Nat.zero_le _, rfl, Below.refl _ _⟩
  case round =>
    obtain ⟨k, hk, rfl, hB⟩ := hrel
    generalize wr = W at *
    have HB : Hid (Below w.heap.size w W) := hB
    have HPW : Hid _ := HP.out.below hB
    have HWW : Hid _ := rangeAt_below HW.out hB
    clear hB
    by_cases hlt : k < n
    · have hkI : (k : Int) < (n : Int) := by omega
      obtain ⟨r, hr⟩ : ∃ r, l[k]? = some r := ⟨_, List.getElem?_eq_getElem (by rw [HL.out]; exact hlt)⟩
      have hro := row_ok tb gb n cap k l r W HPW.out hr
      have HHO : Hid (∀ X, Below W.heap.size W X → Calls Try.prog 23 #[.pointer (some ⟨tb, 0, none⟩), .int .i64 (k : Int)] X fun e w' => e = .returned (.bool (r.st == 0)) ∧ X = w') := fun X hX => host_ok tb gb n cap k l r X (HPW.out.below hX) hr
      have hra := range_row HWW.out hr
      obtain ⟨st, ow, held⟩ := r
      unfold rV rL at hro
      have HRO : Hid _ := hro
      have HRA : Hid (W.rangeAt wb (k * 3) [.int .i64 st, .int .u64 (ow : Int), .int .i64 (held : Int)]) := hra
      clear hro hr hra
      simp only at HHO
      go_wp2_with fail
      refine Calls.mono HRO.out ?_
      rintro e W1 ⟨rfl, hb1⟩
      obtain ⟨W2, hW2⟩ : ∃ W2, W2 = W1.alloc (.cells #[.int .i64 st, .int .u64 (ow : Int), .int .i64 (held : Int)] 43 (0, 0)) := ⟨_, rfl⟩
      have hb2 : Below W.heap.size W W2 := by rw [hW2]; exact hb1.alloc hb1.size _
      have HR2 : Hid (W2.rangeAt W1.heap.size 0 [.int .i64 st, .int .u64 (ow : Int), .int .i64 (held : Int)]) := by rw [hW2]; exact rangeAt_row (cs := [.int .i64 st, .int .u64 (ow : Int), .int .i64 (held : Int)]) (heap_alloc_new _ _)
      have HRA2 : Hid _ := rangeAt_below HRA.out hb2
      have HHO2 : Hid (∀ X, Below W2.heap.size W2 X → Calls Try.prog 23 #[.pointer (some ⟨tb, 0, none⟩), .int .i64 (k : Int)] X fun e w' => e = .returned (.bool (st == 0)) ∧ X = w') := fun X hX => HHO.out X (hb2.trans (hX.mono hb2.size))
      have HB2 : Hid (Below w.heap.size w W2) := HB.out.trans (hb2.mono HB.out.size)
      clear hb1 hb2 HRO HHO HRA
      go_wp2_with fail
      rw [← hW2]
      clear hW2
      refine wp_region_held_drew (S := Below W2.heap.size W2) (by kernel_rfl) (below_drew _) (fun hHeld => ?_)
      refine wpAnyH_take (i := 0) (oi := { dst := some 29, op := Go.Op.move (Go.Operand.tmp 7), type := 25, pos := _, after := #[], guard := none }) (v := .int .i64 0) rfl (by kernel_rfl) (by kernel_rfl) (by kernel_rfl) (fun _ _ _ h => h) (Or.inl ⟨by rfl, fun w' hw' => ?_⟩) hHeld ?_
      · first | (go_simp; done) | (go_simp; rfl)
      try simp only [Act.put, List.setIfInBounds_toArray, List.set_cons_zero, List.set_cons_succ]
      refine wpAnyH_take (i := 1) (oi := { dst := some 30, op := Go.Op.binOp Go.BinOp.neq 25 (Go.Operand.tmp 29) (Go.Operand.const (Go.Value.int Go.IntKind.i64 0)) 25, type := 4, pos := _, after := #[{ on := 0, ground := Go.Ground.data }], guard := none }) (v := .bool false) rfl (by kernel_rfl) (by kernel_rfl) (by kernel_rfl) (fun _ _ _ h => h) (Or.inl ⟨by rfl, fun w' hw' => ?_⟩) hHeld ?_
      · first | (go_simp; done) | (go_simp; rfl)
      try simp only [Act.put, List.setIfInBounds_toArray, List.set_cons_zero, List.set_cons_succ]
      refine wpAnyH_take (i := 2) (oi := { dst := some 31, op := Go.Op.move (Go.Operand.tmp 30), type := 4, pos := _, after := #[{ on := 1, ground := Go.Ground.data }], guard := none }) (v := .bool false) rfl (by kernel_rfl) (by kernel_rfl) (by kernel_rfl) (fun _ _ _ h => h) (Or.inl ⟨by rfl, fun w' hw' => ?_⟩) hHeld ?_
      · first | (go_simp; done) | (go_simp; rfl)
      try simp only [Act.put, List.setIfInBounds_toArray, List.set_cons_zero, List.set_cons_succ]
      refine wpAnyH_take (i := 3) (oi := { dst := some 32, op := Go.Op.load 43 (Go.Operand.tmp 6), type := 43, pos := _, after := #[{ on := 2, ground := Go.Ground.guard }], guard := some (2, false) }) rfl (by kernel_rfl) (by kernel_rfl) (by kernel_rfl) (fun _ _ _ h => h) (yieldsIf_load_mid (by rfl) 43 (.tmp 6) rfl (W1.heap.size) (0) rfl ([.int .i64 st, .int .u64 (ow : Int), .int .i64 (held : Int)]) _ (fun _ h => rangeAt_below HR2.out h) Try.underlying43 rfl (info3 _ rfl)) hHeld ?_
      try simp only [Act.put, List.setIfInBounds_toArray, List.set_cons_zero, List.set_cons_succ]
      refine wpAnyH_take (i := 4) (oi := { dst := some 33, op := Go.Op.move (Go.Operand.tmp 1), type := 28, pos := _, after := #[{ on := 2, ground := Go.Ground.guard }], guard := some (2, false) }) (v := .slice (some ⟨wb, 0, none⟩) n kw) rfl (by kernel_rfl) (by kernel_rfl) (by kernel_rfl) (fun _ _ _ h => h) (Or.inl ⟨by rfl, fun w' hw' => ?_⟩) hHeld ?_
      · first | (go_simp; done) | (go_simp; rfl)
      try simp only [Act.put, List.setIfInBounds_toArray, List.set_cons_zero, List.set_cons_succ]
      refine wpAnyH_take (i := 5) (oi := { dst := some 34, op := Go.Op.move (Go.Operand.tmp 5), type := 3, pos := _, after := #[{ on := 2, ground := Go.Ground.guard }], guard := some (2, false) }) (v := .int .i64 (k : Int)) rfl (by kernel_rfl) (by kernel_rfl) (by kernel_rfl) (fun _ _ _ h => h) (Or.inl ⟨by rfl, fun w' hw' => ?_⟩) hHeld ?_
      · first | (go_simp; done) | (go_simp; rfl)
      try simp only [Act.put, List.setIfInBounds_toArray, List.set_cons_zero, List.set_cons_succ]
      refine wpAnyH_take (i := 6) (oi := { dst := some 35, op := Go.Op.indexAddr 28 (Go.Operand.tmp 33) (Go.Operand.tmp 34), type := 0, pos := _, after := #[{ on := 4, ground := Go.Ground.data }, { on := 5, ground := Go.Ground.data }, { on := 2, ground := Go.Ground.guard }], guard := some (2, false) }) (v := .pointer (some ⟨wb, k * 3, none⟩)) rfl (by kernel_rfl) (by kernel_rfl) (by kernel_rfl) (fun _ _ _ h => h) (Or.inl ⟨by rfl, fun w' hw' => ?_⟩) hHeld ?_
      · first | (go_simp; done) | (go_simp; rfl)
      try simp only [Act.put, List.setIfInBounds_toArray, List.set_cons_zero, List.set_cons_succ]
      refine wpAnyH_take (i := 7) (oi := { dst := some 36, op := Go.Op.load 43 (Go.Operand.tmp 35), type := 43, pos := _, after := #[{ on := 6, ground := Go.Ground.data }, { on := 2, ground := Go.Ground.guard }], guard := some (2, false) }) rfl (by kernel_rfl) (by kernel_rfl) (by kernel_rfl) (fun _ _ _ h => h) (yieldsIf_load_mid (by rfl) 43 (.tmp 35) rfl (wb) (k * 3) rfl ([.int .i64 st, .int .u64 (ow : Int), .int .i64 (held : Int)]) _ (fun _ h => rangeAt_below HRA2.out h) Try.underlying43 rfl (info3 _ rfl)) hHeld ?_
      try simp only [Act.put, List.setIfInBounds_toArray, List.set_cons_zero, List.set_cons_succ]
      refine wpAnyH_take (i := 8) (oi := { dst := some 37, op := Go.Op.binOp Go.BinOp.neq 43 (Go.Operand.tmp 32) (Go.Operand.tmp 36) 43, type := 4, pos := _, after := #[{ on := 3, ground := Go.Ground.data }, { on := 7, ground := Go.Ground.data }, { on := 2, ground := Go.Ground.guard }], guard := some (2, false) }) (v := .bool false) rfl (by kernel_rfl) (by kernel_rfl) (by kernel_rfl) (fun _ _ _ h => h) (Or.inl ⟨by rfl, fun w' hw' => ?_⟩) hHeld ?_
      · first | (go_simp; done) | (go_simp; rfl)
      try simp only [Act.put, List.setIfInBounds_toArray, List.set_cons_zero, List.set_cons_succ]
      refine wpAnyH_take (i := 9) (oi := { dst := some 38, op := Go.Op.pick (Go.Operand.tmp 31) (Go.Operand.const (Go.Value.bool true)) (Go.Operand.tmp 37), type := 4, pos := _, after := #[{ on := 2, ground := Go.Ground.data }, { on := 8, ground := Go.Ground.data }], guard := none }) (v := .bool false) rfl (by kernel_rfl) (by kernel_rfl) (by kernel_rfl) (fun _ _ _ h => h) (Or.inl ⟨by rfl, fun w' hw' => ?_⟩) hHeld ?_
      · first | (go_simp; done) | (go_simp; rfl)
      try simp only [Act.put, List.setIfInBounds_toArray, List.set_cons_zero, List.set_cons_succ]
      refine wpAnyH_take (i := 10) (oi := { dst := some 39, op := Go.Op.move (Go.Operand.tmp 38), type := 4, pos := _, after := #[{ on := 9, ground := Go.Ground.data }, { on := 2, ground := Go.Ground.chain }], guard := none }) (v := .bool false) rfl (by kernel_rfl) (by kernel_rfl) (by kernel_rfl) (fun _ _ _ h => h) (Or.inl ⟨by rfl, fun w' hw' => ?_⟩) hHeld ?_
      · first | (go_simp; done) | (go_simp; rfl)
      try simp only [Act.put, List.setIfInBounds_toArray, List.set_cons_zero, List.set_cons_succ]
      refine wpAnyH_take (i := 11) (oi := { dst := some 40, op := Go.Op.move (Go.Operand.tmp 0), type := 24, pos := _, after := #[{ on := 10, ground := Go.Ground.guard }], guard := some (10, false) }) (v := .pointer (some ⟨tb, 0, none⟩)) rfl (by kernel_rfl) (by kernel_rfl) (by kernel_rfl) (fun _ _ _ h => h) (Or.inl ⟨by rfl, fun w' hw' => ?_⟩) hHeld ?_
      · first | (go_simp; done) | (go_simp; rfl)
      try simp only [Act.put, List.setIfInBounds_toArray, List.set_cons_zero, List.set_cons_succ]
      refine wpAnyH_take (i := 12) (oi := { dst := some 41, op := Go.Op.move (Go.Operand.tmp 5), type := 3, pos := _, after := #[{ on := 10, ground := Go.Ground.guard }], guard := some (10, false) }) (v := .int .i64 (k : Int)) rfl (by kernel_rfl) (by kernel_rfl) (by kernel_rfl) (fun _ _ _ h => h) (Or.inl ⟨by rfl, fun w' hw' => ?_⟩) hHeld ?_
      · first | (go_simp; done) | (go_simp; rfl)
      try simp only [Act.put, List.setIfInBounds_toArray, List.set_cons_zero, List.set_cons_succ]
      refine wpAnyH_take (i := 14) (oi := { dst := some 43, op := Go.Op.move (Go.Operand.tmp 1), type := 28, pos := _, after := #[{ on := 10, ground := Go.Ground.guard }], guard := some (10, false) }) (v := .slice (some ⟨wb, 0, none⟩) n kw) rfl (by kernel_rfl) (by kernel_rfl) (by kernel_rfl) (fun _ _ _ h => h) (Or.inl ⟨by rfl, fun w' hw' => ?_⟩) hHeld ?_
      · first | (go_simp; done) | (go_simp; rfl)
      try simp only [Act.put, List.setIfInBounds_toArray, List.set_cons_zero, List.set_cons_succ]
      refine wpAnyH_take (i := 15) (oi := { dst := some 44, op := Go.Op.move (Go.Operand.tmp 5), type := 3, pos := _, after := #[{ on := 10, ground := Go.Ground.guard }], guard := some (10, false) }) (v := .int .i64 (k : Int)) rfl (by kernel_rfl) (by kernel_rfl) (by kernel_rfl) (fun _ _ _ h => h) (Or.inl ⟨by rfl, fun w' hw' => ?_⟩) hHeld ?_
      · first | (go_simp; done) | (go_simp; rfl)
      try simp only [Act.put, List.setIfInBounds_toArray, List.set_cons_zero, List.set_cons_succ]
      refine wpAnyH_take (i := 16) (oi := { dst := some 45, op := Go.Op.indexAddr 28 (Go.Operand.tmp 43) (Go.Operand.tmp 44), type := 0, pos := _, after := #[{ on := 14, ground := Go.Ground.data }, { on := 15, ground := Go.Ground.data }, { on := 10, ground := Go.Ground.guard }], guard := some (10, false) }) (v := .pointer (some ⟨wb, k * 3, none⟩)) rfl (by kernel_rfl) (by kernel_rfl) (by kernel_rfl) (fun _ _ _ h => h) (Or.inl ⟨by rfl, fun w' hw' => ?_⟩) hHeld ?_
      · first | (go_simp; done) | (go_simp; rfl)
      try simp only [Act.put, List.setIfInBounds_toArray, List.set_cons_zero, List.set_cons_succ]
      refine wpAnyH_take (i := 17) (oi := { dst := some 46, op := Go.Op.fieldAddr 43 (Go.Operand.tmp 45) 0, type := 0, pos := _, after := #[{ on := 16, ground := Go.Ground.data }, { on := 10, ground := Go.Ground.guard }], guard := some (10, false) }) (v := .pointer (some ⟨wb, k * 3, none⟩)) rfl (by kernel_rfl) (by kernel_rfl) (by kernel_rfl) (fun _ _ _ h => h) (Or.inl ⟨by rfl, fun w' hw' => ?_⟩) hHeld ?_
      · first | (go_simp; done) | (go_simp; rfl)
      try simp only [Act.put, List.setIfInBounds_toArray, List.set_cons_zero, List.set_cons_succ]
      refine wpAnyH_take (i := 18) (oi := { dst := some 47, op := Go.Op.load 31 (Go.Operand.tmp 46), type := 31, pos := _, after := #[{ on := 17, ground := Go.Ground.data }, { on := 10, ground := Go.Ground.guard }], guard := some (10, false) }) (v := .int .i64 st) rfl (by kernel_rfl) (by kernel_rfl) (by kernel_rfl) (fun _ _ _ h => h) (Or.inl ⟨by rfl, fun w' hw' => ?_⟩) hHeld ?_
      · have hcc := (range_cells (r := ⟨st, ow, held⟩) (rangeAt_below HRA2.out hw')).1; simp only at hcc; first | (go_simp; done) | (go_simp; rfl)
      try simp only [Act.put, List.setIfInBounds_toArray, List.set_cons_zero, List.set_cons_succ]
      refine wpAnyH_take (i := 19) (oi := { dst := some 48, op := Go.Op.binOp Go.BinOp.eql 31 (Go.Operand.tmp 47) (Go.Operand.const (Go.Value.int Go.IntKind.i64 0)) 31, type := 4, pos := _, after := #[{ on := 18, ground := Go.Ground.data }, { on := 10, ground := Go.Ground.guard }], guard := some (10, false) }) (v := .bool (st == 0)) rfl (by kernel_rfl) (by kernel_rfl) (by kernel_rfl) (fun _ _ _ h => h) (Or.inl ⟨by rfl, fun w' hw' => ?_⟩) hHeld ?_
      · first | (go_simp; done) | (go_simp; rfl)
      try simp only [Act.put, List.setIfInBounds_toArray, List.set_cons_zero, List.set_cons_succ]
      refine wpAnyH_ready (rs := [13]) (by kernel_rfl) (by simp) ?_
      refine AllReadyH.cons (o := { dst := some 42, op := Go.Op.call { callee := Go.Callee.value (Go.Operand.func 23), args := #[Go.Operand.tmp 40, Go.Operand.tmp 41], argTypes := #[24, 3] }, type := 4, pos := _, after := #[{ on := 11, ground := Go.Ground.data }, { on := 12, ground := Go.Ground.data }, { on := 10, ground := Go.Ground.chain }, { on := 10, ground := Go.Ground.guard }], guard := some (10, false) }) rfl (fun K hK => ?_) AllReadyH.nil
      rw [if_pos (by rfl)]
      go_wp2_with fail
      refine Calls.mono (HHO2.out _ hHeld) ?_
      rintro e V ⟨rfl, rfl⟩
      refine hK.out _ _ hHeld (fun _ => ?_)
      clear hK K
      try simp only [Act.put, List.setIfInBounds_toArray, List.set_cons_zero, List.set_cons_succ]
      refine wpAnyH_take (i := 20) (oi := { dst := some 49, op := Go.Op.binOp Go.BinOp.neq 4 (Go.Operand.tmp 42) (Go.Operand.tmp 48) 4, type := 4, pos := _, after := #[{ on := 13, ground := Go.Ground.data }, { on := 19, ground := Go.Ground.data }, { on := 10, ground := Go.Ground.guard }], guard := some (10, false) }) (v := .bool false) rfl (by kernel_rfl) (by kernel_rfl) (by kernel_rfl) (fun _ _ _ h => h) (Or.inl ⟨by rfl, fun w' hw' => ?_⟩) hHeld ?_
      · first | (go_simp; done) | (go_simp; rfl)
      try simp only [Act.put, List.setIfInBounds_toArray, List.set_cons_zero, List.set_cons_succ]
      refine wpAnyH_take (i := 21) (oi := { dst := some 50, op := Go.Op.pick (Go.Operand.tmp 39) (Go.Operand.const (Go.Value.bool true)) (Go.Operand.tmp 49), type := 4, pos := _, after := #[{ on := 10, ground := Go.Ground.data }, { on := 20, ground := Go.Ground.data }], guard := none }) (v := .bool false) rfl (by kernel_rfl) (by kernel_rfl) (by kernel_rfl) (fun _ _ _ h => h) (Or.inl ⟨by rfl, fun w' hw' => ?_⟩) hHeld ?_
      · first | (go_simp; done) | (go_simp; rfl)
      try simp only [Act.put, List.setIfInBounds_toArray, List.set_cons_zero, List.set_cons_succ]
      refine wpAnyH_done (by kernel_rfl) ?_ _
      have HB3 : Hid (Below w.heap.size w W2.drew) := HB2.out.drew
      clear hHeld
      go_wp2
      go_roundw
      case rel => exact ⟨k + 1, by omega, by go_num, HB3.out⟩
      case measure => simp [intOf]; omega
    · have hke : k = n := by omega
      subst hke
      have HRB : Hid (∀ X, Below W.heap.size W X → ∀ g : Int, (g < 0 ∨ (k : Int) ≤ g) → Calls Try.prog 19 #[.pointer (some ⟨tb, 0, none⟩), .int .i64 g] X fun e w' => e = .returned (.tuple #[.agg #[.int .i64 0, .int .u64 0, .int .i64 0], .int .i64 2]) ∧ Below X.heap.size X w') := fun X hX g hg => row_bad _ g 2 X (by decide) (fun Y hY => by
        have hc := ((HPW.out.below hX).below hY).cell
        have := fault_any tb k cap _ g Y hc HPW.out.pos
        rw [gF_bad hg] at this
        exact this)
      have HHB : Hid (∀ X, Below W.heap.size W X → ∀ g : Int, (g < 0 ∨ (k : Int) ≤ g) → Calls Try.prog 23 #[.pointer (some ⟨tb, 0, none⟩), .int .i64 g] X fun e w' => e = .returned (.bool false) ∧ X = w') := fun X hX g hg => host_bad _ g 2 X (by decide) (by
        have := fault_any tb k cap _ g X (HPW.out.below hX).cell HPW.out.pos
        rw [gF_bad hg] at this
        exact this)
      clear hk hlt
      go_wp2_with fail
      refine Calls.mono (HRB.out W (Below.refl _ _) (-1) (.inl (by decide))) ?_
      rintro e W1 ⟨rfl, hb1⟩
      obtain ⟨W2, hW2⟩ : ∃ W2, W2 = W1.alloc (.cells #[.int .i64 0, .int .u64 0, .int .i64 0] 43 (0, 0)) := ⟨_, rfl⟩
      have hb2 : Below W.heap.size W W2 := by rw [hW2]; exact hb1.alloc hb1.size _
      have HB2 : Hid _ := hb2
      clear hb1 hb2
      go_wp2_with fail
      rw [← hW2]
      clear hW2
      refine Calls.mono (HRB.out W2 HB2.out (k : Int) (.inr (Int.le_refl _))) ?_
      rintro e W3 ⟨rfl, hb3⟩
      obtain ⟨W4, hW4⟩ : ∃ W4, W4 = W3.alloc (.cells #[.int .i64 0, .int .u64 0, .int .i64 0] 43 (0, 0)) := ⟨_, rfl⟩
      have hb4 : Below W2.heap.size W2 W4 := by rw [hW4]; exact hb3.alloc hb3.size _
      have HB4 : Hid (Below W.heap.size W W4) := HB2.out.trans (hb4.mono HB2.out.size)
      clear hb3 hb4
      go_wp2_with fail
      rw [← hW4]
      clear hW4
      refine Calls.mono (HHB.out W4 HB4.out (-1) (.inl (by decide))) ?_
      rintro e X ⟨rfl, rfl⟩
      go_wp2_with fail
      refine Calls.mono (HHB.out W4 HB4.out (k : Int) (.inr (Int.le_refl _))) ?_
      rintro e X ⟨rfl, rfl⟩
      have HBF : Hid (Below w.heap.size w W4) := HB.out.trans (HB4.out.mono HB.out.size)
      go_wp2
      go_ret
      exact ⟨rfl, HBF.out⟩
/-- A list of acts in memory. -/
def HAc (w : World) (v : Value) (ls : List Ac) : Prop :=
  ∃ p cap, v = .slice p ls.length cap ∧ ∀ i a, ls[i]? = some a → ∃ g o, p = some ⟨g, o, none⟩ ∧ w.rangeAt g (o + i * 5) (acL a) ∧ a.ok
theorem hac_below {w w' : World} {v : Value} {ls : List Ac} (h : HAc w v ls) (hb : Below w.heap.size w w') : HAc w' v ls := by
  obtain ⟨p, cap, e, h1⟩ := h
  refine ⟨p, cap, e, fun i a ha => ?_⟩
  obtain ⟨g, o, e1, h2, h3⟩ := h1 i a ha
  exact ⟨g, o, e1, rangeAt_below h2 hb, h3⟩
section
variable {H : Type} {enc : TypeId × Value → H} {w : World} {base : Nat} {held : Bool}
theorem split5 {l : List Value} (h : l.length = 5) : ∃ a b c d e, l = [a, b, c, d, e] := by
  match l, h with
  | [a, b, c, d, e], _ => exact ⟨a, b, c, d, e, rfl⟩
theorem open_acc {cs : List Value} {fuel : Nat} {x : DataW H × List MemPlace} (h : DataW.trod enc Try.prog w base (fun _ => true) held fuel 34 cs = some x) :
    ∃ a, cs = acL a ∧ a.ok := by
  cases fuel with
  | zero => simp [DataW.trod] at h
  | succ m =>
    rw [DataW.trod_step] at h
    unfold DataW.trodStep at h
    simp only [Try.underlying34] at h
    have hcell : Try.prog.cellsOf 34 = 5 := by kernel_rfl
    have c0 : Try.prog.cellsOf 3 = 1 := by kernel_rfl
    have c1 : Try.prog.cellsOf 32 = 1 := by kernel_rfl
    have c2 : Try.prog.cellsOf 31 = 1 := by kernel_rfl
    by_cases hl : cs.length = Try.prog.cellsOf 34
    · rw [if_pos hl] at h
      rw [hcell] at hl
      obtain ⟨v0, v1, v2, v3, v4, rfl⟩ := split5 hl
      simp only [Option.map_eq_some_iff, List.mapM_cons, List.mapM_nil, bind, Option.bind_eq_some_iff, pure, Option.some.injEq, c0, c1, c2] at h
      obtain ⟨ys, ⟨y0, h0, z0, ⟨y1, h1, z1, ⟨y2, h2, z2, ⟨y3, h3, z3, ⟨y4, h4, _⟩, _⟩, _⟩, _⟩, _⟩, _⟩ := h
      obtain ⟨k, f0, _, w0⟩ := DataW.trod_int Try.underlying3 h0
      obtain ⟨g, f1, _, w1⟩ := DataW.trod_int Try.underlying3 h1
      obtain ⟨fr, f2, _, w2⟩ := DataW.trod_int Try.underlying31 h2
      obtain ⟨tt, f3, _, w3⟩ := DataW.trod_int Try.underlying31 h3
      obtain ⟨oo, f4, _, w4⟩ := DataW.trod_int Try.underlying32 h4
      have g0 : v0 = .int .i64 k := (List.cons.inj f0).1
      have g1 : v1 = .int .i64 g := (List.cons.inj f1).1
      have g2 : v2 = .int .i64 fr := (List.cons.inj f2).1
      have g3 : v3 = .int .i64 tt := (List.cons.inj f3).1
      have g4 : v4 = .int .u64 oo := (List.cons.inj f4).1
      have b4 := bounds_u64 w4
      refine ⟨⟨k, g, fr, tt, oo.toNat⟩, ?_, ⟨w2, w3⟩⟩
      unfold acL
      rw [g0, g1, g2, g3, g4, show ((oo.toNat : Nat) : Int) = oo by omega]
    · rw [if_neg hl] at h; cases h
theorem choose_nat {α : Type} {n : Nat} {p : Nat → α → Prop} (h : ∀ i, i < n → ∃ x, p i x) : ∃ l : List α, l.length = n ∧ ∀ i x, l[i]? = some x → p i x := by
  induction n with
  | zero => exact ⟨[], rfl, fun i x hx => by simp at hx⟩
  | succ n ih =>
    obtain ⟨l, h1, h2⟩ := ih (fun i hi => h i (by omega))
    obtain ⟨x, hx⟩ := h n (by omega)
    refine ⟨l ++ [x], by simp [h1], fun i y hy => ?_⟩
    rcases Nat.lt_or_ge i l.length with hi | hi
    · rw [List.getElem?_append_left hi] at hy; exact h2 i y hy
    · rw [List.getElem?_append_right hi] at hy
      have hi0 : i - l.length = 0 := by have := (List.getElem?_eq_some_iff.1 hy).1; simp at this; omega
      rw [hi0] at hy
      have e : x = y := by simpa using hy
      have e2 : i = n := by omega
      rw [← e, e2]; exact hx
theorem cells_range {W : World} {base : Nat} {g o : Nat} {n : Nat} {cs : List Value} (h : W.cells? base ⟨g, o, none⟩ n = some cs) : W.rangeAt g o cs := fun j v hv => by
  obtain ⟨_, h2, h3⟩ := World.cells?_some h
  have hj : j < n := by rw [← h2]; exact (List.getElem?_eq_some_iff.1 hv).1
  have := h3 j hj
  rw [add_none] at this
  rw [this, hv]
theorem spot_none {W : World} {base : Nat} {g o : Nat} {sp : Option Nat} {k n : Nat} {cs : List Value} (hn : 0 < n) (h : W.cells? base ((⟨g, o, sp⟩ : Addr).add (0 * k)) n = some cs) : sp = none := by
  obtain ⟨_, h2, h3⟩ := World.cells?_some h
  have h0 := h3 0 hn
  have hl : 0 < cs.length := by omega
  rw [List.getElem?_eq_getElem hl] at h0
  have hs := World.cell?_spot h0
  cases sp with
  | none => rfl
  | some t =>
    exfalso
    simp [Addr.add] at hs
theorem open_acts {v : Value} {fuel : Nat} {x : DataW H × List MemPlace} (h : DataW.trod enc Try.prog w base (fun _ => true) held fuel 22 [v] = some x) : ∃ ls, HAc w v ls ∧ ls.length ≤ 9223372036854775807 := by
  have hcell : Try.prog.cellsOf 34 = 5 := by kernel_rfl
  rcases Go.Deep.open_slice Try.underlying22 h with ⟨hcs, _⟩ | ⟨a, len, cap, m, n, D, Pl, hcs, hb, hl, hm, hmm, _, hr⟩
  · simp only [List.cons.injEq, and_true] at hcs
    subst hcs
    exact ⟨[], ⟨none, 0, rfl, fun i a ha => by simp at ha⟩, by decide⟩
  · simp only [List.cons.injEq, and_true] at hcs
    subst hcs
    simp only [if_true] at hmm
    rw [hcell] at hr
    obtain ⟨g, o, sp⟩ := a
    have hsp : 0 < len → sp = none := fun h0 => by
      obtain ⟨cs', h1, _⟩ := hr 0 (by omega)
      exact spot_none (by omega) h1
    obtain ⟨ls, h1, h2⟩ := choose_nat (n := len) (p := fun i (a : Ac) => w.rangeAt g (o + i * 5) (acL a) ∧ a.ok) (fun i hi => by
      obtain ⟨cs', h1, h2⟩ := hr i (by omega)
      obtain ⟨a, e1, rest⟩ := open_acc h2
      have hs := hsp (by omega)
      subst hs
      rw [add_none] at h1
      exact ⟨a, by rw [← e1]; exact cells_range h1, rest⟩)
    refine ⟨ls, ⟨some ⟨g, o, sp⟩, cap, by rw [h1], fun i a ha => ?_⟩, by unfold maxLen at hm; omega⟩
    have hi : i < len := by rw [← h1]; exact (List.getElem?_eq_some_iff.1 ha).1
    exact ⟨g, o, by rw [hsp (by omega)], h2 i a ha⟩
end
end Go.Proofs.Ytpmbbnmpldeajaa.GC
