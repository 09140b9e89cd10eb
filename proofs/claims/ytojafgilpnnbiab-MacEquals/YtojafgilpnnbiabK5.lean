/- MacEquals: for any two digests, the statement's function answers true and leaves its arguments as they were. No condition. -/
import Derived.Test.YtojafgilpnnbiabJ5
import Derived.Test.YtojafgilpnnbiabO4
import Derived.Test.YtojafgilpnnbiabRows
import Derived.WalkKit
import Derived.ProofKit
import Derived.OpenShut
import Derived.Carry
set_option linter.unusedVariables false
set_option linter.unusedSimpArgs false
namespace Go.Proofs.Ytojafgilpnnbiab.macEquals
open Go.ChangeShapes Go.WideShapes Go.ChangeAt Go.RowKit

theorem own : ownKnob Try.prog.godebug = none := by kernel_rfl
theorem laidOut : laidOutB Try.prog = true := by kernel_rfl
abbrev Z16 : Array Value := #[.int .u8 0, .int .u8 0, .int .u8 0, .int .u8 0, .int .u8 0, .int .u8 0, .int .u8 0, .int .u8 0, .int .u8 0, .int .u8 0, .int .u8 0, .int .u8 0, .int .u8 0, .int .u8 0, .int .u8 0, .int .u8 0]

theorem upon_store2 {o : Oper} {a : Act} {K : Act → World → Prop} {Q : Exit → Act → World → Prop} {W : World} (g : Nat) (cs old : Array Value) (t : TypeId) (hg : W.heap[g]? = some (.cells old t (0, 0))) (hsz : old.size = cs.size) (h1 : cs.all (·.oneCell') = true)
    (h : ∀ W', Hid (W'.heap[g]? = some (.cells cs t (0, 0))) → Hid (∀ j, j ≠ g → W'.heap[j]? = W.heap[j]?) → Below g W W' → Oper.upon Try.prog o a K Q (.ok .skip W')) :
    Oper.upon Try.prog o a K Q (((storeCells ⟨g, 0, none⟩ cs.toList).run Try.prog W).andThen fun _ w' => .ok .skip w') := by
  have h1' : ∀ v ∈ cs.toList, v.oneCell' = true := fun v hv => by
    rw [Array.all_eq_true_iff_forall_mem] at h1
    exact h1 v (by simpa using hv)
  rw [run_storeCells_at Try.prog g 0 t cs.toList 0 old W hg (by simp; omega) h1']
  have e : (old.toList.take (0 + 0) ++ cs.toList ++ old.toList.drop (0 + 0 + cs.toList.length)).toArray = cs := by
    rw [← Array.toList_inj]
    simp [hsz]
  rw [e]
  exact h _ (setRow_heap _ _ _ _ _ _ hg) (fun j hj => setRow_other _ _ _ _ hj) (below_setRow (Below.refl _ _) (Nat.le_refl _) _)

theorem eql_half (w : World) (xs : List UInt8) (hx : xs.length = 16) : (binOp .eql 28 (.agg (xs.map B8).toArray) (.agg (xs.map B8).toArray)).run Try.prog w = .ok (.bool true) w := by
  have := run_eql_bytes (P := Try.prog) w 28 5 16 Try.underlying28 Try.underlying5 size_u8 xs xs hx hx
  rw [show (xs == xs) = true by simp] at this
  exact this

/-- What stays while the law runs. -/
def LS (w : World) (AL BL D1 D2 : List Value) (x y v u : Nat) (w' : World) : Prop :=
  w'.rangeAt w.heap.size 0 AL ∧ w'.rangeAt (w.heap.size + 1) 0 BL ∧ w'.rangeAt x 0 D1 ∧ w'.rangeAt y 0 D2 ∧ w'.rangeAt v 0 D1 ∧ w'.rangeAt u 0 D2 ∧ Below w.heap.size w w'
theorem LS.below {w a b : World} {AL BL D1 D2 : List Value} {x y v u : Nat} (h : LS w AL BL D1 D2 x y v u a) (hb : Below a.heap.size a b) : LS w AL BL D1 D2 x y v u b := by
  obtain ⟨h1, h2, h3, h4, h5, h6, h7⟩ := h
  exact ⟨rangeAt_below h1 hb, rangeAt_below h2 hb, rangeAt_below h3 hb, rangeAt_below h4 hb, rangeAt_below h5 hb, rangeAt_below h6 hb, h7.trans (hb.mono h7.size)⟩

set_option maxHeartbeats 8000000 in
set_option maxRecDepth 100000 in
theorem walk (a b : List UInt8) (w : World) (ha : a.length = 32) (hb : b.length = 32) :
    Calls Try.prog 4 #[.agg (a.map B8).toArray, .agg (b.map B8).toArray] w fun e w' => e = .returned (.bool true) ∧ Below w.heap.size w w' := by
  have hn := fun W => known_any W
  have hh := fun W => half_any a W ha
  have hr := fun W => refHalf_any a W ha
  have he := fun W => equal_any a b W ha hb
  have hq := fun W => eql_digest W a b ha hb
  have hq1 := fun W => eql_half W (a.take 16) (by simp [ha])
  have hq2 := fun W => eql_half W (a.drop 16) (by simp [ha])
  generalize (a == b) = R at *
  obtain ⟨AL, hAL⟩ : ∃ AL, AL = a.map B8 := ⟨_, rfl⟩
  obtain ⟨BL, hBL⟩ : ∃ BL, BL = b.map B8 := ⟨_, rfl⟩
  obtain ⟨D1, hD1⟩ : ∃ D1, D1 = (a.take 16).map B8 := ⟨_, rfl⟩
  obtain ⟨D2, hD2⟩ : ∃ D2, D2 = (a.drop 16).map B8 := ⟨_, rfl⟩
  have hl1 : D1.length = 16 := by rw [hD1]; simp [ha]
  have hl2 : D2.length = 16 := by rw [hD2]; simp [ha]
  have hiA : (Try.prog.info? 24).map (·.size) = some AL.length := by rw [hAL, List.length_map, ha]; kernel_rfl
  have hiB : (Try.prog.info? 24).map (·.size) = some BL.length := by rw [hBL, List.length_map, hb]; kernel_rfl
  have hi1 : (Try.prog.info? 28).map (·.size) = some D1.length := by rw [hl1]; kernel_rfl
  have hi2 : (Try.prog.info? 28).map (·.size) = some D2.length := by rw [hl2]; kernel_rfl
  have hu := Try.underlying24
  have hu6 := Try.underlying28
  have HA1 : Hid (D1.toArray.all (·.oneCell') = true) := by show _ = _; rw [hD1]; exact B8_onea _
  have HA2 : Hid (D2.toArray.all (·.oneCell') = true) := by show _ = _; rw [hD2]; exact B8_onea _
  have HS1 : Hid ((16 : Nat) = D1.toArray.size) := by show _ = _; rw [List.size_toArray, hl1]
  have HS2 : Hid ((16 : Nat) = D2.toArray.size) := by show _ = _; rw [List.size_toArray, hl2]
  have hs1 : D1.toArray.size = 16 := HS1.out.symm
  have hs2 : D2.toArray.size = 16 := HS2.out.symm
  have HIA : Hid ((Try.prog.info? 24).map (·.size) = some AL.toArray.size) := hiA
  simp only [← hAL, ← hBL, ← hD1, ← hD2] at hh hr he hq hq1 hq2 ⊢
  clear hAL hBL hD1 hD2 ha hb hl1 hl2
  go_enter Try.func4, Try.ntmps4
  go_wp2_with (refine wpList_load_row rfl 24 _ rfl w.heap.size rfl 24 AL.toArray (0, 0) _ (alloc2_first _ _ _) Try.underlying24 rfl HIA.out ?_)
  refine (hh _).mono ?_
  rintro e w1 ⟨rfl, hb1⟩
  have hz1 : w.heap.size + 2 ≤ w1.heap.size := by have := hb1.size; simp at this; omega
  have GA : Hid (w1.heap[w.heap.size]? = some (.cells AL.toArray 24 (0, 0))) := below_blk hb1 (by simp; omega) (alloc2_first _ _ _)
  have GB : Hid (w1.heap[w.heap.size + 1]? = some (.cells BL.toArray 24 (0, 0))) := below_blk hb1 (by simp) (heap_alloc2_new _ _ _)
  have hbw1 : Below w.heap.size w w1 := (((Below.refl _ _).alloc (Nat.le_refl _) _).alloc (by simp) _).trans (hb1.mono (by simp; omega))
  clear hb1 hh
  go_wp2_with fail
  refine upon_store2 w1.heap.size D1.toArray Z16 28 (alloc2_first _ _ _) HS1.out HA1.out ?_
  intro wA HX HOA hbA
  go_wp2_with fail
  refine upon_store2 (w1.heap.size + 1) D2.toArray Z16 28 ((HOA.out _ (by omega)).trans (heap_alloc2_new _ _ _)) HS2.out HA2.out ?_
  intro wB HY HOB hbB
  have cB : Below w1.heap.size w1 wB := (((Below.refl _ _).alloc (Nat.le_refl _) _).alloc (by simp) _).trans (hbA.trans (hbB.mono (by omega)))
  have GAB : Hid _ := (cB.block w.heap.size (by omega)).trans GA.out
  have GBB : Hid _ := (cB.block (w.heap.size + 1) (by omega)).trans GB.out
  have HXB : Hid _ := (HOB.out w1.heap.size (by omega)).trans HX.out
  have hszB : w1.heap.size + 2 ≤ wB.heap.size := by have := row_lt HY.out; omega
  have hbwB : Below w.heap.size w wB := hbw1.trans (cB.mono (by omega))
  clear hbA hbB cB HX HOA HOB GA GB hbw1
  go_wp2_with (refine wpList_load_row rfl 24 _ rfl w.heap.size rfl 24 AL.toArray (0, 0) _ GAB.out Try.underlying24 rfl HIA.out ?_)
  refine (hr _).mono ?_
  rintro e w2 ⟨rfl, hb2⟩
  have hz2 := hb2.size
  have GA2 : Hid _ := (hb2.block w.heap.size (by omega)).trans GAB.out
  have GB2 : Hid _ := (hb2.block (w.heap.size + 1) (by omega)).trans GBB.out
  have HX2 : Hid _ := (hb2.block w1.heap.size (by omega)).trans HXB.out
  have HY2 : Hid _ := (hb2.block (w1.heap.size + 1) (by omega)).trans HY.out
  have hbw2 : Below w.heap.size w w2 := hbwB.trans (hb2.mono (by omega))
  clear hb2 hr GAB GBB HXB HY hbwB
  go_wp2_with fail
  refine upon_store2 w2.heap.size D1.toArray Z16 28 (alloc2_first _ _ _) HS1.out HA1.out ?_
  intro wC HV HOC hbC
  go_wp2_with fail
  refine upon_store2 (w2.heap.size + 1) D2.toArray Z16 28 ((HOC.out _ (by omega)).trans (heap_alloc2_new _ _ _)) HS2.out HA2.out ?_
  intro wD HU HOD hbD
  have cD : Below w2.heap.size w2 wD := (((Below.refl _ _).alloc (Nat.le_refl _) _).alloc (by simp) _).trans (hbC.trans (hbD.mono (by omega)))
  have HLS : Hid (LS w AL BL D1 D2 w1.heap.size (w1.heap.size + 1) w2.heap.size (w2.heap.size + 1) wD.drew) :=
    ⟨rangeAt_row (by rw [heap_drew]; exact (cD.block _ (by omega)).trans GA2.out), rangeAt_row (by rw [heap_drew]; exact (cD.block _ (by omega)).trans GB2.out), rangeAt_row (by rw [heap_drew]; exact (cD.block _ (by omega)).trans HX2.out), rangeAt_row (by rw [heap_drew]; exact (cD.block _ (by omega)).trans HY2.out), rangeAt_row (by rw [heap_drew]; exact (HOD.out _ (by omega)).trans HV.out), rangeAt_row (by rw [heap_drew]; exact HU.out), (hbw2.trans (cD.mono (by omega))).drew⟩
  clear hbC hbD cD HV HOC HU HOD GA2 GB2 HX2 HY2 hbw2
  go_wp2
  refine wp_region_held_drew (S := LS w AL BL D1 D2 w1.heap.size (w1.heap.size + 1) w2.heap.size (w2.heap.size + 1)) (by kernel_rfl) HLS.out (fun hHeld => ?_)
  refine wpAnyH_take (i := 0) (oi := { dst := some 19, op := Go.Op.load 24 (Go.Operand.tmp 2), type := 24, pos := _, after := #[], guard := none }) rfl (by kernel_rfl) (by kernel_rfl) (by kernel_rfl) (fun _ _ _ h => h) (yieldsIf_load_mid (by rfl) 24 (.tmp 2) rfl (w.heap.size) (0) rfl (AL) _ (fun _ h => h.1) hu rfl hiA) hHeld ?_
  try simp only [Act.put, List.setIfInBounds_toArray, List.set_cons_zero, List.set_cons_succ]
  refine wpAnyH_take (i := 1) (oi := { dst := some 20, op := Go.Op.load 24 (Go.Operand.tmp 3), type := 24, pos := _, after := #[], guard := none }) rfl (by kernel_rfl) (by kernel_rfl) (by kernel_rfl) (fun _ _ _ h => h) (yieldsIf_load_mid (by rfl) 24 (.tmp 3) rfl (w.heap.size + 1) (0) rfl (BL) _ (fun _ h => h.2.1) hu rfl hiB) hHeld ?_
  try simp only [Act.put, List.setIfInBounds_toArray, List.set_cons_zero, List.set_cons_succ]
  refine wpAnyH_take (i := 3) (oi := { dst := some 22, op := Go.Op.load 24 (Go.Operand.tmp 2), type := 24, pos := _, after := #[], guard := none }) rfl (by kernel_rfl) (by kernel_rfl) (by kernel_rfl) (fun _ _ _ h => h) (yieldsIf_load_mid (by rfl) 24 (.tmp 2) rfl (w.heap.size) (0) rfl (AL) _ (fun _ h => h.1) hu rfl hiA) hHeld ?_
  try simp only [Act.put, List.setIfInBounds_toArray, List.set_cons_zero, List.set_cons_succ]
  refine wpAnyH_take (i := 4) (oi := { dst := some 23, op := Go.Op.load 24 (Go.Operand.tmp 3), type := 24, pos := _, after := #[], guard := none }) rfl (by kernel_rfl) (by kernel_rfl) (by kernel_rfl) (fun _ _ _ h => h) (yieldsIf_load_mid (by rfl) 24 (.tmp 3) rfl (w.heap.size + 1) (0) rfl (BL) _ (fun _ h => h.2.1) hu rfl hiB) hHeld ?_
  try simp only [Act.put, List.setIfInBounds_toArray, List.set_cons_zero, List.set_cons_succ]
  refine wpAnyH_take (i := 5) (oi := { dst := some 24, op := Go.Op.binOp Go.BinOp.eql 24 (Go.Operand.tmp 22) (Go.Operand.tmp 23) 24, type := 4, pos := _, after := #[{ on := 3, ground := Go.Ground.data }, { on := 4, ground := Go.Ground.data }], guard := none }) (v := .bool R) rfl (by kernel_rfl) (by kernel_rfl) (by kernel_rfl) (fun _ _ _ h => h) (Or.inl ⟨by rfl, fun w' hw' => ?_⟩) hHeld ?_
  · first | (go_simp; done) | (go_simp; rfl)
  try simp only [Act.put, List.setIfInBounds_toArray, List.set_cons_zero, List.set_cons_succ]
  refine wpAnyH_ready (rs := [2]) (by kernel_rfl) (by simp) ?_
  refine AllReadyH.cons (o := { dst := some 21, op := Go.Op.call { callee := Go.Callee.value (Go.Operand.func 14), args := #[Go.Operand.tmp 19, Go.Operand.tmp 20], argTypes := #[24, 24] }, type := 4, pos := _, after := #[{ on := 0, ground := Go.Ground.data }, { on := 1, ground := Go.Ground.data }], guard := none }) rfl (fun K hK => ?_) AllReadyH.nil
  rw [if_pos (by rfl)]
  go_wp2_with fail
  refine (he _).mono ?_
  rintro e w3 ⟨rfl, hb3⟩
  have hHeld3 := LS.below hHeld hb3
  clear hb3
  refine hK.out _ _ hHeld3 (fun _ => ?_)
  clear hK K
  try simp only [Act.put, List.setIfInBounds_toArray, List.set_cons_zero, List.set_cons_succ]
  have hHeld := hHeld3
  refine wpAnyH_take (i := 6) (oi := { dst := some 25, op := Go.Op.binOp Go.BinOp.eql 4 (Go.Operand.tmp 21) (Go.Operand.tmp 24) 4, type := 4, pos := _, after := #[{ on := 2, ground := Go.Ground.data }, { on := 5, ground := Go.Ground.data }], guard := none }) (v := .bool true) rfl (by kernel_rfl) (by kernel_rfl) (by kernel_rfl) (fun _ _ _ h => h) (Or.inl ⟨by rfl, fun w' hw' => ?_⟩) hHeld ?_
  · first | (go_simp; done) | (go_simp; rfl)
  try simp only [Act.put, List.setIfInBounds_toArray, List.set_cons_zero, List.set_cons_succ]
  refine wpAnyH_take (i := 7) (oi := { dst := some 26, op := Go.Op.move (Go.Operand.tmp 25), type := 4, pos := _, after := #[{ on := 6, ground := Go.Ground.data }, { on := 2, ground := Go.Ground.chain }], guard := none }) (v := .bool true) rfl (by kernel_rfl) (by kernel_rfl) (by kernel_rfl) (fun _ _ _ h => h) (Or.inl ⟨by rfl, fun w' hw' => ?_⟩) hHeld ?_
  · first | (go_simp; done) | (go_simp; rfl)
  try simp only [Act.put, List.setIfInBounds_toArray, List.set_cons_zero, List.set_cons_succ]
  refine wpAnyH_take (i := 8) (oi := { dst := some 27, op := Go.Op.load 28 (Go.Operand.tmp 5), type := 28, pos := _, after := #[{ on := 7, ground := Go.Ground.guard }], guard := some (7, true) }) rfl (by kernel_rfl) (by kernel_rfl) (by kernel_rfl) (fun _ _ _ h => h) (yieldsIf_load_mid (by rfl) 28 (.tmp 5) rfl (w1.heap.size) (0) rfl (D1) _ (fun _ h => h.2.2.1) hu6 rfl hi1) hHeld ?_
  try simp only [Act.put, List.setIfInBounds_toArray, List.set_cons_zero, List.set_cons_succ]
  refine wpAnyH_take (i := 9) (oi := { dst := some 28, op := Go.Op.load 28 (Go.Operand.tmp 7), type := 28, pos := _, after := #[{ on := 7, ground := Go.Ground.guard }], guard := some (7, true) }) rfl (by kernel_rfl) (by kernel_rfl) (by kernel_rfl) (fun _ _ _ h => h) (yieldsIf_load_mid (by rfl) 28 (.tmp 7) rfl (w2.heap.size) (0) rfl (D1) _ (fun _ h => h.2.2.2.2.1) hu6 rfl hi1) hHeld ?_
  try simp only [Act.put, List.setIfInBounds_toArray, List.set_cons_zero, List.set_cons_succ]
  refine wpAnyH_take (i := 10) (oi := { dst := some 29, op := Go.Op.binOp Go.BinOp.eql 28 (Go.Operand.tmp 27) (Go.Operand.tmp 28) 28, type := 4, pos := _, after := #[{ on := 8, ground := Go.Ground.data }, { on := 9, ground := Go.Ground.data }, { on := 7, ground := Go.Ground.guard }], guard := some (7, true) }) (v := .bool true) rfl (by kernel_rfl) (by kernel_rfl) (by kernel_rfl) (fun _ _ _ h => h) (Or.inl ⟨by rfl, fun w' hw' => ?_⟩) hHeld ?_
  · first | (go_simp; done) | (go_simp; rfl)
  try simp only [Act.put, List.setIfInBounds_toArray, List.set_cons_zero, List.set_cons_succ]
  refine wpAnyH_take (i := 11) (oi := { dst := some 30, op := Go.Op.pick (Go.Operand.tmp 26) (Go.Operand.tmp 29) (Go.Operand.const (Go.Value.bool false)), type := 4, pos := _, after := #[{ on := 7, ground := Go.Ground.data }, { on := 10, ground := Go.Ground.data }], guard := none }) (v := .bool true) rfl (by kernel_rfl) (by kernel_rfl) (by kernel_rfl) (fun _ _ _ h => h) (Or.inl ⟨by rfl, fun w' hw' => ?_⟩) hHeld ?_
  · first | (go_simp; done) | (go_simp; rfl)
  try simp only [Act.put, List.setIfInBounds_toArray, List.set_cons_zero, List.set_cons_succ]
  refine wpAnyH_take (i := 12) (oi := { dst := some 31, op := Go.Op.move (Go.Operand.tmp 30), type := 4, pos := _, after := #[{ on := 11, ground := Go.Ground.data }, { on := 7, ground := Go.Ground.chain }], guard := none }) (v := .bool true) rfl (by kernel_rfl) (by kernel_rfl) (by kernel_rfl) (fun _ _ _ h => h) (Or.inl ⟨by rfl, fun w' hw' => ?_⟩) hHeld ?_
  · first | (go_simp; done) | (go_simp; rfl)
  try simp only [Act.put, List.setIfInBounds_toArray, List.set_cons_zero, List.set_cons_succ]
  refine wpAnyH_take (i := 13) (oi := { dst := some 32, op := Go.Op.load 28 (Go.Operand.tmp 6), type := 28, pos := _, after := #[{ on := 12, ground := Go.Ground.guard }], guard := some (12, true) }) rfl (by kernel_rfl) (by kernel_rfl) (by kernel_rfl) (fun _ _ _ h => h) (yieldsIf_load_mid (by rfl) 28 (.tmp 6) rfl (w1.heap.size + 1) (0) rfl (D2) _ (fun _ h => h.2.2.2.1) hu6 rfl hi2) hHeld ?_
  try simp only [Act.put, List.setIfInBounds_toArray, List.set_cons_zero, List.set_cons_succ]
  refine wpAnyH_take (i := 14) (oi := { dst := some 33, op := Go.Op.load 28 (Go.Operand.tmp 8), type := 28, pos := _, after := #[{ on := 12, ground := Go.Ground.guard }], guard := some (12, true) }) rfl (by kernel_rfl) (by kernel_rfl) (by kernel_rfl) (fun _ _ _ h => h) (yieldsIf_load_mid (by rfl) 28 (.tmp 8) rfl (w2.heap.size + 1) (0) rfl (D2) _ (fun _ h => h.2.2.2.2.2.1) hu6 rfl hi2) hHeld ?_
  try simp only [Act.put, List.setIfInBounds_toArray, List.set_cons_zero, List.set_cons_succ]
  refine wpAnyH_take (i := 15) (oi := { dst := some 34, op := Go.Op.binOp Go.BinOp.eql 28 (Go.Operand.tmp 32) (Go.Operand.tmp 33) 28, type := 4, pos := _, after := #[{ on := 13, ground := Go.Ground.data }, { on := 14, ground := Go.Ground.data }, { on := 12, ground := Go.Ground.guard }], guard := some (12, true) }) (v := .bool true) rfl (by kernel_rfl) (by kernel_rfl) (by kernel_rfl) (fun _ _ _ h => h) (Or.inl ⟨by rfl, fun w' hw' => ?_⟩) hHeld ?_
  · first | (go_simp; done) | (go_simp; rfl)
  try simp only [Act.put, List.setIfInBounds_toArray, List.set_cons_zero, List.set_cons_succ]
  refine wpAnyH_take (i := 16) (oi := { dst := some 35, op := Go.Op.pick (Go.Operand.tmp 31) (Go.Operand.tmp 34) (Go.Operand.const (Go.Value.bool false)), type := 4, pos := _, after := #[{ on := 12, ground := Go.Ground.data }, { on := 15, ground := Go.Ground.data }], guard := none }) (v := .bool true) rfl (by kernel_rfl) (by kernel_rfl) (by kernel_rfl) (fun _ _ _ h => h) (Or.inl ⟨by rfl, fun w' hw' => ?_⟩) hHeld ?_
  · first | (go_simp; done) | (go_simp; rfl)
  try simp only [Act.put, List.setIfInBounds_toArray, List.set_cons_zero, List.set_cons_succ]
  refine wpAnyH_take (i := 17) (oi := { dst := some 36, op := Go.Op.move (Go.Operand.tmp 35), type := 4, pos := _, after := #[{ on := 16, ground := Go.Ground.data }, { on := 12, ground := Go.Ground.chain }], guard := none }) (v := .bool true) rfl (by kernel_rfl) (by kernel_rfl) (by kernel_rfl) (fun _ _ _ h => h) (Or.inl ⟨by rfl, fun w' hw' => ?_⟩) hHeld ?_
  · first | (go_simp; done) | (go_simp; rfl)
  try simp only [Act.put, List.setIfInBounds_toArray, List.set_cons_zero, List.set_cons_succ]
  refine wpAnyH_ready (rs := [18]) (by kernel_rfl) (by simp) ?_
  refine AllReadyH.cons (o := { dst := some 37, op := Go.Op.call { callee := Go.Callee.value (Go.Operand.func 8), args := #[], argTypes := #[] }, type := 4, pos := _, after := #[{ on := 17, ground := Go.Ground.chain }, { on := 17, ground := Go.Ground.guard }], guard := some (17, true) }) rfl (fun K hK => ?_) AllReadyH.nil
  rw [if_pos (by rfl)]
  go_wp2_with fail
  refine (hn _).mono ?_
  rintro e w5 ⟨rfl, hb5⟩
  have hHeld5 := LS.below hHeld3 hb5
  clear hb5
  refine hK.out _ _ hHeld5 (fun _ => ?_)
  clear hK K
  try simp only [Act.put, List.setIfInBounds_toArray, List.set_cons_zero, List.set_cons_succ]
  have hHeld := hHeld5
  refine wpAnyH_take (i := 19) (oi := { dst := some 38, op := Go.Op.pick (Go.Operand.tmp 36) (Go.Operand.tmp 37) (Go.Operand.const (Go.Value.bool false)), type := 4, pos := _, after := #[{ on := 17, ground := Go.Ground.data }, { on := 18, ground := Go.Ground.data }], guard := none }) (v := .bool true) rfl (by kernel_rfl) (by kernel_rfl) (by kernel_rfl) (fun _ _ _ h => h) (Or.inl ⟨by rfl, fun w' hw' => ?_⟩) hHeld ?_
  · first | (go_simp; done) | (go_simp; rfl)
  try simp only [Act.put, List.setIfInBounds_toArray, List.set_cons_zero, List.set_cons_succ]
  refine wpAnyH_take (i := 20) (oi := { dst := some 4, op := Go.Op.assign (Go.Operand.tmp 38), type := 4, pos := _, after := #[{ on := 19, ground := Go.Ground.data }, { on := 18, ground := Go.Ground.chain }, { on := 0, ground := Go.Ground.phase }, { on := 1, ground := Go.Ground.phase }, { on := 2, ground := Go.Ground.phase }, { on := 3, ground := Go.Ground.phase }, { on := 4, ground := Go.Ground.phase }, { on := 5, ground := Go.Ground.phase }, { on := 6, ground := Go.Ground.phase }, { on := 7, ground := Go.Ground.phase }, { on := 8, ground := Go.Ground.phase }, { on := 9, ground := Go.Ground.phase }, { on := 10, ground := Go.Ground.phase }, { on := 11, ground := Go.Ground.phase }, { on := 12, ground := Go.Ground.phase }, { on := 13, ground := Go.Ground.phase }, { on := 14, ground := Go.Ground.phase }, { on := 15, ground := Go.Ground.phase }, { on := 16, ground := Go.Ground.phase }, { on := 17, ground := Go.Ground.phase }, { on := 18, ground := Go.Ground.phase }, { on := 19, ground := Go.Ground.phase }], guard := none }) (v := .bool true) rfl (by kernel_rfl) (by kernel_rfl) (by kernel_rfl) (fun _ _ _ h => h) (Or.inl ⟨by rfl, fun w' hw' => ?_⟩) hHeld ?_
  · first | (go_simp; done) | (go_simp; rfl)
  try simp only [Act.put, List.setIfInBounds_toArray, List.set_cons_zero, List.set_cons_succ]
  refine wpAnyH_done (by kernel_rfl) ?_ _
  have HB5 : Hid _ := hHeld5.2.2.2.2.2.2
  clear hHeld hHeld3 hHeld5
  go_wp2
  go_ret
  exact ⟨rfl, HB5.out⟩

set_option maxRecDepth 100000 in
theorem lifted (os : Os) (started : os.Started) (H : Type) (enc : TypeId × Value → H) :
    ReturnsInHanded {} Try.checked os 4 .any (Rows.macEqualsSpec.pre6 enc Try.prog Try.f4 Rows.macEqualsRow.domain false) (Rows.macEqualsSpec.post enc Try.prog Try.f4 false true false false) := by
  refine returnsInHanded_of_change (C := Try.checked) own started (by kernel_rfl) Try.func4
    (ChangeSpec.witness6 (enc := enc) (C := Try.checked) false ⟨#[], #[.agg (Array.replicate 32 (.int .u8 0)), .agg (Array.replicate 32 (.int .u8 0))], []⟩ 8 (by kernel_rfl) (by kernel_rfl) (by kernel_rfl) (by kernel_rfl)) ?_
  intro W base args ds gs before hval0 hW hcnd _
  have hval : ∀ (j : Nat) t v, Try.f4.params[j]? = some t → args[j]? = some v → Value.okWide Try.prog W .any base t v := hval0
  have hW' := hW
  obtain ⟨p, q, hA0, hV, rfl, hfz, hnd⟩ := hW
  have hA : DataW.TrodAll enc Try.prog W 0 (fun _ => true) true Try.f4.params.toList args.toList ds p := hA0
  rw [Try.params4] at hA hval
  obtain ⟨v0, vs0, d0, ds0, p0, q0, hargs, rfl, rfl, h0, r0⟩ := trodAll_cons hA
  obtain ⟨v1, vs1, d1, ds1, p1, q1, rfl, rfl, rfl, h1, r1⟩ := trodAll_cons r0
  obtain ⟨rfl, rfl, rfl⟩ := trodAll_nil r1
  obtain rfl : args = #[v0, v1] := by cases args; simp_all
  obtain ⟨rfl, rfl⟩ := trodVars_none hV
  have k0 := h0
  have lt0 : ∀ x ∈ p0, x.block < W.heap.size := by obtain ⟨m, hm⟩ := k0; exact DataW.trod_lt m _ _ _ hm
  obtain ⟨l0, rfl, hl0⟩ := open_octets Try.underlying24 (by kernel_rfl) (hval 0 24 v0 rfl rfl) h0
  have k1 := h1
  have lt1 : ∀ x ∈ p1, x.block < W.heap.size := by obtain ⟨m, hm⟩ := k1; exact DataW.trod_lt m _ _ _ hm
  obtain ⟨l1, rfl, hl1⟩ := open_octets Try.underlying24 (by kernel_rfl) (hval 1 24 v1 rfl rfl) h1
  clear hA0 hval0
  refine (walk l0 l1 W hl0 hl1).mono fun e W' ⟨he, bel⟩ => ?_
  subst he
  exact ⟨_, rfl, _, _, _, [], _, [], hW', trodAll_mk1 (shut_bool Try.underlying4 _), (trodAll_cons_mk (Below.trod laidOut (by kernel_rfl) (of_decide_eq_true (by kernel_rfl)) k0 bel lt0) (trodAll_cons_mk (Below.trod laidOut (by kernel_rfl) (of_decide_eq_true (by kernel_rfl)) k1 bel lt1) trodAll_mk0)), rfl, bel.frame _, fun h => by cases h⟩

theorem over : Rows.macEqualsRow.holds Try.pinned (OpenSpec.ofChange Rows.macEqualsSpec) :=
  OpenClaim.holds_of_wide 4 Try.f4 rfl rfl rfl rfl rfl rfl rfl ⟨rfl, rfl, rfl, rfl, rfl⟩ rfl rfl rfl rfl rfl (by kernel_rfl) Try.func4 (by kernel_rfl)
    (of_decide_eq_true (by kernel_rfl)) (by unfold Func.isWrapper; first | (rw [if_pos (by decide +kernel)]; kernel_rfl) | (rw [if_neg (by decide +kernel)]; exact ⟨rfl, rfl⟩))
    (fun os started H enc _ => lifted os started H enc)

end Go.Proofs.Ytojafgilpnnbiab.macEquals
namespace Go.Proofs.Ytojafgilpnnbiab
theorem macEquals_holds : Rows.MacEqualsSaid := macEquals.over
#print axioms macEquals_holds
end Go.Proofs.Ytojafgilpnnbiab
