/- AesBlocks: for any key and any block, the statement's function answers true and leaves its arguments as they were. No condition. -/
import Derived.Test.YtjohckgdbbhpdaaT7
import Derived.Test.YtjohckgdbbhpdaaX7
import Derived.Test.YtjohckgdbbhpdaaH7
import Derived.Test.YtjohckgdbbhpdaaF8
import Derived.Test.YtjohckgdbbhpdaaY7
import Derived.Test.YtjohckgdbbhpdaaRows
import Derived.WalkKit
import Derived.ProofKit
import Derived.OpenShut
import Derived.Carry
set_option linter.unusedVariables false
set_option linter.unusedSimpArgs false
namespace Go.Proofs.Ytjohckgdbbhpdaa.aesBlocks
open Go.ChangeShapes Go.WideShapes Go.ChangeAt Go.RowKit

theorem own : ownKnob Try.prog.godebug = none := by kernel_rfl
theorem laidOut : laidOutB Try.prog = true := by kernel_rfl

/-- What stays while the statement's function runs. -/
def BS (w : World) (g5 g6 : Nat) (KL SL TL FL : List Value) (wr : World) : Prop :=
  wr.rangeAt w.heap.size 0 KL ∧ wr.rangeAt (w.heap.size + 1) 0 SL ∧ wr.rangeAt g5 0 TL ∧ wr.rangeAt g6 0 FL ∧ Below w.heap.size w wr ∧ w.heap.size ≤ wr.heap.size
theorem BS.below {w : World} {g5 g6 : Nat} {KL SL TL FL : List Value} {a b : World} (h : BS w g5 g6 KL SL TL FL a) (hb : Below a.heap.size a b) : BS w g5 g6 KL SL TL FL b := by
  obtain ⟨h1, h2, h3, h4, h5, h6⟩ := h
  have := hb.size
  exact ⟨rangeAt_below h1 hb, rangeAt_below h2 hb, rangeAt_below h3 hb, rangeAt_below h4 hb, h5.trans (hb.mono h6), by omega⟩



set_option maxHeartbeats 8000000 in
set_option maxRecDepth 100000 in
theorem walk (key s : List UInt8) (w : World) (hk : key.length = 16) (hs : s.length = 16) : Calls Try.prog 4 #[.agg (key.map B8).toArray, .agg (s.map B8).toArray] w fun e w' => e = .returned (.bool true) ∧ Below w.heap.size w w' := by
  have htb := fun W => table_any W
  have hex := fun W => expand_any key tabA W hk tabA_len
  have hpx := fun W => pExpand_any key W hk
  have hpe := fun W => pEncipher_any key s W hk hs
  have hre := fun W => encipher_any (exA key tabA) s tabA W (exA_len key tabA hk) hs tabA_len
  have hpd := fun W => pDecipher_any key s W hk hs
  have hrd := fun W => decipher_any (exA key tabA) s tabA W (exA_len key tabA hk) hs tabA_len
  have kn := fun W => known_any W
  have hFl := exA_len key tabA hk
  have htl := tabA_len
  have hEl : (encA (exA key tabA) tabA s).length = 16 := encR_len _ _ _ 10 hFl hs (by omega)
  have hDl : (decA (exA key tabA) tabA s).length = 16 := xrA_len _ _ 16 (decR_len _ _ _ 10 hs) (keyA_len _ 0 hFl (by omega))
  have q1 := fun W => eql_176 W (exA key tabA) hFl
  have q2 := fun W => eql_16 W (encA (exA key tabA) tabA s) (encA (exA key tabA) tabA s) hEl hEl
  have q3 := fun W => eql_16 W (decA (exA key tabA) tabA s) (decA (exA key tabA) tabA s) hDl hDl
  have e2 : (encA (exA key tabA) tabA s == encA (exA key tabA) tabA s) = true := by simp
  have e3 : (decA (exA key tabA) tabA s == decA (exA key tabA) tabA s) = true := by simp
  rw [e2] at q2
  rw [e3] at q3
  clear e2 e3 hEl hDl
  generalize encA (exA key tabA) tabA s = E at *
  generalize decA (exA key tabA) tabA s = D at *
  generalize exA key tabA = F at *
  generalize tabA = T at *
  obtain ⟨KL, hKL⟩ : ∃ A, A = List.map B8 key := ⟨_, rfl⟩
  have hiK : (Try.prog.info? 26).map (·.size) = some KL.length := by rw [hKL, List.length_map, hk]; kernel_rfl
  obtain ⟨SL, hSL⟩ : ∃ A, A = List.map B8 s := ⟨_, rfl⟩
  have hiS : (Try.prog.info? 26).map (·.size) = some SL.length := by rw [hSL, List.length_map, hs]; kernel_rfl
  obtain ⟨TL, hTL⟩ : ∃ A, A = List.map B8 T := ⟨_, rfl⟩
  have hiT : (Try.prog.info? 27).map (·.size) = some TL.length := by rw [hTL, List.length_map, htl]; kernel_rfl
  obtain ⟨FL, hFL⟩ : ∃ A, A = List.map B8 F := ⟨_, rfl⟩
  have hiF : (Try.prog.info? 29).map (·.size) = some FL.length := by rw [hFL, List.length_map, hFl]; kernel_rfl
  have HTS : Hid (TL.toArray.size = 256) := by show _ = _; rw [hTL]; simp [htl]
  have HTI : Hid _ := info256 TL.toArray HTS.out
  have HT1 : Hid (TL.toArray.all (·.oneCell') = true) := by show _ = _; rw [hTL]; exact B8_onea _
  have HFS : Hid (FL.toArray.size = 176) := by show _ = _; rw [hFL]; simp [hFl]
  have HFI : Hid _ := info176 FL.toArray HFS.out
  have HF1 : Hid (FL.toArray.all (·.oneCell') = true) := by show _ = _; rw [hFL]; exact B8_onea _
  have HKS : Hid (KL.toArray.size = 16) := by show _ = _; rw [hKL]; simp [hk]
  have HKI : Hid _ := info16 KL.toArray HKS.out
  rw [← hTL] at htb hex hre hrd
  rw [← hFL] at hex hpx hre hrd q1
  rw [← hKL] at hex hpx hpe hpd ⊢
  rw [← hSL] at hpe hre hpd hrd ⊢
  have hu := Try.underlying26
  have huT := Try.underlying27
  have huF := Try.underlying29
  have hyv := fun W => zero256 W
  obtain ⟨ZT, hZT⟩ : ∃ ZT, ZT = ((List.replicate 256 (0 : UInt8)).map B8).toArray := ⟨_, rfl⟩
  rw [← hZT] at hyv
  have HZT : Hid (ZT.size = TL.toArray.size) := by show _ = _; rw [HTS.out, hZT]; simp
  have hzv := fun W => zero11 W
  obtain ⟨ZF, hZF⟩ : ∃ ZA, ZA = ((List.replicate 176 (0 : UInt8)).map B8).toArray := ⟨_, rfl⟩
  rw [← hZF] at hzv
  have HZF : Hid (ZF.size = FL.toArray.size) := by show _ = _; rw [HFS.out, hZF]; simp
  generalize (E.map B8).toArray = EA at *
  generalize (D.map B8).toArray = DA at *
  have HK0 : Hid (((w.alloc (.cells KL.toArray 26 (0, 0))).alloc (.cells SL.toArray 26 (0, 0))).heap[w.heap.size]? = some (.cells KL.toArray 26 (0, 0))) := alloc2_first _ _ _
  have HS0 : Hid (((w.alloc (.cells KL.toArray 26 (0, 0))).alloc (.cells SL.toArray 26 (0, 0))).heap[w.heap.size + 1]? = some (.cells SL.toArray 26 (0, 0))) := heap_at _ _ _ (by simp)
  have HB0 : Hid (Below w.heap.size w ((w.alloc (.cells KL.toArray 26 (0, 0))).alloc (.cells SL.toArray 26 (0, 0)))) := ((Below.refl _ _).alloc (Nat.le_refl _) _).alloc (by simp) _
  clear hk hs hKL hSL hTL hFL hFl htl hZT hZF
  go_enter Try.func4, Try.ntmps4
  go_wp2_with fail
  refine (htb _).mono ?_
  rintro e w1 ⟨rfl, hb1⟩
  have hs1 : w.heap.size + 2 ≤ w1.heap.size := by have := hb1.size; simp at this; omega
  have HB1 : Hid (Below w.heap.size w w1) := HB0.out.trans (hb1.mono (by first | (simp; done) | (simp; omega)))
  have HK1 : Hid (w1.heap[w.heap.size]? = some (.cells KL.toArray 26 (0, 0))) := (hb1.block _ (by first | (simp; done) | (simp; omega))).trans HK0.out
  have HS1 : Hid (w1.heap[w.heap.size + 1]? = some (.cells SL.toArray 26 (0, 0))) := (hb1.block _ (by first | (simp; done) | (simp; omega))).trans HS0.out
  clear hb1 HB0 HK0 htb HS0
  have HQ : Hid ((w1.alloc (.cells ZT 27 (0, 0))).heap[w1.heap.size]? = some (.cells ZT 27 (0, 0))) := heap_at _ _ _ rfl
  have hbq : Below w1.heap.size w1 ((w1.alloc (.cells ZT 27 (0, 0))).setRow w1.heap.size TL.toArray) := below_setRow ((Below.refl _ _).alloc (Nat.le_refl _) _) (Nat.le_refl _) _
  have HK2 : Hid (((w1.alloc (.cells ZT 27 (0, 0))).setRow w1.heap.size TL.toArray).heap[w.heap.size]? = some (.cells KL.toArray 26 (0, 0))) := (hbq.block _ (by omega)).trans HK1.out
  have HS2 : Hid (((w1.alloc (.cells ZT 27 (0, 0))).setRow w1.heap.size TL.toArray).heap[w.heap.size + 1]? = some (.cells SL.toArray 26 (0, 0))) := (hbq.block _ (by omega)).trans HS1.out
  have HT2 : Hid (((w1.alloc (.cells ZT 27 (0, 0))).setRow w1.heap.size TL.toArray).heap[w1.heap.size]? = some (.cells TL.toArray 27 (0, 0))) := setRow_heap _ _ _ _ _ _ HQ.out
  have HB2 : Hid (Below w.heap.size w ((w1.alloc (.cells ZT 27 (0, 0))).setRow w1.heap.size TL.toArray)) := HB1.out.trans (hbq.mono (by omega))
  clear hbq
  go_wp2_with (first
    | (refine wpList_store_row rfl 27 _ _ rfl w1.heap.size TL.toArray rfl rfl 27 ZT HQ.out HTI.out HZT.out HT1.out ?_)
    | (refine wpList_load_row rfl 26 _ rfl w.heap.size rfl 26 KL.toArray (0, 0) _ HK2.out Try.underlying26 rfl HKI.out ?_)
    | (refine wpList_load_row rfl 27 _ rfl w1.heap.size rfl 27 TL.toArray (0, 0) _ HT2.out Try.underlying27 rfl HTI.out ?_))
  refine (hex _).mono ?_
  rintro e w3 ⟨rfl, hb3⟩
  have hs3 : w1.heap.size + 1 ≤ w3.heap.size := by have := hb3.size; simp at this; omega
  have HB3 : Hid (Below w.heap.size w w3) := HB2.out.trans (hb3.mono (by simp; omega))
  have HK3 : Hid (w3.heap[w.heap.size]? = some (.cells KL.toArray 26 (0, 0))) := (hb3.block _ (by simp; omega)).trans HK2.out
  have HS3 : Hid (w3.heap[w.heap.size + 1]? = some (.cells SL.toArray 26 (0, 0))) := (hb3.block _ (by simp; omega)).trans HS2.out
  have HT3 : Hid (w3.heap[w1.heap.size]? = some (.cells TL.toArray 27 (0, 0))) := (hb3.block _ (by simp)).trans HT2.out
  clear hb3 hex HB2 HK2 HK1 HB1 HQ HS1 HS2 HT2
  have HQ3 : Hid ((w3.alloc (.cells ZF 29 (0, 0))).heap[w3.heap.size]? = some (.cells ZF 29 (0, 0))) := heap_at _ _ _ rfl
  have hbq : Below w3.heap.size w3 ((w3.alloc (.cells ZF 29 (0, 0))).setRow w3.heap.size FL.toArray) := below_setRow ((Below.refl _ _).alloc (Nat.le_refl _) _) (Nat.le_refl _) _
  have HBS : Hid (BS w w1.heap.size w3.heap.size KL SL TL FL ((w3.alloc (.cells ZF 29 (0, 0))).setRow w3.heap.size FL.toArray).drew) := by
    refine ⟨rangeAt_row (by rw [heap_drew]; exact (hbq.block _ (by omega)).trans HK3.out), rangeAt_row (by rw [heap_drew]; exact (hbq.block _ (by omega)).trans HS3.out), rangeAt_row (by rw [heap_drew]; exact (hbq.block _ (by omega)).trans HT3.out), rangeAt_row (by rw [heap_drew]; exact setRow_heap _ _ _ _ _ _ HQ3.out), (HB3.out.trans (hbq.mono (by omega))).drew, by rw [heap_drew]; simp; omega⟩
  clear hbq HB3 HK3 HS3 HT3
  go_wp2_with (first
    | (refine wpList_store_row rfl 29 _ _ rfl w3.heap.size FL.toArray rfl rfl 29 ZF HQ3.out HFI.out HZF.out HF1.out ?_))
  clear HQ3
  generalize (w3.alloc (.cells ZF 29 (0, 0))).setRow w3.heap.size FL.toArray = w4 at *
  generalize w3.heap.size = g6 at *
  generalize w1.heap.size = g5 at *
  refine wp_region_held_drew (S := BS w g5 g6 KL SL TL FL) (by kernel_rfl) HBS.out (fun hHeld => ?_)
  clear HBS
  generalize w4.drew = W at *
  refine wpAnyH_take (i := 0) (oi := { dst := some 11, op := Go.Op.load 26 (Go.Operand.tmp 2), type := 26, pos := _, after := #[], guard := none }) rfl (by kernel_rfl) (by kernel_rfl) (by kernel_rfl) (fun _ _ _ h => h) (yieldsIf_load_mid (by rfl) 26 (.tmp 2) rfl (w.heap.size) (0) rfl (KL) _ (fun _ h => h.1) hu rfl hiK) hHeld ?_
  try simp only [Act.put, List.setIfInBounds_toArray, List.set_cons_zero, List.set_cons_succ]
  refine wpAnyH_take (i := 2) (oi := { dst := some 13, op := Go.Op.load 29 (Go.Operand.tmp 6), type := 29, pos := _, after := #[], guard := none }) rfl (by kernel_rfl) (by kernel_rfl) (by kernel_rfl) (fun _ _ _ h => h) (yieldsIf_load_mid (by rfl) 29 (.tmp 6) rfl (g6) (0) rfl (FL) _ (fun _ h => h.2.2.2.1) huF rfl hiF) hHeld ?_
  try simp only [Act.put, List.setIfInBounds_toArray, List.set_cons_zero, List.set_cons_succ]
  refine wpAnyH_ready (rs := [1]) (by kernel_rfl) (by simp) ?_
  refine AllReadyH.cons (o := { dst := some 12, op := Go.Op.call { callee := Go.Callee.value (Go.Operand.func 20), args := #[Go.Operand.tmp 11], argTypes := #[26] }, type := 29, pos := _, after := #[{ on := 0, ground := Go.Ground.data }], guard := none }) rfl (fun K hK => ?_) AllReadyH.nil
  rw [if_pos (by rfl)]
  go_wp2_with fail
  refine (hpx _).mono ?_
  rintro e w1 ⟨rfl, hb⟩
  have hHeld := BS.below hHeld hb
  clear hb
  refine hK.out _ _ hHeld (fun _ => ?_)
  clear hK K
  try simp only [Act.put, List.setIfInBounds_toArray, List.set_cons_zero, List.set_cons_succ]
  refine wpAnyH_take (i := 3) (oi := { dst := some 14, op := Go.Op.binOp Go.BinOp.eql 29 (Go.Operand.tmp 12) (Go.Operand.tmp 13) 29, type := 4, pos := _, after := #[{ on := 1, ground := Go.Ground.data }, { on := 2, ground := Go.Ground.data }], guard := none }) (v := .bool true) rfl (by kernel_rfl) (by kernel_rfl) (by kernel_rfl) (fun _ _ _ h => h) (Or.inl ⟨by rfl, fun w' hw' => ?_⟩) hHeld ?_
  · first | (go_simp; done) | (go_simp; rfl)
  try simp only [Act.put, List.setIfInBounds_toArray, List.set_cons_zero, List.set_cons_succ]
  refine wpAnyH_take (i := 4) (oi := { dst := some 15, op := Go.Op.move (Go.Operand.tmp 14), type := 4, pos := _, after := #[{ on := 3, ground := Go.Ground.data }, { on := 1, ground := Go.Ground.chain }], guard := none }) (v := .bool true) rfl (by kernel_rfl) (by kernel_rfl) (by kernel_rfl) (fun _ _ _ h => h) (Or.inl ⟨by rfl, fun w' hw' => ?_⟩) hHeld ?_
  · first | (go_simp; done) | (go_simp; rfl)
  try simp only [Act.put, List.setIfInBounds_toArray, List.set_cons_zero, List.set_cons_succ]
  refine wpAnyH_take (i := 5) (oi := { dst := some 16, op := Go.Op.load 26 (Go.Operand.tmp 2), type := 26, pos := _, after := #[{ on := 4, ground := Go.Ground.guard }], guard := some (4, true) }) rfl (by kernel_rfl) (by kernel_rfl) (by kernel_rfl) (fun _ _ _ h => h) (yieldsIf_load_mid (by rfl) 26 (.tmp 2) rfl (w.heap.size) (0) rfl (KL) _ (fun _ h => h.1) hu rfl hiK) hHeld ?_
  try simp only [Act.put, List.setIfInBounds_toArray, List.set_cons_zero, List.set_cons_succ]
  refine wpAnyH_take (i := 6) (oi := { dst := some 17, op := Go.Op.load 26 (Go.Operand.tmp 3), type := 26, pos := _, after := #[{ on := 4, ground := Go.Ground.guard }], guard := some (4, true) }) rfl (by kernel_rfl) (by kernel_rfl) (by kernel_rfl) (fun _ _ _ h => h) (yieldsIf_load_mid (by rfl) 26 (.tmp 3) rfl (w.heap.size + 1) (0) rfl (SL) _ (fun _ h => h.2.1) hu rfl hiS) hHeld ?_
  try simp only [Act.put, List.setIfInBounds_toArray, List.set_cons_zero, List.set_cons_succ]
  refine wpAnyH_take (i := 8) (oi := { dst := some 19, op := Go.Op.load 29 (Go.Operand.tmp 6), type := 29, pos := _, after := #[{ on := 4, ground := Go.Ground.guard }], guard := some (4, true) }) rfl (by kernel_rfl) (by kernel_rfl) (by kernel_rfl) (fun _ _ _ h => h) (yieldsIf_load_mid (by rfl) 29 (.tmp 6) rfl (g6) (0) rfl (FL) _ (fun _ h => h.2.2.2.1) huF rfl hiF) hHeld ?_
  try simp only [Act.put, List.setIfInBounds_toArray, List.set_cons_zero, List.set_cons_succ]
  refine wpAnyH_take (i := 9) (oi := { dst := some 20, op := Go.Op.load 26 (Go.Operand.tmp 3), type := 26, pos := _, after := #[{ on := 4, ground := Go.Ground.guard }], guard := some (4, true) }) rfl (by kernel_rfl) (by kernel_rfl) (by kernel_rfl) (fun _ _ _ h => h) (yieldsIf_load_mid (by rfl) 26 (.tmp 3) rfl (w.heap.size + 1) (0) rfl (SL) _ (fun _ h => h.2.1) hu rfl hiS) hHeld ?_
  try simp only [Act.put, List.setIfInBounds_toArray, List.set_cons_zero, List.set_cons_succ]
  refine wpAnyH_take (i := 10) (oi := { dst := some 21, op := Go.Op.load 27 (Go.Operand.tmp 5), type := 27, pos := _, after := #[{ on := 4, ground := Go.Ground.guard }], guard := some (4, true) }) rfl (by kernel_rfl) (by kernel_rfl) (by kernel_rfl) (fun _ _ _ h => h) (yieldsIf_load_mid (by rfl) 27 (.tmp 5) rfl (g5) (0) rfl (TL) _ (fun _ h => h.2.2.1) huT rfl hiT) hHeld ?_
  try simp only [Act.put, List.setIfInBounds_toArray, List.set_cons_zero, List.set_cons_succ]
  refine wpAnyH_ready (rs := [7]) (by kernel_rfl) (by simp) ?_
  refine AllReadyH.cons (o := { dst := some 18, op := Go.Op.call { callee := Go.Callee.value (Go.Operand.func 21), args := #[Go.Operand.tmp 16, Go.Operand.tmp 17], argTypes := #[26, 26] }, type := 26, pos := _, after := #[{ on := 5, ground := Go.Ground.data }, { on := 6, ground := Go.Ground.data }, { on := 4, ground := Go.Ground.chain }, { on := 4, ground := Go.Ground.guard }], guard := some (4, true) }) rfl (fun K hK => ?_) AllReadyH.nil
  rw [if_pos (by rfl)]
  go_wp2_with fail
  refine (hpe _).mono ?_
  rintro e w7 ⟨rfl, hb⟩
  have hHeld := BS.below hHeld hb
  clear hb
  refine hK.out _ _ hHeld (fun _ => ?_)
  clear hK K
  try simp only [Act.put, List.setIfInBounds_toArray, List.set_cons_zero, List.set_cons_succ]
  refine wpAnyH_ready (rs := [11]) (by kernel_rfl) (by simp) ?_
  refine AllReadyH.cons (o := { dst := some 22, op := Go.Op.call { callee := Go.Callee.value (Go.Operand.func 22), args := #[Go.Operand.tmp 19, Go.Operand.tmp 20, Go.Operand.tmp 21], argTypes := #[29, 26, 27] }, type := 26, pos := _, after := #[{ on := 8, ground := Go.Ground.data }, { on := 9, ground := Go.Ground.data }, { on := 10, ground := Go.Ground.data }, { on := 7, ground := Go.Ground.chain }, { on := 4, ground := Go.Ground.guard }], guard := some (4, true) }) rfl (fun K hK => ?_) AllReadyH.nil
  rw [if_pos (by rfl)]
  go_wp2_with fail
  refine (hre _).mono ?_
  rintro e w11 ⟨rfl, hb⟩
  have hHeld := BS.below hHeld hb
  clear hb
  refine hK.out _ _ hHeld (fun _ => ?_)
  clear hK K
  try simp only [Act.put, List.setIfInBounds_toArray, List.set_cons_zero, List.set_cons_succ]
  refine wpAnyH_take (i := 12) (oi := { dst := some 23, op := Go.Op.binOp Go.BinOp.eql 26 (Go.Operand.tmp 18) (Go.Operand.tmp 22) 26, type := 4, pos := _, after := #[{ on := 7, ground := Go.Ground.data }, { on := 11, ground := Go.Ground.data }, { on := 4, ground := Go.Ground.guard }], guard := some (4, true) }) (v := .bool true) rfl (by kernel_rfl) (by kernel_rfl) (by kernel_rfl) (fun _ _ _ h => h) (Or.inl ⟨by rfl, fun w' hw' => ?_⟩) hHeld ?_
  · first | (go_simp; done) | (go_simp; rfl)
  try simp only [Act.put, List.setIfInBounds_toArray, List.set_cons_zero, List.set_cons_succ]
  refine wpAnyH_take (i := 13) (oi := { dst := some 24, op := Go.Op.pick (Go.Operand.tmp 15) (Go.Operand.tmp 23) (Go.Operand.const (Go.Value.bool false)), type := 4, pos := _, after := #[{ on := 4, ground := Go.Ground.data }, { on := 12, ground := Go.Ground.data }], guard := none }) (v := .bool true) rfl (by kernel_rfl) (by kernel_rfl) (by kernel_rfl) (fun _ _ _ h => h) (Or.inl ⟨by rfl, fun w' hw' => ?_⟩) hHeld ?_
  · first | (go_simp; done) | (go_simp; rfl)
  try simp only [Act.put, List.setIfInBounds_toArray, List.set_cons_zero, List.set_cons_succ]
  refine wpAnyH_take (i := 14) (oi := { dst := some 25, op := Go.Op.move (Go.Operand.tmp 24), type := 4, pos := _, after := #[{ on := 13, ground := Go.Ground.data }, { on := 11, ground := Go.Ground.chain }], guard := none }) (v := .bool true) rfl (by kernel_rfl) (by kernel_rfl) (by kernel_rfl) (fun _ _ _ h => h) (Or.inl ⟨by rfl, fun w' hw' => ?_⟩) hHeld ?_
  · first | (go_simp; done) | (go_simp; rfl)
  try simp only [Act.put, List.setIfInBounds_toArray, List.set_cons_zero, List.set_cons_succ]
  refine wpAnyH_take (i := 15) (oi := { dst := some 26, op := Go.Op.load 26 (Go.Operand.tmp 2), type := 26, pos := _, after := #[{ on := 14, ground := Go.Ground.guard }], guard := some (14, true) }) rfl (by kernel_rfl) (by kernel_rfl) (by kernel_rfl) (fun _ _ _ h => h) (yieldsIf_load_mid (by rfl) 26 (.tmp 2) rfl (w.heap.size) (0) rfl (KL) _ (fun _ h => h.1) hu rfl hiK) hHeld ?_
  try simp only [Act.put, List.setIfInBounds_toArray, List.set_cons_zero, List.set_cons_succ]
  refine wpAnyH_take (i := 16) (oi := { dst := some 27, op := Go.Op.load 26 (Go.Operand.tmp 3), type := 26, pos := _, after := #[{ on := 14, ground := Go.Ground.guard }], guard := some (14, true) }) rfl (by kernel_rfl) (by kernel_rfl) (by kernel_rfl) (fun _ _ _ h => h) (yieldsIf_load_mid (by rfl) 26 (.tmp 3) rfl (w.heap.size + 1) (0) rfl (SL) _ (fun _ h => h.2.1) hu rfl hiS) hHeld ?_
  try simp only [Act.put, List.setIfInBounds_toArray, List.set_cons_zero, List.set_cons_succ]
  refine wpAnyH_take (i := 18) (oi := { dst := some 29, op := Go.Op.load 29 (Go.Operand.tmp 6), type := 29, pos := _, after := #[{ on := 14, ground := Go.Ground.guard }], guard := some (14, true) }) rfl (by kernel_rfl) (by kernel_rfl) (by kernel_rfl) (fun _ _ _ h => h) (yieldsIf_load_mid (by rfl) 29 (.tmp 6) rfl (g6) (0) rfl (FL) _ (fun _ h => h.2.2.2.1) huF rfl hiF) hHeld ?_
  try simp only [Act.put, List.setIfInBounds_toArray, List.set_cons_zero, List.set_cons_succ]
  refine wpAnyH_take (i := 19) (oi := { dst := some 30, op := Go.Op.load 26 (Go.Operand.tmp 3), type := 26, pos := _, after := #[{ on := 14, ground := Go.Ground.guard }], guard := some (14, true) }) rfl (by kernel_rfl) (by kernel_rfl) (by kernel_rfl) (fun _ _ _ h => h) (yieldsIf_load_mid (by rfl) 26 (.tmp 3) rfl (w.heap.size + 1) (0) rfl (SL) _ (fun _ h => h.2.1) hu rfl hiS) hHeld ?_
  try simp only [Act.put, List.setIfInBounds_toArray, List.set_cons_zero, List.set_cons_succ]
  refine wpAnyH_take (i := 20) (oi := { dst := some 31, op := Go.Op.load 27 (Go.Operand.tmp 5), type := 27, pos := _, after := #[{ on := 14, ground := Go.Ground.guard }], guard := some (14, true) }) rfl (by kernel_rfl) (by kernel_rfl) (by kernel_rfl) (fun _ _ _ h => h) (yieldsIf_load_mid (by rfl) 27 (.tmp 5) rfl (g5) (0) rfl (TL) _ (fun _ h => h.2.2.1) huT rfl hiT) hHeld ?_
  try simp only [Act.put, List.setIfInBounds_toArray, List.set_cons_zero, List.set_cons_succ]
  refine wpAnyH_ready (rs := [17]) (by kernel_rfl) (by simp) ?_
  refine AllReadyH.cons (o := { dst := some 28, op := Go.Op.call { callee := Go.Callee.value (Go.Operand.func 23), args := #[Go.Operand.tmp 26, Go.Operand.tmp 27], argTypes := #[26, 26] }, type := 26, pos := _, after := #[{ on := 15, ground := Go.Ground.data }, { on := 16, ground := Go.Ground.data }, { on := 14, ground := Go.Ground.chain }, { on := 14, ground := Go.Ground.guard }], guard := some (14, true) }) rfl (fun K hK => ?_) AllReadyH.nil
  rw [if_pos (by rfl)]
  go_wp2_with fail
  refine (hpd _).mono ?_
  rintro e w17 ⟨rfl, hb⟩
  have hHeld := BS.below hHeld hb
  clear hb
  refine hK.out _ _ hHeld (fun _ => ?_)
  clear hK K
  try simp only [Act.put, List.setIfInBounds_toArray, List.set_cons_zero, List.set_cons_succ]
  refine wpAnyH_ready (rs := [21]) (by kernel_rfl) (by simp) ?_
  refine AllReadyH.cons (o := { dst := some 32, op := Go.Op.call { callee := Go.Callee.value (Go.Operand.func 24), args := #[Go.Operand.tmp 29, Go.Operand.tmp 30, Go.Operand.tmp 31], argTypes := #[29, 26, 27] }, type := 26, pos := _, after := #[{ on := 18, ground := Go.Ground.data }, { on := 19, ground := Go.Ground.data }, { on := 20, ground := Go.Ground.data }, { on := 17, ground := Go.Ground.chain }, { on := 14, ground := Go.Ground.guard }], guard := some (14, true) }) rfl (fun K hK => ?_) AllReadyH.nil
  rw [if_pos (by rfl)]
  go_wp2_with fail
  refine (hrd _).mono ?_
  rintro e w21 ⟨rfl, hb⟩
  have hHeld := BS.below hHeld hb
  clear hb
  refine hK.out _ _ hHeld (fun _ => ?_)
  clear hK K
  try simp only [Act.put, List.setIfInBounds_toArray, List.set_cons_zero, List.set_cons_succ]
  refine wpAnyH_take (i := 22) (oi := { dst := some 33, op := Go.Op.binOp Go.BinOp.eql 26 (Go.Operand.tmp 28) (Go.Operand.tmp 32) 26, type := 4, pos := _, after := #[{ on := 17, ground := Go.Ground.data }, { on := 21, ground := Go.Ground.data }, { on := 14, ground := Go.Ground.guard }], guard := some (14, true) }) (v := .bool true) rfl (by kernel_rfl) (by kernel_rfl) (by kernel_rfl) (fun _ _ _ h => h) (Or.inl ⟨by rfl, fun w' hw' => ?_⟩) hHeld ?_
  · first | (go_simp; done) | (go_simp; rfl)
  try simp only [Act.put, List.setIfInBounds_toArray, List.set_cons_zero, List.set_cons_succ]
  refine wpAnyH_take (i := 23) (oi := { dst := some 34, op := Go.Op.pick (Go.Operand.tmp 25) (Go.Operand.tmp 33) (Go.Operand.const (Go.Value.bool false)), type := 4, pos := _, after := #[{ on := 14, ground := Go.Ground.data }, { on := 22, ground := Go.Ground.data }], guard := none }) (v := .bool true) rfl (by kernel_rfl) (by kernel_rfl) (by kernel_rfl) (fun _ _ _ h => h) (Or.inl ⟨by rfl, fun w' hw' => ?_⟩) hHeld ?_
  · first | (go_simp; done) | (go_simp; rfl)
  try simp only [Act.put, List.setIfInBounds_toArray, List.set_cons_zero, List.set_cons_succ]
  refine wpAnyH_take (i := 24) (oi := { dst := some 35, op := Go.Op.move (Go.Operand.tmp 34), type := 4, pos := _, after := #[{ on := 23, ground := Go.Ground.data }, { on := 21, ground := Go.Ground.chain }], guard := none }) (v := .bool true) rfl (by kernel_rfl) (by kernel_rfl) (by kernel_rfl) (fun _ _ _ h => h) (Or.inl ⟨by rfl, fun w' hw' => ?_⟩) hHeld ?_
  · first | (go_simp; done) | (go_simp; rfl)
  try simp only [Act.put, List.setIfInBounds_toArray, List.set_cons_zero, List.set_cons_succ]
  refine wpAnyH_ready (rs := [25]) (by kernel_rfl) (by simp) ?_
  refine AllReadyH.cons (o := { dst := some 36, op := Go.Op.call { callee := Go.Callee.value (Go.Operand.func 17), args := #[], argTypes := #[] }, type := 4, pos := _, after := #[{ on := 24, ground := Go.Ground.chain }, { on := 24, ground := Go.Ground.guard }], guard := some (24, true) }) rfl (fun K hK => ?_) AllReadyH.nil
  rw [if_pos (by rfl)]
  go_wp2_with fail
  refine (kn _).mono ?_
  rintro e w25 ⟨rfl, hb⟩
  have hHeld := BS.below hHeld hb
  clear hb
  refine hK.out _ _ hHeld (fun _ => ?_)
  clear hK K
  try simp only [Act.put, List.setIfInBounds_toArray, List.set_cons_zero, List.set_cons_succ]
  refine wpAnyH_take (i := 26) (oi := { dst := some 37, op := Go.Op.pick (Go.Operand.tmp 35) (Go.Operand.tmp 36) (Go.Operand.const (Go.Value.bool false)), type := 4, pos := _, after := #[{ on := 24, ground := Go.Ground.data }, { on := 25, ground := Go.Ground.data }], guard := none }) (v := .bool true) rfl (by kernel_rfl) (by kernel_rfl) (by kernel_rfl) (fun _ _ _ h => h) (Or.inl ⟨by rfl, fun w' hw' => ?_⟩) hHeld ?_
  · first | (go_simp; done) | (go_simp; rfl)
  try simp only [Act.put, List.setIfInBounds_toArray, List.set_cons_zero, List.set_cons_succ]
  refine wpAnyH_take (i := 27) (oi := { dst := some 4, op := Go.Op.assign (Go.Operand.tmp 37), type := 4, pos := _, after := #[{ on := 26, ground := Go.Ground.data }, { on := 25, ground := Go.Ground.chain }, { on := 0, ground := Go.Ground.phase }, { on := 1, ground := Go.Ground.phase }, { on := 2, ground := Go.Ground.phase }, { on := 3, ground := Go.Ground.phase }, { on := 4, ground := Go.Ground.phase }, { on := 5, ground := Go.Ground.phase }, { on := 6, ground := Go.Ground.phase }, { on := 7, ground := Go.Ground.phase }, { on := 8, ground := Go.Ground.phase }, { on := 9, ground := Go.Ground.phase }, { on := 10, ground := Go.Ground.phase }, { on := 11, ground := Go.Ground.phase }, { on := 12, ground := Go.Ground.phase }, { on := 13, ground := Go.Ground.phase }, { on := 14, ground := Go.Ground.phase }, { on := 15, ground := Go.Ground.phase }, { on := 16, ground := Go.Ground.phase }, { on := 17, ground := Go.Ground.phase }, { on := 18, ground := Go.Ground.phase }, { on := 19, ground := Go.Ground.phase }, { on := 20, ground := Go.Ground.phase }, { on := 21, ground := Go.Ground.phase }, { on := 22, ground := Go.Ground.phase }, { on := 23, ground := Go.Ground.phase }, { on := 24, ground := Go.Ground.phase }, { on := 25, ground := Go.Ground.phase }, { on := 26, ground := Go.Ground.phase }], guard := none }) (v := .bool true) rfl (by kernel_rfl) (by kernel_rfl) (by kernel_rfl) (fun _ _ _ h => h) (Or.inl ⟨by rfl, fun w' hw' => ?_⟩) hHeld ?_
  · first | (go_simp; done) | (go_simp; rfl)
  try simp only [Act.put, List.setIfInBounds_toArray, List.set_cons_zero, List.set_cons_succ]
  refine wpAnyH_done (by kernel_rfl) ?_ _
  have HB9 : Hid _ := hHeld.2.2.2.2.1
  clear hHeld
  go_wp2
  go_ret
  exact ⟨rfl, HB9.out⟩

set_option maxRecDepth 100000 in
theorem lifted (os : Os) (started : os.Started) (H : Type) (enc : TypeId × Value → H) :
    ReturnsInHanded {} Try.checked os 4 .any (Rows.aesBlocksSpec.pre6 enc Try.prog Try.f4 Rows.aesBlocksRow.domain false) (Rows.aesBlocksSpec.post enc Try.prog Try.f4 false true false false) := by
  refine returnsInHanded_of_change (C := Try.checked) own started (by kernel_rfl) Try.func4
    (ChangeSpec.witness6 (enc := enc) (C := Try.checked) false ⟨#[], #[.agg (Array.replicate 16 (.int .u8 0)), .agg (Array.replicate 16 (.int .u8 0))], []⟩ 8 (by kernel_rfl) (by kernel_rfl) (by kernel_rfl) (by kernel_rfl)) ?_
  intro W base args ds gs before hval0 hW hcnd _
  have hval : ∀ (j : Nat) t v, Try.f4.params[j]? = some t → args[j]? = some v → Value.okWide Try.prog W .any base t v := hval0
  have hW' := hW
  obtain ⟨p, q, hA0, hV, rfl, hfz, hnd⟩ := hW
  have hA : DataW.TrodAll enc Try.prog W 0 (fun _ => true) true Try.f4.params.toList args.toList ds p := hA0
  rw [Try.params4] at hA hval
  obtain ⟨v0, vs0, d0, ds0, p0, q0, hargs, rfl, rfl, h0, r0⟩ := trodAll_cons hA
  obtain ⟨v1, vs1, d1, ds1, p1, q1, rfl, rfl, rfl, h1, r1⟩ := trodAll_cons r0
  obtain ⟨rfl, rfl, rfl⟩ := trodAll_nil r1
  obtain rfl : args = #[v0, v1] := by cases args; simp_all
  obtain ⟨rfl, rfl⟩ := trodVars_none hV
  have k0 := h0
  have lt0 : ∀ x ∈ p0, x.block < W.heap.size := by obtain ⟨m, hm⟩ := k0; exact DataW.trod_lt m _ _ _ hm
  obtain ⟨l0, rfl, hl0⟩ := open_octets Try.underlying26 (by kernel_rfl) (hval 0 26 v0 rfl rfl) h0
  have k1 := h1
  have lt1 : ∀ x ∈ p1, x.block < W.heap.size := by obtain ⟨m, hm⟩ := k1; exact DataW.trod_lt m _ _ _ hm
  obtain ⟨l1, rfl, hl1⟩ := open_octets Try.underlying26 (by kernel_rfl) (hval 1 26 v1 rfl rfl) h1
  clear hA0 hval0
  refine (walk l0 l1 W hl0 hl1).mono fun e W' ⟨he, bel⟩ => ?_
  subst he
  exact ⟨_, rfl, _, _, _, [], _, [], hW', trodAll_mk1 (shut_bool Try.underlying4 _), (trodAll_cons_mk (Below.trod laidOut (by kernel_rfl) (of_decide_eq_true (by kernel_rfl)) k0 bel lt0) (trodAll_cons_mk (Below.trod laidOut (by kernel_rfl) (of_decide_eq_true (by kernel_rfl)) k1 bel lt1) trodAll_mk0)), rfl, bel.frame _, fun h => by cases h⟩

theorem over : Rows.aesBlocksRow.holds Try.pinned (OpenSpec.ofChange Rows.aesBlocksSpec) :=
  OpenClaim.holds_of_wide 4 Try.f4 rfl rfl rfl rfl rfl rfl rfl ⟨rfl, rfl, rfl, rfl, rfl⟩ rfl rfl rfl rfl rfl (by kernel_rfl) Try.func4 (by kernel_rfl)
    (of_decide_eq_true (by kernel_rfl)) (by unfold Func.isWrapper; first | (rw [if_pos (by decide +kernel)]; kernel_rfl) | (rw [if_neg (by decide +kernel)]; exact ⟨rfl, rfl⟩))
    (fun os started H enc _ => lifted os started H enc)

end Go.Proofs.Ytjohckgdbbhpdaa.aesBlocks
namespace Go.Proofs.Ytjohckgdbbhpdaa
theorem aesBlocks_holds : Rows.AesBlocksSaid := aesBlocks.over
#print axioms aesBlocks_holds
end Go.Proofs.Ytjohckgdbbhpdaa
