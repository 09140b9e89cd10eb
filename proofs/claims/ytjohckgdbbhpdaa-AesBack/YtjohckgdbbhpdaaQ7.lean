/- Contracts of aes's Encipher and Expand. -/
import Derived.Test.YtjohckgdbbhpdaaP7
set_option linter.unusedVariables false
set_option linter.unusedSimpArgs false
namespace Go.Proofs.Ytjohckgdbbhpdaa
open Go.RowKit

/-- What stays while Encipher runs. -/
def CS (w : World) (g : Nat) (KL BL TL : List Value) (wr : World) : Prop :=
  wr.rangeAt w.heap.size 0 KL ∧ wr.rangeAt (w.heap.size + 1) 0 BL ∧ wr.rangeAt g 0 TL ∧ (∃ Z : Array Value, Z.size = 16 ∧ wr.heap[w.heap.size + 1 + 1]? = some (.cells Z 26 (0, 0))) ∧ Below w.heap.size w wr ∧ g < wr.heap.size
theorem CS.below {w : World} {g : Nat} {KL BL TL : List Value} {a b : World} (h : CS w g KL BL TL a) (hg : w.heap.size + 3 ≤ g) (hb : Below a.heap.size a b) : CS w g KL BL TL b := by
  obtain ⟨h1, h2, h3, ⟨Z, z1, z2⟩, h5, h6⟩ := h
  have := hb.size
  exact ⟨rangeAt_below h1 hb, rangeAt_below h2 hb, rangeAt_below h3 hb, ⟨Z, z1, (hb.block _ (by omega)).trans z2⟩, h5.trans (hb.mono (by omega)), by omega⟩
theorem CS.set {w : World} {g : Nat} {KL BL TL : List Value} {a : World} (h : CS w g KL BL TL a) (hg : w.heap.size + 3 ≤ g) (N : Array Value) (hN : N.size = 16) : CS w g KL BL TL (a.setRow (w.heap.size + 1 + 1) N) := by
  obtain ⟨h1, h2, h3, ⟨Z, z1, z2⟩, h5, h6⟩ := h
  exact ⟨rangeAt_setRow h1 (by omega), rangeAt_setRow h2 (by omega), rangeAt_setRow h3 (by omega), ⟨N, hN, setRow_heap _ _ _ _ _ _ z2⟩, below_setRow h5 (by omega) _, by simpa using h6⟩


set_option maxHeartbeats 8000000 in
set_option maxRecDepth 100000 in
theorem pEncipher_any (key s : List UInt8) (w : World) (hk : key.length = 16) (hs : s.length = 16) :
    Calls Try.prog 21 #[.agg (key.map B8).toArray, .agg (s.map B8).toArray] w fun e w' => e = .returned (.agg ((encA (exA key tabA) tabA s).map B8).toArray) ∧ Below w.heap.size w w' := by
  have hsu := fun W => pallSubs_any W
  have hex := fun W => pexpand_any key tabA W hk tabA_len
  have hen := fun W => pencipher_any (exA key tabA) s tabA W (exA_len key tabA hk) hs tabA_len
  have hRl : (encA (exA key tabA) tabA s).length = 16 := encR_len _ _ _ 10 (exA_len key tabA hk) hs (by omega)
  have htl := tabA_len
  generalize encA (exA key tabA) tabA s = R at *
  generalize exA key tabA = F at *
  generalize tabA = T at *
  obtain ⟨KL, hKL⟩ : ∃ A, A = List.map B8 key := ⟨_, rfl⟩
  have hiK : (Try.prog.info? 26).map (·.size) = some KL.length := by rw [hKL, List.length_map, hk]; kernel_rfl
  obtain ⟨SL, hSL⟩ : ∃ A, A = List.map B8 s := ⟨_, rfl⟩
  have hiS : (Try.prog.info? 26).map (·.size) = some SL.length := by rw [hSL, List.length_map, hs]; kernel_rfl
  obtain ⟨TL, hTL⟩ : ∃ A, A = List.map B8 T := ⟨_, rfl⟩
  have hiT : (Try.prog.info? 27).map (·.size) = some TL.length := by rw [hTL, List.length_map, htl]; kernel_rfl
  rw [← hTL] at hsu hex hen
  rw [← hKL] at hex ⊢
  rw [← hSL] at hen ⊢
  have HTS : Hid (TL.toArray.size = 256) := by show _ = _; rw [hTL]; simp [htl]
  have HTI : Hid _ := info256 TL.toArray HTS.out
  have HT1 : Hid (TL.toArray.all (·.oneCell') = true) := by show _ = _; rw [hTL]; exact B8_onea _
  obtain ⟨RA, hRA⟩ : ∃ A, A = (R.map B8).toArray := ⟨_, rfl⟩
  rw [← hRA] at hen ⊢
  have HRS : Hid (RA.size = 16) := by show _ = _; rw [hRA]; simp [hRl]
  have HRI : Hid _ := info16 RA HRS.out
  have HR1 : Hid (RA.all (·.oneCell') = true) := by show _ = _; rw [hRA]; exact B8_onea _
  have hu := Try.underlying26
  have hu2 := Try.underlying27
  have hzv := fun W => zero16 W
  obtain ⟨ZA, hZA⟩ : ∃ ZA, ZA = ((List.replicate 16 (0 : UInt8)).map B8).toArray := ⟨_, rfl⟩
  rw [← hZA] at hzv
  have HZS : Hid (ZA.size = 16) := by show _ = _; rw [hZA]; simp
  have hyv := fun W => zero256 W
  obtain ⟨ZT, hZT⟩ : ∃ ZT, ZT = ((List.replicate 256 (0 : UInt8)).map B8).toArray := ⟨_, rfl⟩
  rw [← hZT] at hyv
  have HZT : Hid (ZT.size = TL.toArray.size) := by show _ = _; rw [HTS.out, hZT]; simp
  have HF : Hid (F3 w 26 key (.cells SL.toArray 26 (0, 0)) (.cells ZA 26 (0, 0)) (((w.alloc (.cells KL.toArray 26 (0, 0))).alloc (.cells SL.toArray 26 (0, 0))).alloc (.cells ZA 26 (0, 0)))) := F3.start _ _ _ _ _ (by rw [hKL])
  have HKL : Hid _ := hKL
  clear hk hs hKL hSL hTL htl hRA hRl hZA hZT
  go_enter Try.func21, Try.ntmps21
  go_wp2_with fail
  refine (hsu _).mono ?_
  rintro e w1 ⟨rfl, hb1⟩
  have hs1 : w.heap.size + 3 ≤ w1.heap.size := by have := hb1.size; simp at this; omega
  have HB1 : Hid (Below w.heap.size w w1) := HF.out.2.2.2.trans (hb1.mono (by first | (simp; done) | (simp; omega)))
  have HK1 : Hid (w1.heap[w.heap.size]? = some (.cells KL.toArray 26 (0, 0))) := by show _ = _; rw [HKL.out]; exact (hb1.block _ (by first | (simp; done) | (simp; omega))).trans HF.out.1
  have HS1 : Hid (w1.heap[w.heap.size + 1]? = some (.cells SL.toArray 26 (0, 0))) := (hb1.block _ (by first | (simp; done) | (simp; omega))).trans HF.out.2.1
  have HZ1 : Hid (w1.heap[w.heap.size + 1 + 1]? = some (.cells ZA 26 (0, 0))) := (hb1.block _ (by simp)).trans HF.out.2.2.1
  clear hb1 HF hsu
  have HQ : Hid ((w1.alloc (.cells ZT 27 (0, 0))).heap[w1.heap.size]? = some (.cells ZT 27 (0, 0))) := heap_at _ _ _ rfl
  go_wp2_with (first
    | (refine wpList_store_row rfl 27 _ _ rfl w1.heap.size TL.toArray rfl rfl 27 ZT HQ.out HTI.out HZT.out HT1.out ?_))
  have HCS : Hid (CS w w1.heap.size KL SL TL ((w1.alloc (.cells ZT 27 (0, 0))).setRow w1.heap.size TL.toArray).drew) := by
    have hb : Below w1.heap.size w1 ((w1.alloc (.cells ZT 27 (0, 0))).setRow w1.heap.size TL.toArray) := below_setRow ((Below.refl _ _).alloc (Nat.le_refl _) _) (Nat.le_refl _) _
    refine ⟨rangeAt_row (by rw [heap_drew]; exact (hb.block _ (by omega)).trans HK1.out), rangeAt_row (by rw [heap_drew]; exact (hb.block _ (by omega)).trans HS1.out), rangeAt_row (by rw [heap_drew]; exact setRow_heap _ _ _ _ _ _ HQ.out), ⟨ZA, HZS.out, by rw [heap_drew]; exact (hb.block _ (by omega)).trans HZ1.out⟩, (HB1.out.trans (hb.mono (by omega))).drew, by rw [heap_drew]; simp⟩
  clear HQ HB1 HK1 HS1 HZ1
  generalize (w1.alloc (.cells ZT 27 (0, 0))).setRow w1.heap.size TL.toArray = w2 at *
  generalize w1.heap.size = g at *
  refine wp_region_held_drew (S := CS w g KL SL TL) (by kernel_rfl) HCS.out (fun hHeld => ?_)
  refine wpAnyH_take (i := 0) (oi := { dst := some 7, op := Go.Op.load 26 (Go.Operand.tmp 2), type := 26, pos := _, after := #[], guard := none }) rfl (by kernel_rfl) (by kernel_rfl) (by kernel_rfl) (fun _ _ _ h => h) (yieldsIf_load_mid (by rfl) 26 (.tmp 2) rfl (w.heap.size) (0) rfl (KL) _ (fun _ h => h.1) hu rfl hiK) hHeld ?_
  try simp only [Act.put, List.setIfInBounds_toArray, List.set_cons_zero, List.set_cons_succ]
  refine wpAnyH_take (i := 1) (oi := { dst := some 8, op := Go.Op.load 27 (Go.Operand.tmp 5), type := 27, pos := _, after := #[], guard := none }) rfl (by kernel_rfl) (by kernel_rfl) (by kernel_rfl) (fun _ _ _ h => h) (yieldsIf_load_mid (by rfl) 27 (.tmp 5) rfl (g) (0) rfl (TL) _ (fun _ h => h.2.2.1) hu2 rfl hiT) hHeld ?_
  try simp only [Act.put, List.setIfInBounds_toArray, List.set_cons_zero, List.set_cons_succ]
  refine wpAnyH_take (i := 3) (oi := { dst := some 10, op := Go.Op.load 26 (Go.Operand.tmp 3), type := 26, pos := _, after := #[], guard := none }) rfl (by kernel_rfl) (by kernel_rfl) (by kernel_rfl) (fun _ _ _ h => h) (yieldsIf_load_mid (by rfl) 26 (.tmp 3) rfl (w.heap.size + 1) (0) rfl (SL) _ (fun _ h => h.2.1) hu rfl hiS) hHeld ?_
  try simp only [Act.put, List.setIfInBounds_toArray, List.set_cons_zero, List.set_cons_succ]
  refine wpAnyH_take (i := 4) (oi := { dst := some 11, op := Go.Op.load 27 (Go.Operand.tmp 5), type := 27, pos := _, after := #[], guard := none }) rfl (by kernel_rfl) (by kernel_rfl) (by kernel_rfl) (fun _ _ _ h => h) (yieldsIf_load_mid (by rfl) 27 (.tmp 5) rfl (g) (0) rfl (TL) _ (fun _ h => h.2.2.1) hu2 rfl hiT) hHeld ?_
  try simp only [Act.put, List.setIfInBounds_toArray, List.set_cons_zero, List.set_cons_succ]
  refine wpAnyH_ready (rs := [2]) (by kernel_rfl) (by simp) ?_
  refine AllReadyH.cons (o := { dst := some 9, op := Go.Op.call { callee := Go.Callee.value (Go.Operand.func 35), args := #[Go.Operand.tmp 7, Go.Operand.tmp 8], argTypes := #[26, 27] }, type := 29, pos := _, after := #[{ on := 0, ground := Go.Ground.data }, { on := 1, ground := Go.Ground.data }], guard := none }) rfl (fun K hK => ?_) AllReadyH.nil
  rw [if_pos (by rfl)]
  go_wp2_with fail
  refine (hex _).mono ?_
  rintro e w3 ⟨rfl, hb3⟩
  have hHeld3 := CS.below hHeld hs1 hb3
  clear hb3
  refine hK.out _ _ hHeld3 (fun _ => ?_)
  clear hK K
  try simp only [Act.put, List.setIfInBounds_toArray, List.set_cons_zero, List.set_cons_succ]
  refine wpAnyH_ready (rs := [5]) (by kernel_rfl) (by simp) ?_
  refine AllReadyH.cons (o := { dst := some 12, op := Go.Op.call { callee := Go.Callee.value (Go.Operand.func 36), args := #[Go.Operand.tmp 9, Go.Operand.tmp 10, Go.Operand.tmp 11], argTypes := #[29, 26, 27] }, type := 26, pos := _, after := #[{ on := 2, ground := Go.Ground.data }, { on := 3, ground := Go.Ground.data }, { on := 4, ground := Go.Ground.data }, { on := 2, ground := Go.Ground.chain }], guard := none }) rfl (fun K hK => ?_) AllReadyH.nil
  rw [if_pos (by rfl)]
  go_wp2_with fail
  refine (hen _).mono ?_
  rintro e w4 ⟨rfl, hb4⟩
  have hHeld4 := CS.below hHeld3 hs1 hb4
  clear hb4
  refine hK.out _ _ hHeld4 (fun _ => ?_)
  clear hK K
  try simp only [Act.put, List.setIfInBounds_toArray, List.set_cons_zero, List.set_cons_succ]
  refine wpAnyH_ready (rs := [6]) (by kernel_rfl) (by simp) ?_
  refine AllReadyH.cons (o := { dst := none, op := Go.Op.store 26 (Go.Operand.tmp 4) (Go.Operand.tmp 12), type := 0, pos := _, after := #[{ on := 5, ground := Go.Ground.data }, { on := 5, ground := Go.Ground.chain }, { on := 0, ground := Go.Ground.phase }, { on := 1, ground := Go.Ground.phase }, { on := 2, ground := Go.Ground.phase }, { on := 3, ground := Go.Ground.phase }, { on := 4, ground := Go.Ground.phase }, { on := 5, ground := Go.Ground.phase }], guard := none }) rfl (fun K hK => ?_) AllReadyH.nil
  rw [if_pos (by rfl)]
  obtain ⟨Z, hZ, hZr⟩ := hHeld4.2.2.2.1
  refine wp_store_row 26 _ _ rfl (w.heap.size + 1 + 1) RA rfl rfl 26 _ hZr HRI.out (hZ.trans HRS.out.symm) HR1.out ?_
  have hHeld5 := CS.set hHeld4 hs1 RA HRS.out
  refine hK.out _ _ hHeld5 (fun _ => ?_)
  clear hK K
  try simp only [Act.put, List.setIfInBounds_toArray, List.set_cons_zero, List.set_cons_succ]
  refine wpAnyH_done (by kernel_rfl) ?_ _
  have HR5 : Hid _ := setRow_heap _ _ _ RA _ _ hZr
  have HB5 : Hid _ := hHeld5.2.2.2.2.1
  clear hHeld hHeld3 hHeld4 hHeld5
  go_wp2
  refine bodyPost_ret (v := .agg RA) ?_ rfl ⟨rfl, HB5.out⟩
  exact results_cell_row Try.results21 _ _ (w.heap.size + 1 + 1) 26 _ (0, 0) _ rfl HR5.out Try.underlying26 rfl HRI.out

/-- What stays while Expand runs. -/
def XS (w : World) (KL : List Value) (wr : World) : Prop :=
  wr.rangeAt w.heap.size 0 KL ∧ (∃ Z : Array Value, Z.size = 176 ∧ wr.heap[w.heap.size + 1]? = some (.cells Z 29 (0, 0))) ∧ Below w.heap.size w wr ∧ w.heap.size + 2 ≤ wr.heap.size
theorem XS.below {w : World} {KL : List Value} {a b : World} (h : XS w KL a) (hb : Below a.heap.size a b) : XS w KL b := by
  obtain ⟨h1, ⟨Z, z1, z2⟩, h5, h6⟩ := h
  have := hb.size
  exact ⟨rangeAt_below h1 hb, ⟨Z, z1, (hb.block _ (by omega)).trans z2⟩, h5.trans (hb.mono (by omega)), by omega⟩
theorem XS.set {w : World} {KL : List Value} {a : World} (h : XS w KL a) (N : Array Value) (hN : N.size = 176) : XS w KL (a.setRow (w.heap.size + 1) N) := by
  obtain ⟨h1, ⟨Z, z1, z2⟩, h5, h6⟩ := h
  exact ⟨rangeAt_setRow h1 (by omega), ⟨N, hN, setRow_heap _ _ _ _ _ _ z2⟩, below_setRow h5 (by omega) _, by simpa using h6⟩
theorem info176 (RS : Array Value) (h : RS.size = 176) : (Try.prog.info? 29).map (·.size) = some RS.size := by rw [h]; kernel_rfl

set_option maxHeartbeats 8000000 in
set_option maxRecDepth 100000 in
theorem pExpand_any (key : List UInt8) (w : World) (hk : key.length = 16) :
    Calls Try.prog 20 #[.agg (key.map B8).toArray] w fun e w' => e = .returned (.agg ((exA key tabA).map B8).toArray) ∧ Below w.heap.size w w' := by
  have hsu := fun W => pallSubs_any W
  have hex := fun W => pexpand_any key tabA W hk tabA_len
  have hRl := exA_len key tabA hk
  generalize exA key tabA = R at *
  generalize (tabA.map B8).toArray = TA at *
  obtain ⟨KL, hKL⟩ : ∃ A, A = List.map B8 key := ⟨_, rfl⟩
  have hiK : (Try.prog.info? 26).map (·.size) = some KL.length := by rw [hKL, List.length_map, hk]; kernel_rfl
  rw [← hKL] at hex ⊢
  obtain ⟨RA, hRA⟩ : ∃ A, A = (R.map B8).toArray := ⟨_, rfl⟩
  rw [← hRA] at hex ⊢
  have HRS : Hid (RA.size = 176) := by show _ = _; rw [hRA]; simp [hRl]
  have HRI : Hid _ := info176 RA HRS.out
  have HR1 : Hid (RA.all (·.oneCell') = true) := by show _ = _; rw [hRA]; exact B8_onea _
  have hu := Try.underlying26
  have hzv := fun W => zero11 W
  obtain ⟨ZA, hZA⟩ : ∃ ZA, ZA = ((List.replicate 176 (0 : UInt8)).map B8).toArray := ⟨_, rfl⟩
  rw [← hZA] at hzv
  have HZS : Hid (ZA.size = 176) := by show _ = _; rw [hZA]; simp
  have HXS : Hid (XS w KL ((w.alloc (.cells KL.toArray 26 (0, 0))).alloc (.cells ZA 29 (0, 0))).drew) :=
    ⟨rangeAt_row (h2a _ _ _), ⟨ZA, HZS.out, h2b _ _ _⟩, (((Below.refl _ _).alloc (Nat.le_refl _) _).alloc (by simp) _).drew, by rw [heap_drew]; simp⟩
  clear hk hKL hRA hRl hZA
  go_enter Try.func20, Try.ntmps20
  go_wp2
  refine wp_region_held_drew (S := XS w KL) (by kernel_rfl) HXS.out (fun hHeld => ?_)
  refine wpAnyH_take (i := 0) (oi := { dst := some 3, op := Go.Op.load 26 (Go.Operand.tmp 1), type := 26, pos := _, after := #[], guard := none }) rfl (by kernel_rfl) (by kernel_rfl) (by kernel_rfl) (fun _ _ _ h => h) (yieldsIf_load_mid (by rfl) 26 (.tmp 1) rfl (w.heap.size) (0) rfl (KL) _ (fun _ h => h.1) hu rfl hiK) hHeld ?_
  try simp only [Act.put, List.setIfInBounds_toArray, List.set_cons_zero, List.set_cons_succ]
  refine wpAnyH_ready (rs := [1]) (by kernel_rfl) (by simp) ?_
  refine AllReadyH.cons (o := { dst := some 4, op := Go.Op.call { callee := Go.Callee.value (Go.Operand.func 33), args := #[], argTypes := #[] }, type := 27, pos := _, after := #[], guard := none }) rfl (fun K hK => ?_) AllReadyH.nil
  rw [if_pos (by rfl)]
  go_wp2_with fail
  refine (hsu _).mono ?_
  rintro e w3 ⟨rfl, hb3⟩
  have hHeld3 := XS.below hHeld hb3
  clear hb3
  refine hK.out _ _ hHeld3 (fun _ => ?_)
  clear hK K
  try simp only [Act.put, List.setIfInBounds_toArray, List.set_cons_zero, List.set_cons_succ]
  refine wpAnyH_ready (rs := [2]) (by kernel_rfl) (by simp) ?_
  refine AllReadyH.cons (o := { dst := some 5, op := Go.Op.call { callee := Go.Callee.value (Go.Operand.func 35), args := #[Go.Operand.tmp 3, Go.Operand.tmp 4], argTypes := #[26, 27] }, type := 29, pos := _, after := #[{ on := 0, ground := Go.Ground.data }, { on := 1, ground := Go.Ground.data }, { on := 1, ground := Go.Ground.chain }], guard := none }) rfl (fun K hK => ?_) AllReadyH.nil
  rw [if_pos (by rfl)]
  go_wp2_with fail
  refine (hex _).mono ?_
  rintro e w4 ⟨rfl, hb4⟩
  have hHeld4 := XS.below hHeld3 hb4
  clear hb4
  refine hK.out _ _ hHeld4 (fun _ => ?_)
  clear hK K
  try simp only [Act.put, List.setIfInBounds_toArray, List.set_cons_zero, List.set_cons_succ]
  refine wpAnyH_ready (rs := [3]) (by kernel_rfl) (by simp) ?_
  refine AllReadyH.cons (o := { dst := none, op := Go.Op.store 29 (Go.Operand.tmp 2) (Go.Operand.tmp 5), type := 0, pos := _, after := #[{ on := 2, ground := Go.Ground.data }, { on := 2, ground := Go.Ground.chain }, { on := 0, ground := Go.Ground.phase }, { on := 1, ground := Go.Ground.phase }, { on := 2, ground := Go.Ground.phase }], guard := none }) rfl (fun K hK => ?_) AllReadyH.nil
  rw [if_pos (by rfl)]
  obtain ⟨Z, hZ, hZr⟩ := hHeld4.2.1
  refine wp_store_row 29 _ _ rfl (w.heap.size + 1) RA rfl rfl 29 _ hZr HRI.out (hZ.trans HRS.out.symm) HR1.out ?_
  have hHeld5 := XS.set hHeld4 RA HRS.out
  refine hK.out _ _ hHeld5 (fun _ => ?_)
  clear hK K
  try simp only [Act.put, List.setIfInBounds_toArray, List.set_cons_zero, List.set_cons_succ]
  refine wpAnyH_done (by kernel_rfl) ?_ _
  have HR5 : Hid _ := setRow_heap _ _ _ RA _ _ hZr
  have HB5 : Hid _ := hHeld5.2.2.1
  clear hHeld hHeld3 hHeld4 hHeld5
  go_wp2
  refine bodyPost_ret (v := .agg RA) ?_ rfl ⟨rfl, HB5.out⟩
  exact results_cell_row Try.results20 _ _ (w.heap.size + 1) 29 _ (0, 0) _ rfl HR5.out Try.underlying29 rfl HRI.out

end Go.Proofs.Ytjohckgdbbhpdaa
