/- Contract of aes's Decipher. -/
import Derived.Test.YtjohckgdbbhpdaaQ7
set_option linter.unusedVariables false
set_option linter.unusedSimpArgs false
namespace Go.Proofs.Ytjohckgdbbhpdaa
open Go.RowKit

theorem unP_rp (bk m s : List UInt8) (hm : m.length = 16) (hs : s.length = 16) : unP bk m s 16 = rpA bk (rtA m 3) := by
  obtain ⟨a0, a1, a2, a3, a4, a5, a6, a7, a8, a9, a10, a11, a12, a13, a14, a15, rfl⟩ := list16 m hm
  obtain ⟨b0, b1, b2, b3, b4, b5, b6, b7, b8, b9, b10, b11, b12, b13, b14, b15, rfl⟩ := list16 s hs
  kernel_rfl
theorem decR_go (ks t s : List UInt8) (n : Nat) (hk : ks.length = 176) (hs : s.length = 16) (hn : n < 10) :
    decR ks t s (n + 1) = rpA (bkA t) (rtA (if 10 - n < 10 then mdA (xrA (decR ks t s n) (keyA ks (10 - n))) [14, 11, 13, 9] else xrA (decR ks t s n) (keyA ks (10 - n))) 3) := by
  have hl := decR_len ks t s n hs
  have hx := xrA_len _ _ 16 hl (keyA_len ks (10 - n) hk (by omega))
  show unP (bkA t) (dmA ks (decR ks t s n) (10 - n)) (decR ks t s n) 16 = _
  rw [unP_rp _ _ _ (dmA_len ks _ (10 - n) hk (by omega) hl) hl, mdA_mxA _ _ hx]
  rfl

/-- It ends as it should, and p. -/
def Nrm (e : Exit) (p : Prop) : Prop := match e with
  | .normal => p
  | _ => False
theorem Nrm.out {e : Exit} {p : Prop} (h : Nrm e p) : e = .normal ∧ p := by
  cases e <;> first | exact ⟨rfl, h⟩ | exact False.elim h
/-- What stays while the tables are made. -/
def DS (w : World) (g : Nat) (KL TL : List Value) (SA ZA : Array Value) (wr : World) : Prop :=
  wr.rangeAt w.heap.size 0 KL ∧ wr.heap[w.heap.size + 1]? = some (.cells SA 26 (0, 0)) ∧ wr.rangeAt g 0 TL ∧ wr.heap[w.heap.size + 1 + 1]? = some (.cells ZA 26 (0, 0)) ∧ Below w.heap.size w wr ∧ w.heap.size + 3 ≤ g ∧ g < wr.heap.size
theorem DS.below {w : World} {g : Nat} {KL TL : List Value} {SA ZA : Array Value} {a b : World} (h : DS w g KL TL SA ZA a) (hb : Below a.heap.size a b) : DS w g KL TL SA ZA b := by
  obtain ⟨h1, h2, h3, h4, h5, h6, h7⟩ := h
  have := hb.size
  exact ⟨rangeAt_below h1 hb, (hb.block _ (by omega)).trans h2, rangeAt_below h3 hb, (hb.block _ (by omega)).trans h4, h5.trans (hb.mono (by omega)), h6, by omega⟩
theorem DS.row {w : World} {g b : Nat} {KL TL : List Value} {SA ZA : Array Value} {a : World} (h : DS w g KL TL SA ZA a) (hb : g < b) (N : Array Value) : DS w g KL TL SA ZA (a.setRow b N) := by
  obtain ⟨h1, h2, h3, h4, h5, h6, h7⟩ := h
  exact ⟨rangeAt_setRow h1 (by omega), by rw [setRow_other _ _ _ _ (by omega)]; exact h2, rangeAt_setRow h3 (by omega), by rw [setRow_other _ _ _ _ (by omega)]; exact h4, below_setRow h5 (by omega) _, h6, by simpa using h7⟩
/-- Where Decipher stands: its block is l. -/
def DP (w : World) (g6 g7 g8 : Nat) (FA UA XA ZA : Array Value) (l : List UInt8) (wr : World) : Prop :=
  wr.heap[g6]? = some (.cells FA 29 (0, 0)) ∧ wr.heap[g7]? = some (.cells UA 27 (0, 0)) ∧ wr.heap[g8]? = some (.cells XA 52 (0, 0)) ∧ wr.heap[w.heap.size + 1]? = some (.cells (l.map B8).toArray 26 (0, 0)) ∧ wr.heap[w.heap.size + 1 + 1]? = some (.cells ZA 26 (0, 0)) ∧ Below w.heap.size w wr
theorem DP.below {w : World} {g6 g7 g8 : Nat} {FA UA XA ZA : Array Value} {l : List UInt8} {a b : World} (h : DP w g6 g7 g8 FA UA XA ZA l a) (hb : Below a.heap.size a b) : DP w g6 g7 g8 FA UA XA ZA l b := by
  obtain ⟨h1, h2, h3, h4, h5, h6⟩ := h
  have := row_lt h4
  exact ⟨(hb.block _ (row_lt h1)).trans h1, (hb.block _ (row_lt h2)).trans h2, (hb.block _ (row_lt h3)).trans h3, (hb.block _ (row_lt h4)).trans h4, (hb.block _ (row_lt h5)).trans h5, h6.trans (hb.mono (by omega))⟩
theorem DP.drew {w : World} {g6 g7 g8 : Nat} {FA UA XA ZA : Array Value} {l : List UInt8} {wr : World} (h : DP w g6 g7 g8 FA UA XA ZA l wr) : DP w g6 g7 g8 FA UA XA ZA l wr.drew := by
  unfold DP at *
  rw [heap_drew]
  exact ⟨h.1, h.2.1, h.2.2.1, h.2.2.2.1, h.2.2.2.2.1, h.2.2.2.2.2.drew⟩
theorem DP.set {w : World} {g6 g7 g8 : Nat} {FA UA XA ZA : Array Value} {l l' : List UInt8} {a : World} (h : DP w g6 g7 g8 FA UA XA ZA l a) (h6 : w.heap.size + 3 ≤ g6) (h7 : w.heap.size + 3 ≤ g7) (h8 : w.heap.size + 3 ≤ g8) (N : Array Value) (hN : N = (l'.map B8).toArray) : DP w g6 g7 g8 FA UA XA ZA l' (a.setRow (w.heap.size + 1) N) := by
  obtain ⟨k1, k2, k3, k4, k5, k6⟩ := h
  refine ⟨?_, ?_, ?_, ?_, ?_, below_setRow k6 (by omega) _⟩
  · rw [setRow_other _ _ _ _ (by omega)]; exact k1
  · rw [setRow_other _ _ _ _ (by omega)]; exact k2
  · rw [setRow_other _ _ _ _ (by omega)]; exact k3
  · rw [hN]; exact setRow_heap _ _ _ _ _ _ k4
  · rw [setRow_other _ _ _ _ (by omega)]; exact k5



/-- A range that is read while a region runs. -/
def ES2 (g : Nat) (KL : List Value) (o : Nat) (wr : World) : Prop := wr.rangeAt g o KL ∧ g < wr.heap.size
theorem ES2.below {g : Nat} {KL : List Value} {o : Nat} {a b : World} (h : ES2 g KL o a) (hb : Below a.heap.size a b) : ES2 g KL o b :=
  ⟨rangeAt_below h.1 hb, by have := hb.size; have := h.2; omega⟩
theorem ES2.row {g b : Nat} {KL : List Value} {o : Nat} {a : World} (h : ES2 g KL o a) (hb : g ≠ b) (N : Array Value) : ES2 g KL o (a.setRow b N) :=
  ⟨rangeAt_setRow h.1 hb, by simpa using h.2⟩



set_option maxHeartbeats 16000000 in
set_option maxRecDepth 100000 in
theorem pDecipher_any (key s : List UInt8) (w : World) (hk : key.length = 16) (hs : s.length = 16) :
    Calls Try.prog 23 #[.agg (key.map B8).toArray, .agg (s.map B8).toArray] w fun e w' => e = .returned (.agg ((decA (exA key tabA) tabA s).map B8).toArray) ∧ Below w.heap.size w w' := by
  have hsu := fun W => pallSubs_any W
  have hex := fun W => pexpand_any key tabA W hk tabA_len
  have hbk := fun W => pbackwards_any tabA W tabA_len
  have hFl := exA_len key tabA hk
  have htl := tabA_len
  have hUl : (bkA tabA).length = 256 := bkR_len tabA 256
  have HDL : Hid _ := fun n => decR_len (exA key tabA) tabA s n hs
  have HDG : Hid _ := fun n hn => decR_go (exA key tabA) tabA s n hFl hs hn
  have HD0 : Hid (decR (exA key tabA) tabA s 0 = s) := rfl
  have HDA : Hid (decA (exA key tabA) tabA s = xrA (decR (exA key tabA) tabA s 10) (keyA (exA key tabA) 0)) := rfl
  generalize decA (exA key tabA) tabA s = R at *
  generalize decR (exA key tabA) tabA s = D at *
  have HKL : Hid _ := fun i hi => keyA_len (exA key tabA) i hFl hi
  generalize exA key tabA = F at *
  generalize bkA tabA = U at *
  generalize tabA = T at *
  obtain ⟨KL, hKL⟩ : ∃ A, A = List.map B8 key := ⟨_, rfl⟩
  have hiK : (Try.prog.info? 26).map (·.size) = some KL.length := by rw [hKL, List.length_map, hk]; kernel_rfl
  obtain ⟨TL, hTL⟩ : ∃ A, A = List.map B8 T := ⟨_, rfl⟩
  have hiT : (Try.prog.info? 27).map (·.size) = some TL.length := by rw [hTL, List.length_map, htl]; kernel_rfl
  obtain ⟨UL, hUL⟩ : ∃ A, A = List.map B8 U := ⟨_, rfl⟩
  have hiU : (Try.prog.info? 27).map (·.size) = some UL.length := by rw [hUL, List.length_map, hUl]; kernel_rfl
  rw [← hTL] at hsu hex hbk
  rw [← hKL] at hex ⊢
  have HRP : Hid (∀ l W, l.length = 16 → Calls Try.prog 42 #[.agg (l.map B8).toArray, .agg UL.toArray] W fun e w' => e = .returned (.agg ((rpA U l).map B8).toArray) ∧ Below W.heap.size W w') := fun l W hl => by rw [hUL]; exact preplaced_any l U W hl hUl
  rw [← hUL] at hbk
  have HTS : Hid (TL.toArray.size = 256) := by show _ = _; rw [hTL]; simp [htl]
  have HTI : Hid _ := info256 TL.toArray HTS.out
  have HT1 : Hid (TL.toArray.all (·.oneCell') = true) := by show _ = _; rw [hTL]; exact B8_onea _
  have HUS : Hid (UL.toArray.size = 256) := by show _ = _; rw [hUL]; simp [hUl]
  have HUI : Hid _ := info256 UL.toArray HUS.out
  have HU1 : Hid (UL.toArray.all (·.oneCell') = true) := by show _ = _; rw [hUL]; exact B8_onea _
  obtain ⟨FA, hFA⟩ : ∃ A, A = (F.map B8).toArray := ⟨_, rfl⟩
  rw [← hFA] at hex
  have HFS : Hid (FA.size = 176) := by show _ = _; rw [hFA]; simp [hFl]
  have HFI : Hid _ := info176 FA HFS.out
  have HF1 : Hid (FA.all (·.oneCell') = true) := by show _ = _; rw [hFA]; exact B8_onea _
  have HKR : Hid (∀ (W : World) (b i : Nat), W.heap[b]? = some (.cells FA 29 (0, 0)) → W.rangeAt b (16 * i) ((keyA F i).map B8)) := fun W b i h => by rw [hFA] at h; exact keyA_range i h
  obtain ⟨SA, hSA⟩ : ∃ A, A = (s.map B8).toArray := ⟨_, rfl⟩
  rw [← hSA]
  have HSA : Hid _ := hSA
  have hu := Try.underlying26
  have hu2 := Try.underlying27
  have hzv := fun W => zero16 W
  obtain ⟨ZA, hZA⟩ : ∃ ZA, ZA = ((List.replicate 16 (0 : UInt8)).map B8).toArray := ⟨_, rfl⟩
  rw [← hZA] at hzv
  have HZS : Hid (ZA.size = 16) := by show _ = _; rw [hZA]; simp
  have hyv := fun W => zero256 W
  obtain ⟨ZT, hZT⟩ : ∃ ZT, ZT = ((List.replicate 256 (0 : UInt8)).map B8).toArray := ⟨_, rfl⟩
  rw [← hZT] at hyv
  have hZTs : ZT.size = 256 := by rw [hZT]; simp
  have HZT : Hid (ZT.size = TL.toArray.size) := hZTs.trans HTS.out.symm
  have HZU : Hid (ZT.size = UL.toArray.size) := hZTs.trans HUS.out.symm
  have hxv := fun W => zero11 W
  obtain ⟨ZF, hZF⟩ : ∃ ZA, ZA = ((List.replicate 176 (0 : UInt8)).map B8).toArray := ⟨_, rfl⟩
  rw [← hZF] at hxv
  have HZF : Hid (ZF.size = FA.size) := by show _ = _; rw [HFS.out, hZF]; simp
  obtain ⟨XA, hXA⟩ : ∃ A : Array Value, A = (([14, 11, 13, 9] : List UInt8).map B8).toArray := ⟨_, rfl⟩
  have hmx : ∀ W, Calls Try.prog 39 #[.agg #[.int .u8 14, .int .u8 11, .int .u8 13, .int .u8 9]] W fun e w' => e = .returned (.func (.func 45) #[] #[.pointer (some ⟨W.heap.size, 0, none⟩)]) ∧ w' = W.alloc (.cells XA 52 (0, 0)) := fun W => by rw [hXA]; exact pmixer_any [14, 11, 13, 9] W
  have HXA : Hid _ := hXA
  have HF : Hid (F3 w 26 key (.cells SA 26 (0, 0)) (.cells ZA 26 (0, 0)) (((w.alloc (.cells KL.toArray 26 (0, 0))).alloc (.cells SA 26 (0, 0))).alloc (.cells ZA 26 (0, 0)))) := F3.start _ _ _ _ _ (by rw [hKL])
  have HKLe : Hid _ := hKL
  clear hk hs hKL hSA hTL hUL htl hUl hFl hFA hZA hZT hZTs hZF hXA
  go_enter Try.func23, Try.ntmps23
  go_wp2_with fail
  refine (hsu _).mono ?_
  rintro e w1 ⟨rfl, hb1⟩
  have hs1 : w.heap.size + 3 ≤ w1.heap.size := by have := hb1.size; simp at this; omega
  have HB1 : Hid (Below w.heap.size w w1) := HF.out.2.2.2.trans (hb1.mono (by first | (simp; done) | (simp; omega)))
  have HK1 : Hid (w1.heap[w.heap.size]? = some (.cells KL.toArray 26 (0, 0))) := by show _ = _; rw [HKLe.out]; exact (hb1.block _ (by first | (simp; done) | (simp; omega))).trans HF.out.1
  have HS1 : Hid (w1.heap[w.heap.size + 1]? = some (.cells SA 26 (0, 0))) := (hb1.block _ (by first | (simp; done) | (simp; omega))).trans HF.out.2.1
  have HZ1 : Hid (w1.heap[w.heap.size + 1 + 1]? = some (.cells ZA 26 (0, 0))) := (hb1.block _ (by first | (simp; done) | (simp; omega))).trans HF.out.2.2.1
  clear hb1 HF hsu
  have HQ : Hid ((w1.alloc (.cells ZT 27 (0, 0))).heap[w1.heap.size]? = some (.cells ZT 27 (0, 0))) := heap_at _ _ _ rfl
  go_wp2_with (first
    | (refine wpList_store_row rfl 27 _ _ rfl w1.heap.size TL.toArray rfl rfl 27 ZT HQ.out HTI.out HZT.out HT1.out ?_))
  have hDS : DS w w1.heap.size KL TL SA ZA ((w1.alloc (.cells ZT 27 (0, 0))).setRow w1.heap.size TL.toArray).drew := by
    have hb : Below w1.heap.size w1 ((w1.alloc (.cells ZT 27 (0, 0))).setRow w1.heap.size TL.toArray) := below_setRow ((Below.refl _ _).alloc (Nat.le_refl _) _) (Nat.le_refl _) _
    refine ⟨rangeAt_row (by rw [heap_drew]; exact (hb.block _ (by omega)).trans HK1.out), by rw [heap_drew]; exact (hb.block _ (by omega)).trans HS1.out, rangeAt_row (by rw [heap_drew]; exact setRow_heap _ _ _ _ _ _ HQ.out), by rw [heap_drew]; exact (hb.block _ (by omega)).trans HZ1.out, (HB1.out.trans (hb.mono (by omega))).drew, hs1, by rw [heap_drew]; simp⟩
  clear HQ HB1 HK1 HS1 HZ1
  generalize (w1.alloc (.cells ZT 27 (0, 0))).setRow w1.heap.size TL.toArray = w2 at *
  generalize w1.heap.size = g at *
  refine Code.wp_mono (Q := fun e a W => Nrm e (∃ g6 g7 : Nat, a = { tmps := #[.agg KL.toArray, .agg SA, .pointer (some ⟨w.heap.size, 0, none⟩), .pointer (some ⟨w.heap.size + 1, 0, none⟩), .pointer (some ⟨w.heap.size + 1 + 1, 0, none⟩), .pointer (some ⟨g, 0, none⟩), .pointer (some ⟨g6, 0, none⟩), .pointer (some ⟨g7, 0, none⟩), undef, undef, undef, .agg TL.toArray, .agg KL.toArray, .agg TL.toArray, .agg FA, .agg TL.toArray, .agg UL.toArray, undef, undef, undef, undef, undef, undef, undef, undef, undef, undef, undef, undef, undef, undef, undef, undef, undef, undef, undef, undef, undef, undef, undef, undef, undef, undef], defers := [] } ∧ W.heap[g6]? = some (.cells FA 29 (0, 0)) ∧ W.heap[g7]? = some (.cells UL.toArray 27 (0, 0)) ∧ DS w g KL TL SA ZA W ∧ g < g6 ∧ g < g7)) ?_ ?_
  · intro e a W hnr
    obtain ⟨rfl, g6, g7, rfl, h6, h7, hD, hg6, hg7⟩ := hnr.out
    clear hDS w2
    have k6 : w.heap.size + 3 ≤ g6 := by have := hD.2.2.2.2.2.1; omega
    have k7 : w.heap.size + 3 ≤ g7 := by have := hD.2.2.2.2.2.1; omega
    have k8 : w.heap.size + 3 ≤ W.heap.size := by have := hD.2.2.2.2.2.1; have := hD.2.2.2.2.2.2; omega
    have HDP : Hid (DP w g6 g7 W.heap.size FA UL.toArray XA ZA (D 0) (W.alloc (.cells XA 52 (0, 0)))) := by
      have hb := (Below.refl W.heap.size W).alloc (Nat.le_refl _) (.cells XA 52 (0, 0))
      exact ⟨(hb.block _ (row_lt h6)).trans h6, (hb.block _ (row_lt h7)).trans h7, heap_at _ _ _ rfl, by rw [HD0.out, ← HSA.out]; exact (hb.block _ (row_lt hD.2.1)).trans hD.2.1, (hb.block _ (row_lt hD.2.2.2.1)).trans hD.2.2.2.1, hD.2.2.2.2.1.trans (hb.mono (by omega))⟩
    clear h6 h7 hD hg6 hg7 hex hbk
    go_wp2_with fail
    refine (hmx _).mono ?_
    rintro e w3 ⟨rfl, rfl⟩
    clear hmx
    generalize W.alloc (.cells XA 52 (0, 0)) = w3 at *
    generalize W.heap.size = g8 at *
    go_wp2
    go_loopw [19] (fun i wr => ∃ n : Nat, n ≤ 10 ∧ i = .int .i64 n ∧ DP w g6 g7 g8 FA UL.toArray XA ZA (D n) wr) (fun i _ => 10 - (intOf i).toNat)
    case atStart => exact ⟨0, by omega, rfl, HDP.out⟩
    case round =>
      clear HDP
      obtain ⟨n, hn, rfl, hM⟩ := hrel
      by_cases hlt : n < 10
      · have hnI : (n : Int) < 10 := by omega
        have hst := HDG.out n hlt
        have hLl := HDL.out n
        obtain ⟨q, hq⟩ : ∃ q, q = 10 - n := ⟨_, rfl⟩
        rw [← hq] at hst
        have hqI : (10 : Int) - (n : Int) = (q : Int) := by omega
        have hqw : IntKind.i64.wrap ((10 : Int) - (n : Int)) = (q : Int) := by rw [hqI]; exact wrap_i64_7 _ (by omega) (by omega)
        have hq11 : (q : Int) < 11 := by omega
        have hKn := HKL.out q (by omega)
        have hx := fun V => pxored_any (D n) (keyA F q) V hLl hKn
        have hXl := xrA_len (D n) (keyA F q) 16 hLl hKn
        obtain ⟨ML, hML⟩ : ∃ A, A = List.map B8 (keyA F q) := ⟨_, rfl⟩
        have hiM : (Try.prog.info? 26).map (·.size) = some ML.length := by rw [hML, List.length_map, hKn]; kernel_rfl
        rw [← hML] at hx
        generalize xrA (D n) (keyA F q) = X at *
        obtain ⟨LA, hLA⟩ : ∃ A, A = (List.map B8 (D n)).toArray := ⟨_, rfl⟩
        have hLS : LA.size = 16 := by rw [hLA]; simp [hLl]
        have HLI : Hid _ := info16 LA hLS
        have HL1 : Hid (LA.all (·.oneCell') = true) := by show _ = _; rw [hLA]; exact B8_onea _
        have HLS : Hid _ := hLS
        have HLA : Hid _ := hLA
        clear hLS
        obtain ⟨YA, hYA⟩ : ∃ A, A = (List.map B8 X).toArray := ⟨_, rfl⟩
        have hYS : YA.size = 16 := by rw [hYA]; simp [hXl]
        have HYI : Hid _ := info16 YA hYS
        have HY1 : Hid (YA.all (·.oneCell') = true) := by show _ = _; rw [hYA]; exact B8_onea _
        have HYS : Hid _ := hYS
        have HYA : Hid _ := hYA
        clear hYS
        rw [← hLA, ← hYA] at hx
        have HM0 : Hid (DP w g6 g7 g8 FA UL.toArray XA ZA (D n) wr) := hM
        have HES0 : Hid (ES2 g6 ML (q * 16) wr.drew) := ⟨by rw [hML, Nat.mul_comm]; exact HKR.out _ _ _ (by rw [heap_drew]; exact hM.1), by rw [heap_drew]; exact row_lt hM.1⟩
        have HLR : Hid (wr.drew.heap[w.heap.size + 1]? = some (.cells LA 26 (0, 0))) := by show _ = _; rw [heap_drew, hLA]; exact hM.2.2.2.1
        have hq10 : q ≤ 10 := by omega
        clear hM hML hLA hYA hqI hKn hq
        go_wp2
        refine wp_region_held_drew (S := ES2 g6 ML (q * 16)) (by kernel_rfl) HES0.out (fun hHeld => ?_)
        refine wpAnyH_take (i := 1) (oi := { dst := some 25, op := Go.Op.move (Go.Operand.tmp 10), type := 3, pos := _, after := #[], guard := none }) (v := .int .i64 (q : Int)) rfl (by kernel_rfl) (by kernel_rfl) (by kernel_rfl) (fun _ _ _ h => h) (Or.inl ⟨by rfl, fun w' hw' => ?_⟩) hHeld ?_
        · first | (go_simp; done) | (go_simp; rfl)
        try simp only [Act.put, List.setIfInBounds_toArray, List.set_cons_zero, List.set_cons_succ]
        refine wpAnyH_take (i := 2) (oi := { dst := some 26, op := Go.Op.indexAddr 29 (Go.Operand.tmp 6) (Go.Operand.tmp 25), type := 0, pos := _, after := #[{ on := 1, ground := Go.Ground.data }], guard := none }) (v := .pointer (some ⟨g6, q * 16, none⟩)) rfl (by kernel_rfl) (by kernel_rfl) (by kernel_rfl) (fun _ _ _ h => h) (Or.inl ⟨by rfl, fun w' hw' => ?_⟩) hHeld ?_
        · first | (go_simp; done) | (go_simp; rfl) | (go_simp; intro hbad; omega)
        try simp only [Act.put, List.setIfInBounds_toArray, List.set_cons_zero, List.set_cons_succ]
        refine wpAnyH_take (i := 3) (oi := { dst := some 27, op := Go.Op.load 26 (Go.Operand.tmp 26), type := 26, pos := _, after := #[{ on := 2, ground := Go.Ground.data }], guard := none }) rfl (by kernel_rfl) (by kernel_rfl) (by kernel_rfl) (fun _ _ _ h => h) (yieldsIf_load_mid (by rfl) 26 (.tmp 26) rfl (g6) (q * 16) rfl (ML) _ (fun _ h => h.1) hu rfl hiM) hHeld ?_
        try simp only [Act.put, List.setIfInBounds_toArray, List.set_cons_zero, List.set_cons_succ]
        refine wpAnyH_ready (rs := [0]) (by kernel_rfl) (by simp) ?_
        refine AllReadyH.cons (o := { dst := some 24, op := Go.Op.load 26 (Go.Operand.tmp 3), type := 26, pos := _, after := #[], guard := none }) rfl (fun K hK => ?_) AllReadyH.nil
        rw [if_pos (by rfl)]
        refine wp_load_row 26 _ rfl (w.heap.size + 1) rfl 26 LA (0, 0) _ HLR.out Try.underlying26 rfl HLI.out ?_
        refine hK.out _ _ hHeld (fun _ => ?_)
        clear hK K
        try simp only [Act.put, List.setIfInBounds_toArray, List.set_cons_zero, List.set_cons_succ]
        refine wpAnyH_ready (rs := [4]) (by kernel_rfl) (by simp) ?_
        refine AllReadyH.cons (o := { dst := some 28, op := Go.Op.call { callee := Go.Callee.value (Go.Operand.func 40), args := #[Go.Operand.tmp 24, Go.Operand.tmp 27], argTypes := #[26, 26] }, type := 26, pos := _, after := #[{ on := 0, ground := Go.Ground.data }, { on := 3, ground := Go.Ground.data }], guard := none }) rfl (fun K hK => ?_) AllReadyH.nil
        rw [if_pos (by rfl)]
        go_wp2_with fail
        refine (hx _).mono ?_
        rintro e w4 ⟨rfl, hb4⟩
        have hHeld4 := ES2.below hHeld hb4
        have HM4 : Hid (DP w g6 g7 g8 FA UL.toArray XA ZA (D n) w4) := HM0.out.drew.below hb4
        clear hb4
        refine hK.out _ _ hHeld4 (fun _ => ?_)
        clear hK K
        try simp only [Act.put, List.setIfInBounds_toArray, List.set_cons_zero, List.set_cons_succ]
        refine wpAnyH_ready (rs := [5]) (by kernel_rfl) (by simp) ?_
        refine AllReadyH.cons (o := { dst := none, op := Go.Op.store 26 (Go.Operand.tmp 3) (Go.Operand.tmp 28), type := 0, pos := _, after := #[{ on := 4, ground := Go.Ground.data }, { on := 4, ground := Go.Ground.chain }, { on := 0, ground := Go.Ground.phase }, { on := 1, ground := Go.Ground.phase }, { on := 2, ground := Go.Ground.phase }, { on := 3, ground := Go.Ground.phase }, { on := 4, ground := Go.Ground.phase }], guard := none }) rfl (fun K hK => ?_) AllReadyH.nil
        rw [if_pos (by rfl)]
        have hX4 : w4.heap[w.heap.size + 1]? = some (.cells LA 26 (0, 0)) := by rw [HLA.out]; exact HM4.out.2.2.2.1
        refine wp_store_row 26 _ _ rfl (w.heap.size + 1) YA rfl rfl 26 _ hX4 HYI.out (HLS.out.trans HYS.out.symm) HY1.out ?_
        refine hK.out _ _ (ES2.row hHeld4 (by omega) YA) (fun _ => ?_)
        clear hK K
        try simp only [Act.put, List.setIfInBounds_toArray, List.set_cons_zero, List.set_cons_succ]
        refine wpAnyH_done (by kernel_rfl) ?_ _
        have HM5 : Hid (DP w g6 g7 g8 FA UL.toArray XA ZA X (w4.setRow (w.heap.size + 1) YA)) := HM4.out.set k6 k7 k8 YA HYA.out
        clear hHeld hHeld4 hX4 HM4 HM0 HLR HES0 hx
        generalize w4.setRow (w.heap.size + 1) YA = w5 at *
        by_cases h10 : q < 10
        · have hqJ : (q : Int) < 10 := by omega
          rw [if_pos h10] at hst
          have hmd := pmixed_any X [14, 11, 13, 9] g8 w5 hXl rfl (by rw [← HXA.out]; exact HM5.out.2.2.1)
          have hVl := mdA_len X [14, 11, 13, 9]
          generalize mdA X [14, 11, 13, 9] = V at *
          rw [← HYA.out] at hmd
          have HYR : Hid (w5.heap[w.heap.size + 1]? = some (.cells YA 26 (0, 0))) := by show _ = _; rw [HYA.out]; exact HM5.out.2.2.2.1
          go_wp2_with (first
            | (refine wpList_load_row rfl 26 _ rfl (w.heap.size + 1) rfl 26 YA (0, 0) _ HYR.out Try.underlying26 rfl HYI.out ?_))
          refine hmd.mono ?_
          rintro e w6 ⟨rfl, hb6⟩
          have HM6 : Hid (DP w g6 g7 g8 FA UL.toArray XA ZA X w6) := HM5.out.below hb6
          clear hb6 hmd HM5 HYR
          have HX6 : Hid (w6.heap[w.heap.size + 1]? = some (.cells YA 26 (0, 0))) := by show _ = _; rw [HYA.out]; exact HM6.out.2.2.2.1
          obtain ⟨VA, hVA⟩ : ∃ A, A = (List.map B8 V).toArray := ⟨_, rfl⟩
          have hVS : VA.size = 16 := by rw [hVA]; simp [hVl]
          have HVI : Hid _ := info16 VA hVS
          have HV1 : Hid (VA.all (·.oneCell') = true) := by show _ = _; rw [hVA]; exact B8_onea _
          have HVS : Hid _ := hVS
          have HVA : Hid _ := hVA
          clear hVS
          rw [← hVA]
          clear hVA
          go_wp2_with (first
            | (refine wpList_store_row rfl 26 _ _ rfl (w.heap.size + 1) VA rfl rfl 26 YA HX6.out HVI.out (HYS.out.trans HVS.out.symm) HV1.out ?_))
          have HM5 : Hid (DP w g6 g7 g8 FA UL.toArray XA ZA V (w6.setRow (w.heap.size + 1) VA)) := HM6.out.set k6 k7 k8 VA HVA.out
          clear HM6 HX6 HYI HY1 HYS HYA
          generalize w6.setRow (w.heap.size + 1) VA = w5 at *
          obtain ⟨YA, hYV⟩ : ∃ A, A = VA := ⟨_, rfl⟩
          subst hYV
          have HYI : Hid _ := HVI.out
          have HY1 : Hid _ := HV1.out
          have HYS : Hid _ := HVS.out
          have HYA : Hid _ := HVA.out
          have hQl := rtA_len V 3
          have hrt := fun W0 => protated_any V 3 W0 hVl (by omega)
          rw [show ((3 : Nat) : Int) = 3 from rfl, ← HYA.out] at hrt
          have hrp := fun W0 => HRP.out (rtA V 3) W0 hQl
          rw [← hst] at hrp
          have hEn := HDL.out (n + 1)
          obtain ⟨NA, hNA⟩ : ∃ A, A = (List.map B8 (D (n + 1))).toArray := ⟨_, rfl⟩
          have hNS : NA.size = 16 := by rw [hNA]; simp [hEn]
          have HNI : Hid _ := info16 NA hNS
          have HN1 : Hid (NA.all (·.oneCell') = true) := by show _ = _; rw [hNA]; exact B8_onea _
          have HNS : Hid _ := hNS
          have HNA : Hid _ := hNA
          clear hNS
          rw [← hNA] at hrp
          have HES0 : Hid (ES2 g7 UL 0 w5.drew) := ⟨rangeAt_row (by rw [heap_drew]; exact HM5.out.2.1), by rw [heap_drew]; exact row_lt HM5.out.2.1⟩
          have HYR : Hid (w5.drew.heap[w.heap.size + 1]? = some (.cells YA 26 (0, 0))) := by show _ = _; rw [heap_drew, HYA.out]; exact HM5.out.2.2.2.1
          generalize rtA V 3 = QQ at *
          clear hst hNA hEn
          try go_wp2
          refine wp_region_held_drew (S := ES2 g7 UL 0) (by kernel_rfl) HES0.out (fun hHeld => ?_)
          refine wpAnyH_take (i := 2) (oi := { dst := some 36, op := Go.Op.load 27 (Go.Operand.tmp 7), type := 27, pos := _, after := #[], guard := none }) rfl (by kernel_rfl) (by kernel_rfl) (by kernel_rfl) (fun _ _ _ h => h) (yieldsIf_load_mid (by rfl) 27 (.tmp 7) rfl (g7) (0) rfl (UL) _ (fun _ h => h.1) hu2 rfl hiU) hHeld ?_
          try simp only [Act.put, List.setIfInBounds_toArray, List.set_cons_zero, List.set_cons_succ]
          refine wpAnyH_ready (rs := [0]) (by kernel_rfl) (by simp) ?_
          refine AllReadyH.cons (o := { dst := some 34, op := Go.Op.load 26 (Go.Operand.tmp 3), type := 26, pos := _, after := #[], guard := none }) rfl (fun K hK => ?_) AllReadyH.nil
          rw [if_pos (by rfl)]
          refine wp_load_row 26 _ rfl (w.heap.size + 1) rfl 26 YA (0, 0) _ HYR.out Try.underlying26 rfl HYI.out ?_
          refine hK.out _ _ hHeld (fun _ => ?_)
          clear hK K
          try simp only [Act.put, List.setIfInBounds_toArray, List.set_cons_zero, List.set_cons_succ]
          refine wpAnyH_ready (rs := [1]) (by kernel_rfl) (by simp) ?_
          refine AllReadyH.cons (o := { dst := some 35, op := Go.Op.call { callee := Go.Callee.value (Go.Operand.func 43), args := #[Go.Operand.tmp 34, Go.Operand.const (Go.Value.int Go.IntKind.i64 3)], argTypes := #[26, 3] }, type := 26, pos := _, after := #[{ on := 0, ground := Go.Ground.data }], guard := none }) rfl (fun K hK => ?_) AllReadyH.nil
          rw [if_pos (by rfl)]
          go_wp2_with fail
          refine (hrt _).mono ?_
          rintro e w6 ⟨rfl, hb6⟩
          have hHeld6 := ES2.below hHeld hb6
          have HM6 : Hid (DP w g6 g7 g8 FA UL.toArray XA ZA V w6) := HM5.out.drew.below hb6
          clear hb6
          refine hK.out _ _ hHeld6 (fun _ => ?_)
          clear hK K
          try simp only [Act.put, List.setIfInBounds_toArray, List.set_cons_zero, List.set_cons_succ]
          refine wpAnyH_ready (rs := [3]) (by kernel_rfl) (by simp) ?_
          refine AllReadyH.cons (o := { dst := some 37, op := Go.Op.call { callee := Go.Callee.value (Go.Operand.func 42), args := #[Go.Operand.tmp 35, Go.Operand.tmp 36], argTypes := #[26, 27] }, type := 26, pos := _, after := #[{ on := 1, ground := Go.Ground.data }, { on := 2, ground := Go.Ground.data }, { on := 1, ground := Go.Ground.chain }], guard := none }) rfl (fun K hK => ?_) AllReadyH.nil
          rw [if_pos (by rfl)]
          go_wp2_with fail
          refine (hrp _).mono ?_
          rintro e w7 ⟨rfl, hb7⟩
          have hHeld7 := ES2.below hHeld6 hb7
          have HM7 : Hid (DP w g6 g7 g8 FA UL.toArray XA ZA V w7) := HM6.out.below hb7
          clear hb7
          refine hK.out _ _ hHeld7 (fun _ => ?_)
          clear hK K
          try simp only [Act.put, List.setIfInBounds_toArray, List.set_cons_zero, List.set_cons_succ]
          refine wpAnyH_ready (rs := [4]) (by kernel_rfl) (by simp) ?_
          refine AllReadyH.cons (o := { dst := none, op := Go.Op.store 26 (Go.Operand.tmp 3) (Go.Operand.tmp 37), type := 0, pos := _, after := #[{ on := 3, ground := Go.Ground.data }, { on := 3, ground := Go.Ground.chain }, { on := 0, ground := Go.Ground.phase }, { on := 1, ground := Go.Ground.phase }, { on := 2, ground := Go.Ground.phase }, { on := 3, ground := Go.Ground.phase }], guard := none }) rfl (fun K hK => ?_) AllReadyH.nil
          rw [if_pos (by rfl)]
          have hX7 : w7.heap[w.heap.size + 1]? = some (.cells YA 26 (0, 0)) := by rw [HYA.out]; exact HM7.out.2.2.2.1
          refine wp_store_row 26 _ _ rfl (w.heap.size + 1) NA rfl rfl 26 _ hX7 HNI.out (HYS.out.trans HNS.out.symm) HN1.out ?_
          refine hK.out _ _ (ES2.row hHeld7 (by omega) NA) (fun _ => ?_)
          clear hK K
          try simp only [Act.put, List.setIfInBounds_toArray, List.set_cons_zero, List.set_cons_succ]
          refine wpAnyH_done (by kernel_rfl) ?_ _
          have HFIN : Hid (DP w g6 g7 g8 FA UL.toArray XA ZA (D (n + 1)) (w7.setRow (w.heap.size + 1) NA)) := HM7.out.set k6 k7 k8 NA HNA.out
          clear hHeld hHeld6 hHeld7 hX7 HM6 HM7 HYR HES0
          go_wp2
          go_roundw
          case rel => exact ⟨n + 1, by omega, by go_num, HFIN.out⟩
          case measure => simp [intOf]; omega
        · have hqJ : ¬ (q : Int) < 10 := by omega
          rw [if_neg h10] at hst
          go_wp2
          have hQl := rtA_len X 3
          have hrt := fun W0 => protated_any X 3 W0 hXl (by omega)
          rw [show ((3 : Nat) : Int) = 3 from rfl, ← HYA.out] at hrt
          have hrp := fun W0 => HRP.out (rtA X 3) W0 hQl
          rw [← hst] at hrp
          have hEn := HDL.out (n + 1)
          obtain ⟨NA, hNA⟩ : ∃ A, A = (List.map B8 (D (n + 1))).toArray := ⟨_, rfl⟩
          have hNS : NA.size = 16 := by rw [hNA]; simp [hEn]
          have HNI : Hid _ := info16 NA hNS
          have HN1 : Hid (NA.all (·.oneCell') = true) := by show _ = _; rw [hNA]; exact B8_onea _
          have HNS : Hid _ := hNS
          have HNA : Hid _ := hNA
          clear hNS
          rw [← hNA] at hrp
          have HES0 : Hid (ES2 g7 UL 0 w5.drew) := ⟨rangeAt_row (by rw [heap_drew]; exact HM5.out.2.1), by rw [heap_drew]; exact row_lt HM5.out.2.1⟩
          have HYR : Hid (w5.drew.heap[w.heap.size + 1]? = some (.cells YA 26 (0, 0))) := by show _ = _; rw [heap_drew, HYA.out]; exact HM5.out.2.2.2.1
          generalize rtA X 3 = QQ at *
          clear hst hNA hEn
          try go_wp2
          refine wp_region_held_drew (S := ES2 g7 UL 0) (by kernel_rfl) HES0.out (fun hHeld => ?_)
          refine wpAnyH_take (i := 2) (oi := { dst := some 36, op := Go.Op.load 27 (Go.Operand.tmp 7), type := 27, pos := _, after := #[], guard := none }) rfl (by kernel_rfl) (by kernel_rfl) (by kernel_rfl) (fun _ _ _ h => h) (yieldsIf_load_mid (by rfl) 27 (.tmp 7) rfl (g7) (0) rfl (UL) _ (fun _ h => h.1) hu2 rfl hiU) hHeld ?_
          try simp only [Act.put, List.setIfInBounds_toArray, List.set_cons_zero, List.set_cons_succ]
          refine wpAnyH_ready (rs := [0]) (by kernel_rfl) (by simp) ?_
          refine AllReadyH.cons (o := { dst := some 34, op := Go.Op.load 26 (Go.Operand.tmp 3), type := 26, pos := _, after := #[], guard := none }) rfl (fun K hK => ?_) AllReadyH.nil
          rw [if_pos (by rfl)]
          refine wp_load_row 26 _ rfl (w.heap.size + 1) rfl 26 YA (0, 0) _ HYR.out Try.underlying26 rfl HYI.out ?_
          refine hK.out _ _ hHeld (fun _ => ?_)
          clear hK K
          try simp only [Act.put, List.setIfInBounds_toArray, List.set_cons_zero, List.set_cons_succ]
          refine wpAnyH_ready (rs := [1]) (by kernel_rfl) (by simp) ?_
          refine AllReadyH.cons (o := { dst := some 35, op := Go.Op.call { callee := Go.Callee.value (Go.Operand.func 43), args := #[Go.Operand.tmp 34, Go.Operand.const (Go.Value.int Go.IntKind.i64 3)], argTypes := #[26, 3] }, type := 26, pos := _, after := #[{ on := 0, ground := Go.Ground.data }], guard := none }) rfl (fun K hK => ?_) AllReadyH.nil
          rw [if_pos (by rfl)]
          go_wp2_with fail
          refine (hrt _).mono ?_
          rintro e w6 ⟨rfl, hb6⟩
          have hHeld6 := ES2.below hHeld hb6
          have HM6 : Hid (DP w g6 g7 g8 FA UL.toArray XA ZA X w6) := HM5.out.drew.below hb6
          clear hb6
          refine hK.out _ _ hHeld6 (fun _ => ?_)
          clear hK K
          try simp only [Act.put, List.setIfInBounds_toArray, List.set_cons_zero, List.set_cons_succ]
          refine wpAnyH_ready (rs := [3]) (by kernel_rfl) (by simp) ?_
          refine AllReadyH.cons (o := { dst := some 37, op := Go.Op.call { callee := Go.Callee.value (Go.Operand.func 42), args := #[Go.Operand.tmp 35, Go.Operand.tmp 36], argTypes := #[26, 27] }, type := 26, pos := _, after := #[{ on := 1, ground := Go.Ground.data }, { on := 2, ground := Go.Ground.data }, { on := 1, ground := Go.Ground.chain }], guard := none }) rfl (fun K hK => ?_) AllReadyH.nil
          rw [if_pos (by rfl)]
          go_wp2_with fail
          refine (hrp _).mono ?_
          rintro e w7 ⟨rfl, hb7⟩
          have hHeld7 := ES2.below hHeld6 hb7
          have HM7 : Hid (DP w g6 g7 g8 FA UL.toArray XA ZA X w7) := HM6.out.below hb7
          clear hb7
          refine hK.out _ _ hHeld7 (fun _ => ?_)
          clear hK K
          try simp only [Act.put, List.setIfInBounds_toArray, List.set_cons_zero, List.set_cons_succ]
          refine wpAnyH_ready (rs := [4]) (by kernel_rfl) (by simp) ?_
          refine AllReadyH.cons (o := { dst := none, op := Go.Op.store 26 (Go.Operand.tmp 3) (Go.Operand.tmp 37), type := 0, pos := _, after := #[{ on := 3, ground := Go.Ground.data }, { on := 3, ground := Go.Ground.chain }, { on := 0, ground := Go.Ground.phase }, { on := 1, ground := Go.Ground.phase }, { on := 2, ground := Go.Ground.phase }, { on := 3, ground := Go.Ground.phase }], guard := none }) rfl (fun K hK => ?_) AllReadyH.nil
          rw [if_pos (by rfl)]
          have hX7 : w7.heap[w.heap.size + 1]? = some (.cells YA 26 (0, 0)) := by rw [HYA.out]; exact HM7.out.2.2.2.1
          refine wp_store_row 26 _ _ rfl (w.heap.size + 1) NA rfl rfl 26 _ hX7 HNI.out (HYS.out.trans HNS.out.symm) HN1.out ?_
          refine hK.out _ _ (ES2.row hHeld7 (by omega) NA) (fun _ => ?_)
          clear hK K
          try simp only [Act.put, List.setIfInBounds_toArray, List.set_cons_zero, List.set_cons_succ]
          refine wpAnyH_done (by kernel_rfl) ?_ _
          have HFIN : Hid (DP w g6 g7 g8 FA UL.toArray XA ZA (D (n + 1)) (w7.setRow (w.heap.size + 1) NA)) := HM7.out.set k6 k7 k8 NA HNA.out
          clear hHeld hHeld6 hHeld7 hX7 HM6 HM7 HYR HES0
          go_wp2
          go_roundw
          case rel => exact ⟨n + 1, by omega, by go_num, HFIN.out⟩
          case measure => simp [intOf]; omega
      · have hn10 : n = 10 := by omega
        have hlt' : ¬ (n : Int) < 10 := by omega
        rw [hn10] at hM
        have hLl := HDL.out 10
        have hKn := HKL.out 0 (by omega)
        have hx := fun V => pxored_any (D 10) (keyA F 0) V hLl hKn
        rw [← HDA.out] at hx
        have hRl : R.length = 16 := by rw [HDA.out]; exact xrA_len _ _ 16 hLl hKn
        obtain ⟨ML, hML⟩ : ∃ A, A = List.map B8 (keyA F 0) := ⟨_, rfl⟩
        have HIM : Hid ((Try.prog.info? 26).map (·.size) = some ML.length) := by show _ = _; rw [hML, List.length_map, hKn]; kernel_rfl
        rw [← hML] at hx
        obtain ⟨LA, hLA⟩ : ∃ A, A = (List.map B8 (D 10)).toArray := ⟨_, rfl⟩
        have hLS : LA.size = 16 := by rw [hLA]; simp [hLl]
        have HLI : Hid _ := info16 LA hLS
        have HL1 : Hid (LA.all (·.oneCell') = true) := by show _ = _; rw [hLA]; exact B8_onea _
        have HLS : Hid _ := hLS
        have HLA : Hid _ := hLA
        clear hLS
        obtain ⟨RA, hRA⟩ : ∃ A, A = (List.map B8 R).toArray := ⟨_, rfl⟩
        have hRS : RA.size = 16 := by rw [hRA]; simp [hRl]
        have HRI : Hid _ := info16 RA hRS
        have HR1 : Hid (RA.all (·.oneCell') = true) := by show _ = _; rw [hRA]; exact B8_onea _
        have HRS : Hid _ := hRS
        have HRA : Hid _ := hRA
        clear hRS
        rw [← hLA, ← hRA] at hx
        have HLR : Hid (wr.heap[w.heap.size + 1]? = some (.cells LA 26 (0, 0))) := by show _ = _; rw [hLA]; exact hM.2.2.2.1
        have HMR : Hid (wr.rangeAt g6 0 ML) := by rw [hML]; exact HKR.out _ _ 0 hM.1
        have HM0 : Hid (DP w g6 g7 g8 FA UL.toArray XA ZA (D 10) wr) := hM
        clear hM hML hLA hn10 hKn hRl
        clear hRA
        go_wp2_with (first
          | (refine wpList_load_row rfl 26 _ rfl (w.heap.size + 1) rfl 26 LA (0, 0) _ HLR.out Try.underlying26 rfl HLI.out ?_)
          | (refine wpList_load_mid rfl 26 _ rfl g6 0 rfl ML _ HMR.out Try.underlying26 rfl HIM.out ?_))
        refine (hx _).mono ?_
        rintro e w4 ⟨rfl, hb4⟩
        have HM4 : Hid (DP w g6 g7 g8 FA UL.toArray XA ZA (D 10) w4) := HM0.out.below hb4
        have HZ4 : Hid _ := HM4.out.2.2.2.2.1
        clear hb4 HM0 HLR HMR hx
        go_wp2_with (first
          | (refine wpList_store_row rfl 26 _ _ rfl (w.heap.size + 1 + 1) RA rfl rfl 26 ZA HZ4.out HRI.out (HZS.out.trans HRS.out.symm) HR1.out ?_))
        refine bodyPost_ret (v := .agg RA) ?_ rfl ⟨by rw [HRA.out], below_setRow HM4.out.2.2.2.2.2 (by omega) _⟩
        exact results_cell_row Try.results23 _ _ (w.heap.size + 1 + 1) 26 _ (0, 0) _ rfl (setRow_heap _ _ _ _ _ _ HZ4.out) Try.underlying26 rfl HRI.out
  refine wp_region_held_drew (S := DS w g KL TL SA ZA) (by kernel_rfl) hDS (fun hHeld => ?_)
  clear hDS
  generalize w2.drew = W at *
  refine wpAnyH_take (i := 0) (oi := { dst := some 12, op := Go.Op.load 26 (Go.Operand.tmp 2), type := 26, pos := _, after := #[], guard := none }) rfl (by kernel_rfl) (by kernel_rfl) (by kernel_rfl) (fun _ _ _ h => h) (yieldsIf_load_mid (by rfl) 26 (.tmp 2) rfl (w.heap.size) (0) rfl (KL) _ (fun _ h => h.1) hu rfl hiK) hHeld ?_
  try simp only [Act.put, List.setIfInBounds_toArray, List.set_cons_zero, List.set_cons_succ]
  refine wpAnyH_take (i := 1) (oi := { dst := some 13, op := Go.Op.load 27 (Go.Operand.tmp 5), type := 27, pos := _, after := #[], guard := none }) rfl (by kernel_rfl) (by kernel_rfl) (by kernel_rfl) (fun _ _ _ h => h) (yieldsIf_load_mid (by rfl) 27 (.tmp 5) rfl (g) (0) rfl (TL) _ (fun _ h => h.2.2.1) hu2 rfl hiT) hHeld ?_
  try simp only [Act.put, List.setIfInBounds_toArray, List.set_cons_zero, List.set_cons_succ]
  refine wpAnyH_take (i := 3) (oi := { dst := some 15, op := Go.Op.load 27 (Go.Operand.tmp 5), type := 27, pos := _, after := #[], guard := none }) rfl (by kernel_rfl) (by kernel_rfl) (by kernel_rfl) (fun _ _ _ h => h) (yieldsIf_load_mid (by rfl) 27 (.tmp 5) rfl (g) (0) rfl (TL) _ (fun _ h => h.2.2.1) hu2 rfl hiT) hHeld ?_
  try simp only [Act.put, List.setIfInBounds_toArray, List.set_cons_zero, List.set_cons_succ]
  refine wpAnyH_ready (rs := [2, 5, 6]) (by kernel_rfl) (by simp) ?_
  refine AllReadyH.cons (o := { dst := some 14, op := Go.Op.call { callee := Go.Callee.value (Go.Operand.func 35), args := #[Go.Operand.tmp 12, Go.Operand.tmp 13], argTypes := #[26, 27] }, type := 29, pos := _, after := #[{ on := 0, ground := Go.Ground.data }, { on := 1, ground := Go.Ground.data }], guard := none }) rfl (fun K hK => ?_) (AllReadyH.cons (o := { dst := some 6, op := Go.Op.alloc 29, type := 0, pos := _, after := #[], guard := none }) rfl (fun K hK => ?_) (AllReadyH.cons (o := { dst := some 7, op := Go.Op.alloc 27, type := 0, pos := _, after := #[], guard := none }) rfl (fun K hK => ?_) AllReadyH.nil))
  all_goals rw [if_pos (by rfl)]
  · go_wp2_with fail
    refine (hex _).mono ?_
    rintro e W2 ⟨rfl, hb⟩
    have hHeld := DS.below hHeld hb
    clear hb
    refine hK.out _ _ hHeld (fun _ => ?_)
    clear hK K
    try simp only [Act.put, List.setIfInBounds_toArray, List.set_cons_zero, List.set_cons_succ]
    refine wpAnyH_ready (rs := [4, 5, 6]) (by kernel_rfl) (by simp) ?_
    refine AllReadyH.cons (o := { dst := some 16, op := Go.Op.call { callee := Go.Callee.value (Go.Operand.func 32), args := #[Go.Operand.tmp 15], argTypes := #[27] }, type := 27, pos := _, after := #[{ on := 3, ground := Go.Ground.data }, { on := 2, ground := Go.Ground.chain }], guard := none }) rfl (fun K hK => ?_) (AllReadyH.cons (o := { dst := some 6, op := Go.Op.alloc 29, type := 0, pos := _, after := #[], guard := none }) rfl (fun K hK => ?_) (AllReadyH.cons (o := { dst := some 7, op := Go.Op.alloc 27, type := 0, pos := _, after := #[], guard := none }) rfl (fun K hK => ?_) AllReadyH.nil))
    all_goals rw [if_pos (by rfl)]
    · go_wp2_with fail
      refine (hbk _).mono ?_
      rintro e W4 ⟨rfl, hb⟩
      have hHeld := DS.below hHeld hb
      clear hb
      refine hK.out _ _ hHeld (fun _ => ?_)
      clear hK K
      try simp only [Act.put, List.setIfInBounds_toArray, List.set_cons_zero, List.set_cons_succ]
      refine wpAnyH_ready (rs := [5, 6]) (by kernel_rfl) (by simp) ?_
      refine AllReadyH.cons (o := { dst := some 6, op := Go.Op.alloc 29, type := 0, pos := _, after := #[], guard := none }) rfl (fun K hK => ?_) (AllReadyH.cons (o := { dst := some 7, op := Go.Op.alloc 27, type := 0, pos := _, after := #[], guard := none }) rfl (fun K hK => ?_) AllReadyH.nil)
      all_goals rw [if_pos (by rfl)]
      · go_wp2_with fail
        obtain ⟨W5, hW5⟩ : ∃ X, X = W4.alloc (.cells ZF 29 (0, 0)) := ⟨_, rfl⟩
        obtain ⟨g5, hgE5⟩ : ∃ x, x = W4.heap.size := ⟨_, rfl⟩
        have hb : Below W4.heap.size W4 W5 := by rw [hW5]; exact (Below.refl _ _).alloc (Nat.le_refl _) _
        have HG5 : Hid (W5.heap[g5]? = some (.cells ZF 29 (0, 0))) := by show _ = _; rw [hW5, hgE5]; exact heap_at _ _ _ rfl
        have hg5 : g < g5 := by rw [hgE5]; exact hHeld.2.2.2.2.2.2
        have hHeld := DS.below hHeld hb
        rw [← hW5, ← hgE5]
        clear hb hW5 hgE5
        refine hK.out _ _ hHeld (fun _ => ?_)
        clear hK K
        try simp only [Act.put, List.setIfInBounds_toArray, List.set_cons_zero, List.set_cons_succ]
        refine wpAnyH_ready (rs := [6]) (by kernel_rfl) (by simp) ?_
        refine AllReadyH.cons (o := { dst := some 7, op := Go.Op.alloc 27, type := 0, pos := _, after := #[], guard := none }) rfl (fun K hK => ?_) AllReadyH.nil
        rw [if_pos (by rfl)]
        have HG5O : Hid (W5.heap[g5]? = some _) := HG5.out
        go_wp2_with fail
        obtain ⟨W6, hW6⟩ : ∃ X, X = W5.alloc (.cells ZT 27 (0, 0)) := ⟨_, rfl⟩
        obtain ⟨g6, hgE6⟩ : ∃ x, x = W5.heap.size := ⟨_, rfl⟩
        have hb : Below W5.heap.size W5 W6 := by rw [hW6]; exact (Below.refl _ _).alloc (Nat.le_refl _) _
        have HG6 : Hid (W6.heap[g6]? = some (.cells ZT 27 (0, 0))) := by show _ = _; rw [hW6, hgE6]; exact heap_at _ _ _ rfl
        have hg6 : g < g6 := by rw [hgE6]; exact hHeld.2.2.2.2.2.2
        have HG5 : Hid (W6.heap[g5]? = some _) := (hb.block _ (row_lt HG5.out)).trans HG5.out
        have hne : g5 ≠ g6 := by rw [hgE6]; have := row_lt (HG5O.out); omega
        have hHeld := DS.below hHeld hb
        rw [← hW6, ← hgE6]
        clear hb hW6 hgE6
        refine hK.out _ _ hHeld (fun _ => ?_)
        clear hK K
        try simp only [Act.put, List.setIfInBounds_toArray, List.set_cons_zero, List.set_cons_succ]
        refine wpAnyH_ready (rs := [7]) (by kernel_rfl) (by simp) ?_
        refine AllReadyH.cons (o := { dst := none, op := Go.Op.store 29 (Go.Operand.tmp 6) (Go.Operand.tmp 14), type := 0, pos := _, after := #[{ on := 5, ground := Go.Ground.data }, { on := 2, ground := Go.Ground.data }, { on := 4, ground := Go.Ground.chain }, { on := 0, ground := Go.Ground.phase }, { on := 1, ground := Go.Ground.phase }, { on := 2, ground := Go.Ground.phase }, { on := 3, ground := Go.Ground.textOnly Go.Departure.lateStores }, { on := 4, ground := Go.Ground.textOnly Go.Departure.lateStoresUnsure }, { on := 5, ground := Go.Ground.phase }, { on := 6, ground := Go.Ground.phase }], guard := none }) rfl (fun K hK => ?_) AllReadyH.nil
        rw [if_pos (by rfl)]
        refine wp_store_row 29 _ _ rfl g5 FA rfl rfl 29 _ HG5.out HFI.out HZF.out HF1.out ?_
        have hHeld := DS.row hHeld hg5 FA
        refine hK.out _ _ hHeld (fun _ => ?_)
        clear hK K
        try simp only [Act.put, List.setIfInBounds_toArray, List.set_cons_zero, List.set_cons_succ]
        refine wpAnyH_ready (rs := [8]) (by kernel_rfl) (by simp) ?_
        refine AllReadyH.cons (o := { dst := none, op := Go.Op.store 27 (Go.Operand.tmp 7) (Go.Operand.tmp 16), type := 0, pos := _, after := #[{ on := 6, ground := Go.Ground.data }, { on := 4, ground := Go.Ground.data }, { on := 7, ground := Go.Ground.chain }, { on := 0, ground := Go.Ground.phase }, { on := 1, ground := Go.Ground.phase }, { on := 2, ground := Go.Ground.phase }, { on := 3, ground := Go.Ground.phase }, { on := 4, ground := Go.Ground.phase }, { on := 5, ground := Go.Ground.phase }, { on := 6, ground := Go.Ground.phase }, { on := 7, ground := Go.Ground.phase }], guard := none }) rfl (fun K hK => ?_) AllReadyH.nil
        rw [if_pos (by rfl)]
        have h6' : (W6.setRow g5 FA).heap[g6]? = some (.cells ZT 27 (0, 0)) := by rw [setRow_other _ _ _ _ (by omega)]; exact HG6.out
        refine wp_store_row 27 _ _ rfl g6 UL.toArray rfl rfl 27 _ h6' HUI.out HZU.out HU1.out ?_
        have hHeld := DS.row hHeld hg6 UL.toArray
        refine hK.out _ _ hHeld (fun _ => ?_)
        clear hK K
        try simp only [Act.put, List.setIfInBounds_toArray, List.set_cons_zero, List.set_cons_succ]
        refine wpAnyH_done (by kernel_rfl) ?_ _
        show ∃ g6 g7 : Nat, _
        refine ⟨g5, g6, rfl, ?_, ?_, hHeld, hg5, hg6⟩
        · rw [setRow_other _ _ _ _ (by omega)]; exact setRow_heap _ _ _ _ _ _ HG5.out
        · exact setRow_heap _ _ _ _ _ _ h6'
      · go_wp2_with fail
        obtain ⟨W6, hW6⟩ : ∃ X, X = W4.alloc (.cells ZT 27 (0, 0)) := ⟨_, rfl⟩
        obtain ⟨g6, hgE6⟩ : ∃ x, x = W4.heap.size := ⟨_, rfl⟩
        have hb : Below W4.heap.size W4 W6 := by rw [hW6]; exact (Below.refl _ _).alloc (Nat.le_refl _) _
        have HG6 : Hid (W6.heap[g6]? = some (.cells ZT 27 (0, 0))) := by show _ = _; rw [hW6, hgE6]; exact heap_at _ _ _ rfl
        have hg6 : g < g6 := by rw [hgE6]; exact hHeld.2.2.2.2.2.2
        have hHeld := DS.below hHeld hb
        rw [← hW6, ← hgE6]
        clear hb hW6 hgE6
        refine hK.out _ _ hHeld (fun _ => ?_)
        clear hK K
        try simp only [Act.put, List.setIfInBounds_toArray, List.set_cons_zero, List.set_cons_succ]
        refine wpAnyH_ready (rs := [5]) (by kernel_rfl) (by simp) ?_
        refine AllReadyH.cons (o := { dst := some 6, op := Go.Op.alloc 29, type := 0, pos := _, after := #[], guard := none }) rfl (fun K hK => ?_) AllReadyH.nil
        rw [if_pos (by rfl)]
        have HG6O : Hid (W6.heap[g6]? = some _) := HG6.out
        go_wp2_with fail
        obtain ⟨W5, hW5⟩ : ∃ X, X = W6.alloc (.cells ZF 29 (0, 0)) := ⟨_, rfl⟩
        obtain ⟨g5, hgE5⟩ : ∃ x, x = W6.heap.size := ⟨_, rfl⟩
        have hb : Below W6.heap.size W6 W5 := by rw [hW5]; exact (Below.refl _ _).alloc (Nat.le_refl _) _
        have HG5 : Hid (W5.heap[g5]? = some (.cells ZF 29 (0, 0))) := by show _ = _; rw [hW5, hgE5]; exact heap_at _ _ _ rfl
        have hg5 : g < g5 := by rw [hgE5]; exact hHeld.2.2.2.2.2.2
        have HG6 : Hid (W5.heap[g6]? = some _) := (hb.block _ (row_lt HG6.out)).trans HG6.out
        have hne : g6 ≠ g5 := by rw [hgE5]; have := row_lt (HG6O.out); omega
        have hHeld := DS.below hHeld hb
        rw [← hW5, ← hgE5]
        clear hb hW5 hgE5
        refine hK.out _ _ hHeld (fun _ => ?_)
        clear hK K
        try simp only [Act.put, List.setIfInBounds_toArray, List.set_cons_zero, List.set_cons_succ]
        refine wpAnyH_ready (rs := [7]) (by kernel_rfl) (by simp) ?_
        refine AllReadyH.cons (o := { dst := none, op := Go.Op.store 29 (Go.Operand.tmp 6) (Go.Operand.tmp 14), type := 0, pos := _, after := #[{ on := 5, ground := Go.Ground.data }, { on := 2, ground := Go.Ground.data }, { on := 4, ground := Go.Ground.chain }, { on := 0, ground := Go.Ground.phase }, { on := 1, ground := Go.Ground.phase }, { on := 2, ground := Go.Ground.phase }, { on := 3, ground := Go.Ground.textOnly Go.Departure.lateStores }, { on := 4, ground := Go.Ground.textOnly Go.Departure.lateStoresUnsure }, { on := 5, ground := Go.Ground.phase }, { on := 6, ground := Go.Ground.phase }], guard := none }) rfl (fun K hK => ?_) AllReadyH.nil
        rw [if_pos (by rfl)]
        refine wp_store_row 29 _ _ rfl g5 FA rfl rfl 29 _ HG5.out HFI.out HZF.out HF1.out ?_
        have hHeld := DS.row hHeld hg5 FA
        refine hK.out _ _ hHeld (fun _ => ?_)
        clear hK K
        try simp only [Act.put, List.setIfInBounds_toArray, List.set_cons_zero, List.set_cons_succ]
        refine wpAnyH_ready (rs := [8]) (by kernel_rfl) (by simp) ?_
        refine AllReadyH.cons (o := { dst := none, op := Go.Op.store 27 (Go.Operand.tmp 7) (Go.Operand.tmp 16), type := 0, pos := _, after := #[{ on := 6, ground := Go.Ground.data }, { on := 4, ground := Go.Ground.data }, { on := 7, ground := Go.Ground.chain }, { on := 0, ground := Go.Ground.phase }, { on := 1, ground := Go.Ground.phase }, { on := 2, ground := Go.Ground.phase }, { on := 3, ground := Go.Ground.phase }, { on := 4, ground := Go.Ground.phase }, { on := 5, ground := Go.Ground.phase }, { on := 6, ground := Go.Ground.phase }, { on := 7, ground := Go.Ground.phase }], guard := none }) rfl (fun K hK => ?_) AllReadyH.nil
        rw [if_pos (by rfl)]
        have h6' : (W5.setRow g5 FA).heap[g6]? = some (.cells ZT 27 (0, 0)) := by rw [setRow_other _ _ _ _ (by omega)]; exact HG6.out
        refine wp_store_row 27 _ _ rfl g6 UL.toArray rfl rfl 27 _ h6' HUI.out HZU.out HU1.out ?_
        have hHeld := DS.row hHeld hg6 UL.toArray
        refine hK.out _ _ hHeld (fun _ => ?_)
        clear hK K
        try simp only [Act.put, List.setIfInBounds_toArray, List.set_cons_zero, List.set_cons_succ]
        refine wpAnyH_done (by kernel_rfl) ?_ _
        show ∃ g6 g7 : Nat, _
        refine ⟨g5, g6, rfl, ?_, ?_, hHeld, hg5, hg6⟩
        · rw [setRow_other _ _ _ _ (by omega)]; exact setRow_heap _ _ _ _ _ _ HG5.out
        · exact setRow_heap _ _ _ _ _ _ h6'
    · go_wp2_with fail
      obtain ⟨W5, hW5⟩ : ∃ X, X = W2.alloc (.cells ZF 29 (0, 0)) := ⟨_, rfl⟩
      obtain ⟨g5, hgE5⟩ : ∃ x, x = W2.heap.size := ⟨_, rfl⟩
      have hb : Below W2.heap.size W2 W5 := by rw [hW5]; exact (Below.refl _ _).alloc (Nat.le_refl _) _
      have HG5 : Hid (W5.heap[g5]? = some (.cells ZF 29 (0, 0))) := by show _ = _; rw [hW5, hgE5]; exact heap_at _ _ _ rfl
      have hg5 : g < g5 := by rw [hgE5]; exact hHeld.2.2.2.2.2.2
      have hHeld := DS.below hHeld hb
      rw [← hW5, ← hgE5]
      clear hb hW5 hgE5
      refine hK.out _ _ hHeld (fun _ => ?_)
      clear hK K
      try simp only [Act.put, List.setIfInBounds_toArray, List.set_cons_zero, List.set_cons_succ]
      refine wpAnyH_ready (rs := [4, 6]) (by kernel_rfl) (by simp) ?_
      refine AllReadyH.cons (o := { dst := some 16, op := Go.Op.call { callee := Go.Callee.value (Go.Operand.func 32), args := #[Go.Operand.tmp 15], argTypes := #[27] }, type := 27, pos := _, after := #[{ on := 3, ground := Go.Ground.data }, { on := 2, ground := Go.Ground.chain }], guard := none }) rfl (fun K hK => ?_) (AllReadyH.cons (o := { dst := some 7, op := Go.Op.alloc 27, type := 0, pos := _, after := #[], guard := none }) rfl (fun K hK => ?_) AllReadyH.nil)
      all_goals rw [if_pos (by rfl)]
      · go_wp2_with fail
        refine (hbk _).mono ?_
        rintro e W4 ⟨rfl, hb⟩
        have hHeld := DS.below hHeld hb
        have HG5 : Hid (W4.heap[g5]? = some _) := (hb.block _ (row_lt HG5.out)).trans HG5.out
        have hg5 := hg5
        clear hb
        refine hK.out _ _ hHeld (fun _ => ?_)
        clear hK K
        try simp only [Act.put, List.setIfInBounds_toArray, List.set_cons_zero, List.set_cons_succ]
        refine wpAnyH_ready (rs := [6]) (by kernel_rfl) (by simp) ?_
        refine AllReadyH.cons (o := { dst := some 7, op := Go.Op.alloc 27, type := 0, pos := _, after := #[], guard := none }) rfl (fun K hK => ?_) AllReadyH.nil
        rw [if_pos (by rfl)]
        have HG5O : Hid (W4.heap[g5]? = some _) := HG5.out
        go_wp2_with fail
        obtain ⟨W6, hW6⟩ : ∃ X, X = W4.alloc (.cells ZT 27 (0, 0)) := ⟨_, rfl⟩
        obtain ⟨g6, hgE6⟩ : ∃ x, x = W4.heap.size := ⟨_, rfl⟩
        have hb : Below W4.heap.size W4 W6 := by rw [hW6]; exact (Below.refl _ _).alloc (Nat.le_refl _) _
        have HG6 : Hid (W6.heap[g6]? = some (.cells ZT 27 (0, 0))) := by show _ = _; rw [hW6, hgE6]; exact heap_at _ _ _ rfl
        have hg6 : g < g6 := by rw [hgE6]; exact hHeld.2.2.2.2.2.2
        have HG5 : Hid (W6.heap[g5]? = some _) := (hb.block _ (row_lt HG5.out)).trans HG5.out
        have hne : g5 ≠ g6 := by rw [hgE6]; have := row_lt (HG5O.out); omega
        have hHeld := DS.below hHeld hb
        rw [← hW6, ← hgE6]
        clear hb hW6 hgE6
        refine hK.out _ _ hHeld (fun _ => ?_)
        clear hK K
        try simp only [Act.put, List.setIfInBounds_toArray, List.set_cons_zero, List.set_cons_succ]
        refine wpAnyH_ready (rs := [7]) (by kernel_rfl) (by simp) ?_
        refine AllReadyH.cons (o := { dst := none, op := Go.Op.store 29 (Go.Operand.tmp 6) (Go.Operand.tmp 14), type := 0, pos := _, after := #[{ on := 5, ground := Go.Ground.data }, { on := 2, ground := Go.Ground.data }, { on := 4, ground := Go.Ground.chain }, { on := 0, ground := Go.Ground.phase }, { on := 1, ground := Go.Ground.phase }, { on := 2, ground := Go.Ground.phase }, { on := 3, ground := Go.Ground.textOnly Go.Departure.lateStores }, { on := 4, ground := Go.Ground.textOnly Go.Departure.lateStoresUnsure }, { on := 5, ground := Go.Ground.phase }, { on := 6, ground := Go.Ground.phase }], guard := none }) rfl (fun K hK => ?_) AllReadyH.nil
        rw [if_pos (by rfl)]
        refine wp_store_row 29 _ _ rfl g5 FA rfl rfl 29 _ HG5.out HFI.out HZF.out HF1.out ?_
        have hHeld := DS.row hHeld hg5 FA
        refine hK.out _ _ hHeld (fun _ => ?_)
        clear hK K
        try simp only [Act.put, List.setIfInBounds_toArray, List.set_cons_zero, List.set_cons_succ]
        refine wpAnyH_ready (rs := [8]) (by kernel_rfl) (by simp) ?_
        refine AllReadyH.cons (o := { dst := none, op := Go.Op.store 27 (Go.Operand.tmp 7) (Go.Operand.tmp 16), type := 0, pos := _, after := #[{ on := 6, ground := Go.Ground.data }, { on := 4, ground := Go.Ground.data }, { on := 7, ground := Go.Ground.chain }, { on := 0, ground := Go.Ground.phase }, { on := 1, ground := Go.Ground.phase }, { on := 2, ground := Go.Ground.phase }, { on := 3, ground := Go.Ground.phase }, { on := 4, ground := Go.Ground.phase }, { on := 5, ground := Go.Ground.phase }, { on := 6, ground := Go.Ground.phase }, { on := 7, ground := Go.Ground.phase }], guard := none }) rfl (fun K hK => ?_) AllReadyH.nil
        rw [if_pos (by rfl)]
        have h6' : (W6.setRow g5 FA).heap[g6]? = some (.cells ZT 27 (0, 0)) := by rw [setRow_other _ _ _ _ (by omega)]; exact HG6.out
        refine wp_store_row 27 _ _ rfl g6 UL.toArray rfl rfl 27 _ h6' HUI.out HZU.out HU1.out ?_
        have hHeld := DS.row hHeld hg6 UL.toArray
        refine hK.out _ _ hHeld (fun _ => ?_)
        clear hK K
        try simp only [Act.put, List.setIfInBounds_toArray, List.set_cons_zero, List.set_cons_succ]
        refine wpAnyH_done (by kernel_rfl) ?_ _
        show ∃ g6 g7 : Nat, _
        refine ⟨g5, g6, rfl, ?_, ?_, hHeld, hg5, hg6⟩
        · rw [setRow_other _ _ _ _ (by omega)]; exact setRow_heap _ _ _ _ _ _ HG5.out
        · exact setRow_heap _ _ _ _ _ _ h6'
      · have HG5O : Hid (W5.heap[g5]? = some _) := HG5.out
        go_wp2_with fail
        obtain ⟨W6, hW6⟩ : ∃ X, X = W5.alloc (.cells ZT 27 (0, 0)) := ⟨_, rfl⟩
        obtain ⟨g6, hgE6⟩ : ∃ x, x = W5.heap.size := ⟨_, rfl⟩
        have hb : Below W5.heap.size W5 W6 := by rw [hW6]; exact (Below.refl _ _).alloc (Nat.le_refl _) _
        have HG6 : Hid (W6.heap[g6]? = some (.cells ZT 27 (0, 0))) := by show _ = _; rw [hW6, hgE6]; exact heap_at _ _ _ rfl
        have hg6 : g < g6 := by rw [hgE6]; exact hHeld.2.2.2.2.2.2
        have HG5 : Hid (W6.heap[g5]? = some _) := (hb.block _ (row_lt HG5.out)).trans HG5.out
        have hne : g5 ≠ g6 := by rw [hgE6]; have := row_lt (HG5O.out); omega
        have hHeld := DS.below hHeld hb
        rw [← hW6, ← hgE6]
        clear hb hW6 hgE6
        refine hK.out _ _ hHeld (fun _ => ?_)
        clear hK K
        try simp only [Act.put, List.setIfInBounds_toArray, List.set_cons_zero, List.set_cons_succ]
        refine wpAnyH_ready (rs := [4]) (by kernel_rfl) (by simp) ?_
        refine AllReadyH.cons (o := { dst := some 16, op := Go.Op.call { callee := Go.Callee.value (Go.Operand.func 32), args := #[Go.Operand.tmp 15], argTypes := #[27] }, type := 27, pos := _, after := #[{ on := 3, ground := Go.Ground.data }, { on := 2, ground := Go.Ground.chain }], guard := none }) rfl (fun K hK => ?_) AllReadyH.nil
        rw [if_pos (by rfl)]
        go_wp2_with fail
        refine (hbk _).mono ?_
        rintro e W4 ⟨rfl, hb⟩
        have hHeld := DS.below hHeld hb
        have HG5 : Hid (W4.heap[g5]? = some _) := (hb.block _ (row_lt HG5.out)).trans HG5.out
        have HG6 : Hid (W4.heap[g6]? = some _) := (hb.block _ (row_lt HG6.out)).trans HG6.out
        have hg5 := hg5
        have hg6 := hg6
        clear hb
        refine hK.out _ _ hHeld (fun _ => ?_)
        clear hK K
        try simp only [Act.put, List.setIfInBounds_toArray, List.set_cons_zero, List.set_cons_succ]
        refine wpAnyH_ready (rs := [7]) (by kernel_rfl) (by simp) ?_
        refine AllReadyH.cons (o := { dst := none, op := Go.Op.store 29 (Go.Operand.tmp 6) (Go.Operand.tmp 14), type := 0, pos := _, after := #[{ on := 5, ground := Go.Ground.data }, { on := 2, ground := Go.Ground.data }, { on := 4, ground := Go.Ground.chain }, { on := 0, ground := Go.Ground.phase }, { on := 1, ground := Go.Ground.phase }, { on := 2, ground := Go.Ground.phase }, { on := 3, ground := Go.Ground.textOnly Go.Departure.lateStores }, { on := 4, ground := Go.Ground.textOnly Go.Departure.lateStoresUnsure }, { on := 5, ground := Go.Ground.phase }, { on := 6, ground := Go.Ground.phase }], guard := none }) rfl (fun K hK => ?_) AllReadyH.nil
        rw [if_pos (by rfl)]
        refine wp_store_row 29 _ _ rfl g5 FA rfl rfl 29 _ HG5.out HFI.out HZF.out HF1.out ?_
        have hHeld := DS.row hHeld hg5 FA
        refine hK.out _ _ hHeld (fun _ => ?_)
        clear hK K
        try simp only [Act.put, List.setIfInBounds_toArray, List.set_cons_zero, List.set_cons_succ]
        refine wpAnyH_ready (rs := [8]) (by kernel_rfl) (by simp) ?_
        refine AllReadyH.cons (o := { dst := none, op := Go.Op.store 27 (Go.Operand.tmp 7) (Go.Operand.tmp 16), type := 0, pos := _, after := #[{ on := 6, ground := Go.Ground.data }, { on := 4, ground := Go.Ground.data }, { on := 7, ground := Go.Ground.chain }, { on := 0, ground := Go.Ground.phase }, { on := 1, ground := Go.Ground.phase }, { on := 2, ground := Go.Ground.phase }, { on := 3, ground := Go.Ground.phase }, { on := 4, ground := Go.Ground.phase }, { on := 5, ground := Go.Ground.phase }, { on := 6, ground := Go.Ground.phase }, { on := 7, ground := Go.Ground.phase }], guard := none }) rfl (fun K hK => ?_) AllReadyH.nil
        rw [if_pos (by rfl)]
        have h6' : (W4.setRow g5 FA).heap[g6]? = some (.cells ZT 27 (0, 0)) := by rw [setRow_other _ _ _ _ (by omega)]; exact HG6.out
        refine wp_store_row 27 _ _ rfl g6 UL.toArray rfl rfl 27 _ h6' HUI.out HZU.out HU1.out ?_
        have hHeld := DS.row hHeld hg6 UL.toArray
        refine hK.out _ _ hHeld (fun _ => ?_)
        clear hK K
        try simp only [Act.put, List.setIfInBounds_toArray, List.set_cons_zero, List.set_cons_succ]
        refine wpAnyH_done (by kernel_rfl) ?_ _
        show ∃ g6 g7 : Nat, _
        refine ⟨g5, g6, rfl, ?_, ?_, hHeld, hg5, hg6⟩
        · rw [setRow_other _ _ _ _ (by omega)]; exact setRow_heap _ _ _ _ _ _ HG5.out
        · exact setRow_heap _ _ _ _ _ _ h6'
    · go_wp2_with fail
      obtain ⟨W6, hW6⟩ : ∃ X, X = W2.alloc (.cells ZT 27 (0, 0)) := ⟨_, rfl⟩
      obtain ⟨g6, hgE6⟩ : ∃ x, x = W2.heap.size := ⟨_, rfl⟩
      have hb : Below W2.heap.size W2 W6 := by rw [hW6]; exact (Below.refl _ _).alloc (Nat.le_refl _) _
      have HG6 : Hid (W6.heap[g6]? = some (.cells ZT 27 (0, 0))) := by show _ = _; rw [hW6, hgE6]; exact heap_at _ _ _ rfl
      have hg6 : g < g6 := by rw [hgE6]; exact hHeld.2.2.2.2.2.2
      have hHeld := DS.below hHeld hb
      rw [← hW6, ← hgE6]
      clear hb hW6 hgE6
      refine hK.out _ _ hHeld (fun _ => ?_)
      clear hK K
      try simp only [Act.put, List.setIfInBounds_toArray, List.set_cons_zero, List.set_cons_succ]
      refine wpAnyH_ready (rs := [4, 5]) (by kernel_rfl) (by simp) ?_
      refine AllReadyH.cons (o := { dst := some 16, op := Go.Op.call { callee := Go.Callee.value (Go.Operand.func 32), args := #[Go.Operand.tmp 15], argTypes := #[27] }, type := 27, pos := _, after := #[{ on := 3, ground := Go.Ground.data }, { on := 2, ground := Go.Ground.chain }], guard := none }) rfl (fun K hK => ?_) (AllReadyH.cons (o := { dst := some 6, op := Go.Op.alloc 29, type := 0, pos := _, after := #[], guard := none }) rfl (fun K hK => ?_) AllReadyH.nil)
      all_goals rw [if_pos (by rfl)]
      · go_wp2_with fail
        refine (hbk _).mono ?_
        rintro e W4 ⟨rfl, hb⟩
        have hHeld := DS.below hHeld hb
        have HG6 : Hid (W4.heap[g6]? = some _) := (hb.block _ (row_lt HG6.out)).trans HG6.out
        have hg6 := hg6
        clear hb
        refine hK.out _ _ hHeld (fun _ => ?_)
        clear hK K
        try simp only [Act.put, List.setIfInBounds_toArray, List.set_cons_zero, List.set_cons_succ]
        refine wpAnyH_ready (rs := [5]) (by kernel_rfl) (by simp) ?_
        refine AllReadyH.cons (o := { dst := some 6, op := Go.Op.alloc 29, type := 0, pos := _, after := #[], guard := none }) rfl (fun K hK => ?_) AllReadyH.nil
        rw [if_pos (by rfl)]
        have HG6O : Hid (W4.heap[g6]? = some _) := HG6.out
        go_wp2_with fail
        obtain ⟨W5, hW5⟩ : ∃ X, X = W4.alloc (.cells ZF 29 (0, 0)) := ⟨_, rfl⟩
        obtain ⟨g5, hgE5⟩ : ∃ x, x = W4.heap.size := ⟨_, rfl⟩
        have hb : Below W4.heap.size W4 W5 := by rw [hW5]; exact (Below.refl _ _).alloc (Nat.le_refl _) _
        have HG5 : Hid (W5.heap[g5]? = some (.cells ZF 29 (0, 0))) := by show _ = _; rw [hW5, hgE5]; exact heap_at _ _ _ rfl
        have hg5 : g < g5 := by rw [hgE5]; exact hHeld.2.2.2.2.2.2
        have HG6 : Hid (W5.heap[g6]? = some _) := (hb.block _ (row_lt HG6.out)).trans HG6.out
        have hne : g6 ≠ g5 := by rw [hgE5]; have := row_lt (HG6O.out); omega
        have hHeld := DS.below hHeld hb
        rw [← hW5, ← hgE5]
        clear hb hW5 hgE5
        refine hK.out _ _ hHeld (fun _ => ?_)
        clear hK K
        try simp only [Act.put, List.setIfInBounds_toArray, List.set_cons_zero, List.set_cons_succ]
        refine wpAnyH_ready (rs := [7]) (by kernel_rfl) (by simp) ?_
        refine AllReadyH.cons (o := { dst := none, op := Go.Op.store 29 (Go.Operand.tmp 6) (Go.Operand.tmp 14), type := 0, pos := _, after := #[{ on := 5, ground := Go.Ground.data }, { on := 2, ground := Go.Ground.data }, { on := 4, ground := Go.Ground.chain }, { on := 0, ground := Go.Ground.phase }, { on := 1, ground := Go.Ground.phase }, { on := 2, ground := Go.Ground.phase }, { on := 3, ground := Go.Ground.textOnly Go.Departure.lateStores }, { on := 4, ground := Go.Ground.textOnly Go.Departure.lateStoresUnsure }, { on := 5, ground := Go.Ground.phase }, { on := 6, ground := Go.Ground.phase }], guard := none }) rfl (fun K hK => ?_) AllReadyH.nil
        rw [if_pos (by rfl)]
        refine wp_store_row 29 _ _ rfl g5 FA rfl rfl 29 _ HG5.out HFI.out HZF.out HF1.out ?_
        have hHeld := DS.row hHeld hg5 FA
        refine hK.out _ _ hHeld (fun _ => ?_)
        clear hK K
        try simp only [Act.put, List.setIfInBounds_toArray, List.set_cons_zero, List.set_cons_succ]
        refine wpAnyH_ready (rs := [8]) (by kernel_rfl) (by simp) ?_
        refine AllReadyH.cons (o := { dst := none, op := Go.Op.store 27 (Go.Operand.tmp 7) (Go.Operand.tmp 16), type := 0, pos := _, after := #[{ on := 6, ground := Go.Ground.data }, { on := 4, ground := Go.Ground.data }, { on := 7, ground := Go.Ground.chain }, { on := 0, ground := Go.Ground.phase }, { on := 1, ground := Go.Ground.phase }, { on := 2, ground := Go.Ground.phase }, { on := 3, ground := Go.Ground.phase }, { on := 4, ground := Go.Ground.phase }, { on := 5, ground := Go.Ground.phase }, { on := 6, ground := Go.Ground.phase }, { on := 7, ground := Go.Ground.phase }], guard := none }) rfl (fun K hK => ?_) AllReadyH.nil
        rw [if_pos (by rfl)]
        have h6' : (W5.setRow g5 FA).heap[g6]? = some (.cells ZT 27 (0, 0)) := by rw [setRow_other _ _ _ _ (by omega)]; exact HG6.out
        refine wp_store_row 27 _ _ rfl g6 UL.toArray rfl rfl 27 _ h6' HUI.out HZU.out HU1.out ?_
        have hHeld := DS.row hHeld hg6 UL.toArray
        refine hK.out _ _ hHeld (fun _ => ?_)
        clear hK K
        try simp only [Act.put, List.setIfInBounds_toArray, List.set_cons_zero, List.set_cons_succ]
        refine wpAnyH_done (by kernel_rfl) ?_ _
        show ∃ g6 g7 : Nat, _
        refine ⟨g5, g6, rfl, ?_, ?_, hHeld, hg5, hg6⟩
        · rw [setRow_other _ _ _ _ (by omega)]; exact setRow_heap _ _ _ _ _ _ HG5.out
        · exact setRow_heap _ _ _ _ _ _ h6'
      · have HG6O : Hid (W6.heap[g6]? = some _) := HG6.out
        go_wp2_with fail
        obtain ⟨W5, hW5⟩ : ∃ X, X = W6.alloc (.cells ZF 29 (0, 0)) := ⟨_, rfl⟩
        obtain ⟨g5, hgE5⟩ : ∃ x, x = W6.heap.size := ⟨_, rfl⟩
        have hb : Below W6.heap.size W6 W5 := by rw [hW5]; exact (Below.refl _ _).alloc (Nat.le_refl _) _
        have HG5 : Hid (W5.heap[g5]? = some (.cells ZF 29 (0, 0))) := by show _ = _; rw [hW5, hgE5]; exact heap_at _ _ _ rfl
        have hg5 : g < g5 := by rw [hgE5]; exact hHeld.2.2.2.2.2.2
        have HG6 : Hid (W5.heap[g6]? = some _) := (hb.block _ (row_lt HG6.out)).trans HG6.out
        have hne : g6 ≠ g5 := by rw [hgE5]; have := row_lt (HG6O.out); omega
        have hHeld := DS.below hHeld hb
        rw [← hW5, ← hgE5]
        clear hb hW5 hgE5
        refine hK.out _ _ hHeld (fun _ => ?_)
        clear hK K
        try simp only [Act.put, List.setIfInBounds_toArray, List.set_cons_zero, List.set_cons_succ]
        refine wpAnyH_ready (rs := [4]) (by kernel_rfl) (by simp) ?_
        refine AllReadyH.cons (o := { dst := some 16, op := Go.Op.call { callee := Go.Callee.value (Go.Operand.func 32), args := #[Go.Operand.tmp 15], argTypes := #[27] }, type := 27, pos := _, after := #[{ on := 3, ground := Go.Ground.data }, { on := 2, ground := Go.Ground.chain }], guard := none }) rfl (fun K hK => ?_) AllReadyH.nil
        rw [if_pos (by rfl)]
        go_wp2_with fail
        refine (hbk _).mono ?_
        rintro e W4 ⟨rfl, hb⟩
        have hHeld := DS.below hHeld hb
        have HG5 : Hid (W4.heap[g5]? = some _) := (hb.block _ (row_lt HG5.out)).trans HG5.out
        have HG6 : Hid (W4.heap[g6]? = some _) := (hb.block _ (row_lt HG6.out)).trans HG6.out
        have hg5 := hg5
        have hg6 := hg6
        clear hb
        refine hK.out _ _ hHeld (fun _ => ?_)
        clear hK K
        try simp only [Act.put, List.setIfInBounds_toArray, List.set_cons_zero, List.set_cons_succ]
        refine wpAnyH_ready (rs := [7]) (by kernel_rfl) (by simp) ?_
        refine AllReadyH.cons (o := { dst := none, op := Go.Op.store 29 (Go.Operand.tmp 6) (Go.Operand.tmp 14), type := 0, pos := _, after := #[{ on := 5, ground := Go.Ground.data }, { on := 2, ground := Go.Ground.data }, { on := 4, ground := Go.Ground.chain }, { on := 0, ground := Go.Ground.phase }, { on := 1, ground := Go.Ground.phase }, { on := 2, ground := Go.Ground.phase }, { on := 3, ground := Go.Ground.textOnly Go.Departure.lateStores }, { on := 4, ground := Go.Ground.textOnly Go.Departure.lateStoresUnsure }, { on := 5, ground := Go.Ground.phase }, { on := 6, ground := Go.Ground.phase }], guard := none }) rfl (fun K hK => ?_) AllReadyH.nil
        rw [if_pos (by rfl)]
        refine wp_store_row 29 _ _ rfl g5 FA rfl rfl 29 _ HG5.out HFI.out HZF.out HF1.out ?_
        have hHeld := DS.row hHeld hg5 FA
        refine hK.out _ _ hHeld (fun _ => ?_)
        clear hK K
        try simp only [Act.put, List.setIfInBounds_toArray, List.set_cons_zero, List.set_cons_succ]
        refine wpAnyH_ready (rs := [8]) (by kernel_rfl) (by simp) ?_
        refine AllReadyH.cons (o := { dst := none, op := Go.Op.store 27 (Go.Operand.tmp 7) (Go.Operand.tmp 16), type := 0, pos := _, after := #[{ on := 6, ground := Go.Ground.data }, { on := 4, ground := Go.Ground.data }, { on := 7, ground := Go.Ground.chain }, { on := 0, ground := Go.Ground.phase }, { on := 1, ground := Go.Ground.phase }, { on := 2, ground := Go.Ground.phase }, { on := 3, ground := Go.Ground.phase }, { on := 4, ground := Go.Ground.phase }, { on := 5, ground := Go.Ground.phase }, { on := 6, ground := Go.Ground.phase }, { on := 7, ground := Go.Ground.phase }], guard := none }) rfl (fun K hK => ?_) AllReadyH.nil
        rw [if_pos (by rfl)]
        have h6' : (W4.setRow g5 FA).heap[g6]? = some (.cells ZT 27 (0, 0)) := by rw [setRow_other _ _ _ _ (by omega)]; exact HG6.out
        refine wp_store_row 27 _ _ rfl g6 UL.toArray rfl rfl 27 _ h6' HUI.out HZU.out HU1.out ?_
        have hHeld := DS.row hHeld hg6 UL.toArray
        refine hK.out _ _ hHeld (fun _ => ?_)
        clear hK K
        try simp only [Act.put, List.setIfInBounds_toArray, List.set_cons_zero, List.set_cons_succ]
        refine wpAnyH_done (by kernel_rfl) ?_ _
        show ∃ g6 g7 : Nat, _
        refine ⟨g5, g6, rfl, ?_, ?_, hHeld, hg5, hg6⟩
        · rw [setRow_other _ _ _ _ (by omega)]; exact setRow_heap _ _ _ _ _ _ HG5.out
        · exact setRow_heap _ _ _ _ _ _ h6'
  · go_wp2_with fail
    obtain ⟨W5, hW5⟩ : ∃ X, X = W.alloc (.cells ZF 29 (0, 0)) := ⟨_, rfl⟩
    obtain ⟨g5, hgE5⟩ : ∃ x, x = W.heap.size := ⟨_, rfl⟩
    have hb : Below W.heap.size W W5 := by rw [hW5]; exact (Below.refl _ _).alloc (Nat.le_refl _) _
    have HG5 : Hid (W5.heap[g5]? = some (.cells ZF 29 (0, 0))) := by show _ = _; rw [hW5, hgE5]; exact heap_at _ _ _ rfl
    have hg5 : g < g5 := by rw [hgE5]; exact hHeld.2.2.2.2.2.2
    have hHeld := DS.below hHeld hb
    rw [← hW5, ← hgE5]
    clear hb hW5 hgE5
    refine hK.out _ _ hHeld (fun _ => ?_)
    clear hK K
    try simp only [Act.put, List.setIfInBounds_toArray, List.set_cons_zero, List.set_cons_succ]
    refine wpAnyH_ready (rs := [2, 6]) (by kernel_rfl) (by simp) ?_
    refine AllReadyH.cons (o := { dst := some 14, op := Go.Op.call { callee := Go.Callee.value (Go.Operand.func 35), args := #[Go.Operand.tmp 12, Go.Operand.tmp 13], argTypes := #[26, 27] }, type := 29, pos := _, after := #[{ on := 0, ground := Go.Ground.data }, { on := 1, ground := Go.Ground.data }], guard := none }) rfl (fun K hK => ?_) (AllReadyH.cons (o := { dst := some 7, op := Go.Op.alloc 27, type := 0, pos := _, after := #[], guard := none }) rfl (fun K hK => ?_) AllReadyH.nil)
    all_goals rw [if_pos (by rfl)]
    · go_wp2_with fail
      refine (hex _).mono ?_
      rintro e W2 ⟨rfl, hb⟩
      have hHeld := DS.below hHeld hb
      have HG5 : Hid (W2.heap[g5]? = some _) := (hb.block _ (row_lt HG5.out)).trans HG5.out
      have hg5 := hg5
      clear hb
      refine hK.out _ _ hHeld (fun _ => ?_)
      clear hK K
      try simp only [Act.put, List.setIfInBounds_toArray, List.set_cons_zero, List.set_cons_succ]
      refine wpAnyH_ready (rs := [4, 6]) (by kernel_rfl) (by simp) ?_
      refine AllReadyH.cons (o := { dst := some 16, op := Go.Op.call { callee := Go.Callee.value (Go.Operand.func 32), args := #[Go.Operand.tmp 15], argTypes := #[27] }, type := 27, pos := _, after := #[{ on := 3, ground := Go.Ground.data }, { on := 2, ground := Go.Ground.chain }], guard := none }) rfl (fun K hK => ?_) (AllReadyH.cons (o := { dst := some 7, op := Go.Op.alloc 27, type := 0, pos := _, after := #[], guard := none }) rfl (fun K hK => ?_) AllReadyH.nil)
      all_goals rw [if_pos (by rfl)]
      · go_wp2_with fail
        refine (hbk _).mono ?_
        rintro e W4 ⟨rfl, hb⟩
        have hHeld := DS.below hHeld hb
        have HG5 : Hid (W4.heap[g5]? = some _) := (hb.block _ (row_lt HG5.out)).trans HG5.out
        have hg5 := hg5
        clear hb
        refine hK.out _ _ hHeld (fun _ => ?_)
        clear hK K
        try simp only [Act.put, List.setIfInBounds_toArray, List.set_cons_zero, List.set_cons_succ]
        refine wpAnyH_ready (rs := [6]) (by kernel_rfl) (by simp) ?_
        refine AllReadyH.cons (o := { dst := some 7, op := Go.Op.alloc 27, type := 0, pos := _, after := #[], guard := none }) rfl (fun K hK => ?_) AllReadyH.nil
        rw [if_pos (by rfl)]
        have HG5O : Hid (W4.heap[g5]? = some _) := HG5.out
        go_wp2_with fail
        obtain ⟨W6, hW6⟩ : ∃ X, X = W4.alloc (.cells ZT 27 (0, 0)) := ⟨_, rfl⟩
        obtain ⟨g6, hgE6⟩ : ∃ x, x = W4.heap.size := ⟨_, rfl⟩
        have hb : Below W4.heap.size W4 W6 := by rw [hW6]; exact (Below.refl _ _).alloc (Nat.le_refl _) _
        have HG6 : Hid (W6.heap[g6]? = some (.cells ZT 27 (0, 0))) := by show _ = _; rw [hW6, hgE6]; exact heap_at _ _ _ rfl
        have hg6 : g < g6 := by rw [hgE6]; exact hHeld.2.2.2.2.2.2
        have HG5 : Hid (W6.heap[g5]? = some _) := (hb.block _ (row_lt HG5.out)).trans HG5.out
        have hne : g5 ≠ g6 := by rw [hgE6]; have := row_lt (HG5O.out); omega
        have hHeld := DS.below hHeld hb
        rw [← hW6, ← hgE6]
        clear hb hW6 hgE6
        refine hK.out _ _ hHeld (fun _ => ?_)
        clear hK K
        try simp only [Act.put, List.setIfInBounds_toArray, List.set_cons_zero, List.set_cons_succ]
        refine wpAnyH_ready (rs := [7]) (by kernel_rfl) (by simp) ?_
        refine AllReadyH.cons (o := { dst := none, op := Go.Op.store 29 (Go.Operand.tmp 6) (Go.Operand.tmp 14), type := 0, pos := _, after := #[{ on := 5, ground := Go.Ground.data }, { on := 2, ground := Go.Ground.data }, { on := 4, ground := Go.Ground.chain }, { on := 0, ground := Go.Ground.phase }, { on := 1, ground := Go.Ground.phase }, { on := 2, ground := Go.Ground.phase }, { on := 3, ground := Go.Ground.textOnly Go.Departure.lateStores }, { on := 4, ground := Go.Ground.textOnly Go.Departure.lateStoresUnsure }, { on := 5, ground := Go.Ground.phase }, { on := 6, ground := Go.Ground.phase }], guard := none }) rfl (fun K hK => ?_) AllReadyH.nil
        rw [if_pos (by rfl)]
        refine wp_store_row 29 _ _ rfl g5 FA rfl rfl 29 _ HG5.out HFI.out HZF.out HF1.out ?_
        have hHeld := DS.row hHeld hg5 FA
        refine hK.out _ _ hHeld (fun _ => ?_)
        clear hK K
        try simp only [Act.put, List.setIfInBounds_toArray, List.set_cons_zero, List.set_cons_succ]
        refine wpAnyH_ready (rs := [8]) (by kernel_rfl) (by simp) ?_
        refine AllReadyH.cons (o := { dst := none, op := Go.Op.store 27 (Go.Operand.tmp 7) (Go.Operand.tmp 16), type := 0, pos := _, after := #[{ on := 6, ground := Go.Ground.data }, { on := 4, ground := Go.Ground.data }, { on := 7, ground := Go.Ground.chain }, { on := 0, ground := Go.Ground.phase }, { on := 1, ground := Go.Ground.phase }, { on := 2, ground := Go.Ground.phase }, { on := 3, ground := Go.Ground.phase }, { on := 4, ground := Go.Ground.phase }, { on := 5, ground := Go.Ground.phase }, { on := 6, ground := Go.Ground.phase }, { on := 7, ground := Go.Ground.phase }], guard := none }) rfl (fun K hK => ?_) AllReadyH.nil
        rw [if_pos (by rfl)]
        have h6' : (W6.setRow g5 FA).heap[g6]? = some (.cells ZT 27 (0, 0)) := by rw [setRow_other _ _ _ _ (by omega)]; exact HG6.out
        refine wp_store_row 27 _ _ rfl g6 UL.toArray rfl rfl 27 _ h6' HUI.out HZU.out HU1.out ?_
        have hHeld := DS.row hHeld hg6 UL.toArray
        refine hK.out _ _ hHeld (fun _ => ?_)
        clear hK K
        try simp only [Act.put, List.setIfInBounds_toArray, List.set_cons_zero, List.set_cons_succ]
        refine wpAnyH_done (by kernel_rfl) ?_ _
        show ∃ g6 g7 : Nat, _
        refine ⟨g5, g6, rfl, ?_, ?_, hHeld, hg5, hg6⟩
        · rw [setRow_other _ _ _ _ (by omega)]; exact setRow_heap _ _ _ _ _ _ HG5.out
        · exact setRow_heap _ _ _ _ _ _ h6'
      · have HG5O : Hid (W2.heap[g5]? = some _) := HG5.out
        go_wp2_with fail
        obtain ⟨W6, hW6⟩ : ∃ X, X = W2.alloc (.cells ZT 27 (0, 0)) := ⟨_, rfl⟩
        obtain ⟨g6, hgE6⟩ : ∃ x, x = W2.heap.size := ⟨_, rfl⟩
        have hb : Below W2.heap.size W2 W6 := by rw [hW6]; exact (Below.refl _ _).alloc (Nat.le_refl _) _
        have HG6 : Hid (W6.heap[g6]? = some (.cells ZT 27 (0, 0))) := by show _ = _; rw [hW6, hgE6]; exact heap_at _ _ _ rfl
        have hg6 : g < g6 := by rw [hgE6]; exact hHeld.2.2.2.2.2.2
        have HG5 : Hid (W6.heap[g5]? = some _) := (hb.block _ (row_lt HG5.out)).trans HG5.out
        have hne : g5 ≠ g6 := by rw [hgE6]; have := row_lt (HG5O.out); omega
        have hHeld := DS.below hHeld hb
        rw [← hW6, ← hgE6]
        clear hb hW6 hgE6
        refine hK.out _ _ hHeld (fun _ => ?_)
        clear hK K
        try simp only [Act.put, List.setIfInBounds_toArray, List.set_cons_zero, List.set_cons_succ]
        refine wpAnyH_ready (rs := [4]) (by kernel_rfl) (by simp) ?_
        refine AllReadyH.cons (o := { dst := some 16, op := Go.Op.call { callee := Go.Callee.value (Go.Operand.func 32), args := #[Go.Operand.tmp 15], argTypes := #[27] }, type := 27, pos := _, after := #[{ on := 3, ground := Go.Ground.data }, { on := 2, ground := Go.Ground.chain }], guard := none }) rfl (fun K hK => ?_) AllReadyH.nil
        rw [if_pos (by rfl)]
        go_wp2_with fail
        refine (hbk _).mono ?_
        rintro e W4 ⟨rfl, hb⟩
        have hHeld := DS.below hHeld hb
        have HG5 : Hid (W4.heap[g5]? = some _) := (hb.block _ (row_lt HG5.out)).trans HG5.out
        have HG6 : Hid (W4.heap[g6]? = some _) := (hb.block _ (row_lt HG6.out)).trans HG6.out
        have hg5 := hg5
        have hg6 := hg6
        clear hb
        refine hK.out _ _ hHeld (fun _ => ?_)
        clear hK K
        try simp only [Act.put, List.setIfInBounds_toArray, List.set_cons_zero, List.set_cons_succ]
        refine wpAnyH_ready (rs := [7]) (by kernel_rfl) (by simp) ?_
        refine AllReadyH.cons (o := { dst := none, op := Go.Op.store 29 (Go.Operand.tmp 6) (Go.Operand.tmp 14), type := 0, pos := _, after := #[{ on := 5, ground := Go.Ground.data }, { on := 2, ground := Go.Ground.data }, { on := 4, ground := Go.Ground.chain }, { on := 0, ground := Go.Ground.phase }, { on := 1, ground := Go.Ground.phase }, { on := 2, ground := Go.Ground.phase }, { on := 3, ground := Go.Ground.textOnly Go.Departure.lateStores }, { on := 4, ground := Go.Ground.textOnly Go.Departure.lateStoresUnsure }, { on := 5, ground := Go.Ground.phase }, { on := 6, ground := Go.Ground.phase }], guard := none }) rfl (fun K hK => ?_) AllReadyH.nil
        rw [if_pos (by rfl)]
        refine wp_store_row 29 _ _ rfl g5 FA rfl rfl 29 _ HG5.out HFI.out HZF.out HF1.out ?_
        have hHeld := DS.row hHeld hg5 FA
        refine hK.out _ _ hHeld (fun _ => ?_)
        clear hK K
        try simp only [Act.put, List.setIfInBounds_toArray, List.set_cons_zero, List.set_cons_succ]
        refine wpAnyH_ready (rs := [8]) (by kernel_rfl) (by simp) ?_
        refine AllReadyH.cons (o := { dst := none, op := Go.Op.store 27 (Go.Operand.tmp 7) (Go.Operand.tmp 16), type := 0, pos := _, after := #[{ on := 6, ground := Go.Ground.data }, { on := 4, ground := Go.Ground.data }, { on := 7, ground := Go.Ground.chain }, { on := 0, ground := Go.Ground.phase }, { on := 1, ground := Go.Ground.phase }, { on := 2, ground := Go.Ground.phase }, { on := 3, ground := Go.Ground.phase }, { on := 4, ground := Go.Ground.phase }, { on := 5, ground := Go.Ground.phase }, { on := 6, ground := Go.Ground.phase }, { on := 7, ground := Go.Ground.phase }], guard := none }) rfl (fun K hK => ?_) AllReadyH.nil
        rw [if_pos (by rfl)]
        have h6' : (W4.setRow g5 FA).heap[g6]? = some (.cells ZT 27 (0, 0)) := by rw [setRow_other _ _ _ _ (by omega)]; exact HG6.out
        refine wp_store_row 27 _ _ rfl g6 UL.toArray rfl rfl 27 _ h6' HUI.out HZU.out HU1.out ?_
        have hHeld := DS.row hHeld hg6 UL.toArray
        refine hK.out _ _ hHeld (fun _ => ?_)
        clear hK K
        try simp only [Act.put, List.setIfInBounds_toArray, List.set_cons_zero, List.set_cons_succ]
        refine wpAnyH_done (by kernel_rfl) ?_ _
        show ∃ g6 g7 : Nat, _
        refine ⟨g5, g6, rfl, ?_, ?_, hHeld, hg5, hg6⟩
        · rw [setRow_other _ _ _ _ (by omega)]; exact setRow_heap _ _ _ _ _ _ HG5.out
        · exact setRow_heap _ _ _ _ _ _ h6'
    · have HG5O : Hid (W5.heap[g5]? = some _) := HG5.out
      go_wp2_with fail
      obtain ⟨W6, hW6⟩ : ∃ X, X = W5.alloc (.cells ZT 27 (0, 0)) := ⟨_, rfl⟩
      obtain ⟨g6, hgE6⟩ : ∃ x, x = W5.heap.size := ⟨_, rfl⟩
      have hb : Below W5.heap.size W5 W6 := by rw [hW6]; exact (Below.refl _ _).alloc (Nat.le_refl _) _
      have HG6 : Hid (W6.heap[g6]? = some (.cells ZT 27 (0, 0))) := by show _ = _; rw [hW6, hgE6]; exact heap_at _ _ _ rfl
      have hg6 : g < g6 := by rw [hgE6]; exact hHeld.2.2.2.2.2.2
      have HG5 : Hid (W6.heap[g5]? = some _) := (hb.block _ (row_lt HG5.out)).trans HG5.out
      have hne : g5 ≠ g6 := by rw [hgE6]; have := row_lt (HG5O.out); omega
      have hHeld := DS.below hHeld hb
      rw [← hW6, ← hgE6]
      clear hb hW6 hgE6
      refine hK.out _ _ hHeld (fun _ => ?_)
      clear hK K
      try simp only [Act.put, List.setIfInBounds_toArray, List.set_cons_zero, List.set_cons_succ]
      refine wpAnyH_ready (rs := [2]) (by kernel_rfl) (by simp) ?_
      refine AllReadyH.cons (o := { dst := some 14, op := Go.Op.call { callee := Go.Callee.value (Go.Operand.func 35), args := #[Go.Operand.tmp 12, Go.Operand.tmp 13], argTypes := #[26, 27] }, type := 29, pos := _, after := #[{ on := 0, ground := Go.Ground.data }, { on := 1, ground := Go.Ground.data }], guard := none }) rfl (fun K hK => ?_) AllReadyH.nil
      rw [if_pos (by rfl)]
      go_wp2_with fail
      refine (hex _).mono ?_
      rintro e W2 ⟨rfl, hb⟩
      have hHeld := DS.below hHeld hb
      have HG5 : Hid (W2.heap[g5]? = some _) := (hb.block _ (row_lt HG5.out)).trans HG5.out
      have HG6 : Hid (W2.heap[g6]? = some _) := (hb.block _ (row_lt HG6.out)).trans HG6.out
      have hg5 := hg5
      have hg6 := hg6
      clear hb
      refine hK.out _ _ hHeld (fun _ => ?_)
      clear hK K
      try simp only [Act.put, List.setIfInBounds_toArray, List.set_cons_zero, List.set_cons_succ]
      refine wpAnyH_ready (rs := [4]) (by kernel_rfl) (by simp) ?_
      refine AllReadyH.cons (o := { dst := some 16, op := Go.Op.call { callee := Go.Callee.value (Go.Operand.func 32), args := #[Go.Operand.tmp 15], argTypes := #[27] }, type := 27, pos := _, after := #[{ on := 3, ground := Go.Ground.data }, { on := 2, ground := Go.Ground.chain }], guard := none }) rfl (fun K hK => ?_) AllReadyH.nil
      rw [if_pos (by rfl)]
      go_wp2_with fail
      refine (hbk _).mono ?_
      rintro e W4 ⟨rfl, hb⟩
      have hHeld := DS.below hHeld hb
      have HG5 : Hid (W4.heap[g5]? = some _) := (hb.block _ (row_lt HG5.out)).trans HG5.out
      have HG6 : Hid (W4.heap[g6]? = some _) := (hb.block _ (row_lt HG6.out)).trans HG6.out
      have hg5 := hg5
      have hg6 := hg6
      clear hb
      refine hK.out _ _ hHeld (fun _ => ?_)
      clear hK K
      try simp only [Act.put, List.setIfInBounds_toArray, List.set_cons_zero, List.set_cons_succ]
      refine wpAnyH_ready (rs := [7]) (by kernel_rfl) (by simp) ?_
      refine AllReadyH.cons (o := { dst := none, op := Go.Op.store 29 (Go.Operand.tmp 6) (Go.Operand.tmp 14), type := 0, pos := _, after := #[{ on := 5, ground := Go.Ground.data }, { on := 2, ground := Go.Ground.data }, { on := 4, ground := Go.Ground.chain }, { on := 0, ground := Go.Ground.phase }, { on := 1, ground := Go.Ground.phase }, { on := 2, ground := Go.Ground.phase }, { on := 3, ground := Go.Ground.textOnly Go.Departure.lateStores }, { on := 4, ground := Go.Ground.textOnly Go.Departure.lateStoresUnsure }, { on := 5, ground := Go.Ground.phase }, { on := 6, ground := Go.Ground.phase }], guard := none }) rfl (fun K hK => ?_) AllReadyH.nil
      rw [if_pos (by rfl)]
      refine wp_store_row 29 _ _ rfl g5 FA rfl rfl 29 _ HG5.out HFI.out HZF.out HF1.out ?_
      have hHeld := DS.row hHeld hg5 FA
      refine hK.out _ _ hHeld (fun _ => ?_)
      clear hK K
      try simp only [Act.put, List.setIfInBounds_toArray, List.set_cons_zero, List.set_cons_succ]
      refine wpAnyH_ready (rs := [8]) (by kernel_rfl) (by simp) ?_
      refine AllReadyH.cons (o := { dst := none, op := Go.Op.store 27 (Go.Operand.tmp 7) (Go.Operand.tmp 16), type := 0, pos := _, after := #[{ on := 6, ground := Go.Ground.data }, { on := 4, ground := Go.Ground.data }, { on := 7, ground := Go.Ground.chain }, { on := 0, ground := Go.Ground.phase }, { on := 1, ground := Go.Ground.phase }, { on := 2, ground := Go.Ground.phase }, { on := 3, ground := Go.Ground.phase }, { on := 4, ground := Go.Ground.phase }, { on := 5, ground := Go.Ground.phase }, { on := 6, ground := Go.Ground.phase }, { on := 7, ground := Go.Ground.phase }], guard := none }) rfl (fun K hK => ?_) AllReadyH.nil
      rw [if_pos (by rfl)]
      have h6' : (W4.setRow g5 FA).heap[g6]? = some (.cells ZT 27 (0, 0)) := by rw [setRow_other _ _ _ _ (by omega)]; exact HG6.out
      refine wp_store_row 27 _ _ rfl g6 UL.toArray rfl rfl 27 _ h6' HUI.out HZU.out HU1.out ?_
      have hHeld := DS.row hHeld hg6 UL.toArray
      refine hK.out _ _ hHeld (fun _ => ?_)
      clear hK K
      try simp only [Act.put, List.setIfInBounds_toArray, List.set_cons_zero, List.set_cons_succ]
      refine wpAnyH_done (by kernel_rfl) ?_ _
      show ∃ g6 g7 : Nat, _
      refine ⟨g5, g6, rfl, ?_, ?_, hHeld, hg5, hg6⟩
      · rw [setRow_other _ _ _ _ (by omega)]; exact setRow_heap _ _ _ _ _ _ HG5.out
      · exact setRow_heap _ _ _ _ _ _ h6'
  · go_wp2_with fail
    obtain ⟨W6, hW6⟩ : ∃ X, X = W.alloc (.cells ZT 27 (0, 0)) := ⟨_, rfl⟩
    obtain ⟨g6, hgE6⟩ : ∃ x, x = W.heap.size := ⟨_, rfl⟩
    have hb : Below W.heap.size W W6 := by rw [hW6]; exact (Below.refl _ _).alloc (Nat.le_refl _) _
    have HG6 : Hid (W6.heap[g6]? = some (.cells ZT 27 (0, 0))) := by show _ = _; rw [hW6, hgE6]; exact heap_at _ _ _ rfl
    have hg6 : g < g6 := by rw [hgE6]; exact hHeld.2.2.2.2.2.2
    have hHeld := DS.below hHeld hb
    rw [← hW6, ← hgE6]
    clear hb hW6 hgE6
    refine hK.out _ _ hHeld (fun _ => ?_)
    clear hK K
    try simp only [Act.put, List.setIfInBounds_toArray, List.set_cons_zero, List.set_cons_succ]
    refine wpAnyH_ready (rs := [2, 5]) (by kernel_rfl) (by simp) ?_
    refine AllReadyH.cons (o := { dst := some 14, op := Go.Op.call { callee := Go.Callee.value (Go.Operand.func 35), args := #[Go.Operand.tmp 12, Go.Operand.tmp 13], argTypes := #[26, 27] }, type := 29, pos := _, after := #[{ on := 0, ground := Go.Ground.data }, { on := 1, ground := Go.Ground.data }], guard := none }) rfl (fun K hK => ?_) (AllReadyH.cons (o := { dst := some 6, op := Go.Op.alloc 29, type := 0, pos := _, after := #[], guard := none }) rfl (fun K hK => ?_) AllReadyH.nil)
    all_goals rw [if_pos (by rfl)]
    · go_wp2_with fail
      refine (hex _).mono ?_
      rintro e W2 ⟨rfl, hb⟩
      have hHeld := DS.below hHeld hb
      have HG6 : Hid (W2.heap[g6]? = some _) := (hb.block _ (row_lt HG6.out)).trans HG6.out
      have hg6 := hg6
      clear hb
      refine hK.out _ _ hHeld (fun _ => ?_)
      clear hK K
      try simp only [Act.put, List.setIfInBounds_toArray, List.set_cons_zero, List.set_cons_succ]
      refine wpAnyH_ready (rs := [4, 5]) (by kernel_rfl) (by simp) ?_
      refine AllReadyH.cons (o := { dst := some 16, op := Go.Op.call { callee := Go.Callee.value (Go.Operand.func 32), args := #[Go.Operand.tmp 15], argTypes := #[27] }, type := 27, pos := _, after := #[{ on := 3, ground := Go.Ground.data }, { on := 2, ground := Go.Ground.chain }], guard := none }) rfl (fun K hK => ?_) (AllReadyH.cons (o := { dst := some 6, op := Go.Op.alloc 29, type := 0, pos := _, after := #[], guard := none }) rfl (fun K hK => ?_) AllReadyH.nil)
      all_goals rw [if_pos (by rfl)]
      · go_wp2_with fail
        refine (hbk _).mono ?_
        rintro e W4 ⟨rfl, hb⟩
        have hHeld := DS.below hHeld hb
        have HG6 : Hid (W4.heap[g6]? = some _) := (hb.block _ (row_lt HG6.out)).trans HG6.out
        have hg6 := hg6
        clear hb
        refine hK.out _ _ hHeld (fun _ => ?_)
        clear hK K
        try simp only [Act.put, List.setIfInBounds_toArray, List.set_cons_zero, List.set_cons_succ]
        refine wpAnyH_ready (rs := [5]) (by kernel_rfl) (by simp) ?_
        refine AllReadyH.cons (o := { dst := some 6, op := Go.Op.alloc 29, type := 0, pos := _, after := #[], guard := none }) rfl (fun K hK => ?_) AllReadyH.nil
        rw [if_pos (by rfl)]
        have HG6O : Hid (W4.heap[g6]? = some _) := HG6.out
        go_wp2_with fail
        obtain ⟨W5, hW5⟩ : ∃ X, X = W4.alloc (.cells ZF 29 (0, 0)) := ⟨_, rfl⟩
        obtain ⟨g5, hgE5⟩ : ∃ x, x = W4.heap.size := ⟨_, rfl⟩
        have hb : Below W4.heap.size W4 W5 := by rw [hW5]; exact (Below.refl _ _).alloc (Nat.le_refl _) _
        have HG5 : Hid (W5.heap[g5]? = some (.cells ZF 29 (0, 0))) := by show _ = _; rw [hW5, hgE5]; exact heap_at _ _ _ rfl
        have hg5 : g < g5 := by rw [hgE5]; exact hHeld.2.2.2.2.2.2
        have HG6 : Hid (W5.heap[g6]? = some _) := (hb.block _ (row_lt HG6.out)).trans HG6.out
        have hne : g6 ≠ g5 := by rw [hgE5]; have := row_lt (HG6O.out); omega
        have hHeld := DS.below hHeld hb
        rw [← hW5, ← hgE5]
        clear hb hW5 hgE5
        refine hK.out _ _ hHeld (fun _ => ?_)
        clear hK K
        try simp only [Act.put, List.setIfInBounds_toArray, List.set_cons_zero, List.set_cons_succ]
        refine wpAnyH_ready (rs := [7]) (by kernel_rfl) (by simp) ?_
        refine AllReadyH.cons (o := { dst := none, op := Go.Op.store 29 (Go.Operand.tmp 6) (Go.Operand.tmp 14), type := 0, pos := _, after := #[{ on := 5, ground := Go.Ground.data }, { on := 2, ground := Go.Ground.data }, { on := 4, ground := Go.Ground.chain }, { on := 0, ground := Go.Ground.phase }, { on := 1, ground := Go.Ground.phase }, { on := 2, ground := Go.Ground.phase }, { on := 3, ground := Go.Ground.textOnly Go.Departure.lateStores }, { on := 4, ground := Go.Ground.textOnly Go.Departure.lateStoresUnsure }, { on := 5, ground := Go.Ground.phase }, { on := 6, ground := Go.Ground.phase }], guard := none }) rfl (fun K hK => ?_) AllReadyH.nil
        rw [if_pos (by rfl)]
        refine wp_store_row 29 _ _ rfl g5 FA rfl rfl 29 _ HG5.out HFI.out HZF.out HF1.out ?_
        have hHeld := DS.row hHeld hg5 FA
        refine hK.out _ _ hHeld (fun _ => ?_)
        clear hK K
        try simp only [Act.put, List.setIfInBounds_toArray, List.set_cons_zero, List.set_cons_succ]
        refine wpAnyH_ready (rs := [8]) (by kernel_rfl) (by simp) ?_
        refine AllReadyH.cons (o := { dst := none, op := Go.Op.store 27 (Go.Operand.tmp 7) (Go.Operand.tmp 16), type := 0, pos := _, after := #[{ on := 6, ground := Go.Ground.data }, { on := 4, ground := Go.Ground.data }, { on := 7, ground := Go.Ground.chain }, { on := 0, ground := Go.Ground.phase }, { on := 1, ground := Go.Ground.phase }, { on := 2, ground := Go.Ground.phase }, { on := 3, ground := Go.Ground.phase }, { on := 4, ground := Go.Ground.phase }, { on := 5, ground := Go.Ground.phase }, { on := 6, ground := Go.Ground.phase }, { on := 7, ground := Go.Ground.phase }], guard := none }) rfl (fun K hK => ?_) AllReadyH.nil
        rw [if_pos (by rfl)]
        have h6' : (W5.setRow g5 FA).heap[g6]? = some (.cells ZT 27 (0, 0)) := by rw [setRow_other _ _ _ _ (by omega)]; exact HG6.out
        refine wp_store_row 27 _ _ rfl g6 UL.toArray rfl rfl 27 _ h6' HUI.out HZU.out HU1.out ?_
        have hHeld := DS.row hHeld hg6 UL.toArray
        refine hK.out _ _ hHeld (fun _ => ?_)
        clear hK K
        try simp only [Act.put, List.setIfInBounds_toArray, List.set_cons_zero, List.set_cons_succ]
        refine wpAnyH_done (by kernel_rfl) ?_ _
        show ∃ g6 g7 : Nat, _
        refine ⟨g5, g6, rfl, ?_, ?_, hHeld, hg5, hg6⟩
        · rw [setRow_other _ _ _ _ (by omega)]; exact setRow_heap _ _ _ _ _ _ HG5.out
        · exact setRow_heap _ _ _ _ _ _ h6'
      · have HG6O : Hid (W2.heap[g6]? = some _) := HG6.out
        go_wp2_with fail
        obtain ⟨W5, hW5⟩ : ∃ X, X = W2.alloc (.cells ZF 29 (0, 0)) := ⟨_, rfl⟩
        obtain ⟨g5, hgE5⟩ : ∃ x, x = W2.heap.size := ⟨_, rfl⟩
        have hb : Below W2.heap.size W2 W5 := by rw [hW5]; exact (Below.refl _ _).alloc (Nat.le_refl _) _
        have HG5 : Hid (W5.heap[g5]? = some (.cells ZF 29 (0, 0))) := by show _ = _; rw [hW5, hgE5]; exact heap_at _ _ _ rfl
        have hg5 : g < g5 := by rw [hgE5]; exact hHeld.2.2.2.2.2.2
        have HG6 : Hid (W5.heap[g6]? = some _) := (hb.block _ (row_lt HG6.out)).trans HG6.out
        have hne : g6 ≠ g5 := by rw [hgE5]; have := row_lt (HG6O.out); omega
        have hHeld := DS.below hHeld hb
        rw [← hW5, ← hgE5]
        clear hb hW5 hgE5
        refine hK.out _ _ hHeld (fun _ => ?_)
        clear hK K
        try simp only [Act.put, List.setIfInBounds_toArray, List.set_cons_zero, List.set_cons_succ]
        refine wpAnyH_ready (rs := [4]) (by kernel_rfl) (by simp) ?_
        refine AllReadyH.cons (o := { dst := some 16, op := Go.Op.call { callee := Go.Callee.value (Go.Operand.func 32), args := #[Go.Operand.tmp 15], argTypes := #[27] }, type := 27, pos := _, after := #[{ on := 3, ground := Go.Ground.data }, { on := 2, ground := Go.Ground.chain }], guard := none }) rfl (fun K hK => ?_) AllReadyH.nil
        rw [if_pos (by rfl)]
        go_wp2_with fail
        refine (hbk _).mono ?_
        rintro e W4 ⟨rfl, hb⟩
        have hHeld := DS.below hHeld hb
        have HG5 : Hid (W4.heap[g5]? = some _) := (hb.block _ (row_lt HG5.out)).trans HG5.out
        have HG6 : Hid (W4.heap[g6]? = some _) := (hb.block _ (row_lt HG6.out)).trans HG6.out
        have hg5 := hg5
        have hg6 := hg6
        clear hb
        refine hK.out _ _ hHeld (fun _ => ?_)
        clear hK K
        try simp only [Act.put, List.setIfInBounds_toArray, List.set_cons_zero, List.set_cons_succ]
        refine wpAnyH_ready (rs := [7]) (by kernel_rfl) (by simp) ?_
        refine AllReadyH.cons (o := { dst := none, op := Go.Op.store 29 (Go.Operand.tmp 6) (Go.Operand.tmp 14), type := 0, pos := _, after := #[{ on := 5, ground := Go.Ground.data }, { on := 2, ground := Go.Ground.data }, { on := 4, ground := Go.Ground.chain }, { on := 0, ground := Go.Ground.phase }, { on := 1, ground := Go.Ground.phase }, { on := 2, ground := Go.Ground.phase }, { on := 3, ground := Go.Ground.textOnly Go.Departure.lateStores }, { on := 4, ground := Go.Ground.textOnly Go.Departure.lateStoresUnsure }, { on := 5, ground := Go.Ground.phase }, { on := 6, ground := Go.Ground.phase }], guard := none }) rfl (fun K hK => ?_) AllReadyH.nil
        rw [if_pos (by rfl)]
        refine wp_store_row 29 _ _ rfl g5 FA rfl rfl 29 _ HG5.out HFI.out HZF.out HF1.out ?_
        have hHeld := DS.row hHeld hg5 FA
        refine hK.out _ _ hHeld (fun _ => ?_)
        clear hK K
        try simp only [Act.put, List.setIfInBounds_toArray, List.set_cons_zero, List.set_cons_succ]
        refine wpAnyH_ready (rs := [8]) (by kernel_rfl) (by simp) ?_
        refine AllReadyH.cons (o := { dst := none, op := Go.Op.store 27 (Go.Operand.tmp 7) (Go.Operand.tmp 16), type := 0, pos := _, after := #[{ on := 6, ground := Go.Ground.data }, { on := 4, ground := Go.Ground.data }, { on := 7, ground := Go.Ground.chain }, { on := 0, ground := Go.Ground.phase }, { on := 1, ground := Go.Ground.phase }, { on := 2, ground := Go.Ground.phase }, { on := 3, ground := Go.Ground.phase }, { on := 4, ground := Go.Ground.phase }, { on := 5, ground := Go.Ground.phase }, { on := 6, ground := Go.Ground.phase }, { on := 7, ground := Go.Ground.phase }], guard := none }) rfl (fun K hK => ?_) AllReadyH.nil
        rw [if_pos (by rfl)]
        have h6' : (W4.setRow g5 FA).heap[g6]? = some (.cells ZT 27 (0, 0)) := by rw [setRow_other _ _ _ _ (by omega)]; exact HG6.out
        refine wp_store_row 27 _ _ rfl g6 UL.toArray rfl rfl 27 _ h6' HUI.out HZU.out HU1.out ?_
        have hHeld := DS.row hHeld hg6 UL.toArray
        refine hK.out _ _ hHeld (fun _ => ?_)
        clear hK K
        try simp only [Act.put, List.setIfInBounds_toArray, List.set_cons_zero, List.set_cons_succ]
        refine wpAnyH_done (by kernel_rfl) ?_ _
        show ∃ g6 g7 : Nat, _
        refine ⟨g5, g6, rfl, ?_, ?_, hHeld, hg5, hg6⟩
        · rw [setRow_other _ _ _ _ (by omega)]; exact setRow_heap _ _ _ _ _ _ HG5.out
        · exact setRow_heap _ _ _ _ _ _ h6'
    · have HG6O : Hid (W6.heap[g6]? = some _) := HG6.out
      go_wp2_with fail
      obtain ⟨W5, hW5⟩ : ∃ X, X = W6.alloc (.cells ZF 29 (0, 0)) := ⟨_, rfl⟩
      obtain ⟨g5, hgE5⟩ : ∃ x, x = W6.heap.size := ⟨_, rfl⟩
      have hb : Below W6.heap.size W6 W5 := by rw [hW5]; exact (Below.refl _ _).alloc (Nat.le_refl _) _
      have HG5 : Hid (W5.heap[g5]? = some (.cells ZF 29 (0, 0))) := by show _ = _; rw [hW5, hgE5]; exact heap_at _ _ _ rfl
      have hg5 : g < g5 := by rw [hgE5]; exact hHeld.2.2.2.2.2.2
      have HG6 : Hid (W5.heap[g6]? = some _) := (hb.block _ (row_lt HG6.out)).trans HG6.out
      have hne : g6 ≠ g5 := by rw [hgE5]; have := row_lt (HG6O.out); omega
      have hHeld := DS.below hHeld hb
      rw [← hW5, ← hgE5]
      clear hb hW5 hgE5
      refine hK.out _ _ hHeld (fun _ => ?_)
      clear hK K
      try simp only [Act.put, List.setIfInBounds_toArray, List.set_cons_zero, List.set_cons_succ]
      refine wpAnyH_ready (rs := [2]) (by kernel_rfl) (by simp) ?_
      refine AllReadyH.cons (o := { dst := some 14, op := Go.Op.call { callee := Go.Callee.value (Go.Operand.func 35), args := #[Go.Operand.tmp 12, Go.Operand.tmp 13], argTypes := #[26, 27] }, type := 29, pos := _, after := #[{ on := 0, ground := Go.Ground.data }, { on := 1, ground := Go.Ground.data }], guard := none }) rfl (fun K hK => ?_) AllReadyH.nil
      rw [if_pos (by rfl)]
      go_wp2_with fail
      refine (hex _).mono ?_
      rintro e W2 ⟨rfl, hb⟩
      have hHeld := DS.below hHeld hb
      have HG5 : Hid (W2.heap[g5]? = some _) := (hb.block _ (row_lt HG5.out)).trans HG5.out
      have HG6 : Hid (W2.heap[g6]? = some _) := (hb.block _ (row_lt HG6.out)).trans HG6.out
      have hg5 := hg5
      have hg6 := hg6
      clear hb
      refine hK.out _ _ hHeld (fun _ => ?_)
      clear hK K
      try simp only [Act.put, List.setIfInBounds_toArray, List.set_cons_zero, List.set_cons_succ]
      refine wpAnyH_ready (rs := [4]) (by kernel_rfl) (by simp) ?_
      refine AllReadyH.cons (o := { dst := some 16, op := Go.Op.call { callee := Go.Callee.value (Go.Operand.func 32), args := #[Go.Operand.tmp 15], argTypes := #[27] }, type := 27, pos := _, after := #[{ on := 3, ground := Go.Ground.data }, { on := 2, ground := Go.Ground.chain }], guard := none }) rfl (fun K hK => ?_) AllReadyH.nil
      rw [if_pos (by rfl)]
      go_wp2_with fail
      refine (hbk _).mono ?_
      rintro e W4 ⟨rfl, hb⟩
      have hHeld := DS.below hHeld hb
      have HG5 : Hid (W4.heap[g5]? = some _) := (hb.block _ (row_lt HG5.out)).trans HG5.out
      have HG6 : Hid (W4.heap[g6]? = some _) := (hb.block _ (row_lt HG6.out)).trans HG6.out
      have hg5 := hg5
      have hg6 := hg6
      clear hb
      refine hK.out _ _ hHeld (fun _ => ?_)
      clear hK K
      try simp only [Act.put, List.setIfInBounds_toArray, List.set_cons_zero, List.set_cons_succ]
      refine wpAnyH_ready (rs := [7]) (by kernel_rfl) (by simp) ?_
      refine AllReadyH.cons (o := { dst := none, op := Go.Op.store 29 (Go.Operand.tmp 6) (Go.Operand.tmp 14), type := 0, pos := _, after := #[{ on := 5, ground := Go.Ground.data }, { on := 2, ground := Go.Ground.data }, { on := 4, ground := Go.Ground.chain }, { on := 0, ground := Go.Ground.phase }, { on := 1, ground := Go.Ground.phase }, { on := 2, ground := Go.Ground.phase }, { on := 3, ground := Go.Ground.textOnly Go.Departure.lateStores }, { on := 4, ground := Go.Ground.textOnly Go.Departure.lateStoresUnsure }, { on := 5, ground := Go.Ground.phase }, { on := 6, ground := Go.Ground.phase }], guard := none }) rfl (fun K hK => ?_) AllReadyH.nil
      rw [if_pos (by rfl)]
      refine wp_store_row 29 _ _ rfl g5 FA rfl rfl 29 _ HG5.out HFI.out HZF.out HF1.out ?_
      have hHeld := DS.row hHeld hg5 FA
      refine hK.out _ _ hHeld (fun _ => ?_)
      clear hK K
      try simp only [Act.put, List.setIfInBounds_toArray, List.set_cons_zero, List.set_cons_succ]
      refine wpAnyH_ready (rs := [8]) (by kernel_rfl) (by simp) ?_
      refine AllReadyH.cons (o := { dst := none, op := Go.Op.store 27 (Go.Operand.tmp 7) (Go.Operand.tmp 16), type := 0, pos := _, after := #[{ on := 6, ground := Go.Ground.data }, { on := 4, ground := Go.Ground.data }, { on := 7, ground := Go.Ground.chain }, { on := 0, ground := Go.Ground.phase }, { on := 1, ground := Go.Ground.phase }, { on := 2, ground := Go.Ground.phase }, { on := 3, ground := Go.Ground.phase }, { on := 4, ground := Go.Ground.phase }, { on := 5, ground := Go.Ground.phase }, { on := 6, ground := Go.Ground.phase }, { on := 7, ground := Go.Ground.phase }], guard := none }) rfl (fun K hK => ?_) AllReadyH.nil
      rw [if_pos (by rfl)]
      have h6' : (W4.setRow g5 FA).heap[g6]? = some (.cells ZT 27 (0, 0)) := by rw [setRow_other _ _ _ _ (by omega)]; exact HG6.out
      refine wp_store_row 27 _ _ rfl g6 UL.toArray rfl rfl 27 _ h6' HUI.out HZU.out HU1.out ?_
      have hHeld := DS.row hHeld hg6 UL.toArray
      refine hK.out _ _ hHeld (fun _ => ?_)
      clear hK K
      try simp only [Act.put, List.setIfInBounds_toArray, List.set_cons_zero, List.set_cons_succ]
      refine wpAnyH_done (by kernel_rfl) ?_ _
      show ∃ g6 g7 : Nat, _
      refine ⟨g5, g6, rfl, ?_, ?_, hHeld, hg5, hg6⟩
      · rw [setRow_other _ _ _ _ (by omega)]; exact setRow_heap _ _ _ _ _ _ HG5.out
      · exact setRow_heap _ _ _ _ _ _ h6'

end Go.Proofs.Ytjohckgdbbhpdaa
