/- Several texts in one. -/
import Derived.Test.YtbmmibmfjhehhaaGreatAz
import Derived.Test.YtbmmibmfjhehhaaGreatAh
set_option linter.unusedVariables false
set_option linter.unusedSimpArgs false
/- Contract of ref 4's Stream. -/
namespace Go.Proofs.YtbmmibmfjhehhaaGreat.AE
open Go.RowKit

theorem _root_.Go.Proofs.YtbmmibmfjhehhaaGreat.HB.take {w : World} {p : Option Addr} {N cap : Nat} {l : List UInt8} (h : HB w (.slice p N cap) l) (n : Nat) (hn : n ≤ l.length) : HB w (.slice p n cap) (l.take n) := by
  rcases h with ⟨rfl, p', cap', e, hpc⟩ | ⟨b, o, cap', e, h1, h2, h3⟩
  · simp only [Value.slice.injEq] at e
    obtain ⟨rfl, rfl, rfl⟩ := e
    have : n = 0 := by simpa using hn
    subst this
    exact .inl ⟨rfl, _, _, rfl, hpc⟩
  · simp only [Value.slice.injEq] at e
    obtain ⟨rfl, rfl, rfl⟩ := e
    refine .inr ⟨b, o, cap, ?_, ?_, ?_, ?_⟩
    · rw [List.length_take, Nat.min_eq_left hn]
    · rw [List.length_take, Nat.min_eq_left hn]; omega
    · first | exact h2 | (rw [List.length_take]; omega)
    · intro i hi
      rw [List.length_take, Nat.min_eq_left hn] at hi
      rw [h3 i (by omega)]
      simp [List.getD, List.getElem?_take, hi]
def ctP (nonce be : List UInt8) (k : Nat) : List UInt8 := (List.range 16).map fun j => if j < 8 then (if j < k then nonce.getD j 0 else 0) else (if j - 8 < k then be.getD (j - 8) 0 else 0)
theorem ctP_len (nonce be : List UInt8) (k : Nat) : (ctP nonce be k).length = 16 := by unfold ctP; simp
theorem ctP_at (nonce be : List UInt8) (k j : Nat) (h : j < (ctP nonce be k).length) : (ctP nonce be k)[j] = if j < 8 then (if j < k then nonce.getD j 0 else 0) else (if j - 8 < k then be.getD (j - 8) 0 else 0) := by simp [ctP]
theorem ctP_zero (nonce be : List UInt8) : ctP nonce be 0 = List.replicate 16 0 := by
  apply List.ext_getElem
  · simp [ctP_len]
  · intro j h1 h2
    rw [ctP_at, List.getElem_replicate]
    simp
theorem ctP_step (nonce be : List UInt8) (k : Nat) (hk : k < 8) : ((ctP nonce be k).set k (nonce.getD k 0)).set (8 + k) (be.getD k 0) = ctP nonce be (k + 1) := by
  apply List.ext_getElem
  · simp [ctP_len]
  · intro j h1 h2
    have hj : j < 16 := by rw [ctP_len] at h2; exact h2
    rw [ctP_at, List.getElem_set]
    by_cases e1 : 8 + k = j
    · rw [if_pos e1, if_neg (by omega), if_pos (by omega), show j - 8 = k by omega]
    · rw [if_neg e1, List.getElem_set]
      by_cases e2 : k = j
      · rw [if_pos e2, if_pos (by omega), if_pos (by omega), e2]
      · rw [if_neg e2, ctP_at]
        by_cases h8 : j < 8
        · rw [if_pos h8, if_pos h8]
          by_cases hjk : j < k
          · rw [if_pos hjk, if_pos (by omega)]
          · rw [if_neg hjk, if_neg (by omega)]
        · rw [if_neg h8, if_neg h8]
          by_cases hjk : j - 8 < k
          · rw [if_pos hjk, if_pos (by omega)]
          · rw [if_neg hjk, if_neg (by omega)]
theorem ctP_all (nonce be : List UInt8) (hn : nonce.length = 8) (hb : be.length = 8) : ctP nonce be 8 = nonce ++ be := by
  apply List.ext_getElem
  · simp [ctP_len, hn, hb]
  · intro j h1 h2
    have hj : j < 16 := by rw [ctP_len] at h1; exact h1
    rw [ctP_at]
    by_cases h8 : j < 8
    · rw [if_pos h8, if_pos h8, List.getElem_append_left (by omega)]
      simp [List.getD, List.getElem?_eq_getElem (show j < nonce.length by omega)]
    · rw [if_neg h8, if_pos (by omega), List.getElem_append_right (by omega)]
      simp [List.getD, List.getElem?_eq_getElem (show j - 8 < be.length by omega), hn]
theorem rev_le (i k : Nat) (hk : k < 8) : (((W1.le 8 i).reverse.getD k 0).toNat : Nat) = i / 2 ^ (56 - 8 * k) % 256 := by
  have hl := W1.le_length 8 i
  rw [List.getD, List.getElem?_reverse (by omega), hl, W1.le_get 8 i _ (by omega)]
  rw [show 2 ^ (56 - 8 * k) = 256 ^ (8 - 1 - k) by rw [show (256 : Nat) = 2 ^ 8 from rfl, ← Nat.pow_mul]; congr 1; omega]
  show (i / 256 ^ (8 - 1 - k) % 256) % 256 = _
  omega
def RW (w : World) (B g7 g8 : Nat) (NL TL FL : List Value) (v : Value) (l : List UInt8) (wr : World) : Prop :=
  wr.heap[w.heap.size + 1]? = some (.cells NL.toArray 87 (0, 0)) ∧ wr.heap[g7]? = some (.cells TL.toArray 109 (0, 0)) ∧ wr.heap[g8]? = some (.cells FL.toArray 111 (0, 0)) ∧ FB B wr v l ∧ Below w.heap.size w wr ∧ B ≤ wr.heap.size
theorem RW.below {w : World} {B C g7 g8 : Nat} {NL TL FL : List Value} {v : Value} {l : List UInt8} {a b : World} (h : RW w B g7 g8 NL TL FL v l a) (h1 : w.heap.size + 1 < B) (h7 : g7 < B) (h8 : g8 < B) (hb : Below C a b) (hC : a.heap.size = C) : RW w B g7 g8 NL TL FL v l b := by
  subst hC
  obtain ⟨k1, k2, k3, k4, k5, k6⟩ := h
  have := hb.size
  exact ⟨(hb.block _ (by omega)).trans k1, (hb.block _ (by omega)).trans k2, (hb.block _ (by omega)).trans k3, k4.below hb, k5.trans (hb.mono (by omega)), by omega⟩
theorem RW.row {w : World} {B g g7 g8 : Nat} {NL TL FL : List Value} {v : Value} {l : List UInt8} {a : World} (h : RW w B g7 g8 NL TL FL v l a) (h1 : w.heap.size + 1 < B) (h7 : g7 < B) (h8 : g8 < B) (hg : B ≤ g) (hne : ∀ k, v.ownBlock = some k → k < g) (u : Nat) (x : Value) : RW w B g7 g8 NL TL FL v l (a.setCell ⟨g, u, none⟩ x) := by
  obtain ⟨k1, k2, k3, k4, k5, k6⟩ := h
  refine ⟨?_, ?_, ?_, ?_, k5.setCell (p := ⟨g, u, none⟩) (by show w.heap.size ≤ g; omega) _, by simpa using k6⟩
  · rw [heap_setCell_other _ _ _ _ (by show w.heap.size + 1 ≠ g; omega)]; exact k1
  · rw [heap_setCell_other _ _ _ _ (by show g7 ≠ g; omega)]; exact k2
  · rw [heap_setCell_other _ _ _ _ (by show g8 ≠ g; omega)]; exact k3
  · refine ⟨k4.1, ?_⟩
    rcases k4.2 with e | ⟨g', cap, cur, e1, e2, e3, e4⟩
    · exact .inl e
    · refine .inr ⟨g', cap, cur, e1, e2, ?_, e4⟩
      have := hne g' (by rw [e1]; rfl)
      rw [heap_setCell_other _ _ _ _ (by show g' ≠ g; omega)]; exact e3
theorem RW.setRow {w : World} {B g g7 g8 : Nat} {NL TL FL : List Value} {v : Value} {l : List UInt8} {a : World} (h : RW w B g7 g8 NL TL FL v l a) (h1 : w.heap.size + 1 < B) (h7 : g7 < B) (h8 : g8 < B) (hg : B ≤ g) (hne : ∀ k, v.ownBlock = some k → k < g) (N : Array Value) : RW w B g7 g8 NL TL FL v l (a.setRow g N) := by
  obtain ⟨k1, k2, k3, k4, k5, k6⟩ := h
  refine ⟨?_, ?_, ?_, ?_, below_setRow k5 (by omega) _, by simpa using k6⟩
  · rw [setRow_other _ _ _ _ (by omega)]; exact k1
  · rw [setRow_other _ _ _ _ (by omega)]; exact k2
  · rw [setRow_other _ _ _ _ (by omega)]; exact k3
  · refine ⟨k4.1, ?_⟩
    rcases k4.2 with e | ⟨g', cap, cur, e1, e2, e3, e4⟩
    · exact .inl e
    · refine .inr ⟨g', cap, cur, e1, e2, ?_, e4⟩
      have := hne g' (by rw [e1]; rfl)
      rw [setRow_other _ _ _ _ (by omega)]; exact e3
theorem sliceTo8 (W : World) (p : Option Addr) (N cap k : Nat) (h : k ≤ cap) : (Instr.slice 64 (.slice p N cap) none (some (.int .i64 (k : Int))) none).run Tryz.prog W = .ok (.slice p k cap) W := by
  have hu : Tryz.prog.underlying 64 = some (.slice (Tryz.prog.elem 64)) := by kernel_rfl
  have he : Tryz.prog.elem 64 = 5 := by kernel_rfl
  rw [run_slice_h W 64 _ _ _ hu .i64 _ (by omega) (by omega), he, size_u8]
  cases p <;> simp [Result.andThen, sliced, Addr.add]
theorem slice16r (w : World) (b : Nat) : (Instr.sliceAt 86 (.pointer (some ⟨b, 0, none⟩)) none none none).run Tryz.prog w = .ok (.slice (some ⟨b, 0, none⟩) 16 16) w := by
  have ha : Tryz.prog.arrayLen 86 = 16 := by kernel_rfl
  have hu : Tryz.prog.underlying 86 = some (.array (Tryz.prog.arrayLen 86) (Tryz.prog.elem 86)) := by kernel_rfl
  have he : Tryz.prog.elem 86 = 5 := by kernel_rfl
  rw [run_sliceAt_array_all w 86 _ hu, he, size_u8, ha]
  have hadd : (⟨b, 0, none⟩ : Addr).add (0 * 1) = ⟨b, 0, none⟩ := by unfold Addr.add; split <;> simp_all
  simp [Result.andThen, slicedAt, hadd]

end Go.Proofs.YtbmmibmfjhehhaaGreat.AE

/- Contract of ref 4's Stream: its walk. -/
namespace Go.Proofs.YtbmmibmfjhehhaaGreat.AE
open Go.RowKit

set_option maxHeartbeats 8000000 in
set_option maxRecDepth 100000 in
theorem rstream_own (key nonce : List UInt8) (n : Nat) (w : World) (hk : key.length = 16) (hn : nonce.length = 8) (hN : n ≤ 1048576) :
    Calls Tryz.prog 43 #[.agg (key.map B8).toArray, .agg (nonce.map B8).toArray, .int .i64 (n : Int)] w fun e w' => ∃ v, e = .returned v ∧ HB w' v (skA key nonce n) ∧ Below w.heap.size w w' ∧ ∀ j, v.ownBlock = some j → w.heap.size ≤ j := by
  have htb := fun W => table_any W
  have hex := fun W => expand_any key tabA W hk tabA_len
  have hen := fun (i : Nat) W => encipher_any (exA key tabA) (ctA nonce i) tabA W (exA_len key tabA hk) (ctA_len nonce i hn) tabA_len
  have hFl := exA_len key tabA hk
  have htl := tabA_len
  have HBL : Hid (∀ i, (skB key nonce i).length = 16) := fun i => skB_len key nonce i hk hn
  have HCL : Hid _ := fun k => skC_len key nonce k hk hn
  have HC1 : Hid (∀ k, skC key nonce (k + 1) = skC key nonce k ++ skB key nonce k) := fun _ => rfl
  have HSA : Hid (skA key nonce n = (skC key nonce ((n + 15) / 16)).take n) := rfl
  have HC0 : Hid (skC key nonce 0 = []) := rfl
  have HCT : Hid (∀ i, ctA nonce i = ctP nonce (W1.le 8 i).reverse 8) := fun i => (ctP_all nonce _ hn (by simp [W1.le_length])).symm
  have hen' : ∀ (i : Nat) (W : World), Calls Tryz.prog 61 #[.agg ((exA key tabA).map B8).toArray, .agg ((ctP nonce (W1.le 8 i).reverse 8).map B8).toArray, .agg (tabA.map B8).toArray] W fun e w' => e = .returned (.agg ((skB key nonce i).map B8).toArray) ∧ Below W.heap.size W w' := fun i W => by
    rw [← HCT.out i]; exact hen i W
  clear hen
  obtain ⟨R, hR⟩ : ∃ R, R = skA key nonce n := ⟨_, rfl⟩
  rw [← hR] at HSA ⊢
  clear hR
  generalize skC key nonce = C at *
  generalize skB key nonce = BB at *
  generalize exA key tabA = F at *
  generalize tabA = T at *
  obtain ⟨KA, hKA⟩ : ∃ A, A = (key.map B8).toArray := ⟨_, rfl⟩
  obtain ⟨NL, hNL⟩ : ∃ A, A = nonce.map B8 := ⟨_, rfl⟩
  obtain ⟨TL, hTL⟩ : ∃ A, A = T.map B8 := ⟨_, rfl⟩
  obtain ⟨FL, hFL⟩ : ∃ A, A = F.map B8 := ⟨_, rfl⟩
  rw [← hKA] at hex
  rw [← hTL] at htb hex hen'
  rw [← hFL] at hex hen'
  rw [← hKA, ← hNL]
  have HKS : Hid (KA.size = 16) := by show _ = _; rw [hKA]; simp [hk]
  have HKI : Hid _ := info16 KA HKS.out
  have HTS : Hid (TL.toArray.size = 256) := by show _ = _; rw [hTL]; simp [htl]
  have HTI : Hid _ := info256 TL.toArray HTS.out
  have HT1 : Hid (TL.toArray.all (·.oneCell') = true) := by show _ = _; rw [hTL]; exact B8_onea _
  have HFS : Hid (FL.toArray.size = 176) := by show _ = _; rw [hFL]; simp [hFl]
  have HFI : Hid _ := info176 FL.toArray HFS.out
  have HF1 : Hid (FL.toArray.all (·.oneCell') = true) := by show _ = _; rw [hFL]; exact B8_onea _
  have HNG : Hid (∀ k, k < 8 → NL.toArray[k]? = some (.int .u8 ((nonce.getD k 0).toNat : Int))) := fun k hk => by rw [hNL]; exact row_get nonce 8 hn k hk
  have hyv := fun W => zero256 W
  obtain ⟨ZT, hZT⟩ : ∃ ZT, ZT = ((List.replicate 256 (0 : UInt8)).map B8).toArray := ⟨_, rfl⟩
  rw [← hZT] at hyv
  have HZT : Hid (ZT.size = TL.toArray.size) := by show _ = _; rw [HTS.out, hZT]; simp
  have hzv := fun W => zero11 W
  obtain ⟨ZF, hZF⟩ : ∃ ZA, ZA = ((List.replicate 176 (0 : UInt8)).map B8).toArray := ⟨_, rfl⟩
  rw [← hZF] at hzv
  have HZF : Hid (ZF.size = FL.toArray.size) := by show _ = _; rw [HFS.out, hZF]; simp
  have hwv := fun W => zero16 W
  obtain ⟨ZA, hZA⟩ : ∃ ZA, ZA = ((List.replicate 16 (0 : UInt8)).map B8).toArray := ⟨_, rfl⟩
  rw [← hZA] at hwv
  have HZA : Hid _ := hZA
  have HK0 : Hid (((w.alloc (.cells KA 86 (0, 0))).alloc (.cells NL.toArray 87 (0, 0))).heap[w.heap.size]? = some (.cells KA 86 (0, 0))) := alloc2_first _ _ _
  have HN0 : Hid (((w.alloc (.cells KA 86 (0, 0))).alloc (.cells NL.toArray 87 (0, 0))).heap[w.heap.size + 1]? = some (.cells NL.toArray 87 (0, 0))) := heap_at _ _ _ (by simp)
  have HB0 : Hid (Below w.heap.size w ((w.alloc (.cells KA 86 (0, 0))).alloc (.cells NL.toArray 87 (0, 0)))) := ((Below.refl _ _).alloc (Nat.le_refl _) _).alloc (by simp) _
  have HNl : Hid _ := hn
  clear hk hn hKA hNL hTL hFL hFl htl hZT hZF hZA
  go_enter Tryz.func43, Tryz.ntmps43
  go_wp2_with fail
  refine (htb _).mono ?_
  rintro e w1 ⟨rfl, hb1⟩
  have hs1 : w.heap.size + 2 ≤ w1.heap.size := by have := hb1.size; simp at this; omega
  have HB1 : Hid (Below w.heap.size w w1) := HB0.out.trans (hb1.mono (by first | (simp; done) | (simp; omega)))
  have HK1 : Hid (w1.heap[w.heap.size]? = some (.cells KA 86 (0, 0))) := (hb1.block _ (by first | (simp; done) | (simp; omega))).trans HK0.out
  have HN1 : Hid (w1.heap[w.heap.size + 1]? = some (.cells NL.toArray 87 (0, 0))) := (hb1.block _ (by first | (simp; done) | (simp; omega))).trans HN0.out
  clear hb1 HB0 HK0 htb HN0
  have HQ : Hid ((w1.alloc (.cells ZT 109 (0, 0))).heap[w1.heap.size]? = some (.cells ZT 109 (0, 0))) := heap_at _ _ _ rfl
  have hbq : Below w1.heap.size w1 ((w1.alloc (.cells ZT 109 (0, 0))).setRow w1.heap.size TL.toArray) := below_setRow ((Below.refl _ _).alloc (Nat.le_refl _) _) (Nat.le_refl _) _
  have HK2 : Hid (((w1.alloc (.cells ZT 109 (0, 0))).setRow w1.heap.size TL.toArray).heap[w.heap.size]? = some (.cells KA 86 (0, 0))) := (hbq.block _ (by omega)).trans HK1.out
  have HN2 : Hid (((w1.alloc (.cells ZT 109 (0, 0))).setRow w1.heap.size TL.toArray).heap[w.heap.size + 1]? = some (.cells NL.toArray 87 (0, 0))) := (hbq.block _ (by omega)).trans HN1.out
  have HT2 : Hid (((w1.alloc (.cells ZT 109 (0, 0))).setRow w1.heap.size TL.toArray).heap[w1.heap.size]? = some (.cells TL.toArray 109 (0, 0))) := setRow_heap _ _ _ _ _ _ HQ.out
  have HB2 : Hid (Below w.heap.size w ((w1.alloc (.cells ZT 109 (0, 0))).setRow w1.heap.size TL.toArray)) := HB1.out.trans (hbq.mono (by omega))
  clear hbq
  go_wp2_with (first
    | (refine wpList_store_row rfl 109 _ _ rfl w1.heap.size TL.toArray rfl rfl 109 ZT HQ.out HTI.out HZT.out HT1.out ?_)
    | (refine wpList_load_row rfl 86 _ rfl w.heap.size rfl 86 KA (0, 0) _ HK2.out Tryz.underlying86 rfl HKI.out ?_)
    | (refine wpList_load_row rfl 109 _ rfl w1.heap.size rfl 109 TL.toArray (0, 0) _ HT2.out Tryz.underlying109 rfl HTI.out ?_))
  refine (hex _).mono ?_
  rintro e w3 ⟨rfl, hb3⟩
  have hs3 : w1.heap.size + 1 ≤ w3.heap.size := by have := hb3.size; simp at this; omega
  have HB3 : Hid (Below w.heap.size w w3) := HB2.out.trans (hb3.mono (by simp; omega))
  have HN3 : Hid (w3.heap[w.heap.size + 1]? = some (.cells NL.toArray 87 (0, 0))) := (hb3.block _ (by simp; omega)).trans HN2.out
  have HT3 : Hid (w3.heap[w1.heap.size]? = some (.cells TL.toArray 109 (0, 0))) := (hb3.block _ (by simp)).trans HT2.out
  clear hb3 hex HB2 HK2 HK1 HB1 HQ HN1 HN2 HT2
  have HQ3 : Hid ((w3.alloc (.cells ZF 111 (0, 0))).heap[w3.heap.size]? = some (.cells ZF 111 (0, 0))) := heap_at _ _ _ rfl
  obtain ⟨i0, hi, hz0, hz1, hz2⟩ := info_parts Tryz.infoU8
  have hbq : Below w3.heap.size w3 ((w3.alloc (.cells ZF 111 (0, 0))).setRow w3.heap.size FL.toArray) := below_setRow ((Below.refl _ _).alloc (Nat.le_refl _) _) (Nat.le_refl _) _
  have HRW : Hid (RW w (w3.heap.size + 1) w1.heap.size w3.heap.size NL TL FL (.slice none 0 0) (C 0) ((w3.alloc (.cells ZF 111 (0, 0))).setRow w3.heap.size FL.toArray)) := by
    refine ⟨(hbq.block _ (by omega)).trans HN3.out, (hbq.block _ (by omega)).trans HT3.out, setRow_heap _ _ _ _ _ _ HQ3.out, ?_, HB3.out.trans (hbq.mono (by omega)), by simp⟩
    rw [HC0.out]; exact World.ownsRow_nil _ _ _ _
  have hw1 : w.heap.size + 1 < w3.heap.size + 1 := by omega
  have hw7 : w1.heap.size < w3.heap.size + 1 := by omega
  have hw8 : w3.heap.size < w3.heap.size + 1 := by omega
  clear hbq HB3 HN3 HT3
  go_wp2_with (first
    | (refine wpList_store_row rfl 111 _ _ rfl w3.heap.size FL.toArray rfl rfl 111 ZF HQ3.out HFI.out HZF.out HF1.out ?_))
  clear HQ3
  generalize (w3.alloc (.cells ZF 111 (0, 0))).setRow w3.heap.size FL.toArray = w4 at *
  generalize w3.heap.size = g8 at *
  generalize w1.heap.size = g7 at *
  obtain ⟨m, hm⟩ : ∃ m, m = (n + 15) / 16 := ⟨_, rfl⟩
  rw [← hm] at HSA
  have hm1 : 16 * m < n + 16 := by omega
  have hm2 : n ≤ 16 * m := by omega
  clear hm
  go_loopw [9, 10] (fun v i wr => ∃ k : Nat, k ≤ m ∧ i = .int .i64 k ∧ RW w (g8 + 1) g7 g8 NL TL FL v (C k) wr) (fun _ i _ => m - (intOf i).toNat)
  case atStart => exact ⟨0, by omega, rfl, HRW.out⟩
  case round =>
    clear HRW
    obtain ⟨k, hk, rfl, hM⟩ := hrel
    have hcl := HCL.out k
    obtain ⟨pu, cu, hu⟩ := hM.2.2.2.1.form'
    rw [hcl] at hu
    subst hu
    by_cases hlt : 16 * k < n
    · have hkI : 16 * (k : Int) < (n : Int) := by omega
      have hkm : k < m := by omega
      have he1 := hen' k
      have hbl := HBL.out k
      have hrv := rev_le k
      obtain ⟨be, hbe⟩ : ∃ be, be = (W1.le 8 k).reverse := ⟨_, rfl⟩
      rw [← hbe] at he1 hrv
      have HCP : Hid (∀ j, j < 8 → _) := fun j hj => ctP_step nonce be j hj
      have HCPl : Hid _ := fun j => ctP_len nonce be j
      have HCP0 : Hid _ := ctP_zero nonce be
      have HRV : Hid _ := hrv
      have hne : ∀ j, (Value.slice pu (16 * k) cu).ownBlock = some j → j < wr.heap.size := fun j hj => (hM.2.2.2.1.lt j hj).2
      have HNE : Hid _ := hne
      have hBw : g8 + 1 ≤ wr.heap.size := hM.2.2.2.2.2
      have HM0 : Hid (RW w (g8 + 1) g7 g8 NL TL FL (.slice pu (16 * k) cu) (C k) (wr.alloc (.cells ZA 86 (0, 0)))) := hM.below hw1 hw7 hw8 ((Below.refl _ _).alloc (Nat.le_refl _) _) rfl
      have HG0 : Hid ((wr.alloc (.cells ZA 86 (0, 0))).heap[wr.heap.size]? = some (.cells ((ctP nonce be 0).map B8).toArray 86 (0, 0))) := by show _ = _; rw [HCP0.out, ← HZA.out]; exact heap_at _ _ _ rfl
      have HCLk : Hid _ := hcl
      have HBLk : Hid _ := hbl
      clear hM hbe hne hrv hcl hbl
      go_wp2
      generalize wr.alloc (.cells ZA 86 (0, 0)) = w5 at *
      generalize wr.heap.size = g at *
      go_loopw [12] (fun i wr => ∃ j : Nat, j ≤ 8 ∧ i = .int .i64 j ∧ RW w (g8 + 1) g7 g8 NL TL FL (.slice pu (16 * k) cu) (C k) wr ∧ wr.heap[g]? = some (.cells ((ctP nonce be j).map B8).toArray 86 (0, 0))) (fun i _ => 8 - (intOf i).toNat)
      case atStart => exact ⟨0, by omega, rfl, HM0.out, HG0.out⟩
      case round =>
        clear HM0 HG0
        obtain ⟨j, hj, rfl, hM, hG⟩ := hrel
        by_cases hlj : j < 8
        · have hjI : (j : Int) < 8 := by omega
          have hjJ : (j : Int) < 16 := by omega
          have hst := HCP.out j hlj
          have hrv := HRV.out j hlj
          have g1 := cell_of_row _ _ j _ _ _ hM.1
          rw [HNG.out j hlj] at g1
          have g2 := cell_of_row _ _ j _ _ _ hG
          rw [row_get _ 16 (HCPl.out j) _ (by omega)] at g2
          have g3 := frozen_of_row _ _ j _ _ hG
          have hM1 := (hM.row hw1 hw7 hw8 hBw HNE.out j (.int .u8 ((nonce.getD j 0).toNat : Int)))
          have hG1 : (wr.setCell ⟨g, j, none⟩ (.int .u8 ((nonce.getD j 0).toNat : Int))).heap[g]? = some (.cells (((ctP nonce be j).set j (nonce.getD j 0)).map B8).toArray 86 (0, 0)) := by
            rw [← row_set]; exact heap_setCell_same _ g j _ 86 _ hG
          have g4 := cell_of_row _ _ (8 + j) _ _ _ hG1
          rw [row_get _ 16 (by rw [List.length_set]; exact HCPl.out j) _ (by omega)] at g4
          have g5 := frozen_of_row _ _ (8 + j) _ _ hG1
          have hM2 := (hM1.row hw1 hw7 hw8 hBw HNE.out (8 + j) (.int .u8 ((be.getD j 0).toNat : Int)))
          have hG2 : ((wr.setCell ⟨g, j, none⟩ (.int .u8 ((nonce.getD j 0).toNat : Int))).setCell ⟨g, 8 + j, none⟩ (.int .u8 ((be.getD j 0).toNat : Int))).heap[g]? = some (.cells ((ctP nonce be (j + 1)).map B8).toArray 86 (0, 0)) := by
            rw [← hst, ← row_set]; exact heap_setCell_same _ g (8 + j) _ 86 _ hG1
          have HFIN : Hid (RW w (g8 + 1) g7 g8 NL TL FL (.slice pu (16 * k) cu) (C k) ((wr.setCell ⟨g, j, none⟩ (.int .u8 ((nonce.getD j 0).toNat : Int))).setCell ⟨g, 8 + j, none⟩ (.int .u8 ((be.getD j 0).toNat : Int))) ∧ _) := ⟨hM2, hG2⟩
          generalize (ctP nonce be j).getD j 0 = z1 at *
          generalize ((ctP nonce be j).set j (nonce.getD j 0)).getD (8 + j) 0 = z2 at *
          generalize nonce.getD j 0 = x at *
          generalize be.getD j 0 = y at *
          obtain ⟨e, he⟩ : ∃ e, e = 56 - 8 * j := ⟨_, rfl⟩
          rw [← he] at hrv
          obtain ⟨q, hq⟩ : ∃ q, q = k / 2 ^ e := ⟨_, rfl⟩
          rw [← hq] at hrv
          have hqI : (k : Int) / 2 ^ e = (q : Int) := by rw [hq]; simp
          have hqm : (q : Int) % 256 = (y.toNat : Int) := by omega
          have heI : (56 : Int) - 8 * (j : Int) = (e : Int) := by omega
          have q1 : IntKind.i64.wrap (8 * (j : Int)) = 8 * (j : Int) := wrap_i64_7 _ (by omega) (by omega)
          have q2 : IntKind.i64.wrap ((56 : Int) - 8 * (j : Int)) = (e : Int) := by rw [heI]; exact wrap_i64_7 _ (by omega) (by omega)
          have q3 : IntKind.u64.wrap (e : Int) = (e : Int) := by rw [IntKind.wrap_u64]; omega
          have q4 : IntKind.u64.wrap (k : Int) = (k : Int) := by rw [IntKind.wrap_u64]; omega
          have q5 : IntKind.i64.wrap ((8 : Int) + (j : Int)) = (8 : Int) + (j : Int) := wrap_i64_7 _ (by omega) (by omega)
          have t1 : ((8 : Int) + (j : Int)).toNat = 8 + j := by omega
          have l1 : (8 : Int) + (j : Int) < 16 := by omega
          have hee : e ≤ 56 := by omega
          clear hM hG hM1 hG1 hM2 hG2 hst hrv hq he
          go_wp2
          go_roundw
          case rel => exact ⟨j + 1, by omega, by go_num, HFIN.out.1, HFIN.out.2⟩
          case measure => simp [intOf]; omega
        · have hj8 : j = 8 := by omega
          have hjI : ¬ (j : Int) < 8 := by omega
          rw [hj8] at hG
          obtain ⟨XA, hXA⟩ : ∃ A, A = ((ctP nonce be 8).map B8).toArray := ⟨_, rfl⟩
          have HXS : Hid (XA.size = 16) := by show _ = _; rw [hXA]; simp [HCPl.out 8]
          have HXI : Hid _ := info16 XA HXS.out
          obtain ⟨BA, hBA⟩ : ∃ A, A = ((BB k).map B8).toArray := ⟨_, rfl⟩
          have HBS : Hid (BA.size = 16) := by show _ = _; rw [hBA]; simp [HBLk.out]
          have HBI : Hid _ := info16 BA HBS.out
          have HB1 : Hid (BA.all (·.oneCell') = true) := by show _ = _; rw [hBA]; exact B8_onea _
          have HBA : Hid _ := hBA
          rw [← hXA] at hG
          have he2 := he1 wr
          rw [← hXA, ← hBA] at he2
          have HG0 : Hid _ := hG
          have HF0 : Hid _ := hM.2.2.1
          have HT0 : Hid _ := hM.2.1
          have HM0 : Hid (RW w (g8 + 1) g7 g8 NL TL FL (.slice pu (16 * k) cu) (C k) wr) := hM
          have hgw := row_lt hG
          clear hM hG hXA hBA hj8 he1
          go_wp2_with (first
            | (refine wpList_load_row rfl 111 _ rfl g8 rfl 111 FL.toArray (0, 0) _ HF0.out Tryz.underlying111 rfl HFI.out ?_)
            | (refine wpList_load_row rfl 86 _ rfl g rfl 86 XA (0, 0) _ HG0.out Tryz.underlying86 rfl HXI.out ?_)
            | (refine wpList_load_row rfl 109 _ rfl g7 rfl 109 TL.toArray (0, 0) _ HT0.out Tryz.underlying109 rfl HTI.out ?_))
          refine he2.mono ?_
          rintro e w6 ⟨rfl, hb6⟩
          have HM6 : Hid (RW w (g8 + 1) g7 g8 NL TL FL (.slice pu (16 * k) cu) (C k) w6) := HM0.out.below hw1 hw7 hw8 hb6 rfl
          have HG6 : Hid (w6.heap[g]? = some (.cells XA 86 (0, 0))) := (hb6.block _ hgw).trans HG0.out
          clear hb6 he2 HM0 HG0 HF0 HT0
          have HM7 : Hid (RW w (g8 + 1) g7 g8 NL TL FL (.slice pu (16 * k) cu) (C k) (w6.setRow g BA)) := HM6.out.setRow hw1 hw7 hw8 hBw HNE.out BA
          have HG7 : Hid ((w6.setRow g BA).heap[g]? = some (.cells BA 86 (0, 0))) := setRow_heap _ _ _ _ _ _ HG6.out
          have hs6 := slice16r (w6.setRow g BA) g
          have HNW : Hid (∀ j u, ((BB k).map B8)[j]? = some u → (w6.setRow g BA).cell? ((⟨g, 0, none⟩ : Addr).add j) = some u) := fun j u hu => by
            have e : (⟨g, 0, none⟩ : Addr).add j = ⟨g, j, none⟩ := by unfold Addr.add; split <;> simp_all
            rw [e, cell_of_row _ _ j _ _ _ HG7.out, HBA.out]
            simpa using hu
          have hnl2 : ((BB k).map B8).length = 16 := by rw [List.length_map, HBLk.out]
          have HNL2 : Hid _ := hnl2
          have hszx := HM7.out.2.2.2.2.2
          clear hnl2 HM6
          go_wp2_with (first
            | (refine wpList_store_row rfl 86 _ _ rfl g BA rfl rfl 86 XA HG6.out HBI.out (HXS.out.trans HBS.out.symm) HB1.out ?_)
            | (at_builtin; refine wpList_append_own _ rfl (.tmp 47) (.tmp 48) 64 rfl (g8 + 1) 5 i0 (.int .u8 0) 1 1 Tryz.underlying64 hi hz0 hz1 hz2 rfl (by decide) (.slice pu (16 * k) cu) _ _ rfl (by exact HM7.out.2.2.2.1) ⟨g, 0, none⟩ 16 16 ((BB k).map B8) rfl (by rw [HNL2.out]) (by exact HNW.out) (B8_one' _) (by rw [HCLk.out]; unfold maxLen; omega) (by rw [HCLk.out]; omega) hszx ?_; intro v1 w8 hown1 hgr1 hn1))
          have HFIN : Hid (RW w (g8 + 1) g7 g8 NL TL FL v1 (C (k + 1)) w8) := by
            obtain ⟨a1, a2, a3, a4, a5, a6⟩ := HM7.out
            have hb8 : Below (g8 + 1) (w6.setRow g BA) w8 := (Below.refl _ _).grown hgr1 a6 (fun j hj => (a4.lt j hj).1)
            refine ⟨(hb8.block _ hw1).trans a1, (hb8.block _ hw7).trans a2, (hb8.block _ hw8).trans a3, ?_, a5.trans (hb8.mono (by omega)), Nat.le_trans a6 hb8.size⟩
            show w8.ownsRow _ _ _ _ _ _
            rw [HC1.out, List.length_append, HBLk.out, List.map_append]
            exact hown1
          clear hown1 hgr1 hn1 HM7 HG7 HNW hs6
          go_wp2
          go_roundw
          case rel => exact ⟨k + 1, by omega, by go_num, HFIN.out⟩
          case measure => simp [intOf]; omega
    · have hkm : k = m := by omega
      have hkI : ¬ 16 * (k : Int) < (n : Int) := by omega
      have hhb := hM.2.2.2.1.hb.take n (by rw [hcl]; omega)
      rw [hkm, ← HSA.out] at hhb
      have hcap : n ≤ cu := by
        rcases hM.2.2.2.1.2 with ⟨e1, e2⟩ | ⟨g', cap, cur, e1, _, _, e4, _⟩
        · rw [hcl] at e2; omega
        · rw [hcl] at e1 e4
          simp only [Value.slice.injEq] at e1
          omega
      have hsl := fun W => sliceTo8 W pu (16 * k) cu n hcap
      have HHB : Hid _ := hhb
      have HBF : Hid _ := hM.2.2.2.2.1
      have HOW : Hid (∀ j, (Value.slice pu n cu).ownBlock = some j → w.heap.size ≤ j) := fun j e => by have := (hM.2.2.2.1.lt j (by cases pu <;> exact e)).1; omega
      clear hM hkm hhb hcap
      go_wp2
      go_ret
      exact ⟨_, rfl, HHB.out, HBF.out, HOW.out⟩
end Go.Proofs.YtbmmibmfjhehhaaGreat.AE
