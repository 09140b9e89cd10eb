/- Contract of aes's Stream, of a number that may be. -/
import Derived.Test.YtjohckgdbbhpdaaC8
import Derived.Test.YtjohckgdbbhpdaaR7
set_option linter.unusedVariables false
set_option linter.unusedSimpArgs false
namespace Go.Proofs.Ytjohckgdbbhpdaa
open Go.RowKit

theorem FB.below {B : Nat} {v : Value} {l : List UInt8} {w w' : World} (h : FB B w v l) (hb : Below w.heap.size w w') : FB B w' v l :=
  h.kept (row := none) ⟨hb.os, hb.tape, hb.output, hb.size, fun j hj _ => hb.block j hj⟩ (by cases hv : v.ownBlock <;> simp)
/-- Block i of a stream. -/
def skB (key nonce : List UInt8) (i : Nat) : List UInt8 := encA (exA key tabA) tabA (ctA nonce i)
theorem skB_len (key nonce : List UInt8) (i : Nat) (hk : key.length = 16) (hn : nonce.length = 8) : (skB key nonce i).length = 16 := encR_len _ _ _ 10 (exA_len key tabA hk) (ctA_len nonce i hn) (by omega)
/-- The first k blocks of a stream. -/
def skC (key nonce : List UInt8) : Nat → List UInt8
  | 0 => []
  | k + 1 => skC key nonce k ++ skB key nonce k
theorem skC_len (key nonce : List UInt8) (k : Nat) (hk : key.length = 16) (hn : nonce.length = 8) : (skC key nonce k).length = 16 * k := by
  induction k with
  | zero => rfl
  | succ k ih => unfold skC; rw [List.length_append, ih, skB_len key nonce k hk hn]; omega
/-- The first n bytes of a stream. -/
def skA (key nonce : List UInt8) (n : Nat) : List UInt8 := (skC key nonce ((n + 15) / 16)).take n
theorem skA_len (key nonce : List UInt8) (n : Nat) (hk : key.length = 16) (hn : nonce.length = 8) : (skA key nonce n).length = n := by
  unfold skA
  rw [List.length_take, skC_len key nonce _ hk hn]; omega
theorem skC_pre (key nonce : List UInt8) (k d : Nat) : skC key nonce k <+: skC key nonce (k + d) := by
  induction d with
  | zero => exact List.prefix_rfl
  | succ d ih => exact ih.trans (List.prefix_append _ _)
/-- One more part. -/
theorem skC_step (key nonce : List UInt8) (n k : Nat) (hk : key.length = 16) (hn : nonce.length = 8) (h : 16 * k < n) : (skC key nonce (k + 1)).take n = (skC key nonce k).take n ++ (skB key nonce k).take (min 16 (n - 16 * k)) := by
  have hl := skC_len key nonce k hk hn
  have hb := skB_len key nonce k hk hn
  show (skC key nonce k ++ skB key nonce k).take n = _
  revert hl hb
  generalize skC key nonce k = c
  generalize skB key nonce k = bb
  intro hl hb
  rw [List.take_append, hl]
  congr 1
  by_cases h16 : 16 ≤ n - 16 * k
  · rw [Nat.min_eq_left h16, List.take_of_length_le (by omega), List.take_of_length_le (by omega)]
  · rw [Nat.min_eq_right (by omega)]
/-- What stays while a stream is made. -/
def SW (w5 : World) (B n1 g8 g9 : Nat) (NL TL FL : List Value) (v : Value) (l : List UInt8) (wr : World) : Prop :=
  wr.rangeAt n1 0 NL ∧ wr.rangeAt g8 0 TL ∧ wr.rangeAt g9 0 FL ∧ FB B wr v l ∧ Below B w5 wr ∧ B ≤ wr.heap.size
theorem SW.below {w5 : World} {B n1 g8 g9 : Nat} {NL TL FL : List Value} {v : Value} {l : List UInt8} {a b : World} (h : SW w5 B n1 g8 g9 NL TL FL v l a) (hb : Below a.heap.size a b) : SW w5 B n1 g8 g9 NL TL FL v l b := by
  obtain ⟨h1, h2, h3, h4, h5, h6⟩ := h
  have := hb.size
  exact ⟨rangeAt_below h1 hb, rangeAt_below h2 hb, rangeAt_below h3 hb, h4.below hb, h5.trans (hb.mono h6), by omega⟩
theorem SW.row {w5 : World} {B n1 g8 g9 g : Nat} {NL TL FL : List Value} {v : Value} {l : List UInt8} {a b : World} (h : SW w5 B n1 g8 g9 NL TL FL v l a) (hb : Below g a b) (hs : a.heap.size = g) : SW w5 B n1 g8 g9 NL TL FL v l b := by
  subst hs; exact h.below hb
theorem sliceTo16 (w : World) (b k : Nat) (hk : k ≤ 16) : (Instr.sliceAt 26 (.pointer (some ⟨b, 0, none⟩)) none (some (.int .i64 (k : Int))) none).run Try.prog w = .ok (.slice (some ⟨b, 0, none⟩) k 16) w := by
  have ha : Try.prog.arrayLen 26 = 16 := by kernel_rfl
  have hu : Try.prog.underlying 26 = some (.array (Try.prog.arrayLen 26) (Try.prog.elem 26)) := by kernel_rfl
  have he : Try.prog.elem 26 = 5 := by kernel_rfl
  rw [run_sliceAt_array_h w 26 _ hu .i64 _ (by omega) (by rw [ha]; omega), he, size_u8, ha]
  have hadd : (⟨b, 0, none⟩ : Addr).add (0 * 1) = ⟨b, 0, none⟩ := by unfold Addr.add; split <;> simp_all
  simp [Result.andThen, slicedAt, hadd]





set_option maxHeartbeats 8000000 in
set_option maxRecDepth 100000 in
theorem pstream_any (key nonce : List UInt8) (n : Nat) (w : World) (hk : key.length = 16) (hn : nonce.length = 8) (hN : n ≤ 1048576) :
    Calls Try.prog 25 #[.agg (key.map B8).toArray, .agg (nonce.map B8).toArray, .int .i64 (n : Int)] w fun e w' => ∃ v, e = .returned (.tuple #[v, .int .i64 0]) ∧ FB w.heap.size w' v (skA key nonce n) ∧ Below w.heap.size w w' := by
  have hsu := fun W => pallSubs_any W
  have hex := fun W => pexpand_any key tabA W hk tabA_len
  have hct := fun (i : Nat) (hi : i < 9223372036854775808) W => pcounted_any nonce i W hn hi
  have hen := fun (i : Nat) W => pencipher_any (exA key tabA) (ctA nonce i) tabA W (exA_len key tabA hk) (ctA_len nonce i hn) tabA_len
  have hFl := exA_len key tabA hk
  have htl := tabA_len
  have HBL : Hid (∀ i, (skB key nonce i).length = 16) := fun i => skB_len key nonce i hk hn
  have HCS : Hid (∀ k, 16 * k < n → _) := fun k h => skC_step key nonce n k hk hn h
  have HCL : Hid _ := fun k => skC_len key nonce k hk hn
  have HSA : Hid (skA key nonce n = (skC key nonce ((n + 15) / 16)).take n) := rfl
  have HC0 : Hid (skC key nonce 0 = []) := rfl
  have hen' : ∀ (i : Nat) (W : World), Calls Try.prog 36 #[.agg ((exA key tabA).map B8).toArray, .agg ((ctA nonce i).map B8).toArray, .agg (tabA.map B8).toArray] W fun e w' => e = .returned (.agg ((skB key nonce i).map B8).toArray) ∧ Below W.heap.size W w' := fun i W => hen i W
  clear hen
  generalize skA key nonce n = R at *
  generalize skC key nonce = C at *
  generalize skB key nonce = BB at *
  generalize exA key tabA = F at *
  generalize tabA = T at *
  obtain ⟨KA, hKA⟩ : ∃ A, A = (key.map B8).toArray := ⟨_, rfl⟩
  obtain ⟨NL, hNL⟩ : ∃ A, A = nonce.map B8 := ⟨_, rfl⟩
  obtain ⟨TL, hTL⟩ : ∃ A, A = T.map B8 := ⟨_, rfl⟩
  obtain ⟨FL, hFL⟩ : ∃ A, A = F.map B8 := ⟨_, rfl⟩
  rw [← hKA] at hex
  rw [← hTL] at hsu hex hen'
  rw [← hFL] at hex hen'
  rw [← hNL] at hct
  rw [← hKA, ← hNL]
  have HKS : Hid (KA.size = 16) := by show _ = _; rw [hKA]; simp [hk]
  have HKI : Hid _ := info16 KA HKS.out
  have HTS : Hid (TL.toArray.size = 256) := by show _ = _; rw [hTL]; simp [htl]
  have HTI : Hid _ := info256 TL.toArray HTS.out
  have HT1 : Hid (TL.toArray.all (·.oneCell') = true) := by show _ = _; rw [hTL]; exact B8_onea _
  have HFS : Hid (FL.toArray.size = 176) := by show _ = _; rw [hFL]; simp [hFl]
  have HFI : Hid _ := info176 FL.toArray HFS.out
  have HF1 : Hid (FL.toArray.all (·.oneCell') = true) := by show _ = _; rw [hFL]; exact B8_onea _
  have hiN : (Try.prog.info? 35).map (·.size) = some NL.length := by rw [hNL, List.length_map, hn]; kernel_rfl
  have hiT : (Try.prog.info? 27).map (·.size) = some TL.length := by rw [hTL, List.length_map, htl]; kernel_rfl
  have hiF : (Try.prog.info? 29).map (·.size) = some FL.length := by rw [hFL, List.length_map, hFl]; kernel_rfl
  have huN := Try.underlying35
  have huT := Try.underlying27
  have huF := Try.underlying29
  have hyv := fun W => zero256 W
  obtain ⟨ZT, hZT⟩ : ∃ ZT, ZT = ((List.replicate 256 (0 : UInt8)).map B8).toArray := ⟨_, rfl⟩
  rw [← hZT] at hyv
  have HZT : Hid (ZT.size = TL.toArray.size) := by show _ = _; rw [HTS.out, hZT]; simp
  have hzv := fun W => zero11 W
  obtain ⟨ZF, hZF⟩ : ∃ ZA, ZA = ((List.replicate 176 (0 : UInt8)).map B8).toArray := ⟨_, rfl⟩
  rw [← hZF] at hzv
  have HZF : Hid (ZF.size = FL.toArray.size) := by show _ = _; rw [HFS.out, hZF]; simp
  have hwv := fun W => zero16 W
  obtain ⟨ZA, hZA⟩ : ∃ ZA, ZA = ((List.replicate 16 (0 : UInt8)).map B8).toArray := ⟨_, rfl⟩
  rw [← hZA] at hwv
  have HZS : Hid (ZA.size = 16) := by show _ = _; rw [hZA]; simp
  have HK0 : Hid (((w.alloc (.cells KA 26 (0, 0))).alloc (.cells NL.toArray 35 (0, 0))).heap[w.heap.size]? = some (.cells KA 26 (0, 0))) := alloc2_first _ _ _
  have HN0 : Hid (((w.alloc (.cells KA 26 (0, 0))).alloc (.cells NL.toArray 35 (0, 0))).heap[w.heap.size + 1]? = some (.cells NL.toArray 35 (0, 0))) := heap_at _ _ _ (by simp)
  have HB0 : Hid (Below w.heap.size w ((w.alloc (.cells KA 26 (0, 0))).alloc (.cells NL.toArray 35 (0, 0)))) := ((Below.refl _ _).alloc (Nat.le_refl _) _).alloc (by simp) _
  have h0 : ¬ (n : Int) < 0 := by omega
  have h1 : ¬ (1048576 : Int) < (n : Int) := by omega
  clear hk hn hKA hNL hTL hFL hFl htl hZT hZF hZA
  go_enter Try.func25, Try.ntmps25
  go_wp2_with fail
  refine (hsu _).mono ?_
  rintro e w1 ⟨rfl, hb1⟩
  have hs1 : w.heap.size + 2 ≤ w1.heap.size := by have := hb1.size; simp at this; omega
  have HB1 : Hid (Below w.heap.size w w1) := HB0.out.trans (hb1.mono (by first | (simp; done) | (simp; omega)))
  have HK1 : Hid (w1.heap[w.heap.size]? = some (.cells KA 26 (0, 0))) := (hb1.block _ (by first | (simp; done) | (simp; omega))).trans HK0.out
  have HN1 : Hid (w1.heap[w.heap.size + 1]? = some (.cells NL.toArray 35 (0, 0))) := (hb1.block _ (by first | (simp; done) | (simp; omega))).trans HN0.out
  clear hb1 HB0 HK0 hsu HN0
  have HQ : Hid ((w1.alloc (.cells ZT 27 (0, 0))).heap[w1.heap.size]? = some (.cells ZT 27 (0, 0))) := heap_at _ _ _ rfl
  have hbq : Below w1.heap.size w1 ((w1.alloc (.cells ZT 27 (0, 0))).setRow w1.heap.size TL.toArray) := below_setRow ((Below.refl _ _).alloc (Nat.le_refl _) _) (Nat.le_refl _) _
  have HK2 : Hid (((w1.alloc (.cells ZT 27 (0, 0))).setRow w1.heap.size TL.toArray).heap[w.heap.size]? = some (.cells KA 26 (0, 0))) := (hbq.block _ (by omega)).trans HK1.out
  have HN2 : Hid (((w1.alloc (.cells ZT 27 (0, 0))).setRow w1.heap.size TL.toArray).heap[w.heap.size + 1]? = some (.cells NL.toArray 35 (0, 0))) := (hbq.block _ (by omega)).trans HN1.out
  have HT2 : Hid (((w1.alloc (.cells ZT 27 (0, 0))).setRow w1.heap.size TL.toArray).heap[w1.heap.size]? = some (.cells TL.toArray 27 (0, 0))) := setRow_heap _ _ _ _ _ _ HQ.out
  have HB2 : Hid (Below w.heap.size w ((w1.alloc (.cells ZT 27 (0, 0))).setRow w1.heap.size TL.toArray)) := HB1.out.trans (hbq.mono (by omega))
  clear hbq
  go_wp2_with (first
    | (refine wpList_store_row rfl 27 _ _ rfl w1.heap.size TL.toArray rfl rfl 27 ZT HQ.out HTI.out HZT.out HT1.out ?_)
    | (refine wpList_load_row rfl 26 _ rfl w.heap.size rfl 26 KA (0, 0) _ HK2.out Try.underlying26 rfl HKI.out ?_)
    | (refine wpList_load_row rfl 27 _ rfl w1.heap.size rfl 27 TL.toArray (0, 0) _ HT2.out Try.underlying27 rfl HTI.out ?_))
  refine (hex _).mono ?_
  rintro e w3 ⟨rfl, hb3⟩
  have hs3 : w1.heap.size + 1 ≤ w3.heap.size := by have := hb3.size; simp at this; omega
  have HB3 : Hid (Below w.heap.size w w3) := HB2.out.trans (hb3.mono (by simp; omega))
  have HN3 : Hid (w3.heap[w.heap.size + 1]? = some (.cells NL.toArray 35 (0, 0))) := (hb3.block _ (by simp; omega)).trans HN2.out
  have HT3 : Hid (w3.heap[w1.heap.size]? = some (.cells TL.toArray 27 (0, 0))) := (hb3.block _ (by simp)).trans HT2.out
  clear hb3 hex HB2 HK2 HK1 HB1 HQ HN1 HN2 HT2
  have HQ3 : Hid ((w3.alloc (.cells ZF 29 (0, 0))).heap[w3.heap.size]? = some (.cells ZF 29 (0, 0))) := heap_at _ _ _ rfl
  obtain ⟨i0, hi, hz0, hz1, hz2⟩ := info_parts Try.infoU8
  have hbq : Below w3.heap.size w3 ((w3.alloc (.cells ZF 29 (0, 0))).setRow w3.heap.size FL.toArray) := below_setRow ((Below.refl _ _).alloc (Nat.le_refl _) _) (Nat.le_refl _) _
  have HB4 : Hid (Below w.heap.size w ((w3.alloc (.cells ZF 29 (0, 0))).setRow w3.heap.size FL.toArray)) := HB3.out.trans (hbq.mono (by omega))
  have HN4 : Hid (((w3.alloc (.cells ZF 29 (0, 0))).setRow w3.heap.size FL.toArray).heap[w.heap.size + 1]? = some (.cells NL.toArray 35 (0, 0))) := (hbq.block _ (by omega)).trans HN3.out
  have HT4 : Hid (((w3.alloc (.cells ZF 29 (0, 0))).setRow w3.heap.size FL.toArray).heap[w1.heap.size]? = some (.cells TL.toArray 27 (0, 0))) := (hbq.block _ (by omega)).trans HT3.out
  have HF4 : Hid (((w3.alloc (.cells ZF 29 (0, 0))).setRow w3.heap.size FL.toArray).heap[w3.heap.size]? = some (.cells FL.toArray 29 (0, 0))) := setRow_heap _ _ _ _ _ _ HQ3.out
  have hs4 : ((w3.alloc (.cells ZF 29 (0, 0))).setRow w3.heap.size FL.toArray).heap.size = w3.heap.size + 1 := by simp
  clear hbq HB3 HN3 HT3
  go_wp2_with (first
    | (refine wpList_store_row rfl 29 _ _ rfl w3.heap.size FL.toArray rfl rfl 29 ZF HQ3.out HFI.out HZF.out HF1.out ?_)
    | (at_make; refine wpList_make_own _ rfl _ _ 36 rfl (w3.heap.size + 1) 5 i0 (.int .u8 0) 1 Try.underlying36 hi hz0 hz1 _ _ _ n rfl rfl (by omega) ?b2 ?b3 (by rw [hs4]; omega) ?_))
  case b2 => rw [hz2]; omega
  case b3 => unfold maxLen; omega
  generalize (w3.alloc (.cells ZF 29 (0, 0))).setRow w3.heap.size FL.toArray = w4 at *
  intro w5 hown hgrow
  have hb5 : Below (w3.heap.size + 1) w4 w5 := (Below.refl _ _).grown hgrow (by omega) (fun k h => by cases h)
  have hSW : SW w4 (w3.heap.size + 1) (w.heap.size + 1) w1.heap.size w3.heap.size NL TL FL (.slice (some ⟨w3.heap.size + 1, 0, none⟩) 0 n) ((C 0).take n) w5 := by
    rw [HC0.out, List.take_nil]
    exact ⟨rangeAt_row ((hb5.block _ (by omega)).trans HN4.out), rangeAt_row ((hb5.block _ (by omega)).trans HT4.out), rangeAt_row ((hb5.block _ (by omega)).trans HF4.out), hown, hb5, by have := hb5.size; omega⟩
  have HSW : Hid _ := hSW
  have hBB : w.heap.size ≤ w3.heap.size + 1 := by omega
  clear hown hgrow hb5 hSW HN4 HT4 HF4
  have q1 : IntKind.i64.wrap ((n : Int) + 16) = (n : Int) + 16 := wrap_i64_7 _ (by omega) (by omega)
  have q2 : IntKind.i64.wrap ((n : Int) + 16 - 1) = (n : Int) + 15 := by rw [wrap_i64_7 _ (by omega) (by omega)]; omega
  have q3 : Int.tdiv ((n : Int) + 15) 16 = (((n + 15) / 16 : Nat) : Int) := by rw [Int.tdiv_eq_ediv_of_nonneg (by omega)]; omega
  have q3' : ((n : Int) + 15) / 16 = (((n + 15) / 16 : Nat) : Int) := by omega
  obtain ⟨m, hm⟩ : ∃ m, m = (n + 15) / 16 := ⟨_, rfl⟩
  rw [← hm] at q3 q3' HSA
  have hm1 : 16 * m < n + 16 := by omega
  have hm2 : n ≤ 16 * m := by omega
  clear hm
  go_wp2
  generalize w3.heap.size = g9 at *
  generalize w1.heap.size = g8 at *
  go_loopw [10, 29] (fun v i wr => ∃ k : Nat, k ≤ m ∧ i = .int .i64 k ∧ SW w4 (g9 + 1) (w.heap.size + 1) g8 g9 NL TL FL v ((C k).take n) wr) (fun _ i _ => m - (intOf i).toNat)
  case atStart => exact ⟨0, by omega, rfl, HSW.out⟩
  case round =>
    clear HSW
    obtain ⟨k, hk, rfl, hM⟩ := hrel
    by_cases hlt : k < m
    · have hkI : (k : Int) < (m : Int) := by omega
      have hcs := HCS.out k (by omega)
      have hcl : ((C k).take n).length = 16 * k := by rw [List.length_take, HCL.out]; omega
      have hc1 := hct k (by omega)
      have he1 := hen' k
      have hbl := HBL.out k
      obtain ⟨BA, hBA⟩ : ∃ A, A = ((BB k).map B8).toArray := ⟨_, rfl⟩
      rw [← hBA] at he1
      have HBS : Hid (BA.size = 16) := by show _ = _; rw [hBA]; simp [hbl]
      have HBI : Hid _ := info16 BA HBS.out
      have HB1 : Hid (BA.all (·.oneCell') = true) := by show _ = _; rw [hBA]; exact B8_onea _
      have HBA : Hid _ := hBA
      generalize ctA nonce k = CT at *
      obtain ⟨c, hcm⟩ : ∃ c, c = min 16 (n - 16 * k) := ⟨_, rfl⟩
      rw [← hcm] at hcs
      have hc16 : c ≤ 16 := by omega
      have hnl : 16 * k + c ≤ n := by omega
      have hlen : ∃ p cp, u10 = .slice p (16 * k) cp := by
        obtain ⟨p, cp, h⟩ := hM.2.2.2.1.form'
        rw [hcl] at h
        exact ⟨p, cp, h⟩
      obtain ⟨pu, cu, rfl⟩ := hlen
      obtain ⟨r, hr⟩ : ∃ r, r = n - 16 * k := ⟨_, rfl⟩
      have q5 : IntKind.i64.wrap ((n : Int) - 16 * (k : Int)) = (r : Int) := by rw [wrap_i64_7 _ (by omega) (by omega)]; omega
      have q5' : (n : Int) - 16 * (k : Int) = (r : Int) := by omega
      have q6 : min (16 : Int) (r : Int) = (c : Int) := by omega
      have hr0 : (r : Int) ≤ 1048576 := by omega
      have hst := fun W g => sliceTo16 W g c hc16
      have HCSt : Hid _ := hcs
      have HHL : Hid (wr.drew.rangeAt (w.heap.size + 1) 0 NL) := hM.1
      have HSD : Hid (SW w4 (g9 + 1) (w.heap.size + 1) g8 g9 NL TL FL (.slice pu (16 * k) cu) ((C k).take n) wr.drew) := SW.below hM ((Below.refl _ _).drew)
      have HBLk : Hid _ := hbl
      have HCLk : Hid _ := hcl
      clear hM hBA hcs hcm hcl hbl HHL hr
      go_wp2
      refine wp_region_held_drew (S := SW w4 (g9 + 1) (w.heap.size + 1) g8 g9 NL TL FL (.slice pu (16 * k) cu) ((C k).take n)) (by kernel_rfl) HSD.out (fun hHeld => ?_)
      clear HSD
      generalize wr.drew = W at *
      refine wpAnyH_take (i := 0) (oi := { dst := some 32, op := Go.Op.load 29 (Go.Operand.tmp 9), type := 29, pos := _, after := #[], guard := none }) rfl (by kernel_rfl) (by kernel_rfl) (by kernel_rfl) (fun _ _ _ h => h) (yieldsIf_load_mid (by rfl) 29 (.tmp 9) rfl (g9) (0) rfl (FL) _ (fun _ h => h.2.2.1) huF rfl hiF) hHeld ?_
      try simp only [Act.put, List.setIfInBounds_toArray, List.set_cons_zero, List.set_cons_succ]
      refine wpAnyH_take (i := 1) (oi := { dst := some 33, op := Go.Op.load 35 (Go.Operand.tmp 4), type := 35, pos := _, after := #[], guard := none }) rfl (by kernel_rfl) (by kernel_rfl) (by kernel_rfl) (fun _ _ _ h => h) (yieldsIf_load_mid (by rfl) 35 (.tmp 4) rfl (w.heap.size + 1) (0) rfl (NL) _ (fun _ h => h.1) huN rfl hiN) hHeld ?_
      try simp only [Act.put, List.setIfInBounds_toArray, List.set_cons_zero, List.set_cons_succ]
      refine wpAnyH_take (i := 2) (oi := { dst := some 34, op := Go.Op.move (Go.Operand.tmp 11), type := 3, pos := _, after := #[], guard := none }) (v := .int .i64 (k : Int)) rfl (by kernel_rfl) (by kernel_rfl) (by kernel_rfl) (fun _ _ _ h => h) (Or.inl ⟨by rfl, fun w' hw' => ?_⟩) hHeld ?_
      · first | (go_simp; done) | (go_simp; rfl)
      try simp only [Act.put, List.setIfInBounds_toArray, List.set_cons_zero, List.set_cons_succ]
      refine wpAnyH_take (i := 4) (oi := { dst := some 36, op := Go.Op.load 27 (Go.Operand.tmp 8), type := 27, pos := _, after := #[], guard := none }) rfl (by kernel_rfl) (by kernel_rfl) (by kernel_rfl) (fun _ _ _ h => h) (yieldsIf_load_mid (by rfl) 27 (.tmp 8) rfl (g8) (0) rfl (TL) _ (fun _ h => h.2.1) huT rfl hiT) hHeld ?_
      try simp only [Act.put, List.setIfInBounds_toArray, List.set_cons_zero, List.set_cons_succ]
      refine wpAnyH_ready (rs := [3, 6]) (by kernel_rfl) (by simp) ?_
      refine AllReadyH.cons (o := { dst := some 35, op := Go.Op.call { callee := Go.Callee.value (Go.Operand.func 44), args := #[Go.Operand.tmp 33, Go.Operand.tmp 34], argTypes := #[35, 3] }, type := 26, pos := _, after := #[{ on := 1, ground := Go.Ground.data }, { on := 2, ground := Go.Ground.data }], guard := none }) rfl (fun K hK => ?_) (AllReadyH.cons (o := { dst := some 12, op := Go.Op.alloc 26, type := 0, pos := _, after := #[], guard := none }) rfl (fun K hK => ?_) AllReadyH.nil)
      all_goals rw [if_pos (by rfl)]
      · go_wp2_with fail
        refine (hc1 _).mono ?_
        rintro e W3 ⟨rfl, hb⟩
        have hHeld := SW.below hHeld hb
        clear hb
        refine hK.out _ _ hHeld (fun _ => ?_)
        clear hK K
        try simp only [Act.put, List.setIfInBounds_toArray, List.set_cons_zero, List.set_cons_succ]
        refine wpAnyH_ready (rs := [5, 6]) (by kernel_rfl) (by simp) ?_
        refine AllReadyH.cons (o := { dst := some 37, op := Go.Op.call { callee := Go.Callee.value (Go.Operand.func 36), args := #[Go.Operand.tmp 32, Go.Operand.tmp 35, Go.Operand.tmp 36], argTypes := #[29, 26, 27] }, type := 26, pos := _, after := #[{ on := 0, ground := Go.Ground.data }, { on := 3, ground := Go.Ground.data }, { on := 4, ground := Go.Ground.data }, { on := 3, ground := Go.Ground.chain }], guard := none }) rfl (fun K hK => ?_) (AllReadyH.cons (o := { dst := some 12, op := Go.Op.alloc 26, type := 0, pos := _, after := #[], guard := none }) rfl (fun K hK => ?_) AllReadyH.nil)
        all_goals rw [if_pos (by rfl)]
        · go_wp2_with fail
          refine (he1 _).mono ?_
          rintro e W5 ⟨rfl, hb⟩
          have hHeld := SW.below hHeld hb
          clear hb
          refine hK.out _ _ hHeld (fun _ => ?_)
          clear hK K
          try simp only [Act.put, List.setIfInBounds_toArray, List.set_cons_zero, List.set_cons_succ]
          refine wpAnyH_ready (rs := [6]) (by kernel_rfl) (by simp) ?_
          refine AllReadyH.cons (o := { dst := some 12, op := Go.Op.alloc 26, type := 0, pos := _, after := #[], guard := none }) rfl (fun K hK => ?_) AllReadyH.nil
          rw [if_pos (by rfl)]
          go_wp2_with fail
          obtain ⟨W6, hW6⟩ : ∃ X, X = W5.alloc (.cells ZA 26 (0, 0)) := ⟨_, rfl⟩
          obtain ⟨g6, hgE6⟩ : ∃ x, x = W5.heap.size := ⟨_, rfl⟩
          have hb : Below (W5).heap.size W5 W6 := by rw [hW6]; exact (Below.refl _ _).alloc (Nat.le_refl _) _
          have HG6 : Hid (W6.heap[g6]? = some (.cells ZA 26 (0, 0))) := by show _ = _; rw [hW6, hgE6]; exact heap_at _ _ _ rfl
          have hg6 : g9 < g6 := by rw [hgE6]; exact hHeld.2.2.2.2.2
          have HGB : Hid (∀ X : World, Below g6 W5 X → SW w4 (g9 + 1) (w.heap.size + 1) g8 g9 NL TL FL (.slice pu (16 * k) cu) ((C k).take n) X) := fun X hX => SW.row hHeld hX hgE6.symm
          have HG0 : Hid (Below g6 W5 W6) := by rw [hgE6]; exact hb
          have hHeld := SW.below hHeld hb
          rw [← hW6, ← hgE6]
          clear hb hW6 hgE6
          have W6c : Hid (∃ X : World, X = W6) := ⟨_, rfl⟩
          obtain ⟨WC, hWC⟩ := W6c.out
          subst hWC
          refine hK.out _ _ hHeld (fun _ => ?_)
          clear hK K
          try simp only [Act.put, List.setIfInBounds_toArray, List.set_cons_zero, List.set_cons_succ]
          refine wpAnyH_ready (rs := [7]) (by kernel_rfl) (by simp) ?_
          refine AllReadyH.cons (o := { dst := none, op := Go.Op.store 26 (Go.Operand.tmp 12) (Go.Operand.tmp 37), type := 0, pos := _, after := #[{ on := 6, ground := Go.Ground.data }, { on := 5, ground := Go.Ground.data }, { on := 5, ground := Go.Ground.chain }, { on := 0, ground := Go.Ground.phase }, { on := 1, ground := Go.Ground.phase }, { on := 2, ground := Go.Ground.phase }, { on := 3, ground := Go.Ground.phase }, { on := 4, ground := Go.Ground.phase }, { on := 5, ground := Go.Ground.phase }, { on := 6, ground := Go.Ground.phase }], guard := none }) rfl (fun K hK => ?_) AllReadyH.nil
          rw [if_pos (by rfl)]
          refine wp_store_row 26 _ _ rfl g6 BA rfl rfl 26 _ HG6.out HBI.out (HZS.out.trans HBS.out.symm) HB1.out ?_
          have hHeld := HGB.out _ (below_setRow HG0.out (Nat.le_refl _) BA)
          refine hK.out _ _ hHeld (fun _ => ?_)
          clear hK K
          try simp only [Act.put, List.setIfInBounds_toArray, List.set_cons_zero, List.set_cons_succ]
          refine wpAnyH_done (by kernel_rfl) ?_ _
          have hrow := setRow_heap _ _ _ BA _ _ HG6.out
          have HSX : Hid _ := hHeld
          have HNW : Hid (∀ j u, (((BB k).take c).map B8)[j]? = some u → (WC.setRow g6 BA).cell? ((⟨g6, 0, none⟩ : Addr).add j) = some u) := fun j u hu => by
            have e : (⟨g6, 0, none⟩ : Addr).add j = ⟨g6, j, none⟩ := by unfold Addr.add; split <;> simp_all
            rw [e, cell_of_row _ _ j _ _ _ hrow, HBA.out]
            simp only [List.getElem?_toArray]
            rw [List.map_take, List.getElem?_take] at hu
            by_cases hj : j < c
            · rw [if_pos hj] at hu; exact hu
            · rw [if_neg hj] at hu; cases hu
          have hnl2 : (((BB k).take c).map B8).length = c := by rw [List.length_map, List.length_take, HBLk.out]; omega
          have HNL2 : Hid _ := hnl2
          have hs6 := hst (WC.setRow g6 BA) g6
          have hszx := HSX.out.2.2.2.2.2
          clear hHeld hrow HG6 HG0 HGB hst hnl2
          generalize WC.setRow g6 BA = WX at *
          by_cases hr16 : 16 ≤ r
          · have hrI : (16 : Int) ≤ (r : Int) := by omega
            obtain rfl : c = 16 := by omega
            rw [show ((16 : Nat) : Int) = 16 from rfl] at hs6
            clear q6
            go_wp2_with (at_builtin; refine wpList_append_own _ rfl (.tmp 38) (.tmp 44) 36 rfl (g9 + 1) 5 i0 (.int .u8 0) 1 1 Try.underlying36 hi hz0 hz1 hz2 rfl (by decide) (.slice pu (16 * k) cu) _ _ rfl (by exact HSX.out.2.2.2.1) ⟨g6, 0, none⟩ 16 16 (((BB k).take 16).map B8) rfl (by rw [HNL2.out, Nat.mul_one]) (by exact HNW.out) (B8_one' _) (by rw [HCLk.out]; unfold maxLen; omega) (by rw [HCLk.out]; omega) hszx ?_; intro v1 w6 hown1 hgr1 hn1)
            have HFIN : Hid (SW w4 (g9 + 1) (w.heap.size + 1) g8 g9 NL TL FL v1 ((C (k + 1)).take n) w6) := by
              obtain ⟨a1, a2, a3, a4, a5, a6⟩ := HSX.out
              have hb6 : Below (g9 + 1) WX w6 := (Below.refl _ _).grown hgr1 a6 (fun j hj => (a4.lt j hj).1)
              refine ⟨fun j u hu => (hb6.cell (by show w.heap.size + 1 < g9 + 1; omega)).trans (a1 j u hu), fun j u hu => (hb6.cell (by show g8 < g9 + 1; omega)).trans (a2 j u hu), fun j u hu => (hb6.cell (by show g9 < g9 + 1; omega)).trans (a3 j u hu), ?_, a5.trans hb6, Nat.le_trans a6 hb6.size⟩
              show w6.ownsRow _ _ _ _ _ _
              rw [HCSt.out, List.length_append, List.length_take (l := BB k), HBLk.out, Nat.min_eq_left hc16, List.map_append]
              exact hown1
            clear hown1 hgr1 hn1 HSX
            go_wp2
            go_roundw
            case rel => exact ⟨k + 1, by omega, by go_num, HFIN.out⟩
            case measure => simp [intOf]; omega
          · have hrI : ¬ (16 : Int) ≤ (r : Int) := by omega
            obtain rfl : c = r := by omega
            clear q6
            go_wp2_with (at_builtin; refine wpList_append_own _ rfl (.tmp 38) (.tmp 44) 36 rfl (g9 + 1) 5 i0 (.int .u8 0) 1 1 Try.underlying36 hi hz0 hz1 hz2 rfl (by decide) (.slice pu (16 * k) cu) _ _ rfl (by exact HSX.out.2.2.2.1) ⟨g6, 0, none⟩ c 16 (((BB k).take c).map B8) rfl (by rw [HNL2.out, Nat.mul_one]) (by exact HNW.out) (B8_one' _) (by rw [HCLk.out]; unfold maxLen; omega) (by rw [HCLk.out]; omega) hszx ?_; intro v1 w6 hown1 hgr1 hn1)
            have HFIN : Hid (SW w4 (g9 + 1) (w.heap.size + 1) g8 g9 NL TL FL v1 ((C (k + 1)).take n) w6) := by
              obtain ⟨a1, a2, a3, a4, a5, a6⟩ := HSX.out
              have hb6 : Below (g9 + 1) WX w6 := (Below.refl _ _).grown hgr1 a6 (fun j hj => (a4.lt j hj).1)
              refine ⟨fun j u hu => (hb6.cell (by show w.heap.size + 1 < g9 + 1; omega)).trans (a1 j u hu), fun j u hu => (hb6.cell (by show g8 < g9 + 1; omega)).trans (a2 j u hu), fun j u hu => (hb6.cell (by show g9 < g9 + 1; omega)).trans (a3 j u hu), ?_, a5.trans hb6, Nat.le_trans a6 hb6.size⟩
              show w6.ownsRow _ _ _ _ _ _
              rw [HCSt.out, List.length_append, List.length_take (l := BB k), HBLk.out, Nat.min_eq_left hc16, List.map_append]
              exact hown1
            clear hown1 hgr1 hn1 HSX
            go_wp2
            go_roundw
            case rel => exact ⟨k + 1, by omega, by go_num, HFIN.out⟩
            case measure => simp [intOf]; omega
        · have hk0 := hlt
          go_wp2_with fail
          obtain ⟨W6, hW6⟩ : ∃ X, X = W3.alloc (.cells ZA 26 (0, 0)) := ⟨_, rfl⟩
          obtain ⟨g6, hgE6⟩ : ∃ x, x = W3.heap.size := ⟨_, rfl⟩
          have hb : Below (W3).heap.size W3 W6 := by rw [hW6]; exact (Below.refl _ _).alloc (Nat.le_refl _) _
          have HG6 : Hid (W6.heap[g6]? = some (.cells ZA 26 (0, 0))) := by show _ = _; rw [hW6, hgE6]; exact heap_at _ _ _ rfl
          have hg6 : g9 < g6 := by rw [hgE6]; exact hHeld.2.2.2.2.2
          have HGB : Hid (∀ X : World, Below g6 W3 X → SW w4 (g9 + 1) (w.heap.size + 1) g8 g9 NL TL FL (.slice pu (16 * k) cu) ((C k).take n) X) := fun X hX => SW.row hHeld hX hgE6.symm
          have HG0 : Hid (Below g6 W3 W6) := by rw [hgE6]; exact hb
          have hHeld := SW.below hHeld hb
          rw [← hW6, ← hgE6]
          clear hb hW6 hgE6
          have W6c : Hid (∃ X : World, X = W6) := ⟨_, rfl⟩
          obtain ⟨WC, hWC⟩ := W6c.out
          subst hWC
          refine hK.out _ _ hHeld (fun _ => ?_)
          clear hK K
          try simp only [Act.put, List.setIfInBounds_toArray, List.set_cons_zero, List.set_cons_succ]
          refine wpAnyH_ready (rs := [5]) (by kernel_rfl) (by simp) ?_
          refine AllReadyH.cons (o := { dst := some 37, op := Go.Op.call { callee := Go.Callee.value (Go.Operand.func 36), args := #[Go.Operand.tmp 32, Go.Operand.tmp 35, Go.Operand.tmp 36], argTypes := #[29, 26, 27] }, type := 26, pos := _, after := #[{ on := 0, ground := Go.Ground.data }, { on := 3, ground := Go.Ground.data }, { on := 4, ground := Go.Ground.data }, { on := 3, ground := Go.Ground.chain }], guard := none }) rfl (fun K hK => ?_) AllReadyH.nil
          rw [if_pos (by rfl)]
          go_wp2_with fail
          refine (he1 _).mono ?_
          rintro e W5 ⟨rfl, hb⟩
          have hHeld := SW.below hHeld hb
          have HG6' : Hid (W5.heap[g6]? = some (.cells ZA 26 (0, 0))) := (hb.block _ (row_lt HG6.out)).trans HG6.out
          have HG0' : Hid (Below g6 _ W5) := HG0.out.trans (hb.mono (Nat.le_of_lt (row_lt HG6.out)))
          clear HG6 HG0
          have HG6 : Hid _ := HG6'.out
          have HG0 : Hid _ := HG0'.out
          clear hb HG6' HG0'
          obtain ⟨WC, hWC⟩ : ∃ X : World, X = W5 := ⟨_, rfl⟩
          subst hWC
          refine hK.out _ _ hHeld (fun _ => ?_)
          clear hK K
          try simp only [Act.put, List.setIfInBounds_toArray, List.set_cons_zero, List.set_cons_succ]
          refine wpAnyH_ready (rs := [7]) (by kernel_rfl) (by simp) ?_
          refine AllReadyH.cons (o := { dst := none, op := Go.Op.store 26 (Go.Operand.tmp 12) (Go.Operand.tmp 37), type := 0, pos := _, after := #[{ on := 6, ground := Go.Ground.data }, { on := 5, ground := Go.Ground.data }, { on := 5, ground := Go.Ground.chain }, { on := 0, ground := Go.Ground.phase }, { on := 1, ground := Go.Ground.phase }, { on := 2, ground := Go.Ground.phase }, { on := 3, ground := Go.Ground.phase }, { on := 4, ground := Go.Ground.phase }, { on := 5, ground := Go.Ground.phase }, { on := 6, ground := Go.Ground.phase }], guard := none }) rfl (fun K hK => ?_) AllReadyH.nil
          rw [if_pos (by rfl)]
          refine wp_store_row 26 _ _ rfl g6 BA rfl rfl 26 _ HG6.out HBI.out (HZS.out.trans HBS.out.symm) HB1.out ?_
          have hHeld := HGB.out _ (below_setRow HG0.out (Nat.le_refl _) BA)
          refine hK.out _ _ hHeld (fun _ => ?_)
          clear hK K
          try simp only [Act.put, List.setIfInBounds_toArray, List.set_cons_zero, List.set_cons_succ]
          refine wpAnyH_done (by kernel_rfl) ?_ _
          have hrow := setRow_heap _ _ _ BA _ _ HG6.out
          have HSX : Hid _ := hHeld
          have HNW : Hid (∀ j u, (((BB k).take c).map B8)[j]? = some u → (WC.setRow g6 BA).cell? ((⟨g6, 0, none⟩ : Addr).add j) = some u) := fun j u hu => by
            have e : (⟨g6, 0, none⟩ : Addr).add j = ⟨g6, j, none⟩ := by unfold Addr.add; split <;> simp_all
            rw [e, cell_of_row _ _ j _ _ _ hrow, HBA.out]
            simp only [List.getElem?_toArray]
            rw [List.map_take, List.getElem?_take] at hu
            by_cases hj : j < c
            · rw [if_pos hj] at hu; exact hu
            · rw [if_neg hj] at hu; cases hu
          have hnl2 : (((BB k).take c).map B8).length = c := by rw [List.length_map, List.length_take, HBLk.out]; omega
          have HNL2 : Hid _ := hnl2
          have hs6 := hst (WC.setRow g6 BA) g6
          have hszx := HSX.out.2.2.2.2.2
          clear hHeld hrow HG6 HG0 HGB hst hnl2
          generalize WC.setRow g6 BA = WX at *
          by_cases hr16 : 16 ≤ r
          · have hrI : (16 : Int) ≤ (r : Int) := by omega
            obtain rfl : c = 16 := by omega
            rw [show ((16 : Nat) : Int) = 16 from rfl] at hs6
            clear q6
            go_wp2_with (at_builtin; refine wpList_append_own _ rfl (.tmp 38) (.tmp 44) 36 rfl (g9 + 1) 5 i0 (.int .u8 0) 1 1 Try.underlying36 hi hz0 hz1 hz2 rfl (by decide) (.slice pu (16 * k) cu) _ _ rfl (by exact HSX.out.2.2.2.1) ⟨g6, 0, none⟩ 16 16 (((BB k).take 16).map B8) rfl (by rw [HNL2.out, Nat.mul_one]) (by exact HNW.out) (B8_one' _) (by rw [HCLk.out]; unfold maxLen; omega) (by rw [HCLk.out]; omega) hszx ?_; intro v1 w6 hown1 hgr1 hn1)
            have HFIN : Hid (SW w4 (g9 + 1) (w.heap.size + 1) g8 g9 NL TL FL v1 ((C (k + 1)).take n) w6) := by
              obtain ⟨a1, a2, a3, a4, a5, a6⟩ := HSX.out
              have hb6 : Below (g9 + 1) WX w6 := (Below.refl _ _).grown hgr1 a6 (fun j hj => (a4.lt j hj).1)
              refine ⟨fun j u hu => (hb6.cell (by show w.heap.size + 1 < g9 + 1; omega)).trans (a1 j u hu), fun j u hu => (hb6.cell (by show g8 < g9 + 1; omega)).trans (a2 j u hu), fun j u hu => (hb6.cell (by show g9 < g9 + 1; omega)).trans (a3 j u hu), ?_, a5.trans hb6, Nat.le_trans a6 hb6.size⟩
              show w6.ownsRow _ _ _ _ _ _
              rw [HCSt.out, List.length_append, List.length_take (l := BB k), HBLk.out, Nat.min_eq_left hc16, List.map_append]
              exact hown1
            clear hown1 hgr1 hn1 HSX
            go_wp2
            go_roundw
            case rel => exact ⟨k + 1, by omega, by go_num, HFIN.out⟩
            case measure => simp [intOf]; omega
          · have hrI : ¬ (16 : Int) ≤ (r : Int) := by omega
            obtain rfl : c = r := by omega
            clear q6
            go_wp2_with (at_builtin; refine wpList_append_own _ rfl (.tmp 38) (.tmp 44) 36 rfl (g9 + 1) 5 i0 (.int .u8 0) 1 1 Try.underlying36 hi hz0 hz1 hz2 rfl (by decide) (.slice pu (16 * k) cu) _ _ rfl (by exact HSX.out.2.2.2.1) ⟨g6, 0, none⟩ c 16 (((BB k).take c).map B8) rfl (by rw [HNL2.out, Nat.mul_one]) (by exact HNW.out) (B8_one' _) (by rw [HCLk.out]; unfold maxLen; omega) (by rw [HCLk.out]; omega) hszx ?_; intro v1 w6 hown1 hgr1 hn1)
            have HFIN : Hid (SW w4 (g9 + 1) (w.heap.size + 1) g8 g9 NL TL FL v1 ((C (k + 1)).take n) w6) := by
              obtain ⟨a1, a2, a3, a4, a5, a6⟩ := HSX.out
              have hb6 : Below (g9 + 1) WX w6 := (Below.refl _ _).grown hgr1 a6 (fun j hj => (a4.lt j hj).1)
              refine ⟨fun j u hu => (hb6.cell (by show w.heap.size + 1 < g9 + 1; omega)).trans (a1 j u hu), fun j u hu => (hb6.cell (by show g8 < g9 + 1; omega)).trans (a2 j u hu), fun j u hu => (hb6.cell (by show g9 < g9 + 1; omega)).trans (a3 j u hu), ?_, a5.trans hb6, Nat.le_trans a6 hb6.size⟩
              show w6.ownsRow _ _ _ _ _ _
              rw [HCSt.out, List.length_append, List.length_take (l := BB k), HBLk.out, Nat.min_eq_left hc16, List.map_append]
              exact hown1
            clear hown1 hgr1 hn1 HSX
            go_wp2
            go_roundw
            case rel => exact ⟨k + 1, by omega, by go_num, HFIN.out⟩
            case measure => simp [intOf]; omega
      · have hk0 := hlt
        go_wp2_with fail
        obtain ⟨W6, hW6⟩ : ∃ X, X = W.alloc (.cells ZA 26 (0, 0)) := ⟨_, rfl⟩
        obtain ⟨g6, hgE6⟩ : ∃ x, x = W.heap.size := ⟨_, rfl⟩
        have hb : Below (W).heap.size W W6 := by rw [hW6]; exact (Below.refl _ _).alloc (Nat.le_refl _) _
        have HG6 : Hid (W6.heap[g6]? = some (.cells ZA 26 (0, 0))) := by show _ = _; rw [hW6, hgE6]; exact heap_at _ _ _ rfl
        have hg6 : g9 < g6 := by rw [hgE6]; exact hHeld.2.2.2.2.2
        have HGB : Hid (∀ X : World, Below g6 W X → SW w4 (g9 + 1) (w.heap.size + 1) g8 g9 NL TL FL (.slice pu (16 * k) cu) ((C k).take n) X) := fun X hX => SW.row hHeld hX hgE6.symm
        have HG0 : Hid (Below g6 W W6) := by rw [hgE6]; exact hb
        have hHeld := SW.below hHeld hb
        rw [← hW6, ← hgE6]
        clear hb hW6 hgE6
        have W6c : Hid (∃ X : World, X = W6) := ⟨_, rfl⟩
        obtain ⟨WC, hWC⟩ := W6c.out
        subst hWC
        refine hK.out _ _ hHeld (fun _ => ?_)
        clear hK K
        try simp only [Act.put, List.setIfInBounds_toArray, List.set_cons_zero, List.set_cons_succ]
        refine wpAnyH_ready (rs := [3]) (by kernel_rfl) (by simp) ?_
        refine AllReadyH.cons (o := { dst := some 35, op := Go.Op.call { callee := Go.Callee.value (Go.Operand.func 44), args := #[Go.Operand.tmp 33, Go.Operand.tmp 34], argTypes := #[35, 3] }, type := 26, pos := _, after := #[{ on := 1, ground := Go.Ground.data }, { on := 2, ground := Go.Ground.data }], guard := none }) rfl (fun K hK => ?_) AllReadyH.nil
        rw [if_pos (by rfl)]
        go_wp2_with fail
        refine (hc1 _).mono ?_
        rintro e W3 ⟨rfl, hb⟩
        have hHeld := SW.below hHeld hb
        have HG6' : Hid (W3.heap[g6]? = some (.cells ZA 26 (0, 0))) := (hb.block _ (row_lt HG6.out)).trans HG6.out
        have HG0' : Hid (Below g6 _ W3) := HG0.out.trans (hb.mono (Nat.le_of_lt (row_lt HG6.out)))
        clear HG6 HG0
        have HG6 : Hid _ := HG6'.out
        have HG0 : Hid _ := HG0'.out
        clear hb HG6' HG0'
        obtain ⟨WC, hWC⟩ : ∃ X : World, X = W3 := ⟨_, rfl⟩
        subst hWC
        refine hK.out _ _ hHeld (fun _ => ?_)
        clear hK K
        try simp only [Act.put, List.setIfInBounds_toArray, List.set_cons_zero, List.set_cons_succ]
        refine wpAnyH_ready (rs := [5]) (by kernel_rfl) (by simp) ?_
        refine AllReadyH.cons (o := { dst := some 37, op := Go.Op.call { callee := Go.Callee.value (Go.Operand.func 36), args := #[Go.Operand.tmp 32, Go.Operand.tmp 35, Go.Operand.tmp 36], argTypes := #[29, 26, 27] }, type := 26, pos := _, after := #[{ on := 0, ground := Go.Ground.data }, { on := 3, ground := Go.Ground.data }, { on := 4, ground := Go.Ground.data }, { on := 3, ground := Go.Ground.chain }], guard := none }) rfl (fun K hK => ?_) AllReadyH.nil
        rw [if_pos (by rfl)]
        go_wp2_with fail
        refine (he1 _).mono ?_
        rintro e W5 ⟨rfl, hb⟩
        have hHeld := SW.below hHeld hb
        have HG6' : Hid (W5.heap[g6]? = some (.cells ZA 26 (0, 0))) := (hb.block _ (row_lt HG6.out)).trans HG6.out
        have HG0' : Hid (Below g6 _ W5) := HG0.out.trans (hb.mono (Nat.le_of_lt (row_lt HG6.out)))
        clear HG6 HG0
        have HG6 : Hid _ := HG6'.out
        have HG0 : Hid _ := HG0'.out
        clear hb HG6' HG0'
        obtain ⟨WC, hWC⟩ : ∃ X : World, X = W5 := ⟨_, rfl⟩
        subst hWC
        refine hK.out _ _ hHeld (fun _ => ?_)
        clear hK K
        try simp only [Act.put, List.setIfInBounds_toArray, List.set_cons_zero, List.set_cons_succ]
        refine wpAnyH_ready (rs := [7]) (by kernel_rfl) (by simp) ?_
        refine AllReadyH.cons (o := { dst := none, op := Go.Op.store 26 (Go.Operand.tmp 12) (Go.Operand.tmp 37), type := 0, pos := _, after := #[{ on := 6, ground := Go.Ground.data }, { on := 5, ground := Go.Ground.data }, { on := 5, ground := Go.Ground.chain }, { on := 0, ground := Go.Ground.phase }, { on := 1, ground := Go.Ground.phase }, { on := 2, ground := Go.Ground.phase }, { on := 3, ground := Go.Ground.phase }, { on := 4, ground := Go.Ground.phase }, { on := 5, ground := Go.Ground.phase }, { on := 6, ground := Go.Ground.phase }], guard := none }) rfl (fun K hK => ?_) AllReadyH.nil
        rw [if_pos (by rfl)]
        refine wp_store_row 26 _ _ rfl g6 BA rfl rfl 26 _ HG6.out HBI.out (HZS.out.trans HBS.out.symm) HB1.out ?_
        have hHeld := HGB.out _ (below_setRow HG0.out (Nat.le_refl _) BA)
        refine hK.out _ _ hHeld (fun _ => ?_)
        clear hK K
        try simp only [Act.put, List.setIfInBounds_toArray, List.set_cons_zero, List.set_cons_succ]
        refine wpAnyH_done (by kernel_rfl) ?_ _
        have hrow := setRow_heap _ _ _ BA _ _ HG6.out
        have HSX : Hid _ := hHeld
        have HNW : Hid (∀ j u, (((BB k).take c).map B8)[j]? = some u → (WC.setRow g6 BA).cell? ((⟨g6, 0, none⟩ : Addr).add j) = some u) := fun j u hu => by
          have e : (⟨g6, 0, none⟩ : Addr).add j = ⟨g6, j, none⟩ := by unfold Addr.add; split <;> simp_all
          rw [e, cell_of_row _ _ j _ _ _ hrow, HBA.out]
          simp only [List.getElem?_toArray]
          rw [List.map_take, List.getElem?_take] at hu
          by_cases hj : j < c
          · rw [if_pos hj] at hu; exact hu
          · rw [if_neg hj] at hu; cases hu
        have hnl2 : (((BB k).take c).map B8).length = c := by rw [List.length_map, List.length_take, HBLk.out]; omega
        have HNL2 : Hid _ := hnl2
        have hs6 := hst (WC.setRow g6 BA) g6
        have hszx := HSX.out.2.2.2.2.2
        clear hHeld hrow HG6 HG0 HGB hst hnl2
        generalize WC.setRow g6 BA = WX at *
        by_cases hr16 : 16 ≤ r
        · have hrI : (16 : Int) ≤ (r : Int) := by omega
          obtain rfl : c = 16 := by omega
          rw [show ((16 : Nat) : Int) = 16 from rfl] at hs6
          clear q6
          go_wp2_with (at_builtin; refine wpList_append_own _ rfl (.tmp 38) (.tmp 44) 36 rfl (g9 + 1) 5 i0 (.int .u8 0) 1 1 Try.underlying36 hi hz0 hz1 hz2 rfl (by decide) (.slice pu (16 * k) cu) _ _ rfl (by exact HSX.out.2.2.2.1) ⟨g6, 0, none⟩ 16 16 (((BB k).take 16).map B8) rfl (by rw [HNL2.out, Nat.mul_one]) (by exact HNW.out) (B8_one' _) (by rw [HCLk.out]; unfold maxLen; omega) (by rw [HCLk.out]; omega) hszx ?_; intro v1 w6 hown1 hgr1 hn1)
          have HFIN : Hid (SW w4 (g9 + 1) (w.heap.size + 1) g8 g9 NL TL FL v1 ((C (k + 1)).take n) w6) := by
            obtain ⟨a1, a2, a3, a4, a5, a6⟩ := HSX.out
            have hb6 : Below (g9 + 1) WX w6 := (Below.refl _ _).grown hgr1 a6 (fun j hj => (a4.lt j hj).1)
            refine ⟨fun j u hu => (hb6.cell (by show w.heap.size + 1 < g9 + 1; omega)).trans (a1 j u hu), fun j u hu => (hb6.cell (by show g8 < g9 + 1; omega)).trans (a2 j u hu), fun j u hu => (hb6.cell (by show g9 < g9 + 1; omega)).trans (a3 j u hu), ?_, a5.trans hb6, Nat.le_trans a6 hb6.size⟩
            show w6.ownsRow _ _ _ _ _ _
            rw [HCSt.out, List.length_append, List.length_take (l := BB k), HBLk.out, Nat.min_eq_left hc16, List.map_append]
            exact hown1
          clear hown1 hgr1 hn1 HSX
          go_wp2
          go_roundw
          case rel => exact ⟨k + 1, by omega, by go_num, HFIN.out⟩
          case measure => simp [intOf]; omega
        · have hrI : ¬ (16 : Int) ≤ (r : Int) := by omega
          obtain rfl : c = r := by omega
          clear q6
          go_wp2_with (at_builtin; refine wpList_append_own _ rfl (.tmp 38) (.tmp 44) 36 rfl (g9 + 1) 5 i0 (.int .u8 0) 1 1 Try.underlying36 hi hz0 hz1 hz2 rfl (by decide) (.slice pu (16 * k) cu) _ _ rfl (by exact HSX.out.2.2.2.1) ⟨g6, 0, none⟩ c 16 (((BB k).take c).map B8) rfl (by rw [HNL2.out, Nat.mul_one]) (by exact HNW.out) (B8_one' _) (by rw [HCLk.out]; unfold maxLen; omega) (by rw [HCLk.out]; omega) hszx ?_; intro v1 w6 hown1 hgr1 hn1)
          have HFIN : Hid (SW w4 (g9 + 1) (w.heap.size + 1) g8 g9 NL TL FL v1 ((C (k + 1)).take n) w6) := by
            obtain ⟨a1, a2, a3, a4, a5, a6⟩ := HSX.out
            have hb6 : Below (g9 + 1) WX w6 := (Below.refl _ _).grown hgr1 a6 (fun j hj => (a4.lt j hj).1)
            refine ⟨fun j u hu => (hb6.cell (by show w.heap.size + 1 < g9 + 1; omega)).trans (a1 j u hu), fun j u hu => (hb6.cell (by show g8 < g9 + 1; omega)).trans (a2 j u hu), fun j u hu => (hb6.cell (by show g9 < g9 + 1; omega)).trans (a3 j u hu), ?_, a5.trans hb6, Nat.le_trans a6 hb6.size⟩
            show w6.ownsRow _ _ _ _ _ _
            rw [HCSt.out, List.length_append, List.length_take (l := BB k), HBLk.out, Nat.min_eq_left hc16, List.map_append]
            exact hown1
          clear hown1 hgr1 hn1 HSX
          go_wp2
          go_roundw
          case rel => exact ⟨k + 1, by omega, by go_num, HFIN.out⟩
          case measure => simp [intOf]; omega
    · have hkm : k = m := by omega
      have hkI : ¬ (k : Int) < (m : Int) := by omega
      rw [hkm, ← HSA.out] at hM
      have HFIN : Hid (FB w.heap.size wr u10 R ∧ Below w.heap.size w wr) := ⟨hM.2.2.2.1.lower hBB, HB4.out.trans (hM.2.2.2.2.1.mono hBB)⟩
      clear hM hkm
      go_wp2
      go_ret2
      exact ⟨_, rfl, HFIN.out.1, HFIN.out.2⟩

end Go.Proofs.Ytjohckgdbbhpdaa
