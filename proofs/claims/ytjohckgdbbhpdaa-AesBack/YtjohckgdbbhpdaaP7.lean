/- Contracts of aes's encipher, Encipher, Expand. -/
import Derived.Test.YtjohckgdbbhpdaaO7
set_option linter.unusedVariables false
set_option linter.unusedSimpArgs false
namespace Go.Proofs.Ytjohckgdbbhpdaa
open Go.RowKit

theorem x4_1 (a b c d : UInt8) : 0 ^^^ b ^^^ c ^^^ d ^^^ a = 0 ^^^ a ^^^ b ^^^ c ^^^ d := by
  rw [x8_comm (0 ^^^ b ^^^ c ^^^ d) a, x8_comm 0 b, x8_zero, x8_comm 0 a, x8_zero, ← x8_assoc a (b ^^^ c) d, ← x8_assoc a b c]
theorem colA_get (s : List UInt8) (c i : Nat) (hs : s.length = 16) (hc : c < 4) (hi : i < 4) : (colA s c).getD i 0 = s.getD (4 * c + i) 0 := by
  have h1 : i < (colA s c).length := by rw [colA_len s c hs hc]; exact hi
  have h2 : 4 * c + i < s.length := by omega
  have := colA_at s c i h1 h2
  simp only [List.getD, List.getElem?_eq_getElem h1, List.getElem?_eq_getElem h2, Option.getD_some]
  exact this
theorem mcS_mxS (s f : List UInt8) (c r : Nat) (hs : s.length = 16) (hc : c < 4) (hr : r < 4) : mcS (colA s c) f r 4 = mxS s f c r 4 := by
  show 0 ^^^ tmP ((colA s c).getD ((r + 0) % 4) 0) (f.getD 0 0) ^^^ tmP ((colA s c).getD ((r + 1) % 4) 0) (f.getD 1 0) ^^^ tmP ((colA s c).getD ((r + 2) % 4) 0) (f.getD 2 0) ^^^ tmP ((colA s c).getD ((r + 3) % 4) 0) (f.getD 3 0) = 0 ^^^ tmA (s.getD (4 * c + 0) 0) (f.getD ((0 + 4 - r) % 4) 0) ^^^ tmA (s.getD (4 * c + 1) 0) (f.getD ((1 + 4 - r) % 4) 0) ^^^ tmA (s.getD (4 * c + 2) 0) (f.getD ((2 + 4 - r) % 4) 0) ^^^ tmA (s.getD (4 * c + 3) 0) (f.getD ((3 + 4 - r) % 4) 0)
  rw [colA_get s c _ hs hc (by omega), colA_get s c _ hs hc (by omega), colA_get s c _ hs hc (by omega), colA_get s c _ hs hc (by omega)]
  simp only [tmA_tmP]
  obtain rfl | rfl | rfl | rfl : r = 0 ∨ r = 1 ∨ r = 2 ∨ r = 3 := by omega
  · rfl
  · exact x4_1 _ _ _ _
  · exact (x4_1 _ _ _ _).trans (x4_1 _ _ _ _)
  · exact ((x4_1 _ _ _ _).trans (x4_1 _ _ _ _)).trans (x4_1 _ _ _ _)
theorem mdA_mxA (s f : List UInt8) (hs : s.length = 16) : mdA s f = mxA s f := by
  unfold mdA mxA
  apply List.map_congr_left
  intro j hj
  have : j < 16 := List.mem_range.1 hj
  exact mcS_mxS s f (j / 4) (j % 4) hs (by omega) (by omega)
theorem rtA_stA (t s : List UInt8) (hs : s.length = 16) : rtA (rpA t s) 1 = stA t s := by
  unfold rtA stA
  apply List.map_congr_left
  intro j hj
  have : j < 16 := List.mem_range.1 hj
  rw [Nat.one_mul, rpA_get t s 16 _ hs (by omega), Nat.mul_comm]

/-- Where encipher stands: its block is l. -/
def EP (w : World) (KA TA ZA FA : Array Value) (l : List UInt8) (wr : World) : Prop :=
  wr.heap[w.heap.size]? = some (.cells KA 29 (0, 0)) ∧ wr.heap[w.heap.size + 1]? = some (.cells (l.map B8).toArray 26 (0, 0)) ∧ wr.heap[w.heap.size + 1 + 1]? = some (.cells TA 27 (0, 0)) ∧ wr.heap[w.heap.size + 1 + 1 + 1]? = some (.cells ZA 26 (0, 0)) ∧ wr.heap[w.heap.size + 1 + 1 + 1 + 1]? = some (.cells FA 52 (0, 0)) ∧ Below w.heap.size w wr ∧ w.heap.size + 5 ≤ wr.heap.size
theorem EP.drew {w : World} {KA TA ZA FA : Array Value} {l : List UInt8} {wr : World} (h : EP w KA TA ZA FA l wr) : EP w KA TA ZA FA l wr.drew := by
  unfold EP at *
  rw [heap_drew]
  exact ⟨h.1, h.2.1, h.2.2.1, h.2.2.2.1, h.2.2.2.2.1, h.2.2.2.2.2.1.drew, h.2.2.2.2.2.2⟩
theorem EP.below {w : World} {KA TA ZA FA : Array Value} {l : List UInt8} {a b : World} (h : EP w KA TA ZA FA l a) (hb : Below a.heap.size a b) : EP w KA TA ZA FA l b := by
  obtain ⟨h1, h2, h3, h4, h5, h6, h7⟩ := h
  exact ⟨(hb.block _ (by omega)).trans h1, (hb.block _ (by omega)).trans h2, (hb.block _ (by omega)).trans h3, (hb.block _ (by omega)).trans h4, (hb.block _ (by omega)).trans h5, h6.trans (hb.mono (by omega)), by have := hb.size; omega⟩
theorem EP.set {w : World} {KA TA ZA FA : Array Value} {l l' : List UInt8} {a : World} (h : EP w KA TA ZA FA l a) (N : Array Value) (hN : N = (l'.map B8).toArray) : EP w KA TA ZA FA l' (a.setRow (w.heap.size + 1) N) := by
  obtain ⟨h1, h2, h3, h4, h5, h6, h7⟩ := h
  refine ⟨?_, ?_, ?_, ?_, ?_, below_setRow h6 (by omega) _, by simpa using h7⟩
  · rw [setRow_other _ _ _ _ (by omega)]; exact h1
  · rw [hN]; exact setRow_heap _ _ _ _ _ _ h2
  · rw [setRow_other _ _ _ _ (by omega)]; exact h3
  · rw [setRow_other _ _ _ _ (by omega)]; exact h4
  · rw [setRow_other _ _ _ _ (by omega)]; exact h5
/-- What region 10 reads, while it runs. -/
def ES (w : World) (KL : List Value) (o : Nat) (wr : World) : Prop :=
  wr.rangeAt w.heap.size o KL ∧ w.heap.size < wr.heap.size
theorem ES.below {w : World} {KL : List Value} {o B : Nat} {a b : World} (h : ES w KL o a) (hb : Below B a b) (hB : w.heap.size < B) : ES w KL o b :=
  ⟨fun j v hv => (hb.cell (by show w.heap.size < B; omega)).trans (h.1 j v hv), by have := hb.size; have := h.2; omega⟩
theorem info256 (RS : Array Value) (h : RS.size = 256) : (Try.prog.info? 27).map (·.size) = some RS.size := by rw [h]; kernel_rfl
theorem build2311 (w : World) : (Instr.build 52 #[(0, .int .u8 2), (1, .int .u8 3), (2, .int .u8 1), (3, .int .u8 1)]).run Try.prog w = .ok (.agg (([2, 3, 1, 1] : List UInt8).map B8).toArray) w := by kernel_rfl



set_option maxHeartbeats 8000000 in
set_option maxRecDepth 100000 in
theorem pencipher_any (ks s t : List UInt8) (w : World) (hk : ks.length = 176) (hs : s.length = 16) (ht : t.length = 256) :
    Calls Try.prog 36 #[.agg (ks.map B8).toArray, .agg (s.map B8).toArray, .agg (t.map B8).toArray] w fun e w' => e = .returned (.agg ((encA ks t s).map B8).toArray) ∧ Below w.heap.size w w' := by
  have HKL : Hid _ := fun i hi => keyA_len ks i hk hi
  have HEL : Hid _ := fun n hn => encR_len ks t s n hk hs hn
  have HES : Hid (∀ n, encR ks t s (n + 1) = xrA (if n + 1 < 10 then mdA (rtA (rpA t (encR ks t s n)) 1) [2, 3, 1, 1] else rtA (rpA t (encR ks t s n)) 1) (keyA ks (n + 1)) ∨ ¬ n < 10) := fun n => by
    by_cases h : n < 10
    · left
      have hl := encR_len ks t s n hk hs (by omega)
      rw [rtA_stA t _ hl, mdA_mxA _ _ (stA_len _ _)]; rfl
    · exact .inr h
  have HE0 : Hid (encR ks t s 0 = xrA s (keyA ks 0)) := rfl
  have HEN : Hid (encA ks t s = encR ks t s 10) := rfl
  have HKR : Hid (∀ (W : World) (b i : Nat), W.heap[b]? = some (.cells (ks.map B8).toArray 29 (0, 0)) → W.rangeAt b (16 * i) ((keyA ks i).map B8)) := fun W b i h => keyA_range i h
  have HRP : Hid (∀ l W, l.length = 16 → Calls Try.prog 42 #[.agg (l.map B8).toArray, .agg (t.map B8).toArray] W fun e w' => e = .returned (.agg ((rpA t l).map B8).toArray) ∧ Below W.heap.size W w') := fun l W hl => preplaced_any l t W hl ht
  generalize encA ks t s = R at *
  generalize encR ks t s = E at *
  obtain ⟨KA, hKA⟩ : ∃ KA, KA = (ks.map B8).toArray := ⟨_, rfl⟩
  obtain ⟨SA, hSA⟩ : ∃ SA, SA = (s.map B8).toArray := ⟨_, rfl⟩
  obtain ⟨TA, hTA⟩ : ∃ TA, TA = (t.map B8).toArray := ⟨_, rfl⟩
  have hTS : TA.size = 256 := by rw [hTA]; simp [ht]
  have HTI : Hid _ := info256 TA hTS
  have hSS : SA.size = 16 := by rw [hSA]; simp [hs]
  have HSI : Hid _ := info16 SA hSS
  have HSS : Hid _ := hSS
  rw [← hKA] at HKR
  rw [← hTA] at HRP
  obtain ⟨K0, hK0⟩ : ∃ K0, K0 = (keyA ks 0).map B8 := ⟨_, rfl⟩
  have hx0 := fun W => pxored_any s (keyA ks 0) W hs (HKL.out 0 (by omega))
  rw [← HE0.out, ← hSA, ← hK0] at hx0
  have HK0 : Hid _ := hK0
  have hKI0 : (Try.prog.info? 26).map (·.size) = some K0.length := by rw [hK0, List.length_map, HKL.out 0 (by omega)]; kernel_rfl
  have HKI0 : Hid _ := hKI0
  have HSA : Hid _ := hSA
  rw [← hKA, ← hSA, ← hTA]
  have hzv := fun W => zero16 W
  obtain ⟨ZA, hZA⟩ : ∃ ZA, ZA = ((List.replicate 16 (0 : UInt8)).map B8).toArray := ⟨_, rfl⟩
  rw [← hZA] at hzv
  have HZS : Hid (ZA.size = 16) := by show _ = _; rw [hZA]; simp
  obtain ⟨FA, hFA⟩ : ∃ FA : Array Value, FA = (([2, 3, 1, 1] : List UInt8).map B8).toArray := ⟨_, rfl⟩
  have hmx : ∀ W, Calls Try.prog 39 #[.agg #[.int .u8 2, .int .u8 3, .int .u8 1, .int .u8 1]] W fun e w' => e = .returned (.func (.func 45) #[] #[.pointer (some ⟨W.heap.size, 0, none⟩)]) ∧ w' = W.alloc (.cells FA 52 (0, 0)) := fun W => by rw [hFA]; exact pmixer_any [2, 3, 1, 1] W
  have HFA : Hid _ := hFA
  have HST : Hid (EP w KA TA ZA FA s ((((((w.alloc (.cells KA 29 (0, 0))).alloc (.cells SA 26 (0, 0))).alloc (.cells TA 27 (0, 0))).alloc (.cells ZA 26 (0, 0))).alloc (.cells FA 52 (0, 0))))) := by
    refine ⟨?_, ?_, ?_, ?_, ?_, (((((Below.refl _ _).alloc (Nat.le_refl _) _).alloc (by simp) _).alloc (by simp; omega) _).alloc (by simp; omega) _).alloc (by simp; omega) _, by simp⟩
    · rw [Below.heap_alloc _ _ _ (by simp; omega), Below.heap_alloc _ _ _ (by simp; omega), Below.heap_alloc _ _ _ (by simp; omega), Below.heap_alloc _ _ _ (by simp)]; exact heap_at _ _ _ (by simp)
    · rw [Below.heap_alloc _ _ _ (by first | (simp; done) | (simp; omega)), Below.heap_alloc _ _ _ (by first | (simp; done) | (simp; omega)), Below.heap_alloc _ _ _ (by simp), ← hSA]; exact heap_at _ _ _ (by simp)
    · rw [Below.heap_alloc _ _ _ (by first | (simp; done) | (simp; omega)), Below.heap_alloc _ _ _ (by simp)]; exact heap_at _ _ _ (by simp)
    · rw [Below.heap_alloc _ _ _ (by simp)]; exact heap_at _ _ _ (by simp)
    · exact heap_at _ _ _ (by simp)
  have HSR : Hid _ := HST.out.2.1
  rw [← hSA] at HSR
  clear hk hs ht hKA hSA hTA hTS hSS hK0 hKI0 hFA hZA
  go_enter Try.func36, Try.ntmps36
  go_wp2_with fail
  refine (hmx _).mono ?_
  rintro e w1 ⟨rfl, rfl⟩
  clear hmx
  go_wp2_with (first
    | (refine wpList_load_row rfl 26 _ rfl (w.heap.size + 1) rfl 26 SA (0, 0) _ HSR.out Try.underlying26 rfl HSI.out ?_)
    | (refine wpList_load_mid rfl 26 _ rfl w.heap.size 0 rfl K0 _ (by rw [HK0.out]; exact HKR.out _ w.heap.size 0 HST.out.1) Try.underlying26 rfl HKI0.out ?_))
  refine (hx0 _).mono ?_
  rintro e w1 ⟨rfl, hb1⟩
  have HE1 : Hid (EP w KA TA ZA FA s w1) := HST.out.below hb1
  have HE1R : Hid (w1.heap[w.heap.size + 1]? = some (.cells SA 26 (0, 0))) := by show _ = _; rw [HSA.out]; exact HE1.out.2.1
  clear HSR
  clear hb1 HST hx0
  have hl0 := HEL.out 0 (by omega)
  obtain ⟨NA, hNA⟩ : ∃ A, A = (List.map B8 (E 0)).toArray := ⟨_, rfl⟩
  have hNS : NA.size = 16 := by rw [hNA]; simp [hl0]
  have HNI : Hid _ := info16 NA hNS
  have HN1 : Hid (NA.all (·.oneCell') = true) := by show _ = _; rw [hNA]; exact B8_onea _
  have HNS : Hid _ := hNS
  have HNA : Hid _ := hNA
  clear hNS
  rw [← hNA]
  clear hl0 hNA
  go_wp2_with (first
    | (refine wpList_store_row rfl 26 _ _ rfl (w.heap.size + 1) NA rfl rfl 26 SA HE1R.out HNI.out (HSS.out.trans HNS.out.symm) HN1.out ?_))
  have HE2 : Hid (EP w KA TA ZA FA (E 0) (w1.setRow (w.heap.size + 1) NA)) := HE1.out.set NA HNA.out
  clear HE1 HE1R
  generalize w1.setRow (w.heap.size + 1) NA = w2 at *
  go_loopw [16] (fun i wr => ∃ n : Nat, n ≤ 10 ∧ i = .int .i64 n ∧ EP w KA TA ZA FA (E n) wr) (fun i _ => 10 - (intOf i).toNat)
  case atStart => exact ⟨0, by omega, rfl, HE2.out⟩
  case round =>
    clear HE2 HNA HNI HN1 HNS
    obtain ⟨n, hn, rfl, hM⟩ := hrel
    by_cases hlt : n < 10
    · have hnI : (n : Int) < 10 := by omega
      have HM0 : Hid (EP w KA TA ZA FA (E n) wr) := hM
      have hEl := HEL.out n (by omega)
      have hst : E (n + 1) = xrA (if n + 1 < 10 then mdA (rtA (rpA t (E n)) 1) [2, 3, 1, 1] else rtA (rpA t (E n)) 1) (keyA ks (n + 1)) := (HES.out n).resolve_right (fun h => h hlt)
      have hrp := fun W => HRP.out (E n) W hEl
      have hPl := rpA_len t (E n) 16 hEl
      have hrt := fun W => protated_any (rpA t (E n)) 1 W hPl (by omega)
      rw [show ((1 : Nat) : Int) = 1 from rfl] at hrt
      have hQl := rtA_len (rpA t (E n)) 1
      obtain ⟨LA, hLA⟩ : ∃ A, A = (List.map B8 (E n)).toArray := ⟨_, rfl⟩
      have hLS : LA.size = 16 := by rw [hLA]; simp [hEl]
      have HLI : Hid _ := info16 LA hLS
      have HL1 : Hid (LA.all (·.oneCell') = true) := by show _ = _; rw [hLA]; exact B8_onea _
      have HLS : Hid _ := hLS
      have HLA : Hid _ := hLA
      clear hLS
      rw [← hLA] at hrp
      generalize rpA t (E n) = P at *
      generalize rtA P 1 = Q at *
      have HLR : Hid (wr.heap[w.heap.size + 1]? = some (.cells LA 26 (0, 0))) := by show _ = _; rw [hLA]; exact hM.2.1
      have HTR : Hid (wr.heap[w.heap.size + 1 + 1]? = some (.cells TA 27 (0, 0))) := hM.2.2.1
      clear hM hLA
      go_wp2_with (first
        | (refine wpList_load_row rfl 26 _ rfl (w.heap.size + 1) rfl 26 LA (0, 0) _ HLR.out Try.underlying26 rfl HLI.out ?_)
        | (refine wpList_load_row rfl 27 _ rfl (w.heap.size + 1 + 1) rfl 27 TA (0, 0) _ HTR.out Try.underlying27 rfl HTI.out ?_))
      refine (hrp _).mono ?_
      rintro e w3 ⟨rfl, hb3⟩
      have HM3 : Hid (EP w KA TA ZA FA (E n) w3) := HM0.out.below hb3
      clear hb3 HM0 HLR HTR hrp
      go_wp2_with fail
      refine (hrt _).mono ?_
      rintro e w4 ⟨rfl, hb4⟩
      have HM4 : Hid (EP w KA TA ZA FA (E n) w4) := HM3.out.below hb4
      clear hb4 HM3 hrt
      obtain ⟨QA, hQA⟩ : ∃ A, A = (List.map B8 Q).toArray := ⟨_, rfl⟩
      have hQS : QA.size = 16 := by rw [hQA]; simp [hQl]
      have HQI : Hid _ := info16 QA hQS
      have HQ1 : Hid (QA.all (·.oneCell') = true) := by show _ = _; rw [hQA]; exact B8_onea _
      have HQS : Hid _ := hQS
      have HQA : Hid _ := hQA
      clear hQS
      have HLR : Hid (w4.heap[w.heap.size + 1]? = some (.cells LA 26 (0, 0))) := by show _ = _; rw [HLA.out]; exact HM4.out.2.1
      rw [← hQA]
      clear hQA
      have HM5 : Hid (EP w KA TA ZA FA Q (w4.setRow (w.heap.size + 1) QA)) := HM4.out.set QA HQA.out
      have HQR : Hid ((w4.setRow (w.heap.size + 1) QA).heap[w.heap.size + 1]? = some (.cells QA 26 (0, 0))) := setRow_heap _ _ _ _ _ _ HLR.out
      clear HM4
      by_cases h10 : n + 1 < 10
      · have hnJ : (n : Int) + 1 < 10 := by omega
        rw [if_pos h10] at hst
        have hmd := pmixed_any Q [2, 3, 1, 1] (w.heap.size + 1 + 1 + 1 + 1) (w4.setRow (w.heap.size + 1) QA) hQl rfl (by rw [← HFA.out]; exact HM5.out.2.2.2.2.1)
        have hXl := mdA_len Q [2, 3, 1, 1]
        generalize mdA Q [2, 3, 1, 1] = X at *
        rw [← HQA.out] at hmd
        go_wp2_with (first
          | (refine wpList_store_row rfl 26 _ _ rfl (w.heap.size + 1) QA rfl rfl 26 LA HLR.out HQI.out (HLS.out.trans HQS.out.symm) HQ1.out ?_)
          | (refine wpList_load_row rfl 26 _ rfl (w.heap.size + 1) rfl 26 QA (0, 0) _ HQR.out Try.underlying26 rfl HQI.out ?_))
        refine hmd.mono ?_
        rintro e w6 ⟨rfl, hb6⟩
        have HM6 : Hid (EP w KA TA ZA FA Q w6) := HM5.out.below hb6
        clear hb6 hmd
        obtain ⟨XA, hXA⟩ : ∃ A, A = (List.map B8 X).toArray := ⟨_, rfl⟩
        have hXS : XA.size = 16 := by rw [hXA]; simp [hXl]
        have HXI : Hid _ := info16 XA hXS
        have HX1 : Hid (XA.all (·.oneCell') = true) := by show _ = _; rw [hXA]; exact B8_onea _
        have HXS : Hid _ := hXS
        have HXA : Hid _ := hXA
        clear hXS
        rw [← hXA]
        clear hXA
        have HQ6 : Hid (w6.heap[w.heap.size + 1]? = some (.cells QA 26 (0, 0))) := by show _ = _; rw [HQA.out]; exact HM6.out.2.1
        go_wp2_with (first
          | (refine wpList_store_row rfl 26 _ _ rfl (w.heap.size + 1) XA rfl rfl 26 QA HQ6.out HXI.out (HQS.out.trans HXS.out.symm) HX1.out ?_))
        have HM7 : Hid (EP w KA TA ZA FA X (w6.setRow (w.heap.size + 1) XA)) := HM6.out.set XA HXA.out
        clear HM6 HQ6 HM5 HQR HLR
        generalize w6.setRow (w.heap.size + 1) XA = w7 at *
        have hKn := HKL.out (n + 1) (by omega)
        have hx := fun W => pxored_any X (keyA ks (n + 1)) W hXl hKn
        rw [← hst, ← HXA.out] at hx
        obtain ⟨KL, hKL⟩ : ∃ KL, KL = (keyA ks (n + 1)).map B8 := ⟨_, rfl⟩
        have hEn := HEL.out (n + 1) (by omega)
        obtain ⟨NA, hNA⟩ : ∃ A, A = (List.map B8 (E (n + 1))).toArray := ⟨_, rfl⟩
        have hNS : NA.size = 16 := by rw [hNA]; simp [hEn]
        have HNI : Hid _ := info16 NA hNS
        have HN1 : Hid (NA.all (·.oneCell') = true) := by show _ = _; rw [hNA]; exact B8_onea _
        have HNS : Hid _ := hNS
        have HNA : Hid _ := hNA
        clear hNS
        rw [← hNA, ← hKL] at hx
        have hiK : (Try.prog.info? 26).map (·.size) = some KL.length := by rw [hKL, List.length_map, hKn]; kernel_rfl
        have hu := Try.underlying26
        have HES0 : Hid (ES w KL ((n + 1) * 16) w7.drew) := by
          refine ⟨?_, by rw [heap_drew]; have := HM7.out.2.2.2.2.2.2; omega⟩
          rw [hKL, Nat.mul_comm]; exact HKR.out _ _ _ (by rw [heap_drew]; exact HM7.out.1)
        have HXR : Hid (w7.drew.heap[w.heap.size + 1]? = some (.cells XA 26 (0, 0))) := by show _ = _; rw [heap_drew, HXA.out]; exact HM7.out.2.1
        have hs7 : w.heap.size + 5 ≤ w7.heap.size := HM7.out.2.2.2.2.2.2
        clear hst hKL hNA hKn hEn
        try go_wp2
        refine wp_region_held_drew (S := ES w KL ((n + 1) * 16)) (by kernel_rfl) HES0.out (fun hHeld => ?_)
        refine wpAnyH_take (i := 1) (oi := { dst := some 31, op := Go.Op.move (Go.Operand.tmp 9), type := 3, pos := _, after := #[], guard := none }) (v := .int .i64 ((n : Int) + 1)) rfl (by kernel_rfl) (by kernel_rfl) (by kernel_rfl) (fun _ _ _ h => h) (Or.inl ⟨by rfl, fun w' hw' => ?_⟩) hHeld ?_
        · first | (go_simp; done) | (go_simp; rfl)
        try simp only [Act.put, List.setIfInBounds_toArray, List.set_cons_zero, List.set_cons_succ]
        refine wpAnyH_take (i := 2) (oi := { dst := some 32, op := Go.Op.indexAddr 29 (Go.Operand.tmp 3) (Go.Operand.tmp 31), type := 0, pos := _, after := #[{ on := 1, ground := Go.Ground.data }], guard := none }) (v := .pointer (some ⟨w.heap.size, (n + 1) * 16, none⟩)) rfl (by kernel_rfl) (by kernel_rfl) (by kernel_rfl) (fun _ _ _ h => h) (Or.inl ⟨by rfl, fun w' hw' => ?_⟩) hHeld ?_
        · first | (go_simp; done) | (go_simp; rfl) | (go_simp; intro hbad; omega)
        try simp only [Act.put, List.setIfInBounds_toArray, List.set_cons_zero, List.set_cons_succ]
        refine wpAnyH_take (i := 3) (oi := { dst := some 33, op := Go.Op.load 26 (Go.Operand.tmp 32), type := 26, pos := _, after := #[{ on := 2, ground := Go.Ground.data }], guard := none }) rfl (by kernel_rfl) (by kernel_rfl) (by kernel_rfl) (fun _ _ _ h => h) (yieldsIf_load_mid (by rfl) 26 (.tmp 32) rfl (w.heap.size) ((n + 1) * 16) rfl (KL) _ (fun _ h => h.1) hu rfl hiK) hHeld ?_
        try simp only [Act.put, List.setIfInBounds_toArray, List.set_cons_zero, List.set_cons_succ]
        refine wpAnyH_ready (rs := [0]) (by kernel_rfl) (by simp) ?_
        refine AllReadyH.cons (o := { dst := some 30, op := Go.Op.load 26 (Go.Operand.tmp 4), type := 26, pos := _, after := #[], guard := none }) rfl (fun K hK => ?_) AllReadyH.nil
        rw [if_pos (by rfl)]
        refine wp_load_row 26 _ rfl (w.heap.size + 1) rfl 26 XA (0, 0) _ HXR.out Try.underlying26 rfl HXI.out ?_
        refine hK.out _ _ hHeld (fun _ => ?_)
        clear hK K
        try simp only [Act.put, List.setIfInBounds_toArray, List.set_cons_zero, List.set_cons_succ]
        refine wpAnyH_ready (rs := [4]) (by kernel_rfl) (by simp) ?_
        refine AllReadyH.cons (o := { dst := some 34, op := Go.Op.call { callee := Go.Callee.value (Go.Operand.func 40), args := #[Go.Operand.tmp 30, Go.Operand.tmp 33], argTypes := #[26, 26] }, type := 26, pos := _, after := #[{ on := 0, ground := Go.Ground.data }, { on := 3, ground := Go.Ground.data }], guard := none }) rfl (fun K hK => ?_) AllReadyH.nil
        rw [if_pos (by rfl)]
        go_wp2_with fail
        refine (hx _).mono ?_
        rintro e w8 ⟨rfl, hb8⟩
        have hb8' : Below w7.heap.size w7.drew w8 := hb8
        have hHeld8 := ES.below hHeld hb8' (by omega)
        have HM8 : Hid (EP w KA TA ZA FA X w8) := HM7.out.drew.below hb8
        clear hb8 hb8'
        refine hK.out _ _ hHeld8 (fun _ => ?_)
        clear hK K
        try simp only [Act.put, List.setIfInBounds_toArray, List.set_cons_zero, List.set_cons_succ]
        refine wpAnyH_ready (rs := [5]) (by kernel_rfl) (by simp) ?_
        refine AllReadyH.cons (o := { dst := none, op := Go.Op.store 26 (Go.Operand.tmp 4) (Go.Operand.tmp 34), type := 0, pos := _, after := #[{ on := 4, ground := Go.Ground.data }, { on := 4, ground := Go.Ground.chain }, { on := 0, ground := Go.Ground.phase }, { on := 1, ground := Go.Ground.phase }, { on := 2, ground := Go.Ground.phase }, { on := 3, ground := Go.Ground.phase }, { on := 4, ground := Go.Ground.phase }], guard := none }) rfl (fun K hK => ?_) AllReadyH.nil
        rw [if_pos (by rfl)]
        have hX8 : w8.heap[w.heap.size + 1]? = some (.cells XA 26 (0, 0)) := by rw [HXA.out]; exact HM8.out.2.1
        refine wp_store_row 26 _ _ rfl (w.heap.size + 1) NA rfl rfl 26 _ hX8 HNI.out (HXS.out.trans HNS.out.symm) HN1.out ?_
        refine hK.out _ _ (ES.below hHeld8 (below_setRow (Below.refl (w.heap.size + 1) w8) (Nat.le_refl _) NA) (by omega)) (fun _ => ?_)
        clear hK K
        try simp only [Act.put, List.setIfInBounds_toArray, List.set_cons_zero, List.set_cons_succ]
        refine wpAnyH_done (by kernel_rfl) ?_ _
        have HFIN : Hid (EP w KA TA ZA FA (E (n + 1)) (w8.setRow (w.heap.size + 1) NA)) := HM8.out.set NA HNA.out
        clear hHeld hHeld8 hX8 HM8 HM7 HXR HES0
        go_wp2
        go_roundw
        case rel => exact ⟨n + 1, by omega, by go_num, HFIN.out⟩
        case measure => simp [intOf]; omega
      · have hnJ : ¬ (n : Int) + 1 < 10 := by omega
        rw [if_neg h10] at hst
        go_wp2_with (first
          | (refine wpList_store_row rfl 26 _ _ rfl (w.heap.size + 1) QA rfl rfl 26 LA HLR.out HQI.out (HLS.out.trans HQS.out.symm) HQ1.out ?_))
        obtain ⟨X, hX⟩ : ∃ X, X = Q := ⟨_, rfl⟩
        subst hX
        have hXl := hQl
        obtain ⟨XA, hXA⟩ : ∃ XA, XA = QA := ⟨_, rfl⟩
        subst hXA
        have HXI : Hid _ := HQI.out
        have HX1 : Hid _ := HQ1.out
        have HXS : Hid _ := HQS.out
        have HXA : Hid _ := HQA.out
        have HM7 : Hid (EP w KA TA ZA FA X (w4.setRow (w.heap.size + 1) XA)) := HM5.out
        clear HM5 HQR HLR
        generalize w4.setRow (w.heap.size + 1) XA = w7 at *
        have hKn := HKL.out (n + 1) (by omega)
        have hx := fun W => pxored_any X (keyA ks (n + 1)) W hXl hKn
        rw [← hst, ← HXA.out] at hx
        obtain ⟨KL, hKL⟩ : ∃ KL, KL = (keyA ks (n + 1)).map B8 := ⟨_, rfl⟩
        have hEn := HEL.out (n + 1) (by omega)
        obtain ⟨NA, hNA⟩ : ∃ A, A = (List.map B8 (E (n + 1))).toArray := ⟨_, rfl⟩
        have hNS : NA.size = 16 := by rw [hNA]; simp [hEn]
        have HNI : Hid _ := info16 NA hNS
        have HN1 : Hid (NA.all (·.oneCell') = true) := by show _ = _; rw [hNA]; exact B8_onea _
        have HNS : Hid _ := hNS
        have HNA : Hid _ := hNA
        clear hNS
        rw [← hNA, ← hKL] at hx
        have hiK : (Try.prog.info? 26).map (·.size) = some KL.length := by rw [hKL, List.length_map, hKn]; kernel_rfl
        have hu := Try.underlying26
        have HES0 : Hid (ES w KL ((n + 1) * 16) w7.drew) := by
          refine ⟨?_, by rw [heap_drew]; have := HM7.out.2.2.2.2.2.2; omega⟩
          rw [hKL, Nat.mul_comm]; exact HKR.out _ _ _ (by rw [heap_drew]; exact HM7.out.1)
        have HXR : Hid (w7.drew.heap[w.heap.size + 1]? = some (.cells XA 26 (0, 0))) := by show _ = _; rw [heap_drew, HXA.out]; exact HM7.out.2.1
        have hs7 : w.heap.size + 5 ≤ w7.heap.size := HM7.out.2.2.2.2.2.2
        clear hst hKL hNA hKn hEn
        try go_wp2
        refine wp_region_held_drew (S := ES w KL ((n + 1) * 16)) (by kernel_rfl) HES0.out (fun hHeld => ?_)
        refine wpAnyH_take (i := 1) (oi := { dst := some 31, op := Go.Op.move (Go.Operand.tmp 9), type := 3, pos := _, after := #[], guard := none }) (v := .int .i64 ((n : Int) + 1)) rfl (by kernel_rfl) (by kernel_rfl) (by kernel_rfl) (fun _ _ _ h => h) (Or.inl ⟨by rfl, fun w' hw' => ?_⟩) hHeld ?_
        · first | (go_simp; done) | (go_simp; rfl)
        try simp only [Act.put, List.setIfInBounds_toArray, List.set_cons_zero, List.set_cons_succ]
        refine wpAnyH_take (i := 2) (oi := { dst := some 32, op := Go.Op.indexAddr 29 (Go.Operand.tmp 3) (Go.Operand.tmp 31), type := 0, pos := _, after := #[{ on := 1, ground := Go.Ground.data }], guard := none }) (v := .pointer (some ⟨w.heap.size, (n + 1) * 16, none⟩)) rfl (by kernel_rfl) (by kernel_rfl) (by kernel_rfl) (fun _ _ _ h => h) (Or.inl ⟨by rfl, fun w' hw' => ?_⟩) hHeld ?_
        · first | (go_simp; done) | (go_simp; rfl) | (go_simp; intro hbad; omega)
        try simp only [Act.put, List.setIfInBounds_toArray, List.set_cons_zero, List.set_cons_succ]
        refine wpAnyH_take (i := 3) (oi := { dst := some 33, op := Go.Op.load 26 (Go.Operand.tmp 32), type := 26, pos := _, after := #[{ on := 2, ground := Go.Ground.data }], guard := none }) rfl (by kernel_rfl) (by kernel_rfl) (by kernel_rfl) (fun _ _ _ h => h) (yieldsIf_load_mid (by rfl) 26 (.tmp 32) rfl (w.heap.size) ((n + 1) * 16) rfl (KL) _ (fun _ h => h.1) hu rfl hiK) hHeld ?_
        try simp only [Act.put, List.setIfInBounds_toArray, List.set_cons_zero, List.set_cons_succ]
        refine wpAnyH_ready (rs := [0]) (by kernel_rfl) (by simp) ?_
        refine AllReadyH.cons (o := { dst := some 30, op := Go.Op.load 26 (Go.Operand.tmp 4), type := 26, pos := _, after := #[], guard := none }) rfl (fun K hK => ?_) AllReadyH.nil
        rw [if_pos (by rfl)]
        refine wp_load_row 26 _ rfl (w.heap.size + 1) rfl 26 XA (0, 0) _ HXR.out Try.underlying26 rfl HXI.out ?_
        refine hK.out _ _ hHeld (fun _ => ?_)
        clear hK K
        try simp only [Act.put, List.setIfInBounds_toArray, List.set_cons_zero, List.set_cons_succ]
        refine wpAnyH_ready (rs := [4]) (by kernel_rfl) (by simp) ?_
        refine AllReadyH.cons (o := { dst := some 34, op := Go.Op.call { callee := Go.Callee.value (Go.Operand.func 40), args := #[Go.Operand.tmp 30, Go.Operand.tmp 33], argTypes := #[26, 26] }, type := 26, pos := _, after := #[{ on := 0, ground := Go.Ground.data }, { on := 3, ground := Go.Ground.data }], guard := none }) rfl (fun K hK => ?_) AllReadyH.nil
        rw [if_pos (by rfl)]
        go_wp2_with fail
        refine (hx _).mono ?_
        rintro e w8 ⟨rfl, hb8⟩
        have hb8' : Below w7.heap.size w7.drew w8 := hb8
        have hHeld8 := ES.below hHeld hb8' (by omega)
        have HM8 : Hid (EP w KA TA ZA FA X w8) := HM7.out.drew.below hb8
        clear hb8 hb8'
        refine hK.out _ _ hHeld8 (fun _ => ?_)
        clear hK K
        try simp only [Act.put, List.setIfInBounds_toArray, List.set_cons_zero, List.set_cons_succ]
        refine wpAnyH_ready (rs := [5]) (by kernel_rfl) (by simp) ?_
        refine AllReadyH.cons (o := { dst := none, op := Go.Op.store 26 (Go.Operand.tmp 4) (Go.Operand.tmp 34), type := 0, pos := _, after := #[{ on := 4, ground := Go.Ground.data }, { on := 4, ground := Go.Ground.chain }, { on := 0, ground := Go.Ground.phase }, { on := 1, ground := Go.Ground.phase }, { on := 2, ground := Go.Ground.phase }, { on := 3, ground := Go.Ground.phase }, { on := 4, ground := Go.Ground.phase }], guard := none }) rfl (fun K hK => ?_) AllReadyH.nil
        rw [if_pos (by rfl)]
        have hX8 : w8.heap[w.heap.size + 1]? = some (.cells XA 26 (0, 0)) := by rw [HXA.out]; exact HM8.out.2.1
        refine wp_store_row 26 _ _ rfl (w.heap.size + 1) NA rfl rfl 26 _ hX8 HNI.out (HXS.out.trans HNS.out.symm) HN1.out ?_
        refine hK.out _ _ (ES.below hHeld8 (below_setRow (Below.refl (w.heap.size + 1) w8) (Nat.le_refl _) NA) (by omega)) (fun _ => ?_)
        clear hK K
        try simp only [Act.put, List.setIfInBounds_toArray, List.set_cons_zero, List.set_cons_succ]
        refine wpAnyH_done (by kernel_rfl) ?_ _
        have HFIN : Hid (EP w KA TA ZA FA (E (n + 1)) (w8.setRow (w.heap.size + 1) NA)) := HM8.out.set NA HNA.out
        clear hHeld hHeld8 hX8 HM8 HM7 HXR HES0
        go_wp2
        go_roundw
        case rel => exact ⟨n + 1, by omega, by go_num, HFIN.out⟩
        case measure => simp [intOf]; omega
    · have hk' : n = 10 := by omega
      have hlt' : ¬ (n : Int) < 10 := by omega
      rw [hk'] at hM
      have hl := HEL.out 10 (by omega)
      rw [← HEN.out] at hM hl
      obtain ⟨RA, hRA⟩ : ∃ A, A = (List.map B8 R).toArray := ⟨_, rfl⟩
      have hRS : RA.size = 16 := by rw [hRA]; simp [hl]
      have HRI : Hid _ := info16 RA hRS
      have HR1 : Hid (RA.all (·.oneCell') = true) := by show _ = _; rw [hRA]; exact B8_onea _
      have HRS : Hid _ := hRS
      have HRA : Hid _ := hRA
      clear hRS
      have HT' : Hid (wr.heap[w.heap.size + 1]? = some (.cells RA 26 (0, 0))) := by show _ = _; rw [hRA]; exact hM.2.1
      have HR : Hid _ := hM.2.2.2.1
      have HBW : Hid _ := hM.2.2.2.2.2.1
      clear hM hRA hl hk'
      go_wp2_with (first
        | (refine wpList_load_row rfl 26 _ rfl (w.heap.size + 1) rfl 26 _ (0, 0) _ HT'.out Try.underlying26 rfl HRI.out ?_)
        | (refine wpList_store_row rfl 26 _ _ rfl (w.heap.size + 1 + 1 + 1) _ rfl rfl 26 _ HR.out HRI.out (HZS.out.trans HRS.out.symm) HR1.out ?_))
      refine bodyPost_ret (v := .agg RA) ?_ rfl ⟨by rw [HRA.out], below_setRow HBW.out (by omega) _⟩
      exact results_cell_row Try.results36 _ _ (w.heap.size + 1 + 1 + 1) 26 _ (0, 0) _ rfl (setRow_heap _ _ _ _ _ _ HR.out) Try.underlying26 rfl HRI.out

end Go.Proofs.Ytjohckgdbbhpdaa
