/- report: a digest's word, by the program and by the document. -/
import Derived.Test.YtpklboicgjpmeaaDoorTp
set_option linter.unusedVariables false
set_option linter.unusedSimpArgs false
namespace Go.Proofs.YtpklboicgjpmeaaDoor.RB
open Go.RowKit

def unh (s : List UInt8) : List UInt8 := (W1.unhex s).getD []
/-- The digest that a word tells. -/
def dgT (s : List UInt8) : List UInt8 := splice Z32 0 ((unh s).take 32)
def dgB (s : List UInt8) : Bool := (W1.unhex s).isSome && ((unh s).length == 32)
theorem dgT_len (s : List UInt8) : (dgT s).length = 32 := by
  unfold dgT
  rw [splice_len]
  · rfl
  · have : Z32.length = 32 := rfl
    rw [this, List.length_take]; omega
theorem dgT_hex {D : List UInt8} (h : D.length = 32) : dgT (W1.hex D) = D := by
  unfold dgT unh
  rw [W1.unhex_hex]
  show splice Z32 0 (D.take 32) = D
  rw [List.take_of_length_le (by omega)]
  unfold splice
  rw [List.drop_of_length_le (by rw [h]; decide)]
  simp
theorem dgB_hex {D : List UInt8} (h : D.length = 32) : dgB (W1.hex D) = true := by
  unfold dgB unh
  rw [W1.unhex_hex]
  simp [h]
theorem dgT_cells (s : List UInt8) : splice (Z32.map B8) 0 (((unh s).take 32).map B8) = (dgT s).map B8 := splice_map _ _ _ _
theorem zero_dg (W : World) : (zeroValue 24).run Tryd.prog W = .ok (.agg (Z32.map B8).toArray) W := by kernel_rfl
theorem punh_any (s : List UInt8) (hl : s.length ≤ 1000000) (w : World) : Calls Tryd.prog 51 #[sV s] w fun e w' => ∃ v n, e = .returned (.tuple #[v, n]) ∧ HB w' v (unh s) ∧ Below w.heap.size w w' := by
  have e0 : (⟨s.toArray⟩ : ByteArray).data.toList = s := by simp
  refine Calls.mono (unhex_any ⟨s.toArray⟩ w (by rw [sz_str]; omega)) ?_
  rintro e w' ⟨hb, hm⟩
  rw [e0] at hm
  unfold unh
  cases hx : W1.unhex s with
  | some d =>
    rw [hx] at hm
    obtain ⟨v, rfl, hf⟩ := hm
    exact ⟨v, _, rfl, hf.hb, hb⟩
  | none =>
    rw [hx] at hm
    subst hm
    exact ⟨_, _, rfl, .inl ⟨rfl, none, 0, rfl, by simp⟩, hb⟩
theorem runh_any (s : List UInt8) (hl : s.length ≤ 1000000) (w : World) : Calls Tryd.prog 52 #[sV s] w fun e w' => ∃ v, e = .returned (.tuple #[v, .bool (W1.unhex s).isSome]) ∧ HB w' v (unh s) ∧ Below w.heap.size w w' := by
  refine Calls.mono (runhex_any s hl w) ?_
  rintro e w' ⟨v, b, rfl, hb, ⟨d, hd, rfl, hf⟩ | ⟨hd, rfl, rfl⟩⟩
  · refine ⟨v, by rw [hd]; rfl, ?_, hb⟩
    unfold unh; rw [hd]; exact hf.hb
  · refine ⟨_, by rw [hd]; rfl, ?_, hb⟩
    unfold unh; rw [hd]; exact .inl ⟨rfl, none, 0, rfl, by simp⟩
/-- What a copy out of bytes takes. -/
theorem src_take {w : World} {p : Option Addr} {x : List UInt8} (h : 0 < (x.map B8).length → ∃ ad, p = some ad ∧ ∀ j u, (x.map B8)[j]? = some u → w.cell? (ad.add j) = some u) : 0 < ((x.take 32).map B8).length → ∃ ad, p = some ad ∧ ∀ j u, ((x.take 32).map B8)[j]? = some u → w.cell? (ad.add j) = some u := fun h0 => by
  have h1 : 0 < (x.map B8).length := by rw [List.length_map, List.length_take] at h0; rw [List.length_map]; omega
  obtain ⟨ad, h2, h3⟩ := h h1
  refine ⟨ad, h2, fun j u hu => h3 j u ?_⟩
  rw [List.map_take] at hu
  have hj : j < 32 := by have := (List.getElem?_eq_some_iff.1 hu).1; rw [List.length_take] at this; omega
  rwa [List.getElem?_take_of_lt hj] at hu
set_option maxHeartbeats 1000000 in
set_option maxRecDepth 100000 in
theorem pdig_any (s : List UInt8) (hl : s.length ≤ 1000000) (w : World) : Calls Tryd.prog 36 #[sV s] w fun e w' => e = .returned (.agg ((dgT s).map B8).toArray) ∧ Below w.heap.size w w' := by
  have hz := zero_dg
  have HR : Hid _ := ((RS.start w).alloc _ rfl 24 (Z32.map B8)).alloc (w.heap.size + 1) (by simp) 24 (Z32.map B8)
  have HLT : Hid (((dgT s).map B8).length = 32) := by show _ = _; rw [List.length_map]; exact dgT_len s
  have HIT : Hid _ := infD (dgT_len s)
  have HIA : Hid _ := infDA (dgT_len s)
  have HOT : Hid _ := B8_onea (dgT s)
  have HSP : Hid _ := dgT_cells s
  have HLZ : Hid ((Z32.map B8).length = 32) := rfl
  have HCL : Hid ((((unh s).take 32).map B8).length = Nat.min (unh s).length 32) := by show _ = _; rw [List.length_map, List.length_take]; exact Nat.min_comm _ _
  have HC1 : Hid _ := B8_one ((unh s).take 32)
  have HUN : Hid _ := fun W => punh_any s hl W
  generalize (dgT s).map B8 = MD at *
  have hsd := fun W => slice_dg W (w.heap.size + 1) 0
  clear hl
  go_enter Tryd.func36, Tryd.ntmps36
  go_wp2_with fail
  refine Calls.mono (HUN.out _) ?_
  rintro e w1 ⟨v, n, rfl, hh, hb⟩
  have HR1 : Hid _ := HR.out.step hb
  obtain ⟨p, cap, rfl, hsrc⟩ := hb_src hh
  have HSR : Hid _ := src_take hsrc
  clear hh hb hsrc HR HUN hz
  generalize ((unh s).take 32).map B8 = CS at *
  generalize (unh s).length = N at *
  generalize Z32.map B8 = ZD at *
  go_wp2_with (first
    | (refine wpList_copy_segL rfl (.tmp 11) (.tmp 12) rfl (w.heap.size + 1) 0 32 32 p N cap rfl rfl ZD 24 (HR1.out.at 0 rfl) CS HCL.out HSR.out (by rw [HCL.out, HLZ.out, Nat.zero_add]; exact Nat.min_le_right _ _) HC1.out ?_; intro W2 hW2; have HR2 : Hid (RS w [(w.heap.size + 1, 24, MD), (w.heap.size, 24, ZD)] W2) := (by rw [HSP.out] at hW2; subst hW2; exact HR1.out.put 0 rfl MD); clear hW2 HR1)
    | (refine wpList_load_mid rfl 24 _ rfl (w.heap.size + 1) 0 rfl MD _ (rangeAt_row (HR2.out.at 0 rfl)) Tryd.underlying24 rfl HIT.out ?_)
    | (refine wpList_store_row rfl 24 _ _ rfl w.heap.size MD.toArray rfl rfl 24 ZD.toArray (HR2.out.at 1 rfl) HIA.out (by rw [List.size_toArray, List.size_toArray, HLZ.out, HLT.out]) HOT.out ?_))
  have R8 := HR2.out.put 1 rfl MD
  skip
  refine bodyPost_ret (v := .agg MD.toArray) (results1 Tryd.results36 _ _ w.heap.size (R8.at 1 rfl) Tryd.underlying24 rfl HIT.out rfl) rfl ⟨rfl, R8.bel⟩
set_option maxHeartbeats 1000000 in
set_option maxRecDepth 100000 in
theorem rdig_any (s : List UInt8) (hl : s.length ≤ 1000000) (w : World) : Calls Tryd.prog 38 #[sV s] w fun e w' => e = .returned (.tuple #[.agg ((dgT s).map B8).toArray, .bool (dgB s)]) ∧ Below w.heap.size w w' := by
  have hz := zero_dg
  have HR : Hid _ := ((RS.start w).alloc _ rfl 24 (Z32.map B8)).alloc (w.heap.size + 1) (by simp) 24 (Z32.map B8)
  have HLT : Hid (((dgT s).map B8).length = 32) := by show _ = _; rw [List.length_map]; exact dgT_len s
  have HIT : Hid _ := infD (dgT_len s)
  have HIA : Hid _ := infDA (dgT_len s)
  have HOT : Hid _ := B8_onea (dgT s)
  have HSP : Hid _ := dgT_cells s
  have HLZ : Hid ((Z32.map B8).length = 32) := rfl
  have HCL : Hid ((((unh s).take 32).map B8).length = Nat.min (unh s).length 32) := by show _ = _; rw [List.length_map, List.length_take]; exact Nat.min_comm _ _
  have HC1 : Hid _ := B8_one ((unh s).take 32)
  have HUN : Hid _ := fun W => runh_any s hl W
  generalize (dgT s).map B8 = MD at *
  have hsd := fun W => slice_dg W (w.heap.size + 1) 0
  have hB : (((unh s).length : Int) == 32) = ((unh s).length == 32) := by rw [Bool.eq_iff_iff]; simp; omega
  have hd : dgB s = ((W1.unhex s).isSome && ((unh s).length == 32)) := rfl
  rw [hd]
  clear hl hd
  generalize (W1.unhex s).isSome = b at *
  generalize ((unh s).length == 32) = B at *
  go_enter Tryd.func38, Tryd.ntmps38
  go_wp2_with fail
  refine Calls.mono (HUN.out _) ?_
  rintro e w1 ⟨v, rfl, hh, hb⟩
  have HR1 : Hid _ := HR.out.step hb
  obtain ⟨p, cap, rfl, hsrc⟩ := hb_src hh
  have HSR : Hid _ := src_take hsrc
  clear hh hb hsrc HR HUN hz
  generalize ((unh s).take 32).map B8 = CS at *
  generalize (unh s).length = N at *
  generalize Z32.map B8 = ZD at *
  cases b
  · skip
    go_wp2_with (first
      | (refine wpList_copy_segL rfl (.tmp 12) (.tmp 13) rfl (w.heap.size + 1) 0 32 32 p N cap rfl rfl ZD 24 (HR1.out.at 0 rfl) CS HCL.out HSR.out (by rw [HCL.out, HLZ.out, Nat.zero_add]; exact Nat.min_le_right _ _) HC1.out ?_; intro W2 hW2; have HR2 : Hid (RS w [(w.heap.size + 1, 24, MD), (w.heap.size, 24, ZD)] W2) := (by rw [HSP.out] at hW2; subst hW2; exact HR1.out.put 0 rfl MD); clear hW2 HR1)
      | (refine wpList_load_mid rfl 24 _ rfl (w.heap.size + 1) 0 rfl MD _ (rangeAt_row (HR2.out.at 0 rfl)) Tryd.underlying24 rfl HIT.out ?_)
      | (refine wpList_store_row rfl 24 _ _ rfl w.heap.size MD.toArray rfl rfl 24 ZD.toArray (HR2.out.at 1 rfl) HIA.out (by rw [List.size_toArray, List.size_toArray, HLZ.out, HLT.out]) HOT.out ?_))
    have R8 := HR2.out.put 1 rfl MD
    skip
    refine bodyPost_ret (v := .tuple #[.agg MD.toArray, .bool false]) (results2 Tryd.results38 _ _ w.heap.size _ MD _ _ rfl rfl (R8.at 1 rfl) Tryd.underlying24 rfl HIT.out) rfl ⟨rfl, R8.bel⟩
  · skip
    go_wp2_with (first
      | (refine wpList_copy_segL rfl (.tmp 12) (.tmp 13) rfl (w.heap.size + 1) 0 32 32 p N cap rfl rfl ZD 24 (HR1.out.at 0 rfl) CS HCL.out HSR.out (by rw [HCL.out, HLZ.out, Nat.zero_add]; exact Nat.min_le_right _ _) HC1.out ?_; intro W2 hW2; have HR2 : Hid (RS w [(w.heap.size + 1, 24, MD), (w.heap.size, 24, ZD)] W2) := (by rw [HSP.out] at hW2; subst hW2; exact HR1.out.put 0 rfl MD); clear hW2 HR1)
      | (refine wpList_load_mid rfl 24 _ rfl (w.heap.size + 1) 0 rfl MD _ (rangeAt_row (HR2.out.at 0 rfl)) Tryd.underlying24 rfl HIT.out ?_)
      | (refine wpList_store_row rfl 24 _ _ rfl w.heap.size MD.toArray rfl rfl 24 ZD.toArray (HR2.out.at 1 rfl) HIA.out (by rw [List.size_toArray, List.size_toArray, HLZ.out, HLT.out]) HOT.out ?_))
    have R8 := HR2.out.put 1 rfl MD
    skip
    refine bodyPost_ret (v := .tuple #[.agg MD.toArray, .bool B]) (results2 Tryd.results38 _ _ w.heap.size _ MD _ _ rfl rfl (R8.at 1 rfl) Tryd.underlying24 rfl HIT.out) rfl ⟨rfl, R8.bel⟩
end Go.Proofs.YtpklboicgjpmeaaDoor.RB
