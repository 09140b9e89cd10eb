/- ReportReads: for any bytes and any text, the tables as the program's text lays them, the statement's function answers true. -/
import Derived.Test.YtpklboicgjpmeaaDoorTy
import Derived.Test.YtpklboicgjpmeaaDoorTm
set_option linter.unusedVariables false
set_option linter.unusedSimpArgs false
namespace Go.Proofs.YtpklboicgjpmeaaDoor.reportReads
open Go.ChangeShapes Go.WideShapes Go.ChangeAt Go.RowKit
open Go.ChangeMaps (open_string shut_string)
open Go.Proofs.YtpklboicgjpmeaaDoor.RB

set_option maxHeartbeats 16000000 in
set_option maxRecDepth 100000 in
theorem walk (u : Value) (l : List UInt8) (t : ByteArray) (w : World) (hm : l.length ≤ 9223372036854775807) (hl : HB w u l) (hG : GV w) : Calls Tryd.prog 4 #[u, .string t] w fun e w' => e = .returned (.bool true) ∧ Below w.heap.size w w' := by
  obtain ⟨s, rfl⟩ : ∃ s : List UInt8, t = ⟨s.toArray⟩ := ⟨t.data.toList, by cases t; simp⟩
  have hz := zero_rp
  have hnm := num_any
  have hge := rp_ge
  have hgn := rp_gn
  have HKN : Hid (∀ X, Below w.heap.size w X → Calls Tryd.prog 15 #[] X fun e w' => e = .returned (.bool true) ∧ Below X.heap.size X w') := fun X hb => known_any X (hG.below hb)
  have HPO : Hid (∀ X, Below w.heap.size w X → Calls Tryd.prog 16 #[u] X fun e w' => ∃ r b, e = .returned (.tuple #[rV r, .int .i64 (if b = true then 0 else 4)]) ∧ BR l r b ∧ Below X.heap.size X w') := fun X hb => pof_any u l X (hl.below hb)
  have HRO : Hid (∀ X, Below w.heap.size w X → Calls Tryd.prog 17 #[u] X fun e w' => ∃ r b, e = .returned (.tuple #[rV r, .bool b]) ∧ BR l r b ∧ Below X.heap.size X w') := fun X hb => rof_any u l X (hl.below hb)
  have HPU' : s.length ≤ 9000 → Hid (∀ X, Below w.heap.size w X → Calls Tryd.prog 19 #[sV s] X fun e w' => UTE s X e w') := fun h X hb => puntext_any s (by omega) X (hG.below hb)
  have HRU' : s.length ≤ 9000 → Hid (∀ X, Below w.heap.size w X → Calls Tryd.prog 20 #[sV s] X fun e w' => RTE s X e w') := fun h X hb => runtext_any s (by omega) X (hG.below hb)
  obtain ⟨p, cap, hu⟩ := hb_slice hl
  clear hl hm hG
  by_cases h1 : (9000 : Int) < (l.length : Int)
  · subst hu
    clear HPU' HRU'
    go_enter Tryd.func4, Tryd.ntmps4
    go_wp2_with fail
    refine Calls.mono (HKN.out _ (Below.refl _ _)) ?_
    rintro e X1 ⟨rfl, hb⟩
    have HB1 : Hid _ := hb
    clear hb
    go_wp2
    go_ret
    exact ⟨rfl, HB1.out⟩
  · by_cases h2 : (9000 : Int) < (s.length : Int)
    · subst hu
      clear HPU' HRU'
      go_enter Tryd.func4, Tryd.ntmps4
      go_wp2_with fail
      refine Calls.mono (HKN.out _ (Below.refl _ _)) ?_
      rintro e X1 ⟨rfl, hb⟩
      have HB1 : Hid _ := hb
      clear hb
      go_wp2
      go_ret
      exact ⟨rfl, HB1.out⟩
    · have HPU : Hid _ := HPU' (by omega)
      have HRU : Hid _ := HRU' (by omega)
      clear HPU' HRU'
      subst hu
      go_enter Tryd.func4, Tryd.ntmps4
      go_wp2_with fail
      refine Calls.mono (HPO.out _ (Below.refl _ _)) ?_
      rintro e V1 ⟨a, ok, rfl, hb1, hb⟩
      have HR2 : Hid _ := ((RS.start w).step hb).alloc V1.heap.size rfl 26 (rL r0)
      have haok := hb1.ok
      have HT0 : Hid (BR l a ok) := hb1
      clear hb hb1
      have HAa : Hid _ := infRA haok
      have HIa : Hid _ := infR haok
      have HLa : Hid _ := rL_len haok
      have HOa : Hid _ := rL_one a
      have hqa : ∀ W, (binOp .eql 26 (.agg (rL a).toArray) (.agg (rL a).toArray)).run Tryd.prog W = .ok (.bool true) W := fun W => by rw [rp_eq a a haok haok, rpE_self]
      have hna : ∀ W, (binOp .neq 26 (.agg (rL a).toArray) (.agg (rL a).toArray)).run Tryd.prog W = .ok (.bool false) W := fun W => by rw [rp_ne a a haok haok, rpE_self]; rfl
      clear haok
      cases ok
      · rw [if_neg (show ¬ (false = true) by decide)]
        go_wp2_with (refine wpList_store_rowL rfl 26 (.tmp 5) (.tmp 25) rfl V1.heap.size (rL a).toArray rfl rfl 26 (rL r0).toArray (HR2.out.at 0 rfl) HAa.out (by rw [List.size_toArray, List.size_toArray, HLa.out]; rfl) HOa.out ?_; intro W1 hW; have HR3 : Hid _ := (HR2.out.put 0 rfl (rL a)); rw [← hW] at HR3; clear hW HR2)
        refine Calls.mono (HRO.out _ HR3.out.bel) ?_
        rintro e V2 ⟨a2, ok2, rfl, hb2, hb⟩
        obtain ⟨rfl, rfl⟩ := BR.uniq HT0.out hb2
        have HR4 : Hid _ := (HR3.out.step hb).alloc V2.heap.size rfl 26 (rL r0)
        clear hb HR3 hb2 HT0
        go_wp2_with (first
          | (refine wpList_store_rowL rfl 26 (.tmp 7) (.tmp 30) rfl V2.heap.size (rL a).toArray rfl rfl 26 (rL r0).toArray (HR4.out.at 0 rfl) HAa.out (by rw [List.size_toArray, List.size_toArray, HLa.out]; rfl) HOa.out ?_; intro W2 hW; have HR5 : Hid _ := (HR4.out.put 0 rfl (rL a)); rw [← hW] at HR5; clear hW HR4)
          | (refine wpList_load_mid rfl 26 (.tmp 5) rfl V1.heap.size 0 rfl (rL a) _ (rangeAt_row (HR5.out.at 1 rfl)) Tryd.underlying26 rfl HIa.out ?_)
          | (refine wpList_load_mid rfl 26 (.tmp 7) rfl V2.heap.size 0 rfl (rL a) _ (rangeAt_row (HR5.out.at 0 rfl)) Tryd.underlying26 rfl HIa.out ?_)
          | (go_at_call 18; refine Calls.mono (hnm _ _) ?_; rintro e w1 ⟨rfl, rfl⟩))
        refine Calls.mono (HPU.out _ HR5.out.bel) ?_
        rintro e V3 ⟨c, is, rfl, ht1, hb⟩
        have HR6 : Hid _ := (HR5.out.step hb).alloc V3.heap.size rfl 26 (rL r0)
        have hcok := ht1.ok
        have HT1 : Hid (TR s c is) := ht1
        clear hb HR5 ht1
        have HAc : Hid _ := infRA hcok
        have HIc : Hid _ := infR hcok
        have HLc : Hid _ := rL_len hcok
        have HOc : Hid _ := rL_one c
        have hqc : ∀ W, (binOp .eql 26 (.agg (rL c).toArray) (.agg (rL c).toArray)).run Tryd.prog W = .ok (.bool true) W := fun W => by rw [rp_eq c c hcok hcok, rpE_self]
        have hnc : ∀ W, (binOp .neq 26 (.agg (rL c).toArray) (.agg (rL c).toArray)).run Tryd.prog W = .ok (.bool false) W := fun W => by rw [rp_ne c c hcok hcok, rpE_self]; rfl
        clear hcok
        cases is
        · rw [if_neg (show ¬ (false = true) by decide)]
          go_wp2_with (refine wpList_store_rowL rfl 26 (.tmp 9) (.tmp 54) rfl V3.heap.size (rL c).toArray rfl rfl 26 (rL r0).toArray (HR6.out.at 0 rfl) HAc.out (by rw [List.size_toArray, List.size_toArray, HLc.out]; rfl) HOc.out ?_; intro W3 hW; have HR7 : Hid _ := (HR6.out.put 0 rfl (rL c)); rw [← hW] at HR7; clear hW HR6)
          refine Calls.mono (HRU.out _ HR7.out.bel) ?_
          rintro e V4 ⟨c2, is2, rfl, ht2, hb⟩
          obtain ⟨rfl, rfl⟩ := TR.uniq HT1.out ht2
          have HR8 : Hid _ := (HR7.out.step hb).alloc V4.heap.size rfl 26 (rL r0)
          clear hb HR7 ht2 HT1
          go_wp2_with (first
            | (refine wpList_store_rowL rfl 26 (.tmp 11) (.tmp 59) rfl V4.heap.size (rL c).toArray rfl rfl 26 (rL r0).toArray (HR8.out.at 0 rfl) HAc.out (by rw [List.size_toArray, List.size_toArray, HLc.out]; rfl) HOc.out ?_; intro W4 hW; have HR9 : Hid _ := (HR8.out.put 0 rfl (rL c)); rw [← hW] at HR9; clear hW HR8)
            | (refine wpList_load_mid rfl 26 (.tmp 9) rfl V3.heap.size 0 rfl (rL c) _ (rangeAt_row (HR9.out.at 1 rfl)) Tryd.underlying26 rfl HIc.out ?_)
            | (refine wpList_load_mid rfl 26 (.tmp 11) rfl V4.heap.size 0 rfl (rL c) _ (rangeAt_row (HR9.out.at 0 rfl)) Tryd.underlying26 rfl HIc.out ?_)
            | (go_at_call 18; refine Calls.mono (hnm _ _) ?_; rintro e w1 ⟨rfl, rfl⟩)
            | (go_at_call 15; refine Calls.mono (HKN.out _ HR9.out.bel) ?_; rintro e X1 ⟨rfl, hb⟩; have HR9 : Hid _ := HR9.out.step hb; clear hb))
          go_ret
          exact ⟨rfl, HR9.out.bel⟩
        · rw [if_pos (show true = true from rfl)]
          go_wp2_with (refine wpList_store_rowL rfl 26 (.tmp 9) (.tmp 54) rfl V3.heap.size (rL c).toArray rfl rfl 26 (rL r0).toArray (HR6.out.at 0 rfl) HAc.out (by rw [List.size_toArray, List.size_toArray, HLc.out]; rfl) HOc.out ?_; intro W3 hW; have HR7 : Hid _ := (HR6.out.put 0 rfl (rL c)); rw [← hW] at HR7; clear hW HR6)
          refine Calls.mono (HRU.out _ HR7.out.bel) ?_
          rintro e V4 ⟨c2, is2, rfl, ht2, hb⟩
          obtain ⟨rfl, rfl⟩ := TR.uniq HT1.out ht2
          have HR8 : Hid _ := (HR7.out.step hb).alloc V4.heap.size rfl 26 (rL r0)
          clear hb HR7 ht2 HT1
          go_wp2_with (first
            | (refine wpList_store_rowL rfl 26 (.tmp 11) (.tmp 59) rfl V4.heap.size (rL c).toArray rfl rfl 26 (rL r0).toArray (HR8.out.at 0 rfl) HAc.out (by rw [List.size_toArray, List.size_toArray, HLc.out]; rfl) HOc.out ?_; intro W4 hW; have HR9 : Hid _ := (HR8.out.put 0 rfl (rL c)); rw [← hW] at HR9; clear hW HR8)
            | (refine wpList_load_mid rfl 26 (.tmp 9) rfl V3.heap.size 0 rfl (rL c) _ (rangeAt_row (HR9.out.at 1 rfl)) Tryd.underlying26 rfl HIc.out ?_)
            | (refine wpList_load_mid rfl 26 (.tmp 11) rfl V4.heap.size 0 rfl (rL c) _ (rangeAt_row (HR9.out.at 0 rfl)) Tryd.underlying26 rfl HIc.out ?_)
            | (go_at_call 18; refine Calls.mono (hnm _ _) ?_; rintro e w1 ⟨rfl, rfl⟩)
            | (go_at_call 15; refine Calls.mono (HKN.out _ HR9.out.bel) ?_; rintro e X1 ⟨rfl, hb⟩; have HR9 : Hid _ := HR9.out.step hb; clear hb))
          go_ret
          exact ⟨rfl, HR9.out.bel⟩
      · rw [if_pos (show true = true from rfl)]
        go_wp2_with (refine wpList_store_rowL rfl 26 (.tmp 5) (.tmp 25) rfl V1.heap.size (rL a).toArray rfl rfl 26 (rL r0).toArray (HR2.out.at 0 rfl) HAa.out (by rw [List.size_toArray, List.size_toArray, HLa.out]; rfl) HOa.out ?_; intro W1 hW; have HR3 : Hid _ := (HR2.out.put 0 rfl (rL a)); rw [← hW] at HR3; clear hW HR2)
        refine Calls.mono (HRO.out _ HR3.out.bel) ?_
        rintro e V2 ⟨a2, ok2, rfl, hb2, hb⟩
        obtain ⟨rfl, rfl⟩ := BR.uniq HT0.out hb2
        have HR4 : Hid _ := (HR3.out.step hb).alloc V2.heap.size rfl 26 (rL r0)
        clear hb HR3 hb2 HT0
        go_wp2_with (first
          | (refine wpList_store_rowL rfl 26 (.tmp 7) (.tmp 30) rfl V2.heap.size (rL a).toArray rfl rfl 26 (rL r0).toArray (HR4.out.at 0 rfl) HAa.out (by rw [List.size_toArray, List.size_toArray, HLa.out]; rfl) HOa.out ?_; intro W2 hW; have HR5 : Hid _ := (HR4.out.put 0 rfl (rL a)); rw [← hW] at HR5; clear hW HR4)
          | (refine wpList_load_mid rfl 26 (.tmp 5) rfl V1.heap.size 0 rfl (rL a) _ (rangeAt_row (HR5.out.at 1 rfl)) Tryd.underlying26 rfl HIa.out ?_)
          | (refine wpList_load_mid rfl 26 (.tmp 7) rfl V2.heap.size 0 rfl (rL a) _ (rangeAt_row (HR5.out.at 0 rfl)) Tryd.underlying26 rfl HIa.out ?_)
          | (go_at_call 18; refine Calls.mono (hnm _ _) ?_; rintro e w1 ⟨rfl, rfl⟩))
        refine Calls.mono (HPU.out _ HR5.out.bel) ?_
        rintro e V3 ⟨c, is, rfl, ht1, hb⟩
        have HR6 : Hid _ := (HR5.out.step hb).alloc V3.heap.size rfl 26 (rL r0)
        have hcok := ht1.ok
        have HT1 : Hid (TR s c is) := ht1
        clear hb HR5 ht1
        have HAc : Hid _ := infRA hcok
        have HIc : Hid _ := infR hcok
        have HLc : Hid _ := rL_len hcok
        have HOc : Hid _ := rL_one c
        have hqc : ∀ W, (binOp .eql 26 (.agg (rL c).toArray) (.agg (rL c).toArray)).run Tryd.prog W = .ok (.bool true) W := fun W => by rw [rp_eq c c hcok hcok, rpE_self]
        have hnc : ∀ W, (binOp .neq 26 (.agg (rL c).toArray) (.agg (rL c).toArray)).run Tryd.prog W = .ok (.bool false) W := fun W => by rw [rp_ne c c hcok hcok, rpE_self]; rfl
        clear hcok
        cases is
        · rw [if_neg (show ¬ (false = true) by decide)]
          go_wp2_with (refine wpList_store_rowL rfl 26 (.tmp 9) (.tmp 54) rfl V3.heap.size (rL c).toArray rfl rfl 26 (rL r0).toArray (HR6.out.at 0 rfl) HAc.out (by rw [List.size_toArray, List.size_toArray, HLc.out]; rfl) HOc.out ?_; intro W3 hW; have HR7 : Hid _ := (HR6.out.put 0 rfl (rL c)); rw [← hW] at HR7; clear hW HR6)
          refine Calls.mono (HRU.out _ HR7.out.bel) ?_
          rintro e V4 ⟨c2, is2, rfl, ht2, hb⟩
          obtain ⟨rfl, rfl⟩ := TR.uniq HT1.out ht2
          have HR8 : Hid _ := (HR7.out.step hb).alloc V4.heap.size rfl 26 (rL r0)
          clear hb HR7 ht2 HT1
          go_wp2_with (first
            | (refine wpList_store_rowL rfl 26 (.tmp 11) (.tmp 59) rfl V4.heap.size (rL c).toArray rfl rfl 26 (rL r0).toArray (HR8.out.at 0 rfl) HAc.out (by rw [List.size_toArray, List.size_toArray, HLc.out]; rfl) HOc.out ?_; intro W4 hW; have HR9 : Hid _ := (HR8.out.put 0 rfl (rL c)); rw [← hW] at HR9; clear hW HR8)
            | (refine wpList_load_mid rfl 26 (.tmp 9) rfl V3.heap.size 0 rfl (rL c) _ (rangeAt_row (HR9.out.at 1 rfl)) Tryd.underlying26 rfl HIc.out ?_)
            | (refine wpList_load_mid rfl 26 (.tmp 11) rfl V4.heap.size 0 rfl (rL c) _ (rangeAt_row (HR9.out.at 0 rfl)) Tryd.underlying26 rfl HIc.out ?_)
            | (go_at_call 18; refine Calls.mono (hnm _ _) ?_; rintro e w1 ⟨rfl, rfl⟩)
            | (go_at_call 15; refine Calls.mono (HKN.out _ HR9.out.bel) ?_; rintro e X1 ⟨rfl, hb⟩; have HR9 : Hid _ := HR9.out.step hb; clear hb))
          go_ret
          exact ⟨rfl, HR9.out.bel⟩
        · rw [if_pos (show true = true from rfl)]
          go_wp2_with (refine wpList_store_rowL rfl 26 (.tmp 9) (.tmp 54) rfl V3.heap.size (rL c).toArray rfl rfl 26 (rL r0).toArray (HR6.out.at 0 rfl) HAc.out (by rw [List.size_toArray, List.size_toArray, HLc.out]; rfl) HOc.out ?_; intro W3 hW; have HR7 : Hid _ := (HR6.out.put 0 rfl (rL c)); rw [← hW] at HR7; clear hW HR6)
          refine Calls.mono (HRU.out _ HR7.out.bel) ?_
          rintro e V4 ⟨c2, is2, rfl, ht2, hb⟩
          obtain ⟨rfl, rfl⟩ := TR.uniq HT1.out ht2
          have HR8 : Hid _ := (HR7.out.step hb).alloc V4.heap.size rfl 26 (rL r0)
          clear hb HR7 ht2 HT1
          go_wp2_with (first
            | (refine wpList_store_rowL rfl 26 (.tmp 11) (.tmp 59) rfl V4.heap.size (rL c).toArray rfl rfl 26 (rL r0).toArray (HR8.out.at 0 rfl) HAc.out (by rw [List.size_toArray, List.size_toArray, HLc.out]; rfl) HOc.out ?_; intro W4 hW; have HR9 : Hid _ := (HR8.out.put 0 rfl (rL c)); rw [← hW] at HR9; clear hW HR8)
            | (refine wpList_load_mid rfl 26 (.tmp 9) rfl V3.heap.size 0 rfl (rL c) _ (rangeAt_row (HR9.out.at 1 rfl)) Tryd.underlying26 rfl HIc.out ?_)
            | (refine wpList_load_mid rfl 26 (.tmp 11) rfl V4.heap.size 0 rfl (rL c) _ (rangeAt_row (HR9.out.at 0 rfl)) Tryd.underlying26 rfl HIc.out ?_)
            | (go_at_call 18; refine Calls.mono (hnm _ _) ?_; rintro e w1 ⟨rfl, rfl⟩)
            | (go_at_call 15; refine Calls.mono (HKN.out _ HR9.out.bel) ?_; rintro e X1 ⟨rfl, hb⟩; have HR9 : Hid _ := HR9.out.step hb; clear hb))
          go_ret
          exact ⟨rfl, HR9.out.bel⟩
set_option maxRecDepth 100000 in
theorem lifted (os : Os) (started : os.Started) (H : Type) (enc : TypeId × Value → H) :
    ReturnsInHanded {} Tryd.checked os 4 .any (fun w args => (Rows.reportReadsSpec.pre enc Tryd.prog Tryd.f4 [] false w args ∧ laidMetH Tryd.prog Rows.reportReadsRow.laid w) ∧ sizedMet enc Tryd.prog Tryd.f4 (OpenSpec.ofChange Rows.reportReadsSpec) false w args) (Rows.reportReadsSpec.post enc Tryd.prog Tryd.f4 false true false false) := by
  refine returnsInHanded_of_change_and (C := Tryd.checked) (X := fun w _ => laidMetH Tryd.prog Rows.reportReadsRow.laid w) (fun _ _ _ hh h => h.of_heap hh) own started (by kernel_rfl) Tryd.func4
    (ChangeSpec.witness_shaped (enc := enc) (C := Tryd.checked) (os := os) (X := fun w _ => laidMetH Tryd.prog Rows.reportReadsRow.laid w) false (World.doorLaid Tryd.prog 400 os) #[.slice none 0 0, .string ByteArray.empty] 8 rfl (World.shaped_of_RefB (by kernel_rfl) (by kernel_rfl)) (by kernel_rfl) (by kernel_rfl) (by kernel_rfl) (door_met os _)) ?_
  intro W base args ds gs before hval0 hW hcnd _ hL _
  have hval : ∀ (j : Nat) t v, Tryd.f4.params[j]? = some t → args[j]? = some v → Value.okWide Tryd.prog W .any base t v := hval0
  have hW' := hW
  obtain ⟨p, q, hA0, hV, rfl, hfz, hnd⟩ := hW
  have hA : DataW.TrodAll enc Tryd.prog W 0 (fun _ => true) true Tryd.f4.params.toList args.toList ds p := hA0
  rw [Tryd.params4] at hA hval
  obtain ⟨v0, vs0, d0, ds0, p0, q0, hargs, rfl, rfl, h0, r0⟩ := trodAll_cons hA
  obtain ⟨v1, vs1, d1, ds1, p1, q1, rfl, rfl, rfl, h1, r1⟩ := trodAll_cons r0
  obtain ⟨rfl, rfl, rfl⟩ := trodAll_nil r1
  obtain rfl : args = #[v0, v1] := by cases args; simp_all
  obtain ⟨rfl, rfl⟩ := trodVars_none hV
  obtain ⟨a0, len0, cap0, rfl⟩ := okWide_slice Tryd.underlying28 (hval 0 28 v0 rfl rfl)
  have k0 := h0
  have lt0 : ∀ x ∈ p0, x.block < W.heap.size := by obtain ⟨m, hm⟩ := k0; exact DataW.trod_lt m _ _ _ hm
  obtain ⟨l0, hl0, hm0⟩ : ∃ l, HB W (.slice a0 len0 cap0) l ∧ l.length ≤ 9223372036854775807 := by obtain ⟨fuel, hf⟩ := h0; exact open_bytes hf
  obtain ⟨s1, rfl, rfl, rfl, sm1⟩ := open_string Tryd.underlying9 (hval 1 9 v1 rfl rfl) h1
  clear hA0 hval0
  refine (walk _ l0 s1 W hm0 hl0 (of_laid hL)).mono fun e W' ⟨he, bel⟩ => ?_
  subst he
  exact ⟨_, rfl, _, _, _, [], _, [], hW', trodAll_mk1 (shut_bool Tryd.underlying4 _), (trodAll_cons_mk (Below.trod laidOut (by kernel_rfl) (of_decide_eq_true (by kernel_rfl)) k0 bel lt0) (trodAll_cons_mk (shut_string Tryd.underlying9 sm1) trodAll_mk0)), rfl, bel.frame _, fun h => by cases h⟩

theorem over : Rows.reportReadsRow.holds Tryd.pinned (OpenSpec.ofChange Rows.reportReadsSpec) :=
  OpenClaim.holds_of_wide 4 Tryd.f4 rfl rfl rfl rfl rfl rfl rfl ⟨rfl, rfl, rfl, rfl, rfl⟩ rfl rfl rfl rfl rfl (by kernel_rfl) Tryd.func4 (by kernel_rfl)
    (of_decide_eq_true (by kernel_rfl)) (by unfold Func.isWrapper; first | (rw [if_pos (by decide +kernel)]; kernel_rfl) | (rw [if_neg (by decide +kernel)]; exact ⟨rfl, rfl⟩))
    (fun os started H enc _ => lifted os started H enc)

theorem card : Rows.ReportReadsCardSaid :=
  Claim7.holds_tied_plain_at .later [] Rows.reportReadsCard.laidKinds true Rows.reportReadsCard.stood.harness Rows.reportReadsCard.stood.looks
    over (fun _ h => by cases h) (by kernel_rfl) (fun _ h => by cases h) reportReads_row_tie rfl ⟨rfl, rfl⟩ (by kernel_rfl) rfl
    (fun f fn hf hfn => by
      obtain rfl : f = 4 := Option.some.inj ((show Tryd.prog.funcNamed Rows.reportReadsRow.func = some 4 by kernel_rfl).symm.trans hf) |>.symm
      obtain rfl : fn = Tryd.f4 := (Option.some.inj (Tryd.func4.symm.trans hfn)).symm
      exact ⟨by kernel_rfl, fun j t ht => by
        rw [Tryd.params4] at ht
        have hm : t ∈ [28, 9] := by simpa using Array.mem_of_getElem? ht
        have hall : ([28, 9].all fun u => !Tryd.prog.wantsStandIn u) = true := by kernel_rfl
        exact (show Tryd.prog.wantsStandIn t = false by simpa using List.all_eq_true.1 hall t hm)⟩)
    (by kernel_rfl)
end Go.Proofs.YtpklboicgjpmeaaDoor.reportReads
namespace Go.Proofs.YtpklboicgjpmeaaDoor
theorem reportReads_holds : Rows.ReportReadsCardSaid := reportReads.card
#print axioms reportReads_holds
end Go.Proofs.YtpklboicgjpmeaaDoor
