/- ReportBits: for any report and any bit, the tables as the program's text lays them, the statement's function answers true. -/
import Derived.Test.YtpklboicgjpmeaaDoorTy
set_option linter.unusedVariables false
set_option linter.unusedSimpArgs false
namespace Go.Proofs.YtpklboicgjpmeaaDoor.reportBits
open Go.ChangeShapes Go.WideShapes Go.ChangeAt Go.RowKit
open Go.Proofs.YtpklboicgjpmeaaDoor.RB

set_option maxHeartbeats 16000000 in
set_option maxRecDepth 100000 in
theorem walk (a : Rp) (n : Int) (w : World) (ha : a.ok) (hn : (Lit.int .i64 n).wf = true) (hG : GV w) : Calls Tryd.prog 7 #[rV a, .int .i64 n] w fun e w' => e = .returned (.bool true) ∧ Below w.heap.size w w' := by
  clear hn
  have hz := zero_rp
  have hnm := num_any
  have hge := rp_ge
  have hgn := rp_gn
  have hbr := build_rp
  have HKN : Hid (∀ X, Below w.heap.size w X → Calls Tryd.prog 15 #[] X fun e w' => e = .returned (.bool true) ∧ Below X.heap.size X w') := fun X hb => known_any X (hG.below hb)
  have HB0 : Hid _ := (RS.start w).alloc _ rfl 26 (rL a)
  have HIa : Hid _ := infR ha
  by_cases h1 : n < 0
  · clear hG ha
    unfold rV
    go_enter Tryd.func7, Tryd.ntmps7
    go_wp2_with fail
    refine Calls.mono (HKN.out _ HB0.out.bel) ?_
    rintro e X1 ⟨rfl, hb⟩
    have HB1 : Hid _ := HB0.out.step hb
    clear hb
    go_wp2
    go_ret
    exact ⟨rfl, HB1.out.bel⟩
  by_cases h2 : (640 : Int) ≤ n
  · clear hG ha
    unfold rV
    go_enter Tryd.func7, Tryd.ntmps7
    go_wp2_with fail
    refine Calls.mono (HKN.out _ HB0.out.bel) ?_
    rintro e X1 ⟨rfl, hb⟩
    have HB1 : Hid _ := HB0.out.step hb
    clear hb
    go_wp2
    go_ret
    exact ⟨rfl, HB1.out.bel⟩
  obtain ⟨k, rfl⟩ : ∃ k : Nat, n = k := ⟨n.toNat, by omega⟩
  have hk : k < 640 := by omega
  have HPB : Hid (∀ X, Calls Tryd.prog 9 #[rV a] X _) := fun X => pbytes_any a ha X
  have hfl : flp (byt a) k = (byt a).set (k / 8) ((byt a).getD (k / 8) 0 ^^^ UInt8.ofNat (2 ^ (k % 8))) := rfl
  have hln := byt_len ha
  have hll := flp_len (byt a) k
  obtain ⟨i, hi⟩ : ∃ i, i = k / 8 := ⟨_, rfl⟩
  obtain ⟨j, hj⟩ : ∃ j, j = k % 8 := ⟨_, rfl⟩
  have hi8 : i < 80 := by omega
  have hj8 : j < 8 := by omega
  have hq : Int.tdiv (k : Int) 8 = (i : Int) := by rw [Int.tdiv_eq_ediv_of_nonneg (by omega)]; omega
  have hr : Int.tmod (k : Int) 8 = (j : Int) := by rw [Int.tmod_eq_emod_of_nonneg (by omega)]; omega
  have hw1 : IntKind.i64.wrap (i : Int) = (i : Int) := by rw [IntKind.wrap_i64]; omega
  have hw2 : IntKind.i64.wrap (j : Int) = (j : Int) := by rw [IntKind.wrap_i64]; omega
  have hw3 : IntKind.u64.wrap (j : Int) = (j : Int) := by rw [IntKind.wrap_u64]; omega
  have hsh := fun W => shl_1 j hj8 W
  have HBR : Hid (∃ r b, BR (flp (byt a) k) r b ∧ ((k < 64 ∧ r = r0 ∧ b = false) ∨ (64 ≤ k ∧ b = true ∧ byt r = flp (byt a) k ∧ r ≠ a))) := by
    by_cases h : k < 64
    · exact ⟨r0, false, flp_br ha h, .inl ⟨h, rfl, rfl⟩⟩
    · have := flp_yes (k := k) ha (by omega) hk
      exact ⟨_, true, this.1, .inr ⟨by omega, rfl, this.2⟩⟩
  have hc : ((byt a).map B8)[i]? = some (.int .u8 (((byt a).getD i 0).toNat : Int)) := by
    rw [List.getElem?_map, List.getElem?_eq_getElem (by omega)]; simp [B8, List.getD, List.getElem?_eq_getElem (show i < (byt a).length by omega)]
  have hst : ((byt a).map B8).set i (.int .u8 ((((byt a).getD i 0 ^^^ UInt8.ofNat (2 ^ j)).toNat : Nat) : Int)) = (flp (byt a) k).map B8 := by
    rw [hfl, ← hi, ← hj]
    exact (List.map_set (f := B8)).symm
  have hp : (((UInt8.ofNat (2 ^ j)).toNat : Nat) : Int) = (2 : Int) ^ j % 256 := by
    have : j = 0 ∨ j = 1 ∨ j = 2 ∨ j = 3 ∨ j = 4 ∨ j = 5 ∨ j = 6 ∨ j = 7 := by omega
    rcases this with h | h | h | h | h | h | h | h <;> rw [h] <;> rfl
  have hx := xor_u8 ((byt a).getD i 0) (UInt8.ofNat (2 ^ j))
  rw [hp] at hx
  clear hp
  have hml : ((byt a).map B8).length = 80 := by rw [List.length_map, hln]
  rw [hln] at hll
  clear hfl
  generalize flp (byt a) k = FL at *
  generalize (byt a).getD i 0 = C at *
  generalize UInt8.ofNat (2 ^ j) = P at *
  generalize hXX : C ^^^ P = XX at *
  generalize (byt a).map B8 = BL at *
  have HC : Hid _ := hc
  have HST : Hid _ := hst
  have HML : Hid _ := hml
  have HLL : Hid _ := hll
  have HG : Hid _ := hG
  have HA : Hid _ := ha
  clear hc hst hml hll hG hXX hln ha hi hj
  unfold rV
  go_enter Tryd.func7, Tryd.ntmps7
  go_wp2_with (refine wpList_load_mid rfl 26 (.tmp 2) rfl w.heap.size 0 rfl (rL a) _ (rangeAt_row (HB0.out.at 0 rfl)) Tryd.underlying26 rfl HIa.out ?_)
  refine Calls.mono (HPB.out _) ?_
  rintro e V1 ⟨g, rfl, hg, hb, hrw⟩
  have HR1 : Hid _ := HB0.out.add hb hg hrw
  clear hg hb hrw HPB HB0
  have hc1 : V1.cell? ⟨g, i, none⟩ = some (.int .u8 (C.toNat : Int)) := HR1.out.cell 0 rfl i HC.out
  have hfz := frozen_of_row _ _ i _ _ (HR1.out.at 0 rfl)
  go_wp2_with fail
  have HR2 : Hid _ := HR1.out.poke 0 rfl i _ HST.out
  clear hc1 HR1 hfz
  generalize World.setCell V1 _ _ = W1 at *
  refine Calls.mono (pof_any _ FL _ (hb_range (cap := 80) 80 HLL.out.symm (by rw [HLL.out]; decide) (by decide) (rangeAt_row (HR2.out.at 0 rfl)))) ?_
  rintro e V2 ⟨r, b, rfl, hb2, hb⟩
  have HR3 : Hid _ := (HR2.out.step hb).alloc V2.heap.size rfl 26 (rL r0)
  clear hb HR2
  obtain ⟨r', b', hb3, hcs⟩ := HBR.out
  obtain ⟨rfl, rfl⟩ := BR.uniq hb2 hb3
  have hrok := hb2.ok
  have HAr : Hid _ := infRA hrok
  have HIr : Hid _ := infR hrok
  have HLr : Hid _ := rL_len hrok
  have HOr : Hid _ := rL_one r
  have HROK : Hid _ := hrok
  clear hb2 hb3 HBR hrok
  rcases hcs with ⟨hk6, rfl, rfl⟩ | ⟨hk6, rfl, hby, hne⟩
  · have hq0 : ∀ W, (binOp .eql 26 (.agg (rL r0).toArray) (.agg (rL r0).toArray)).run Tryd.prog W = .ok (.bool true) W := fun W => by rw [rp_eq r0 r0 r0_ok r0_ok, rpE_self]
    go_wp2_with (first
      | (refine wpList_store_rowL rfl 26 (.tmp 6) (.tmp 37) rfl V2.heap.size (rL r0).toArray rfl rfl 26 (rL r0).toArray (HR3.out.at 0 rfl) HAr.out rfl HOr.out ?_; intro W2 hW; have HR4 : Hid _ := (HR3.out.put 0 rfl (rL r0)); rw [← hW] at HR4; clear hW HR3)
      | (refine wpList_load_mid rfl 26 (.tmp 6) rfl V2.heap.size 0 rfl (rL r0) _ (rangeAt_row (HR4.out.at 0 rfl)) Tryd.underlying26 rfl HIr.out ?_)
      | (go_at_call 18; refine Calls.mono (hnm _ _) ?_; rintro e w1 ⟨rfl, rfl⟩)
      | (go_at_call 15; refine Calls.mono (HKN.out _ HR4.out.bel) ?_; rintro e X1 ⟨rfl, hb⟩; have HR4 : Hid _ := HR4.out.step hb; clear hb))
    go_ret
    exact ⟨rfl, HR4.out.bel⟩
  · have hnn : ∀ W, (binOp .neq 26 (.agg (rL r).toArray) (.agg (rL a).toArray)).run Tryd.prog W = .ok (.bool true) W := fun W => by rw [rp_ne r a HROK.out HA.out, RB.rpE_ne hne]; rfl
    have HBY : Hid _ := hby
    have HPR : Hid (∀ X, Calls Tryd.prog 9 #[rV r] X _) := fun X => pbytes_any r HROK.out X
    have HRB : Hid ((byt r).length = 80) := byt_len HROK.out
    clear hby hne
    go_wp2_with (first
      | (refine wpList_store_rowL rfl 26 (.tmp 6) (.tmp 37) rfl V2.heap.size (rL r).toArray rfl rfl 26 (rL r0).toArray (HR3.out.at 0 rfl) HAr.out (by rw [List.size_toArray, List.size_toArray, HLr.out]; rfl) HOr.out ?_; intro W2 hW; have HR4 : Hid _ := (HR3.out.put 0 rfl (rL r)); rw [← hW] at HR4; clear hW HR3)
      | (refine load_mid_g (by rfl) 26 (.tmp 6) rfl V2.heap.size 0 rfl (rL r) _ (rangeAt_row (HR4.out.at 0 rfl)) Tryd.underlying26 rfl HIr.out ?_)
      | (refine load_mid_g (by rfl) 26 (.tmp 2) rfl w.heap.size 0 rfl (rL a) _ (rangeAt_row (HR4.out.at 2 rfl)) Tryd.underlying26 rfl HIa.out ?_)
      | (go_at_call 18; refine Calls.mono (hnm _ _) ?_; rintro e w1 ⟨rfl, rfl⟩)
      | (go_at_call 9; refine Calls.mono (HPR.out _) ?_; rintro e V3 ⟨g3, rfl, hg, hb, hrw⟩; have HR5 : Hid _ := HR4.out.add hb hg hrw; clear hg hb hrw HR4)
      | (go_at_call 15; refine Calls.mono (HKN.out _ HR5.out.bel) ?_; rintro e X1 ⟨rfl, hb⟩; have HR5 : Hid _ := HR5.out.step hb; clear hb)
      | (go_at_call 8; refine Calls.mono (rsame_any _ _ (byt r) FL _ (hb_range (cap := 80) 80 HRB.out.symm (by rw [HRB.out]; decide) (by decide) (rangeAt_row (HR5.out.at 0 rfl))) (hb_range (cap := 80) 80 HLL.out.symm (by rw [HLL.out]; decide) (by decide) (rangeAt_row (HR5.out.at 2 rfl)))) ?_; rw [decide_eq_true HBY.out]; rintro e w1 ⟨rfl, rfl⟩))
    go_ret
    exact ⟨rfl, HR5.out.bel⟩
set_option maxRecDepth 100000 in
theorem lifted (os : Os) (started : os.Started) (H : Type) (enc : TypeId × Value → H) :
    ReturnsInHanded {} Tryd.checked os 7 .any (fun w args => (Rows.reportBitsSpec.pre enc Tryd.prog Tryd.f7 [] false w args ∧ laidMetH Tryd.prog Rows.reportBitsRow.laid w) ∧ sizedMet enc Tryd.prog Tryd.f7 (OpenSpec.ofChange Rows.reportBitsSpec) false w args) (Rows.reportBitsSpec.post enc Tryd.prog Tryd.f7 false true false false) := by
  refine returnsInHanded_of_change_and (C := Tryd.checked) (X := fun w _ => laidMetH Tryd.prog Rows.reportBitsRow.laid w) (fun _ _ _ hh h => h.of_heap hh) own started (by kernel_rfl) Tryd.func7
    (ChangeSpec.witness_shaped (enc := enc) (C := Tryd.checked) (os := os) (X := fun w _ => laidMetH Tryd.prog Rows.reportBitsRow.laid w) false (World.doorLaid Tryd.prog 400 os) #[.agg (#[.int .u64 0] ++ Array.replicate 64 (.int .u8 0)), .int .i64 0] 8 rfl (World.shaped_of_RefB (by kernel_rfl) (by kernel_rfl)) (by kernel_rfl) (by kernel_rfl) (by kernel_rfl) (door_met os _)) ?_
  intro W base args ds gs before hval0 hW hcnd _ hL _
  have hval : ∀ (j : Nat) t v, Tryd.f7.params[j]? = some t → args[j]? = some v → Value.okWide Tryd.prog W .any base t v := hval0
  have hW' := hW
  obtain ⟨p, q, hA0, hV, rfl, hfz, hnd⟩ := hW
  have hA : DataW.TrodAll enc Tryd.prog W 0 (fun _ => true) true Tryd.f7.params.toList args.toList ds p := hA0
  rw [Tryd.params7] at hA hval
  obtain ⟨v0, vs0, d0, ds0, p0, q0, hargs, rfl, rfl, h0, r0⟩ := trodAll_cons hA
  obtain ⟨v1, vs1, d1, ds1, p1, q1, rfl, rfl, rfl, h1, r1⟩ := trodAll_cons r0
  obtain ⟨rfl, rfl, rfl⟩ := trodAll_nil r1
  obtain rfl : args = #[v0, v1] := by cases args; simp_all
  obtain ⟨rfl, rfl⟩ := trodVars_none hV
  have k0 := h0
  have lt0 : ∀ x ∈ p0, x.block < W.heap.size := by obtain ⟨m, hm⟩ := k0; exact DataW.trod_lt m _ _ _ hm
  obtain ⟨xs0, rfl⟩ := RB.okWide_str Tryd.underlying26 (hval 0 26 v0 rfl rfl)
  obtain ⟨R0, rfl, hl0⟩ : ∃ r : RB.Rp, xs0 = (RB.rL r).toArray ∧ r.ok := by obtain ⟨fuel, hf⟩ := h0; obtain ⟨s, e, h1⟩ := RB.open_rp hf; exact ⟨s, by rw [← Array.toList_inj]; exact e, h1⟩
  obtain ⟨n1, rfl, rfl, rfl, w1⟩ := open_int Tryd.underlying3 (hval 1 3 v1 rfl rfl) h1
  clear hA0 hval0
  refine (walk R0 n1 W hl0 w1 (of_laid hL)).mono fun e W' ⟨he, bel⟩ => ?_
  subst he
  exact ⟨_, rfl, _, _, _, [], _, [], hW', trodAll_mk1 (shut_bool Tryd.underlying4 _), (trodAll_cons_mk (Below.trod laidOut (by kernel_rfl) (of_decide_eq_true (by kernel_rfl)) k0 bel lt0) (trodAll_cons_mk (shut_int Tryd.underlying3 w1) trodAll_mk0)), rfl, bel.frame _, fun h => by cases h⟩

theorem over : Rows.reportBitsRow.holds Tryd.pinned (OpenSpec.ofChange Rows.reportBitsSpec) :=
  OpenClaim.holds_of_wide 7 Tryd.f7 rfl rfl rfl rfl rfl rfl rfl ⟨rfl, rfl, rfl, rfl, rfl⟩ rfl rfl rfl rfl rfl (by kernel_rfl) Tryd.func7 (by kernel_rfl)
    (of_decide_eq_true (by kernel_rfl)) (by unfold Func.isWrapper; first | (rw [if_pos (by decide +kernel)]; kernel_rfl) | (rw [if_neg (by decide +kernel)]; exact ⟨rfl, rfl⟩))
    (fun os started H enc _ => lifted os started H enc)

theorem card : Rows.ReportBitsCardSaid :=
  Claim7.holds_tied_plain_at .later [] Rows.reportBitsCard.laidKinds true Rows.reportBitsCard.stood.harness Rows.reportBitsCard.stood.looks
    over (fun _ h => by cases h) (by kernel_rfl) (fun _ h => by cases h) reportBits_row_tie rfl ⟨rfl, rfl⟩ (by kernel_rfl) rfl
    (fun f fn hf hfn => by
      obtain rfl : f = 7 := Option.some.inj ((show Tryd.prog.funcNamed Rows.reportBitsRow.func = some 7 by kernel_rfl).symm.trans hf) |>.symm
      obtain rfl : fn = Tryd.f7 := (Option.some.inj (Tryd.func7.symm.trans hfn)).symm
      exact ⟨by kernel_rfl, fun j t ht => by
        rw [Tryd.params7] at ht
        have hm : t ∈ [26, 3] := by simpa using Array.mem_of_getElem? ht
        have hall : ([26, 3].all fun u => !Tryd.prog.wantsStandIn u) = true := by kernel_rfl
        exact (show Tryd.prog.wantsStandIn t = false by simpa using List.all_eq_true.1 hall t hm)⟩)
    (by kernel_rfl)
end Go.Proofs.YtpklboicgjpmeaaDoor.reportBits
namespace Go.Proofs.YtpklboicgjpmeaaDoor
theorem reportBits_holds : Rows.ReportBitsCardSaid := reportBits.card
#print axioms reportBits_holds
end Go.Proofs.YtpklboicgjpmeaaDoor
