/- RecForms: for whatever comes in and is told, and any granule, the statement's function answers true. No condition. -/
import Derived.Test.YtpdafjamhccbnaaCX
import Derived.Deep.CutRange
set_option linter.unusedVariables false
set_option linter.unusedSimpArgs false
namespace Go.Proofs.Ytpdafjamhccbnaa.recForms
open Go.ChangeShapes Go.WideShapes Go.ChangeAt Go.RowKit
open Go.Proofs.Ytpdafjamhccbnaa.VC

def zst (G : List UInt8) (k : Nat) : Ot := ⟨(zz G).re, (zz G).ns.take k ++ List.replicate (4 - k) 0, (zz G).ad, (zz G).wr, (zz G).ran⟩
theorem zst_len (G : List UInt8) (k : Nat) (hk : k ≤ 4) : (zst G k).ns.length = 4 := by
  show ((zz G).ns.take k ++ List.replicate (4 - k) 0).length = 4
  have := (zz_ok G).n.len
  simp [this]; omega
theorem zst_4 (G : List UInt8) : oL (zst G 4) = oL (zz G) := by
  have h := (zz_ok G).n.len
  have e : (zz G).ns.take 4 ++ List.replicate (4 - 4) 0 = (zz G).ns := by rw [List.take_of_length_le (by omega)]; simp
  unfold zst
  rw [e]
theorem zst_set (G : List UInt8) (k : Nat) (hk : k < 4) : (oL (zst G k)).set (1 + k) (.int .u64 (wo G (1 + k))) = oL (zst G (k + 1)) := by
  have hw : wo G (1 + k) = (zz G).ns.getD k 0 := by
    show _ = (((ws G).drop 1).take 4).getD k 0
    rw [List.getD, List.getElem?_take_of_lt hk, List.getElem?_drop, ← List.getD, ws_get G (1 + k) (by omega)]
  rw [hw]
  obtain ⟨a, b, c, d, h⟩ := four (zz_ok G).n.len
  unfold zst
  rw [h]
  have : k = 0 ∨ k = 1 ∨ k = 2 ∨ k = 3 := by omega
  rcases this with rfl | rfl | rfl | rfl <;> rfl
theorem RS_tail {w X : World} {r : Nat × TypeId × List Value} {rows : List (Nat × TypeId × List Value)} (h : RS w (r :: rows) X) : RS w rows X :=
  ⟨h.bel, fun q hq => h.low q (List.mem_cons_of_mem _ hq), (List.nodup_cons.1 (by simpa using h.nd)).2, fun q hq => h.row q (List.mem_cons_of_mem _ hq)⟩
set_option maxHeartbeats 2000000 in
set_option maxRecDepth 100000 in
theorem walk (ns : List Int) (o : Ot) (G : List UInt8) (w : World) (hn : nok ns) (ho : ook o) (hG : G.length = 128) : Calls Try.prog 5 #[.agg (ns.map U).toArray, .agg (oL o).toArray, .agg (G.map B8).toArray] w fun e w' => e = .returned (.bool true) ∧ Below w.heap.size w w' := by
  have h4 := hn.len
  have hz := zero_gr
  rw [← z_gr] at hz
  obtain ⟨ZL, hZL⟩ : ∃ L, L = (gr Z16).map B8 := ⟨_, rfl⟩
  have HZN : Hid (ZL.length = 128) := by show _ = _; rw [hZL, List.length_map, z_gr, z128_len]
  rw [← hZL] at hz
  have hzi := zero4i
  obtain ⟨ZI, hZI⟩ : ∃ L, L = Z4.map U := ⟨_, rfl⟩
  have HZI : Hid (ZI.length = 4) := by rw [hZI]; rfl
  rw [← hZI] at hzi
  have HR : Hid (RS w [(w.heap.size + 1 + 1 + 1, 45, (gr (sti ns 0)).map B8), (w.heap.size + 1 + 1, 45, G.map B8), (w.heap.size + 1, 40, oL o), (w.heap.size, 31, ns.map U)] ((((w.alloc (.cells (ns.map U).toArray 31 (0, 0))).alloc (.cells (oL o).toArray 40 (0, 0))).alloc (.cells (G.map B8).toArray 45 (0, 0))).alloc (.cells ZL.toArray 45 (0, 0)))) := by
    rw [sti_0, ← hZL]; exact ((((RS.start w).alloc _ rfl 31 (ns.map U)).alloc (w.heap.size + 1) (by simp) 40 (oL o)).alloc (w.heap.size + 1 + 1) (by simp) 45 (G.map B8)).alloc (w.heap.size + 1 + 1 + 1) (by simp) 45 ZL
  have HIB : Hid (∀ W, Calls Try.prog 13 #[.agg (ns.map U).toArray] W fun e w' => e = .returned (.agg ((gr (ns ++ Z12)).map B8).toArray) ∧ Below W.heap.size W w') := fun W => inBytes_any ns hn W
  have HIO : Hid (∀ W, Calls Try.prog 14 #[.agg ((gr (ns ++ Z12)).map B8).toArray] W fun e w' => e = .returned (.tuple #[.agg (ns.map U).toArray, .int .i64 0]) ∧ Below W.heap.size W w') := fun W => by
    have q := inOf_any (gr (ns ++ Z12)) (by rw [gr_len, in_len h4]) W
    rw [inF_gr hn, inN_gr hn] at q
    exact q
  have HE1 : Hid (∀ W, (Op.equalIn 10000 45 (.agg ((gr (ns ++ Z12)).map B8).toArray) (.agg ((gr (ns ++ Z12)).map B8).toArray)).run Try.prog W = .ok true W) := fun W => eq_gr W _ _ (by rw [gr_len, in_len h4]) (by rw [gr_len, in_len h4]) true (by simp)
  have HE2 : Hid (∀ W, (Op.equalIn 10000 31 (.agg (ns.map U).toArray) (.agg (ns.map U).toArray)).run Try.prog W = .ok true W) := fun W => eq_in W ns h4
  have HS4 : Hid ((gr (sti ns 4)).map B8 = (gr (ns ++ Z12)).map B8) := by show _ = _; rw [sti_4 h4]
  have HSL : Hid (∀ k, k ≤ 4 → (sti ns k).length = 16) := fun k hk => sti_len h4 k hk
  have HSS : Hid (∀ k, k < 4 → (sti ns k).set k (ns.getD k 0) = sti ns (k + 1)) := fun k hk => sti_set h4 k hk
  have HNK : Hid (∀ k, k < 4 → u64 (ns.getD k 0) ∧ (ns.map U)[k]? = some (.int .u64 (ns.getD k 0))) := fun k hk => ⟨getD_u hn.r k (by omega), U_get ns k (by omega)⟩
  have HIL : Hid ((ns.map U).length = 4) := by show _ = _; simpa using h4
  have HI1 : Hid _ := onea (U_one ns)
  have HAL : Hid (((gr (ns ++ Z12)).map B8).length = 128) := by show _ = _; rw [List.length_map, gr_len, in_len h4]
  have HXL : Hid ((((if inF G = true then inN G else Z4).map U).length = 4)) := by
    show _ = _
    rw [List.length_map]; split
    · exact (inN_ok G).len
    · rfl
  have HX1 : Hid _ := onea (U_one (if inF G = true then inN G else Z4))
  have HIG : Hid (∀ W, Calls Try.prog 14 #[.agg (G.map B8).toArray] W fun e w' => e = .returned (.tuple #[.agg ((if inF G = true then inN G else Z4).map U).toArray, .int .i64 (if inF G = true then 0 else 4)]) ∧ Below W.heap.size W w') := fun W => inOf_any G hG W
  have HXF : Hid (inF G = false → (if inF G = true then inN G else Z4).map U = ZI ∧ (if inF G = true then (0 : Int) else 4) = 4) := fun h => by rw [h, hZI]; exact ⟨rfl, rfl⟩
  have HEF : Hid (inF G = false → ∀ W, (Op.equalIn 10000 31 (.agg ((if inF G = true then inN G else Z4).map U).toArray) (.agg ZI.toArray)).run Try.prog W = .ok true W) := fun h W => by rw [h, hZI]; exact eq_in W Z4 rfl
  have HEG : Hid (∀ W, (Op.equalIn 10000 45 (.agg (G.map B8).toArray) (.agg (G.map B8).toArray)).run Try.prog W = .ok true W) := fun W => eq_gr W G G hG hG true (by simp)
  have HBI : Hid (∀ W, (Instr.build 31 #[]).run Try.prog W = .ok (.agg ZI.toArray) W) := fun W => by rw [hZI]; exact bld4i W
  have HXT : Hid (inF G = true → (∀ W, Calls Try.prog 13 #[.agg ((if inF G = true then inN G else Z4).map U).toArray] W fun e w' => e = .returned (.agg (G.map B8).toArray) ∧ Below W.heap.size W w') ∧ (if inF G = true then (0 : Int) else 4) = 0) := fun h => by
    rw [h]
    refine ⟨fun W => ?_, rfl⟩
    have q := inBytes_any (inN G) (inN_ok G) W
    have e : gr (inN G ++ Z12) = G := by unfold inF at h; simpa using h
    rw [e] at q
    exact q
  have HFZ : Hid (∀ k, 32 ≤ k → k < 128 → fz G (k + 1) = (fz G k && (G.getD k 0 == 0)) ∧ (G.map B8)[k]? = some (.int .u8 ((G.getD k 0).toNat : Int))) := fun k h1 h2 => ⟨fz_step G k h1, by
    have h3 : k < G.length := by omega
    rw [List.getElem?_map, List.getElem?_eq_getElem h3]; simp [B8, List.getD, List.getElem?_eq_getElem h3]⟩
  have HF0 : Hid _ := fz_32 G
  have HF1 : Hid _ := fz_all G hG
  have HGL : Hid ((G.map B8).length = 128) := by show _ = _; rw [List.length_map]; exact hG
  have HOL : Hid _ := oL_len ho.n.len
  have HO1 : Hid _ := oL_one o
  have hzo := zero8
  obtain ⟨ZO, hZO⟩ : ∃ L, L = oL o0 := ⟨_, rfl⟩
  have HZON : Hid (ZO.length = 8) := by rw [hZO]; rfl
  have HZO1 : Hid (ZO.toArray.all (·.oneCell') = true) := by show _ = _; rw [hZO]; exact oL_one o0
  rw [← hZO] at hzo
  have HMY : Hid (∀ W, Calls Try.prog 16 #[.agg (oL o).toArray] W fun e w' => e = .returned (.bool (VC.mt o)) ∧ Below W.heap.size W w') := fun W => lmay_any o ho W
  have HZ1 : Hid (ZL.toArray.all (·.oneCell') = true) := by show _ = _; rw [hZL]; exact B8_onea _
  have HBG : Hid (∀ W, (Instr.build 45 #[]).run Try.prog W = .ok (.agg ZL.toArray) W) := fun W => by rw [hZL, z_gr]; exact build_gr W
  have HEZ : Hid (∀ W, (Op.equalIn 10000 45 (.agg ZL.toArray) (.agg ZL.toArray)).run Try.prog W = .ok true W) := fun W => by rw [hZL]; exact eq_gr W _ _ (by rw [z_gr, z128_len]) (by rw [z_gr, z128_len]) true (by simp)
  have HNO : Hid (VC.mt o = false → ∀ W, Calls Try.prog 15 #[.agg (oL o).toArray] W fun e w' => e = .returned (.tuple #[.agg ZL.toArray, .int .i64 2]) ∧ Below W.heap.size W w') := fun h W => by rw [hZL, z_gr]; exact outBytes_bad o ho h W
  have HYO : Hid (VC.mt o = true → ∃ BL : List Value, BL.length = 128 ∧ BL.toArray.all (·.oneCell') = true ∧ (∀ W, (Op.equalIn 10000 45 (.agg BL.toArray) (.agg BL.toArray)).run Try.prog W = .ok true W) ∧ (∀ W, Calls Try.prog 15 #[.agg (oL o).toArray] W fun e w' => e = .returned (.tuple #[.agg BL.toArray, .int .i64 0]) ∧ Below W.heap.size W w') ∧ (∀ W, Calls Try.prog 17 #[.agg (oL o).toArray] W fun e w' => e = .returned (.agg BL.toArray) ∧ Below W.heap.size W w') ∧ (∀ W, Calls Try.prog 18 #[.agg BL.toArray] W fun e w' => e = .returned (.tuple #[.agg (oL o).toArray, .int .i64 0]) ∧ Below W.heap.size W w')) := fun h => by
    have hl : (gr (ow o)).length = 128 := by rw [gr_len, ow_len ho.n.len]
    refine ⟨(gr (ow o)).map B8, by rw [List.length_map, hl], B8_onea _, fun W => eq_gr W _ _ hl hl true (by simp), fun W => outBytes_ok o ho h W, fun W => lout_any o ho h W, fun W => ?_⟩
    have q := outOf_any (gr (ow o)) hl W
    rw [ooF_gr ho h, oo_gr ho h] at q
    exact q
  have HEO : Hid (∀ W, (Op.equalIn 10000 40 (.agg (oL o).toArray) (.agg (oL o).toArray)).run Try.prog W = .ok true W) := fun W => eq_out W o o ho.n.len ho.n.len true (by simp [otE])
  have HOG : Hid (∀ W, Calls Try.prog 18 #[.agg (G.map B8).toArray] W fun e w' => e = .returned (.tuple #[.agg (oL (if ooF G = true then oo G else o0)).toArray, .int .i64 (if ooF G = true then 0 else 4)]) ∧ Below W.heap.size W w') := fun W => outOf_any G hG W
  have HMZ : Hid (∀ W, Calls Try.prog 16 #[.agg (oL (zz G)).toArray] W fun e w' => e = .returned (.bool (VC.mt (zz G))) ∧ Below W.heap.size W w') := fun W => lmay_any (zz G) (zz_ok G) W
  have HLZ : Hid (VC.mt (zz G) = true → ∀ W, Calls Try.prog 17 #[.agg (oL (zz G)).toArray] W fun e w' => e = .returned (.agg ((gr (ow (zz G))).map B8).toArray) ∧ Below W.heap.size W w') := fun h W => lout_any (zz G) (zz_ok G) h W
  have HEQ : Hid (∀ W, (Op.equalIn 10000 45 (.agg ((gr (ow (zz G))).map B8).toArray) (.agg (G.map B8).toArray)).run Try.prog W = .ok (gr (ow (zz G)) == G) W) := fun W => eq_gr W _ _ (by rw [gr_len, ow_len (zz_ok G).n.len]) hG _ rfl
  have HYES : Hid (VC.mt (zz G) = true → (gr (ow (zz G)) == G) = true → (if ooF G = true then (0 : Int) else 4) = 0 ∧ oL (if ooF G = true then oo G else o0) = oL (zz G)) := fun h1 h2 => by
    obtain ⟨h3, h4⟩ := zz_yes G h1 (by simpa using h2)
    rw [h3, h4]; exact ⟨rfl, rfl⟩
  have HNOO : Hid ((VC.mt (zz G) && (gr (ow (zz G)) == G)) = false → (if ooF G = true then (0 : Int) else 4) = 4 ∧ oL (if ooF G = true then oo G else o0) = oL o0) := fun h => by
    rw [zz_no G h]; exact ⟨rfl, rfl⟩
  have HEZZ : Hid (∀ W, (Op.equalIn 10000 40 (.agg (oL (zz G)).toArray) (.agg (oL (zz G)).toArray)).run Try.prog W = .ok true W) := fun W => eq_out W (zz G) (zz G) (zz_ok G).n.len (zz_ok G).n.len true (by simp [otE])
  have HEZO : Hid (∀ W, (Op.equalIn 10000 40 (.agg (oL o0).toArray) (.agg (oL o0).toArray)).run Try.prog W = .ok true W) := fun W => eq_out W o0 o0 rfl rfl true (by simp [otE])
  have HBO : Hid (∀ W, (Instr.build 40 #[]).run Try.prog W = .ok (.agg (oL o0).toArray) W) := bld8
  have HYL : Hid ((oL (if ooF G = true then oo G else o0)).length = 8) := by
    show _ = _
    split
    · exact oL_len (oo_ok G).n.len
    · rfl
  have HY1 : Hid _ := oL_one (if ooF G = true then oo G else o0)
  have HZZN : Hid _ := oL_len (zz_ok G).n.len
  have HKN : Hid (∀ W, Calls Try.prog 10 #[] W fun e w' => e = .returned (.bool true) ∧ Below W.heap.size W w') := fun W => known_any W
  obtain ⟨ZS, hZS⟩ : ∃ f : Nat → List Value, f = fun k => oL (zst G k) := ⟨_, rfl⟩
  have HS0 : Hid (ZS 0 = oL (zst G 0)) := by show _ = _; rw [hZS]
  have HS4z : Hid (ZS 4 = oL (zz G)) := by show _ = _; rw [hZS]; exact zst_4 G
  have HSP : Hid (∀ k, k < 4 → (ZS k).length = 8 ∧ (ZS k).set (1 + k) (.int .u64 (wo G (1 + k))) = ZS (k + 1)) := fun k hk => by rw [hZS]; exact ⟨oL_len (zst_len G k (by omega)), zst_set G k hk⟩
  clear hZS
  rw [← hZO] at HNOO HEZO HBO
  generalize oL (if ooF G = true then oo G else o0) = YL at *
  generalize (if ooF G = true then (0 : Int) else 4) = EF at *
  generalize VC.mt (zz G) = MZ at *
  generalize (gr (ow (zz G)) == G) = BZ at *
  generalize (gr (ow (zz G))).map B8 = OZ at *
  generalize oL (zz G) = ZZL at *
  have HWD : Hid (∀ k, k < 16 → ∀ W, Calls Try.prog 19 #[.agg (G.map B8).toArray, .int .i64 (k : Nat)] W fun e w' => e = .returned (.int .u64 (wo G k)) ∧ Below W.heap.size W w') := fun k hk W => lword_any G k hG hk W
  have HW0 : Hid (∀ W, Calls Try.prog 19 #[.agg (G.map B8).toArray, .int .i64 0] W fun e w' => e = .returned (.int .u64 (wo G 0)) ∧ Below W.heap.size W w') := fun W => lword_any G 0 hG (by decide) W
  have HW5 : Hid (∀ W, Calls Try.prog 19 #[.agg (G.map B8).toArray, .int .i64 5] W fun e w' => e = .returned (.int .u64 (wo G 5)) ∧ Below W.heap.size W w') := fun W => lword_any G 5 hG (by decide) W
  have HW6 : Hid (∀ W, Calls Try.prog 19 #[.agg (G.map B8).toArray, .int .i64 6] W fun e w' => e = .returned (.int .u64 (wo G 6)) ∧ Below W.heap.size W w') := fun W => lword_any G 6 hG (by decide) W
  have HW7 : Hid (∀ W, Calls Try.prog 19 #[.agg (G.map B8).toArray, .int .i64 7] W fun e w' => e = .returned (.int .u64 (wo G 7)) ∧ Below W.heap.size W w') := fun W => lword_any G 7 hG (by decide) W
  have HBZ : Hid (∀ W, (Instr.build 40 #[(0, .int .i64 (wo G 0 % 8)), (2, .int .u64 (wo G 5)), (3, .bool (wo G 6 == 1)), (4, .int .i64 (wo G 7 % 20000))]).run Try.prog W = .ok (.agg (oL (zst G 0)).toArray) W) := fun W => bldO _ _ _ _ W
  have HZ0N : Hid _ := oL_len (o := zst G 0) (zst_len G 0 (by decide))
  have HZ01 : Hid _ := oL_one (zst G 0)
  have hu0 := wo_u G 0
  have hu7 := wo_u G 7
  obtain ⟨c0, hc0⟩ : ∃ c, wo G 0 = c := ⟨_, rfl⟩
  obtain ⟨c5, hc5⟩ : ∃ c, wo G 5 = c := ⟨_, rfl⟩
  obtain ⟨c6, hc6⟩ : ∃ c, wo G 6 = c := ⟨_, rfl⟩
  obtain ⟨c7, hc7⟩ : ∃ c, wo G 7 = c := ⟨_, rfl⟩
  rw [hc0] at HW0 hu0
  rw [hc5] at HW5
  rw [hc6] at HW6
  rw [hc7] at HW7 hu7
  rw [hc0, hc5, hc6, hc7] at HBZ
  obtain ⟨r0, hr0⟩ : ∃ c, c0 % 8 = c := ⟨_, rfl⟩
  obtain ⟨r7, hr7⟩ : ∃ c, c7 % 20000 = c := ⟨_, rfl⟩
  obtain ⟨b6, hb6⟩ : ∃ c, (c6 == 1) = c := ⟨_, rfl⟩
  rw [hr0, hr7, hb6] at HBZ
  have hr0a : c0.tmod 8 = r0 := by rw [← hr0]; exact Int.tmod_eq_emod_of_nonneg hu0.1
  have hr7a : c7.tmod 20000 = r7 := by rw [← hr7]; exact Int.tmod_eq_emod_of_nonneg hu7.1
  have hr0b : IntKind.i64.wrap r0 = r0 := by rw [IntKind.wrap_i64]; omega
  have hr7b : IntKind.i64.wrap r7 = r7 := by rw [IntKind.wrap_i64]; omega
  clear hu0 hu7 hc0 hc5 hc6 hc7
  generalize oL (zst G 0) = ZL0 at *
  generalize hMT : VC.mt o = MT at *
  generalize (if inF G = true then inN G else Z4).map U = XL at *
  generalize (if inF G = true then (0 : Int) else 4) = EC at *
  obtain ⟨ST, hST⟩ : ∃ S : Nat → List Int, S = sti ns := ⟨_, rfl⟩
  rw [← hST] at HR HS4
  simp only [← hST] at HSL HSS
  generalize (gr (ns ++ Z12)).map B8 = AL at *
  generalize ns.map U = IL at *
  generalize oL o = OL at *
  generalize hGL : G.map B8 = GL at *
  clear hZL hZI h4 hn hST hZO hMT ho
  go_enter Try.func5, Try.ntmps5
  go_wp2
  go_loopw [8] (fun i wr => ∃ k : Nat, k ≤ 4 ∧ i = .int .i64 k ∧ RS w [(w.heap.size + 1 + 1 + 1, 45, (gr (ST k)).map B8), (w.heap.size + 1 + 1, 45, GL), (w.heap.size + 1, 40, OL), (w.heap.size, 31, IL)] wr) (fun i _ => 4 - (intOf i).toNat)
  case atStart => exact ⟨0, by omega, rfl, HR.out⟩
  case round =>
    obtain ⟨k, hk, rfl, hR⟩ := hrel
    clear HR
    by_cases hlt : k < 4
    · obtain ⟨hu, hg⟩ := HNK.out k hlt
      have hc := hR.cell 3 rfl k hg
      have HSET : Hid _ := set_any hR 0 (w.heap.size + 1 + 1 + 1) (ST k) rfl (HSL.out k hk) k (by omega) _ hu
      rw [HSS.out k hlt] at HSET
      have hkI : (k : Int) < 4 := by omega
      generalize ns.getD k 0 = x at *
      clear hR hu hg
      go_wp2_with fail
      refine Calls.mono HSET.out ?_
      rintro e Y2 ⟨rfl, r2⟩
      have HR2 : Hid (RS w [(w.heap.size + 1 + 1 + 1, 45, (gr (ST (k + 1))).map B8), (w.heap.size + 1 + 1, 45, GL), (w.heap.size + 1, 40, OL), (w.heap.size, 31, IL)] Y2) := r2
      clear r2 HSET
      go_wp2
      go_roundw
      case rel => exact ⟨k + 1, by omega, by go_num, HR2.out⟩
      case measure => simp [intOf]; omega
    · have hk4 : k = 4 := by omega
      subst hk4
      rw [HS4.out] at hR
      have HR1 : Hid _ := hR
      clear hR hlt hk
      go_wp2_with fail
      refine wp_region_held_drew (S := fun X => RS w [(w.heap.size + 1 + 1 + 1, 45, AL), (w.heap.size + 1 + 1, 45, GL), (w.heap.size + 1, 40, OL), (w.heap.size, 31, IL)] X) (by kernel_rfl) (HR1.out.step (below_drew _)) (fun hHeld => ?_)
      clear HR1
      refine wpAnyH_take (i := 0) (oi := { dst := some 30, op := Go.Op.load 31 (Go.Operand.tmp 3), type := 31, pos := _, after := #[], guard := none }) rfl (by kernel_rfl) (by kernel_rfl) (by kernel_rfl) (fun _ _ _ h => h) (yieldsIf_load_mid (by rfl) 31 (.tmp 3) rfl (w.heap.size) (0) rfl (IL) _ (fun _ h => rangeAt_row (h.at 3 rfl)) Try.underlying31 rfl (info4i IL HIL.out)) hHeld ?_
      try simp only [Act.put, List.setIfInBounds_toArray, List.set_cons_zero, List.set_cons_succ]
      refine wpAnyH_take (i := 2) (oi := { dst := some 32, op := Go.Op.load 45 (Go.Operand.tmp 7), type := 45, pos := _, after := #[], guard := none }) rfl (by kernel_rfl) (by kernel_rfl) (by kernel_rfl) (fun _ _ _ h => h) (yieldsIf_load_mid (by rfl) 45 (.tmp 7) rfl (w.heap.size + 1 + 1 + 1) (0) rfl (AL) _ (fun _ h => rangeAt_row (h.at 0 rfl)) Try.underlying45 rfl (info128 AL HAL.out)) hHeld ?_
      try simp only [Act.put, List.setIfInBounds_toArray, List.set_cons_zero, List.set_cons_succ]
      refine wpAnyH_ready (rs := [1]) (by kernel_rfl) (by simp) ?_
      refine AllReadyH.cons (o := { dst := some 31, op := Go.Op.call { callee := Go.Callee.value (Go.Operand.func 13), args := #[Go.Operand.tmp 30], argTypes := #[31] }, type := 45, pos := _, after := #[{ on := 0, ground := Go.Ground.data }], guard := none }) rfl (fun K hK => ?_) AllReadyH.nil
      rw [if_pos (by rfl)]
      go_wp2_with fail
      refine Calls.mono (HIB.out _) ?_
      rintro e V1 ⟨rfl, b1⟩
      replace hHeld := hHeld.step b1
      clear b1
      refine hK.out _ _ hHeld (fun _ => ?_)
      clear hK K
      try simp only [Act.put, List.setIfInBounds_toArray, List.set_cons_zero, List.set_cons_succ]
      refine wpAnyH_take (i := 3) (oi := { dst := some 33, op := Go.Op.binOp Go.BinOp.neq 45 (Go.Operand.tmp 31) (Go.Operand.tmp 32) 45, type := 4, pos := _, after := #[{ on := 1, ground := Go.Ground.data }, { on := 2, ground := Go.Ground.data }], guard := none }) (v := .bool false) rfl (by kernel_rfl) (by kernel_rfl) (by kernel_rfl) (fun _ _ _ h => h) (Or.inl ⟨by rfl, fun w' hw' => ?_⟩) hHeld ?_
      · exact run_neq rfl rfl rfl gG (HE1.out w')
      try simp only [Act.put, List.setIfInBounds_toArray, List.set_cons_zero, List.set_cons_succ]
      refine wpAnyH_done (by kernel_rfl) ?_ _
      have HR2 : Hid _ := hHeld
      clear hHeld
      go_wp2_with (refine wpList_load_mid rfl 45 (.tmp 7) rfl (w.heap.size + 1 + 1 + 1) 0 rfl AL _ (rangeAt_row (HR2.out.at 0 rfl)) Try.underlying45 rfl (info128 AL HAL.out) ?_)
      refine Calls.mono (HIO.out _) ?_
      rintro e V2 ⟨rfl, b2⟩
      have R3 := (HR2.out.step b2).alloc _ rfl 31 ZI
      have HR3 : Hid _ := R3
      have HR4 : Hid _ := R3.put 0 rfl IL
      clear b2 R3 HR2
      have heq := HE2.out
      go_wp2_with (first
        | (refine wpList_store_rowL rfl 31 (.tmp 9) (.tmp 37) rfl V2.heap.size IL.toArray rfl rfl 31 ZI.toArray (HR3.out.at 0 rfl) (info4ia IL HIL.out) (by simp [HZI.out, HIL.out]) HI1.out ?_
           intro V3 hV3
           rw [← hV3] at HR4
           clear hV3 HR3)
        | (refine load_mid_g (by rfl) 31 (.tmp 9) rfl V2.heap.size 0 rfl IL _ (rangeAt_row (HR4.out.at 0 rfl)) Try.underlying31 rfl (info4i IL HIL.out) ?_)
        | (refine wpList_load_mid rfl 45 (.tmp 5) rfl (w.heap.size + 1 + 1) 0 rfl GL _ (rangeAt_row (HR4.out.at 2 rfl)) Try.underlying45 rfl (info128 GL HGL.out) ?_)
        | (refine load_mid_g (by rfl) 31 (.tmp 3) rfl w.heap.size 0 rfl IL _ (rangeAt_row (HR4.out.at 4 rfl)) Try.underlying31 rfl (info4i IL HIL.out) ?_))
      clear heq
      generalize V2.heap.size = n9 at *
      refine Calls.mono (HIG.out _) ?_
      rintro e V4 ⟨rfl, b4⟩
      have HR5 : Hid _ := HR4.out.step b4
      have HR6 : Hid _ := HR5.out.put 0 rfl XL
      clear b4 HR4
      go_wp2_with (refine wpList_store_rowL rfl 31 (.tmp 9) (.tmp 49) rfl n9 XL.toArray rfl rfl 31 IL.toArray (HR5.out.at 0 rfl) (info4ia XL HXL.out) (by simp [HXL.out, HIL.out]) HX1.out ?_
                   intro V5 hV5
                   rw [← hV5] at HR6
                   clear hV5 HR5)
      go_loopw [11, 12] (fun f i wr => ∃ k : Nat, 32 ≤ k ∧ k ≤ 128 ∧ i = .int .i64 k ∧ f = .bool (fz G k) ∧ RS w [(n9, 31, XL), (w.heap.size + 1 + 1 + 1, 45, AL), (w.heap.size + 1 + 1, 45, GL), (w.heap.size + 1, 40, OL), (w.heap.size, 31, IL)] wr) (fun _ i _ => 128 - (intOf i).toNat)
      case atStart => exact ⟨32, by omega, by omega, rfl, by rw [HF0.out], HR6.out⟩
      case round =>
        obtain ⟨k, hk1, hk, rfl, rfl, hR⟩ := hrel
        clear HR6
        by_cases hlt : k < 128
        · obtain ⟨hf1, hf2⟩ := HFZ.out k hk1 hlt
          have hc := hR.cell 2 rfl k hf2
          have HR7 : Hid _ := hR
          have hkI : (k : Int) < 128 := by omega
          obtain ⟨ZB, hZB⟩ : ∃ b, (((G.getD k 0).toNat : Int) == 0) = b := ⟨_, rfl⟩
          have HFN : Hid (fz G (k + 1) = (fz G k && ZB)) := by
            show _ = _
            rw [hf1, ← hZB]
            congr 1
            rw [Bool.eq_iff_iff]
            simp [← UInt8.toNat_inj]
          generalize ((G.getD k 0).toNat : Int) = c at *
          generalize fz G k = F0 at *
          clear hR hf1 hf2
          cases F0
          · go_wp2
            go_roundw
            case rel => exact ⟨k + 1, by omega, by omega, by go_num, by rw [HFN.out]; rfl, HR7.out⟩
            case measure => simp [intOf]; omega
          · go_wp2
            go_roundw
            case rel => exact ⟨k + 1, by omega, by omega, by go_num, by rw [HFN.out]; rfl, HR7.out⟩
            case measure => simp [intOf]; omega
        · have hk8 : k = 128 := by omega
          subst hk8
          rw [HF1.out]
          have HR8 : Hid _ := hR
          clear hR hlt hk hk1 HFZ HF0 HF1 HIO HIB HE1 HE2
          generalize hFI : inF G = FI at *
          go_upto_region 17 with fail
          go_cut [87] from 62 to 86 (fun b X => b = .bool false ∧ RS w [(n9, 31, XL), (w.heap.size + 1 + 1 + 1, 45, AL), (w.heap.size + 1 + 1, 45, GL), (w.heap.size + 1, 40, OL), (w.heap.size, 31, IL)] X)
          case first =>
            refine wp_region_held_drew (S := fun X => RS w [(n9, 31, XL), (w.heap.size + 1 + 1 + 1, 45, AL), (w.heap.size + 1 + 1, 45, GL), (w.heap.size + 1, 40, OL), (w.heap.size, 31, IL)] X) (by kernel_rfl) (HR8.out.step (below_drew _)) (fun hHeld => ?_)
            clear HR8
            cases FI with
            | false =>
              obtain ⟨hxl, hec⟩ := HXF.out rfl
              subst hec
              have hneq := HEF.out rfl
              have HQ : Hid _ := hneq
              clear hneq hxl HEF HXF HXT
              refine wpAnyH_take (i := 0) (oi := { dst := some 62, op := Go.Op.move (Go.Operand.tmp 11), type := 4, pos := _, after := #[], guard := none }) (v := .bool false) rfl (by kernel_rfl) (by kernel_rfl) (by kernel_rfl) (fun _ _ _ h => h) (Or.inl ⟨by rfl, fun w' hw' => ?_⟩) hHeld ?_
              · first | (go_simp; done) | (go_simp; rfl)
              try simp only [Act.put, List.setIfInBounds_toArray, List.set_cons_zero, List.set_cons_succ]
              refine wpAnyH_take (i := 1) (oi := { dst := some 63, op := Go.Op.move (Go.Operand.tmp 10), type := 32, pos := _, after := #[], guard := none }) (v := .int .i64 4) rfl (by kernel_rfl) (by kernel_rfl) (by kernel_rfl) (fun _ _ _ h => h) (Or.inl ⟨by rfl, fun w' hw' => ?_⟩) hHeld ?_
              · first | (go_simp; done) | (go_simp; rfl)
              try simp only [Act.put, List.setIfInBounds_toArray, List.set_cons_zero, List.set_cons_succ]
              refine wpAnyH_take (i := 2) (oi := { dst := some 64, op := Go.Op.binOp Go.BinOp.eql 32 (Go.Operand.tmp 63) (Go.Operand.const (Go.Value.int Go.IntKind.i64 0)) 32, type := 4, pos := _, after := #[{ on := 1, ground := Go.Ground.data }], guard := none }) (v := .bool false) rfl (by kernel_rfl) (by kernel_rfl) (by kernel_rfl) (fun _ _ _ h => h) (Or.inl ⟨by rfl, fun w' hw' => ?_⟩) hHeld ?_
              · first | (go_simp; done) | (go_simp; rfl)
              try simp only [Act.put, List.setIfInBounds_toArray, List.set_cons_zero, List.set_cons_succ]
              refine wpAnyH_take (i := 3) (oi := { dst := some 65, op := Go.Op.binOp Go.BinOp.neq 4 (Go.Operand.tmp 62) (Go.Operand.tmp 64) 4, type := 4, pos := _, after := #[{ on := 0, ground := Go.Ground.data }, { on := 2, ground := Go.Ground.data }], guard := none }) (v := .bool false) rfl (by kernel_rfl) (by kernel_rfl) (by kernel_rfl) (fun _ _ _ h => h) (Or.inl ⟨by rfl, fun w' hw' => ?_⟩) hHeld ?_
              · first | (go_simp; done) | (go_simp; rfl)
              try simp only [Act.put, List.setIfInBounds_toArray, List.set_cons_zero, List.set_cons_succ]
              refine wpAnyH_take (i := 4) (oi := { dst := some 66, op := Go.Op.move (Go.Operand.tmp 65), type := 4, pos := _, after := #[{ on := 3, ground := Go.Ground.data }], guard := none }) (v := .bool false) rfl (by kernel_rfl) (by kernel_rfl) (by kernel_rfl) (fun _ _ _ h => h) (Or.inl ⟨by rfl, fun w' hw' => ?_⟩) hHeld ?_
              · first | (go_simp; done) | (go_simp; rfl)
              try simp only [Act.put, List.setIfInBounds_toArray, List.set_cons_zero, List.set_cons_succ]
              refine wpAnyH_take (i := 5) (oi := { dst := some 67, op := Go.Op.move (Go.Operand.tmp 11), type := 4, pos := _, after := #[{ on := 4, ground := Go.Ground.guard }], guard := some (4, false) }) (v := .bool false) rfl (by kernel_rfl) (by kernel_rfl) (by kernel_rfl) (fun _ _ _ h => h) (Or.inl ⟨by rfl, fun w' hw' => ?_⟩) hHeld ?_
              · first | (go_simp; done) | (go_simp; rfl)
              try simp only [Act.put, List.setIfInBounds_toArray, List.set_cons_zero, List.set_cons_succ]
              refine wpAnyH_take (i := 6) (oi := { dst := some 68, op := Go.Op.unOp Go.UnOp.not 4 (Go.Operand.tmp 67), type := 4, pos := _, after := #[{ on := 5, ground := Go.Ground.data }, { on := 4, ground := Go.Ground.guard }], guard := some (4, false) }) (v := .bool true) rfl (by kernel_rfl) (by kernel_rfl) (by kernel_rfl) (fun _ _ _ h => h) (Or.inl ⟨by rfl, fun w' hw' => ?_⟩) hHeld ?_
              · first | (go_simp; done) | (go_simp; rfl)
              try simp only [Act.put, List.setIfInBounds_toArray, List.set_cons_zero, List.set_cons_succ]
              refine wpAnyH_take (i := 7) (oi := { dst := some 69, op := Go.Op.move (Go.Operand.tmp 68), type := 4, pos := _, after := #[{ on := 6, ground := Go.Ground.data }, { on := 4, ground := Go.Ground.chain }, { on := 4, ground := Go.Ground.guard }], guard := some (4, false) }) (v := .bool true) rfl (by kernel_rfl) (by kernel_rfl) (by kernel_rfl) (fun _ _ _ h => h) (Or.inl ⟨by rfl, fun w' hw' => ?_⟩) hHeld ?_
              · first | (go_simp; done) | (go_simp; rfl)
              try simp only [Act.put, List.setIfInBounds_toArray, List.set_cons_zero, List.set_cons_succ]
              refine wpAnyH_take (i := 8) (oi := { dst := some 70, op := Go.Op.move (Go.Operand.tmp 10), type := 32, pos := _, after := #[{ on := 7, ground := Go.Ground.guard }], guard := some (7, true) }) (v := .int .i64 4) rfl (by kernel_rfl) (by kernel_rfl) (by kernel_rfl) (fun _ _ _ h => h) (Or.inl ⟨by rfl, fun w' hw' => ?_⟩) hHeld ?_
              · first | (go_simp; done) | (go_simp; rfl)
              try simp only [Act.put, List.setIfInBounds_toArray, List.set_cons_zero, List.set_cons_succ]
              refine wpAnyH_take (i := 9) (oi := { dst := some 71, op := Go.Op.binOp Go.BinOp.neq 32 (Go.Operand.tmp 70) (Go.Operand.const (Go.Value.int Go.IntKind.i64 4)) 32, type := 4, pos := _, after := #[{ on := 8, ground := Go.Ground.data }, { on := 7, ground := Go.Ground.guard }], guard := some (7, true) }) (v := .bool false) rfl (by kernel_rfl) (by kernel_rfl) (by kernel_rfl) (fun _ _ _ h => h) (Or.inl ⟨by rfl, fun w' hw' => ?_⟩) hHeld ?_
              · first | (go_simp; done) | (go_simp; rfl)
              try simp only [Act.put, List.setIfInBounds_toArray, List.set_cons_zero, List.set_cons_succ]
              refine wpAnyH_take (i := 10) (oi := { dst := some 72, op := Go.Op.move (Go.Operand.tmp 71), type := 4, pos := _, after := #[{ on := 9, ground := Go.Ground.data }, { on := 7, ground := Go.Ground.chain }, { on := 7, ground := Go.Ground.guard }], guard := some (7, true) }) (v := .bool false) rfl (by kernel_rfl) (by kernel_rfl) (by kernel_rfl) (fun _ _ _ h => h) (Or.inl ⟨by rfl, fun w' hw' => ?_⟩) hHeld ?_
              · first | (go_simp; done) | (go_simp; rfl)
              try simp only [Act.put, List.setIfInBounds_toArray, List.set_cons_zero, List.set_cons_succ]
              refine wpAnyH_take (i := 11) (oi := { dst := some 73, op := Go.Op.load 31 (Go.Operand.tmp 9), type := 31, pos := _, after := #[{ on := 10, ground := Go.Ground.guard }], guard := some (10, false) }) rfl (by kernel_rfl) (by kernel_rfl) (by kernel_rfl) (fun _ _ _ h => h) (yieldsIf_load_mid (by rfl) 31 (.tmp 9) rfl (n9) (0) rfl (XL) _ (fun _ h => rangeAt_row (h.at 0 rfl)) Try.underlying31 rfl (info4i XL HXL.out)) hHeld ?_
              try simp only [Act.put, List.setIfInBounds_toArray, List.set_cons_zero, List.set_cons_succ]
              refine wpAnyH_take (i := 12) (oi := { dst := some 74, op := Go.Op.build 31 #[], type := 31, pos := _, after := #[{ on := 10, ground := Go.Ground.guard }], guard := some (10, false) }) (v := .agg ZI.toArray) rfl (by kernel_rfl) (by kernel_rfl) (by kernel_rfl) (fun _ _ _ h => h) (Or.inl ⟨by rfl, fun w' hw' => ?_⟩) hHeld ?_
              · exact exec_build _ _ 31 #[] #[] _ _ rfl (by simp) (HBI.out w')
              try simp only [Act.put, List.setIfInBounds_toArray, List.set_cons_zero, List.set_cons_succ]
              refine wpAnyH_take (i := 13) (oi := { dst := some 75, op := Go.Op.binOp Go.BinOp.neq 31 (Go.Operand.tmp 73) (Go.Operand.tmp 74) 31, type := 4, pos := _, after := #[{ on := 11, ground := Go.Ground.data }, { on := 12, ground := Go.Ground.data }, { on := 10, ground := Go.Ground.guard }], guard := some (10, false) }) (v := .bool false) rfl (by kernel_rfl) (by kernel_rfl) (by kernel_rfl) (fun _ _ _ h => h) (Or.inl ⟨by rfl, fun w' hw' => ?_⟩) hHeld ?_
              · exact run_neq rfl rfl rfl gI (HQ.out w')
              try simp only [Act.put, List.setIfInBounds_toArray, List.set_cons_zero, List.set_cons_succ]
              refine wpAnyH_take (i := 14) (oi := { dst := some 76, op := Go.Op.pick (Go.Operand.tmp 72) (Go.Operand.const (Go.Value.bool true)) (Go.Operand.tmp 75), type := 4, pos := _, after := #[{ on := 10, ground := Go.Ground.data }, { on := 13, ground := Go.Ground.data }, { on := 7, ground := Go.Ground.guard }], guard := some (7, true) }) (v := .bool false) rfl (by kernel_rfl) (by kernel_rfl) (by kernel_rfl) (fun _ _ _ h => h) (Or.inl ⟨by rfl, fun w' hw' => ?_⟩) hHeld ?_
              · first | (go_simp; done) | (go_simp; rfl)
              try simp only [Act.put, List.setIfInBounds_toArray, List.set_cons_zero, List.set_cons_succ]
              refine wpAnyH_take (i := 15) (oi := { dst := some 77, op := Go.Op.pick (Go.Operand.tmp 69) (Go.Operand.tmp 76) (Go.Operand.const (Go.Value.bool false)), type := 4, pos := _, after := #[{ on := 7, ground := Go.Ground.data }, { on := 14, ground := Go.Ground.data }, { on := 4, ground := Go.Ground.guard }], guard := some (4, false) }) (v := .bool false) rfl (by kernel_rfl) (by kernel_rfl) (by kernel_rfl) (fun _ _ _ h => h) (Or.inl ⟨by rfl, fun w' hw' => ?_⟩) hHeld ?_
              · first | (go_simp; done) | (go_simp; rfl)
              try simp only [Act.put, List.setIfInBounds_toArray, List.set_cons_zero, List.set_cons_succ]
              refine wpAnyH_take (i := 16) (oi := { dst := some 78, op := Go.Op.pick (Go.Operand.tmp 66) (Go.Operand.const (Go.Value.bool true)) (Go.Operand.tmp 77), type := 4, pos := _, after := #[{ on := 4, ground := Go.Ground.data }, { on := 15, ground := Go.Ground.data }], guard := none }) (v := .bool false) rfl (by kernel_rfl) (by kernel_rfl) (by kernel_rfl) (fun _ _ _ h => h) (Or.inl ⟨by rfl, fun w' hw' => ?_⟩) hHeld ?_
              · first | (go_simp; done) | (go_simp; rfl)
              try simp only [Act.put, List.setIfInBounds_toArray, List.set_cons_zero, List.set_cons_succ]
              refine wpAnyH_take (i := 17) (oi := { dst := some 79, op := Go.Op.move (Go.Operand.tmp 78), type := 4, pos := _, after := #[{ on := 16, ground := Go.Ground.data }, { on := 10, ground := Go.Ground.chain }], guard := none }) (v := .bool false) rfl (by kernel_rfl) (by kernel_rfl) (by kernel_rfl) (fun _ _ _ h => h) (Or.inl ⟨by rfl, fun w' hw' => ?_⟩) hHeld ?_
              · first | (go_simp; done) | (go_simp; rfl)
              try simp only [Act.put, List.setIfInBounds_toArray, List.set_cons_zero, List.set_cons_succ]
              refine wpAnyH_take (i := 18) (oi := { dst := some 80, op := Go.Op.move (Go.Operand.tmp 11), type := 4, pos := _, after := #[{ on := 17, ground := Go.Ground.guard }], guard := some (17, false) }) (v := .bool false) rfl (by kernel_rfl) (by kernel_rfl) (by kernel_rfl) (fun _ _ _ h => h) (Or.inl ⟨by rfl, fun w' hw' => ?_⟩) hHeld ?_
              · first | (go_simp; done) | (go_simp; rfl)
              try simp only [Act.put, List.setIfInBounds_toArray, List.set_cons_zero, List.set_cons_succ]
              refine wpAnyH_take (i := 19) (oi := { dst := some 81, op := Go.Op.move (Go.Operand.tmp 80), type := 4, pos := _, after := #[{ on := 18, ground := Go.Ground.data }, { on := 17, ground := Go.Ground.chain }, { on := 17, ground := Go.Ground.guard }], guard := some (17, false) }) (v := .bool false) rfl (by kernel_rfl) (by kernel_rfl) (by kernel_rfl) (fun _ _ _ h => h) (Or.inl ⟨by rfl, fun w' hw' => ?_⟩) hHeld ?_
              · first | (go_simp; done) | (go_simp; rfl)
              try simp only [Act.put, List.setIfInBounds_toArray, List.set_cons_zero, List.set_cons_succ]
              refine wpAnyH_take (i := 20) (oi := { dst := some 82, op := Go.Op.load 31 (Go.Operand.tmp 9), type := 31, pos := _, after := #[{ on := 19, ground := Go.Ground.guard }], guard := some (19, true) }) (v := undef) rfl (by kernel_rfl) (by kernel_rfl) (by kernel_rfl) (fun _ _ _ h => h) (Or.inr ⟨by rfl, rfl⟩) hHeld ?_
              try simp only [Act.put, List.setIfInBounds_toArray, List.set_cons_zero, List.set_cons_succ]
              refine wpAnyH_take (i := 21) (oi := { dst := some 83, op := Go.Op.call { callee := Go.Callee.value (Go.Operand.func 13), args := #[Go.Operand.tmp 82], argTypes := #[31] }, type := 45, pos := _, after := #[{ on := 20, ground := Go.Ground.data }, { on := 19, ground := Go.Ground.chain }, { on := 19, ground := Go.Ground.guard }], guard := some (19, true) }) (v := undef) rfl (by kernel_rfl) (by kernel_rfl) (by kernel_rfl) (fun _ _ _ h => h) (Or.inr ⟨by rfl, rfl⟩) hHeld ?_
              try simp only [Act.put, List.setIfInBounds_toArray, List.set_cons_zero, List.set_cons_succ]
              refine wpAnyH_take (i := 22) (oi := { dst := some 84, op := Go.Op.load 45 (Go.Operand.tmp 5), type := 45, pos := _, after := #[{ on := 19, ground := Go.Ground.guard }], guard := some (19, true) }) (v := undef) rfl (by kernel_rfl) (by kernel_rfl) (by kernel_rfl) (fun _ _ _ h => h) (Or.inr ⟨by rfl, rfl⟩) hHeld ?_
              try simp only [Act.put, List.setIfInBounds_toArray, List.set_cons_zero, List.set_cons_succ]
              refine wpAnyH_take (i := 23) (oi := { dst := some 85, op := Go.Op.binOp Go.BinOp.neq 45 (Go.Operand.tmp 83) (Go.Operand.tmp 84) 45, type := 4, pos := _, after := #[{ on := 21, ground := Go.Ground.data }, { on := 22, ground := Go.Ground.data }, { on := 19, ground := Go.Ground.guard }], guard := some (19, true) }) (v := undef) rfl (by kernel_rfl) (by kernel_rfl) (by kernel_rfl) (fun _ _ _ h => h) (Or.inr ⟨by rfl, rfl⟩) hHeld ?_
              try simp only [Act.put, List.setIfInBounds_toArray, List.set_cons_zero, List.set_cons_succ]
              refine wpAnyH_take (i := 24) (oi := { dst := some 86, op := Go.Op.pick (Go.Operand.tmp 81) (Go.Operand.tmp 85) (Go.Operand.const (Go.Value.bool false)), type := 4, pos := _, after := #[{ on := 19, ground := Go.Ground.data }, { on := 23, ground := Go.Ground.data }, { on := 17, ground := Go.Ground.guard }], guard := some (17, false) }) (v := .bool false) rfl (by kernel_rfl) (by kernel_rfl) (by kernel_rfl) (fun _ _ _ h => h) (Or.inl ⟨by rfl, fun w' hw' => ?_⟩) hHeld ?_
              · first | (go_simp; done) | (go_simp; rfl)
              try simp only [Act.put, List.setIfInBounds_toArray, List.set_cons_zero, List.set_cons_succ]
              refine wpAnyH_take (i := 25) (oi := { dst := some 87, op := Go.Op.pick (Go.Operand.tmp 79) (Go.Operand.const (Go.Value.bool true)) (Go.Operand.tmp 86), type := 4, pos := _, after := #[{ on := 17, ground := Go.Ground.data }, { on := 24, ground := Go.Ground.data }], guard := none }) (v := .bool false) rfl (by kernel_rfl) (by kernel_rfl) (by kernel_rfl) (fun _ _ _ h => h) (Or.inl ⟨by rfl, fun w' hw' => ?_⟩) hHeld ?_
              · first | (go_simp; done) | (go_simp; rfl)
              try simp only [Act.put, List.setIfInBounds_toArray, List.set_cons_zero, List.set_cons_succ]
              refine wpAnyH_done (by kernel_rfl) ?_ _
              go_wp2_with fail
              go_meet
              case rel => exact ⟨rfl, hHeld⟩
            | true =>
              obtain ⟨hcl, hec⟩ := HXT.out rfl
              subst hec
              have HCL : Hid (∀ W, Calls Try.prog 13 #[.agg XL.toArray] W fun e w' => e = .returned (.agg GL.toArray) ∧ Below W.heap.size W w') := hcl
              clear hcl HEF HXF HXT
              refine wpAnyH_take (i := 0) (oi := { dst := some 62, op := Go.Op.move (Go.Operand.tmp 11), type := 4, pos := _, after := #[], guard := none }) (v := .bool true) rfl (by kernel_rfl) (by kernel_rfl) (by kernel_rfl) (fun _ _ _ h => h) (Or.inl ⟨by rfl, fun w' hw' => ?_⟩) hHeld ?_
              · first | (go_simp; done) | (go_simp; rfl)
              try simp only [Act.put, List.setIfInBounds_toArray, List.set_cons_zero, List.set_cons_succ]
              refine wpAnyH_take (i := 1) (oi := { dst := some 63, op := Go.Op.move (Go.Operand.tmp 10), type := 32, pos := _, after := #[], guard := none }) (v := .int .i64 0) rfl (by kernel_rfl) (by kernel_rfl) (by kernel_rfl) (fun _ _ _ h => h) (Or.inl ⟨by rfl, fun w' hw' => ?_⟩) hHeld ?_
              · first | (go_simp; done) | (go_simp; rfl)
              try simp only [Act.put, List.setIfInBounds_toArray, List.set_cons_zero, List.set_cons_succ]
              refine wpAnyH_take (i := 2) (oi := { dst := some 64, op := Go.Op.binOp Go.BinOp.eql 32 (Go.Operand.tmp 63) (Go.Operand.const (Go.Value.int Go.IntKind.i64 0)) 32, type := 4, pos := _, after := #[{ on := 1, ground := Go.Ground.data }], guard := none }) (v := .bool true) rfl (by kernel_rfl) (by kernel_rfl) (by kernel_rfl) (fun _ _ _ h => h) (Or.inl ⟨by rfl, fun w' hw' => ?_⟩) hHeld ?_
              · first | (go_simp; done) | (go_simp; rfl)
              try simp only [Act.put, List.setIfInBounds_toArray, List.set_cons_zero, List.set_cons_succ]
              refine wpAnyH_take (i := 3) (oi := { dst := some 65, op := Go.Op.binOp Go.BinOp.neq 4 (Go.Operand.tmp 62) (Go.Operand.tmp 64) 4, type := 4, pos := _, after := #[{ on := 0, ground := Go.Ground.data }, { on := 2, ground := Go.Ground.data }], guard := none }) (v := .bool false) rfl (by kernel_rfl) (by kernel_rfl) (by kernel_rfl) (fun _ _ _ h => h) (Or.inl ⟨by rfl, fun w' hw' => ?_⟩) hHeld ?_
              · first | (go_simp; done) | (go_simp; rfl)
              try simp only [Act.put, List.setIfInBounds_toArray, List.set_cons_zero, List.set_cons_succ]
              refine wpAnyH_take (i := 4) (oi := { dst := some 66, op := Go.Op.move (Go.Operand.tmp 65), type := 4, pos := _, after := #[{ on := 3, ground := Go.Ground.data }], guard := none }) (v := .bool false) rfl (by kernel_rfl) (by kernel_rfl) (by kernel_rfl) (fun _ _ _ h => h) (Or.inl ⟨by rfl, fun w' hw' => ?_⟩) hHeld ?_
              · first | (go_simp; done) | (go_simp; rfl)
              try simp only [Act.put, List.setIfInBounds_toArray, List.set_cons_zero, List.set_cons_succ]
              refine wpAnyH_take (i := 5) (oi := { dst := some 67, op := Go.Op.move (Go.Operand.tmp 11), type := 4, pos := _, after := #[{ on := 4, ground := Go.Ground.guard }], guard := some (4, false) }) (v := .bool true) rfl (by kernel_rfl) (by kernel_rfl) (by kernel_rfl) (fun _ _ _ h => h) (Or.inl ⟨by rfl, fun w' hw' => ?_⟩) hHeld ?_
              · first | (go_simp; done) | (go_simp; rfl)
              try simp only [Act.put, List.setIfInBounds_toArray, List.set_cons_zero, List.set_cons_succ]
              refine wpAnyH_take (i := 6) (oi := { dst := some 68, op := Go.Op.unOp Go.UnOp.not 4 (Go.Operand.tmp 67), type := 4, pos := _, after := #[{ on := 5, ground := Go.Ground.data }, { on := 4, ground := Go.Ground.guard }], guard := some (4, false) }) (v := .bool false) rfl (by kernel_rfl) (by kernel_rfl) (by kernel_rfl) (fun _ _ _ h => h) (Or.inl ⟨by rfl, fun w' hw' => ?_⟩) hHeld ?_
              · first | (go_simp; done) | (go_simp; rfl)
              try simp only [Act.put, List.setIfInBounds_toArray, List.set_cons_zero, List.set_cons_succ]
              refine wpAnyH_take (i := 7) (oi := { dst := some 69, op := Go.Op.move (Go.Operand.tmp 68), type := 4, pos := _, after := #[{ on := 6, ground := Go.Ground.data }, { on := 4, ground := Go.Ground.chain }, { on := 4, ground := Go.Ground.guard }], guard := some (4, false) }) (v := .bool false) rfl (by kernel_rfl) (by kernel_rfl) (by kernel_rfl) (fun _ _ _ h => h) (Or.inl ⟨by rfl, fun w' hw' => ?_⟩) hHeld ?_
              · first | (go_simp; done) | (go_simp; rfl)
              try simp only [Act.put, List.setIfInBounds_toArray, List.set_cons_zero, List.set_cons_succ]
              refine wpAnyH_take (i := 8) (oi := { dst := some 70, op := Go.Op.move (Go.Operand.tmp 10), type := 32, pos := _, after := #[{ on := 7, ground := Go.Ground.guard }], guard := some (7, true) }) (v := undef) rfl (by kernel_rfl) (by kernel_rfl) (by kernel_rfl) (fun _ _ _ h => h) (Or.inr ⟨by rfl, rfl⟩) hHeld ?_
              try simp only [Act.put, List.setIfInBounds_toArray, List.set_cons_zero, List.set_cons_succ]
              refine wpAnyH_take (i := 9) (oi := { dst := some 71, op := Go.Op.binOp Go.BinOp.neq 32 (Go.Operand.tmp 70) (Go.Operand.const (Go.Value.int Go.IntKind.i64 4)) 32, type := 4, pos := _, after := #[{ on := 8, ground := Go.Ground.data }, { on := 7, ground := Go.Ground.guard }], guard := some (7, true) }) (v := undef) rfl (by kernel_rfl) (by kernel_rfl) (by kernel_rfl) (fun _ _ _ h => h) (Or.inr ⟨by rfl, rfl⟩) hHeld ?_
              try simp only [Act.put, List.setIfInBounds_toArray, List.set_cons_zero, List.set_cons_succ]
              refine wpAnyH_take (i := 10) (oi := { dst := some 72, op := Go.Op.move (Go.Operand.tmp 71), type := 4, pos := _, after := #[{ on := 9, ground := Go.Ground.data }, { on := 7, ground := Go.Ground.chain }, { on := 7, ground := Go.Ground.guard }], guard := some (7, true) }) (v := undef) rfl (by kernel_rfl) (by kernel_rfl) (by kernel_rfl) (fun _ _ _ h => h) (Or.inr ⟨by rfl, rfl⟩) hHeld ?_
              try simp only [Act.put, List.setIfInBounds_toArray, List.set_cons_zero, List.set_cons_succ]
              refine wpAnyH_take (i := 11) (oi := { dst := some 73, op := Go.Op.load 31 (Go.Operand.tmp 9), type := 31, pos := _, after := #[{ on := 10, ground := Go.Ground.guard }], guard := some (10, false) }) (v := undef) rfl (by kernel_rfl) (by kernel_rfl) (by kernel_rfl) (fun _ _ _ h => h) (Or.inr ⟨by rfl, rfl⟩) hHeld ?_
              try simp only [Act.put, List.setIfInBounds_toArray, List.set_cons_zero, List.set_cons_succ]
              refine wpAnyH_take (i := 12) (oi := { dst := some 74, op := Go.Op.build 31 #[], type := 31, pos := _, after := #[{ on := 10, ground := Go.Ground.guard }], guard := some (10, false) }) (v := undef) rfl (by kernel_rfl) (by kernel_rfl) (by kernel_rfl) (fun _ _ _ h => h) (Or.inr ⟨by rfl, rfl⟩) hHeld ?_
              try simp only [Act.put, List.setIfInBounds_toArray, List.set_cons_zero, List.set_cons_succ]
              refine wpAnyH_take (i := 13) (oi := { dst := some 75, op := Go.Op.binOp Go.BinOp.neq 31 (Go.Operand.tmp 73) (Go.Operand.tmp 74) 31, type := 4, pos := _, after := #[{ on := 11, ground := Go.Ground.data }, { on := 12, ground := Go.Ground.data }, { on := 10, ground := Go.Ground.guard }], guard := some (10, false) }) (v := undef) rfl (by kernel_rfl) (by kernel_rfl) (by kernel_rfl) (fun _ _ _ h => h) (Or.inr ⟨by rfl, rfl⟩) hHeld ?_
              try simp only [Act.put, List.setIfInBounds_toArray, List.set_cons_zero, List.set_cons_succ]
              refine wpAnyH_take (i := 14) (oi := { dst := some 76, op := Go.Op.pick (Go.Operand.tmp 72) (Go.Operand.const (Go.Value.bool true)) (Go.Operand.tmp 75), type := 4, pos := _, after := #[{ on := 10, ground := Go.Ground.data }, { on := 13, ground := Go.Ground.data }, { on := 7, ground := Go.Ground.guard }], guard := some (7, true) }) (v := undef) rfl (by kernel_rfl) (by kernel_rfl) (by kernel_rfl) (fun _ _ _ h => h) (Or.inr ⟨by rfl, rfl⟩) hHeld ?_
              try simp only [Act.put, List.setIfInBounds_toArray, List.set_cons_zero, List.set_cons_succ]
              refine wpAnyH_take (i := 15) (oi := { dst := some 77, op := Go.Op.pick (Go.Operand.tmp 69) (Go.Operand.tmp 76) (Go.Operand.const (Go.Value.bool false)), type := 4, pos := _, after := #[{ on := 7, ground := Go.Ground.data }, { on := 14, ground := Go.Ground.data }, { on := 4, ground := Go.Ground.guard }], guard := some (4, false) }) (v := .bool false) rfl (by kernel_rfl) (by kernel_rfl) (by kernel_rfl) (fun _ _ _ h => h) (Or.inl ⟨by rfl, fun w' hw' => ?_⟩) hHeld ?_
              · first | (go_simp; done) | (go_simp; rfl)
              try simp only [Act.put, List.setIfInBounds_toArray, List.set_cons_zero, List.set_cons_succ]
              refine wpAnyH_take (i := 16) (oi := { dst := some 78, op := Go.Op.pick (Go.Operand.tmp 66) (Go.Operand.const (Go.Value.bool true)) (Go.Operand.tmp 77), type := 4, pos := _, after := #[{ on := 4, ground := Go.Ground.data }, { on := 15, ground := Go.Ground.data }], guard := none }) (v := .bool false) rfl (by kernel_rfl) (by kernel_rfl) (by kernel_rfl) (fun _ _ _ h => h) (Or.inl ⟨by rfl, fun w' hw' => ?_⟩) hHeld ?_
              · first | (go_simp; done) | (go_simp; rfl)
              try simp only [Act.put, List.setIfInBounds_toArray, List.set_cons_zero, List.set_cons_succ]
              refine wpAnyH_take (i := 17) (oi := { dst := some 79, op := Go.Op.move (Go.Operand.tmp 78), type := 4, pos := _, after := #[{ on := 16, ground := Go.Ground.data }, { on := 10, ground := Go.Ground.chain }], guard := none }) (v := .bool false) rfl (by kernel_rfl) (by kernel_rfl) (by kernel_rfl) (fun _ _ _ h => h) (Or.inl ⟨by rfl, fun w' hw' => ?_⟩) hHeld ?_
              · first | (go_simp; done) | (go_simp; rfl)
              try simp only [Act.put, List.setIfInBounds_toArray, List.set_cons_zero, List.set_cons_succ]
              refine wpAnyH_take (i := 18) (oi := { dst := some 80, op := Go.Op.move (Go.Operand.tmp 11), type := 4, pos := _, after := #[{ on := 17, ground := Go.Ground.guard }], guard := some (17, false) }) (v := .bool true) rfl (by kernel_rfl) (by kernel_rfl) (by kernel_rfl) (fun _ _ _ h => h) (Or.inl ⟨by rfl, fun w' hw' => ?_⟩) hHeld ?_
              · first | (go_simp; done) | (go_simp; rfl)
              try simp only [Act.put, List.setIfInBounds_toArray, List.set_cons_zero, List.set_cons_succ]
              refine wpAnyH_take (i := 19) (oi := { dst := some 81, op := Go.Op.move (Go.Operand.tmp 80), type := 4, pos := _, after := #[{ on := 18, ground := Go.Ground.data }, { on := 17, ground := Go.Ground.chain }, { on := 17, ground := Go.Ground.guard }], guard := some (17, false) }) (v := .bool true) rfl (by kernel_rfl) (by kernel_rfl) (by kernel_rfl) (fun _ _ _ h => h) (Or.inl ⟨by rfl, fun w' hw' => ?_⟩) hHeld ?_
              · first | (go_simp; done) | (go_simp; rfl)
              try simp only [Act.put, List.setIfInBounds_toArray, List.set_cons_zero, List.set_cons_succ]
              refine wpAnyH_take (i := 20) (oi := { dst := some 82, op := Go.Op.load 31 (Go.Operand.tmp 9), type := 31, pos := _, after := #[{ on := 19, ground := Go.Ground.guard }], guard := some (19, true) }) rfl (by kernel_rfl) (by kernel_rfl) (by kernel_rfl) (fun _ _ _ h => h) (yieldsIf_load_mid (by rfl) 31 (.tmp 9) rfl (n9) (0) rfl (XL) _ (fun _ h => rangeAt_row (h.at 0 rfl)) Try.underlying31 rfl (info4i XL HXL.out)) hHeld ?_
              try simp only [Act.put, List.setIfInBounds_toArray, List.set_cons_zero, List.set_cons_succ]
              refine wpAnyH_take (i := 22) (oi := { dst := some 84, op := Go.Op.load 45 (Go.Operand.tmp 5), type := 45, pos := _, after := #[{ on := 19, ground := Go.Ground.guard }], guard := some (19, true) }) rfl (by kernel_rfl) (by kernel_rfl) (by kernel_rfl) (fun _ _ _ h => h) (yieldsIf_load_mid (by rfl) 45 (.tmp 5) rfl (w.heap.size + 1 + 1) (0) rfl (GL) _ (fun _ h => rangeAt_row (h.at 2 rfl)) Try.underlying45 rfl (info128 GL HGL.out)) hHeld ?_
              try simp only [Act.put, List.setIfInBounds_toArray, List.set_cons_zero, List.set_cons_succ]
              refine wpAnyH_ready (rs := [21]) (by kernel_rfl) (by simp) ?_
              refine AllReadyH.cons (o := { dst := some 83, op := Go.Op.call { callee := Go.Callee.value (Go.Operand.func 13), args := #[Go.Operand.tmp 82], argTypes := #[31] }, type := 45, pos := _, after := #[{ on := 20, ground := Go.Ground.data }, { on := 19, ground := Go.Ground.chain }, { on := 19, ground := Go.Ground.guard }], guard := some (19, true) }) rfl (fun K hK => ?_) AllReadyH.nil
              rw [if_pos (by rfl)]
              go_wp2_with fail
              refine Calls.mono (HCL.out _) ?_
              rintro e V6 ⟨rfl, b6⟩
              replace hHeld := hHeld.step b6
              clear b6
              refine hK.out _ _ hHeld (fun _ => ?_)
              clear hK K
              try simp only [Act.put, List.setIfInBounds_toArray, List.set_cons_zero, List.set_cons_succ]
              refine wpAnyH_take (i := 23) (oi := { dst := some 85, op := Go.Op.binOp Go.BinOp.neq 45 (Go.Operand.tmp 83) (Go.Operand.tmp 84) 45, type := 4, pos := _, after := #[{ on := 21, ground := Go.Ground.data }, { on := 22, ground := Go.Ground.data }, { on := 19, ground := Go.Ground.guard }], guard := some (19, true) }) (v := .bool false) rfl (by kernel_rfl) (by kernel_rfl) (by kernel_rfl) (fun _ _ _ h => h) (Or.inl ⟨by rfl, fun w' hw' => ?_⟩) hHeld ?_
              · exact run_neq rfl rfl rfl gG (HEG.out w')
              try simp only [Act.put, List.setIfInBounds_toArray, List.set_cons_zero, List.set_cons_succ]
              refine wpAnyH_take (i := 24) (oi := { dst := some 86, op := Go.Op.pick (Go.Operand.tmp 81) (Go.Operand.tmp 85) (Go.Operand.const (Go.Value.bool false)), type := 4, pos := _, after := #[{ on := 19, ground := Go.Ground.data }, { on := 23, ground := Go.Ground.data }, { on := 17, ground := Go.Ground.guard }], guard := some (17, false) }) (v := .bool false) rfl (by kernel_rfl) (by kernel_rfl) (by kernel_rfl) (fun _ _ _ h => h) (Or.inl ⟨by rfl, fun w' hw' => ?_⟩) hHeld ?_
              · first | (go_simp; done) | (go_simp; rfl)
              try simp only [Act.put, List.setIfInBounds_toArray, List.set_cons_zero, List.set_cons_succ]
              refine wpAnyH_take (i := 25) (oi := { dst := some 87, op := Go.Op.pick (Go.Operand.tmp 79) (Go.Operand.const (Go.Value.bool true)) (Go.Operand.tmp 86), type := 4, pos := _, after := #[{ on := 17, ground := Go.Ground.data }, { on := 24, ground := Go.Ground.data }], guard := none }) (v := .bool false) rfl (by kernel_rfl) (by kernel_rfl) (by kernel_rfl) (fun _ _ _ h => h) (Or.inl ⟨by rfl, fun w' hw' => ?_⟩) hHeld ?_
              · first | (go_simp; done) | (go_simp; rfl)
              try simp only [Act.put, List.setIfInBounds_toArray, List.set_cons_zero, List.set_cons_succ]
              refine wpAnyH_done (by kernel_rfl) ?_ _
              go_wp2_with fail
              go_meet
              case rel => exact ⟨rfl, hHeld⟩
          case rest =>
            obtain ⟨rfl, hR⟩ := hcut
            generalize wc = V7 at *
            have HR9 : Hid (RS w [(n9, 31, XL), (w.heap.size + 1 + 1 + 1, 45, AL), (w.heap.size + 1 + 1, 45, GL), (w.heap.size + 1, 40, OL), (w.heap.size, 31, IL)] V7) := hR
            clear hR HR8 HXF HXT HEF HIG HBI
            cases MT with
            | false =>
              have HOB : Hid _ := HNO.out rfl
              clear HNO HYO HEO
              go_wp2_with (refine wpList_load_mid rfl 40 (.tmp 4) rfl (w.heap.size + 1) 0 rfl OL _ (rangeAt_row (HR9.out.at 3 rfl)) Try.underlying40 rfl (info8o OL HOL.out) ?_)
              refine Calls.mono (HOB.out _) ?_
              rintro e V8 ⟨rfl, b8⟩
              have R1 := (HR9.out.step b8).alloc _ rfl 45 ZL
              have HR10 : Hid _ := R1
              have HR11 : Hid _ := R1.put 0 rfl ZL
              clear b8 R1 HR9
              go_wp2_with (first
                | (refine wpList_store_rowL rfl 45 (.tmp 13) (.tmp 91) rfl V8.heap.size (ZL).toArray rfl rfl 45 ZL.toArray (HR10.out.at 0 rfl) (info128a ZL HZN.out) (by simp [HZN.out, HZN.out]) HZ1.out ?_
                   intro V9 hV9
                   rw [← hV9] at HR11
                   clear hV9 HR10)
                | (refine wpList_load_mid rfl 40 (.tmp 4) rfl (w.heap.size + 1) 0 rfl OL _ (rangeAt_row (HR11.out.at 4 rfl)) Try.underlying40 rfl (info8o OL HOL.out) ?_))
              refine Calls.mono (HMY.out _) ?_
              rintro e V10 ⟨rfl, b10⟩
              have HR12 : Hid _ := HR11.out.step b10
              clear b10 HR11 HMY
              generalize V8.heap.size = n13 at *
              have heq := HEZ.out
              go_upto_region 28 with (first
                | (refine load_mid_g (by rfl) 45 (.tmp 13) rfl n13 0 rfl ZL _ (rangeAt_row (HR12.out.at 0 rfl)) Try.underlying45 rfl (info128 ZL HZN.out) ?_)
                | (refine build_g (by rfl) 45 #[] rfl #[] (.agg ZL.toArray) (by simp) (HBG.out _) ?_))
              clear heq
              have HR13 : Hid (RS w [(n9, 31, XL), (w.heap.size + 1 + 1 + 1, 45, AL), (w.heap.size + 1 + 1, 45, GL), (w.heap.size + 1, 40, OL), (w.heap.size, 31, IL)] V10) := RS_tail HR12.out
              clear HR12
              clear HOB
              go_cut [16] from 123 to 136 (fun p X => ∃ n16 : Nat, p = .pointer (some ⟨n16, 0, none⟩) ∧ RS w ((n16, 40, ZL0) :: [(n9, 31, XL), (w.heap.size + 1 + 1 + 1, 45, AL), (w.heap.size + 1 + 1, 45, GL), (w.heap.size + 1, 40, OL), (w.heap.size, 31, IL)]) X)
              case first =>
                refine wp_region_held_drew (S := fun X => RS w [(n9, 31, XL), (w.heap.size + 1 + 1 + 1, 45, AL), (w.heap.size + 1 + 1, 45, GL), (w.heap.size + 1, 40, OL), (w.heap.size, 31, IL)] X) (by kernel_rfl) (HR13.out.step (below_drew _)) (fun hHeld => ?_)
                clear HR13
                generalize World.drew _ = Y0 at *
                refine wpAnyH_take (i := 0) (oi := { dst := some 123, op := Go.Op.load 45 (Go.Operand.tmp 5), type := 45, pos := _, after := #[], guard := none }) rfl (by kernel_rfl) (by kernel_rfl) (by kernel_rfl) (fun _ _ _ h => h) (yieldsIf_load_mid (by rfl) 45 (.tmp 5) rfl (w.heap.size + 1 + 1) (0) rfl (GL) _ (fun _ h => rangeAt_row (h.at 2 rfl)) Try.underlying45 rfl (info128 GL HGL.out)) hHeld ?_
                try simp only [Act.put, List.setIfInBounds_toArray, List.set_cons_zero, List.set_cons_succ]
                refine wpAnyH_take (i := 4) (oi := { dst := some 127, op := Go.Op.load 45 (Go.Operand.tmp 5), type := 45, pos := _, after := #[], guard := none }) rfl (by kernel_rfl) (by kernel_rfl) (by kernel_rfl) (fun _ _ _ h => h) (yieldsIf_load_mid (by rfl) 45 (.tmp 5) rfl (w.heap.size + 1 + 1) (0) rfl (GL) _ (fun _ h => rangeAt_row (h.at 2 rfl)) Try.underlying45 rfl (info128 GL HGL.out)) hHeld ?_
                try simp only [Act.put, List.setIfInBounds_toArray, List.set_cons_zero, List.set_cons_succ]
                refine wpAnyH_take (i := 6) (oi := { dst := some 129, op := Go.Op.load 45 (Go.Operand.tmp 5), type := 45, pos := _, after := #[], guard := none }) rfl (by kernel_rfl) (by kernel_rfl) (by kernel_rfl) (fun _ _ _ h => h) (yieldsIf_load_mid (by rfl) 45 (.tmp 5) rfl (w.heap.size + 1 + 1) (0) rfl (GL) _ (fun _ h => rangeAt_row (h.at 2 rfl)) Try.underlying45 rfl (info128 GL HGL.out)) hHeld ?_
                try simp only [Act.put, List.setIfInBounds_toArray, List.set_cons_zero, List.set_cons_succ]
                refine wpAnyH_take (i := 9) (oi := { dst := some 132, op := Go.Op.load 45 (Go.Operand.tmp 5), type := 45, pos := _, after := #[], guard := none }) rfl (by kernel_rfl) (by kernel_rfl) (by kernel_rfl) (fun _ _ _ h => h) (yieldsIf_load_mid (by rfl) 45 (.tmp 5) rfl (w.heap.size + 1 + 1) (0) rfl (GL) _ (fun _ h => rangeAt_row (h.at 2 rfl)) Try.underlying45 rfl (info128 GL HGL.out)) hHeld ?_
                try simp only [Act.put, List.setIfInBounds_toArray, List.set_cons_zero, List.set_cons_succ]
                refine wpAnyH_ready (rs := [1, 14]) (by kernel_rfl) (by simp) ?_
                refine AllReadyH.cons (o := { dst := some 124, op := Go.Op.call { callee := Go.Callee.value (Go.Operand.func 19), args := #[Go.Operand.tmp 123, Go.Operand.const (Go.Value.int Go.IntKind.i64 0)], argTypes := #[45, 3] }, type := 22, pos := _, after := #[{ on := 0, ground := Go.Ground.data }], guard := none }) rfl (fun K hK => ?_) (AllReadyH.cons (o := { dst := some 16, op := Go.Op.alloc 40, type := 0, pos := _, after := #[], guard := none }) rfl (fun K hK => ?_) AllReadyH.nil)
                all_goals rw [if_pos (by rfl)]
                · skip
                  go_wp2_with fail
                  refine Calls.mono (HW0.out _) ?_
                  rintro e Y1 ⟨rfl, b⟩
                  replace hHeld := hHeld.step b
                  clear b
                  refine hK.out _ _ hHeld (fun _ => ?_)
                  clear hK K
                  try simp only [Act.put, List.setIfInBounds_toArray, List.set_cons_zero, List.set_cons_succ]
                  refine wpAnyH_take (i := 2) (oi := { dst := some 125, op := Go.Op.binOp Go.BinOp.rem 22 (Go.Operand.tmp 124) (Go.Operand.const (Go.Value.int Go.IntKind.u64 8)) 22, type := 22, pos := _, after := #[{ on := 1, ground := Go.Ground.data }], guard := none }) (v := .int .u64 r0) rfl (by kernel_rfl) (by kernel_rfl) (by kernel_rfl) (fun _ _ _ h => h) (Or.inl ⟨by rfl, fun w' hw' => ?_⟩) hHeld ?_
                  · first | (go_simp; done) | (go_simp; rfl)
                  try simp only [Act.put, List.setIfInBounds_toArray, List.set_cons_zero, List.set_cons_succ]
                  refine wpAnyH_take (i := 3) (oi := { dst := some 126, op := Go.Op.convert 22 38 (Go.Operand.tmp 125), type := 38, pos := _, after := #[{ on := 2, ground := Go.Ground.data }], guard := none }) (v := .int .i64 r0) rfl (by kernel_rfl) (by kernel_rfl) (by kernel_rfl) (fun _ _ _ h => h) (Or.inl ⟨by rfl, fun w' hw' => ?_⟩) hHeld ?_
                  · first | (go_simp; done) | (go_simp; rfl)
                  try simp only [Act.put, List.setIfInBounds_toArray, List.set_cons_zero, List.set_cons_succ]
                  refine wpAnyH_ready (rs := [5, 14]) (by kernel_rfl) (by simp) ?_
                  refine AllReadyH.cons (o := { dst := some 128, op := Go.Op.call { callee := Go.Callee.value (Go.Operand.func 19), args := #[Go.Operand.tmp 127, Go.Operand.const (Go.Value.int Go.IntKind.i64 5)], argTypes := #[45, 3] }, type := 22, pos := _, after := #[{ on := 4, ground := Go.Ground.data }, { on := 1, ground := Go.Ground.chain }], guard := none }) rfl (fun K hK => ?_) (AllReadyH.cons (o := { dst := some 16, op := Go.Op.alloc 40, type := 0, pos := _, after := #[], guard := none }) rfl (fun K hK => ?_) AllReadyH.nil)
                  all_goals rw [if_pos (by rfl)]
                  · skip
                    go_wp2_with fail
                    refine Calls.mono (HW5.out _) ?_
                    rintro e Y2 ⟨rfl, b⟩
                    replace hHeld := hHeld.step b
                    clear b
                    refine hK.out _ _ hHeld (fun _ => ?_)
                    clear hK K
                    try simp only [Act.put, List.setIfInBounds_toArray, List.set_cons_zero, List.set_cons_succ]
                    refine wpAnyH_ready (rs := [7, 14]) (by kernel_rfl) (by simp) ?_
                    refine AllReadyH.cons (o := { dst := some 130, op := Go.Op.call { callee := Go.Callee.value (Go.Operand.func 19), args := #[Go.Operand.tmp 129, Go.Operand.const (Go.Value.int Go.IntKind.i64 6)], argTypes := #[45, 3] }, type := 22, pos := _, after := #[{ on := 6, ground := Go.Ground.data }, { on := 5, ground := Go.Ground.chain }], guard := none }) rfl (fun K hK => ?_) (AllReadyH.cons (o := { dst := some 16, op := Go.Op.alloc 40, type := 0, pos := _, after := #[], guard := none }) rfl (fun K hK => ?_) AllReadyH.nil)
                    all_goals rw [if_pos (by rfl)]
                    · skip
                      go_wp2_with fail
                      refine Calls.mono (HW6.out _) ?_
                      rintro e Y3 ⟨rfl, b⟩
                      replace hHeld := hHeld.step b
                      clear b
                      refine hK.out _ _ hHeld (fun _ => ?_)
                      clear hK K
                      try simp only [Act.put, List.setIfInBounds_toArray, List.set_cons_zero, List.set_cons_succ]
                      refine wpAnyH_take (i := 8) (oi := { dst := some 131, op := Go.Op.binOp Go.BinOp.eql 22 (Go.Operand.tmp 130) (Go.Operand.const (Go.Value.int Go.IntKind.u64 1)) 22, type := 4, pos := _, after := #[{ on := 7, ground := Go.Ground.data }], guard := none }) (v := .bool b6) rfl (by kernel_rfl) (by kernel_rfl) (by kernel_rfl) (fun _ _ _ h => h) (Or.inl ⟨by rfl, fun w' hw' => ?_⟩) hHeld ?_
                      · first | (go_simp; done) | (go_simp; rfl)
                      try simp only [Act.put, List.setIfInBounds_toArray, List.set_cons_zero, List.set_cons_succ]
                      refine wpAnyH_ready (rs := [10, 14]) (by kernel_rfl) (by simp) ?_
                      refine AllReadyH.cons (o := { dst := some 133, op := Go.Op.call { callee := Go.Callee.value (Go.Operand.func 19), args := #[Go.Operand.tmp 132, Go.Operand.const (Go.Value.int Go.IntKind.i64 7)], argTypes := #[45, 3] }, type := 22, pos := _, after := #[{ on := 9, ground := Go.Ground.data }, { on := 7, ground := Go.Ground.chain }], guard := none }) rfl (fun K hK => ?_) (AllReadyH.cons (o := { dst := some 16, op := Go.Op.alloc 40, type := 0, pos := _, after := #[], guard := none }) rfl (fun K hK => ?_) AllReadyH.nil)
                      all_goals rw [if_pos (by rfl)]
                      · skip
                        go_wp2_with fail
                        refine Calls.mono (HW7.out _) ?_
                        rintro e Y4 ⟨rfl, b⟩
                        replace hHeld := hHeld.step b
                        clear b
                        refine hK.out _ _ hHeld (fun _ => ?_)
                        clear hK K
                        try simp only [Act.put, List.setIfInBounds_toArray, List.set_cons_zero, List.set_cons_succ]
                        refine wpAnyH_take (i := 11) (oi := { dst := some 134, op := Go.Op.binOp Go.BinOp.rem 22 (Go.Operand.tmp 133) (Go.Operand.const (Go.Value.int Go.IntKind.u64 20000)) 22, type := 22, pos := _, after := #[{ on := 10, ground := Go.Ground.data }], guard := none }) (v := .int .u64 r7) rfl (by kernel_rfl) (by kernel_rfl) (by kernel_rfl) (fun _ _ _ h => h) (Or.inl ⟨by rfl, fun w' hw' => ?_⟩) hHeld ?_
                        · first | (go_simp; done) | (go_simp; rfl)
                        try simp only [Act.put, List.setIfInBounds_toArray, List.set_cons_zero, List.set_cons_succ]
                        refine wpAnyH_take (i := 12) (oi := { dst := some 135, op := Go.Op.convert 22 3 (Go.Operand.tmp 134), type := 3, pos := _, after := #[{ on := 11, ground := Go.Ground.data }], guard := none }) (v := .int .i64 r7) rfl (by kernel_rfl) (by kernel_rfl) (by kernel_rfl) (fun _ _ _ h => h) (Or.inl ⟨by rfl, fun w' hw' => ?_⟩) hHeld ?_
                        · first | (go_simp; done) | (go_simp; rfl)
                        try simp only [Act.put, List.setIfInBounds_toArray, List.set_cons_zero, List.set_cons_succ]
                        refine wpAnyH_take (i := 13) (oi := { dst := some 136, op := Go.Op.build 40 #[(0, Go.Operand.tmp 126), (2, Go.Operand.tmp 128), (3, Go.Operand.tmp 131), (4, Go.Operand.tmp 135)], type := 40, pos := _, after := #[{ on := 3, ground := Go.Ground.data }, { on := 5, ground := Go.Ground.data }, { on := 8, ground := Go.Ground.data }, { on := 12, ground := Go.Ground.data }], guard := none }) (v := .agg ZL0.toArray) rfl (by kernel_rfl) (by kernel_rfl) (by kernel_rfl) (fun _ _ _ h => h) (Or.inl ⟨by rfl, fun w' hw' => ?_⟩) hHeld ?_
                        · exact exec_build _ _ 40 _ #[(0, .int .i64 r0), (2, .int .u64 c5), (3, .bool b6), (4, .int .i64 r7)] _ _ rfl (by simp; first | done | exact ⟨rfl, rfl, rfl, rfl⟩) (HBZ.out w')
                        try simp only [Act.put, List.setIfInBounds_toArray, List.set_cons_zero, List.set_cons_succ]
                        refine wpAnyH_ready (rs := [14]) (by kernel_rfl) (by simp) ?_
                        refine AllReadyH.cons (o := { dst := some 16, op := Go.Op.alloc 40, type := 0, pos := _, after := #[], guard := none }) rfl (fun K hK => ?_) AllReadyH.nil
                        rw [if_pos (by rfl)]
                        go_wp2_with fail
                        have hN := hHeld.alloc _ rfl 40 ZO
                        replace hHeld := RS_tail hN
                        generalize (Y4).alloc (.cells ZO.toArray 40 (0, 0)) = Y5 at *
                        generalize (Y4).heap.size = n16 at *
                        refine hK.out _ _ hHeld (fun _ => ?_)
                        clear hK K
                        try simp only [Act.put, List.setIfInBounds_toArray, List.set_cons_zero, List.set_cons_succ]
                        refine wpAnyH_ready (rs := [15]) (by kernel_rfl) (by simp) ?_
                        refine AllReadyH.cons (o := { dst := none, op := Go.Op.store 40 (Go.Operand.tmp 16) (Go.Operand.tmp 136), type := 0, pos := _, after := #[{ on := 14, ground := Go.Ground.data }, { on := 13, ground := Go.Ground.data }, { on := 10, ground := Go.Ground.chain }, { on := 0, ground := Go.Ground.phase }, { on := 1, ground := Go.Ground.phase }, { on := 2, ground := Go.Ground.phase }, { on := 3, ground := Go.Ground.phase }, { on := 4, ground := Go.Ground.phase }, { on := 5, ground := Go.Ground.phase }, { on := 6, ground := Go.Ground.phase }, { on := 7, ground := Go.Ground.phase }, { on := 8, ground := Go.Ground.phase }, { on := 9, ground := Go.Ground.phase }, { on := 10, ground := Go.Ground.phase }, { on := 11, ground := Go.Ground.phase }, { on := 12, ground := Go.Ground.phase }, { on := 13, ground := Go.Ground.phase }, { on := 14, ground := Go.Ground.phase }], guard := none }) rfl (fun K hK => ?_) AllReadyH.nil
                        rw [if_pos (by rfl)]
                        refine wp_store_row 40 _ _ rfl n16 ZL0.toArray rfl rfl 40 ZO.toArray (hN.at 0 rfl) (info8oa ZL0 HZ0N.out) (by simp [HZ0N.out, HZON.out]) HZ01.out ?_
                        have hN2 := hN.put 0 rfl ZL0
                        have hH2 := RS_tail hN2
                        refine hK.out _ _ hH2 (fun _ => ?_)
                        clear hK K
                        try simp only [Act.put, List.setIfInBounds_toArray, List.set_cons_zero, List.set_cons_succ]
                        refine wpAnyH_done (by kernel_rfl) ?_ _
                        go_wp2_with fail
                        go_meet
                        case rel => exact ⟨_, rfl, hN2⟩
                      · skip
                        go_wp2_with fail
                        have hN := hHeld.alloc _ rfl 40 ZO
                        replace hHeld := RS_tail hN
                        generalize (Y3).alloc (.cells ZO.toArray 40 (0, 0)) = Y4 at *
                        generalize (Y3).heap.size = n16 at *
                        refine hK.out _ _ hHeld (fun _ => ?_)
                        clear hK K
                        try simp only [Act.put, List.setIfInBounds_toArray, List.set_cons_zero, List.set_cons_succ]
                        refine wpAnyH_ready (rs := [10]) (by kernel_rfl) (by simp) ?_
                        refine AllReadyH.cons (o := { dst := some 133, op := Go.Op.call { callee := Go.Callee.value (Go.Operand.func 19), args := #[Go.Operand.tmp 132, Go.Operand.const (Go.Value.int Go.IntKind.i64 7)], argTypes := #[45, 3] }, type := 22, pos := _, after := #[{ on := 9, ground := Go.Ground.data }, { on := 7, ground := Go.Ground.chain }], guard := none }) rfl (fun K hK => ?_) AllReadyH.nil
                        rw [if_pos (by rfl)]
                        go_wp2_with fail
                        refine Calls.mono (HW7.out _) ?_
                        rintro e Y5 ⟨rfl, b⟩
                        replace hN := hN.step b
                        replace hHeld := hHeld.step b
                        clear b
                        refine hK.out _ _ hHeld (fun _ => ?_)
                        clear hK K
                        try simp only [Act.put, List.setIfInBounds_toArray, List.set_cons_zero, List.set_cons_succ]
                        refine wpAnyH_take (i := 11) (oi := { dst := some 134, op := Go.Op.binOp Go.BinOp.rem 22 (Go.Operand.tmp 133) (Go.Operand.const (Go.Value.int Go.IntKind.u64 20000)) 22, type := 22, pos := _, after := #[{ on := 10, ground := Go.Ground.data }], guard := none }) (v := .int .u64 r7) rfl (by kernel_rfl) (by kernel_rfl) (by kernel_rfl) (fun _ _ _ h => h) (Or.inl ⟨by rfl, fun w' hw' => ?_⟩) hHeld ?_
                        · first | (go_simp; done) | (go_simp; rfl)
                        try simp only [Act.put, List.setIfInBounds_toArray, List.set_cons_zero, List.set_cons_succ]
                        refine wpAnyH_take (i := 12) (oi := { dst := some 135, op := Go.Op.convert 22 3 (Go.Operand.tmp 134), type := 3, pos := _, after := #[{ on := 11, ground := Go.Ground.data }], guard := none }) (v := .int .i64 r7) rfl (by kernel_rfl) (by kernel_rfl) (by kernel_rfl) (fun _ _ _ h => h) (Or.inl ⟨by rfl, fun w' hw' => ?_⟩) hHeld ?_
                        · first | (go_simp; done) | (go_simp; rfl)
                        try simp only [Act.put, List.setIfInBounds_toArray, List.set_cons_zero, List.set_cons_succ]
                        refine wpAnyH_take (i := 13) (oi := { dst := some 136, op := Go.Op.build 40 #[(0, Go.Operand.tmp 126), (2, Go.Operand.tmp 128), (3, Go.Operand.tmp 131), (4, Go.Operand.tmp 135)], type := 40, pos := _, after := #[{ on := 3, ground := Go.Ground.data }, { on := 5, ground := Go.Ground.data }, { on := 8, ground := Go.Ground.data }, { on := 12, ground := Go.Ground.data }], guard := none }) (v := .agg ZL0.toArray) rfl (by kernel_rfl) (by kernel_rfl) (by kernel_rfl) (fun _ _ _ h => h) (Or.inl ⟨by rfl, fun w' hw' => ?_⟩) hHeld ?_
                        · exact exec_build _ _ 40 _ #[(0, .int .i64 r0), (2, .int .u64 c5), (3, .bool b6), (4, .int .i64 r7)] _ _ rfl (by simp; first | done | exact ⟨rfl, rfl, rfl, rfl⟩) (HBZ.out w')
                        try simp only [Act.put, List.setIfInBounds_toArray, List.set_cons_zero, List.set_cons_succ]
                        refine wpAnyH_ready (rs := [15]) (by kernel_rfl) (by simp) ?_
                        refine AllReadyH.cons (o := { dst := none, op := Go.Op.store 40 (Go.Operand.tmp 16) (Go.Operand.tmp 136), type := 0, pos := _, after := #[{ on := 14, ground := Go.Ground.data }, { on := 13, ground := Go.Ground.data }, { on := 10, ground := Go.Ground.chain }, { on := 0, ground := Go.Ground.phase }, { on := 1, ground := Go.Ground.phase }, { on := 2, ground := Go.Ground.phase }, { on := 3, ground := Go.Ground.phase }, { on := 4, ground := Go.Ground.phase }, { on := 5, ground := Go.Ground.phase }, { on := 6, ground := Go.Ground.phase }, { on := 7, ground := Go.Ground.phase }, { on := 8, ground := Go.Ground.phase }, { on := 9, ground := Go.Ground.phase }, { on := 10, ground := Go.Ground.phase }, { on := 11, ground := Go.Ground.phase }, { on := 12, ground := Go.Ground.phase }, { on := 13, ground := Go.Ground.phase }, { on := 14, ground := Go.Ground.phase }], guard := none }) rfl (fun K hK => ?_) AllReadyH.nil
                        rw [if_pos (by rfl)]
                        refine wp_store_row 40 _ _ rfl n16 ZL0.toArray rfl rfl 40 ZO.toArray (hN.at 0 rfl) (info8oa ZL0 HZ0N.out) (by simp [HZ0N.out, HZON.out]) HZ01.out ?_
                        have hN2 := hN.put 0 rfl ZL0
                        have hH2 := RS_tail hN2
                        refine hK.out _ _ hH2 (fun _ => ?_)
                        clear hK K
                        try simp only [Act.put, List.setIfInBounds_toArray, List.set_cons_zero, List.set_cons_succ]
                        refine wpAnyH_done (by kernel_rfl) ?_ _
                        go_wp2_with fail
                        go_meet
                        case rel => exact ⟨_, rfl, hN2⟩
                    · skip
                      go_wp2_with fail
                      have hN := hHeld.alloc _ rfl 40 ZO
                      replace hHeld := RS_tail hN
                      generalize (Y2).alloc (.cells ZO.toArray 40 (0, 0)) = Y3 at *
                      generalize (Y2).heap.size = n16 at *
                      refine hK.out _ _ hHeld (fun _ => ?_)
                      clear hK K
                      try simp only [Act.put, List.setIfInBounds_toArray, List.set_cons_zero, List.set_cons_succ]
                      refine wpAnyH_ready (rs := [7]) (by kernel_rfl) (by simp) ?_
                      refine AllReadyH.cons (o := { dst := some 130, op := Go.Op.call { callee := Go.Callee.value (Go.Operand.func 19), args := #[Go.Operand.tmp 129, Go.Operand.const (Go.Value.int Go.IntKind.i64 6)], argTypes := #[45, 3] }, type := 22, pos := _, after := #[{ on := 6, ground := Go.Ground.data }, { on := 5, ground := Go.Ground.chain }], guard := none }) rfl (fun K hK => ?_) AllReadyH.nil
                      rw [if_pos (by rfl)]
                      go_wp2_with fail
                      refine Calls.mono (HW6.out _) ?_
                      rintro e Y4 ⟨rfl, b⟩
                      replace hN := hN.step b
                      replace hHeld := hHeld.step b
                      clear b
                      refine hK.out _ _ hHeld (fun _ => ?_)
                      clear hK K
                      try simp only [Act.put, List.setIfInBounds_toArray, List.set_cons_zero, List.set_cons_succ]
                      refine wpAnyH_take (i := 8) (oi := { dst := some 131, op := Go.Op.binOp Go.BinOp.eql 22 (Go.Operand.tmp 130) (Go.Operand.const (Go.Value.int Go.IntKind.u64 1)) 22, type := 4, pos := _, after := #[{ on := 7, ground := Go.Ground.data }], guard := none }) (v := .bool b6) rfl (by kernel_rfl) (by kernel_rfl) (by kernel_rfl) (fun _ _ _ h => h) (Or.inl ⟨by rfl, fun w' hw' => ?_⟩) hHeld ?_
                      · first | (go_simp; done) | (go_simp; rfl)
                      try simp only [Act.put, List.setIfInBounds_toArray, List.set_cons_zero, List.set_cons_succ]
                      refine wpAnyH_ready (rs := [10]) (by kernel_rfl) (by simp) ?_
                      refine AllReadyH.cons (o := { dst := some 133, op := Go.Op.call { callee := Go.Callee.value (Go.Operand.func 19), args := #[Go.Operand.tmp 132, Go.Operand.const (Go.Value.int Go.IntKind.i64 7)], argTypes := #[45, 3] }, type := 22, pos := _, after := #[{ on := 9, ground := Go.Ground.data }, { on := 7, ground := Go.Ground.chain }], guard := none }) rfl (fun K hK => ?_) AllReadyH.nil
                      rw [if_pos (by rfl)]
                      go_wp2_with fail
                      refine Calls.mono (HW7.out _) ?_
                      rintro e Y5 ⟨rfl, b⟩
                      replace hN := hN.step b
                      replace hHeld := hHeld.step b
                      clear b
                      refine hK.out _ _ hHeld (fun _ => ?_)
                      clear hK K
                      try simp only [Act.put, List.setIfInBounds_toArray, List.set_cons_zero, List.set_cons_succ]
                      refine wpAnyH_take (i := 11) (oi := { dst := some 134, op := Go.Op.binOp Go.BinOp.rem 22 (Go.Operand.tmp 133) (Go.Operand.const (Go.Value.int Go.IntKind.u64 20000)) 22, type := 22, pos := _, after := #[{ on := 10, ground := Go.Ground.data }], guard := none }) (v := .int .u64 r7) rfl (by kernel_rfl) (by kernel_rfl) (by kernel_rfl) (fun _ _ _ h => h) (Or.inl ⟨by rfl, fun w' hw' => ?_⟩) hHeld ?_
                      · first | (go_simp; done) | (go_simp; rfl)
                      try simp only [Act.put, List.setIfInBounds_toArray, List.set_cons_zero, List.set_cons_succ]
                      refine wpAnyH_take (i := 12) (oi := { dst := some 135, op := Go.Op.convert 22 3 (Go.Operand.tmp 134), type := 3, pos := _, after := #[{ on := 11, ground := Go.Ground.data }], guard := none }) (v := .int .i64 r7) rfl (by kernel_rfl) (by kernel_rfl) (by kernel_rfl) (fun _ _ _ h => h) (Or.inl ⟨by rfl, fun w' hw' => ?_⟩) hHeld ?_
                      · first | (go_simp; done) | (go_simp; rfl)
                      try simp only [Act.put, List.setIfInBounds_toArray, List.set_cons_zero, List.set_cons_succ]
                      refine wpAnyH_take (i := 13) (oi := { dst := some 136, op := Go.Op.build 40 #[(0, Go.Operand.tmp 126), (2, Go.Operand.tmp 128), (3, Go.Operand.tmp 131), (4, Go.Operand.tmp 135)], type := 40, pos := _, after := #[{ on := 3, ground := Go.Ground.data }, { on := 5, ground := Go.Ground.data }, { on := 8, ground := Go.Ground.data }, { on := 12, ground := Go.Ground.data }], guard := none }) (v := .agg ZL0.toArray) rfl (by kernel_rfl) (by kernel_rfl) (by kernel_rfl) (fun _ _ _ h => h) (Or.inl ⟨by rfl, fun w' hw' => ?_⟩) hHeld ?_
                      · exact exec_build _ _ 40 _ #[(0, .int .i64 r0), (2, .int .u64 c5), (3, .bool b6), (4, .int .i64 r7)] _ _ rfl (by simp; first | done | exact ⟨rfl, rfl, rfl, rfl⟩) (HBZ.out w')
                      try simp only [Act.put, List.setIfInBounds_toArray, List.set_cons_zero, List.set_cons_succ]
                      refine wpAnyH_ready (rs := [15]) (by kernel_rfl) (by simp) ?_
                      refine AllReadyH.cons (o := { dst := none, op := Go.Op.store 40 (Go.Operand.tmp 16) (Go.Operand.tmp 136), type := 0, pos := _, after := #[{ on := 14, ground := Go.Ground.data }, { on := 13, ground := Go.Ground.data }, { on := 10, ground := Go.Ground.chain }, { on := 0, ground := Go.Ground.phase }, { on := 1, ground := Go.Ground.phase }, { on := 2, ground := Go.Ground.phase }, { on := 3, ground := Go.Ground.phase }, { on := 4, ground := Go.Ground.phase }, { on := 5, ground := Go.Ground.phase }, { on := 6, ground := Go.Ground.phase }, { on := 7, ground := Go.Ground.phase }, { on := 8, ground := Go.Ground.phase }, { on := 9, ground := Go.Ground.phase }, { on := 10, ground := Go.Ground.phase }, { on := 11, ground := Go.Ground.phase }, { on := 12, ground := Go.Ground.phase }, { on := 13, ground := Go.Ground.phase }, { on := 14, ground := Go.Ground.phase }], guard := none }) rfl (fun K hK => ?_) AllReadyH.nil
                      rw [if_pos (by rfl)]
                      refine wp_store_row 40 _ _ rfl n16 ZL0.toArray rfl rfl 40 ZO.toArray (hN.at 0 rfl) (info8oa ZL0 HZ0N.out) (by simp [HZ0N.out, HZON.out]) HZ01.out ?_
                      have hN2 := hN.put 0 rfl ZL0
                      have hH2 := RS_tail hN2
                      refine hK.out _ _ hH2 (fun _ => ?_)
                      clear hK K
                      try simp only [Act.put, List.setIfInBounds_toArray, List.set_cons_zero, List.set_cons_succ]
                      refine wpAnyH_done (by kernel_rfl) ?_ _
                      go_wp2_with fail
                      go_meet
                      case rel => exact ⟨_, rfl, hN2⟩
                  · skip
                    go_wp2_with fail
                    have hN := hHeld.alloc _ rfl 40 ZO
                    replace hHeld := RS_tail hN
                    generalize (Y1).alloc (.cells ZO.toArray 40 (0, 0)) = Y2 at *
                    generalize (Y1).heap.size = n16 at *
                    refine hK.out _ _ hHeld (fun _ => ?_)
                    clear hK K
                    try simp only [Act.put, List.setIfInBounds_toArray, List.set_cons_zero, List.set_cons_succ]
                    refine wpAnyH_ready (rs := [5]) (by kernel_rfl) (by simp) ?_
                    refine AllReadyH.cons (o := { dst := some 128, op := Go.Op.call { callee := Go.Callee.value (Go.Operand.func 19), args := #[Go.Operand.tmp 127, Go.Operand.const (Go.Value.int Go.IntKind.i64 5)], argTypes := #[45, 3] }, type := 22, pos := _, after := #[{ on := 4, ground := Go.Ground.data }, { on := 1, ground := Go.Ground.chain }], guard := none }) rfl (fun K hK => ?_) AllReadyH.nil
                    rw [if_pos (by rfl)]
                    go_wp2_with fail
                    refine Calls.mono (HW5.out _) ?_
                    rintro e Y3 ⟨rfl, b⟩
                    replace hN := hN.step b
                    replace hHeld := hHeld.step b
                    clear b
                    refine hK.out _ _ hHeld (fun _ => ?_)
                    clear hK K
                    try simp only [Act.put, List.setIfInBounds_toArray, List.set_cons_zero, List.set_cons_succ]
                    refine wpAnyH_ready (rs := [7]) (by kernel_rfl) (by simp) ?_
                    refine AllReadyH.cons (o := { dst := some 130, op := Go.Op.call { callee := Go.Callee.value (Go.Operand.func 19), args := #[Go.Operand.tmp 129, Go.Operand.const (Go.Value.int Go.IntKind.i64 6)], argTypes := #[45, 3] }, type := 22, pos := _, after := #[{ on := 6, ground := Go.Ground.data }, { on := 5, ground := Go.Ground.chain }], guard := none }) rfl (fun K hK => ?_) AllReadyH.nil
                    rw [if_pos (by rfl)]
                    go_wp2_with fail
                    refine Calls.mono (HW6.out _) ?_
                    rintro e Y4 ⟨rfl, b⟩
                    replace hN := hN.step b
                    replace hHeld := hHeld.step b
                    clear b
                    refine hK.out _ _ hHeld (fun _ => ?_)
                    clear hK K
                    try simp only [Act.put, List.setIfInBounds_toArray, List.set_cons_zero, List.set_cons_succ]
                    refine wpAnyH_take (i := 8) (oi := { dst := some 131, op := Go.Op.binOp Go.BinOp.eql 22 (Go.Operand.tmp 130) (Go.Operand.const (Go.Value.int Go.IntKind.u64 1)) 22, type := 4, pos := _, after := #[{ on := 7, ground := Go.Ground.data }], guard := none }) (v := .bool b6) rfl (by kernel_rfl) (by kernel_rfl) (by kernel_rfl) (fun _ _ _ h => h) (Or.inl ⟨by rfl, fun w' hw' => ?_⟩) hHeld ?_
                    · first | (go_simp; done) | (go_simp; rfl)
                    try simp only [Act.put, List.setIfInBounds_toArray, List.set_cons_zero, List.set_cons_succ]
                    refine wpAnyH_ready (rs := [10]) (by kernel_rfl) (by simp) ?_
                    refine AllReadyH.cons (o := { dst := some 133, op := Go.Op.call { callee := Go.Callee.value (Go.Operand.func 19), args := #[Go.Operand.tmp 132, Go.Operand.const (Go.Value.int Go.IntKind.i64 7)], argTypes := #[45, 3] }, type := 22, pos := _, after := #[{ on := 9, ground := Go.Ground.data }, { on := 7, ground := Go.Ground.chain }], guard := none }) rfl (fun K hK => ?_) AllReadyH.nil
                    rw [if_pos (by rfl)]
                    go_wp2_with fail
                    refine Calls.mono (HW7.out _) ?_
                    rintro e Y5 ⟨rfl, b⟩
                    replace hN := hN.step b
                    replace hHeld := hHeld.step b
                    clear b
                    refine hK.out _ _ hHeld (fun _ => ?_)
                    clear hK K
                    try simp only [Act.put, List.setIfInBounds_toArray, List.set_cons_zero, List.set_cons_succ]
                    refine wpAnyH_take (i := 11) (oi := { dst := some 134, op := Go.Op.binOp Go.BinOp.rem 22 (Go.Operand.tmp 133) (Go.Operand.const (Go.Value.int Go.IntKind.u64 20000)) 22, type := 22, pos := _, after := #[{ on := 10, ground := Go.Ground.data }], guard := none }) (v := .int .u64 r7) rfl (by kernel_rfl) (by kernel_rfl) (by kernel_rfl) (fun _ _ _ h => h) (Or.inl ⟨by rfl, fun w' hw' => ?_⟩) hHeld ?_
                    · first | (go_simp; done) | (go_simp; rfl)
                    try simp only [Act.put, List.setIfInBounds_toArray, List.set_cons_zero, List.set_cons_succ]
                    refine wpAnyH_take (i := 12) (oi := { dst := some 135, op := Go.Op.convert 22 3 (Go.Operand.tmp 134), type := 3, pos := _, after := #[{ on := 11, ground := Go.Ground.data }], guard := none }) (v := .int .i64 r7) rfl (by kernel_rfl) (by kernel_rfl) (by kernel_rfl) (fun _ _ _ h => h) (Or.inl ⟨by rfl, fun w' hw' => ?_⟩) hHeld ?_
                    · first | (go_simp; done) | (go_simp; rfl)
                    try simp only [Act.put, List.setIfInBounds_toArray, List.set_cons_zero, List.set_cons_succ]
                    refine wpAnyH_take (i := 13) (oi := { dst := some 136, op := Go.Op.build 40 #[(0, Go.Operand.tmp 126), (2, Go.Operand.tmp 128), (3, Go.Operand.tmp 131), (4, Go.Operand.tmp 135)], type := 40, pos := _, after := #[{ on := 3, ground := Go.Ground.data }, { on := 5, ground := Go.Ground.data }, { on := 8, ground := Go.Ground.data }, { on := 12, ground := Go.Ground.data }], guard := none }) (v := .agg ZL0.toArray) rfl (by kernel_rfl) (by kernel_rfl) (by kernel_rfl) (fun _ _ _ h => h) (Or.inl ⟨by rfl, fun w' hw' => ?_⟩) hHeld ?_
                    · exact exec_build _ _ 40 _ #[(0, .int .i64 r0), (2, .int .u64 c5), (3, .bool b6), (4, .int .i64 r7)] _ _ rfl (by simp; first | done | exact ⟨rfl, rfl, rfl, rfl⟩) (HBZ.out w')
                    try simp only [Act.put, List.setIfInBounds_toArray, List.set_cons_zero, List.set_cons_succ]
                    refine wpAnyH_ready (rs := [15]) (by kernel_rfl) (by simp) ?_
                    refine AllReadyH.cons (o := { dst := none, op := Go.Op.store 40 (Go.Operand.tmp 16) (Go.Operand.tmp 136), type := 0, pos := _, after := #[{ on := 14, ground := Go.Ground.data }, { on := 13, ground := Go.Ground.data }, { on := 10, ground := Go.Ground.chain }, { on := 0, ground := Go.Ground.phase }, { on := 1, ground := Go.Ground.phase }, { on := 2, ground := Go.Ground.phase }, { on := 3, ground := Go.Ground.phase }, { on := 4, ground := Go.Ground.phase }, { on := 5, ground := Go.Ground.phase }, { on := 6, ground := Go.Ground.phase }, { on := 7, ground := Go.Ground.phase }, { on := 8, ground := Go.Ground.phase }, { on := 9, ground := Go.Ground.phase }, { on := 10, ground := Go.Ground.phase }, { on := 11, ground := Go.Ground.phase }, { on := 12, ground := Go.Ground.phase }, { on := 13, ground := Go.Ground.phase }, { on := 14, ground := Go.Ground.phase }], guard := none }) rfl (fun K hK => ?_) AllReadyH.nil
                    rw [if_pos (by rfl)]
                    refine wp_store_row 40 _ _ rfl n16 ZL0.toArray rfl rfl 40 ZO.toArray (hN.at 0 rfl) (info8oa ZL0 HZ0N.out) (by simp [HZ0N.out, HZON.out]) HZ01.out ?_
                    have hN2 := hN.put 0 rfl ZL0
                    have hH2 := RS_tail hN2
                    refine hK.out _ _ hH2 (fun _ => ?_)
                    clear hK K
                    try simp only [Act.put, List.setIfInBounds_toArray, List.set_cons_zero, List.set_cons_succ]
                    refine wpAnyH_done (by kernel_rfl) ?_ _
                    go_wp2_with fail
                    go_meet
                    case rel => exact ⟨_, rfl, hN2⟩
                · skip
                  go_wp2_with fail
                  have hN := hHeld.alloc _ rfl 40 ZO
                  replace hHeld := RS_tail hN
                  generalize (Y0).alloc (.cells ZO.toArray 40 (0, 0)) = Y1 at *
                  generalize (Y0).heap.size = n16 at *
                  refine hK.out _ _ hHeld (fun _ => ?_)
                  clear hK K
                  try simp only [Act.put, List.setIfInBounds_toArray, List.set_cons_zero, List.set_cons_succ]
                  refine wpAnyH_ready (rs := [1]) (by kernel_rfl) (by simp) ?_
                  refine AllReadyH.cons (o := { dst := some 124, op := Go.Op.call { callee := Go.Callee.value (Go.Operand.func 19), args := #[Go.Operand.tmp 123, Go.Operand.const (Go.Value.int Go.IntKind.i64 0)], argTypes := #[45, 3] }, type := 22, pos := _, after := #[{ on := 0, ground := Go.Ground.data }], guard := none }) rfl (fun K hK => ?_) AllReadyH.nil
                  rw [if_pos (by rfl)]
                  go_wp2_with fail
                  refine Calls.mono (HW0.out _) ?_
                  rintro e Y2 ⟨rfl, b⟩
                  replace hN := hN.step b
                  replace hHeld := hHeld.step b
                  clear b
                  refine hK.out _ _ hHeld (fun _ => ?_)
                  clear hK K
                  try simp only [Act.put, List.setIfInBounds_toArray, List.set_cons_zero, List.set_cons_succ]
                  refine wpAnyH_take (i := 2) (oi := { dst := some 125, op := Go.Op.binOp Go.BinOp.rem 22 (Go.Operand.tmp 124) (Go.Operand.const (Go.Value.int Go.IntKind.u64 8)) 22, type := 22, pos := _, after := #[{ on := 1, ground := Go.Ground.data }], guard := none }) (v := .int .u64 r0) rfl (by kernel_rfl) (by kernel_rfl) (by kernel_rfl) (fun _ _ _ h => h) (Or.inl ⟨by rfl, fun w' hw' => ?_⟩) hHeld ?_
                  · first | (go_simp; done) | (go_simp; rfl)
                  try simp only [Act.put, List.setIfInBounds_toArray, List.set_cons_zero, List.set_cons_succ]
                  refine wpAnyH_take (i := 3) (oi := { dst := some 126, op := Go.Op.convert 22 38 (Go.Operand.tmp 125), type := 38, pos := _, after := #[{ on := 2, ground := Go.Ground.data }], guard := none }) (v := .int .i64 r0) rfl (by kernel_rfl) (by kernel_rfl) (by kernel_rfl) (fun _ _ _ h => h) (Or.inl ⟨by rfl, fun w' hw' => ?_⟩) hHeld ?_
                  · first | (go_simp; done) | (go_simp; rfl)
                  try simp only [Act.put, List.setIfInBounds_toArray, List.set_cons_zero, List.set_cons_succ]
                  refine wpAnyH_ready (rs := [5]) (by kernel_rfl) (by simp) ?_
                  refine AllReadyH.cons (o := { dst := some 128, op := Go.Op.call { callee := Go.Callee.value (Go.Operand.func 19), args := #[Go.Operand.tmp 127, Go.Operand.const (Go.Value.int Go.IntKind.i64 5)], argTypes := #[45, 3] }, type := 22, pos := _, after := #[{ on := 4, ground := Go.Ground.data }, { on := 1, ground := Go.Ground.chain }], guard := none }) rfl (fun K hK => ?_) AllReadyH.nil
                  rw [if_pos (by rfl)]
                  go_wp2_with fail
                  refine Calls.mono (HW5.out _) ?_
                  rintro e Y3 ⟨rfl, b⟩
                  replace hN := hN.step b
                  replace hHeld := hHeld.step b
                  clear b
                  refine hK.out _ _ hHeld (fun _ => ?_)
                  clear hK K
                  try simp only [Act.put, List.setIfInBounds_toArray, List.set_cons_zero, List.set_cons_succ]
                  refine wpAnyH_ready (rs := [7]) (by kernel_rfl) (by simp) ?_
                  refine AllReadyH.cons (o := { dst := some 130, op := Go.Op.call { callee := Go.Callee.value (Go.Operand.func 19), args := #[Go.Operand.tmp 129, Go.Operand.const (Go.Value.int Go.IntKind.i64 6)], argTypes := #[45, 3] }, type := 22, pos := _, after := #[{ on := 6, ground := Go.Ground.data }, { on := 5, ground := Go.Ground.chain }], guard := none }) rfl (fun K hK => ?_) AllReadyH.nil
                  rw [if_pos (by rfl)]
                  go_wp2_with fail
                  refine Calls.mono (HW6.out _) ?_
                  rintro e Y4 ⟨rfl, b⟩
                  replace hN := hN.step b
                  replace hHeld := hHeld.step b
                  clear b
                  refine hK.out _ _ hHeld (fun _ => ?_)
                  clear hK K
                  try simp only [Act.put, List.setIfInBounds_toArray, List.set_cons_zero, List.set_cons_succ]
                  refine wpAnyH_take (i := 8) (oi := { dst := some 131, op := Go.Op.binOp Go.BinOp.eql 22 (Go.Operand.tmp 130) (Go.Operand.const (Go.Value.int Go.IntKind.u64 1)) 22, type := 4, pos := _, after := #[{ on := 7, ground := Go.Ground.data }], guard := none }) (v := .bool b6) rfl (by kernel_rfl) (by kernel_rfl) (by kernel_rfl) (fun _ _ _ h => h) (Or.inl ⟨by rfl, fun w' hw' => ?_⟩) hHeld ?_
                  · first | (go_simp; done) | (go_simp; rfl)
                  try simp only [Act.put, List.setIfInBounds_toArray, List.set_cons_zero, List.set_cons_succ]
                  refine wpAnyH_ready (rs := [10]) (by kernel_rfl) (by simp) ?_
                  refine AllReadyH.cons (o := { dst := some 133, op := Go.Op.call { callee := Go.Callee.value (Go.Operand.func 19), args := #[Go.Operand.tmp 132, Go.Operand.const (Go.Value.int Go.IntKind.i64 7)], argTypes := #[45, 3] }, type := 22, pos := _, after := #[{ on := 9, ground := Go.Ground.data }, { on := 7, ground := Go.Ground.chain }], guard := none }) rfl (fun K hK => ?_) AllReadyH.nil
                  rw [if_pos (by rfl)]
                  go_wp2_with fail
                  refine Calls.mono (HW7.out _) ?_
                  rintro e Y5 ⟨rfl, b⟩
                  replace hN := hN.step b
                  replace hHeld := hHeld.step b
                  clear b
                  refine hK.out _ _ hHeld (fun _ => ?_)
                  clear hK K
                  try simp only [Act.put, List.setIfInBounds_toArray, List.set_cons_zero, List.set_cons_succ]
                  refine wpAnyH_take (i := 11) (oi := { dst := some 134, op := Go.Op.binOp Go.BinOp.rem 22 (Go.Operand.tmp 133) (Go.Operand.const (Go.Value.int Go.IntKind.u64 20000)) 22, type := 22, pos := _, after := #[{ on := 10, ground := Go.Ground.data }], guard := none }) (v := .int .u64 r7) rfl (by kernel_rfl) (by kernel_rfl) (by kernel_rfl) (fun _ _ _ h => h) (Or.inl ⟨by rfl, fun w' hw' => ?_⟩) hHeld ?_
                  · first | (go_simp; done) | (go_simp; rfl)
                  try simp only [Act.put, List.setIfInBounds_toArray, List.set_cons_zero, List.set_cons_succ]
                  refine wpAnyH_take (i := 12) (oi := { dst := some 135, op := Go.Op.convert 22 3 (Go.Operand.tmp 134), type := 3, pos := _, after := #[{ on := 11, ground := Go.Ground.data }], guard := none }) (v := .int .i64 r7) rfl (by kernel_rfl) (by kernel_rfl) (by kernel_rfl) (fun _ _ _ h => h) (Or.inl ⟨by rfl, fun w' hw' => ?_⟩) hHeld ?_
                  · first | (go_simp; done) | (go_simp; rfl)
                  try simp only [Act.put, List.setIfInBounds_toArray, List.set_cons_zero, List.set_cons_succ]
                  refine wpAnyH_take (i := 13) (oi := { dst := some 136, op := Go.Op.build 40 #[(0, Go.Operand.tmp 126), (2, Go.Operand.tmp 128), (3, Go.Operand.tmp 131), (4, Go.Operand.tmp 135)], type := 40, pos := _, after := #[{ on := 3, ground := Go.Ground.data }, { on := 5, ground := Go.Ground.data }, { on := 8, ground := Go.Ground.data }, { on := 12, ground := Go.Ground.data }], guard := none }) (v := .agg ZL0.toArray) rfl (by kernel_rfl) (by kernel_rfl) (by kernel_rfl) (fun _ _ _ h => h) (Or.inl ⟨by rfl, fun w' hw' => ?_⟩) hHeld ?_
                  · exact exec_build _ _ 40 _ #[(0, .int .i64 r0), (2, .int .u64 c5), (3, .bool b6), (4, .int .i64 r7)] _ _ rfl (by simp; first | done | exact ⟨rfl, rfl, rfl, rfl⟩) (HBZ.out w')
                  try simp only [Act.put, List.setIfInBounds_toArray, List.set_cons_zero, List.set_cons_succ]
                  refine wpAnyH_ready (rs := [15]) (by kernel_rfl) (by simp) ?_
                  refine AllReadyH.cons (o := { dst := none, op := Go.Op.store 40 (Go.Operand.tmp 16) (Go.Operand.tmp 136), type := 0, pos := _, after := #[{ on := 14, ground := Go.Ground.data }, { on := 13, ground := Go.Ground.data }, { on := 10, ground := Go.Ground.chain }, { on := 0, ground := Go.Ground.phase }, { on := 1, ground := Go.Ground.phase }, { on := 2, ground := Go.Ground.phase }, { on := 3, ground := Go.Ground.phase }, { on := 4, ground := Go.Ground.phase }, { on := 5, ground := Go.Ground.phase }, { on := 6, ground := Go.Ground.phase }, { on := 7, ground := Go.Ground.phase }, { on := 8, ground := Go.Ground.phase }, { on := 9, ground := Go.Ground.phase }, { on := 10, ground := Go.Ground.phase }, { on := 11, ground := Go.Ground.phase }, { on := 12, ground := Go.Ground.phase }, { on := 13, ground := Go.Ground.phase }, { on := 14, ground := Go.Ground.phase }], guard := none }) rfl (fun K hK => ?_) AllReadyH.nil
                  rw [if_pos (by rfl)]
                  refine wp_store_row 40 _ _ rfl n16 ZL0.toArray rfl rfl 40 ZO.toArray (hN.at 0 rfl) (info8oa ZL0 HZ0N.out) (by simp [HZ0N.out, HZON.out]) HZ01.out ?_
                  have hN2 := hN.put 0 rfl ZL0
                  have hH2 := RS_tail hN2
                  refine hK.out _ _ hH2 (fun _ => ?_)
                  clear hK K
                  try simp only [Act.put, List.setIfInBounds_toArray, List.set_cons_zero, List.set_cons_succ]
                  refine wpAnyH_done (by kernel_rfl) ?_ _
                  go_wp2_with fail
                  go_meet
                  case rel => exact ⟨_, rfl, hN2⟩
              case rest =>
                obtain ⟨n16, rfl, hR⟩ := hcut
                generalize wc = V20 at *
                rw [← HS0.out] at hR
                have HR16 : Hid (RS w ((n16, 40, ZS 0) :: [(n9, 31, XL), (w.heap.size + 1 + 1 + 1, 45, AL), (w.heap.size + 1 + 1, 45, GL), (w.heap.size + 1, 40, OL), (w.heap.size, 31, IL)]) V20) := hR
                clear hR HR13 HW0 HW5 HW6 HW7 HBZ hr0 hr7 hb6 hr0a hr7a hr0b hr7b HS0 HZ0N HZ01
                go_wp2
                go_loopw [17] (fun i wr => ∃ k : Nat, k ≤ 4 ∧ i = .int .i64 k ∧ RS w ((n16, 40, ZS k) :: [(n9, 31, XL), (w.heap.size + 1 + 1 + 1, 45, AL), (w.heap.size + 1 + 1, 45, GL), (w.heap.size + 1, 40, OL), (w.heap.size, 31, IL)]) wr) (fun i _ => 4 - (intOf i).toNat)
                case atStart => exact ⟨0, by omega, rfl, HR16.out⟩
                case round =>
                  obtain ⟨k, hk, rfl, hR⟩ := hrel
                  clear HR16
                  by_cases hlt : k < 4
                  · obtain ⟨hl8, hset⟩ := HSP.out k hlt
                    have HW : Hid _ := HWD.out (1 + k) (by omega)
                    have HR2 : Hid _ := hR
                    have hkI : (k : Int) < 4 := by omega
                    have hw3 : IntKind.i64.wrap (1 + (k : Int)) = ((1 + k : Nat) : Int) := by rw [IntKind.wrap_i64]; omega
                    have HL8 : Hid ((ZS k).length = 8) := hl8
                    have HST : Hid ((ZS k).set (1 + k) (.int .u64 (wo G (1 + k))) = ZS (k + 1)) := hset
                    generalize wo G (1 + k) = x at *
                    clear hR hl8 hset
                    go_wp2_with (refine wpList_load_mid rfl 45 (.tmp 5) rfl (w.heap.size + 1 + 1) 0 rfl GL _ (rangeAt_row (HR2.out.at 3 rfl)) Try.underlying45 rfl (info128 GL HGL.out) ?_)
                    refine Calls.mono (HW.out _) ?_
                    rintro e Y2 ⟨rfl, b2⟩
                    have HR3 : Hid _ := HR2.out.step b2
                    have HR4 : Hid _ := HR3.out.poke 0 rfl (1 + k) (.int .u64 x) HST.out
                    clear b2 HR2 HW HST hw3
                    go_wp2_with (refine wpList_stU rfl (.tmp 147) (.tmp 145) rfl n16 (1 + k) x rfl rfl (ZS k) 40 (HR3.out.at 0 rfl) (by rw [HL8.out]; omega) ?_
                                 intro Y3 hY3
                                 rw [← hY3] at HR4
                                 clear hY3 HR3)
                    go_roundw
                    case rel => exact ⟨k + 1, by omega, by go_num, HR4.out⟩
                    case measure => simp [intOf]; omega
                  · have hk4 : k = 4 := by omega
                    subst hk4
                    rw [HS4z.out] at hR
                    have HR2 : Hid _ := hR
                    clear hR hlt hk HS4z HSP HWD
                    go_wp2_with (refine wpList_load_mid rfl 45 (.tmp 5) rfl (w.heap.size + 1 + 1) 0 rfl GL _ (rangeAt_row (HR2.out.at 3 rfl)) Try.underlying45 rfl (info128 GL HGL.out) ?_)
                    refine Calls.mono (HOG.out _) ?_
                    rintro e V21 ⟨rfl, b2⟩
                    have R1 := (HR2.out.step b2).alloc _ rfl 40 ZO
                    have HR3 : Hid _ := R1
                    have HR4 : Hid _ := R1.put 0 rfl YL
                    clear b2 R1 HR2 HOG
                    go_upto_region 34 with (first
                      | (refine wpList_store_rowL rfl 40 (.tmp 18) (.tmp 151) rfl V21.heap.size YL.toArray rfl rfl 40 ZO.toArray (HR3.out.at 0 rfl) (info8oa YL HYL.out) (by simp [HZON.out, HYL.out]) HY1.out ?_
                         intro V22 hV22
                         rw [← hV22] at HR4
                         clear hV22 HR3))
                    generalize V21.heap.size = n18 at *
                    refine wp_region_held_drew (S := fun X => RS w ((n18, 40, YL) :: (n16, 40, ZZL) :: [(n9, 31, XL), (w.heap.size + 1 + 1 + 1, 45, AL), (w.heap.size + 1 + 1, 45, GL), (w.heap.size + 1, 40, OL), (w.heap.size, 31, IL)]) X) (by kernel_rfl) (HR4.out.step (below_drew _)) (fun hHeld => ?_)
                    clear HR4
                    refine wpAnyH_take (i := 0) (oi := { dst := some 153, op := Go.Op.load 40 (Go.Operand.tmp 16), type := 40, pos := _, after := #[], guard := none }) rfl (by kernel_rfl) (by kernel_rfl) (by kernel_rfl) (fun _ _ _ h => h) (yieldsIf_load_mid (by rfl) 40 (.tmp 16) rfl (n16) (0) rfl (ZZL) _ (fun _ h => rangeAt_row (h.at 1 rfl)) Try.underlying40 rfl (info8o ZZL HZZN.out)) hHeld ?_
                    try simp only [Act.put, List.setIfInBounds_toArray, List.set_cons_zero, List.set_cons_succ]
                    refine wpAnyH_ready (rs := [1]) (by kernel_rfl) (by simp) ?_
                    refine AllReadyH.cons (o := { dst := some 154, op := Go.Op.call { callee := Go.Callee.value (Go.Operand.func 16), args := #[Go.Operand.tmp 153], argTypes := #[40] }, type := 4, pos := _, after := #[{ on := 0, ground := Go.Ground.data }], guard := none }) rfl (fun K hK => ?_) AllReadyH.nil
                    rw [if_pos (by rfl)]
                    go_wp2_with fail
                    refine Calls.mono (HMZ.out _) ?_
                    rintro e V23 ⟨rfl, b6⟩
                    replace hHeld := hHeld.step b6
                    clear b6 HMZ
                    refine hK.out _ _ hHeld (fun _ => ?_)
                    clear hK K
                    try simp only [Act.put, List.setIfInBounds_toArray, List.set_cons_zero, List.set_cons_succ]
                    cases MZ with
                    | false =>
                      obtain ⟨hef, hyl⟩ := HNOO.out rfl
                      subst hef
                      refine wpAnyH_take (i := 2) (oi := { dst := some 155, op := Go.Op.move (Go.Operand.tmp 154), type := 4, pos := _, after := #[{ on := 1, ground := Go.Ground.data }, { on := 1, ground := Go.Ground.chain }], guard := none }) (v := .bool false) rfl (by kernel_rfl) (by kernel_rfl) (by kernel_rfl) (fun _ _ _ h => h) (Or.inl ⟨by rfl, fun w' hw' => ?_⟩) hHeld ?_
                      · first | (go_simp; done) | (go_simp; rfl)
                      try simp only [Act.put, List.setIfInBounds_toArray, List.set_cons_zero, List.set_cons_succ]
                      refine wpAnyH_take (i := 3) (oi := { dst := some 156, op := Go.Op.load 40 (Go.Operand.tmp 16), type := 40, pos := _, after := #[{ on := 2, ground := Go.Ground.guard }], guard := some (2, true) }) (v := undef) rfl (by kernel_rfl) (by kernel_rfl) (by kernel_rfl) (fun _ _ _ h => h) (Or.inr ⟨by rfl, rfl⟩) hHeld ?_
                      try simp only [Act.put, List.setIfInBounds_toArray, List.set_cons_zero, List.set_cons_succ]
                      refine wpAnyH_take (i := 4) (oi := { dst := some 157, op := Go.Op.call { callee := Go.Callee.value (Go.Operand.func 17), args := #[Go.Operand.tmp 156], argTypes := #[40] }, type := 45, pos := _, after := #[{ on := 3, ground := Go.Ground.data }, { on := 2, ground := Go.Ground.chain }, { on := 2, ground := Go.Ground.guard }], guard := some (2, true) }) (v := undef) rfl (by kernel_rfl) (by kernel_rfl) (by kernel_rfl) (fun _ _ _ h => h) (Or.inr ⟨by rfl, rfl⟩) hHeld ?_
                      try simp only [Act.put, List.setIfInBounds_toArray, List.set_cons_zero, List.set_cons_succ]
                      refine wpAnyH_take (i := 5) (oi := { dst := some 158, op := Go.Op.load 45 (Go.Operand.tmp 5), type := 45, pos := _, after := #[{ on := 2, ground := Go.Ground.guard }], guard := some (2, true) }) (v := undef) rfl (by kernel_rfl) (by kernel_rfl) (by kernel_rfl) (fun _ _ _ h => h) (Or.inr ⟨by rfl, rfl⟩) hHeld ?_
                      try simp only [Act.put, List.setIfInBounds_toArray, List.set_cons_zero, List.set_cons_succ]
                      refine wpAnyH_take (i := 6) (oi := { dst := some 159, op := Go.Op.binOp Go.BinOp.eql 45 (Go.Operand.tmp 157) (Go.Operand.tmp 158) 45, type := 4, pos := _, after := #[{ on := 4, ground := Go.Ground.data }, { on := 5, ground := Go.Ground.data }, { on := 2, ground := Go.Ground.guard }], guard := some (2, true) }) (v := undef) rfl (by kernel_rfl) (by kernel_rfl) (by kernel_rfl) (fun _ _ _ h => h) (Or.inr ⟨by rfl, rfl⟩) hHeld ?_
                      try simp only [Act.put, List.setIfInBounds_toArray, List.set_cons_zero, List.set_cons_succ]
                      refine wpAnyH_take (i := 7) (oi := { dst := some 160, op := Go.Op.pick (Go.Operand.tmp 155) (Go.Operand.tmp 159) (Go.Operand.const (Go.Value.bool false)), type := 4, pos := _, after := #[{ on := 2, ground := Go.Ground.data }, { on := 6, ground := Go.Ground.data }], guard := none }) (v := .bool false) rfl (by kernel_rfl) (by kernel_rfl) (by kernel_rfl) (fun _ _ _ h => h) (Or.inl ⟨by rfl, fun w' hw' => ?_⟩) hHeld ?_
                      · first | (go_simp; done) | (go_simp; rfl)
                      try simp only [Act.put, List.setIfInBounds_toArray, List.set_cons_zero, List.set_cons_succ]
                      refine wpAnyH_done (by kernel_rfl) ?_ _
                      have HR5 : Hid _ := hHeld
                      rw [hyl] at HR5
                      have heq := HEZO.out
                      clear hHeld hyl HYES HNOO HEQ HEZZ HEZO HLZ
                      go_wp2_with (first
                        | (refine load_mid_g (by rfl) 40 (.tmp 18) rfl n18 0 rfl ZO _ (rangeAt_row (HR5.out.at 0 rfl)) Try.underlying40 rfl (info8o ZO HZON.out) ?_)
                        | (refine build_g (by rfl) 40 #[] rfl #[] (.agg ZO.toArray) (by simp) (HBO.out _) ?_))
                      clear heq
                      refine Calls.mono (HKN.out _) ?_
                      rintro e V25 ⟨rfl, b9⟩
                      have HBE : Hid _ := (HR5.out.step b9).bel
                      clear b9 HR5
                      go_wp2
                      go_ret
                      exact ⟨rfl, HBE.out⟩
                    | true =>
                      have HLZ1 : Hid _ := HLZ.out rfl
                      refine wpAnyH_take (i := 2) (oi := { dst := some 155, op := Go.Op.move (Go.Operand.tmp 154), type := 4, pos := _, after := #[{ on := 1, ground := Go.Ground.data }, { on := 1, ground := Go.Ground.chain }], guard := none }) (v := .bool true) rfl (by kernel_rfl) (by kernel_rfl) (by kernel_rfl) (fun _ _ _ h => h) (Or.inl ⟨by rfl, fun w' hw' => ?_⟩) hHeld ?_
                      · first | (go_simp; done) | (go_simp; rfl)
                      try simp only [Act.put, List.setIfInBounds_toArray, List.set_cons_zero, List.set_cons_succ]
                      refine wpAnyH_take (i := 3) (oi := { dst := some 156, op := Go.Op.load 40 (Go.Operand.tmp 16), type := 40, pos := _, after := #[{ on := 2, ground := Go.Ground.guard }], guard := some (2, true) }) rfl (by kernel_rfl) (by kernel_rfl) (by kernel_rfl) (fun _ _ _ h => h) (yieldsIf_load_mid (by rfl) 40 (.tmp 16) rfl (n16) (0) rfl (ZZL) _ (fun _ h => rangeAt_row (h.at 1 rfl)) Try.underlying40 rfl (info8o ZZL HZZN.out)) hHeld ?_
                      try simp only [Act.put, List.setIfInBounds_toArray, List.set_cons_zero, List.set_cons_succ]
                      refine wpAnyH_take (i := 5) (oi := { dst := some 158, op := Go.Op.load 45 (Go.Operand.tmp 5), type := 45, pos := _, after := #[{ on := 2, ground := Go.Ground.guard }], guard := some (2, true) }) rfl (by kernel_rfl) (by kernel_rfl) (by kernel_rfl) (fun _ _ _ h => h) (yieldsIf_load_mid (by rfl) 45 (.tmp 5) rfl (w.heap.size + 1 + 1) (0) rfl (GL) _ (fun _ h => rangeAt_row (h.at 4 rfl)) Try.underlying45 rfl (info128 GL HGL.out)) hHeld ?_
                      try simp only [Act.put, List.setIfInBounds_toArray, List.set_cons_zero, List.set_cons_succ]
                      refine wpAnyH_ready (rs := [4]) (by kernel_rfl) (by simp) ?_
                      refine AllReadyH.cons (o := { dst := some 157, op := Go.Op.call { callee := Go.Callee.value (Go.Operand.func 17), args := #[Go.Operand.tmp 156], argTypes := #[40] }, type := 45, pos := _, after := #[{ on := 3, ground := Go.Ground.data }, { on := 2, ground := Go.Ground.chain }, { on := 2, ground := Go.Ground.guard }], guard := some (2, true) }) rfl (fun K hK => ?_) AllReadyH.nil
                      rw [if_pos (by rfl)]
                      go_wp2_with fail
                      refine Calls.mono (HLZ1.out _) ?_
                      rintro e V24 ⟨rfl, b6⟩
                      replace hHeld := hHeld.step b6
                      clear b6 HLZ1
                      refine hK.out _ _ hHeld (fun _ => ?_)
                      clear hK K
                      try simp only [Act.put, List.setIfInBounds_toArray, List.set_cons_zero, List.set_cons_succ]
                      cases BZ with
                      | false =>
                        obtain ⟨hef, hyl⟩ := HNOO.out rfl
                        subst hef
                        refine wpAnyH_take (i := 6) (oi := { dst := some 159, op := Go.Op.binOp Go.BinOp.eql 45 (Go.Operand.tmp 157) (Go.Operand.tmp 158) 45, type := 4, pos := _, after := #[{ on := 4, ground := Go.Ground.data }, { on := 5, ground := Go.Ground.data }, { on := 2, ground := Go.Ground.guard }], guard := some (2, true) }) (v := .bool false) rfl (by kernel_rfl) (by kernel_rfl) (by kernel_rfl) (fun _ _ _ h => h) (Or.inl ⟨by rfl, fun w' hw' => ?_⟩) hHeld ?_
                        · exact run_eql rfl rfl rfl gG (HEQ.out w')
                        try simp only [Act.put, List.setIfInBounds_toArray, List.set_cons_zero, List.set_cons_succ]
                        refine wpAnyH_take (i := 7) (oi := { dst := some 160, op := Go.Op.pick (Go.Operand.tmp 155) (Go.Operand.tmp 159) (Go.Operand.const (Go.Value.bool false)), type := 4, pos := _, after := #[{ on := 2, ground := Go.Ground.data }, { on := 6, ground := Go.Ground.data }], guard := none }) (v := .bool false) rfl (by kernel_rfl) (by kernel_rfl) (by kernel_rfl) (fun _ _ _ h => h) (Or.inl ⟨by rfl, fun w' hw' => ?_⟩) hHeld ?_
                        · first | (go_simp; done) | (go_simp; rfl)
                        try simp only [Act.put, List.setIfInBounds_toArray, List.set_cons_zero, List.set_cons_succ]
                        refine wpAnyH_done (by kernel_rfl) ?_ _
                        generalize V24 = V23 at *
                        have HR5 : Hid _ := hHeld
                        rw [hyl] at HR5
                        have heq := HEZO.out
                        clear hHeld hyl HYES HNOO HEQ HEZZ HEZO HLZ
                        go_wp2_with (first
                          | (refine load_mid_g (by rfl) 40 (.tmp 18) rfl n18 0 rfl ZO _ (rangeAt_row (HR5.out.at 0 rfl)) Try.underlying40 rfl (info8o ZO HZON.out) ?_)
                          | (refine build_g (by rfl) 40 #[] rfl #[] (.agg ZO.toArray) (by simp) (HBO.out _) ?_))
                        clear heq
                        refine Calls.mono (HKN.out _) ?_
                        rintro e V25 ⟨rfl, b9⟩
                        have HBE : Hid _ := (HR5.out.step b9).bel
                        clear b9 HR5
                        go_wp2
                        go_ret
                        exact ⟨rfl, HBE.out⟩
                      | true =>
                        obtain ⟨hef, hyl⟩ := HYES.out (by simp) (by simp)
                        subst hef
                        refine wpAnyH_take (i := 6) (oi := { dst := some 159, op := Go.Op.binOp Go.BinOp.eql 45 (Go.Operand.tmp 157) (Go.Operand.tmp 158) 45, type := 4, pos := _, after := #[{ on := 4, ground := Go.Ground.data }, { on := 5, ground := Go.Ground.data }, { on := 2, ground := Go.Ground.guard }], guard := some (2, true) }) (v := .bool true) rfl (by kernel_rfl) (by kernel_rfl) (by kernel_rfl) (fun _ _ _ h => h) (Or.inl ⟨by rfl, fun w' hw' => ?_⟩) hHeld ?_
                        · exact run_eql rfl rfl rfl gG (HEQ.out w')
                        try simp only [Act.put, List.setIfInBounds_toArray, List.set_cons_zero, List.set_cons_succ]
                        refine wpAnyH_take (i := 7) (oi := { dst := some 160, op := Go.Op.pick (Go.Operand.tmp 155) (Go.Operand.tmp 159) (Go.Operand.const (Go.Value.bool false)), type := 4, pos := _, after := #[{ on := 2, ground := Go.Ground.data }, { on := 6, ground := Go.Ground.data }], guard := none }) (v := .bool true) rfl (by kernel_rfl) (by kernel_rfl) (by kernel_rfl) (fun _ _ _ h => h) (Or.inl ⟨by rfl, fun w' hw' => ?_⟩) hHeld ?_
                        · first | (go_simp; done) | (go_simp; rfl)
                        try simp only [Act.put, List.setIfInBounds_toArray, List.set_cons_zero, List.set_cons_succ]
                        refine wpAnyH_done (by kernel_rfl) ?_ _
                        have HR5 : Hid _ := hHeld
                        rw [hyl] at HR5
                        have heq := HEZZ.out
                        clear hHeld hyl HYES HNOO HEQ HEZZ HEZO
                        go_wp2_with (first
                          | (refine load_mid_g (by rfl) 40 (.tmp 18) rfl n18 0 rfl ZZL _ (rangeAt_row (HR5.out.at 0 rfl)) Try.underlying40 rfl (info8o ZZL HZZN.out) ?_)
                          | (refine load_mid_g (by rfl) 40 (.tmp 16) rfl n16 0 rfl ZZL _ (rangeAt_row (HR5.out.at 1 rfl)) Try.underlying40 rfl (info8o ZZL HZZN.out) ?_))
                        clear heq
                        refine Calls.mono (HKN.out _) ?_
                        rintro e V25 ⟨rfl, b9⟩
                        have HBE : Hid _ := (HR5.out.step b9).bel
                        clear b9 HR5
                        go_wp2
                        go_ret
                        exact ⟨rfl, HBE.out⟩
            | true =>
              obtain ⟨BL, hbl, hb1, heqb, hob, hlo, hof⟩ := HYO.out rfl
              have HBL : Hid (BL.length = 128) := hbl
              have HB1 : Hid (BL.toArray.all (·.oneCell') = true) := hb1
              have HEB : Hid (∀ W, (Op.equalIn 10000 45 (.agg BL.toArray) (.agg BL.toArray)).run Try.prog W = .ok true W) := heqb
              have HOB : Hid (∀ W, Calls Try.prog 15 #[.agg OL.toArray] W fun e w' => e = .returned (.tuple #[.agg BL.toArray, .int .i64 0]) ∧ Below W.heap.size W w') := hob
              have HLO : Hid (∀ W, Calls Try.prog 17 #[.agg OL.toArray] W fun e w' => e = .returned (.agg BL.toArray) ∧ Below W.heap.size W w') := hlo
              have HOF : Hid (∀ W, Calls Try.prog 18 #[.agg BL.toArray] W fun e w' => e = .returned (.tuple #[.agg OL.toArray, .int .i64 0]) ∧ Below W.heap.size W w') := hof
              clear HNO HYO hbl hb1 heqb hob hlo hof
              go_wp2_with (refine wpList_load_mid rfl 40 (.tmp 4) rfl (w.heap.size + 1) 0 rfl OL _ (rangeAt_row (HR9.out.at 3 rfl)) Try.underlying40 rfl (info8o OL HOL.out) ?_)
              refine Calls.mono (HOB.out _) ?_
              rintro e V8 ⟨rfl, b8⟩
              have R1 := (HR9.out.step b8).alloc _ rfl 45 ZL
              have HR10 : Hid _ := R1
              have HR11 : Hid _ := R1.put 0 rfl BL
              clear b8 R1 HR9
              go_wp2_with (first
                | (refine wpList_store_rowL rfl 45 (.tmp 13) (.tmp 91) rfl V8.heap.size (BL).toArray rfl rfl 45 ZL.toArray (HR10.out.at 0 rfl) (info128a BL HBL.out) (by simp [HZN.out, HBL.out]) HB1.out ?_
                   intro V9 hV9
                   rw [← hV9] at HR11
                   clear hV9 HR10)
                | (refine wpList_load_mid rfl 40 (.tmp 4) rfl (w.heap.size + 1) 0 rfl OL _ (rangeAt_row (HR11.out.at 4 rfl)) Try.underlying40 rfl (info8o OL HOL.out) ?_))
              refine Calls.mono (HMY.out _) ?_
              rintro e V10 ⟨rfl, b10⟩
              have HR12 : Hid _ := HR11.out.step b10
              clear b10 HR11 HMY
              generalize V8.heap.size = n13 at *
              go_upto_region 23 with fail
              refine wp_region_held_drew (S := fun X => RS w ((n13, 45, BL) :: [(n9, 31, XL), (w.heap.size + 1 + 1 + 1, 45, AL), (w.heap.size + 1 + 1, 45, GL), (w.heap.size + 1, 40, OL), (w.heap.size, 31, IL)]) X) (by kernel_rfl) (HR12.out.step (below_drew _)) (fun hHeld => ?_)
              clear HR12
              refine wpAnyH_take (i := 0) (oi := { dst := some 103, op := Go.Op.move (Go.Operand.tmp 10), type := 32, pos := _, after := #[], guard := none }) (v := .int .i64 0) rfl (by kernel_rfl) (by kernel_rfl) (by kernel_rfl) (fun _ _ _ h => h) (Or.inl ⟨by rfl, fun w' hw' => ?_⟩) hHeld ?_
              · first | (go_simp; done) | (go_simp; rfl)
              try simp only [Act.put, List.setIfInBounds_toArray, List.set_cons_zero, List.set_cons_succ]
              refine wpAnyH_take (i := 1) (oi := { dst := some 104, op := Go.Op.binOp Go.BinOp.neq 32 (Go.Operand.tmp 103) (Go.Operand.const (Go.Value.int Go.IntKind.i64 0)) 32, type := 4, pos := _, after := #[{ on := 0, ground := Go.Ground.data }], guard := none }) (v := .bool false) rfl (by kernel_rfl) (by kernel_rfl) (by kernel_rfl) (fun _ _ _ h => h) (Or.inl ⟨by rfl, fun w' hw' => ?_⟩) hHeld ?_
              · first | (go_simp; done) | (go_simp; rfl)
              try simp only [Act.put, List.setIfInBounds_toArray, List.set_cons_zero, List.set_cons_succ]
              refine wpAnyH_take (i := 2) (oi := { dst := some 105, op := Go.Op.move (Go.Operand.tmp 104), type := 4, pos := _, after := #[{ on := 1, ground := Go.Ground.data }], guard := none }) (v := .bool false) rfl (by kernel_rfl) (by kernel_rfl) (by kernel_rfl) (fun _ _ _ h => h) (Or.inl ⟨by rfl, fun w' hw' => ?_⟩) hHeld ?_
              · first | (go_simp; done) | (go_simp; rfl)
              try simp only [Act.put, List.setIfInBounds_toArray, List.set_cons_zero, List.set_cons_succ]
              refine wpAnyH_take (i := 3) (oi := { dst := some 106, op := Go.Op.load 45 (Go.Operand.tmp 13), type := 45, pos := _, after := #[{ on := 2, ground := Go.Ground.guard }], guard := some (2, false) }) rfl (by kernel_rfl) (by kernel_rfl) (by kernel_rfl) (fun _ _ _ h => h) (yieldsIf_load_mid (by rfl) 45 (.tmp 13) rfl (n13) (0) rfl (BL) _ (fun _ h => rangeAt_row (h.at 0 rfl)) Try.underlying45 rfl (info128 BL HBL.out)) hHeld ?_
              try simp only [Act.put, List.setIfInBounds_toArray, List.set_cons_zero, List.set_cons_succ]
              refine wpAnyH_take (i := 4) (oi := { dst := some 107, op := Go.Op.load 40 (Go.Operand.tmp 4), type := 40, pos := _, after := #[{ on := 2, ground := Go.Ground.guard }], guard := some (2, false) }) rfl (by kernel_rfl) (by kernel_rfl) (by kernel_rfl) (fun _ _ _ h => h) (yieldsIf_load_mid (by rfl) 40 (.tmp 4) rfl (w.heap.size + 1) (0) rfl (OL) _ (fun _ h => rangeAt_row (h.at 4 rfl)) Try.underlying40 rfl (info8o OL HOL.out)) hHeld ?_
              try simp only [Act.put, List.setIfInBounds_toArray, List.set_cons_zero, List.set_cons_succ]
              refine wpAnyH_ready (rs := [5]) (by kernel_rfl) (by simp) ?_
              refine AllReadyH.cons (o := { dst := some 108, op := Go.Op.call { callee := Go.Callee.value (Go.Operand.func 17), args := #[Go.Operand.tmp 107], argTypes := #[40] }, type := 45, pos := _, after := #[{ on := 4, ground := Go.Ground.data }, { on := 2, ground := Go.Ground.chain }, { on := 2, ground := Go.Ground.guard }], guard := some (2, false) }) rfl (fun K hK => ?_) AllReadyH.nil
              rw [if_pos (by rfl)]
              go_wp2_with fail
              refine Calls.mono (HLO.out _) ?_
              rintro e V11 ⟨rfl, b6⟩
              replace hHeld := hHeld.step b6
              clear b6
              refine hK.out _ _ hHeld (fun _ => ?_)
              clear hK K
              try simp only [Act.put, List.setIfInBounds_toArray, List.set_cons_zero, List.set_cons_succ]
              refine wpAnyH_take (i := 6) (oi := { dst := some 109, op := Go.Op.binOp Go.BinOp.neq 45 (Go.Operand.tmp 106) (Go.Operand.tmp 108) 45, type := 4, pos := _, after := #[{ on := 3, ground := Go.Ground.data }, { on := 5, ground := Go.Ground.data }, { on := 2, ground := Go.Ground.guard }], guard := some (2, false) }) (v := .bool false) rfl (by kernel_rfl) (by kernel_rfl) (by kernel_rfl) (fun _ _ _ h => h) (Or.inl ⟨by rfl, fun w' hw' => ?_⟩) hHeld ?_
              · exact run_neq rfl rfl rfl gG (HEB.out w')
              try simp only [Act.put, List.setIfInBounds_toArray, List.set_cons_zero, List.set_cons_succ]
              refine wpAnyH_take (i := 7) (oi := { dst := some 110, op := Go.Op.pick (Go.Operand.tmp 105) (Go.Operand.const (Go.Value.bool true)) (Go.Operand.tmp 109), type := 4, pos := _, after := #[{ on := 2, ground := Go.Ground.data }, { on := 6, ground := Go.Ground.data }], guard := none }) (v := .bool false) rfl (by kernel_rfl) (by kernel_rfl) (by kernel_rfl) (fun _ _ _ h => h) (Or.inl ⟨by rfl, fun w' hw' => ?_⟩) hHeld ?_
              · first | (go_simp; done) | (go_simp; rfl)
              try simp only [Act.put, List.setIfInBounds_toArray, List.set_cons_zero, List.set_cons_succ]
              refine wpAnyH_done (by kernel_rfl) ?_ _
              have HR12 : Hid _ := hHeld
              clear hHeld
              go_wp2_with (refine wpList_load_mid rfl 45 (.tmp 13) rfl n13 0 rfl BL _ (rangeAt_row (HR12.out.at 0 rfl)) Try.underlying45 rfl (info128 BL HBL.out) ?_)
              refine Calls.mono (HOF.out _) ?_
              rintro e V12 ⟨rfl, b12⟩
              have R1 := (HR12.out.step b12).alloc _ rfl 40 ZO
              have HR14 : Hid _ := R1
              have HR15 : Hid _ := R1.put 0 rfl OL
              clear b12 R1 HR12
              have heq := HEO.out
              go_upto_region 28 with (first
                | (refine wpList_store_rowL rfl 40 (.tmp 14) (.tmp 114) rfl V12.heap.size OL.toArray rfl rfl 40 ZO.toArray (HR14.out.at 0 rfl) (info8oa OL HOL.out) (by simp [HZON.out, HOL.out]) HO1.out ?_
                   intro V13 hV13
                   rw [← hV13] at HR15
                   clear hV13 HR14)
                | (refine load_mid_g (by rfl) 40 (.tmp 14) rfl V12.heap.size 0 rfl OL _ (rangeAt_row (HR15.out.at 0 rfl)) Try.underlying40 rfl (info8o OL HOL.out) ?_)
                | (refine load_mid_g (by rfl) 40 (.tmp 4) rfl (w.heap.size + 1) 0 rfl OL _ (rangeAt_row (HR15.out.at 5 rfl)) Try.underlying40 rfl (info8o OL HOL.out) ?_))
              clear heq
              have HR13 : Hid (RS w [(n9, 31, XL), (w.heap.size + 1 + 1 + 1, 45, AL), (w.heap.size + 1 + 1, 45, GL), (w.heap.size + 1, 40, OL), (w.heap.size, 31, IL)] V13) := RS_tail (RS_tail HR15.out)
              clear HR15
              generalize V13 = V10 at *
              clear HOB
              go_cut [16] from 123 to 136 (fun p X => ∃ n16 : Nat, p = .pointer (some ⟨n16, 0, none⟩) ∧ RS w ((n16, 40, ZL0) :: [(n9, 31, XL), (w.heap.size + 1 + 1 + 1, 45, AL), (w.heap.size + 1 + 1, 45, GL), (w.heap.size + 1, 40, OL), (w.heap.size, 31, IL)]) X)
              case first =>
                refine wp_region_held_drew (S := fun X => RS w [(n9, 31, XL), (w.heap.size + 1 + 1 + 1, 45, AL), (w.heap.size + 1 + 1, 45, GL), (w.heap.size + 1, 40, OL), (w.heap.size, 31, IL)] X) (by kernel_rfl) (HR13.out.step (below_drew _)) (fun hHeld => ?_)
                clear HR13
                generalize World.drew _ = Y0 at *
                refine wpAnyH_take (i := 0) (oi := { dst := some 123, op := Go.Op.load 45 (Go.Operand.tmp 5), type := 45, pos := _, after := #[], guard := none }) rfl (by kernel_rfl) (by kernel_rfl) (by kernel_rfl) (fun _ _ _ h => h) (yieldsIf_load_mid (by rfl) 45 (.tmp 5) rfl (w.heap.size + 1 + 1) (0) rfl (GL) _ (fun _ h => rangeAt_row (h.at 2 rfl)) Try.underlying45 rfl (info128 GL HGL.out)) hHeld ?_
                try simp only [Act.put, List.setIfInBounds_toArray, List.set_cons_zero, List.set_cons_succ]
                refine wpAnyH_take (i := 4) (oi := { dst := some 127, op := Go.Op.load 45 (Go.Operand.tmp 5), type := 45, pos := _, after := #[], guard := none }) rfl (by kernel_rfl) (by kernel_rfl) (by kernel_rfl) (fun _ _ _ h => h) (yieldsIf_load_mid (by rfl) 45 (.tmp 5) rfl (w.heap.size + 1 + 1) (0) rfl (GL) _ (fun _ h => rangeAt_row (h.at 2 rfl)) Try.underlying45 rfl (info128 GL HGL.out)) hHeld ?_
                try simp only [Act.put, List.setIfInBounds_toArray, List.set_cons_zero, List.set_cons_succ]
                refine wpAnyH_take (i := 6) (oi := { dst := some 129, op := Go.Op.load 45 (Go.Operand.tmp 5), type := 45, pos := _, after := #[], guard := none }) rfl (by kernel_rfl) (by kernel_rfl) (by kernel_rfl) (fun _ _ _ h => h) (yieldsIf_load_mid (by rfl) 45 (.tmp 5) rfl (w.heap.size + 1 + 1) (0) rfl (GL) _ (fun _ h => rangeAt_row (h.at 2 rfl)) Try.underlying45 rfl (info128 GL HGL.out)) hHeld ?_
                try simp only [Act.put, List.setIfInBounds_toArray, List.set_cons_zero, List.set_cons_succ]
                refine wpAnyH_take (i := 9) (oi := { dst := some 132, op := Go.Op.load 45 (Go.Operand.tmp 5), type := 45, pos := _, after := #[], guard := none }) rfl (by kernel_rfl) (by kernel_rfl) (by kernel_rfl) (fun _ _ _ h => h) (yieldsIf_load_mid (by rfl) 45 (.tmp 5) rfl (w.heap.size + 1 + 1) (0) rfl (GL) _ (fun _ h => rangeAt_row (h.at 2 rfl)) Try.underlying45 rfl (info128 GL HGL.out)) hHeld ?_
                try simp only [Act.put, List.setIfInBounds_toArray, List.set_cons_zero, List.set_cons_succ]
                refine wpAnyH_ready (rs := [1, 14]) (by kernel_rfl) (by simp) ?_
                refine AllReadyH.cons (o := { dst := some 124, op := Go.Op.call { callee := Go.Callee.value (Go.Operand.func 19), args := #[Go.Operand.tmp 123, Go.Operand.const (Go.Value.int Go.IntKind.i64 0)], argTypes := #[45, 3] }, type := 22, pos := _, after := #[{ on := 0, ground := Go.Ground.data }], guard := none }) rfl (fun K hK => ?_) (AllReadyH.cons (o := { dst := some 16, op := Go.Op.alloc 40, type := 0, pos := _, after := #[], guard := none }) rfl (fun K hK => ?_) AllReadyH.nil)
                all_goals rw [if_pos (by rfl)]
                · skip
                  go_wp2_with fail
                  refine Calls.mono (HW0.out _) ?_
                  rintro e Y1 ⟨rfl, b⟩
                  replace hHeld := hHeld.step b
                  clear b
                  refine hK.out _ _ hHeld (fun _ => ?_)
                  clear hK K
                  try simp only [Act.put, List.setIfInBounds_toArray, List.set_cons_zero, List.set_cons_succ]
                  refine wpAnyH_take (i := 2) (oi := { dst := some 125, op := Go.Op.binOp Go.BinOp.rem 22 (Go.Operand.tmp 124) (Go.Operand.const (Go.Value.int Go.IntKind.u64 8)) 22, type := 22, pos := _, after := #[{ on := 1, ground := Go.Ground.data }], guard := none }) (v := .int .u64 r0) rfl (by kernel_rfl) (by kernel_rfl) (by kernel_rfl) (fun _ _ _ h => h) (Or.inl ⟨by rfl, fun w' hw' => ?_⟩) hHeld ?_
                  · first | (go_simp; done) | (go_simp; rfl)
                  try simp only [Act.put, List.setIfInBounds_toArray, List.set_cons_zero, List.set_cons_succ]
                  refine wpAnyH_take (i := 3) (oi := { dst := some 126, op := Go.Op.convert 22 38 (Go.Operand.tmp 125), type := 38, pos := _, after := #[{ on := 2, ground := Go.Ground.data }], guard := none }) (v := .int .i64 r0) rfl (by kernel_rfl) (by kernel_rfl) (by kernel_rfl) (fun _ _ _ h => h) (Or.inl ⟨by rfl, fun w' hw' => ?_⟩) hHeld ?_
                  · first | (go_simp; done) | (go_simp; rfl)
                  try simp only [Act.put, List.setIfInBounds_toArray, List.set_cons_zero, List.set_cons_succ]
                  refine wpAnyH_ready (rs := [5, 14]) (by kernel_rfl) (by simp) ?_
                  refine AllReadyH.cons (o := { dst := some 128, op := Go.Op.call { callee := Go.Callee.value (Go.Operand.func 19), args := #[Go.Operand.tmp 127, Go.Operand.const (Go.Value.int Go.IntKind.i64 5)], argTypes := #[45, 3] }, type := 22, pos := _, after := #[{ on := 4, ground := Go.Ground.data }, { on := 1, ground := Go.Ground.chain }], guard := none }) rfl (fun K hK => ?_) (AllReadyH.cons (o := { dst := some 16, op := Go.Op.alloc 40, type := 0, pos := _, after := #[], guard := none }) rfl (fun K hK => ?_) AllReadyH.nil)
                  all_goals rw [if_pos (by rfl)]
                  · skip
                    go_wp2_with fail
                    refine Calls.mono (HW5.out _) ?_
                    rintro e Y2 ⟨rfl, b⟩
                    replace hHeld := hHeld.step b
                    clear b
                    refine hK.out _ _ hHeld (fun _ => ?_)
                    clear hK K
                    try simp only [Act.put, List.setIfInBounds_toArray, List.set_cons_zero, List.set_cons_succ]
                    refine wpAnyH_ready (rs := [7, 14]) (by kernel_rfl) (by simp) ?_
                    refine AllReadyH.cons (o := { dst := some 130, op := Go.Op.call { callee := Go.Callee.value (Go.Operand.func 19), args := #[Go.Operand.tmp 129, Go.Operand.const (Go.Value.int Go.IntKind.i64 6)], argTypes := #[45, 3] }, type := 22, pos := _, after := #[{ on := 6, ground := Go.Ground.data }, { on := 5, ground := Go.Ground.chain }], guard := none }) rfl (fun K hK => ?_) (AllReadyH.cons (o := { dst := some 16, op := Go.Op.alloc 40, type := 0, pos := _, after := #[], guard := none }) rfl (fun K hK => ?_) AllReadyH.nil)
                    all_goals rw [if_pos (by rfl)]
                    · skip
                      go_wp2_with fail
                      refine Calls.mono (HW6.out _) ?_
                      rintro e Y3 ⟨rfl, b⟩
                      replace hHeld := hHeld.step b
                      clear b
                      refine hK.out _ _ hHeld (fun _ => ?_)
                      clear hK K
                      try simp only [Act.put, List.setIfInBounds_toArray, List.set_cons_zero, List.set_cons_succ]
                      refine wpAnyH_take (i := 8) (oi := { dst := some 131, op := Go.Op.binOp Go.BinOp.eql 22 (Go.Operand.tmp 130) (Go.Operand.const (Go.Value.int Go.IntKind.u64 1)) 22, type := 4, pos := _, after := #[{ on := 7, ground := Go.Ground.data }], guard := none }) (v := .bool b6) rfl (by kernel_rfl) (by kernel_rfl) (by kernel_rfl) (fun _ _ _ h => h) (Or.inl ⟨by rfl, fun w' hw' => ?_⟩) hHeld ?_
                      · first | (go_simp; done) | (go_simp; rfl)
                      try simp only [Act.put, List.setIfInBounds_toArray, List.set_cons_zero, List.set_cons_succ]
                      refine wpAnyH_ready (rs := [10, 14]) (by kernel_rfl) (by simp) ?_
                      refine AllReadyH.cons (o := { dst := some 133, op := Go.Op.call { callee := Go.Callee.value (Go.Operand.func 19), args := #[Go.Operand.tmp 132, Go.Operand.const (Go.Value.int Go.IntKind.i64 7)], argTypes := #[45, 3] }, type := 22, pos := _, after := #[{ on := 9, ground := Go.Ground.data }, { on := 7, ground := Go.Ground.chain }], guard := none }) rfl (fun K hK => ?_) (AllReadyH.cons (o := { dst := some 16, op := Go.Op.alloc 40, type := 0, pos := _, after := #[], guard := none }) rfl (fun K hK => ?_) AllReadyH.nil)
                      all_goals rw [if_pos (by rfl)]
                      · skip
                        go_wp2_with fail
                        refine Calls.mono (HW7.out _) ?_
                        rintro e Y4 ⟨rfl, b⟩
                        replace hHeld := hHeld.step b
                        clear b
                        refine hK.out _ _ hHeld (fun _ => ?_)
                        clear hK K
                        try simp only [Act.put, List.setIfInBounds_toArray, List.set_cons_zero, List.set_cons_succ]
                        refine wpAnyH_take (i := 11) (oi := { dst := some 134, op := Go.Op.binOp Go.BinOp.rem 22 (Go.Operand.tmp 133) (Go.Operand.const (Go.Value.int Go.IntKind.u64 20000)) 22, type := 22, pos := _, after := #[{ on := 10, ground := Go.Ground.data }], guard := none }) (v := .int .u64 r7) rfl (by kernel_rfl) (by kernel_rfl) (by kernel_rfl) (fun _ _ _ h => h) (Or.inl ⟨by rfl, fun w' hw' => ?_⟩) hHeld ?_
                        · first | (go_simp; done) | (go_simp; rfl)
                        try simp only [Act.put, List.setIfInBounds_toArray, List.set_cons_zero, List.set_cons_succ]
                        refine wpAnyH_take (i := 12) (oi := { dst := some 135, op := Go.Op.convert 22 3 (Go.Operand.tmp 134), type := 3, pos := _, after := #[{ on := 11, ground := Go.Ground.data }], guard := none }) (v := .int .i64 r7) rfl (by kernel_rfl) (by kernel_rfl) (by kernel_rfl) (fun _ _ _ h => h) (Or.inl ⟨by rfl, fun w' hw' => ?_⟩) hHeld ?_
                        · first | (go_simp; done) | (go_simp; rfl)
                        try simp only [Act.put, List.setIfInBounds_toArray, List.set_cons_zero, List.set_cons_succ]
                        refine wpAnyH_take (i := 13) (oi := { dst := some 136, op := Go.Op.build 40 #[(0, Go.Operand.tmp 126), (2, Go.Operand.tmp 128), (3, Go.Operand.tmp 131), (4, Go.Operand.tmp 135)], type := 40, pos := _, after := #[{ on := 3, ground := Go.Ground.data }, { on := 5, ground := Go.Ground.data }, { on := 8, ground := Go.Ground.data }, { on := 12, ground := Go.Ground.data }], guard := none }) (v := .agg ZL0.toArray) rfl (by kernel_rfl) (by kernel_rfl) (by kernel_rfl) (fun _ _ _ h => h) (Or.inl ⟨by rfl, fun w' hw' => ?_⟩) hHeld ?_
                        · exact exec_build _ _ 40 _ #[(0, .int .i64 r0), (2, .int .u64 c5), (3, .bool b6), (4, .int .i64 r7)] _ _ rfl (by simp; first | done | exact ⟨rfl, rfl, rfl, rfl⟩) (HBZ.out w')
                        try simp only [Act.put, List.setIfInBounds_toArray, List.set_cons_zero, List.set_cons_succ]
                        refine wpAnyH_ready (rs := [14]) (by kernel_rfl) (by simp) ?_
                        refine AllReadyH.cons (o := { dst := some 16, op := Go.Op.alloc 40, type := 0, pos := _, after := #[], guard := none }) rfl (fun K hK => ?_) AllReadyH.nil
                        rw [if_pos (by rfl)]
                        go_wp2_with fail
                        have hN := hHeld.alloc _ rfl 40 ZO
                        replace hHeld := RS_tail hN
                        generalize (Y4).alloc (.cells ZO.toArray 40 (0, 0)) = Y5 at *
                        generalize (Y4).heap.size = n16 at *
                        refine hK.out _ _ hHeld (fun _ => ?_)
                        clear hK K
                        try simp only [Act.put, List.setIfInBounds_toArray, List.set_cons_zero, List.set_cons_succ]
                        refine wpAnyH_ready (rs := [15]) (by kernel_rfl) (by simp) ?_
                        refine AllReadyH.cons (o := { dst := none, op := Go.Op.store 40 (Go.Operand.tmp 16) (Go.Operand.tmp 136), type := 0, pos := _, after := #[{ on := 14, ground := Go.Ground.data }, { on := 13, ground := Go.Ground.data }, { on := 10, ground := Go.Ground.chain }, { on := 0, ground := Go.Ground.phase }, { on := 1, ground := Go.Ground.phase }, { on := 2, ground := Go.Ground.phase }, { on := 3, ground := Go.Ground.phase }, { on := 4, ground := Go.Ground.phase }, { on := 5, ground := Go.Ground.phase }, { on := 6, ground := Go.Ground.phase }, { on := 7, ground := Go.Ground.phase }, { on := 8, ground := Go.Ground.phase }, { on := 9, ground := Go.Ground.phase }, { on := 10, ground := Go.Ground.phase }, { on := 11, ground := Go.Ground.phase }, { on := 12, ground := Go.Ground.phase }, { on := 13, ground := Go.Ground.phase }, { on := 14, ground := Go.Ground.phase }], guard := none }) rfl (fun K hK => ?_) AllReadyH.nil
                        rw [if_pos (by rfl)]
                        refine wp_store_row 40 _ _ rfl n16 ZL0.toArray rfl rfl 40 ZO.toArray (hN.at 0 rfl) (info8oa ZL0 HZ0N.out) (by simp [HZ0N.out, HZON.out]) HZ01.out ?_
                        have hN2 := hN.put 0 rfl ZL0
                        have hH2 := RS_tail hN2
                        refine hK.out _ _ hH2 (fun _ => ?_)
                        clear hK K
                        try simp only [Act.put, List.setIfInBounds_toArray, List.set_cons_zero, List.set_cons_succ]
                        refine wpAnyH_done (by kernel_rfl) ?_ _
                        go_wp2_with fail
                        go_meet
                        case rel => exact ⟨_, rfl, hN2⟩
                      · skip
                        go_wp2_with fail
                        have hN := hHeld.alloc _ rfl 40 ZO
                        replace hHeld := RS_tail hN
                        generalize (Y3).alloc (.cells ZO.toArray 40 (0, 0)) = Y4 at *
                        generalize (Y3).heap.size = n16 at *
                        refine hK.out _ _ hHeld (fun _ => ?_)
                        clear hK K
                        try simp only [Act.put, List.setIfInBounds_toArray, List.set_cons_zero, List.set_cons_succ]
                        refine wpAnyH_ready (rs := [10]) (by kernel_rfl) (by simp) ?_
                        refine AllReadyH.cons (o := { dst := some 133, op := Go.Op.call { callee := Go.Callee.value (Go.Operand.func 19), args := #[Go.Operand.tmp 132, Go.Operand.const (Go.Value.int Go.IntKind.i64 7)], argTypes := #[45, 3] }, type := 22, pos := _, after := #[{ on := 9, ground := Go.Ground.data }, { on := 7, ground := Go.Ground.chain }], guard := none }) rfl (fun K hK => ?_) AllReadyH.nil
                        rw [if_pos (by rfl)]
                        go_wp2_with fail
                        refine Calls.mono (HW7.out _) ?_
                        rintro e Y5 ⟨rfl, b⟩
                        replace hN := hN.step b
                        replace hHeld := hHeld.step b
                        clear b
                        refine hK.out _ _ hHeld (fun _ => ?_)
                        clear hK K
                        try simp only [Act.put, List.setIfInBounds_toArray, List.set_cons_zero, List.set_cons_succ]
                        refine wpAnyH_take (i := 11) (oi := { dst := some 134, op := Go.Op.binOp Go.BinOp.rem 22 (Go.Operand.tmp 133) (Go.Operand.const (Go.Value.int Go.IntKind.u64 20000)) 22, type := 22, pos := _, after := #[{ on := 10, ground := Go.Ground.data }], guard := none }) (v := .int .u64 r7) rfl (by kernel_rfl) (by kernel_rfl) (by kernel_rfl) (fun _ _ _ h => h) (Or.inl ⟨by rfl, fun w' hw' => ?_⟩) hHeld ?_
                        · first | (go_simp; done) | (go_simp; rfl)
                        try simp only [Act.put, List.setIfInBounds_toArray, List.set_cons_zero, List.set_cons_succ]
                        refine wpAnyH_take (i := 12) (oi := { dst := some 135, op := Go.Op.convert 22 3 (Go.Operand.tmp 134), type := 3, pos := _, after := #[{ on := 11, ground := Go.Ground.data }], guard := none }) (v := .int .i64 r7) rfl (by kernel_rfl) (by kernel_rfl) (by kernel_rfl) (fun _ _ _ h => h) (Or.inl ⟨by rfl, fun w' hw' => ?_⟩) hHeld ?_
                        · first | (go_simp; done) | (go_simp; rfl)
                        try simp only [Act.put, List.setIfInBounds_toArray, List.set_cons_zero, List.set_cons_succ]
                        refine wpAnyH_take (i := 13) (oi := { dst := some 136, op := Go.Op.build 40 #[(0, Go.Operand.tmp 126), (2, Go.Operand.tmp 128), (3, Go.Operand.tmp 131), (4, Go.Operand.tmp 135)], type := 40, pos := _, after := #[{ on := 3, ground := Go.Ground.data }, { on := 5, ground := Go.Ground.data }, { on := 8, ground := Go.Ground.data }, { on := 12, ground := Go.Ground.data }], guard := none }) (v := .agg ZL0.toArray) rfl (by kernel_rfl) (by kernel_rfl) (by kernel_rfl) (fun _ _ _ h => h) (Or.inl ⟨by rfl, fun w' hw' => ?_⟩) hHeld ?_
                        · exact exec_build _ _ 40 _ #[(0, .int .i64 r0), (2, .int .u64 c5), (3, .bool b6), (4, .int .i64 r7)] _ _ rfl (by simp; first | done | exact ⟨rfl, rfl, rfl, rfl⟩) (HBZ.out w')
                        try simp only [Act.put, List.setIfInBounds_toArray, List.set_cons_zero, List.set_cons_succ]
                        refine wpAnyH_ready (rs := [15]) (by kernel_rfl) (by simp) ?_
                        refine AllReadyH.cons (o := { dst := none, op := Go.Op.store 40 (Go.Operand.tmp 16) (Go.Operand.tmp 136), type := 0, pos := _, after := #[{ on := 14, ground := Go.Ground.data }, { on := 13, ground := Go.Ground.data }, { on := 10, ground := Go.Ground.chain }, { on := 0, ground := Go.Ground.phase }, { on := 1, ground := Go.Ground.phase }, { on := 2, ground := Go.Ground.phase }, { on := 3, ground := Go.Ground.phase }, { on := 4, ground := Go.Ground.phase }, { on := 5, ground := Go.Ground.phase }, { on := 6, ground := Go.Ground.phase }, { on := 7, ground := Go.Ground.phase }, { on := 8, ground := Go.Ground.phase }, { on := 9, ground := Go.Ground.phase }, { on := 10, ground := Go.Ground.phase }, { on := 11, ground := Go.Ground.phase }, { on := 12, ground := Go.Ground.phase }, { on := 13, ground := Go.Ground.phase }, { on := 14, ground := Go.Ground.phase }], guard := none }) rfl (fun K hK => ?_) AllReadyH.nil
                        rw [if_pos (by rfl)]
                        refine wp_store_row 40 _ _ rfl n16 ZL0.toArray rfl rfl 40 ZO.toArray (hN.at 0 rfl) (info8oa ZL0 HZ0N.out) (by simp [HZ0N.out, HZON.out]) HZ01.out ?_
                        have hN2 := hN.put 0 rfl ZL0
                        have hH2 := RS_tail hN2
                        refine hK.out _ _ hH2 (fun _ => ?_)
                        clear hK K
                        try simp only [Act.put, List.setIfInBounds_toArray, List.set_cons_zero, List.set_cons_succ]
                        refine wpAnyH_done (by kernel_rfl) ?_ _
                        go_wp2_with fail
                        go_meet
                        case rel => exact ⟨_, rfl, hN2⟩
                    · skip
                      go_wp2_with fail
                      have hN := hHeld.alloc _ rfl 40 ZO
                      replace hHeld := RS_tail hN
                      generalize (Y2).alloc (.cells ZO.toArray 40 (0, 0)) = Y3 at *
                      generalize (Y2).heap.size = n16 at *
                      refine hK.out _ _ hHeld (fun _ => ?_)
                      clear hK K
                      try simp only [Act.put, List.setIfInBounds_toArray, List.set_cons_zero, List.set_cons_succ]
                      refine wpAnyH_ready (rs := [7]) (by kernel_rfl) (by simp) ?_
                      refine AllReadyH.cons (o := { dst := some 130, op := Go.Op.call { callee := Go.Callee.value (Go.Operand.func 19), args := #[Go.Operand.tmp 129, Go.Operand.const (Go.Value.int Go.IntKind.i64 6)], argTypes := #[45, 3] }, type := 22, pos := _, after := #[{ on := 6, ground := Go.Ground.data }, { on := 5, ground := Go.Ground.chain }], guard := none }) rfl (fun K hK => ?_) AllReadyH.nil
                      rw [if_pos (by rfl)]
                      go_wp2_with fail
                      refine Calls.mono (HW6.out _) ?_
                      rintro e Y4 ⟨rfl, b⟩
                      replace hN := hN.step b
                      replace hHeld := hHeld.step b
                      clear b
                      refine hK.out _ _ hHeld (fun _ => ?_)
                      clear hK K
                      try simp only [Act.put, List.setIfInBounds_toArray, List.set_cons_zero, List.set_cons_succ]
                      refine wpAnyH_take (i := 8) (oi := { dst := some 131, op := Go.Op.binOp Go.BinOp.eql 22 (Go.Operand.tmp 130) (Go.Operand.const (Go.Value.int Go.IntKind.u64 1)) 22, type := 4, pos := _, after := #[{ on := 7, ground := Go.Ground.data }], guard := none }) (v := .bool b6) rfl (by kernel_rfl) (by kernel_rfl) (by kernel_rfl) (fun _ _ _ h => h) (Or.inl ⟨by rfl, fun w' hw' => ?_⟩) hHeld ?_
                      · first | (go_simp; done) | (go_simp; rfl)
                      try simp only [Act.put, List.setIfInBounds_toArray, List.set_cons_zero, List.set_cons_succ]
                      refine wpAnyH_ready (rs := [10]) (by kernel_rfl) (by simp) ?_
                      refine AllReadyH.cons (o := { dst := some 133, op := Go.Op.call { callee := Go.Callee.value (Go.Operand.func 19), args := #[Go.Operand.tmp 132, Go.Operand.const (Go.Value.int Go.IntKind.i64 7)], argTypes := #[45, 3] }, type := 22, pos := _, after := #[{ on := 9, ground := Go.Ground.data }, { on := 7, ground := Go.Ground.chain }], guard := none }) rfl (fun K hK => ?_) AllReadyH.nil
                      rw [if_pos (by rfl)]
                      go_wp2_with fail
                      refine Calls.mono (HW7.out _) ?_
                      rintro e Y5 ⟨rfl, b⟩
                      replace hN := hN.step b
                      replace hHeld := hHeld.step b
                      clear b
                      refine hK.out _ _ hHeld (fun _ => ?_)
                      clear hK K
                      try simp only [Act.put, List.setIfInBounds_toArray, List.set_cons_zero, List.set_cons_succ]
                      refine wpAnyH_take (i := 11) (oi := { dst := some 134, op := Go.Op.binOp Go.BinOp.rem 22 (Go.Operand.tmp 133) (Go.Operand.const (Go.Value.int Go.IntKind.u64 20000)) 22, type := 22, pos := _, after := #[{ on := 10, ground := Go.Ground.data }], guard := none }) (v := .int .u64 r7) rfl (by kernel_rfl) (by kernel_rfl) (by kernel_rfl) (fun _ _ _ h => h) (Or.inl ⟨by rfl, fun w' hw' => ?_⟩) hHeld ?_
                      · first | (go_simp; done) | (go_simp; rfl)
                      try simp only [Act.put, List.setIfInBounds_toArray, List.set_cons_zero, List.set_cons_succ]
                      refine wpAnyH_take (i := 12) (oi := { dst := some 135, op := Go.Op.convert 22 3 (Go.Operand.tmp 134), type := 3, pos := _, after := #[{ on := 11, ground := Go.Ground.data }], guard := none }) (v := .int .i64 r7) rfl (by kernel_rfl) (by kernel_rfl) (by kernel_rfl) (fun _ _ _ h => h) (Or.inl ⟨by rfl, fun w' hw' => ?_⟩) hHeld ?_
                      · first | (go_simp; done) | (go_simp; rfl)
                      try simp only [Act.put, List.setIfInBounds_toArray, List.set_cons_zero, List.set_cons_succ]
                      refine wpAnyH_take (i := 13) (oi := { dst := some 136, op := Go.Op.build 40 #[(0, Go.Operand.tmp 126), (2, Go.Operand.tmp 128), (3, Go.Operand.tmp 131), (4, Go.Operand.tmp 135)], type := 40, pos := _, after := #[{ on := 3, ground := Go.Ground.data }, { on := 5, ground := Go.Ground.data }, { on := 8, ground := Go.Ground.data }, { on := 12, ground := Go.Ground.data }], guard := none }) (v := .agg ZL0.toArray) rfl (by kernel_rfl) (by kernel_rfl) (by kernel_rfl) (fun _ _ _ h => h) (Or.inl ⟨by rfl, fun w' hw' => ?_⟩) hHeld ?_
                      · exact exec_build _ _ 40 _ #[(0, .int .i64 r0), (2, .int .u64 c5), (3, .bool b6), (4, .int .i64 r7)] _ _ rfl (by simp; first | done | exact ⟨rfl, rfl, rfl, rfl⟩) (HBZ.out w')
                      try simp only [Act.put, List.setIfInBounds_toArray, List.set_cons_zero, List.set_cons_succ]
                      refine wpAnyH_ready (rs := [15]) (by kernel_rfl) (by simp) ?_
                      refine AllReadyH.cons (o := { dst := none, op := Go.Op.store 40 (Go.Operand.tmp 16) (Go.Operand.tmp 136), type := 0, pos := _, after := #[{ on := 14, ground := Go.Ground.data }, { on := 13, ground := Go.Ground.data }, { on := 10, ground := Go.Ground.chain }, { on := 0, ground := Go.Ground.phase }, { on := 1, ground := Go.Ground.phase }, { on := 2, ground := Go.Ground.phase }, { on := 3, ground := Go.Ground.phase }, { on := 4, ground := Go.Ground.phase }, { on := 5, ground := Go.Ground.phase }, { on := 6, ground := Go.Ground.phase }, { on := 7, ground := Go.Ground.phase }, { on := 8, ground := Go.Ground.phase }, { on := 9, ground := Go.Ground.phase }, { on := 10, ground := Go.Ground.phase }, { on := 11, ground := Go.Ground.phase }, { on := 12, ground := Go.Ground.phase }, { on := 13, ground := Go.Ground.phase }, { on := 14, ground := Go.Ground.phase }], guard := none }) rfl (fun K hK => ?_) AllReadyH.nil
                      rw [if_pos (by rfl)]
                      refine wp_store_row 40 _ _ rfl n16 ZL0.toArray rfl rfl 40 ZO.toArray (hN.at 0 rfl) (info8oa ZL0 HZ0N.out) (by simp [HZ0N.out, HZON.out]) HZ01.out ?_
                      have hN2 := hN.put 0 rfl ZL0
                      have hH2 := RS_tail hN2
                      refine hK.out _ _ hH2 (fun _ => ?_)
                      clear hK K
                      try simp only [Act.put, List.setIfInBounds_toArray, List.set_cons_zero, List.set_cons_succ]
                      refine wpAnyH_done (by kernel_rfl) ?_ _
                      go_wp2_with fail
                      go_meet
                      case rel => exact ⟨_, rfl, hN2⟩
                  · skip
                    go_wp2_with fail
                    have hN := hHeld.alloc _ rfl 40 ZO
                    replace hHeld := RS_tail hN
                    generalize (Y1).alloc (.cells ZO.toArray 40 (0, 0)) = Y2 at *
                    generalize (Y1).heap.size = n16 at *
                    refine hK.out _ _ hHeld (fun _ => ?_)
                    clear hK K
                    try simp only [Act.put, List.setIfInBounds_toArray, List.set_cons_zero, List.set_cons_succ]
                    refine wpAnyH_ready (rs := [5]) (by kernel_rfl) (by simp) ?_
                    refine AllReadyH.cons (o := { dst := some 128, op := Go.Op.call { callee := Go.Callee.value (Go.Operand.func 19), args := #[Go.Operand.tmp 127, Go.Operand.const (Go.Value.int Go.IntKind.i64 5)], argTypes := #[45, 3] }, type := 22, pos := _, after := #[{ on := 4, ground := Go.Ground.data }, { on := 1, ground := Go.Ground.chain }], guard := none }) rfl (fun K hK => ?_) AllReadyH.nil
                    rw [if_pos (by rfl)]
                    go_wp2_with fail
                    refine Calls.mono (HW5.out _) ?_
                    rintro e Y3 ⟨rfl, b⟩
                    replace hN := hN.step b
                    replace hHeld := hHeld.step b
                    clear b
                    refine hK.out _ _ hHeld (fun _ => ?_)
                    clear hK K
                    try simp only [Act.put, List.setIfInBounds_toArray, List.set_cons_zero, List.set_cons_succ]
                    refine wpAnyH_ready (rs := [7]) (by kernel_rfl) (by simp) ?_
                    refine AllReadyH.cons (o := { dst := some 130, op := Go.Op.call { callee := Go.Callee.value (Go.Operand.func 19), args := #[Go.Operand.tmp 129, Go.Operand.const (Go.Value.int Go.IntKind.i64 6)], argTypes := #[45, 3] }, type := 22, pos := _, after := #[{ on := 6, ground := Go.Ground.data }, { on := 5, ground := Go.Ground.chain }], guard := none }) rfl (fun K hK => ?_) AllReadyH.nil
                    rw [if_pos (by rfl)]
                    go_wp2_with fail
                    refine Calls.mono (HW6.out _) ?_
                    rintro e Y4 ⟨rfl, b⟩
                    replace hN := hN.step b
                    replace hHeld := hHeld.step b
                    clear b
                    refine hK.out _ _ hHeld (fun _ => ?_)
                    clear hK K
                    try simp only [Act.put, List.setIfInBounds_toArray, List.set_cons_zero, List.set_cons_succ]
                    refine wpAnyH_take (i := 8) (oi := { dst := some 131, op := Go.Op.binOp Go.BinOp.eql 22 (Go.Operand.tmp 130) (Go.Operand.const (Go.Value.int Go.IntKind.u64 1)) 22, type := 4, pos := _, after := #[{ on := 7, ground := Go.Ground.data }], guard := none }) (v := .bool b6) rfl (by kernel_rfl) (by kernel_rfl) (by kernel_rfl) (fun _ _ _ h => h) (Or.inl ⟨by rfl, fun w' hw' => ?_⟩) hHeld ?_
                    · first | (go_simp; done) | (go_simp; rfl)
                    try simp only [Act.put, List.setIfInBounds_toArray, List.set_cons_zero, List.set_cons_succ]
                    refine wpAnyH_ready (rs := [10]) (by kernel_rfl) (by simp) ?_
                    refine AllReadyH.cons (o := { dst := some 133, op := Go.Op.call { callee := Go.Callee.value (Go.Operand.func 19), args := #[Go.Operand.tmp 132, Go.Operand.const (Go.Value.int Go.IntKind.i64 7)], argTypes := #[45, 3] }, type := 22, pos := _, after := #[{ on := 9, ground := Go.Ground.data }, { on := 7, ground := Go.Ground.chain }], guard := none }) rfl (fun K hK => ?_) AllReadyH.nil
                    rw [if_pos (by rfl)]
                    go_wp2_with fail
                    refine Calls.mono (HW7.out _) ?_
                    rintro e Y5 ⟨rfl, b⟩
                    replace hN := hN.step b
                    replace hHeld := hHeld.step b
                    clear b
                    refine hK.out _ _ hHeld (fun _ => ?_)
                    clear hK K
                    try simp only [Act.put, List.setIfInBounds_toArray, List.set_cons_zero, List.set_cons_succ]
                    refine wpAnyH_take (i := 11) (oi := { dst := some 134, op := Go.Op.binOp Go.BinOp.rem 22 (Go.Operand.tmp 133) (Go.Operand.const (Go.Value.int Go.IntKind.u64 20000)) 22, type := 22, pos := _, after := #[{ on := 10, ground := Go.Ground.data }], guard := none }) (v := .int .u64 r7) rfl (by kernel_rfl) (by kernel_rfl) (by kernel_rfl) (fun _ _ _ h => h) (Or.inl ⟨by rfl, fun w' hw' => ?_⟩) hHeld ?_
                    · first | (go_simp; done) | (go_simp; rfl)
                    try simp only [Act.put, List.setIfInBounds_toArray, List.set_cons_zero, List.set_cons_succ]
                    refine wpAnyH_take (i := 12) (oi := { dst := some 135, op := Go.Op.convert 22 3 (Go.Operand.tmp 134), type := 3, pos := _, after := #[{ on := 11, ground := Go.Ground.data }], guard := none }) (v := .int .i64 r7) rfl (by kernel_rfl) (by kernel_rfl) (by kernel_rfl) (fun _ _ _ h => h) (Or.inl ⟨by rfl, fun w' hw' => ?_⟩) hHeld ?_
                    · first | (go_simp; done) | (go_simp; rfl)
                    try simp only [Act.put, List.setIfInBounds_toArray, List.set_cons_zero, List.set_cons_succ]
                    refine wpAnyH_take (i := 13) (oi := { dst := some 136, op := Go.Op.build 40 #[(0, Go.Operand.tmp 126), (2, Go.Operand.tmp 128), (3, Go.Operand.tmp 131), (4, Go.Operand.tmp 135)], type := 40, pos := _, after := #[{ on := 3, ground := Go.Ground.data }, { on := 5, ground := Go.Ground.data }, { on := 8, ground := Go.Ground.data }, { on := 12, ground := Go.Ground.data }], guard := none }) (v := .agg ZL0.toArray) rfl (by kernel_rfl) (by kernel_rfl) (by kernel_rfl) (fun _ _ _ h => h) (Or.inl ⟨by rfl, fun w' hw' => ?_⟩) hHeld ?_
                    · exact exec_build _ _ 40 _ #[(0, .int .i64 r0), (2, .int .u64 c5), (3, .bool b6), (4, .int .i64 r7)] _ _ rfl (by simp; first | done | exact ⟨rfl, rfl, rfl, rfl⟩) (HBZ.out w')
                    try simp only [Act.put, List.setIfInBounds_toArray, List.set_cons_zero, List.set_cons_succ]
                    refine wpAnyH_ready (rs := [15]) (by kernel_rfl) (by simp) ?_
                    refine AllReadyH.cons (o := { dst := none, op := Go.Op.store 40 (Go.Operand.tmp 16) (Go.Operand.tmp 136), type := 0, pos := _, after := #[{ on := 14, ground := Go.Ground.data }, { on := 13, ground := Go.Ground.data }, { on := 10, ground := Go.Ground.chain }, { on := 0, ground := Go.Ground.phase }, { on := 1, ground := Go.Ground.phase }, { on := 2, ground := Go.Ground.phase }, { on := 3, ground := Go.Ground.phase }, { on := 4, ground := Go.Ground.phase }, { on := 5, ground := Go.Ground.phase }, { on := 6, ground := Go.Ground.phase }, { on := 7, ground := Go.Ground.phase }, { on := 8, ground := Go.Ground.phase }, { on := 9, ground := Go.Ground.phase }, { on := 10, ground := Go.Ground.phase }, { on := 11, ground := Go.Ground.phase }, { on := 12, ground := Go.Ground.phase }, { on := 13, ground := Go.Ground.phase }, { on := 14, ground := Go.Ground.phase }], guard := none }) rfl (fun K hK => ?_) AllReadyH.nil
                    rw [if_pos (by rfl)]
                    refine wp_store_row 40 _ _ rfl n16 ZL0.toArray rfl rfl 40 ZO.toArray (hN.at 0 rfl) (info8oa ZL0 HZ0N.out) (by simp [HZ0N.out, HZON.out]) HZ01.out ?_
                    have hN2 := hN.put 0 rfl ZL0
                    have hH2 := RS_tail hN2
                    refine hK.out _ _ hH2 (fun _ => ?_)
                    clear hK K
                    try simp only [Act.put, List.setIfInBounds_toArray, List.set_cons_zero, List.set_cons_succ]
                    refine wpAnyH_done (by kernel_rfl) ?_ _
                    go_wp2_with fail
                    go_meet
                    case rel => exact ⟨_, rfl, hN2⟩
                · skip
                  go_wp2_with fail
                  have hN := hHeld.alloc _ rfl 40 ZO
                  replace hHeld := RS_tail hN
                  generalize (Y0).alloc (.cells ZO.toArray 40 (0, 0)) = Y1 at *
                  generalize (Y0).heap.size = n16 at *
                  refine hK.out _ _ hHeld (fun _ => ?_)
                  clear hK K
                  try simp only [Act.put, List.setIfInBounds_toArray, List.set_cons_zero, List.set_cons_succ]
                  refine wpAnyH_ready (rs := [1]) (by kernel_rfl) (by simp) ?_
                  refine AllReadyH.cons (o := { dst := some 124, op := Go.Op.call { callee := Go.Callee.value (Go.Operand.func 19), args := #[Go.Operand.tmp 123, Go.Operand.const (Go.Value.int Go.IntKind.i64 0)], argTypes := #[45, 3] }, type := 22, pos := _, after := #[{ on := 0, ground := Go.Ground.data }], guard := none }) rfl (fun K hK => ?_) AllReadyH.nil
                  rw [if_pos (by rfl)]
                  go_wp2_with fail
                  refine Calls.mono (HW0.out _) ?_
                  rintro e Y2 ⟨rfl, b⟩
                  replace hN := hN.step b
                  replace hHeld := hHeld.step b
                  clear b
                  refine hK.out _ _ hHeld (fun _ => ?_)
                  clear hK K
                  try simp only [Act.put, List.setIfInBounds_toArray, List.set_cons_zero, List.set_cons_succ]
                  refine wpAnyH_take (i := 2) (oi := { dst := some 125, op := Go.Op.binOp Go.BinOp.rem 22 (Go.Operand.tmp 124) (Go.Operand.const (Go.Value.int Go.IntKind.u64 8)) 22, type := 22, pos := _, after := #[{ on := 1, ground := Go.Ground.data }], guard := none }) (v := .int .u64 r0) rfl (by kernel_rfl) (by kernel_rfl) (by kernel_rfl) (fun _ _ _ h => h) (Or.inl ⟨by rfl, fun w' hw' => ?_⟩) hHeld ?_
                  · first | (go_simp; done) | (go_simp; rfl)
                  try simp only [Act.put, List.setIfInBounds_toArray, List.set_cons_zero, List.set_cons_succ]
                  refine wpAnyH_take (i := 3) (oi := { dst := some 126, op := Go.Op.convert 22 38 (Go.Operand.tmp 125), type := 38, pos := _, after := #[{ on := 2, ground := Go.Ground.data }], guard := none }) (v := .int .i64 r0) rfl (by kernel_rfl) (by kernel_rfl) (by kernel_rfl) (fun _ _ _ h => h) (Or.inl ⟨by rfl, fun w' hw' => ?_⟩) hHeld ?_
                  · first | (go_simp; done) | (go_simp; rfl)
                  try simp only [Act.put, List.setIfInBounds_toArray, List.set_cons_zero, List.set_cons_succ]
                  refine wpAnyH_ready (rs := [5]) (by kernel_rfl) (by simp) ?_
                  refine AllReadyH.cons (o := { dst := some 128, op := Go.Op.call { callee := Go.Callee.value (Go.Operand.func 19), args := #[Go.Operand.tmp 127, Go.Operand.const (Go.Value.int Go.IntKind.i64 5)], argTypes := #[45, 3] }, type := 22, pos := _, after := #[{ on := 4, ground := Go.Ground.data }, { on := 1, ground := Go.Ground.chain }], guard := none }) rfl (fun K hK => ?_) AllReadyH.nil
                  rw [if_pos (by rfl)]
                  go_wp2_with fail
                  refine Calls.mono (HW5.out _) ?_
                  rintro e Y3 ⟨rfl, b⟩
                  replace hN := hN.step b
                  replace hHeld := hHeld.step b
                  clear b
                  refine hK.out _ _ hHeld (fun _ => ?_)
                  clear hK K
                  try simp only [Act.put, List.setIfInBounds_toArray, List.set_cons_zero, List.set_cons_succ]
                  refine wpAnyH_ready (rs := [7]) (by kernel_rfl) (by simp) ?_
                  refine AllReadyH.cons (o := { dst := some 130, op := Go.Op.call { callee := Go.Callee.value (Go.Operand.func 19), args := #[Go.Operand.tmp 129, Go.Operand.const (Go.Value.int Go.IntKind.i64 6)], argTypes := #[45, 3] }, type := 22, pos := _, after := #[{ on := 6, ground := Go.Ground.data }, { on := 5, ground := Go.Ground.chain }], guard := none }) rfl (fun K hK => ?_) AllReadyH.nil
                  rw [if_pos (by rfl)]
                  go_wp2_with fail
                  refine Calls.mono (HW6.out _) ?_
                  rintro e Y4 ⟨rfl, b⟩
                  replace hN := hN.step b
                  replace hHeld := hHeld.step b
                  clear b
                  refine hK.out _ _ hHeld (fun _ => ?_)
                  clear hK K
                  try simp only [Act.put, List.setIfInBounds_toArray, List.set_cons_zero, List.set_cons_succ]
                  refine wpAnyH_take (i := 8) (oi := { dst := some 131, op := Go.Op.binOp Go.BinOp.eql 22 (Go.Operand.tmp 130) (Go.Operand.const (Go.Value.int Go.IntKind.u64 1)) 22, type := 4, pos := _, after := #[{ on := 7, ground := Go.Ground.data }], guard := none }) (v := .bool b6) rfl (by kernel_rfl) (by kernel_rfl) (by kernel_rfl) (fun _ _ _ h => h) (Or.inl ⟨by rfl, fun w' hw' => ?_⟩) hHeld ?_
                  · first | (go_simp; done) | (go_simp; rfl)
                  try simp only [Act.put, List.setIfInBounds_toArray, List.set_cons_zero, List.set_cons_succ]
                  refine wpAnyH_ready (rs := [10]) (by kernel_rfl) (by simp) ?_
                  refine AllReadyH.cons (o := { dst := some 133, op := Go.Op.call { callee := Go.Callee.value (Go.Operand.func 19), args := #[Go.Operand.tmp 132, Go.Operand.const (Go.Value.int Go.IntKind.i64 7)], argTypes := #[45, 3] }, type := 22, pos := _, after := #[{ on := 9, ground := Go.Ground.data }, { on := 7, ground := Go.Ground.chain }], guard := none }) rfl (fun K hK => ?_) AllReadyH.nil
                  rw [if_pos (by rfl)]
                  go_wp2_with fail
                  refine Calls.mono (HW7.out _) ?_
                  rintro e Y5 ⟨rfl, b⟩
                  replace hN := hN.step b
                  replace hHeld := hHeld.step b
                  clear b
                  refine hK.out _ _ hHeld (fun _ => ?_)
                  clear hK K
                  try simp only [Act.put, List.setIfInBounds_toArray, List.set_cons_zero, List.set_cons_succ]
                  refine wpAnyH_take (i := 11) (oi := { dst := some 134, op := Go.Op.binOp Go.BinOp.rem 22 (Go.Operand.tmp 133) (Go.Operand.const (Go.Value.int Go.IntKind.u64 20000)) 22, type := 22, pos := _, after := #[{ on := 10, ground := Go.Ground.data }], guard := none }) (v := .int .u64 r7) rfl (by kernel_rfl) (by kernel_rfl) (by kernel_rfl) (fun _ _ _ h => h) (Or.inl ⟨by rfl, fun w' hw' => ?_⟩) hHeld ?_
                  · first | (go_simp; done) | (go_simp; rfl)
                  try simp only [Act.put, List.setIfInBounds_toArray, List.set_cons_zero, List.set_cons_succ]
                  refine wpAnyH_take (i := 12) (oi := { dst := some 135, op := Go.Op.convert 22 3 (Go.Operand.tmp 134), type := 3, pos := _, after := #[{ on := 11, ground := Go.Ground.data }], guard := none }) (v := .int .i64 r7) rfl (by kernel_rfl) (by kernel_rfl) (by kernel_rfl) (fun _ _ _ h => h) (Or.inl ⟨by rfl, fun w' hw' => ?_⟩) hHeld ?_
                  · first | (go_simp; done) | (go_simp; rfl)
                  try simp only [Act.put, List.setIfInBounds_toArray, List.set_cons_zero, List.set_cons_succ]
                  refine wpAnyH_take (i := 13) (oi := { dst := some 136, op := Go.Op.build 40 #[(0, Go.Operand.tmp 126), (2, Go.Operand.tmp 128), (3, Go.Operand.tmp 131), (4, Go.Operand.tmp 135)], type := 40, pos := _, after := #[{ on := 3, ground := Go.Ground.data }, { on := 5, ground := Go.Ground.data }, { on := 8, ground := Go.Ground.data }, { on := 12, ground := Go.Ground.data }], guard := none }) (v := .agg ZL0.toArray) rfl (by kernel_rfl) (by kernel_rfl) (by kernel_rfl) (fun _ _ _ h => h) (Or.inl ⟨by rfl, fun w' hw' => ?_⟩) hHeld ?_
                  · exact exec_build _ _ 40 _ #[(0, .int .i64 r0), (2, .int .u64 c5), (3, .bool b6), (4, .int .i64 r7)] _ _ rfl (by simp; first | done | exact ⟨rfl, rfl, rfl, rfl⟩) (HBZ.out w')
                  try simp only [Act.put, List.setIfInBounds_toArray, List.set_cons_zero, List.set_cons_succ]
                  refine wpAnyH_ready (rs := [15]) (by kernel_rfl) (by simp) ?_
                  refine AllReadyH.cons (o := { dst := none, op := Go.Op.store 40 (Go.Operand.tmp 16) (Go.Operand.tmp 136), type := 0, pos := _, after := #[{ on := 14, ground := Go.Ground.data }, { on := 13, ground := Go.Ground.data }, { on := 10, ground := Go.Ground.chain }, { on := 0, ground := Go.Ground.phase }, { on := 1, ground := Go.Ground.phase }, { on := 2, ground := Go.Ground.phase }, { on := 3, ground := Go.Ground.phase }, { on := 4, ground := Go.Ground.phase }, { on := 5, ground := Go.Ground.phase }, { on := 6, ground := Go.Ground.phase }, { on := 7, ground := Go.Ground.phase }, { on := 8, ground := Go.Ground.phase }, { on := 9, ground := Go.Ground.phase }, { on := 10, ground := Go.Ground.phase }, { on := 11, ground := Go.Ground.phase }, { on := 12, ground := Go.Ground.phase }, { on := 13, ground := Go.Ground.phase }, { on := 14, ground := Go.Ground.phase }], guard := none }) rfl (fun K hK => ?_) AllReadyH.nil
                  rw [if_pos (by rfl)]
                  refine wp_store_row 40 _ _ rfl n16 ZL0.toArray rfl rfl 40 ZO.toArray (hN.at 0 rfl) (info8oa ZL0 HZ0N.out) (by simp [HZ0N.out, HZON.out]) HZ01.out ?_
                  have hN2 := hN.put 0 rfl ZL0
                  have hH2 := RS_tail hN2
                  refine hK.out _ _ hH2 (fun _ => ?_)
                  clear hK K
                  try simp only [Act.put, List.setIfInBounds_toArray, List.set_cons_zero, List.set_cons_succ]
                  refine wpAnyH_done (by kernel_rfl) ?_ _
                  go_wp2_with fail
                  go_meet
                  case rel => exact ⟨_, rfl, hN2⟩
              case rest =>
                obtain ⟨n16, rfl, hR⟩ := hcut
                generalize wc = V20 at *
                rw [← HS0.out] at hR
                have HR16 : Hid (RS w ((n16, 40, ZS 0) :: [(n9, 31, XL), (w.heap.size + 1 + 1 + 1, 45, AL), (w.heap.size + 1 + 1, 45, GL), (w.heap.size + 1, 40, OL), (w.heap.size, 31, IL)]) V20) := hR
                clear hR HR13 HW0 HW5 HW6 HW7 HBZ hr0 hr7 hb6 hr0a hr7a hr0b hr7b HS0 HZ0N HZ01
                go_wp2
                go_loopw [17] (fun i wr => ∃ k : Nat, k ≤ 4 ∧ i = .int .i64 k ∧ RS w ((n16, 40, ZS k) :: [(n9, 31, XL), (w.heap.size + 1 + 1 + 1, 45, AL), (w.heap.size + 1 + 1, 45, GL), (w.heap.size + 1, 40, OL), (w.heap.size, 31, IL)]) wr) (fun i _ => 4 - (intOf i).toNat)
                case atStart => exact ⟨0, by omega, rfl, HR16.out⟩
                case round =>
                  obtain ⟨k, hk, rfl, hR⟩ := hrel
                  clear HR16
                  by_cases hlt : k < 4
                  · obtain ⟨hl8, hset⟩ := HSP.out k hlt
                    have HW : Hid _ := HWD.out (1 + k) (by omega)
                    have HR2 : Hid _ := hR
                    have hkI : (k : Int) < 4 := by omega
                    have hw3 : IntKind.i64.wrap (1 + (k : Int)) = ((1 + k : Nat) : Int) := by rw [IntKind.wrap_i64]; omega
                    have HL8 : Hid ((ZS k).length = 8) := hl8
                    have HST : Hid ((ZS k).set (1 + k) (.int .u64 (wo G (1 + k))) = ZS (k + 1)) := hset
                    generalize wo G (1 + k) = x at *
                    clear hR hl8 hset
                    go_wp2_with (refine wpList_load_mid rfl 45 (.tmp 5) rfl (w.heap.size + 1 + 1) 0 rfl GL _ (rangeAt_row (HR2.out.at 3 rfl)) Try.underlying45 rfl (info128 GL HGL.out) ?_)
                    refine Calls.mono (HW.out _) ?_
                    rintro e Y2 ⟨rfl, b2⟩
                    have HR3 : Hid _ := HR2.out.step b2
                    have HR4 : Hid _ := HR3.out.poke 0 rfl (1 + k) (.int .u64 x) HST.out
                    clear b2 HR2 HW HST hw3
                    go_wp2_with (refine wpList_stU rfl (.tmp 147) (.tmp 145) rfl n16 (1 + k) x rfl rfl (ZS k) 40 (HR3.out.at 0 rfl) (by rw [HL8.out]; omega) ?_
                                 intro Y3 hY3
                                 rw [← hY3] at HR4
                                 clear hY3 HR3)
                    go_roundw
                    case rel => exact ⟨k + 1, by omega, by go_num, HR4.out⟩
                    case measure => simp [intOf]; omega
                  · have hk4 : k = 4 := by omega
                    subst hk4
                    rw [HS4z.out] at hR
                    have HR2 : Hid _ := hR
                    clear hR hlt hk HS4z HSP HWD
                    go_wp2_with (refine wpList_load_mid rfl 45 (.tmp 5) rfl (w.heap.size + 1 + 1) 0 rfl GL _ (rangeAt_row (HR2.out.at 3 rfl)) Try.underlying45 rfl (info128 GL HGL.out) ?_)
                    refine Calls.mono (HOG.out _) ?_
                    rintro e V21 ⟨rfl, b2⟩
                    have R1 := (HR2.out.step b2).alloc _ rfl 40 ZO
                    have HR3 : Hid _ := R1
                    have HR4 : Hid _ := R1.put 0 rfl YL
                    clear b2 R1 HR2 HOG
                    go_upto_region 34 with (first
                      | (refine wpList_store_rowL rfl 40 (.tmp 18) (.tmp 151) rfl V21.heap.size YL.toArray rfl rfl 40 ZO.toArray (HR3.out.at 0 rfl) (info8oa YL HYL.out) (by simp [HZON.out, HYL.out]) HY1.out ?_
                         intro V22 hV22
                         rw [← hV22] at HR4
                         clear hV22 HR3))
                    generalize V21.heap.size = n18 at *
                    refine wp_region_held_drew (S := fun X => RS w ((n18, 40, YL) :: (n16, 40, ZZL) :: [(n9, 31, XL), (w.heap.size + 1 + 1 + 1, 45, AL), (w.heap.size + 1 + 1, 45, GL), (w.heap.size + 1, 40, OL), (w.heap.size, 31, IL)]) X) (by kernel_rfl) (HR4.out.step (below_drew _)) (fun hHeld => ?_)
                    clear HR4
                    refine wpAnyH_take (i := 0) (oi := { dst := some 153, op := Go.Op.load 40 (Go.Operand.tmp 16), type := 40, pos := _, after := #[], guard := none }) rfl (by kernel_rfl) (by kernel_rfl) (by kernel_rfl) (fun _ _ _ h => h) (yieldsIf_load_mid (by rfl) 40 (.tmp 16) rfl (n16) (0) rfl (ZZL) _ (fun _ h => rangeAt_row (h.at 1 rfl)) Try.underlying40 rfl (info8o ZZL HZZN.out)) hHeld ?_
                    try simp only [Act.put, List.setIfInBounds_toArray, List.set_cons_zero, List.set_cons_succ]
                    refine wpAnyH_ready (rs := [1]) (by kernel_rfl) (by simp) ?_
                    refine AllReadyH.cons (o := { dst := some 154, op := Go.Op.call { callee := Go.Callee.value (Go.Operand.func 16), args := #[Go.Operand.tmp 153], argTypes := #[40] }, type := 4, pos := _, after := #[{ on := 0, ground := Go.Ground.data }], guard := none }) rfl (fun K hK => ?_) AllReadyH.nil
                    rw [if_pos (by rfl)]
                    go_wp2_with fail
                    refine Calls.mono (HMZ.out _) ?_
                    rintro e V23 ⟨rfl, b6⟩
                    replace hHeld := hHeld.step b6
                    clear b6 HMZ
                    refine hK.out _ _ hHeld (fun _ => ?_)
                    clear hK K
                    try simp only [Act.put, List.setIfInBounds_toArray, List.set_cons_zero, List.set_cons_succ]
                    cases MZ with
                    | false =>
                      obtain ⟨hef, hyl⟩ := HNOO.out rfl
                      subst hef
                      refine wpAnyH_take (i := 2) (oi := { dst := some 155, op := Go.Op.move (Go.Operand.tmp 154), type := 4, pos := _, after := #[{ on := 1, ground := Go.Ground.data }, { on := 1, ground := Go.Ground.chain }], guard := none }) (v := .bool false) rfl (by kernel_rfl) (by kernel_rfl) (by kernel_rfl) (fun _ _ _ h => h) (Or.inl ⟨by rfl, fun w' hw' => ?_⟩) hHeld ?_
                      · first | (go_simp; done) | (go_simp; rfl)
                      try simp only [Act.put, List.setIfInBounds_toArray, List.set_cons_zero, List.set_cons_succ]
                      refine wpAnyH_take (i := 3) (oi := { dst := some 156, op := Go.Op.load 40 (Go.Operand.tmp 16), type := 40, pos := _, after := #[{ on := 2, ground := Go.Ground.guard }], guard := some (2, true) }) (v := undef) rfl (by kernel_rfl) (by kernel_rfl) (by kernel_rfl) (fun _ _ _ h => h) (Or.inr ⟨by rfl, rfl⟩) hHeld ?_
                      try simp only [Act.put, List.setIfInBounds_toArray, List.set_cons_zero, List.set_cons_succ]
                      refine wpAnyH_take (i := 4) (oi := { dst := some 157, op := Go.Op.call { callee := Go.Callee.value (Go.Operand.func 17), args := #[Go.Operand.tmp 156], argTypes := #[40] }, type := 45, pos := _, after := #[{ on := 3, ground := Go.Ground.data }, { on := 2, ground := Go.Ground.chain }, { on := 2, ground := Go.Ground.guard }], guard := some (2, true) }) (v := undef) rfl (by kernel_rfl) (by kernel_rfl) (by kernel_rfl) (fun _ _ _ h => h) (Or.inr ⟨by rfl, rfl⟩) hHeld ?_
                      try simp only [Act.put, List.setIfInBounds_toArray, List.set_cons_zero, List.set_cons_succ]
                      refine wpAnyH_take (i := 5) (oi := { dst := some 158, op := Go.Op.load 45 (Go.Operand.tmp 5), type := 45, pos := _, after := #[{ on := 2, ground := Go.Ground.guard }], guard := some (2, true) }) (v := undef) rfl (by kernel_rfl) (by kernel_rfl) (by kernel_rfl) (fun _ _ _ h => h) (Or.inr ⟨by rfl, rfl⟩) hHeld ?_
                      try simp only [Act.put, List.setIfInBounds_toArray, List.set_cons_zero, List.set_cons_succ]
                      refine wpAnyH_take (i := 6) (oi := { dst := some 159, op := Go.Op.binOp Go.BinOp.eql 45 (Go.Operand.tmp 157) (Go.Operand.tmp 158) 45, type := 4, pos := _, after := #[{ on := 4, ground := Go.Ground.data }, { on := 5, ground := Go.Ground.data }, { on := 2, ground := Go.Ground.guard }], guard := some (2, true) }) (v := undef) rfl (by kernel_rfl) (by kernel_rfl) (by kernel_rfl) (fun _ _ _ h => h) (Or.inr ⟨by rfl, rfl⟩) hHeld ?_
                      try simp only [Act.put, List.setIfInBounds_toArray, List.set_cons_zero, List.set_cons_succ]
                      refine wpAnyH_take (i := 7) (oi := { dst := some 160, op := Go.Op.pick (Go.Operand.tmp 155) (Go.Operand.tmp 159) (Go.Operand.const (Go.Value.bool false)), type := 4, pos := _, after := #[{ on := 2, ground := Go.Ground.data }, { on := 6, ground := Go.Ground.data }], guard := none }) (v := .bool false) rfl (by kernel_rfl) (by kernel_rfl) (by kernel_rfl) (fun _ _ _ h => h) (Or.inl ⟨by rfl, fun w' hw' => ?_⟩) hHeld ?_
                      · first | (go_simp; done) | (go_simp; rfl)
                      try simp only [Act.put, List.setIfInBounds_toArray, List.set_cons_zero, List.set_cons_succ]
                      refine wpAnyH_done (by kernel_rfl) ?_ _
                      have HR5 : Hid _ := hHeld
                      rw [hyl] at HR5
                      have heq := HEZO.out
                      clear hHeld hyl HYES HNOO HEQ HEZZ HEZO HLZ
                      go_wp2_with (first
                        | (refine load_mid_g (by rfl) 40 (.tmp 18) rfl n18 0 rfl ZO _ (rangeAt_row (HR5.out.at 0 rfl)) Try.underlying40 rfl (info8o ZO HZON.out) ?_)
                        | (refine build_g (by rfl) 40 #[] rfl #[] (.agg ZO.toArray) (by simp) (HBO.out _) ?_))
                      clear heq
                      refine Calls.mono (HKN.out _) ?_
                      rintro e V25 ⟨rfl, b9⟩
                      have HBE : Hid _ := (HR5.out.step b9).bel
                      clear b9 HR5
                      go_wp2
                      go_ret
                      exact ⟨rfl, HBE.out⟩
                    | true =>
                      have HLZ1 : Hid _ := HLZ.out rfl
                      refine wpAnyH_take (i := 2) (oi := { dst := some 155, op := Go.Op.move (Go.Operand.tmp 154), type := 4, pos := _, after := #[{ on := 1, ground := Go.Ground.data }, { on := 1, ground := Go.Ground.chain }], guard := none }) (v := .bool true) rfl (by kernel_rfl) (by kernel_rfl) (by kernel_rfl) (fun _ _ _ h => h) (Or.inl ⟨by rfl, fun w' hw' => ?_⟩) hHeld ?_
                      · first | (go_simp; done) | (go_simp; rfl)
                      try simp only [Act.put, List.setIfInBounds_toArray, List.set_cons_zero, List.set_cons_succ]
                      refine wpAnyH_take (i := 3) (oi := { dst := some 156, op := Go.Op.load 40 (Go.Operand.tmp 16), type := 40, pos := _, after := #[{ on := 2, ground := Go.Ground.guard }], guard := some (2, true) }) rfl (by kernel_rfl) (by kernel_rfl) (by kernel_rfl) (fun _ _ _ h => h) (yieldsIf_load_mid (by rfl) 40 (.tmp 16) rfl (n16) (0) rfl (ZZL) _ (fun _ h => rangeAt_row (h.at 1 rfl)) Try.underlying40 rfl (info8o ZZL HZZN.out)) hHeld ?_
                      try simp only [Act.put, List.setIfInBounds_toArray, List.set_cons_zero, List.set_cons_succ]
                      refine wpAnyH_take (i := 5) (oi := { dst := some 158, op := Go.Op.load 45 (Go.Operand.tmp 5), type := 45, pos := _, after := #[{ on := 2, ground := Go.Ground.guard }], guard := some (2, true) }) rfl (by kernel_rfl) (by kernel_rfl) (by kernel_rfl) (fun _ _ _ h => h) (yieldsIf_load_mid (by rfl) 45 (.tmp 5) rfl (w.heap.size + 1 + 1) (0) rfl (GL) _ (fun _ h => rangeAt_row (h.at 4 rfl)) Try.underlying45 rfl (info128 GL HGL.out)) hHeld ?_
                      try simp only [Act.put, List.setIfInBounds_toArray, List.set_cons_zero, List.set_cons_succ]
                      refine wpAnyH_ready (rs := [4]) (by kernel_rfl) (by simp) ?_
                      refine AllReadyH.cons (o := { dst := some 157, op := Go.Op.call { callee := Go.Callee.value (Go.Operand.func 17), args := #[Go.Operand.tmp 156], argTypes := #[40] }, type := 45, pos := _, after := #[{ on := 3, ground := Go.Ground.data }, { on := 2, ground := Go.Ground.chain }, { on := 2, ground := Go.Ground.guard }], guard := some (2, true) }) rfl (fun K hK => ?_) AllReadyH.nil
                      rw [if_pos (by rfl)]
                      go_wp2_with fail
                      refine Calls.mono (HLZ1.out _) ?_
                      rintro e V24 ⟨rfl, b6⟩
                      replace hHeld := hHeld.step b6
                      clear b6 HLZ1
                      refine hK.out _ _ hHeld (fun _ => ?_)
                      clear hK K
                      try simp only [Act.put, List.setIfInBounds_toArray, List.set_cons_zero, List.set_cons_succ]
                      cases BZ with
                      | false =>
                        obtain ⟨hef, hyl⟩ := HNOO.out rfl
                        subst hef
                        refine wpAnyH_take (i := 6) (oi := { dst := some 159, op := Go.Op.binOp Go.BinOp.eql 45 (Go.Operand.tmp 157) (Go.Operand.tmp 158) 45, type := 4, pos := _, after := #[{ on := 4, ground := Go.Ground.data }, { on := 5, ground := Go.Ground.data }, { on := 2, ground := Go.Ground.guard }], guard := some (2, true) }) (v := .bool false) rfl (by kernel_rfl) (by kernel_rfl) (by kernel_rfl) (fun _ _ _ h => h) (Or.inl ⟨by rfl, fun w' hw' => ?_⟩) hHeld ?_
                        · exact run_eql rfl rfl rfl gG (HEQ.out w')
                        try simp only [Act.put, List.setIfInBounds_toArray, List.set_cons_zero, List.set_cons_succ]
                        refine wpAnyH_take (i := 7) (oi := { dst := some 160, op := Go.Op.pick (Go.Operand.tmp 155) (Go.Operand.tmp 159) (Go.Operand.const (Go.Value.bool false)), type := 4, pos := _, after := #[{ on := 2, ground := Go.Ground.data }, { on := 6, ground := Go.Ground.data }], guard := none }) (v := .bool false) rfl (by kernel_rfl) (by kernel_rfl) (by kernel_rfl) (fun _ _ _ h => h) (Or.inl ⟨by rfl, fun w' hw' => ?_⟩) hHeld ?_
                        · first | (go_simp; done) | (go_simp; rfl)
                        try simp only [Act.put, List.setIfInBounds_toArray, List.set_cons_zero, List.set_cons_succ]
                        refine wpAnyH_done (by kernel_rfl) ?_ _
                        generalize V24 = V23 at *
                        have HR5 : Hid _ := hHeld
                        rw [hyl] at HR5
                        have heq := HEZO.out
                        clear hHeld hyl HYES HNOO HEQ HEZZ HEZO HLZ
                        go_wp2_with (first
                          | (refine load_mid_g (by rfl) 40 (.tmp 18) rfl n18 0 rfl ZO _ (rangeAt_row (HR5.out.at 0 rfl)) Try.underlying40 rfl (info8o ZO HZON.out) ?_)
                          | (refine build_g (by rfl) 40 #[] rfl #[] (.agg ZO.toArray) (by simp) (HBO.out _) ?_))
                        clear heq
                        refine Calls.mono (HKN.out _) ?_
                        rintro e V25 ⟨rfl, b9⟩
                        have HBE : Hid _ := (HR5.out.step b9).bel
                        clear b9 HR5
                        go_wp2
                        go_ret
                        exact ⟨rfl, HBE.out⟩
                      | true =>
                        obtain ⟨hef, hyl⟩ := HYES.out (by simp) (by simp)
                        subst hef
                        refine wpAnyH_take (i := 6) (oi := { dst := some 159, op := Go.Op.binOp Go.BinOp.eql 45 (Go.Operand.tmp 157) (Go.Operand.tmp 158) 45, type := 4, pos := _, after := #[{ on := 4, ground := Go.Ground.data }, { on := 5, ground := Go.Ground.data }, { on := 2, ground := Go.Ground.guard }], guard := some (2, true) }) (v := .bool true) rfl (by kernel_rfl) (by kernel_rfl) (by kernel_rfl) (fun _ _ _ h => h) (Or.inl ⟨by rfl, fun w' hw' => ?_⟩) hHeld ?_
                        · exact run_eql rfl rfl rfl gG (HEQ.out w')
                        try simp only [Act.put, List.setIfInBounds_toArray, List.set_cons_zero, List.set_cons_succ]
                        refine wpAnyH_take (i := 7) (oi := { dst := some 160, op := Go.Op.pick (Go.Operand.tmp 155) (Go.Operand.tmp 159) (Go.Operand.const (Go.Value.bool false)), type := 4, pos := _, after := #[{ on := 2, ground := Go.Ground.data }, { on := 6, ground := Go.Ground.data }], guard := none }) (v := .bool true) rfl (by kernel_rfl) (by kernel_rfl) (by kernel_rfl) (fun _ _ _ h => h) (Or.inl ⟨by rfl, fun w' hw' => ?_⟩) hHeld ?_
                        · first | (go_simp; done) | (go_simp; rfl)
                        try simp only [Act.put, List.setIfInBounds_toArray, List.set_cons_zero, List.set_cons_succ]
                        refine wpAnyH_done (by kernel_rfl) ?_ _
                        have HR5 : Hid _ := hHeld
                        rw [hyl] at HR5
                        have heq := HEZZ.out
                        clear hHeld hyl HYES HNOO HEQ HEZZ HEZO
                        go_wp2_with (first
                          | (refine load_mid_g (by rfl) 40 (.tmp 18) rfl n18 0 rfl ZZL _ (rangeAt_row (HR5.out.at 0 rfl)) Try.underlying40 rfl (info8o ZZL HZZN.out) ?_)
                          | (refine load_mid_g (by rfl) 40 (.tmp 16) rfl n16 0 rfl ZZL _ (rangeAt_row (HR5.out.at 1 rfl)) Try.underlying40 rfl (info8o ZZL HZZN.out) ?_))
                        clear heq
                        refine Calls.mono (HKN.out _) ?_
                        rintro e V25 ⟨rfl, b9⟩
                        have HBE : Hid _ := (HR5.out.step b9).bel
                        clear b9 HR5
                        go_wp2
                        go_ret
                        exact ⟨rfl, HBE.out⟩
set_option maxRecDepth 100000 in
theorem lifted (os : Os) (started : os.Started) (H : Type) (enc : TypeId × Value → H) :
    ReturnsInHanded {} Try.checked os 5 .any (Rows.recFormsSpec.pre6 enc Try.prog Try.f5 Rows.recFormsRow.domain false) (Rows.recFormsSpec.post enc Try.prog Try.f5 false true false false) := by
  refine returnsInHanded_of_change (C := Try.checked) own started (by kernel_rfl) Try.func5
    (ChangeSpec.witness6 (enc := enc) (C := Try.checked) false ⟨#[], #[.agg (Array.replicate 4 (.int .u64 0)), .agg (#[.int .i64 0] ++ Array.replicate 5 (.int .u64 0) ++ #[.bool false, .int .i64 0]), .agg (Array.replicate 128 (.int .u8 0))], []⟩ 8 (by kernel_rfl) (by kernel_rfl) (by kernel_rfl) (by kernel_rfl)) ?_
  intro W base args ds gs before hval0 hW hcnd _
  have hval : ∀ (j : Nat) t v, Try.f5.params[j]? = some t → args[j]? = some v → Value.okWide Try.prog W .any base t v := hval0
  have hW' := hW
  obtain ⟨p, q, hA0, hV, rfl, hfz, hnd⟩ := hW
  have hA : DataW.TrodAll enc Try.prog W 0 (fun _ => true) true Try.f5.params.toList args.toList ds p := hA0
  rw [Try.params5] at hA hval
  obtain ⟨v0, vs0, d0, ds0, p0, q0, hargs, rfl, rfl, h0, r0⟩ := trodAll_cons hA
  obtain ⟨v1, vs1, d1, ds1, p1, q1, rfl, rfl, rfl, h1, r1⟩ := trodAll_cons r0
  obtain ⟨v2, vs2, d2, ds2, p2, q2, rfl, rfl, rfl, h2, r2⟩ := trodAll_cons r1
  obtain ⟨rfl, rfl, rfl⟩ := trodAll_nil r2
  obtain rfl : args = #[v0, v1, v2] := by cases args; simp_all
  obtain ⟨rfl, rfl⟩ := trodVars_none hV
  have k0 := h0
  have lt0 : ∀ x ∈ p0, x.block < W.heap.size := by obtain ⟨m, hm⟩ := k0; exact DataW.trod_lt m _ _ _ hm
  obtain ⟨xs0, rfl⟩ := VC.okWide_str Try.underlying31 (hval 0 31 v0 rfl rfl)
  obtain ⟨N0, rfl, hl0⟩ : ∃ ns : List Int, xs0 = (ns.map VC.U).toArray ∧ VC.nok ns := by obtain ⟨fuel, hf⟩ := h0; obtain ⟨s, e, h1⟩ := VC.open_in hf; exact ⟨s, by rw [← Array.toList_inj]; exact e, h1⟩
  have k1 := h1
  have lt1 : ∀ x ∈ p1, x.block < W.heap.size := by obtain ⟨m, hm⟩ := k1; exact DataW.trod_lt m _ _ _ hm
  obtain ⟨xs1, rfl⟩ := VC.okWide_str Try.underlying40 (hval 1 40 v1 rfl rfl)
  obtain ⟨O1, rfl, hl1⟩ : ∃ r : VC.Ot, xs1 = (VC.oL r).toArray ∧ VC.ook r := by obtain ⟨fuel, hf⟩ := h1; obtain ⟨s, e, h1⟩ := VC.open_out hf; exact ⟨s, by rw [← Array.toList_inj]; exact e, h1⟩
  have k2 := h2
  have lt2 : ∀ x ∈ p2, x.block < W.heap.size := by obtain ⟨m, hm⟩ := k2; exact DataW.trod_lt m _ _ _ hm
  obtain ⟨l2, rfl, hl2⟩ := VC.open_octets Try.underlying45 (by kernel_rfl) (hval 2 45 v2 rfl rfl) h2
  clear hA0 hval0
  refine (walk N0 O1 l2 W hl0 hl1 hl2).mono fun e W' ⟨he, bel⟩ => ?_
  subst he
  exact ⟨_, rfl, _, _, _, [], _, [], hW', trodAll_mk1 (shut_bool Try.underlying4 _), (trodAll_cons_mk (Below.trod laidOut (by kernel_rfl) (of_decide_eq_true (by kernel_rfl)) k0 bel lt0) (trodAll_cons_mk (Below.trod laidOut (by kernel_rfl) (of_decide_eq_true (by kernel_rfl)) k1 bel lt1) (trodAll_cons_mk (Below.trod laidOut (by kernel_rfl) (of_decide_eq_true (by kernel_rfl)) k2 bel lt2) trodAll_mk0))), rfl, bel.frame _, fun h => by cases h⟩

theorem over : Rows.recFormsRow.holds Try.pinned (OpenSpec.ofChange Rows.recFormsSpec) :=
  OpenClaim.holds_of_wide 5 Try.f5 rfl rfl rfl rfl rfl rfl rfl ⟨rfl, rfl, rfl, rfl, rfl⟩ rfl rfl rfl rfl rfl (by kernel_rfl) Try.func5 (by kernel_rfl)
    (of_decide_eq_true (by kernel_rfl)) (by unfold Func.isWrapper; first | (rw [if_pos (by decide +kernel)]; kernel_rfl) | (rw [if_neg (by decide +kernel)]; exact ⟨rfl, rfl⟩))
    (fun os started H enc _ => lifted os started H enc)

end Go.Proofs.Ytpdafjamhccbnaa.recForms
namespace Go.Proofs.Ytpdafjamhccbnaa
theorem recForms_holds : Rows.RecFormsSaid := recForms.over
#print axioms recForms_holds
end Go.Proofs.Ytpdafjamhccbnaa
