/- params: Rec. -/
import Derived.Test.YtabnmhmlcoakkaaPG
set_option linter.unusedVariables false
set_option linter.unusedSimpArgs false
namespace Go.Proofs.Ytabnmhmlcoakkaa.PC
open Go.RowKit

/-- What a granule is read as. -/
def gP (G : List UInt8) : Nat := W1.num ((G.drop 8).take 8)
def gS (G : List UInt8) : List Nat := (List.range 8).map fun i => W1.num ((G.drop (16 + 8 * i)).take 8)
def gB (G : List UInt8) : Bool := G.getD 80 0 == 1
def isC (G : List UInt8) : Bool := mayC (gP G) && (cbL (gP G) (gS G) (gB G) == G)
def cRes (G : List UInt8) : List Value := if isC G = true then rcL (gP G) (gS G) (gB G) else rcL 0 Z8 false
def cErr (G : List UInt8) : Int := if isC G = true then 0 else 4
theorem gS_len (G : List UInt8) : (gS G).length = 8 := by unfold gS; simp
theorem gS_get (G : List UInt8) (k : Nat) (h : k < 8) : (gS G).getD k 0 = W1.num ((G.drop (16 + 8 * k)).take 8) := by
  unfold gS; simp [List.getD, h]
theorem gP_lt (G : List UInt8) : gP G < 18446744073709551616 := num8_lt _ (by rw [List.length_take]; omega)
theorem gS_lt (G : List UInt8) : ∀ x ∈ gS G, x < 18446744073709551616 := by
  intro x hx
  unfold gS at hx
  obtain ⟨i, _, rfl⟩ := List.mem_map.1 hx
  exact num8_lt _ (by rw [List.length_take]; omega)
theorem cRes_len (G : List UInt8) : (cRes G).length = 10 := by
  unfold cRes
  split
  · exact rcL_len _ _ _ (gS_len G)
  · exact rcL_len _ _ _ z8_len
theorem cRes_one (G : List UInt8) : ∀ u ∈ cRes G, u.oneCell' = true := by
  unfold cRes
  split <;> exact rcL_one _ _ _
/-- What RecBytes answers. -/
def cbA (pc : Nat) (rs : List Nat) (r : Bool) : List UInt8 := if mayC pc = true then cbL pc rs r else Z128
def cbE (pc : Nat) : Int := if mayC pc = true then 0 else 2
theorem cbA_len (pc : Nat) (rs : List Nat) (r : Bool) (h : rs.length = 8) : (cbA pc rs r).length = 128 := by
  unfold cbA
  split
  · exact cbL_len pc rs r h
  · exact z128_len
theorem cb_any (pc : Nat) (rs : List Nat) (r : Bool) (w : World) (hr : rs.length = 8) (hp : pc < 18446744073709551616) (hrs : ∀ x ∈ rs, x < 18446744073709551616) :
    Calls Try.prog 14 #[.agg (rcL pc rs r).toArray] w fun e w' => e = .returned (.tuple #[.agg ((cbA pc rs r).map B8).toArray, .int .i64 (cbE pc)]) ∧ Below w.heap.size w w' := by
  unfold cbA cbE
  cases hm : mayC pc
  · exact cb_bad pc rs r w hr hm
  · exact cb_ok pc rs r w hr hp hrs hm
/-- The first k numbers of a list of eight, and noughts. -/
def rk (rs : List Nat) (k : Nat) : List Nat := rs.take k ++ List.replicate (8 - k) 0
theorem rk_len (rs : List Nat) (k : Nat) (h : rs.length = 8) (hk : k ≤ 8) : (rk rs k).length = 8 := by unfold rk; simp; omega
theorem rk_zero (rs : List Nat) : rk rs 0 = Z8 := rfl
theorem rk_all (rs : List Nat) (h : rs.length = 8) : rk rs 8 = rs := by unfold rk; simp [← h]
theorem rk_set (rs : List Nat) (k : Nat) (h : rs.length = 8) (hk : k < 8) : (rk rs k).set k (rs.getD k 0) = rk rs (k + 1) := by
  unfold rk
  have h8 : k < rs.length := by omega
  have hg : rs.getD k 0 = rs[k] := by simp [List.getD, List.getElem?_eq_getElem h8]
  rw [hg, List.set_append_right _ _ (by simp; omega), List.take_succ_eq_append_getElem h8, List.length_take, Nat.min_eq_left (by omega), Nat.sub_self, show 8 - k = (8 - (k + 1)) + 1 by omega, List.replicate_succ, List.set_cons_zero, List.append_assoc, List.singleton_append]
theorem rc_set0 (pc x : Nat) (rs : List Nat) (r : Bool) : (rcL pc rs r).set 0 (.int .u64 (x : Int)) = rcL x rs r := rfl
theorem rc_setr (pc : Nat) (rs : List Nat) (r : Bool) (k x : Nat) (h : k < rs.length) : (rcL pc rs r).set (1 + k) (.int .u64 (x : Int)) = rcL pc (rs.set k x) r := by
  unfold rcL
  rw [Nat.add_comm, List.set_cons_succ, List.set_append_left _ _ (by simpa using h), List.map_set]
  rfl
theorem rc_set9 (pc : Nat) (rs : List Nat) (r b : Bool) (h : rs.length = 8) : (rcL pc rs r).set 9 (.bool b) = rcL pc rs b := by
  unfold rcL
  rw [List.set_cons_succ, List.set_append_right _ _ (by simp [h])]
  simp [h]
set_option maxHeartbeats 4000000 in
set_option maxRecDepth 100000 in
theorem rec_any (G : List UInt8) (w : World) (hG : G.length = 128) :
    Calls Try.prog 20 #[.agg (G.map B8).toArray] w fun e w' => e = .returned (.tuple #[.agg (cRes G).toArray, .int .i64 (cErr G)]) ∧ Below w.heap.size w w' := by
  have hzr := fun W => zero_rc W
  obtain ⟨RZ, hRZ⟩ : ∃ L, L = rcL 0 Z8 false := ⟨_, rfl⟩
  rw [← hRZ] at hzr
  have HBR : Hid (∀ W, (Instr.build 38 #[]).run Try.prog W = .ok (.agg RZ.toArray) W) := fun W => by rw [hRZ]; exact build_rc W
  have hrzl : RZ.length = 10 := by rw [hRZ]; exact rcL_len _ _ _ z8_len
  have HRI : Hid ((Try.prog.info? 38).map (·.size) = some RZ.length) := info10 RZ hrzl
  have HRA : Hid ((Try.prog.info? 38).map (·.size) = some RZ.toArray.size) := info10a _ (by simpa using hrzl)
  have HR1 : Hid (RZ.toArray.all (·.oneCell') = true) := by show _ = _; rw [hRZ]; exact onea (rcL_one _ _ _)
  have HRL : Hid _ := hrzl
  have HRZ : Hid _ := hRZ
  clear hRZ hrzl
  have hzg := fun W => zero_gr W
  obtain ⟨ZL, hZL⟩ : ∃ L, L = Z128.map B8 := ⟨_, rfl⟩
  rw [← hZL] at hzg
  have hzl : ZL.length = 128 := by rw [hZL, List.length_map, z128_len]
  have HGL : Hid _ := hzl
  clear hZL hzl
  have hRB := fun W => cb_any (gP G) (gS G) (gB G) W (gS_len G) (gP_lt G) (gS_lt G)
  have hal := cbA_len (gP G) (gS G) (gB G) (gS_len G)
  have HC : Hid ((cbE (gP G) = 2 ∧ cRes G = RZ ∧ cErr G = 4) ∨ (cbE (gP G) = 0 ∧ (∀ W, (Op.equalIn 10000 28 (.agg ((cbA (gP G) (gS G) (gB G)).map B8).toArray) (.agg (G.map B8).toArray)).run Try.prog W = .ok false W) ∧ cRes G = RZ ∧ cErr G = 4) ∨ (cbE (gP G) = 0 ∧ (∀ W, (Op.equalIn 10000 28 (.agg ((cbA (gP G) (gS G) (gB G)).map B8).toArray) (.agg (G.map B8).toArray)).run Try.prog W = .ok true W) ∧ cRes G = rcL (gP G) (gS G) (gB G) ∧ cErr G = 0)) := by
    have hq := fun W b hb => eq_gr W (cbA (gP G) (gS G) (gB G)) G hal hG b hb
    show _ ∨ _
    unfold cRes cErr isC
    rw [HRZ.out]
    cases hm : mayC (gP G)
    · exact .inl ⟨by unfold cbE; rw [hm]; rfl, by simp, by simp⟩
    · have e0 : cbA (gP G) (gS G) (gB G) = cbL (gP G) (gS G) (gB G) := by unfold cbA; rw [if_pos hm]
      rw [e0] at hq ⊢
      cases he : (cbL (gP G) (gS G) (gB G) == G)
      · exact .inr (.inl ⟨by unfold cbE; rw [hm]; rfl, fun W => hq W false he, by simp, by simp⟩)
      · exact .inr (.inr ⟨by unfold cbE; rw [hm]; rfl, fun W => hq W true he, by simp, by simp⟩)
  have HTL : Hid (((cbA (gP G) (gS G) (gB G)).map B8).length = 128) := by show _ = _; rw [List.length_map]; exact hal
  have HT1 : Hid _ := B8_onea (cbA (gP G) (gS G) (gB G))
  have hrl := cRes_len G
  have HO1 : Hid ((cRes G).toArray.all (·.oneCell') = true) := onea (cRes_one G)
  generalize cRes G = RL at *
  generalize cErr G = re at *
  generalize cbE (gP G) = ee at *
  generalize (cbA (gP G) (gS G) (gB G)).map B8 = TL at *
  have HTI : Hid _ := info128 TL HTL.out
  have HTA : Hid _ := info128a TL.toArray (by simpa using HTL.out)
  have HTS : Hid (ZL.toArray.size = TL.toArray.size) := by show _ = _; simp [HGL.out, HTL.out]
  have HLI : Hid _ := info10 RL hrl
  have HLA : Hid _ := info10a RL.toArray (by simpa using hrl)
  have HLS : Hid (RZ.toArray.size = RL.toArray.size) := by show _ = _; simp [HRL.out, hrl]
  have HGI : Hid ((Try.prog.info? 28).map (·.size) = some (G.map B8).length) := info128 _ (by simpa using hG)
  have HW : Hid _ := TK.start w 38 G RZ _ rfl
  have hxb : (((G.getD 80 0).toNat : Int) == 1) = gB G := by
    unfold gB
    by_cases hx : G.getD 80 0 = 1
    · rw [hx]; rfl
    · have : ¬ ((G.getD 80 0).toNat : Int) = 1 := fun h => hx (UInt8.toNat_inj.1 (by show _ = 1; omega))
      rw [beq_eq_false_iff_ne.2 this, beq_eq_false_iff_ne.2 hx]
  obtain ⟨GA, hGA⟩ : ∃ L, L = G.map B8 := ⟨_, rfl⟩
  rw [← hGA] at HW HGI HC ⊢
  have HGA : Hid _ := hGA
  have HG : Hid _ := hG
  have HXB : Hid _ := hxb
  clear hGA hG hrl hal hxb
  go_enter Try.func20, Try.ntmps20
  go_wp2_with fail
  refine Calls.mono (taker_any w.heap.size _) ?_
  rintro e w1 ⟨rfl, hw1⟩
  rw [← hw1] at HW
  clear hw1
  go_wp2_with fail
  refine Calls.mono (take_at HW.out 8 8 128 rfl rfl (by decide) (by decide)) ?_
  rintro e w2 ⟨rfl, hw2⟩
  have HW2 : Hid _ := hw2
  clear hw2 HW
  go_wp2_with fail
  refine Calls.mono (take_at HW2.out 8 16 120 rfl rfl (by decide) (by decide)) ?_
  rintro e w3 ⟨rfl, hw3⟩
  have hN : Calls Try.prog 30 #[.slice (some ⟨w.heap.size, 8, none⟩) 8 120, .int .i64 0] w3 fun e w' => e = .returned (.int .u64 (gP G : Int)) ∧ w3 = w' :=
    word8 w.heap.size 8 120 ((G.drop 8).take 8) w3 (by rw [List.length_take, List.length_drop, HG.out]; decide) (by decide) (hw3.hb HG.out 8 8 (by decide))
  have hq0 := cell_of_row _ _ 0 _ _ _ hw3.q
  rw [List.getElem?_toArray, HRZ.out, rcL_pc] at hq0
  have hq1 := frozen_of_row _ _ 0 _ _ hw3.q
  have HW4 : Hid _ := hw3.set 0 (.int .u64 (gP G : Int)) (rcL (gP G) Z8 false) (by rw [HRZ.out]; exact rc_set0 _ _ _ _)
  clear hw3 HW2
  go_wp2_with fail
  refine Calls.mono hN ?_
  rintro e w4 ⟨rfl, rfl⟩
  clear hN
  go_wp2
  clear hq0 hq1
  go_loopw [16] (fun i wr => ∃ k : Nat, k ≤ 8 ∧ i = .int .i64 k ∧ Hid (TK w w.heap.size (w.heap.size + 1) (w.heap.size + 1 + 1) (w.heap.size + 1 + 1 + 1) (w.heap.size + 1 + 1 + 1 + 1) 38 G RZ (rcL (gP G) (rk (gS G) k) false) (16 + 8 * k) wr)) (fun i _ => 8 - (intOf i).toNat)
  case atStart => exact ⟨0, by omega, rfl, by rw [rk_zero]; exact HW4.out⟩
  case round =>
    obtain ⟨k, hk, rfl, HK⟩ := hrel
    clear HW4
    generalize wr = W at *
    by_cases hlt : k < 8
    · obtain ⟨A, hA⟩ : ∃ A, A = 16 + 8 * k := ⟨_, rfl⟩
      obtain ⟨c, hc⟩ : ∃ c, c = 128 - A := ⟨_, rfl⟩
      have HTA2 : Hid _ := take_at HK.out 8 (16 + 8 * (k + 1)) c (by omega) (by omega) (by omega) (by decide)
      rw [← hA] at HTA2
      have HST : Hid _ := rk_set (gS G) k (gS_len G) hlt
      have HSG : Hid _ := gS_get G k hlt
      have HRK : Hid _ := rk_len (gS G) k (gS_len G) hk
      have HA : Hid _ := hA
      have HCC : Hid _ := hc
      have hA1 : A ≤ 72 := by omega
      clear HK hA hc
      go_wp2_with fail
      refine Calls.mono HTA2.out ?_
      rintro e w6 ⟨rfl, hw6⟩
      have hN : Calls Try.prog 30 #[.slice (some ⟨w.heap.size, A, none⟩) 8 c, .int .i64 0] w6 fun e w' => e = .returned (.int .u64 (((gS G).getD k 0 : Nat) : Int)) ∧ w6 = w' := by
        rw [HSG.out, ← HA.out]
        have hh := hw6.hb HG.out A 8 (by omega)
        rw [← HCC.out] at hh
        exact word8 w.heap.size A c ((G.drop A).take 8) w6 (by rw [List.length_take, List.length_drop, HG.out]; omega) (by have := HCC.out; omega) hh
      have hq0 := cell_of_row _ _ (1 + k) _ _ _ hw6.q
      rw [List.getElem?_toArray, rcL_r _ _ _ k (by rw [HRK.out]; exact hlt)] at hq0
      have hq1 := frozen_of_row _ _ (1 + k) _ _ hw6.q
      have HW7 : Hid _ := hw6.set (1 + k) (.int .u64 (((gS G).getD k 0 : Nat) : Int)) (rcL (gP G) (rk (gS G) (k + 1)) false) (by rw [rc_setr _ _ _ _ _ (by rw [HRK.out]; exact hlt), HST.out])
      clear hw6 HTA2
      generalize (gS G).getD k 0 = x at *
      generalize (rk (gS G) k).getD k 0 = y at *
      go_wp2_with fail
      refine Calls.mono hN ?_
      rintro e w7 ⟨rfl, rfl⟩
      clear hN
      go_wp2
      go_roundw
      case rel => exact ⟨k + 1, by omega, by go_num, HW7.out⟩
      case measure => simp [intOf]; omega
    · have hk8 : k = 8 := by omega
      have HW5 : Hid (TK w w.heap.size (w.heap.size + 1) (w.heap.size + 1 + 1) (w.heap.size + 1 + 1 + 1) (w.heap.size + 1 + 1 + 1 + 1) 38 G RZ (rcL (gP G) (gS G) false) 80 W) := by
        rw [hk8, rk_all _ (gS_len G)] at HK
        exact HK.out
      clear HK hk8
      go_wp2_with fail
      refine Calls.mono (take_at HW5.out 1 81 48 rfl rfl (by decide) (by decide)) ?_
      rintro e w6 ⟨rfl, hw6⟩
      have hcx : w6.cell? ⟨w.heap.size, 80, none⟩ = some (.int .u8 ((G.getD 80 0).toNat : Int)) := by
        rw [cell_of_row _ _ 80 _ _ _ hw6.gr]
        have h8 : 80 < G.length := by rw [HG.out]; decide
        simp [B8, List.getD, List.getElem?_eq_getElem h8]
      have hxb := HXB.out
      have hq0 := cell_of_row _ _ 9 _ _ _ hw6.q
      rw [List.getElem?_toArray, rcL_b _ _ _ (gS_len G)] at hq0
      have hq1 := frozen_of_row _ _ 9 _ _ hw6.q
      have HW7 : Hid _ := hw6.set 9 (.bool (gB G)) (rcL (gP G) (gS G) (gB G)) (rc_set9 _ _ _ _ (gS_len G))
      have HPL : Hid ((rcL (gP G) (gS G) (gB G)).length = 10) := rcL_len _ _ _ (gS_len G)
      clear hw6 HW5 HXB
      generalize rcL (gP G) (gS G) (gB G) = QL at *
      have HQR : Hid _ := rangeAt_row HW7.out.q
      have HQI : Hid _ := info10 QL HPL.out
      generalize (G.getD 80 0).toNat = x80 at *
      generalize gB G = bb at *
      go_wp2_with (refine wpList_load_mid rfl 38 _ rfl (w.heap.size + 1 + 1) 0 rfl QL _ HQR.out Try.underlying38 rfl HQI.out ?_)
      refine Calls.mono (hRB _) ?_
      rintro e w7 ⟨rfl, hb7⟩
      have HW8 : Hid _ := HW7.out.below hb7
      clear hb7 HW7 HQR hRB hq0 hq1 hcx hxb
      have HN7 : Hid ((w7.alloc (.cells ZL.toArray 28 (0, 0))).heap[w7.heap.size]? = some (.cells ZL.toArray 28 (0, 0))) := heap_alloc_new _ _
      have hb8 : Below w7.heap.size w7 ((w7.alloc (.cells ZL.toArray 28 (0, 0))).setRow w7.heap.size TL.toArray) := below_setRow ((Below.refl _ _).alloc (Nat.le_refl _) _) (Nat.le_refl _) _
      have HW9 : Hid _ := HW8.out.below hb8
      have HT8 : Hid (((w7.alloc (.cells ZL.toArray 28 (0, 0))).setRow w7.heap.size TL.toArray).rangeAt w7.heap.size 0 TL) := rangeAt_row (setRow_heap _ _ _ _ _ _ HN7.out)
      have HG8 : Hid (((w7.alloc (.cells ZL.toArray 28 (0, 0))).setRow w7.heap.size TL.toArray).rangeAt w.heap.size 0 GA) := by rw [HGA.out]; exact rangeAt_row HW9.out.gr
      have HQ8 : Hid (((w7.alloc (.cells ZL.toArray 28 (0, 0))).setRow w7.heap.size TL.toArray).rangeAt (w.heap.size + 1 + 1) 0 QL) := rangeAt_row HW9.out.q
      have HR8 : Hid _ := HW9.out.res
      have HB8 : Hid _ := HW9.out.bel
      clear hb8 HW8 HW9 HGA
      rcases HC.out with ⟨he, hRL, hre⟩ | ⟨he, heq, hRL, hre⟩ | ⟨he, heq, hRL, hre⟩
      · subst he hre
        rw [← hRL] at HR8 HBR HRL HRI HRA HR1
        clear HC hRL
        go_wp2_with (first
          | (refine wpList_store_row rfl 28 _ _ rfl w7.heap.size TL.toArray rfl rfl 28 ZL.toArray HN7.out HTA.out HTS.out HT1.out ?_)
          | (refine wpList_build rfl 38 #[] rfl #[] (.agg RL.toArray) (by simp) (HBR.out _) ?_)
          | (refine wpList_store_row rfl 38 _ _ rfl (w.heap.size + 1) RL.toArray rfl rfl 38 RL.toArray HR8.out HLA.out rfl HO1.out ?_))
        refine bodyPost_ret (v := .tuple #[.agg RL.toArray, .int .i64 4]) (results2 Try.results20 _ _ (w.heap.size + 1) 38 RL (0, 0) _ rfl rfl (setRow_heap _ _ _ _ _ _ HR8.out) Try.underlying38 rfl HLI.out) rfl ⟨rfl, below_setRow HB8.out (by omega) _⟩
      · subst he hre
        rw [← hRL] at HR8 HBR HRL HRI HRA HR1
        clear HC hRL
        go_wp2_with (first
          | (refine wpList_store_row rfl 28 _ _ rfl w7.heap.size TL.toArray rfl rfl 28 ZL.toArray HN7.out HTA.out HTS.out HT1.out ?_)
          | (refine load_mid_g (by rfl) 28 _ rfl w7.heap.size 0 rfl TL _ HT8.out Try.underlying28 rfl HTI.out ?_)
          | (refine load_mid_g (by rfl) 28 _ rfl w.heap.size 0 rfl GA _ HG8.out Try.underlying28 rfl HGI.out ?_)
          | (refine wpList_build rfl 38 #[] rfl #[] (.agg RL.toArray) (by simp) (HBR.out _) ?_)
          | (refine wpList_store_row rfl 38 _ _ rfl (w.heap.size + 1) RL.toArray rfl rfl 38 RL.toArray HR8.out HLA.out rfl HO1.out ?_))
        refine bodyPost_ret (v := .tuple #[.agg RL.toArray, .int .i64 4]) (results2 Try.results20 _ _ (w.heap.size + 1) 38 RL (0, 0) _ rfl rfl (setRow_heap _ _ _ _ _ _ HR8.out) Try.underlying38 rfl HLI.out) rfl ⟨rfl, below_setRow HB8.out (by omega) _⟩
      · subst he hre
        rw [← hRL] at HQ8 HQI
        clear HC hRL
        go_wp2_with (first
          | (refine wpList_store_row rfl 28 _ _ rfl w7.heap.size TL.toArray rfl rfl 28 ZL.toArray HN7.out HTA.out HTS.out HT1.out ?_)
          | (refine load_mid_g (by rfl) 28 _ rfl w7.heap.size 0 rfl TL _ HT8.out Try.underlying28 rfl HTI.out ?_)
          | (refine load_mid_g (by rfl) 28 _ rfl w.heap.size 0 rfl GA _ HG8.out Try.underlying28 rfl HGI.out ?_)
          | (refine wpList_load_mid rfl 38 _ rfl (w.heap.size + 1 + 1) 0 rfl RL _ HQ8.out Try.underlying38 rfl HQI.out ?_)
          | (refine wpList_store_row rfl 38 _ _ rfl (w.heap.size + 1) RL.toArray rfl rfl 38 RZ.toArray HR8.out HLA.out HLS.out HO1.out ?_))
        refine bodyPost_ret (v := .tuple #[.agg RL.toArray, .int .i64 0]) (results2 Try.results20 _ _ (w.heap.size + 1) 38 RL (0, 0) _ rfl rfl (setRow_heap _ _ _ _ _ _ HR8.out) Try.underlying38 rfl HLI.out) rfl ⟨rfl, below_setRow HB8.out (by omega) _⟩
end Go.Proofs.Ytabnmhmlcoakkaa.PC
