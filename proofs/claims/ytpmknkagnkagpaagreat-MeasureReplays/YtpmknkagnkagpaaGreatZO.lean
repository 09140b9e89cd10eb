/- measure: Replay, walked. -/
import Derived.Test.YtpmknkagnkagpaaGreatZN
set_option linter.unusedVariables false
set_option linter.unusedSimpArgs false
namespace Go.Proofs.YtpmknkagnkagpaaGreat.ZC
open Go.RowKit

set_option maxHeartbeats 1000000 in
set_option maxRecDepth 100000 in
theorem replay_bad (og mo : Nat) (v : Value) (l : List Rd) (w : World) (hc : w.cell? ⟨og, 35, none⟩ = some (.map (some mo))) (hv : HR w v l) (hl : l.length ≤ 1000000) (hmay : mayL l = false) :
    Calls Tryz.prog 14 #[.pointer (some ⟨og, 0, none⟩), v] w fun e w' => e = .returned (R5.errV 2) ∧ Below w.heap.size w w' := by
  have hz := fun W => R5.zero_dig W
  obtain ⟨ZL, hZL⟩ : ∃ L, L = Z0.map B8 := ⟨_, rfl⟩
  have hZL' : ZL = (List.replicate 32 (0 : UInt8)).map B8 := hZL
  rw [← hZL'] at hz
  have HZS : Hid (ZL.toArray.size = 32) := by show _ = _; rw [hZL']; simp
  have HZ1 : Hid (ZL.toArray.all (·.oneCell') = true) := by show _ = _; rw [hZL]; exact R5.B8_onea _
  have HBD : Hid (∀ W, (Instr.build 24 #[]).run Tryz.prog W = .ok (.agg ZL.toArray) W) := fun W => by rw [hZL']; exact R5.build_dig W
  obtain ⟨V1, hV1⟩ : ∃ W1, W1 = w.alloc (.cells ZL.toArray 24 (0, 0)) := ⟨_, rfl⟩
  have hb1 : Below w.heap.size w V1 := by rw [hV1]; exact (Below.refl _ _).alloc (Nat.le_refl _) _
  have hr1 : V1.heap[w.heap.size]? = some (.cells ZL.toArray 24 (0, 0)) := by rw [hV1]; exact heap_alloc_new _ _
  have HB1 : Hid (Below w.heap.size w V1) := hb1
  have HR1 : Hid (V1.heap[w.heap.size]? = some (.cells ZL.toArray 24 (0, 0))) := hr1
  have HNO : Hid (Calls Tryz.prog 24 #[.pointer (some ⟨og, 0, none⟩)] V1 fun e w' => e = .returned (.bool false) ∧ Below V1.heap.size V1 w') := noOr_no og mo V1 ((hb1.cell (block_lt hc)).trans hc)
  have HMA : Hid (∀ W, Below w.heap.size w W → Calls Tryz.prog 15 #[v] W fun e w' => e = .returned (.bool false) ∧ Below W.heap.size W w') := fun W hW => by have := mayall_any v l W (hv.below hW) hl; rw [hmay] at this; exact this
  have HEV : Hid (R5.errV 2 = .tuple #[.agg ZL.toArray, .int .i64 2]) := by show _ = _; rw [hZL']; rfl
  rw [HEV.out]
  rw [hV1] at HNO
  clear hZL hZL' hb1 hr1 hc hv hl hmay
  go_enter Tryz.func14, Tryz.ntmps14
  go_wp2_with fail
  refine Calls.mono HNO.out ?_
  rintro e w1 ⟨rfl, hb1⟩
  rw [← hV1] at hb1
  have HZ1' : Hid (w1.heap[w.heap.size]? = some (.cells ZL.toArray 24 (0, 0))) := (hb1.block _ (PC.row_lt HR1.out)).trans HR1.out
  have HB1' : Hid (Below w.heap.size w w1) := HB1.out.trans (hb1.mono HB1.out.size)
  clear hb1 HNO hV1
  go_wp2_with fail
  refine Calls.mono (HMA.out w1 HB1'.out) ?_
  rintro e w2 ⟨rfl, hb2⟩
  have HZ2 : Hid (w2.heap[w.heap.size]? = some (.cells ZL.toArray 24 (0, 0))) := (hb2.block _ (PC.row_lt HZ1'.out)).trans HZ1'.out
  have HB2 : Hid (Below w.heap.size w w2) := HB1'.out.trans (hb2.mono HB1'.out.size)
  clear hb2
  go_wp2_with (first
    | (refine PC.wpList_build rfl 24 _ rfl #[] (.agg ZL.toArray) (by simp) (HBD.out _) ?_)
    | (refine wpList_store_row rfl 24 _ _ rfl w.heap.size ZL.toArray rfl rfl 24 ZL.toArray HZ2.out (R5.info32a _ HZS.out) rfl HZ1.out ?_))
  refine bodyPost_ret (v := .tuple #[.agg ZL.toArray, .int .i64 2]) ?_ rfl ⟨rfl, below_setRow HB2.out (by omega) _⟩
  exact R5.results_dig2 Tryz.results14 _ _ w.heap.size 24 _ (0, 0) _ rfl rfl (setRow_heap _ _ _ _ _ _ HZ2.out) (R5.info32a _ HZS.out)
def stk (o : R5.Pra) (l : List Rd) (k : Nat) : List UInt8 × R5.Pra := rpl o (l.take k)
theorem stk_succ {o : R5.Pra} {l : List Rd} {k : Nat} {r : Rd} (h : l[k]? = some r) : stk o l (k + 1) = nxP (stk o l k).2 (qOf (stk o l k).1 r) := by unfold stk; rw [take_snoc h, rpl_snoc]
theorem stk_all (o : R5.Pra) (l : List Rd) : stk o l l.length = rpl o l := by unfold stk; rw [List.take_length]
theorem stk_log (o : R5.Pra) (l : List Rd) (k : Nat) (hk : k ≤ l.length) : (stk o l k).2.log.length ≤ o.log.length + k := by
  have := rpl_log o (l.take k)
  rw [List.length_take, Nat.min_eq_left hk] at this
  exact this
set_option maxHeartbeats 4000000 in
set_option maxRecDepth 100000 in
theorem replay_ok {B og mb : Nat} {S : Nat → Prop} {dv ov : Value} {o : R5.Pra} (v : Value) (l : List Rd) (w : World) (hB : B ≤ w.heap.size) (hll : o.log.length + l.length < 1000000) (ho : R5.PO B og mb S w o dv ov) (hv : HR w v l) (hvS : l ≠ [] → ∀ k, v.ownBlock = some k → ¬ S k) (hmay : mayL l = true) :
    Calls Tryz.prog 14 #[.pointer (some ⟨og, 0, none⟩), v] w fun e w' => PR B og mb S w (rpl o l).2 dv (.tuple #[.agg ((rpl o l).1.map B8).toArray, .int .i64 0]) e w' := by
  have hz := fun W => R5.zero_dig W
  obtain ⟨ZL, hZL⟩ : ∃ L, L = Z0.map B8 := ⟨_, rfl⟩
  have hZL' : ZL = (List.replicate 32 (0 : UInt8)).map B8 := hZL
  rw [← hZL'] at hz
  have HZS : Hid (ZL.toArray.size = 32) := by show _ = _; rw [hZL']; simp
  have HZ1 : Hid (ZL.toArray.all (·.oneCell') = true) := by show _ = _; rw [hZL]; exact R5.B8_onea _
  have HBD : Hid (∀ W, (Instr.build 24 #[]).run Tryz.prog W = .ok (.agg ZL.toArray) W) := fun W => by rw [hZL']; exact R5.build_dig W
  obtain ⟨V1, hV1⟩ : ∃ W1, W1 = w.alloc (.cells ZL.toArray 24 (0, 0)) := ⟨_, rfl⟩
  have hb1 : Below w.heap.size w V1 := by rw [hV1]; exact (Below.refl _ _).alloc (Nat.le_refl _) _
  have hr1 : V1.heap[w.heap.size]? = some (.cells ZL.toArray 24 (0, 0)) := by rw [hV1]; exact heap_alloc_new _ _
  have HB1 : Hid (Below w.heap.size w V1) := hb1
  have HR1 : Hid (V1.heap[w.heap.size]? = some (.cells ZL.toArray 24 (0, 0))) := hr1
  have hc := ho.cells.2.2.2.1
  have HNO : Hid (Calls Tryz.prog 24 #[.pointer (some ⟨og, 0, none⟩)] V1 fun e w' => e = .returned (.bool false) ∧ Below V1.heap.size V1 w') := noOr_no og mb V1 ((hb1.cell (block_lt hc)).trans hc)
  have HMA : Hid (∀ W, Below w.heap.size w W → Calls Tryz.prog 15 #[v] W fun e w' => e = .returned (.bool true) ∧ Below W.heap.size W w') := fun W hW => by have := mayall_any v l W (hv.below hW) (by omega); rw [hmay] at this; exact this
  have HMS0 : Hid (∀ W, Calls Tryz.prog 37 #[.pointer (some ⟨og, 0, none⟩)] W fun e w' => MzEnd og W e w') := fun W => measurers_any og W
  have HGOOD : Hid (∀ i r, l[i]? = some r → r.ok ∧ mayD r = true) := fun i r hi => by
    obtain ⟨p, cap, h1, h2⟩ := hv
    refine ⟨(h2 i r hi).1, ?_⟩
    have hg := ((mayL_iff l).1 hmay).2 i (List.getElem?_eq_some_iff.1 hi).1
    rw [good_at hi] at hg
    exact (Bool.and_eq_true _ _ ▸ hg).1
  have HHR : Hid (∀ X, R5.Fr S w X → HR X v l) := fun X hX => hv.keep (fun hne k e hl => hX.block k hl (hvS hne k e))
  obtain ⟨p, cap, hv1⟩ : ∃ p cap, v = .slice p l.length cap := by obtain ⟨p, cap, h1, _⟩ := hv; exact ⟨p, cap, h1⟩
  subst hv1
  have HO : Hid (R5.PO B og mb S w o dv ov) := ho
  have HZL : Hid (ZL = Z0.map B8) := hZL
  have HALL : Hid (stk o l l.length = rpl o l) := stk_all o l
  rw [← HALL.out]
  have hzr := fun W => zero_rd W
  obtain ⟨ZR, hZR⟩ : ∃ L, L = rdL zD := ⟨_, rfl⟩
  rw [← hZR] at hzr
  have HZRS : Hid (ZR.toArray.size = 172) := by show _ = _; rw [hZR]; simpa using rdL_len zD_ok
  rw [hV1] at HNO
  obtain ⟨n, hn⟩ : ∃ n, n = l.length := ⟨_, rfl⟩
  rw [← hn] at hll ⊢
  have HN : Hid (n = l.length) := hn
  have HLOG : Hid (∀ k, k ≤ n → (stk o l k).2.log.length < 1000000) := fun k hk => by have := stk_log o l k (by omega); omega
  have hln : o.log.length < 1000000 := by omega
  clear hZL hZL' hb1 hr1 hc hv hmay ho hvS hZR hn
  rw [← HN.out] at HMA HHR
  go_enter Tryz.func14, Tryz.ntmps14
  go_wp2_with fail
  refine Calls.mono HNO.out ?_
  rintro e w1 ⟨rfl, hb1⟩
  rw [← hV1] at hb1
  have HB1' : Hid (Below w.heap.size w w1) := HB1.out.trans (hb1.mono HB1.out.size)
  have HBV1 : Hid (Below V1.heap.size V1 w1) := hb1
  clear hb1 HNO
  go_wp2_with fail
  refine Calls.mono (HMA.out w1 HB1'.out) ?_
  rintro e w2 ⟨rfl, hb2⟩
  have HBV2 : Hid (Below V1.heap.size V1 w2) := HBV1.out.trans (hb2.mono HBV1.out.size)
  clear hb2
  go_wp2_with fail
  refine Calls.mono (HMS0.out w2) ?_
  rintro e w3 ⟨b1, b2, mp, rfl, hmz, hl1, hl2, hl3, hb3⟩
  have hs2 := HBV2.out.size
  obtain ⟨cb, hcb⟩ : ∃ c, c = w3.heap.size := ⟨_, rfl⟩
  have HRI0 : Hid (RI B og mb S w dv b1 b2 mp cb ZL o Z0 (w3.alloc (.cells ZL.toArray 24 (0, 0)))) := by rw [hcb]; exact ri_start hB HO.out hV1 (HBV2.out.trans (hb3.mono hs2)) hmz (by omega) (by omega) (by omega) rfl HZL.out
  have HCB : Hid (cb = w3.heap.size) := hcb
  clear hmz hl1 hl2 hl3 hb3 hs2 hcb hV1 HMA HMS0 HB1' HBV1 HBV2
  go_wp2
  rw [← HCB.out]
  go_loopw [21] (fun i wr => ∃ k : Nat, k ≤ n ∧ i = .int .i64 k ∧ RI B og mb S w dv b1 b2 mp cb ZL (stk o l k).2 (stk o l k).1 wr ∧ (stk o l k).1.length = 32) (fun i _ => n - (intOf i).toNat)
  case atStart => exact ⟨0, Nat.zero_le _, rfl, HRI0.out, z0_len⟩
  case round =>
    obtain ⟨k, hk, rfl, hri, hml⟩ := hrel
    have HRIK : Hid (RI B og mb S w dv b1 b2 mp cb ZL (stk o l k).2 (stk o l k).1 wr) := hri
    have HML0 : Hid ((stk o l k).1.length = 32) := hml
    clear hri hml HRI0 HCB
    by_cases hlt : k < n
    · have hkI : (k : Int) < (n : Int) := by omega
      have hlt' : k < l.length := by have := HN.out; omega
      obtain ⟨r, hr⟩ : ∃ r, l[k]? = some r := ⟨_, List.getElem?_eq_getElem hlt'⟩
      obtain ⟨hok, hmay⟩ := HGOOD.out k r hr
      obtain ⟨p', cap', hpe, hrow⟩ := HHR.out wr HRIK.out.fr
      obtain ⟨_, b, ofs, hp, hrg⟩ := hrow k r hr
      have hpp : p = some ⟨b, ofs, none⟩ := by rw [← hp]; simpa using (Value.slice.inj hpe).1
      clear hp hrow hpe
      subst hpp
      have hst := stk_succ (o := o) hr
      have hA0 := HRIK.out.len (qOf (stk o l k).1 r)
      rw [← hst] at hA0
      obtain ⟨X2, hX2⟩ : ∃ X, X = (wr.alloc (.cells ZR.toArray 33 (0, 0))).setRow wr.heap.size (rdL r).toArray := ⟨_, rfl⟩
      have hb2 : Below wr.heap.size wr X2 := by rw [hX2]; exact below_setRow ((Below.refl _ _).alloc (Nat.le_refl _) _) (Nat.le_refl _) _
      have hri2 := HRIK.out.below hb2
      have HZA : Hid ((wr.alloc (.cells ZR.toArray 33 (0, 0))).heap[wr.heap.size]? = some (.cells ZR.toArray 33 (0, 0))) := heap_alloc_new _ _
      have hrx : X2.heap[wr.heap.size]? = some (.cells (rdL r).toArray 33 (0, 0)) := by rw [hX2]; exact setRow_heap _ _ _ _ _ _ HZA.out
      have hkc : X2.cell? ⟨wr.heap.size, 0, none⟩ = some (.int .i64 r.kind) := by have := PC.rangeAt_row hrx 0 _ (rdL_0 r); rwa [Nat.zero_add] at this
      have HRN : Hid ((rdL r).length = 172) := rdL_len hok
      have HRS : Hid ((rdL r).toArray.size = 172) := by show _ = _; simpa using HRN.out
      have HRI : Hid _ := info172 (rdL r) HRN.out
      have HRA : Hid ((Tryz.prog.info? 33).map (·.size) = some (rdL r).toArray.size) := info172a _ HRS.out
      have HR1 : Hid ((rdL r).toArray.all (·.oneCell') = true) := PC.onea (rdL_one _)
      have HRG : Hid (wr.rangeAt b (ofs + k * 172) (rdL r)) := hrg
      have HZRR : Hid (ZR.toArray.size = (rdL r).toArray.size) := HZRS.out.trans HRS.out.symm
      have HRR : Hid (X2.rangeAt wr.heap.size 0 (rdL r)) := PC.rangeAt_row hrx
      have HMR : Hid (X2.rangeAt cb 0 ((stk o l k).1.map B8)) := PC.rangeAt_row hri2.m
      have HMI : Hid _ := R5.info32 ((stk o l k).1.map B8) (by simpa using HML0.out)
      obtain ⟨A, hAe⟩ : ∃ A, A = (stk o l (k + 1)).1 := ⟨_, rfl⟩
      obtain ⟨o2, ho2⟩ : ∃ A, A = (stk o l (k + 1)).2 := ⟨_, rfl⟩
      have hAl : A.length = 32 := by rw [hAe]; exact hA0
      have HCLO : Hid (Calls Tryz.prog (fOf r) #[.agg ((stk o l k).1.map B8).toArray, .agg (rdL r).toArray, .pointer (some ⟨b2, 0, none⟩)] X2 fun e w5 => e = .returned (.agg (A.map B8).toArray) ∧ RI B og mb S w dv b1 b2 mp cb ZL o2 A (w5.setRow cb (A.map B8).toArray) ∧ w5.heap[cb]? = some (.cells ((stk o l k).1.map B8).toArray 24 (0, 0))) := hri2.clo hB (HLOG.out k (by omega)) HML0.out hok hmay hAl (by rw [← hst, hAe, ho2])
      have HLK : Hid ((Instr.lookup 87 (.map (some mp)) (.int .i64 r.kind) false).run Tryz.prog X2 = .ok (.func (.func (fOf r)) #[] #[.pointer (some ⟨b2, 0, none⟩)]) X2) := mz_get hri2.mz (f_mem hmay b2)
      have HAS : Hid ((A.map B8).toArray.size = 32) := by show _ = _; simpa using hAl
      have HA1 : Hid _ := R5.B8_onea A
      have HMS : Hid (((stk o l k).1.map B8).toArray.size = (A.map B8).toArray.size) := by show _ = _; rw [HAS.out]; simpa using HML0.out
      have HNXT : Hid (∀ Y, RI B og mb S w dv b1 b2 mp cb ZL o2 A Y → RI B og mb S w dv b1 b2 mp cb ZL (stk o l (k + 1)).2 (stk o l (k + 1)).1 Y ∧ (stk o l (k + 1)).1.length = 32) := fun Y h => by rw [← hAe, ← ho2]; exact ⟨h, hAl⟩
      have HX2 : Hid (X2 = (wr.alloc (.cells ZR.toArray 33 (0, 0))).setRow wr.heap.size (rdL r).toArray) := hX2
      have hkind := mayD_kind hmay
      clear hX2 hb2 hri2 hrx hrg hr hok hmay hlt' hst hA0 hAe ho2 hAl HRIK HML0
      generalize (stk o l k).1.map B8 = ML at *
      generalize rdL r = RL at *
      rcases hkind with hkd | hkd | hkd
      · skip
        have HCL : Hid (Calls Tryz.prog 48 #[.agg ML.toArray, .agg RL.toArray, .pointer (some ⟨b2, 0, none⟩)] X2 fun e w5 => e = .returned (.agg (A.map B8).toArray) ∧ RI B og mb S w dv b1 b2 mp cb ZL o2 A (w5.setRow cb (A.map B8).toArray) ∧ w5.heap[cb]? = some (.cells ML.toArray 24 (0, 0))) := by rw [← show fOf r = 48 from by unfold fOf; simp [hkd]]; exact HCLO.out
        have hlk : (Instr.lookup 87 (.map (some mp)) (.int .i64 r.kind) false).run Tryz.prog X2 = .ok (.func (.func 48) #[] #[.pointer (some ⟨b2, 0, none⟩)]) X2 := by have h := HLK.out; rw [show fOf r = 48 from by unfold fOf; simp [hkd]] at h; exact h
        rw [HX2.out] at HCL hlk HMR HRR hkc
        clear hkd HCLO HLK
        go_wp2_with (first
          | (refine wpList_load_mid rfl 33 _ rfl b (ofs + k * 172) rfl RL _ HRG.out Tryz.underlying33 rfl HRI.out ?_)
          | (refine wpList_store_row rfl 33 _ _ rfl wr.heap.size RL.toArray rfl rfl 33 ZR.toArray HZA.out HRA.out HZRR.out HR1.out ?_)
          | (refine wpList_load_mid rfl 24 _ rfl cb 0 rfl ML _ HMR.out Tryz.underlying24 rfl HMI.out ?_)
          | (refine wpList_load_mid rfl 33 _ rfl wr.heap.size 0 rfl RL _ HRR.out Tryz.underlying33 rfl HRI.out ?_))
        refine Calls.mono HCL.out ?_
        rintro e w5 ⟨rfl, hri5, hc5⟩
        have HRI5 : Hid (RI B og mb S w dv b1 b2 mp cb ZL o2 A (w5.setRow cb (A.map B8).toArray)) := hri5
        have HC5 : Hid (w5.heap[cb]? = some (.cells ML.toArray 24 (0, 0))) := hc5
        clear hri5 hc5 HCL hlk
        generalize hAA : (A.map B8).toArray = AA at *
        clear hAA
        go_wp2_with (refine wpList_store_row rfl 24 _ _ rfl cb AA rfl rfl 24 ML.toArray HC5.out (R5.info32a _ HAS.out) HMS.out HA1.out ?_)
        go_roundw
        case rel => exact ⟨k + 1, by omega, by go_num, HNXT.out _ HRI5.out⟩
        case measure => simp [intOf]; omega
      · skip
        have HCL : Hid (Calls Tryz.prog 49 #[.agg ML.toArray, .agg RL.toArray, .pointer (some ⟨b2, 0, none⟩)] X2 fun e w5 => e = .returned (.agg (A.map B8).toArray) ∧ RI B og mb S w dv b1 b2 mp cb ZL o2 A (w5.setRow cb (A.map B8).toArray) ∧ w5.heap[cb]? = some (.cells ML.toArray 24 (0, 0))) := by rw [← show fOf r = 49 from by unfold fOf; simp [hkd]]; exact HCLO.out
        have hlk : (Instr.lookup 87 (.map (some mp)) (.int .i64 r.kind) false).run Tryz.prog X2 = .ok (.func (.func 49) #[] #[.pointer (some ⟨b2, 0, none⟩)]) X2 := by have h := HLK.out; rw [show fOf r = 49 from by unfold fOf; simp [hkd]] at h; exact h
        rw [HX2.out] at HCL hlk HMR HRR hkc
        clear hkd HCLO HLK
        go_wp2_with (first
          | (refine wpList_load_mid rfl 33 _ rfl b (ofs + k * 172) rfl RL _ HRG.out Tryz.underlying33 rfl HRI.out ?_)
          | (refine wpList_store_row rfl 33 _ _ rfl wr.heap.size RL.toArray rfl rfl 33 ZR.toArray HZA.out HRA.out HZRR.out HR1.out ?_)
          | (refine wpList_load_mid rfl 24 _ rfl cb 0 rfl ML _ HMR.out Tryz.underlying24 rfl HMI.out ?_)
          | (refine wpList_load_mid rfl 33 _ rfl wr.heap.size 0 rfl RL _ HRR.out Tryz.underlying33 rfl HRI.out ?_))
        refine Calls.mono HCL.out ?_
        rintro e w5 ⟨rfl, hri5, hc5⟩
        have HRI5 : Hid (RI B og mb S w dv b1 b2 mp cb ZL o2 A (w5.setRow cb (A.map B8).toArray)) := hri5
        have HC5 : Hid (w5.heap[cb]? = some (.cells ML.toArray 24 (0, 0))) := hc5
        clear hri5 hc5 HCL hlk
        generalize hAA : (A.map B8).toArray = AA at *
        clear hAA
        go_wp2_with (refine wpList_store_row rfl 24 _ _ rfl cb AA rfl rfl 24 ML.toArray HC5.out (R5.info32a _ HAS.out) HMS.out HA1.out ?_)
        go_roundw
        case rel => exact ⟨k + 1, by omega, by go_num, HNXT.out _ HRI5.out⟩
        case measure => simp [intOf]; omega
      · skip
        have HCL : Hid (Calls Tryz.prog 51 #[.agg ML.toArray, .agg RL.toArray, .pointer (some ⟨b2, 0, none⟩)] X2 fun e w5 => e = .returned (.agg (A.map B8).toArray) ∧ RI B og mb S w dv b1 b2 mp cb ZL o2 A (w5.setRow cb (A.map B8).toArray) ∧ w5.heap[cb]? = some (.cells ML.toArray 24 (0, 0))) := by rw [← show fOf r = 51 from by unfold fOf; simp [hkd]]; exact HCLO.out
        have hlk : (Instr.lookup 87 (.map (some mp)) (.int .i64 r.kind) false).run Tryz.prog X2 = .ok (.func (.func 51) #[] #[.pointer (some ⟨b2, 0, none⟩)]) X2 := by have h := HLK.out; rw [show fOf r = 51 from by unfold fOf; simp [hkd]] at h; exact h
        rw [HX2.out] at HCL hlk HMR HRR hkc
        clear hkd HCLO HLK
        go_wp2_with (first
          | (refine wpList_load_mid rfl 33 _ rfl b (ofs + k * 172) rfl RL _ HRG.out Tryz.underlying33 rfl HRI.out ?_)
          | (refine wpList_store_row rfl 33 _ _ rfl wr.heap.size RL.toArray rfl rfl 33 ZR.toArray HZA.out HRA.out HZRR.out HR1.out ?_)
          | (refine wpList_load_mid rfl 24 _ rfl cb 0 rfl ML _ HMR.out Tryz.underlying24 rfl HMI.out ?_)
          | (refine wpList_load_mid rfl 33 _ rfl wr.heap.size 0 rfl RL _ HRR.out Tryz.underlying33 rfl HRI.out ?_))
        refine Calls.mono HCL.out ?_
        rintro e w5 ⟨rfl, hri5, hc5⟩
        have HRI5 : Hid (RI B og mb S w dv b1 b2 mp cb ZL o2 A (w5.setRow cb (A.map B8).toArray)) := hri5
        have HC5 : Hid (w5.heap[cb]? = some (.cells ML.toArray 24 (0, 0))) := hc5
        clear hri5 hc5 HCL hlk
        generalize hAA : (A.map B8).toArray = AA at *
        clear hAA
        go_wp2_with (refine wpList_store_row rfl 24 _ _ rfl cb AA rfl rfl 24 ML.toArray HC5.out (R5.info32a _ HAS.out) HMS.out HA1.out ?_)
        go_roundw
        case rel => exact ⟨k + 1, by omega, by go_num, HNXT.out _ HRI5.out⟩
        case measure => simp [intOf]; omega
    · have hkI : ¬ (k : Int) < (n : Int) := by omega
      obtain rfl : k = n := by omega
      obtain ⟨ML, hML⟩ : ∃ L, L = (stk o l k).1.map B8 := ⟨_, rfl⟩
      have HMI : Hid _ := R5.info32 ML (by rw [hML]; simpa using HML0.out)
      have HMR : Hid (wr.rangeAt cb 0 ML) := by rw [hML]; exact PC.rangeAt_row HRIK.out.m
      have HZW : Hid (wr.heap[w.heap.size]? = some (.cells ZL.toArray 24 (0, 0))) := HRIK.out.z
      have HEND : Hid (PR B og mb S w (stk o l k).2 dv (.tuple #[.agg ((stk o l k).1.map B8).toArray, .int .i64 0]) (.returned (.tuple #[.agg ML.toArray, .int .i64 0])) (wr.setRow w.heap.size ML.toArray)) := by rw [hML]; exact HRIK.out.fin hB HO.out
      have HAS : Hid (ML.toArray.size = 32) := by show _ = _; rw [hML]; simpa using HML0.out
      have HA1 : Hid (ML.toArray.all (·.oneCell') = true) := by show _ = _; rw [hML]; exact R5.B8_onea (stk o l k).1
      clear HRIK HML0 hML
      go_wp2_with (first
        | (refine wpList_load_mid rfl 24 _ rfl cb 0 rfl ML _ HMR.out Tryz.underlying24 rfl HMI.out ?_)
        | (refine wpList_store_row rfl 24 _ _ rfl w.heap.size ML.toArray rfl rfl 24 ZL.toArray HZW.out (R5.info32a _ HAS.out) (HZS.out.trans HAS.out.symm) HA1.out ?_))
      refine bodyPost_ret (v := .tuple #[.agg ML.toArray, .int .i64 0]) ?_ rfl HEND.out
      exact R5.results_dig2 Tryz.results14 _ _ w.heap.size 24 _ (0, 0) _ rfl rfl (setRow_heap _ _ _ _ _ _ HZW.out) (R5.info32a _ HAS.out)
end Go.Proofs.YtpmknkagnkagpaaGreat.ZC
