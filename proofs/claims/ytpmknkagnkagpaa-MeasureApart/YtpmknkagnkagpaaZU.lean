/- MeasureApart: in ideal mode, with distinct draws, two lists with one measurement are the same: the statement's function answers true. No condition. -/
import Derived.Test.YtpmknkagnkagpaaZT
import Derived.Test.YtpmknkagnkagpaaZQ
import Derived.Test.YtpmknkagnkagpaaZV
import Derived.Test.YtpmknkagnkagpaaRows
import Derived.WalkKit
import Derived.ChangeOld
import Derived.ProofKit
import Derived.OpenShut
import Derived.Carry
set_option linter.unusedVariables false
set_option linter.unusedSimpArgs false
namespace Go.Proofs.Ytpmknkagnkagpaa.ZC
open Go.RowKit

theorem HR.ltw {w : World} {v : Value} {l : List Rd} (h : HR w v l) (hne : l ≠ []) : ∀ k, v.ownBlock = some k → k < w.heap.size := fun k e => by
  obtain ⟨p, cap, rfl, h2⟩ := h
  cases l with
  | nil => exact absurd rfl hne
  | cons r l =>
    obtain ⟨_, b, o, hp, hr⟩ := h2 0 r rfl
    subst hp
    have hb : b = k := by simpa [Value.ownBlock] using e
    have := block_lt (hr 0 _ (rdL_0 r))
    rw [← hb]; exact this
theorem KM.replayOk {w X : World} {og mb : Nat} {o : R5.Pra} {rows : List (Nat × List UInt8)} (h : KM w og mb o rows X) (v : Value) (l : List Rd) (hv : HR w v l) (hll : o.log.length + l.length < 1000000) (hmay : mayL l = true) :
    Calls Try.prog 21 #[.pointer (some ⟨og, 0, none⟩), v] X fun e Y => e = .returned (.tuple #[.agg ((rpl o l).1.map B8).toArray, .int .i64 0]) ∧ KM w og mb (rpl o l).2 rows Y := by
  obtain ⟨S, dv, ov, h1, h2, h3⟩ := h.ex
  refine (replay_ok v l X h2.size hll h1 (hv.below h2) (fun hne k e hS => by have := hv.ltw hne k e; have := h1.low k hS; omega) hmay).mono ?_
  intro e Y hE
  exact KM.asked h1.low h2 h3 hE
theorem KM.lens {w X : World} {og mb : Nat} {o : R5.Pra} {rows : List (Nat × List UInt8)} (h : KM w og mb o rows X) : ∀ x ∈ o.log, x.2.length = 32 := by
  obtain ⟨S, dv, ov, h1, h2, h3⟩ := h.ex
  exact fun x hx => (h1.ok.all x hx).2
theorem HR.oks {w : World} {v : Value} {l : List Rd} (h : HR w v l) : ∀ r ∈ l, r.ok := fun r hr => by
  obtain ⟨p, cap, _, h2⟩ := h
  obtain ⟨i, hi⟩ := List.getElem?_of_mem hr
  exact (h2 i r hi).1
/-- What a Replay answers, whatever the list. -/
def rp (o : R5.Pra) (l : List Rd) : List UInt8 × Int × R5.Pra := if mayL l then ((rpl o l).1, 0, (rpl o l).2) else (Z0, 2, o)
theorem KM.replay {w X : World} {og mb : Nat} {o : R5.Pra} {rows : List (Nat × List UInt8)} (h : KM w og mb o rows X) (v : Value) (l : List Rd) (hv : HR w v l) (hll : o.log.length + l.length < 1000000) :
    Calls Try.prog 21 #[.pointer (some ⟨og, 0, none⟩), v] X fun e Y => e = .returned (.tuple #[.agg ((rp o l).1.map B8).toArray, .int .i64 (rp o l).2.1]) ∧ KM w og mb (rp o l).2.2 rows Y := by
  unfold rp
  cases hm : mayL l with
  | true => exact h.replayOk v l hv hll hm
  | false => exact h.replayBad v l (hv.below h.bel) (by omega) hm
theorem rp_log (o : R5.Pra) (l : List Rd) : (rp o l).2.2.log.length ≤ o.log.length + l.length := by
  unfold rp
  split
  · exact rpl_log o l
  · exact Nat.le_add_right _ _
theorem rpl_len {o : R5.Pra} {l : List Rd} (h : ∀ x ∈ (rpl o l).2.log, x.2.length = 32) : (rpl o l).1.length = 32 := mea_len h l Z0 _ z0_len (rpl_mx o l).mea
theorem rp_len {o : R5.Pra} {l : List Rd} (h : ∀ x ∈ (rp o l).2.2.log, x.2.length = 32) : (rp o l).1.length = 32 := by
  unfold rp at h ⊢
  split
  · rename_i hm
    rw [if_pos hm] at h
    exact rpl_len h
  · exact z0_len
/-- While both are compared. -/
structure SP (w : World) (D1 D2 : List Value) (ab bb : Nat) (X : World) : Prop where
  b : Below w.heap.size w X
  x : X.heap[ab]? = some (.cells D1.toArray 24 (0, 0))
  y : X.heap[bb]? = some (.cells D2.toArray 24 (0, 0))
theorem SP.step {w : World} {D1 D2 : List Value} {ab bb : Nat} {X Y : World} (h : SP w D1 D2 ab bb X) (hb : Below X.heap.size X Y) : SP w D1 D2 ab bb Y := ⟨h.b.trans (hb.mono h.b.size), (hb.block _ (PC.row_lt h.x)).trans h.x, (hb.block _ (PC.row_lt h.y)).trans h.y⟩
set_option maxHeartbeats 4000000 in
set_option maxRecDepth 100000 in
theorem apart_walk (a0 : Option Addr) (len0 cap0 : Nat) (D : List (List UInt8)) (v1 : Value) (l : List Rd) (v2 : Value) (k : List Rd) (w : World) (hD : D.length ≤ 9223372036854775807) (ha0 : a0 = none → cap0 = 0) (hd : R5.HDs w (.slice a0 len0 cap0) D) (hl : l.length ≤ 9223372036854775807) (hv1 : HR w v1 l) (hk : k.length ≤ 9223372036854775807) (hv2 : HR w v2 k) :
    Calls Try.prog 4 #[.slice a0 len0 cap0, v1, v2] w fun e w' => e = .returned (.bool true) ∧ Below w.heap.size w w' := by
  obtain ⟨hdl, pd, capd, hde, hdr⟩ := id hd
  obtain ⟨rfl, rfl, rfl⟩ : a0 = pd ∧ len0 = D.length ∧ cap0 = capd := by simpa using hde
  obtain ⟨p1, c1, rfl, hr1⟩ := id hv1
  obtain ⟨p2, c2, rfl, hr2⟩ := id hv2
  have HKN : Hid (∀ W : World, Calls Try.prog 6 #[] W fun e w' => e = .returned (.bool true) ∧ Below W.heap.size W w') := known_any
  have HHD : Hid (∀ X, Below w.heap.size w X → R5.HDs X (.slice a0 D.length cap0) D) := fun X hX => R5.hds_below hd hX
  have HV1 : Hid (HR w (.slice p1 l.length c1) l) := hv1
  have HV2 : Hid (HR w (.slice p2 k.length c2) k) := hv2
  have HNL : Hid (∃ n, n = D.length) := ⟨_, rfl⟩
  clear hd hde hdr hv1 hv2 hr1 hr2 HNL
  by_cases h60 : 60 < D.length
  · have h60I : (60 : Int) < (D.length : Int) := by omega
    clear hdl
    go_enter Try.func4, Try.ntmps4
    go_wp2_with fail
    refine Calls.mono (HKN.out _) ?_
    rintro e X1 ⟨rfl, hb1⟩
    have HB1 : Hid (Below w.heap.size w X1) := hb1
    clear hb1
    go_wp2
    go_ret
    exact ⟨rfl, HB1.out⟩
  by_cases hl30 : 30 < l.length
  · have h60I : ¬ (60 : Int) < (D.length : Int) := by omega
    have hlI : (30 : Int) < (l.length : Int) := by omega
    clear hdl
    go_enter Try.func4, Try.ntmps4
    go_wp2_with fail
    refine Calls.mono (HKN.out _) ?_
    rintro e X1 ⟨rfl, hb1⟩
    have HB1 : Hid (Below w.heap.size w X1) := hb1
    clear hb1
    go_wp2
    go_ret
    exact ⟨rfl, HB1.out⟩
  by_cases hk30 : 30 < k.length
  · have h60I : ¬ (60 : Int) < (D.length : Int) := by omega
    have hlI : ¬ (30 : Int) < (l.length : Int) := by omega
    have hkI : (30 : Int) < (k.length : Int) := by omega
    clear hdl
    go_enter Try.func4, Try.ntmps4
    go_wp2_with fail
    refine Calls.mono (HKN.out _) ?_
    rintro e X1 ⟨rfl, hb1⟩
    have HB1 : Hid (Below w.heap.size w X1) := hb1
    clear hb1
    go_wp2
    go_ret
    exact ⟨rfl, HB1.out⟩
  have h60I : ¬ (60 : Int) < (D.length : Int) := by omega
  have hlI : ¬ (30 : Int) < (l.length : Int) := by omega
  have hkI : ¬ (30 : Int) < (k.length : Int) := by omega
  have HDS : Hid (∀ X, Below w.heap.size w X → Calls Try.prog 19 #[.slice a0 D.length cap0] X fun e w' => DsEnd D X e w') := fun X hX => distinct_any _ D X (by omega) (HHD.out X hX)
  obtain ⟨ZL, hZL⟩ : ∃ L, L = Z0.map B8 := ⟨_, rfl⟩
  have hZL' : ZL = (List.replicate 32 (0 : UInt8)).map B8 := hZL
  have hz := fun W => R5.zero_dig W
  rw [← hZL'] at hz
  have HZS : Hid (ZL.toArray.size = 32) := by show _ = _; rw [hZL']; simp
  have HBD : Hid (∀ W : World, (Instr.build 24 #[]).run Try.prog W = .ok (.agg ZL.toArray) W) := fun W => by rw [hZL']; exact R5.build_dig W
  have HNEW : Hid (∀ X, Below w.heap.size w X → Calls Try.prog 20 #[.bool true, .agg ZL.toArray, .slice a0 D.length cap0] X fun e w' => R5.PNew X true Z0 D e w') := fun X hX => by rw [hZL]; exact R5.pnew_any true Z0 a0 D.length cap0 D X z0_len ha0 (by omega) (HHD.out X hX)
  obtain ⟨o0, ho0⟩ : ∃ o, o = (⟨true, Z0, D, []⟩ : R5.Pra) := ⟨_, rfl⟩
  have HOFN : Hid (∀ (og mb : Nat) (dv : Value) (W V : World), Below w.heap.size w W → R5.PO W.heap.size og mb (fun k => k = og ∨ k = mb) V ⟨true, Z0, D, []⟩ dv (.slice none 0 0) → Below W.heap.size W V → KM w og mb o0 [] V) := fun og mb dv W V h1 h2 h3 => by rw [ho0]; exact KM.ofNew h1 h2 h3
  have hl0 : o0.log.length = 0 := by rw [ho0]; rfl
  have hlog1 := rp_log o0 l
  have HRP1 : Hid (∀ og mb X, KM w og mb o0 [] X → Calls Try.prog 21 #[.pointer (some ⟨og, 0, none⟩), .slice p1 l.length c1] X fun e Y => e = .returned (.tuple #[.agg ((rp o0 l).1.map B8).toArray, .int .i64 (rp o0 l).2.1]) ∧ KM w og mb (rp o0 l).2.2 [] Y) := fun og mb X h => h.replay _ l HV1.out (by omega)
  have HRP2 : Hid (∀ og mb rows X, KM w og mb (rp o0 l).2.2 rows X → Calls Try.prog 21 #[.pointer (some ⟨og, 0, none⟩), .slice p2 k.length c2] X fun e Y => e = .returned (.tuple #[.agg ((rp (rp o0 l).2.2 k).1.map B8).toArray, .int .i64 (rp (rp o0 l).2.2 k).2.1]) ∧ KM w og mb (rp (rp o0 l).2.2 k).2.2 rows Y) := fun og mb rows X h => h.replay _ k HV2.out (by omega)
  have HSM : Hid (∀ X, Below w.heap.size w X → Calls Try.prog 22 #[.slice p1 l.length c1, .slice p2 k.length c2] X fun e w' => e = .returned (.bool (smeL l k)) ∧ Below X.heap.size X w') := fun X hX => rsame_any _ _ l k X (by omega) (HV1.out.below hX) (HV2.out.below hX)
  obtain ⟨A, eA, o1, hA⟩ : ∃ A e o1, rp o0 l = (A, e, o1) := ⟨_, _, _, rfl⟩
  rw [hA] at HRP1 HRP2
  simp only at HRP1 HRP2
  obtain ⟨C, eC, o2, hC⟩ : ∃ A e o2, rp o1 k = (A, e, o2) := ⟨_, _, _, rfl⟩
  rw [hC] at HRP2
  simp only at HRP2
  have hlog2 := rp_log o1 k
  rw [hA] at hlog1
  rw [hC] at hlog2
  simp only at hlog1 hlog2
  have HLEN : Hid (∀ og mb rows X, KM w og mb o1 rows X → A.length = 32) := fun og mb rows X h => by have h2 := rp_len (o := o0) (l := l) (by rw [hA]; exact h.lens); rw [hA] at h2; exact h2
  have HLEN2 : Hid (∀ og mb rows X, KM w og mb o2 rows X → C.length = 32) := fun og mb rows X h => by have h2 := rp_len (o := o1) (l := k) (by rw [hC]; exact h.lens); rw [hC] at h2; exact h2
  have HCASE : Hid ((eA = 0 ∨ eA = 2) ∧ (eC = 0 ∨ eC = 2)) := by
    have h1 : (rp o0 l).2.1 = 0 ∨ (rp o0 l).2.1 = 2 := by unfold rp; split; exact .inl rfl; exact .inr rfl
    have h2 : (rp o1 k).2.1 = 0 ∨ (rp o1 k).2.1 = 2 := by unfold rp; split; exact .inl rfl; exact .inr rfl
    rw [hA] at h1; rw [hC] at h2
    exact ⟨h1, h2⟩
  have HAP : Hid (dst D → eA = 0 → eC = 0 → (∃ og mb rows X, KM w og mb o2 rows X) → (A == C) = smeL l k) := fun hdst h1 h2 ⟨og, mb, rows, X, hkm⟩ => by
    have m1 : mayL l = true := by
      cases hm : mayL l with
      | true => rfl
      | false => unfold rp at hA; rw [if_neg (by rw [hm]; decide)] at hA; injection hA with _ hA; injection hA with hA _; rw [← hA] at h1; exact absurd h1 (by decide)
    have m2 : mayL k = true := by
      cases hm : mayL k with
      | true => rfl
      | false => unfold rp at hC; rw [if_neg (by rw [hm]; decide)] at hC; injection hC with _ hC; injection hC with hC _; rw [← hC] at h2; exact absurd h2 (by decide)
    unfold rp at hA hC
    rw [if_pos m1] at hA
    rw [if_pos m2] at hC
    have a1 : (rpl o0 l).1 = A := congrArg Prod.fst hA
    have a2 : (rpl o0 l).2 = o1 := congrArg (fun x => x.2.2) hA
    have b1 : (rpl o1 k).1 = C := congrArg Prod.fst hC
    have b2 : (rpl o1 k).2 = o2 := congrArg (fun x => x.2.2) hC
    have hap := apart (o := o0) (by rw [ho0]) (by rw [ho0]) (by rw [ho0]; exact hdst) m1 m2 HV1.out.oks HV2.out.oks (by rw [a2, b2]; omega) (by rw [a2, b2]; exact hkm.lens)
    rw [a1, a2, b1] at hap
    rw [Bool.eq_iff_iff, smeL_iff, beq_iff_eq]
    exact hap
  have HEQ : Hid (∀ W, A.length = 32 → C.length = 32 → (binOp .eql 24 (.agg (A.map B8).toArray) (.agg (C.map B8).toArray)).run Try.prog W = .ok (.bool (A == C)) W) := fun W h1 h2 => eql_d W A C h1 h2
  have HROW : Hid (∀ (og mb : Nat) (o : R5.Pra) (rows : List (Nat × List UInt8)) (X : World) (B : List UInt8), KM w og mb o rows X → KM w og mb o ((X.heap.size, B) :: rows) ((X.alloc (.cells ZL.toArray 24 (0, 0))).setRow X.heap.size (B.map B8).toArray)) := fun og mb o rows X B h => h.newrow B
  clear hZL hZL' ho0 hl0 hA hC hlog1 hlog2 hdl h60 hl30 hk30 hD hl hk ha0
  go_enter Try.func4, Try.ntmps4
  go_wp2_with fail
  refine Calls.mono (HKN.out _) ?_
  rintro e X1 ⟨rfl, hb1⟩
  have HB1 : Hid (Below w.heap.size w X1) := hb1
  clear hb1
  go_wp2_with fail
  refine Calls.mono (HDS.out X1 HB1.out) ?_
  rintro e X2 ⟨q, rfl, hq, hb2⟩
  have HB2 : Hid (Below w.heap.size w X2) := HB1.out.trans (hb2.mono HB1.out.size)
  have HQ : Hid (q = true → dst D) := hq
  clear hb2 hq HDS
  cases hqq : q with
  | false =>
    subst hqq
    go_wp2
    go_ret
    exact ⟨rfl, HB2.out⟩
  | true =>
    subst hqq
    have HDST : Hid (dst D) := HQ.out rfl
    go_wp2_with (first | (refine PC.wpList_build rfl 24 _ rfl #[] (.agg ZL.toArray) (by simp) (HBD.out _) ?_) | (go_at_call 20; fail))
    refine Calls.mono (HNEW.out X2 HB2.out) ?_
    rintro e X3 ⟨og, mb, dv, rfl, hpo, hb3, _⟩
    have HK3 : Hid (KM w og mb o0 [] X3) := HOFN.out og mb dv X2 X3 HB2.out hpo hb3
    clear hpo hb3 HNEW HOFN
    go_wp2_with fail
    refine Calls.mono (HRP1.out og mb X3 HK3.out) ?_
    rintro e X4 ⟨rfl, hk4⟩
    have HLA : Hid (A.length = 32) := HLEN.out _ _ _ _ hk4
    have HK5 : Hid (KM w og mb o1 ((X4.heap.size, A) :: []) ((X4.alloc (.cells ZL.toArray 24 (0, 0))).setRow X4.heap.size (A.map B8).toArray)) := HROW.out _ _ _ _ _ _ hk4
    have HCL2 : Hid (Calls Try.prog 21 #[.pointer (some ⟨og, 0, none⟩), .slice p2 k.length c2] ((X4.alloc (.cells ZL.toArray 24 (0, 0))).setRow X4.heap.size (A.map B8).toArray) fun e Y => e = .returned (.tuple #[.agg (C.map B8).toArray, .int .i64 eC]) ∧ KM w og mb o2 ((X4.heap.size, A) :: []) Y) := HRP2.out og mb _ _ HK5.out
    have HZA : Hid ((X4.alloc (.cells ZL.toArray 24 (0, 0))).heap[X4.heap.size]? = some (.cells ZL.toArray 24 (0, 0))) := heap_alloc_new _ _
    have HAS : Hid ((A.map B8).toArray.size = 32) := by show _ = _; simpa using HLA.out
    have HA1 : Hid _ := R5.B8_onea A
    clear hk4 HRP1 HRP2 HK3
    go_wp2_with (refine wpList_store_row rfl 24 _ _ rfl X4.heap.size (A.map B8).toArray rfl rfl 24 ZL.toArray HZA.out (R5.info32a _ HAS.out) (HZS.out.trans HAS.out.symm) HA1.out ?_)
    refine Calls.mono HCL2.out ?_
    rintro e X6 ⟨rfl, hk6⟩
    generalize X4.heap.size = ab at *
    have HLC : Hid (C.length = 32) := HLEN2.out _ _ _ _ hk6
    have hk7 := HROW.out _ _ _ _ _ C hk6
    have HSPD : Hid (SP w (A.map B8) (C.map B8) ab X6.heap.size ((X6.alloc (.cells ZL.toArray 24 (0, 0))).setRow X6.heap.size (C.map B8).toArray).drew) := ⟨hk7.bel.drew, hk7.row (r := (ab, A)) (by simp), hk7.row (r := (X6.heap.size, C)) (by simp)⟩
    have HAPP : Hid (eA = 0 → eC = 0 → (A == C) = smeL l k) := fun h1 h2 => HAP.out HDST.out h1 h2 ⟨_, _, _, _, hk6⟩
    have HZC : Hid ((X6.alloc (.cells ZL.toArray 24 (0, 0))).heap[X6.heap.size]? = some (.cells ZL.toArray 24 (0, 0))) := heap_alloc_new _ _
    have HCS : Hid ((C.map B8).toArray.size = 32) := by show _ = _; simpa using HLC.out
    have HC1 : Hid _ := R5.B8_onea C
    have HAI : Hid _ := R5.info32 (A.map B8) (by simpa using HLA.out)
    have HCI : Hid _ := R5.info32 (C.map B8) (by simpa using HLC.out)
    have HEQ2 : Hid (∀ W, (binOp .eql 24 (.agg (A.map B8).toArray) (.agg (C.map B8).toArray)).run Try.prog W = .ok (.bool (A == C)) W) := fun W => HEQ.out W HLA.out HLC.out
    clear hk6 hk7 HCL2 HK5 HZA HAP HEQ
    generalize hac : (A == C) = ac at *
    clear hac
    generalize A.map B8 = AL at *
    generalize C.map B8 = CL at *
    obtain ⟨sm, hsm⟩ : ∃ s, s = smeL l k := ⟨_, rfl⟩
    rw [← hsm] at HSM HAPP
    clear hsm
    go_wp2_with (refine wpList_store_row rfl 24 _ _ rfl X6.heap.size CL.toArray rfl rfl 24 ZL.toArray HZC.out (R5.info32a _ HCS.out) (HZS.out.trans HCS.out.symm) HC1.out ?_)
    generalize X6.heap.size = cb at *
    refine wp_region_held_drew (S := SP w AL CL ab cb) (by kernel_rfl) HSPD.out (fun hHeld => ?_)
    generalize ((X6.alloc (.cells ZL.toArray 24 (0, 0))).setRow cb CL.toArray).drew = X at *
    clear HSPD HZC HCS HC1 HAS HA1 HLA HLC HROW HLEN HLEN2 HQ HDST HKN HBD HHD
    obtain ⟨hcA, hcC⟩ := HCASE.out
    rcases hcA with rfl | rfl
    · rcases hcC with rfl | rfl
      · have HACC : Hid (ac = sm) := HAPP.out rfl rfl
        clear HAPP
        have HSMX : Hid (Calls Try.prog 22 #[.slice p1 l.length c1, .slice p2 k.length c2] X fun e w' => e = .returned (.bool sm) ∧ Below X.heap.size X w') := HSM.out X hHeld.b
        have hbe : (ac == sm) = true := by rw [HACC.out]; simp
        refine wpAnyH_take (i := 0) (oi := { dst := some 47, op := Go.Op.move (Go.Operand.tmp 9), type := 38, pos := _, after := #[], guard := none }) (v := .int .i64 0) rfl (by kernel_rfl) (by kernel_rfl) (by kernel_rfl) (fun _ _ _ h => h) (Or.inl ⟨by rfl, fun w' hw' => ?_⟩) hHeld ?_
        · first | (go_simp; done) | (go_simp; rfl)
        try simp only [Act.put, List.setIfInBounds_toArray, List.set_cons_zero, List.set_cons_succ]
        refine wpAnyH_take (i := 2) (oi := { dst := some 49, op := Go.Op.move (Go.Operand.tmp 11), type := 38, pos := _, after := #[], guard := none }) (v := .int .i64 0) rfl (by kernel_rfl) (by kernel_rfl) (by kernel_rfl) (fun _ _ _ h => h) (Or.inl ⟨by rfl, fun w' hw' => ?_⟩) hHeld ?_
        · first | (go_simp; done) | (go_simp; rfl)
        try simp only [Act.put, List.setIfInBounds_toArray, List.set_cons_zero, List.set_cons_succ]
        refine wpAnyH_ready (rs := [1]) (by kernel_rfl) (by simp) ?_
        refine AllReadyH.cons (o := { dst := some 48, op := Go.Op.call { callee := Go.Callee.value (Go.Operand.func 9), args := #[Go.Operand.tmp 47], argTypes := #[38] }, type := 3, pos := _, after := #[{ on := 0, ground := Go.Ground.data }], guard := none }) rfl (fun K hK => ?_) AllReadyH.nil
        rw [if_pos (by rfl)]
        go_wp2_with fail
        refine Calls.mono (num_any 0 X) ?_
        rintro e w' ⟨rfl, rfl⟩
        refine hK.out _ _ hHeld (fun _ => ?_)
        clear hK K
        try simp only [Act.put, List.setIfInBounds_toArray, List.set_cons_zero, List.set_cons_succ]
        refine wpAnyH_ready (rs := [3]) (by kernel_rfl) (by simp) ?_
        refine AllReadyH.cons (o := { dst := some 50, op := Go.Op.call { callee := Go.Callee.value (Go.Operand.func 9), args := #[Go.Operand.tmp 49], argTypes := #[38] }, type := 3, pos := _, after := #[{ on := 2, ground := Go.Ground.data }, { on := 1, ground := Go.Ground.chain }], guard := none }) rfl (fun K hK => ?_) AllReadyH.nil
        rw [if_pos (by rfl)]
        go_wp2_with fail
        refine Calls.mono (num_any 0 X) ?_
        rintro e w' ⟨rfl, rfl⟩
        refine hK.out _ _ hHeld (fun _ => ?_)
        clear hK K
        try simp only [Act.put, List.setIfInBounds_toArray, List.set_cons_zero, List.set_cons_succ]
        refine wpAnyH_take (i := 4) (oi := { dst := some 51, op := Go.Op.binOp Go.BinOp.add 3 (Go.Operand.tmp 48) (Go.Operand.tmp 50) 3, type := 3, pos := _, after := #[{ on := 1, ground := Go.Ground.data }, { on := 3, ground := Go.Ground.data }], guard := none }) (v := .int .i64 0) rfl (by kernel_rfl) (by kernel_rfl) (by kernel_rfl) (fun _ _ _ h => h) (Or.inl ⟨by rfl, fun w' hw' => ?_⟩) hHeld ?_
        · first | (go_simp; done) | (go_simp; rfl)
        try simp only [Act.put, List.setIfInBounds_toArray, List.set_cons_zero, List.set_cons_succ]
        refine wpAnyH_take (i := 5) (oi := { dst := some 52, op := Go.Op.binOp Go.BinOp.neq 3 (Go.Operand.tmp 51) (Go.Operand.const (Go.Value.int Go.IntKind.i64 0)) 3, type := 4, pos := _, after := #[{ on := 4, ground := Go.Ground.data }], guard := none }) (v := .bool false) rfl (by kernel_rfl) (by kernel_rfl) (by kernel_rfl) (fun _ _ _ h => h) (Or.inl ⟨by rfl, fun w' hw' => ?_⟩) hHeld ?_
        · first | (go_simp; done) | (go_simp; rfl)
        try simp only [Act.put, List.setIfInBounds_toArray, List.set_cons_zero, List.set_cons_succ]
        refine wpAnyH_take (i := 6) (oi := { dst := some 53, op := Go.Op.move (Go.Operand.tmp 52), type := 4, pos := _, after := #[{ on := 5, ground := Go.Ground.data }, { on := 3, ground := Go.Ground.chain }], guard := none }) (v := .bool false) rfl (by kernel_rfl) (by kernel_rfl) (by kernel_rfl) (fun _ _ _ h => h) (Or.inl ⟨by rfl, fun w' hw' => ?_⟩) hHeld ?_
        · first | (go_simp; done) | (go_simp; rfl)
        try simp only [Act.put, List.setIfInBounds_toArray, List.set_cons_zero, List.set_cons_succ]
        refine wpAnyH_take (i := 7) (oi := { dst := some 54, op := Go.Op.load 24 (Go.Operand.tmp 8), type := 24, pos := _, after := #[{ on := 6, ground := Go.Ground.guard }], guard := some (6, false) }) rfl (by kernel_rfl) (by kernel_rfl) (by kernel_rfl) (fun _ _ _ h => h) (yieldsIf_load_mid (by rfl) 24 (.tmp 8) rfl (ab) (0) rfl (AL) _ (fun _ h => PC.rangeAt_row h.x) Try.underlying24 rfl HAI.out) hHeld ?_
        try simp only [Act.put, List.setIfInBounds_toArray, List.set_cons_zero, List.set_cons_succ]
        refine wpAnyH_take (i := 8) (oi := { dst := some 55, op := Go.Op.load 24 (Go.Operand.tmp 10), type := 24, pos := _, after := #[{ on := 6, ground := Go.Ground.guard }], guard := some (6, false) }) rfl (by kernel_rfl) (by kernel_rfl) (by kernel_rfl) (fun _ _ _ h => h) (yieldsIf_load_mid (by rfl) 24 (.tmp 10) rfl (cb) (0) rfl (CL) _ (fun _ h => PC.rangeAt_row h.y) Try.underlying24 rfl HCI.out) hHeld ?_
        try simp only [Act.put, List.setIfInBounds_toArray, List.set_cons_zero, List.set_cons_succ]
        have heq := HEQ2.out
        refine wpAnyH_take (i := 9) (oi := { dst := some 56, op := Go.Op.binOp Go.BinOp.eql 24 (Go.Operand.tmp 54) (Go.Operand.tmp 55) 24, type := 4, pos := _, after := #[{ on := 7, ground := Go.Ground.data }, { on := 8, ground := Go.Ground.data }, { on := 6, ground := Go.Ground.guard }], guard := some (6, false) }) (v := .bool ac) rfl (by kernel_rfl) (by kernel_rfl) (by kernel_rfl) (fun _ _ _ h => h) (Or.inl ⟨by rfl, fun w' hw' => ?_⟩) hHeld ?_
        · first | (go_simp; done) | (go_simp; rfl)
        try simp only [Act.put, List.setIfInBounds_toArray, List.set_cons_zero, List.set_cons_succ]
        refine wpAnyH_take (i := 10) (oi := { dst := some 57, op := Go.Op.move (Go.Operand.tmp 1), type := 55, pos := _, after := #[{ on := 6, ground := Go.Ground.guard }], guard := some (6, false) }) (v := .slice p1 l.length c1) rfl (by kernel_rfl) (by kernel_rfl) (by kernel_rfl) (fun _ _ _ h => h) (Or.inl ⟨by rfl, fun w' hw' => ?_⟩) hHeld ?_
        · first | (go_simp; done) | (go_simp; rfl)
        try simp only [Act.put, List.setIfInBounds_toArray, List.set_cons_zero, List.set_cons_succ]
        refine wpAnyH_take (i := 11) (oi := { dst := some 58, op := Go.Op.move (Go.Operand.tmp 2), type := 55, pos := _, after := #[{ on := 6, ground := Go.Ground.guard }], guard := some (6, false) }) (v := .slice p2 k.length c2) rfl (by kernel_rfl) (by kernel_rfl) (by kernel_rfl) (fun _ _ _ h => h) (Or.inl ⟨by rfl, fun w' hw' => ?_⟩) hHeld ?_
        · first | (go_simp; done) | (go_simp; rfl)
        try simp only [Act.put, List.setIfInBounds_toArray, List.set_cons_zero, List.set_cons_succ]
        refine wpAnyH_ready (rs := [12]) (by kernel_rfl) (by simp) ?_
        refine AllReadyH.cons (o := { dst := some 59, op := Go.Op.call { callee := Go.Callee.value (Go.Operand.func 22), args := #[Go.Operand.tmp 57, Go.Operand.tmp 58], argTypes := #[55, 55] }, type := 4, pos := _, after := #[{ on := 10, ground := Go.Ground.data }, { on := 11, ground := Go.Ground.data }, { on := 6, ground := Go.Ground.chain }, { on := 6, ground := Go.Ground.guard }], guard := some (6, false) }) rfl (fun K hK => ?_) AllReadyH.nil
        rw [if_pos (by rfl)]
        go_wp2_with fail
        refine Calls.mono HSMX.out ?_
        rintro e Y ⟨rfl, hbY⟩
        have hSY := hHeld.step hbY
        clear hHeld hbY
        refine hK.out _ _ hSY (fun _ => ?_)
        clear hK K
        try simp only [Act.put, List.setIfInBounds_toArray, List.set_cons_zero, List.set_cons_succ]
        have hHeld := hSY
        refine wpAnyH_take (i := 13) (oi := { dst := some 60, op := Go.Op.binOp Go.BinOp.eql 4 (Go.Operand.tmp 56) (Go.Operand.tmp 59) 4, type := 4, pos := _, after := #[{ on := 9, ground := Go.Ground.data }, { on := 12, ground := Go.Ground.data }, { on := 6, ground := Go.Ground.guard }], guard := some (6, false) }) (v := .bool true) rfl (by kernel_rfl) (by kernel_rfl) (by kernel_rfl) (fun _ _ _ h => h) (Or.inl ⟨by rfl, fun w' hw' => ?_⟩) hHeld ?_
        · first | (go_simp; done) | (go_simp; rfl)
        try simp only [Act.put, List.setIfInBounds_toArray, List.set_cons_zero, List.set_cons_succ]
        refine wpAnyH_take (i := 14) (oi := { dst := some 61, op := Go.Op.pick (Go.Operand.tmp 53) (Go.Operand.const (Go.Value.bool true)) (Go.Operand.tmp 60), type := 4, pos := _, after := #[{ on := 6, ground := Go.Ground.data }, { on := 13, ground := Go.Ground.data }], guard := none }) (v := .bool true) rfl (by kernel_rfl) (by kernel_rfl) (by kernel_rfl) (fun _ _ _ h => h) (Or.inl ⟨by rfl, fun w' hw' => ?_⟩) hHeld ?_
        · first | (go_simp; done) | (go_simp; rfl)
        try simp only [Act.put, List.setIfInBounds_toArray, List.set_cons_zero, List.set_cons_succ]
        refine wpAnyH_take (i := 15) (oi := { dst := some 6, op := Go.Op.assign (Go.Operand.tmp 61), type := 4, pos := _, after := #[{ on := 14, ground := Go.Ground.data }, { on := 12, ground := Go.Ground.chain }, { on := 0, ground := Go.Ground.phase }, { on := 1, ground := Go.Ground.phase }, { on := 2, ground := Go.Ground.phase }, { on := 3, ground := Go.Ground.phase }, { on := 4, ground := Go.Ground.phase }, { on := 5, ground := Go.Ground.phase }, { on := 6, ground := Go.Ground.phase }, { on := 7, ground := Go.Ground.phase }, { on := 8, ground := Go.Ground.phase }, { on := 9, ground := Go.Ground.phase }, { on := 10, ground := Go.Ground.phase }, { on := 11, ground := Go.Ground.phase }, { on := 12, ground := Go.Ground.phase }, { on := 13, ground := Go.Ground.phase }, { on := 14, ground := Go.Ground.phase }], guard := none }) (v := .bool true) rfl (by kernel_rfl) (by kernel_rfl) (by kernel_rfl) (fun _ _ _ h => h) (Or.inl ⟨by rfl, fun w' hw' => ?_⟩) hHeld ?_
        · first | (go_simp; done) | (go_simp; rfl)
        try simp only [Act.put, List.setIfInBounds_toArray, List.set_cons_zero, List.set_cons_succ]
        refine wpAnyH_done (by kernel_rfl) ?_ _
        have HB : Hid (Below w.heap.size w Y) := hSY.b
        clear hHeld hSY heq
        go_wp2
        go_ret
        exact ⟨rfl, HB.out⟩
      · skip
        refine wpAnyH_take (i := 0) (oi := { dst := some 47, op := Go.Op.move (Go.Operand.tmp 9), type := 38, pos := _, after := #[], guard := none }) (v := .int .i64 0) rfl (by kernel_rfl) (by kernel_rfl) (by kernel_rfl) (fun _ _ _ h => h) (Or.inl ⟨by rfl, fun w' hw' => ?_⟩) hHeld ?_
        · first | (go_simp; done) | (go_simp; rfl)
        try simp only [Act.put, List.setIfInBounds_toArray, List.set_cons_zero, List.set_cons_succ]
        refine wpAnyH_take (i := 2) (oi := { dst := some 49, op := Go.Op.move (Go.Operand.tmp 11), type := 38, pos := _, after := #[], guard := none }) (v := .int .i64 2) rfl (by kernel_rfl) (by kernel_rfl) (by kernel_rfl) (fun _ _ _ h => h) (Or.inl ⟨by rfl, fun w' hw' => ?_⟩) hHeld ?_
        · first | (go_simp; done) | (go_simp; rfl)
        try simp only [Act.put, List.setIfInBounds_toArray, List.set_cons_zero, List.set_cons_succ]
        refine wpAnyH_ready (rs := [1]) (by kernel_rfl) (by simp) ?_
        refine AllReadyH.cons (o := { dst := some 48, op := Go.Op.call { callee := Go.Callee.value (Go.Operand.func 9), args := #[Go.Operand.tmp 47], argTypes := #[38] }, type := 3, pos := _, after := #[{ on := 0, ground := Go.Ground.data }], guard := none }) rfl (fun K hK => ?_) AllReadyH.nil
        rw [if_pos (by rfl)]
        go_wp2_with fail
        refine Calls.mono (num_any 0 X) ?_
        rintro e w' ⟨rfl, rfl⟩
        refine hK.out _ _ hHeld (fun _ => ?_)
        clear hK K
        try simp only [Act.put, List.setIfInBounds_toArray, List.set_cons_zero, List.set_cons_succ]
        refine wpAnyH_ready (rs := [3]) (by kernel_rfl) (by simp) ?_
        refine AllReadyH.cons (o := { dst := some 50, op := Go.Op.call { callee := Go.Callee.value (Go.Operand.func 9), args := #[Go.Operand.tmp 49], argTypes := #[38] }, type := 3, pos := _, after := #[{ on := 2, ground := Go.Ground.data }, { on := 1, ground := Go.Ground.chain }], guard := none }) rfl (fun K hK => ?_) AllReadyH.nil
        rw [if_pos (by rfl)]
        go_wp2_with fail
        refine Calls.mono (num_any 2 X) ?_
        rintro e w' ⟨rfl, rfl⟩
        refine hK.out _ _ hHeld (fun _ => ?_)
        clear hK K
        try simp only [Act.put, List.setIfInBounds_toArray, List.set_cons_zero, List.set_cons_succ]
        refine wpAnyH_take (i := 4) (oi := { dst := some 51, op := Go.Op.binOp Go.BinOp.add 3 (Go.Operand.tmp 48) (Go.Operand.tmp 50) 3, type := 3, pos := _, after := #[{ on := 1, ground := Go.Ground.data }, { on := 3, ground := Go.Ground.data }], guard := none }) (v := .int .i64 2) rfl (by kernel_rfl) (by kernel_rfl) (by kernel_rfl) (fun _ _ _ h => h) (Or.inl ⟨by rfl, fun w' hw' => ?_⟩) hHeld ?_
        · first | (go_simp; done) | (go_simp; rfl)
        try simp only [Act.put, List.setIfInBounds_toArray, List.set_cons_zero, List.set_cons_succ]
        refine wpAnyH_take (i := 5) (oi := { dst := some 52, op := Go.Op.binOp Go.BinOp.neq 3 (Go.Operand.tmp 51) (Go.Operand.const (Go.Value.int Go.IntKind.i64 0)) 3, type := 4, pos := _, after := #[{ on := 4, ground := Go.Ground.data }], guard := none }) (v := .bool true) rfl (by kernel_rfl) (by kernel_rfl) (by kernel_rfl) (fun _ _ _ h => h) (Or.inl ⟨by rfl, fun w' hw' => ?_⟩) hHeld ?_
        · first | (go_simp; done) | (go_simp; rfl)
        try simp only [Act.put, List.setIfInBounds_toArray, List.set_cons_zero, List.set_cons_succ]
        refine wpAnyH_take (i := 6) (oi := { dst := some 53, op := Go.Op.move (Go.Operand.tmp 52), type := 4, pos := _, after := #[{ on := 5, ground := Go.Ground.data }, { on := 3, ground := Go.Ground.chain }], guard := none }) (v := .bool true) rfl (by kernel_rfl) (by kernel_rfl) (by kernel_rfl) (fun _ _ _ h => h) (Or.inl ⟨by rfl, fun w' hw' => ?_⟩) hHeld ?_
        · first | (go_simp; done) | (go_simp; rfl)
        try simp only [Act.put, List.setIfInBounds_toArray, List.set_cons_zero, List.set_cons_succ]
        refine wpAnyH_take (i := 7) (oi := { dst := some 54, op := Go.Op.load 24 (Go.Operand.tmp 8), type := 24, pos := _, after := #[{ on := 6, ground := Go.Ground.guard }], guard := some (6, false) }) (v := undef) rfl (by kernel_rfl) (by kernel_rfl) (by kernel_rfl) (fun _ _ _ h => h) (Or.inr ⟨by rfl, rfl⟩) hHeld ?_
        try simp only [Act.put, List.setIfInBounds_toArray, List.set_cons_zero, List.set_cons_succ]
        refine wpAnyH_take (i := 8) (oi := { dst := some 55, op := Go.Op.load 24 (Go.Operand.tmp 10), type := 24, pos := _, after := #[{ on := 6, ground := Go.Ground.guard }], guard := some (6, false) }) (v := undef) rfl (by kernel_rfl) (by kernel_rfl) (by kernel_rfl) (fun _ _ _ h => h) (Or.inr ⟨by rfl, rfl⟩) hHeld ?_
        try simp only [Act.put, List.setIfInBounds_toArray, List.set_cons_zero, List.set_cons_succ]
        refine wpAnyH_take (i := 9) (oi := { dst := some 56, op := Go.Op.binOp Go.BinOp.eql 24 (Go.Operand.tmp 54) (Go.Operand.tmp 55) 24, type := 4, pos := _, after := #[{ on := 7, ground := Go.Ground.data }, { on := 8, ground := Go.Ground.data }, { on := 6, ground := Go.Ground.guard }], guard := some (6, false) }) (v := undef) rfl (by kernel_rfl) (by kernel_rfl) (by kernel_rfl) (fun _ _ _ h => h) (Or.inr ⟨by rfl, rfl⟩) hHeld ?_
        try simp only [Act.put, List.setIfInBounds_toArray, List.set_cons_zero, List.set_cons_succ]
        refine wpAnyH_take (i := 10) (oi := { dst := some 57, op := Go.Op.move (Go.Operand.tmp 1), type := 55, pos := _, after := #[{ on := 6, ground := Go.Ground.guard }], guard := some (6, false) }) (v := undef) rfl (by kernel_rfl) (by kernel_rfl) (by kernel_rfl) (fun _ _ _ h => h) (Or.inr ⟨by rfl, rfl⟩) hHeld ?_
        try simp only [Act.put, List.setIfInBounds_toArray, List.set_cons_zero, List.set_cons_succ]
        refine wpAnyH_take (i := 11) (oi := { dst := some 58, op := Go.Op.move (Go.Operand.tmp 2), type := 55, pos := _, after := #[{ on := 6, ground := Go.Ground.guard }], guard := some (6, false) }) (v := undef) rfl (by kernel_rfl) (by kernel_rfl) (by kernel_rfl) (fun _ _ _ h => h) (Or.inr ⟨by rfl, rfl⟩) hHeld ?_
        try simp only [Act.put, List.setIfInBounds_toArray, List.set_cons_zero, List.set_cons_succ]
        refine wpAnyH_take (i := 12) (oi := { dst := some 59, op := Go.Op.call { callee := Go.Callee.value (Go.Operand.func 22), args := #[Go.Operand.tmp 57, Go.Operand.tmp 58], argTypes := #[55, 55] }, type := 4, pos := _, after := #[{ on := 10, ground := Go.Ground.data }, { on := 11, ground := Go.Ground.data }, { on := 6, ground := Go.Ground.chain }, { on := 6, ground := Go.Ground.guard }], guard := some (6, false) }) (v := undef) rfl (by kernel_rfl) (by kernel_rfl) (by kernel_rfl) (fun _ _ _ h => h) (Or.inr ⟨by rfl, rfl⟩) hHeld ?_
        try simp only [Act.put, List.setIfInBounds_toArray, List.set_cons_zero, List.set_cons_succ]
        refine wpAnyH_take (i := 13) (oi := { dst := some 60, op := Go.Op.binOp Go.BinOp.eql 4 (Go.Operand.tmp 56) (Go.Operand.tmp 59) 4, type := 4, pos := _, after := #[{ on := 9, ground := Go.Ground.data }, { on := 12, ground := Go.Ground.data }, { on := 6, ground := Go.Ground.guard }], guard := some (6, false) }) (v := undef) rfl (by kernel_rfl) (by kernel_rfl) (by kernel_rfl) (fun _ _ _ h => h) (Or.inr ⟨by rfl, rfl⟩) hHeld ?_
        try simp only [Act.put, List.setIfInBounds_toArray, List.set_cons_zero, List.set_cons_succ]
        refine wpAnyH_take (i := 14) (oi := { dst := some 61, op := Go.Op.pick (Go.Operand.tmp 53) (Go.Operand.const (Go.Value.bool true)) (Go.Operand.tmp 60), type := 4, pos := _, after := #[{ on := 6, ground := Go.Ground.data }, { on := 13, ground := Go.Ground.data }], guard := none }) (v := .bool true) rfl (by kernel_rfl) (by kernel_rfl) (by kernel_rfl) (fun _ _ _ h => h) (Or.inl ⟨by rfl, fun w' hw' => ?_⟩) hHeld ?_
        · first | (go_simp; done) | (go_simp; rfl)
        try simp only [Act.put, List.setIfInBounds_toArray, List.set_cons_zero, List.set_cons_succ]
        refine wpAnyH_take (i := 15) (oi := { dst := some 6, op := Go.Op.assign (Go.Operand.tmp 61), type := 4, pos := _, after := #[{ on := 14, ground := Go.Ground.data }, { on := 12, ground := Go.Ground.chain }, { on := 0, ground := Go.Ground.phase }, { on := 1, ground := Go.Ground.phase }, { on := 2, ground := Go.Ground.phase }, { on := 3, ground := Go.Ground.phase }, { on := 4, ground := Go.Ground.phase }, { on := 5, ground := Go.Ground.phase }, { on := 6, ground := Go.Ground.phase }, { on := 7, ground := Go.Ground.phase }, { on := 8, ground := Go.Ground.phase }, { on := 9, ground := Go.Ground.phase }, { on := 10, ground := Go.Ground.phase }, { on := 11, ground := Go.Ground.phase }, { on := 12, ground := Go.Ground.phase }, { on := 13, ground := Go.Ground.phase }, { on := 14, ground := Go.Ground.phase }], guard := none }) (v := .bool true) rfl (by kernel_rfl) (by kernel_rfl) (by kernel_rfl) (fun _ _ _ h => h) (Or.inl ⟨by rfl, fun w' hw' => ?_⟩) hHeld ?_
        · first | (go_simp; done) | (go_simp; rfl)
        try simp only [Act.put, List.setIfInBounds_toArray, List.set_cons_zero, List.set_cons_succ]
        refine wpAnyH_done (by kernel_rfl) ?_ _
        have HB : Hid (Below w.heap.size w X) := hHeld.b
        clear hHeld
        go_wp2
        go_ret
        exact ⟨rfl, HB.out⟩
    · rcases hcC with rfl | rfl
      · skip
        refine wpAnyH_take (i := 0) (oi := { dst := some 47, op := Go.Op.move (Go.Operand.tmp 9), type := 38, pos := _, after := #[], guard := none }) (v := .int .i64 2) rfl (by kernel_rfl) (by kernel_rfl) (by kernel_rfl) (fun _ _ _ h => h) (Or.inl ⟨by rfl, fun w' hw' => ?_⟩) hHeld ?_
        · first | (go_simp; done) | (go_simp; rfl)
        try simp only [Act.put, List.setIfInBounds_toArray, List.set_cons_zero, List.set_cons_succ]
        refine wpAnyH_take (i := 2) (oi := { dst := some 49, op := Go.Op.move (Go.Operand.tmp 11), type := 38, pos := _, after := #[], guard := none }) (v := .int .i64 0) rfl (by kernel_rfl) (by kernel_rfl) (by kernel_rfl) (fun _ _ _ h => h) (Or.inl ⟨by rfl, fun w' hw' => ?_⟩) hHeld ?_
        · first | (go_simp; done) | (go_simp; rfl)
        try simp only [Act.put, List.setIfInBounds_toArray, List.set_cons_zero, List.set_cons_succ]
        refine wpAnyH_ready (rs := [1]) (by kernel_rfl) (by simp) ?_
        refine AllReadyH.cons (o := { dst := some 48, op := Go.Op.call { callee := Go.Callee.value (Go.Operand.func 9), args := #[Go.Operand.tmp 47], argTypes := #[38] }, type := 3, pos := _, after := #[{ on := 0, ground := Go.Ground.data }], guard := none }) rfl (fun K hK => ?_) AllReadyH.nil
        rw [if_pos (by rfl)]
        go_wp2_with fail
        refine Calls.mono (num_any 2 X) ?_
        rintro e w' ⟨rfl, rfl⟩
        refine hK.out _ _ hHeld (fun _ => ?_)
        clear hK K
        try simp only [Act.put, List.setIfInBounds_toArray, List.set_cons_zero, List.set_cons_succ]
        refine wpAnyH_ready (rs := [3]) (by kernel_rfl) (by simp) ?_
        refine AllReadyH.cons (o := { dst := some 50, op := Go.Op.call { callee := Go.Callee.value (Go.Operand.func 9), args := #[Go.Operand.tmp 49], argTypes := #[38] }, type := 3, pos := _, after := #[{ on := 2, ground := Go.Ground.data }, { on := 1, ground := Go.Ground.chain }], guard := none }) rfl (fun K hK => ?_) AllReadyH.nil
        rw [if_pos (by rfl)]
        go_wp2_with fail
        refine Calls.mono (num_any 0 X) ?_
        rintro e w' ⟨rfl, rfl⟩
        refine hK.out _ _ hHeld (fun _ => ?_)
        clear hK K
        try simp only [Act.put, List.setIfInBounds_toArray, List.set_cons_zero, List.set_cons_succ]
        refine wpAnyH_take (i := 4) (oi := { dst := some 51, op := Go.Op.binOp Go.BinOp.add 3 (Go.Operand.tmp 48) (Go.Operand.tmp 50) 3, type := 3, pos := _, after := #[{ on := 1, ground := Go.Ground.data }, { on := 3, ground := Go.Ground.data }], guard := none }) (v := .int .i64 2) rfl (by kernel_rfl) (by kernel_rfl) (by kernel_rfl) (fun _ _ _ h => h) (Or.inl ⟨by rfl, fun w' hw' => ?_⟩) hHeld ?_
        · first | (go_simp; done) | (go_simp; rfl)
        try simp only [Act.put, List.setIfInBounds_toArray, List.set_cons_zero, List.set_cons_succ]
        refine wpAnyH_take (i := 5) (oi := { dst := some 52, op := Go.Op.binOp Go.BinOp.neq 3 (Go.Operand.tmp 51) (Go.Operand.const (Go.Value.int Go.IntKind.i64 0)) 3, type := 4, pos := _, after := #[{ on := 4, ground := Go.Ground.data }], guard := none }) (v := .bool true) rfl (by kernel_rfl) (by kernel_rfl) (by kernel_rfl) (fun _ _ _ h => h) (Or.inl ⟨by rfl, fun w' hw' => ?_⟩) hHeld ?_
        · first | (go_simp; done) | (go_simp; rfl)
        try simp only [Act.put, List.setIfInBounds_toArray, List.set_cons_zero, List.set_cons_succ]
        refine wpAnyH_take (i := 6) (oi := { dst := some 53, op := Go.Op.move (Go.Operand.tmp 52), type := 4, pos := _, after := #[{ on := 5, ground := Go.Ground.data }, { on := 3, ground := Go.Ground.chain }], guard := none }) (v := .bool true) rfl (by kernel_rfl) (by kernel_rfl) (by kernel_rfl) (fun _ _ _ h => h) (Or.inl ⟨by rfl, fun w' hw' => ?_⟩) hHeld ?_
        · first | (go_simp; done) | (go_simp; rfl)
        try simp only [Act.put, List.setIfInBounds_toArray, List.set_cons_zero, List.set_cons_succ]
        refine wpAnyH_take (i := 7) (oi := { dst := some 54, op := Go.Op.load 24 (Go.Operand.tmp 8), type := 24, pos := _, after := #[{ on := 6, ground := Go.Ground.guard }], guard := some (6, false) }) (v := undef) rfl (by kernel_rfl) (by kernel_rfl) (by kernel_rfl) (fun _ _ _ h => h) (Or.inr ⟨by rfl, rfl⟩) hHeld ?_
        try simp only [Act.put, List.setIfInBounds_toArray, List.set_cons_zero, List.set_cons_succ]
        refine wpAnyH_take (i := 8) (oi := { dst := some 55, op := Go.Op.load 24 (Go.Operand.tmp 10), type := 24, pos := _, after := #[{ on := 6, ground := Go.Ground.guard }], guard := some (6, false) }) (v := undef) rfl (by kernel_rfl) (by kernel_rfl) (by kernel_rfl) (fun _ _ _ h => h) (Or.inr ⟨by rfl, rfl⟩) hHeld ?_
        try simp only [Act.put, List.setIfInBounds_toArray, List.set_cons_zero, List.set_cons_succ]
        refine wpAnyH_take (i := 9) (oi := { dst := some 56, op := Go.Op.binOp Go.BinOp.eql 24 (Go.Operand.tmp 54) (Go.Operand.tmp 55) 24, type := 4, pos := _, after := #[{ on := 7, ground := Go.Ground.data }, { on := 8, ground := Go.Ground.data }, { on := 6, ground := Go.Ground.guard }], guard := some (6, false) }) (v := undef) rfl (by kernel_rfl) (by kernel_rfl) (by kernel_rfl) (fun _ _ _ h => h) (Or.inr ⟨by rfl, rfl⟩) hHeld ?_
        try simp only [Act.put, List.setIfInBounds_toArray, List.set_cons_zero, List.set_cons_succ]
        refine wpAnyH_take (i := 10) (oi := { dst := some 57, op := Go.Op.move (Go.Operand.tmp 1), type := 55, pos := _, after := #[{ on := 6, ground := Go.Ground.guard }], guard := some (6, false) }) (v := undef) rfl (by kernel_rfl) (by kernel_rfl) (by kernel_rfl) (fun _ _ _ h => h) (Or.inr ⟨by rfl, rfl⟩) hHeld ?_
        try simp only [Act.put, List.setIfInBounds_toArray, List.set_cons_zero, List.set_cons_succ]
        refine wpAnyH_take (i := 11) (oi := { dst := some 58, op := Go.Op.move (Go.Operand.tmp 2), type := 55, pos := _, after := #[{ on := 6, ground := Go.Ground.guard }], guard := some (6, false) }) (v := undef) rfl (by kernel_rfl) (by kernel_rfl) (by kernel_rfl) (fun _ _ _ h => h) (Or.inr ⟨by rfl, rfl⟩) hHeld ?_
        try simp only [Act.put, List.setIfInBounds_toArray, List.set_cons_zero, List.set_cons_succ]
        refine wpAnyH_take (i := 12) (oi := { dst := some 59, op := Go.Op.call { callee := Go.Callee.value (Go.Operand.func 22), args := #[Go.Operand.tmp 57, Go.Operand.tmp 58], argTypes := #[55, 55] }, type := 4, pos := _, after := #[{ on := 10, ground := Go.Ground.data }, { on := 11, ground := Go.Ground.data }, { on := 6, ground := Go.Ground.chain }, { on := 6, ground := Go.Ground.guard }], guard := some (6, false) }) (v := undef) rfl (by kernel_rfl) (by kernel_rfl) (by kernel_rfl) (fun _ _ _ h => h) (Or.inr ⟨by rfl, rfl⟩) hHeld ?_
        try simp only [Act.put, List.setIfInBounds_toArray, List.set_cons_zero, List.set_cons_succ]
        refine wpAnyH_take (i := 13) (oi := { dst := some 60, op := Go.Op.binOp Go.BinOp.eql 4 (Go.Operand.tmp 56) (Go.Operand.tmp 59) 4, type := 4, pos := _, after := #[{ on := 9, ground := Go.Ground.data }, { on := 12, ground := Go.Ground.data }, { on := 6, ground := Go.Ground.guard }], guard := some (6, false) }) (v := undef) rfl (by kernel_rfl) (by kernel_rfl) (by kernel_rfl) (fun _ _ _ h => h) (Or.inr ⟨by rfl, rfl⟩) hHeld ?_
        try simp only [Act.put, List.setIfInBounds_toArray, List.set_cons_zero, List.set_cons_succ]
        refine wpAnyH_take (i := 14) (oi := { dst := some 61, op := Go.Op.pick (Go.Operand.tmp 53) (Go.Operand.const (Go.Value.bool true)) (Go.Operand.tmp 60), type := 4, pos := _, after := #[{ on := 6, ground := Go.Ground.data }, { on := 13, ground := Go.Ground.data }], guard := none }) (v := .bool true) rfl (by kernel_rfl) (by kernel_rfl) (by kernel_rfl) (fun _ _ _ h => h) (Or.inl ⟨by rfl, fun w' hw' => ?_⟩) hHeld ?_
        · first | (go_simp; done) | (go_simp; rfl)
        try simp only [Act.put, List.setIfInBounds_toArray, List.set_cons_zero, List.set_cons_succ]
        refine wpAnyH_take (i := 15) (oi := { dst := some 6, op := Go.Op.assign (Go.Operand.tmp 61), type := 4, pos := _, after := #[{ on := 14, ground := Go.Ground.data }, { on := 12, ground := Go.Ground.chain }, { on := 0, ground := Go.Ground.phase }, { on := 1, ground := Go.Ground.phase }, { on := 2, ground := Go.Ground.phase }, { on := 3, ground := Go.Ground.phase }, { on := 4, ground := Go.Ground.phase }, { on := 5, ground := Go.Ground.phase }, { on := 6, ground := Go.Ground.phase }, { on := 7, ground := Go.Ground.phase }, { on := 8, ground := Go.Ground.phase }, { on := 9, ground := Go.Ground.phase }, { on := 10, ground := Go.Ground.phase }, { on := 11, ground := Go.Ground.phase }, { on := 12, ground := Go.Ground.phase }, { on := 13, ground := Go.Ground.phase }, { on := 14, ground := Go.Ground.phase }], guard := none }) (v := .bool true) rfl (by kernel_rfl) (by kernel_rfl) (by kernel_rfl) (fun _ _ _ h => h) (Or.inl ⟨by rfl, fun w' hw' => ?_⟩) hHeld ?_
        · first | (go_simp; done) | (go_simp; rfl)
        try simp only [Act.put, List.setIfInBounds_toArray, List.set_cons_zero, List.set_cons_succ]
        refine wpAnyH_done (by kernel_rfl) ?_ _
        have HB : Hid (Below w.heap.size w X) := hHeld.b
        clear hHeld
        go_wp2
        go_ret
        exact ⟨rfl, HB.out⟩
      · skip
        refine wpAnyH_take (i := 0) (oi := { dst := some 47, op := Go.Op.move (Go.Operand.tmp 9), type := 38, pos := _, after := #[], guard := none }) (v := .int .i64 2) rfl (by kernel_rfl) (by kernel_rfl) (by kernel_rfl) (fun _ _ _ h => h) (Or.inl ⟨by rfl, fun w' hw' => ?_⟩) hHeld ?_
        · first | (go_simp; done) | (go_simp; rfl)
        try simp only [Act.put, List.setIfInBounds_toArray, List.set_cons_zero, List.set_cons_succ]
        refine wpAnyH_take (i := 2) (oi := { dst := some 49, op := Go.Op.move (Go.Operand.tmp 11), type := 38, pos := _, after := #[], guard := none }) (v := .int .i64 2) rfl (by kernel_rfl) (by kernel_rfl) (by kernel_rfl) (fun _ _ _ h => h) (Or.inl ⟨by rfl, fun w' hw' => ?_⟩) hHeld ?_
        · first | (go_simp; done) | (go_simp; rfl)
        try simp only [Act.put, List.setIfInBounds_toArray, List.set_cons_zero, List.set_cons_succ]
        refine wpAnyH_ready (rs := [1]) (by kernel_rfl) (by simp) ?_
        refine AllReadyH.cons (o := { dst := some 48, op := Go.Op.call { callee := Go.Callee.value (Go.Operand.func 9), args := #[Go.Operand.tmp 47], argTypes := #[38] }, type := 3, pos := _, after := #[{ on := 0, ground := Go.Ground.data }], guard := none }) rfl (fun K hK => ?_) AllReadyH.nil
        rw [if_pos (by rfl)]
        go_wp2_with fail
        refine Calls.mono (num_any 2 X) ?_
        rintro e w' ⟨rfl, rfl⟩
        refine hK.out _ _ hHeld (fun _ => ?_)
        clear hK K
        try simp only [Act.put, List.setIfInBounds_toArray, List.set_cons_zero, List.set_cons_succ]
        refine wpAnyH_ready (rs := [3]) (by kernel_rfl) (by simp) ?_
        refine AllReadyH.cons (o := { dst := some 50, op := Go.Op.call { callee := Go.Callee.value (Go.Operand.func 9), args := #[Go.Operand.tmp 49], argTypes := #[38] }, type := 3, pos := _, after := #[{ on := 2, ground := Go.Ground.data }, { on := 1, ground := Go.Ground.chain }], guard := none }) rfl (fun K hK => ?_) AllReadyH.nil
        rw [if_pos (by rfl)]
        go_wp2_with fail
        refine Calls.mono (num_any 2 X) ?_
        rintro e w' ⟨rfl, rfl⟩
        refine hK.out _ _ hHeld (fun _ => ?_)
        clear hK K
        try simp only [Act.put, List.setIfInBounds_toArray, List.set_cons_zero, List.set_cons_succ]
        refine wpAnyH_take (i := 4) (oi := { dst := some 51, op := Go.Op.binOp Go.BinOp.add 3 (Go.Operand.tmp 48) (Go.Operand.tmp 50) 3, type := 3, pos := _, after := #[{ on := 1, ground := Go.Ground.data }, { on := 3, ground := Go.Ground.data }], guard := none }) (v := .int .i64 4) rfl (by kernel_rfl) (by kernel_rfl) (by kernel_rfl) (fun _ _ _ h => h) (Or.inl ⟨by rfl, fun w' hw' => ?_⟩) hHeld ?_
        · first | (go_simp; done) | (go_simp; rfl)
        try simp only [Act.put, List.setIfInBounds_toArray, List.set_cons_zero, List.set_cons_succ]
        refine wpAnyH_take (i := 5) (oi := { dst := some 52, op := Go.Op.binOp Go.BinOp.neq 3 (Go.Operand.tmp 51) (Go.Operand.const (Go.Value.int Go.IntKind.i64 0)) 3, type := 4, pos := _, after := #[{ on := 4, ground := Go.Ground.data }], guard := none }) (v := .bool true) rfl (by kernel_rfl) (by kernel_rfl) (by kernel_rfl) (fun _ _ _ h => h) (Or.inl ⟨by rfl, fun w' hw' => ?_⟩) hHeld ?_
        · first | (go_simp; done) | (go_simp; rfl)
        try simp only [Act.put, List.setIfInBounds_toArray, List.set_cons_zero, List.set_cons_succ]
        refine wpAnyH_take (i := 6) (oi := { dst := some 53, op := Go.Op.move (Go.Operand.tmp 52), type := 4, pos := _, after := #[{ on := 5, ground := Go.Ground.data }, { on := 3, ground := Go.Ground.chain }], guard := none }) (v := .bool true) rfl (by kernel_rfl) (by kernel_rfl) (by kernel_rfl) (fun _ _ _ h => h) (Or.inl ⟨by rfl, fun w' hw' => ?_⟩) hHeld ?_
        · first | (go_simp; done) | (go_simp; rfl)
        try simp only [Act.put, List.setIfInBounds_toArray, List.set_cons_zero, List.set_cons_succ]
        refine wpAnyH_take (i := 7) (oi := { dst := some 54, op := Go.Op.load 24 (Go.Operand.tmp 8), type := 24, pos := _, after := #[{ on := 6, ground := Go.Ground.guard }], guard := some (6, false) }) (v := undef) rfl (by kernel_rfl) (by kernel_rfl) (by kernel_rfl) (fun _ _ _ h => h) (Or.inr ⟨by rfl, rfl⟩) hHeld ?_
        try simp only [Act.put, List.setIfInBounds_toArray, List.set_cons_zero, List.set_cons_succ]
        refine wpAnyH_take (i := 8) (oi := { dst := some 55, op := Go.Op.load 24 (Go.Operand.tmp 10), type := 24, pos := _, after := #[{ on := 6, ground := Go.Ground.guard }], guard := some (6, false) }) (v := undef) rfl (by kernel_rfl) (by kernel_rfl) (by kernel_rfl) (fun _ _ _ h => h) (Or.inr ⟨by rfl, rfl⟩) hHeld ?_
        try simp only [Act.put, List.setIfInBounds_toArray, List.set_cons_zero, List.set_cons_succ]
        refine wpAnyH_take (i := 9) (oi := { dst := some 56, op := Go.Op.binOp Go.BinOp.eql 24 (Go.Operand.tmp 54) (Go.Operand.tmp 55) 24, type := 4, pos := _, after := #[{ on := 7, ground := Go.Ground.data }, { on := 8, ground := Go.Ground.data }, { on := 6, ground := Go.Ground.guard }], guard := some (6, false) }) (v := undef) rfl (by kernel_rfl) (by kernel_rfl) (by kernel_rfl) (fun _ _ _ h => h) (Or.inr ⟨by rfl, rfl⟩) hHeld ?_
        try simp only [Act.put, List.setIfInBounds_toArray, List.set_cons_zero, List.set_cons_succ]
        refine wpAnyH_take (i := 10) (oi := { dst := some 57, op := Go.Op.move (Go.Operand.tmp 1), type := 55, pos := _, after := #[{ on := 6, ground := Go.Ground.guard }], guard := some (6, false) }) (v := undef) rfl (by kernel_rfl) (by kernel_rfl) (by kernel_rfl) (fun _ _ _ h => h) (Or.inr ⟨by rfl, rfl⟩) hHeld ?_
        try simp only [Act.put, List.setIfInBounds_toArray, List.set_cons_zero, List.set_cons_succ]
        refine wpAnyH_take (i := 11) (oi := { dst := some 58, op := Go.Op.move (Go.Operand.tmp 2), type := 55, pos := _, after := #[{ on := 6, ground := Go.Ground.guard }], guard := some (6, false) }) (v := undef) rfl (by kernel_rfl) (by kernel_rfl) (by kernel_rfl) (fun _ _ _ h => h) (Or.inr ⟨by rfl, rfl⟩) hHeld ?_
        try simp only [Act.put, List.setIfInBounds_toArray, List.set_cons_zero, List.set_cons_succ]
        refine wpAnyH_take (i := 12) (oi := { dst := some 59, op := Go.Op.call { callee := Go.Callee.value (Go.Operand.func 22), args := #[Go.Operand.tmp 57, Go.Operand.tmp 58], argTypes := #[55, 55] }, type := 4, pos := _, after := #[{ on := 10, ground := Go.Ground.data }, { on := 11, ground := Go.Ground.data }, { on := 6, ground := Go.Ground.chain }, { on := 6, ground := Go.Ground.guard }], guard := some (6, false) }) (v := undef) rfl (by kernel_rfl) (by kernel_rfl) (by kernel_rfl) (fun _ _ _ h => h) (Or.inr ⟨by rfl, rfl⟩) hHeld ?_
        try simp only [Act.put, List.setIfInBounds_toArray, List.set_cons_zero, List.set_cons_succ]
        refine wpAnyH_take (i := 13) (oi := { dst := some 60, op := Go.Op.binOp Go.BinOp.eql 4 (Go.Operand.tmp 56) (Go.Operand.tmp 59) 4, type := 4, pos := _, after := #[{ on := 9, ground := Go.Ground.data }, { on := 12, ground := Go.Ground.data }, { on := 6, ground := Go.Ground.guard }], guard := some (6, false) }) (v := undef) rfl (by kernel_rfl) (by kernel_rfl) (by kernel_rfl) (fun _ _ _ h => h) (Or.inr ⟨by rfl, rfl⟩) hHeld ?_
        try simp only [Act.put, List.setIfInBounds_toArray, List.set_cons_zero, List.set_cons_succ]
        refine wpAnyH_take (i := 14) (oi := { dst := some 61, op := Go.Op.pick (Go.Operand.tmp 53) (Go.Operand.const (Go.Value.bool true)) (Go.Operand.tmp 60), type := 4, pos := _, after := #[{ on := 6, ground := Go.Ground.data }, { on := 13, ground := Go.Ground.data }], guard := none }) (v := .bool true) rfl (by kernel_rfl) (by kernel_rfl) (by kernel_rfl) (fun _ _ _ h => h) (Or.inl ⟨by rfl, fun w' hw' => ?_⟩) hHeld ?_
        · first | (go_simp; done) | (go_simp; rfl)
        try simp only [Act.put, List.setIfInBounds_toArray, List.set_cons_zero, List.set_cons_succ]
        refine wpAnyH_take (i := 15) (oi := { dst := some 6, op := Go.Op.assign (Go.Operand.tmp 61), type := 4, pos := _, after := #[{ on := 14, ground := Go.Ground.data }, { on := 12, ground := Go.Ground.chain }, { on := 0, ground := Go.Ground.phase }, { on := 1, ground := Go.Ground.phase }, { on := 2, ground := Go.Ground.phase }, { on := 3, ground := Go.Ground.phase }, { on := 4, ground := Go.Ground.phase }, { on := 5, ground := Go.Ground.phase }, { on := 6, ground := Go.Ground.phase }, { on := 7, ground := Go.Ground.phase }, { on := 8, ground := Go.Ground.phase }, { on := 9, ground := Go.Ground.phase }, { on := 10, ground := Go.Ground.phase }, { on := 11, ground := Go.Ground.phase }, { on := 12, ground := Go.Ground.phase }, { on := 13, ground := Go.Ground.phase }, { on := 14, ground := Go.Ground.phase }], guard := none }) (v := .bool true) rfl (by kernel_rfl) (by kernel_rfl) (by kernel_rfl) (fun _ _ _ h => h) (Or.inl ⟨by rfl, fun w' hw' => ?_⟩) hHeld ?_
        · first | (go_simp; done) | (go_simp; rfl)
        try simp only [Act.put, List.setIfInBounds_toArray, List.set_cons_zero, List.set_cons_succ]
        refine wpAnyH_done (by kernel_rfl) ?_ _
        have HB : Hid (Below w.heap.size w X) := hHeld.b
        clear hHeld
        go_wp2
        go_ret
        exact ⟨rfl, HB.out⟩
end Go.Proofs.Ytpmknkagnkagpaa.ZC
namespace Go.Proofs.Ytpmknkagnkagpaa.measureApart
open Go.ChangeShapes Go.WideShapes Go.ChangeAt Go.RowKit
theorem own : ownKnob Try.prog.godebug = none := by kernel_rfl
theorem laidOut : laidOutB Try.prog = true := by kernel_rfl
theorem walk (a0 : Option Addr) (len0 cap0 : Nat) (D : List (List UInt8)) (v1 : Value) (l : List ZC.Rd) (v2 : Value) (k : List ZC.Rd) (w : World) (hD : D.length ≤ 9223372036854775807) (ha0 : a0 = none → cap0 = 0) (hd : R5.HDs w (.slice a0 len0 cap0) D) (hl : l.length ≤ 9223372036854775807) (hv1 : ZC.HR w v1 l) (hk : k.length ≤ 9223372036854775807) (hv2 : ZC.HR w v2 k) :
    Calls Try.prog 4 #[.slice a0 len0 cap0, v1, v2] w fun e w' => e = .returned (.bool true) ∧ Below w.heap.size w w' := ZC.apart_walk a0 len0 cap0 D v1 l v2 k w hD ha0 hd hl hv1 hk hv2
set_option maxRecDepth 100000 in
theorem lifted (os : Os) (started : os.Started) (H : Type) (enc : TypeId × Value → H) :
    ReturnsInHanded {} Try.checked os 4 .any (Rows.measureApartSpec.pre6 enc Try.prog Try.f4 Rows.measureApartRow.domain false) (Rows.measureApartSpec.post enc Try.prog Try.f4 false true false false) := by
  refine returnsInHanded_of_change (C := Try.checked) own started (by kernel_rfl) Try.func4
    (ChangeSpec.witness6 (enc := enc) (C := Try.checked) false ⟨#[], #[.slice none 0 0, .slice none 0 0, .slice none 0 0], []⟩ 8 (by kernel_rfl) (by kernel_rfl) (by kernel_rfl) (by kernel_rfl)) ?_
  intro W base args ds gs before hval0 hW hcnd _
  have hval : ∀ (j : Nat) t v, Try.f4.params[j]? = some t → args[j]? = some v → Value.okWide Try.prog W .any base t v := hval0
  have hW' := hW
  obtain ⟨p, q, hA0, hV, rfl, hfz, hnd⟩ := hW
  have hA : DataW.TrodAll enc Try.prog W 0 (fun _ => true) true Try.f4.params.toList args.toList ds p := hA0
  rw [Try.params4] at hA hval
  obtain ⟨v0, vs0, d0, ds0, p0, q0, hargs, rfl, rfl, h0, r0⟩ := trodAll_cons hA
  obtain ⟨v1, vs1, d1, ds1, p1, q1, rfl, rfl, rfl, h1, r1⟩ := trodAll_cons r0
  obtain ⟨v2, vs2, d2, ds2, p2, q2, rfl, rfl, rfl, h2, r2⟩ := trodAll_cons r1
  obtain ⟨rfl, rfl, rfl⟩ := trodAll_nil r2
  obtain rfl : args = #[v0, v1, v2] := by cases args; simp_all
  obtain ⟨rfl, rfl⟩ := trodVars_none hV
  obtain ⟨a0, len0, cap0, rfl⟩ := okWide_slice Try.underlying22 (hval 0 22 v0 rfl rfl)
  have k0 := h0
  have lt0 : ∀ x ∈ p0, x.block < W.heap.size := by obtain ⟨m, hm⟩ := k0; exact DataW.trod_lt m _ _ _ hm
  obtain ⟨l0, hl0, hm0, hn0⟩ : ∃ ds, R5.HDs W (.slice a0 len0 cap0) ds ∧ ds.length ≤ 9223372036854775807 ∧ (a0 = none → cap0 = 0) := by obtain ⟨fuel, hf⟩ := h0; exact R5.open_digs hf
  obtain ⟨a1, len1, cap1, rfl⟩ := okWide_slice Try.underlying55 (hval 1 55 v1 rfl rfl)
  have k1 := h1
  have lt1 : ∀ x ∈ p1, x.block < W.heap.size := by obtain ⟨m, hm⟩ := k1; exact DataW.trod_lt m _ _ _ hm
  obtain ⟨l1, hl1, hm1⟩ : ∃ ls, ZC.HR W (.slice a1 len1 cap1) ls ∧ ls.length ≤ 9223372036854775807 := by obtain ⟨fuel, hf⟩ := h1; exact ZC.open_recs hf
  obtain ⟨a2, len2, cap2, rfl⟩ := okWide_slice Try.underlying55 (hval 2 55 v2 rfl rfl)
  have k2 := h2
  have lt2 : ∀ x ∈ p2, x.block < W.heap.size := by obtain ⟨m, hm⟩ := k2; exact DataW.trod_lt m _ _ _ hm
  obtain ⟨l2, hl2, hm2⟩ : ∃ ls, ZC.HR W (.slice a2 len2 cap2) ls ∧ ls.length ≤ 9223372036854775807 := by obtain ⟨fuel, hf⟩ := h2; exact ZC.open_recs hf
  clear hA0 hval0
  refine (walk _ _ _ l0 _ l1 _ l2 W hm0 hn0 hl0 hm1 hl1 hm2 hl2).mono fun e W' ⟨he, bel⟩ => ?_
  subst he
  exact ⟨_, rfl, _, _, _, [], _, [], hW', trodAll_mk1 (shut_bool Try.underlying4 _), (trodAll_cons_mk (Below.trod laidOut (by kernel_rfl) (of_decide_eq_true (by kernel_rfl)) k0 bel lt0) (trodAll_cons_mk (Below.trod laidOut (by kernel_rfl) (of_decide_eq_true (by kernel_rfl)) k1 bel lt1) (trodAll_cons_mk (Below.trod laidOut (by kernel_rfl) (of_decide_eq_true (by kernel_rfl)) k2 bel lt2) trodAll_mk0))), rfl, bel.frame _, fun h => by cases h⟩

theorem over : Rows.measureApartRow.holds Try.pinned (OpenSpec.ofChange Rows.measureApartSpec) :=
  OpenClaim.holds_of_wide 4 Try.f4 rfl rfl rfl rfl rfl rfl rfl ⟨rfl, rfl, rfl, rfl, rfl⟩ rfl rfl rfl rfl rfl (by kernel_rfl) Try.func4 (by kernel_rfl)
    (of_decide_eq_true (by kernel_rfl)) (by unfold Func.isWrapper; first | (rw [if_pos (by decide +kernel)]; kernel_rfl) | (rw [if_neg (by decide +kernel)]; exact ⟨rfl, rfl⟩))
    (fun os started H enc _ => lifted os started H enc)

end Go.Proofs.Ytpmknkagnkagpaa.measureApart
namespace Go.Proofs.Ytpmknkagnkagpaa
theorem measureApart_holds : Rows.MeasureApartSaid := measureApart.over
#print axioms measureApart_holds
end Go.Proofs.Ytpmknkagnkagpaa
