import Derived.Test.YtekbppfocnbhbaaGreatXB
import Derived.Test.YtekbppfocnbhbaaGreatXD
set_option linter.unusedVariables false
set_option linter.unusedSimpArgs false
set_option maxHeartbeats 16000000
set_option maxRecDepth 100000
namespace Go.Proofs.YtekbppfocnbhbaaGreat.XC
open Go.RowKit
def TEnd (w : World) (r : Rm) (e : Ending) (w' : World) : Prop := ∃ v', e = .returned (.agg (rmL r v').toArray) ∧ w'.ownsRow w.heap.size 69 172 v' r.log.length (lgC r.log) ∧ Below w.heap.size w w'
theorem alloc_two (w : World) (A B : Array Value) (t : TypeId) (w1 : World) (h : w1 = (w.alloc (.cells A t (0, 0))).alloc (.cells B t (0, 0))) :
    Below w.heap.size w w1 ∧ w1.heap.size = w.heap.size + 2 ∧ w1.heap[w.heap.size]? = some (.cells A t (0, 0)) ∧ w1.heap[w.heap.size + 1]? = some (.cells B t (0, 0)) := by
  subst h
  refine ⟨((Below.refl _ _).alloc (Nat.le_refl _) _).alloc (by simp) _, by simp, R5.alloc2_first _ _ _, R5.heap_at _ _ _ (by simp)⟩
theorem told_any (r : Rm) (lv : Value) (w : World) (hok : r.ok) (hr : HR w lv r.log) (hl : r.log.length < 1000000) :
    Calls Tryz.prog 44 #[.agg (rmL r lv).toArray] w fun e w' => TEnd w r e w' := by
  obtain ⟨p, c, hlv⟩ := hr.form
  have hz := fun W => zero_rm W
  obtain ⟨ZL, hZL⟩ : ∃ L, L = rmL zR (.slice none 0 0) := ⟨_, rfl⟩
  rw [← hZL] at hz
  have HZS : Hid (ZL.toArray.size = 103) := by show _ = _; rw [hZL]; simpa using rmL_len zR_ok _
  obtain ⟨RL, hRL⟩ : ∃ L, L = rmL r lv := ⟨_, rfl⟩
  rw [← hRL]
  obtain ⟨w1, hw1⟩ : ∃ w1, w1 = (w.alloc (.cells RL.toArray 47 (0, 0))).alloc (.cells ZL.toArray 47 (0, 0)) := ⟨_, rfl⟩
  obtain ⟨hb1, hs1, hr0, hr1⟩ := alloc_two w RL.toArray ZL.toArray 47 w1 hw1
  have hc0 : w1.cell? ⟨w.heap.size, 36, none⟩ = some (.slice p r.log.length c) := by rw [PC.rangeAt_row hr0 36 lv (by rw [hRL]; exact rmL_36 hok lv), hlv]
  have HCL : Hid (Calls Tryz.prog 77 #[.slice p r.log.length c] w1 fun e w' => ∃ v', e = .returned v' ∧ w'.ownsRow w1.heap.size 69 172 v' r.log.length (lgC r.log) ∧ Below w1.heap.size w1 w') := by
    rw [← hlv]; exact cloneR_any (hr.below hb1) hok.l hl
  rw [hw1] at hc0 HCL
  have HS1 : Hid (w1.heap.size = w.heap.size + 2) := hs1
  have HR0 : Hid (w1.heap[w.heap.size]? = _) := hr0
  have HR1 : Hid (w1.heap[w.heap.size + 1]? = _) := hr1
  have HB1 : Hid (Below w.heap.size w w1) := hb1
  have HSET : Hid (∀ v, RL.toArray.setIfInBounds 36 v = (rmL r v).toArray) := fun v => by rw [hRL, List.setIfInBounds_toArray, rmL_set36 hok]
  have HRL : Hid (RL = rmL r lv) := hRL
  have HLV : Hid (lv = .slice p r.log.length c) := hlv
  have HOK : Hid (r.ok) := hok
  clear hZL hRL hs1 hr0 hr1 hb1 hr hlv
  go_enter Tryz.func44, Tryz.ntmps44
  go_wp2_with fail
  refine Calls.mono HCL.out ?_
  rintro e w2 ⟨v2, rfl, hown, hb2⟩
  rw [← hw1] at hown hb2
  have hs1 := HS1.out
  rw [hs1] at hown hb2
  have hrow2 : w2.heap[w.heap.size]? = some (.cells RL.toArray 47 (0, 0)) := (hb2.block _ (by omega)).trans HR0.out
  have hc2 : w2.cell? ⟨w.heap.size, 36, none⟩ = some (.slice p r.log.length c) := by rw [PC.rangeAt_row hrow2 36 lv (by rw [HRL.out]; exact rmL_36 HOK.out lv), HLV.out]
  have hf2 := frozen_of_row _ _ 36 _ _ hrow2
  obtain ⟨p2, k2, hv2⟩ := (HO.hr hown).form
  subst hv2
  have HR3 : Hid ((w2.setCell ⟨w.heap.size, 36, none⟩ (.slice p2 r.log.length k2)).heap[w.heap.size]? = some (.cells (rmL r (.slice p2 r.log.length k2)).toArray 47 (0, 0))) := by show _ = _; rw [heap_setCell_same _ _ 36 _ _ _ hrow2, HSET.out]
  have hne : w.heap.size + 1 ≠ w.heap.size := by omega
  have HR4 : Hid ((w2.setCell ⟨w.heap.size, 36, none⟩ (.slice p2 r.log.length k2)).heap[w.heap.size + 1]? = some (.cells ZL.toArray 47 (0, 0))) := (heap_setCell_other _ _ _ _ hne).trans ((hb2.block _ (by omega)).trans HR1.out)
  have HB3 : Hid (Below w.heap.size w (w2.setCell ⟨w.heap.size, 36, none⟩ (.slice p2 r.log.length k2))) := (HB1.out.trans (hb2.mono (by omega))).setCell (Nat.le_refl _) _
  have hownS : (w2.setCell ⟨w.heap.size, 36, none⟩ (.slice p2 r.log.length k2)).ownsRow (w.heap.size + 2) 69 172 (.slice p2 r.log.length k2) r.log.length (lgC r.log) := R5.own_keep hown (fun k e _ => heap_setCell_other _ _ _ _ (by have := (hown.lt k e).1; show k ≠ w.heap.size; omega))
  have HOWN : Hid ((w2.setCell ⟨w.heap.size, 36, none⟩ (.slice p2 r.log.length k2)).ownsRow (w.heap.size + 2) 69 172 (.slice p2 r.log.length k2) r.log.length (lgC r.log)) := hownS
  have HNL : Hid ((rmL r (.slice p2 r.log.length k2)).length = 103) := rmL_len HOK.out _
  have HN1 : Hid ((rmL r (.slice p2 r.log.length k2)).toArray.all (·.oneCell') = true) := PC.onea (rmL_one r _ rfl)
  clear hown hownS hrow2 hb2
  generalize hNL : rmL r (.slice p2 r.log.length k2) = NL at *
  have HNLE : Hid _ := hNL
  clear hNL
  have HNI : Hid _ := info103 NL HNL.out
  have HNA : Hid ((Tryz.prog.info? 47).map (·.size) = some NL.toArray.size) := info103a _ (by simpa using HNL.out)
  have HZN : Hid (ZL.toArray.size = NL.toArray.size) := by have := HZS.out; have := HNL.out; simp_all
  have HRR : Hid ((w2.setCell ⟨w.heap.size, 36, none⟩ (.slice p2 r.log.length k2)).rangeAt w.heap.size 0 NL) := PC.rangeAt_row HR3.out
  go_wp2_with (first
    | (refine wpList_load_mid rfl 47 _ rfl w.heap.size 0 rfl NL _ HRR.out Tryz.underlying47 rfl HNI.out ?_)
    | (refine wpList_store_row rfl 47 _ _ rfl (w.heap.size + 1) NL.toArray rfl rfl 47 ZL.toArray HR4.out HNA.out HZN.out HN1.out ?_))
  generalize w2.setCell ⟨w.heap.size, 36, none⟩ (.slice p2 r.log.length k2) = w3 at *
  have HEND : Hid (TEnd w r (.returned (.agg NL.toArray)) (w3.setRow (w.heap.size + 1) NL.toArray)) := by
    refine ⟨.slice p2 r.log.length k2, by rw [HNLE.out], ?_, below_setRow HB3.out (by omega) _⟩
    have h1 : w3.ownsRow w.heap.size 69 172 (.slice p2 r.log.length k2) r.log.length (lgC r.log) := R5.own_lower HOWN.out (by omega)
    exact R5.own_keep h1 (fun k e _ => setRow_other _ _ _ _ (by have := ((show _ from HOWN.out : w3.ownsRow (w.heap.size + 2) 69 172 (.slice p2 r.log.length k2) r.log.length (lgC r.log)).lt k e).1; omega))
  refine bodyPost_ret (v := .agg NL.toArray) ?_ rfl HEND.out
  exact results_cell_row Tryz.results44 _ _ (w.heap.size + 1) 47 _ (0, 0) _ rfl (setRow_heap _ _ _ _ _ _ HR4.out) Tryz.underlying47 rfl HNA.out
theorem number_any (n : Nat) (w : World) (hn : n < 18446744073709551616) :
    Calls Tryz.prog 49 #[.int .u64 (n : Int)] w fun e w' => e = .returned (.slice (some ⟨w.heap.size, 0, none⟩) 8 8) ∧ FB w.heap.size w' (.slice (some ⟨w.heap.size, 0, none⟩) 8 8) (W1.le 8 n) ∧ Below w.heap.size w w' := by
  have HP : Hid (Calls Tryz.prog 81 #[.int .u64 (n : Int), .int .i64 (8 : Int)] w fun e w' => e = .returned (.tuple #[.slice (some ⟨w.heap.size, 0, none⟩) 8 8, .int .i64 0]) ∧ FB w.heap.size w' (.slice (some ⟨w.heap.size, 0, none⟩) 8 8) (W1.le 8 n) ∧ Below w.heap.size w w') := put_ok n 8 w (by decide) (by decide) hn hn
  go_enter Tryz.func49, Tryz.ntmps49
  go_wp2_with fail
  refine Calls.mono HP.out ?_
  rintro e w1 ⟨rfl, hf, hb⟩
  have HF : Hid _ := hf
  clear hf HP
  go_wp2
  go_ret
  exact ⟨rfl, HF.out, hb⟩
def zQ : R5.Qn := ⟨0, List.replicate 32 0, 0, []⟩
theorem build_zq (w : World) : (Instr.build 138 #[]).run Tryz.prog w = .ok (.agg (R5.qL zQ (.slice none 0 0)).toArray) w := by kernel_rfl
theorem noOr_no (og mo : Nat) (w : World) (hc : w.cell? ⟨og, 35, none⟩ = some (.map (some mo))) : Calls Tryz.prog 55 #[.pointer (some ⟨og, 0, none⟩)] w fun e w' => e = .returned (.bool false) ∧ Below w.heap.size w w' := by
  have hak := R5.pask_bad og mo (.slice none 0 0) zQ w hc (by rfl) (by decide)
  clear hc
  have hz := fun W => R5.zero_dig W
  obtain ⟨ZL, hZL⟩ : ∃ L, L = (List.replicate 32 (0 : UInt8)).map B8 := ⟨_, rfl⟩
  rw [← hZL] at hz
  have HZS : Hid (ZL.toArray.size = 32) := by show _ = _; rw [hZL]; simp
  have HZ1 : Hid (ZL.toArray.all (·.oneCell') = true) := by show _ = _; rw [hZL]; exact R5.B8_onea _
  have HBQ : Hid (∀ W, (Instr.build 138 #[]).run Tryz.prog W = .ok (.agg (R5.qL zQ (.slice none 0 0)).toArray) W) := build_zq
  generalize (R5.qL zQ (.slice none 0 0)).toArray = QA at *
  have HAK : Hid (∀ P, (∀ e w', e = .returned (.tuple #[.agg ZL.toArray, .int .i64 (2 : Int)]) → Below w.heap.size w w' → P e w') → Calls Tryz.prog 79 #[.pointer (some ⟨og, 0, none⟩), .agg QA] w P) := fun P hP => hak.mono (fun e w' ⟨h1, h2⟩ => hP e w' (by rw [h1, hZL]; rfl) h2)
  clear hZL hak
  go_enter Tryz.func55, Tryz.ntmps55
  go_wp2_with (first | (refine PC.wpList_build rfl 138 _ rfl #[] (.agg QA) (by simp) (HBQ.out _) ?_) | (go_at_call 79; fail))
  refine HAK.out _ ?_
  rintro e w1 rfl hb1
  have HB1 : Hid (Below w.heap.size w w1) := hb1
  have hs1 := hb1.size
  have HRW : Hid ((w1.alloc (.cells ZL.toArray 33 (0, 0))).heap[w1.heap.size]? = some (.cells ZL.toArray 33 (0, 0))) := heap_alloc_new _ _
  clear hb1 HAK HBQ
  go_wp2_with (refine wpList_store_row rfl 33 _ _ rfl w1.heap.size ZL.toArray rfl rfl 33 ZL.toArray HRW.out (R5.info32a _ HZS.out) rfl HZ1.out ?_)
  go_ret
  exact ⟨rfl, below_setRow (HB1.out.alloc (by omega) _) (by omega) _⟩
theorem noOr_yes (pv : Value) (w : World) (hn : ∀ X, Below w.heap.size w X → Calls Tryz.prog 56 #[pv] X fun e w' => e = .returned (.bool true) ∧ w' = X) : Calls Tryz.prog 55 #[pv] w fun e w' => e = .returned (.bool true) ∧ Below w.heap.size w w' := by
  have hak := R5.pask_none pv (R5.qL zQ (.slice none 0 0)) w hn
  clear hn
  have hz := fun W => R5.zero_dig W
  obtain ⟨ZL, hZL⟩ : ∃ L, L = (List.replicate 32 (0 : UInt8)).map B8 := ⟨_, rfl⟩
  rw [← hZL] at hz
  have HZS : Hid (ZL.toArray.size = 32) := by show _ = _; rw [hZL]; simp
  have HZ1 : Hid (ZL.toArray.all (·.oneCell') = true) := by show _ = _; rw [hZL]; exact R5.B8_onea _
  have HBQ : Hid (∀ W, (Instr.build 138 #[]).run Tryz.prog W = .ok (.agg (R5.qL zQ (.slice none 0 0)).toArray) W) := build_zq
  generalize (R5.qL zQ (.slice none 0 0)).toArray = QA at *
  have HAK : Hid (∀ P, (∀ e w', e = .returned (.tuple #[.agg ZL.toArray, .int .i64 (1 : Int)]) → Below w.heap.size w w' → P e w') → Calls Tryz.prog 79 #[pv, .agg QA] w P) := fun P hP => hak.mono (fun e w' ⟨h1, h2⟩ => hP e w' (by rw [h1, hZL]; rfl) h2)
  clear hZL hak
  go_enter Tryz.func55, Tryz.ntmps55
  go_wp2_with (first | (refine PC.wpList_build rfl 138 _ rfl #[] (.agg QA) (by simp) (HBQ.out _) ?_) | (go_at_call 79; fail))
  refine HAK.out _ ?_
  rintro e w1 rfl hb1
  have HB1 : Hid (Below w.heap.size w w1) := hb1
  have hs1 := hb1.size
  have HRW : Hid ((w1.alloc (.cells ZL.toArray 33 (0, 0))).heap[w1.heap.size]? = some (.cells ZL.toArray 33 (0, 0))) := heap_alloc_new _ _
  clear hb1 HAK HBQ
  go_wp2_with (refine wpList_store_row rfl 33 _ _ rfl w1.heap.size ZL.toArray rfl rfl 33 ZL.toArray HRW.out (R5.info32a _ HZS.out) rfl HZ1.out ?_)
  go_ret
  exact ⟨rfl, below_setRow (HB1.out.alloc (by omega) _) (by omega) _⟩
def xL (og mb last : Nat) : List Value := [.pointer (some ⟨og, 0, none⟩), .map (some mb), PC.U8 last]
theorem none_live (xb og mo mb last : Nat) (w : World) (hr : w.heap[xb]? = some (.cells (xL og mb last).toArray 80 (0, 0))) (hc : w.cell? ⟨og, 35, none⟩ = some (.map (some mo))) :
    Calls Tryz.prog 54 #[.pointer (some ⟨xb, 0, none⟩)] w fun e w' => e = .returned (.bool false) ∧ Below w.heap.size w w' := by
  have h0 : w.cell? ⟨xb, 0, none⟩ = some (.pointer (some ⟨og, 0, none⟩)) := by rw [cell_of_row _ _ 0 _ _ _ hr]; rfl
  have HN : Hid _ := noOr_no og mo w hc
  clear hr hc
  go_enter Tryz.func54, Tryz.ntmps54
  go_wp2_with fail
  refine Calls.mono HN.out ?_
  rintro e w1 ⟨rfl, hb⟩
  have HB : Hid _ := hb
  clear hb HN
  go_wp2
  go_ret
  exact ⟨rfl, HB.out⟩
def FP (xb mb : Nat) (l : List En) (k : Nat) : Prop := k = xb ∨ k = mb ∨ ∃ x ∈ l, x.2.2.ownBlock = some k
structure PX (n og xb mb : Nat) (I : Nat → Prop) (X : World) (l : List En) (last : Nat) : Prop where
  row : X.heap[xb]? = some (.cells (xL og mb last).toArray 80 (0, 0))
  map : MR X mb l
  ok : ∀ x ∈ l, x.2.1.ok
  own : ∀ x ∈ l, HO X x.2.2 x.2.1.log
  apart : l.Pairwise (fun x y => ∀ k, x.2.2.ownBlock = some k → y.2.2.ownBlock ≠ some k)
  fI : ∀ k, FP xb mb l k → I k ∧ n ≤ k
  far : ∀ x ∈ l, ∀ k, x.2.2.ownBlock = some k → k ≠ xb ∧ k ≠ mb
section
variable {n og xb mb last : Nat} {I J : Nat → Prop} {X Y : World} {l : List En}
theorem PX.ne (h : PX n og xb mb I X l last) : mb ≠ xb := fun e => by
  obtain ⟨es, c, h1, _⟩ := h.map.ex
  rw [e, h.row] at h1
  cases h1
theorem PX.keep (h : PX n og xb mb I X l last) (hI : ∀ k, I k → J k) (hk : ∀ k, FP xb mb l k → k < X.heap.size → Y.heap[k]? = X.heap[k]?) : PX n og xb mb J Y l last :=
  ⟨(hk xb (.inl rfl) (PC.row_lt h.row)).trans h.row, h.map.keep (hk mb (.inr (.inl rfl)) h.map.lt), h.ok, fun x hx => R5.own_keep (h.own x hx) (fun k e hl => hk k (.inr (.inr ⟨x, hx, e⟩)) hl), h.apart, fun k hf => ⟨hI k (h.fI k hf).1, (h.fI k hf).2⟩, h.far⟩
theorem PX.hr (h : PX n og xb mb I X l last) {x : En} (hx : x ∈ l) : HR X x.2.2 x.2.1.log := HO.hr (h.own x hx)
theorem HO.lt {w : World} {v : Value} {l : List Rd} (h : HO w v l) : ∀ k, v.ownBlock = some k → k < w.heap.size := fun k e => (World.ownsRow.lt h k e).2
theorem PX.top (h : PX n og xb mb I X l last) : ∀ k, FP xb mb l k → k < X.heap.size := fun k hk => by
  rcases hk with rfl | rfl | ⟨x, hx, e⟩
  · exact PC.row_lt h.row
  · exact h.map.lt
  · exact HO.lt (h.own x hx) k e
theorem PX.cells (h : PX n og xb mb I X l last) : X.cell? ⟨xb, 0, none⟩ = some (.pointer (some ⟨og, 0, none⟩)) ∧ X.cell? ⟨xb, 1, none⟩ = some (.map (some mb)) ∧ X.cell? ⟨xb, 2, none⟩ = some (.int .u64 (last : Int)) := by
  refine ⟨?_, ?_, ?_⟩ <;> (rw [cell_of_row _ _ _ _ _ _ h.row]; rfl)
end
theorem MM_oc {w K X : World} {n tn og mo rg : Nat} {m : List UInt8} {D : List (List UInt8)} {L R : List (R5.Qn × List UInt8)} {I : Nat → Prop} (h : R5.MM w n tn og mo rg m D L R I K X) : X.cell? ⟨og, 35, none⟩ = some (.map (some mo)) := by
  obtain ⟨S, dv, ov, T, dr, lv, lds, h1, h2, h3, h4, h5, h6⟩ := h.ex
  exact h1.cells.2.2.2.1
structure Cx where
  w : World
  n : Nat
  og : Nat
  mo : Nat
  rg : Nat
  m : List UInt8
  D : List (List UInt8)
  xb : Nat
  mb : Nat
  Sn : List (Value × List Rd)
structure JP (c : Cx) (tn : Nat) (L R : List (R5.Qn × List UInt8)) (I : Nat → Prop) (X : World) (l : List En) (last : Nat) : Prop where
  mm : R5.MM c.w c.n tn c.og c.mo c.rg c.m c.D L R I X X
  px : PX c.n c.og c.xb c.mb I X l last
section
variable {c : Cx} {tn last : Nat} {L R : List (R5.Qn × List UInt8)} {I J : Nat → Prop} {X Y : World} {l : List En}
theorem JP.step (h : JP c tn L R I X l last) (hb : Below X.heap.size X Y) : JP c tn L R I Y l last := ⟨(h.mm.step hb).fix, h.px.keep (fun _ h => h) (fun k _ hl => hb.block k hl)⟩
theorem JP.grow (h : JP c tn L R I X l last) (hb : Below X.heap.size X Y) : JP c tn L R (fun k => I k ∨ (X.heap.size ≤ k ∧ k < Y.heap.size)) Y l last :=
  ⟨h.mm.go (R5.Fr.ofBelow hb) (fun _ h => h), h.px.keep (fun _ h => .inl h) (fun k _ hl => hb.block k hl)⟩
theorem JP.oc (h : JP c tn L R I X l last) : X.cell? ⟨c.og, 35, none⟩ = some (.map (some c.mo)) := MM_oc h.mm
theorem JP.nonO (h : JP c tn L R I X l last) : Calls Tryz.prog 54 #[.pointer (some ⟨c.xb, 0, none⟩)] X fun e Y => e = .returned (.bool false) ∧ Below X.heap.size X Y := none_live c.xb c.og c.mo c.mb last X h.px.row h.oc
theorem JP.listO (h : JP c tn L R I X l last) : Calls Tryz.prog 45 #[.pointer (some ⟨c.xb, 0, none⟩)] X fun e Y => e = .returned (.map (some c.mb)) ∧ Below X.heap.size X Y := by
  have HN : Hid _ := h.nonO
  have HJ : Hid (JP c tn L R I X l last) := h
  clear h
  go_enter Tryz.func45, Tryz.ntmps45
  go_wp2_with fail
  refine Calls.mono HN.out ?_
  rintro e w1 ⟨rfl, hb⟩
  have h1 := (HJ.out.step hb).px.cells.2.1
  have HB : Hid (Below X.heap.size X w1) := hb
  clear hb HN
  go_wp2
  go_ret
  exact ⟨rfl, HB.out⟩
def NoRd (l : List En) (rd : Int) : Prop := ∀ x ∈ l, x.1 ≠ rd
theorem JP.at_no (h : JP c tn L R I X l last) {rd : Int} (hrd : iOk rd) (hno : NoRd l rd) :
    Calls Tryz.prog 43 #[.pointer (some ⟨c.xb, 0, none⟩), .int .i64 rd] X fun e Y => e = .returned (.tuple #[.agg (rmL zR (.slice none 0 0)).toArray, .int .i64 6]) ∧ Below X.heap.size X Y := by
  have HN : Hid _ := h.nonO
  have HJ : Hid (JP c tn L R I X l last) := h
  have hz := fun W => zero_rm W
  have HBZ : Hid (∀ W, (Instr.build 47 #[]).run Tryz.prog W = .ok (.agg (rmL zR (.slice none 0 0)).toArray) W) := build_zrm
  obtain ⟨ZL, hZL⟩ : ∃ L, L = rmL zR (.slice none 0 0) := ⟨_, rfl⟩
  rw [← hZL] at hz HBZ
  have HZN : Hid (ZL.length = 103) := by show _ = _; rw [hZL]; exact rmL_len zR_ok _
  have HZS : Hid (ZL.toArray.size = 103) := by show _ = _; simpa using HZN.out
  have HZ1 : Hid (ZL.toArray.all (·.oneCell') = true) := by show _ = _; rw [hZL]; exact PC.onea (rmL_one _ _ rfl)
  have HZI : Hid ((Tryz.prog.info? 47).map (·.size) = some ZL.toArray.size) := info103a _ HZS.out
  have HXA : Hid (JP c tn L R I (X.alloc (.cells ZL.toArray 47 (0, 0))) l last) := h.step ((Below.refl _ _).alloc (Nat.le_refl _) _)
  have HNA : Hid _ := HXA.out.nonO
  have HZL : Hid (ZL = rmL zR (.slice none 0 0)) := hZL
  have HXB : Hid (Below X.heap.size X (X.alloc (.cells ZL.toArray 47 (0, 0)))) := (Below.refl _ _).alloc (Nat.le_refl _) _
  have HXR : Hid ((X.alloc (.cells ZL.toArray 47 (0, 0))).heap[X.heap.size]? = some (.cells ZL.toArray 47 (0, 0))) := heap_alloc_new _ _
  have hsA : (X.alloc (.cells ZL.toArray 47 (0, 0))).heap.size = X.heap.size + 1 := by simp
  have HSA : Hid _ := hsA
  clear h hsA hZL HN
  go_enter Tryz.func43, Tryz.ntmps43
  go_wp2_with fail
  refine Calls.mono HNA.out ?_
  rintro e w1 ⟨rfl, hb⟩
  have hJ1 := HXA.out.step hb
  have h1 := hJ1.px.cells.2.1
  have HJ1 : Hid (JP c tn L R I w1 l last) := hJ1
  have HR1 : Hid (w1.heap[X.heap.size]? = some (.cells ZL.toArray 47 (0, 0))) := (hb.block _ (by simp)).trans HXR.out
  have hs1 : X.heap.size + 1 ≤ w1.heap.size := by have := hb.size; have := HSA.out; omega
  have HB1 : Hid (Below X.heap.size X w1) := HXB.out.trans (hb.mono (by have := HSA.out; omega))
  clear hb hJ1 HXA HNA HXR
  have hlk : (Instr.lookup 78 (.map (some c.mb)) (.int .i64 rd) true).run Tryz.prog w1 = .ok (.tuple #[.agg ZL.toArray, .bool false]) w1 := by rw [HZL.out]; exact mr_none HJ1.out.px.map hrd hno
  have HRA : Hid ((w1.alloc (.cells ZL.toArray 47 (0, 0))).heap[w1.heap.size]? = some (.cells ZL.toArray 47 (0, 0))) := heap_alloc_new _ _
  have HRZ : Hid (((w1.alloc (.cells ZL.toArray 47 (0, 0))).setRow w1.heap.size ZL.toArray).heap[X.heap.size]? = some (.cells ZL.toArray 47 (0, 0))) := by
    show _ = _
    rw [setRow_other _ _ _ _ (by omega), heap_alloc_old _ _ (by omega)]; exact HR1.out
  go_wp2_with (first
    | (refine PC.wpList_build rfl 47 _ rfl #[] (.agg ZL.toArray) (by simp) (HBZ.out _) ?_)
    | (refine wpList_store_row rfl 47 _ _ rfl w1.heap.size ZL.toArray rfl rfl 47 ZL.toArray HRA.out HZI.out rfl HZ1.out ?_)
    | (refine wpList_store_row rfl 47 _ _ rfl X.heap.size ZL.toArray rfl rfl 47 ZL.toArray HRZ.out HZI.out rfl HZ1.out ?_))
  have hbE : Below X.heap.size X (((w1.alloc (.cells ZL.toArray 47 (0, 0))).setRow w1.heap.size ZL.toArray).setRow X.heap.size ZL.toArray) := below_setRow (below_setRow (HB1.out.alloc (by omega) _) (by omega) _) (Nat.le_refl _) _
  refine bodyPost_ret (v := .tuple #[.agg ZL.toArray, .int .i64 6]) ?_ rfl ⟨by rw [HZL.out], hbE⟩
  exact PC.results2 Tryz.results43 _ _ X.heap.size 47 _ (0, 0) _ rfl rfl (setRow_heap _ _ _ _ _ _ HRZ.out) Tryz.underlying47 rfl (info103 _ HZN.out)
theorem JP.at_is (h : JP c tn L R I X l last) {rd : Int} (hrd : iOk rd) {a b : List En} {r : Rm} {lv : Value} (hl : l = a ++ (rd, r, lv) :: b) :
    Calls Tryz.prog 43 #[.pointer (some ⟨c.xb, 0, none⟩), .int .i64 rd] X fun e Y => e = .returned (.tuple #[.agg (rmL r lv).toArray, .int .i64 0]) ∧ Below X.heap.size X Y := by
  have hmem : (rd, r, lv) ∈ l := by rw [hl]; simp
  have HNN : Hid ((rmL r lv).length = 103) := rmL_len (h.px.ok _ hmem) _
  have HN1 : Hid ((rmL r lv).toArray.all (·.oneCell') = true) := rmL_onea r (h.px.hr hmem)
  obtain ⟨NL, hNL⟩ : ∃ L, L = rmL r lv := ⟨_, rfl⟩
  rw [← hNL] at HNN HN1 ⊢
  have HNL : Hid (NL = rmL r lv) := hNL
  clear hNL hmem
  have HNS : Hid (NL.toArray.size = 103) := by show _ = _; simpa using HNN.out
  have HNI : Hid ((Tryz.prog.info? 47).map (·.size) = some NL.toArray.size) := info103a _ HNS.out
  have HNJ : Hid _ := info103 NL HNN.out
  have HN : Hid _ := h.nonO
  have HJ : Hid (JP c tn L R I X l last) := h
  have hz := fun W => zero_rm W
  have HBZ : Hid (∀ W, (Instr.build 47 #[]).run Tryz.prog W = .ok (.agg (rmL zR (.slice none 0 0)).toArray) W) := build_zrm
  obtain ⟨ZL, hZL⟩ : ∃ L, L = rmL zR (.slice none 0 0) := ⟨_, rfl⟩
  rw [← hZL] at hz HBZ
  have HZN : Hid (ZL.length = 103) := by show _ = _; rw [hZL]; exact rmL_len zR_ok _
  have HZS : Hid (ZL.toArray.size = 103) := by show _ = _; simpa using HZN.out
  have HZ1 : Hid (ZL.toArray.all (·.oneCell') = true) := by show _ = _; rw [hZL]; exact PC.onea (rmL_one _ _ rfl)
  have HZI : Hid ((Tryz.prog.info? 47).map (·.size) = some ZL.toArray.size) := info103a _ HZS.out
  have HXA : Hid (JP c tn L R I (X.alloc (.cells ZL.toArray 47 (0, 0))) l last) := h.step ((Below.refl _ _).alloc (Nat.le_refl _) _)
  have HNA : Hid _ := HXA.out.nonO
  have HZL : Hid (ZL = rmL zR (.slice none 0 0)) := hZL
  have HXB : Hid (Below X.heap.size X (X.alloc (.cells ZL.toArray 47 (0, 0)))) := (Below.refl _ _).alloc (Nat.le_refl _) _
  have HXR : Hid ((X.alloc (.cells ZL.toArray 47 (0, 0))).heap[X.heap.size]? = some (.cells ZL.toArray 47 (0, 0))) := heap_alloc_new _ _
  have hsA : (X.alloc (.cells ZL.toArray 47 (0, 0))).heap.size = X.heap.size + 1 := by simp
  have HSA : Hid _ := hsA
  clear h hsA hZL HN
  go_enter Tryz.func43, Tryz.ntmps43
  go_wp2_with fail
  refine Calls.mono HNA.out ?_
  rintro e w1 ⟨rfl, hb⟩
  have hJ1 := HXA.out.step hb
  have h1 := hJ1.px.cells.2.1
  have HJ1 : Hid (JP c tn L R I w1 l last) := hJ1
  have HR1 : Hid (w1.heap[X.heap.size]? = some (.cells ZL.toArray 47 (0, 0))) := (hb.block _ (by simp)).trans HXR.out
  have hs1 : X.heap.size + 1 ≤ w1.heap.size := by have := hb.size; have := HSA.out; omega
  have HB1 : Hid (Below X.heap.size X w1) := HXB.out.trans (hb.mono (by have := HSA.out; omega))
  clear hb hJ1 HXA HNA HXR
  have hlk : (Instr.lookup 78 (.map (some c.mb)) (.int .i64 rd) true).run Tryz.prog w1 = .ok (.tuple #[.agg NL.toArray, .bool true]) w1 := by rw [HNL.out]; exact mr_some HJ1.out.px.map hrd hl true
  have HZN2 : Hid (ZL.toArray.size = NL.toArray.size) := HZS.out.trans HNS.out.symm
  have HRA : Hid ((w1.alloc (.cells ZL.toArray 47 (0, 0))).heap[w1.heap.size]? = some (.cells ZL.toArray 47 (0, 0))) := heap_alloc_new _ _
  have HRN : Hid (((w1.alloc (.cells ZL.toArray 47 (0, 0))).setRow w1.heap.size NL.toArray).rangeAt w1.heap.size 0 NL) := PC.rangeAt_row (setRow_heap _ _ _ _ _ _ HRA.out)
  have HRZ : Hid (((w1.alloc (.cells ZL.toArray 47 (0, 0))).setRow w1.heap.size NL.toArray).heap[X.heap.size]? = some (.cells ZL.toArray 47 (0, 0))) := by
    show _ = _
    rw [setRow_other _ _ _ _ (by omega), heap_alloc_old _ _ (by omega)]; exact HR1.out
  clear hl
  go_wp2_with (first
    | (refine wpList_load_mid rfl 47 _ rfl w1.heap.size 0 rfl NL _ HRN.out Tryz.underlying47 rfl HNJ.out ?_)
    | (refine wpList_store_row rfl 47 _ _ rfl w1.heap.size NL.toArray rfl rfl 47 ZL.toArray HRA.out HNI.out HZN2.out HN1.out ?_)
    | (refine wpList_store_row rfl 47 _ _ rfl X.heap.size NL.toArray rfl rfl 47 ZL.toArray HRZ.out HNI.out HZN2.out HN1.out ?_))
  have hbE : Below X.heap.size X (((w1.alloc (.cells ZL.toArray 47 (0, 0))).setRow w1.heap.size NL.toArray).setRow X.heap.size NL.toArray) := below_setRow (below_setRow (HB1.out.alloc (by omega) _) (by omega) _) (Nat.le_refl _) _
  refine bodyPost_ret (v := .tuple #[.agg NL.toArray, .int .i64 0]) ?_ rfl ⟨rfl, hbE⟩
  exact PC.results2 Tryz.results43 _ _ X.heap.size 47 _ (0, 0) _ rfl rfl (setRow_heap _ _ _ _ _ _ HRZ.out) Tryz.underlying47 rfl HNJ.out
end
section
variable {c : Cx} {tn last : Nat} {L R : List (R5.Qn × List UInt8)} {I J : Nat → Prop} {X Y : World} {l : List En}
def GEnd (X : World) (r : Rm) (E : Int) (e : Ending) (Y : World) : Prop := ∃ v', e = .returned (.tuple #[.agg (rmL r v').toArray, .int .i64 E]) ∧ Y.ownsRow X.heap.size 69 172 v' r.log.length (lgC r.log) ∧ Below X.heap.size X Y
theorem at_any (h : JP c tn L R I X l last) {rd : Int} (hrd : iOk rd) (r : Rm) (lv : Value) (E : Int) (hc : (NoRd l rd ∧ r = zR ∧ lv = .slice none 0 0 ∧ E = 6) ∨ (∃ a b, l = a ++ (rd, r, lv) :: b) ∧ E = 0) :
    Calls Tryz.prog 43 #[.pointer (some ⟨c.xb, 0, none⟩), .int .i64 rd] X fun e Y => e = .returned (.tuple #[.agg (rmL r lv).toArray, .int .i64 E]) ∧ Below X.heap.size X Y := by
  rcases hc with ⟨hn, rfl, rfl, rfl⟩ | ⟨⟨a, b, hl⟩, rfl⟩
  · exact h.at_no hrd hn
  · exact h.at_is hrd hl
theorem at_hr (h : JP c tn L R I X l last) {rd : Int} (r : Rm) (lv : Value) (E : Int) (hc : (NoRd l rd ∧ r = zR ∧ lv = .slice none 0 0 ∧ E = 6) ∨ (∃ a b, l = a ++ (rd, r, lv) :: b) ∧ E = 0) : r.ok ∧ HR X lv r.log := by
  rcases hc with ⟨hn, rfl, rfl, rfl⟩ | ⟨⟨a, b, hl⟩, rfl⟩
  · exact ⟨zR_ok, .inl ⟨rfl, rfl⟩⟩
  · have hmem : (rd, r, lv) ∈ l := by rw [hl]; simp
    exact ⟨h.px.ok _ hmem, h.px.hr hmem⟩
theorem cf_arg1 (h : JP c tn L R I X l last) {rd root : Int} (hrd : iOk rd) (r : Rm) (lv : Value) (E : Int) (hc : (NoRd l rd ∧ r = zR ∧ lv = .slice none 0 0 ∧ E = 6) ∨ (∃ a b, l = a ++ (rd, r, lv) :: b) ∧ E = 0) (h0 : rd < 0) :
    Calls Tryz.prog 46 #[.pointer (some ⟨c.xb, 0, none⟩), .int .i64 rd, .int .i64 root] X fun e Y => e = .returned (.int .i64 2) ∧ Below X.heap.size X Y := by
  have hE : (E == 1) = false := by rcases hc with ⟨_, _, _, rfl⟩ | ⟨_, rfl⟩ <;> rfl
  obtain ⟨hok, hhr⟩ := at_hr h r lv E hc
  have hz := fun W => zero_rm W
  obtain ⟨ZL, hZL⟩ : ∃ L, L = rmL zR (.slice none 0 0) := ⟨_, rfl⟩
  rw [← hZL] at hz
  have HZN : Hid (ZL.toArray.size = 103) := by show _ = _; rw [hZL]; simpa using rmL_len zR_ok _
  have HAT : Hid _ := at_any h hrd r lv E hc
  have HNN : Hid ((rmL r lv).length = 103) := rmL_len hok _
  have HN1 : Hid ((rmL r lv).toArray.all (·.oneCell') = true) := rmL_onea r hhr
  obtain ⟨NL, hNL⟩ : ∃ L, L = rmL r lv := ⟨_, rfl⟩
  rw [← hNL] at HNN HN1 HAT
  have HNS : Hid (NL.toArray.size = 103) := by show _ = _; simpa using HNN.out
  have HNI : Hid ((Tryz.prog.info? 47).map (·.size) = some NL.toArray.size) := info103a _ HNS.out
  have HZN2 : Hid (ZL.toArray.size = NL.toArray.size) := HZN.out.trans HNS.out.symm
  have HJ : Hid (JP c tn L R I X l last) := h
  clear hok hhr hZL h hc hNL
  go_enter Tryz.func46, Tryz.ntmps46
  go_wp2_with fail
  refine Calls.mono HAT.out ?_
  rintro e w1 ⟨rfl, hb1⟩
  have hs1 := hb1.size
  have HRA : Hid ((w1.alloc (.cells ZL.toArray 47 (0, 0))).heap[w1.heap.size]? = some (.cells ZL.toArray 47 (0, 0))) := heap_alloc_new _ _
  have hB2 : Below X.heap.size X ((w1.alloc (.cells ZL.toArray 47 (0, 0))).setRow w1.heap.size NL.toArray) := below_setRow (hb1.alloc (by omega) _) (by omega) _
  have hcl := (HJ.out.step hB2).px.cells.2.2
  skip
  have HB2 : Hid _ := hB2
  clear hb1 hB2 HAT
  go_wp2_with (refine wpList_store_row rfl 47 _ _ rfl w1.heap.size NL.toArray rfl rfl 47 ZL.toArray HRA.out HNI.out HZN2.out HN1.out ?_)
  go_ret
  exact ⟨rfl, HB2.out⟩
theorem cf_arg2 (h : JP c tn L R I X l last) {rd root : Int} (hrd : iOk rd) (r : Rm) (lv : Value) (E : Int) (hc : (NoRd l rd ∧ r = zR ∧ lv = .slice none 0 0 ∧ E = 6) ∨ (∃ a b, l = a ++ (rd, r, lv) :: b) ∧ E = 0) (h0 : ¬ rd < 0) (h1 : root < 0) :
    Calls Tryz.prog 46 #[.pointer (some ⟨c.xb, 0, none⟩), .int .i64 rd, .int .i64 root] X fun e Y => e = .returned (.int .i64 2) ∧ Below X.heap.size X Y := by
  have hE : (E == 1) = false := by rcases hc with ⟨_, _, _, rfl⟩ | ⟨_, rfl⟩ <;> rfl
  obtain ⟨hok, hhr⟩ := at_hr h r lv E hc
  have hz := fun W => zero_rm W
  obtain ⟨ZL, hZL⟩ : ∃ L, L = rmL zR (.slice none 0 0) := ⟨_, rfl⟩
  rw [← hZL] at hz
  have HZN : Hid (ZL.toArray.size = 103) := by show _ = _; rw [hZL]; simpa using rmL_len zR_ok _
  have HAT : Hid _ := at_any h hrd r lv E hc
  have HNN : Hid ((rmL r lv).length = 103) := rmL_len hok _
  have HN1 : Hid ((rmL r lv).toArray.all (·.oneCell') = true) := rmL_onea r hhr
  obtain ⟨NL, hNL⟩ : ∃ L, L = rmL r lv := ⟨_, rfl⟩
  rw [← hNL] at HNN HN1 HAT
  have HNS : Hid (NL.toArray.size = 103) := by show _ = _; simpa using HNN.out
  have HNI : Hid ((Tryz.prog.info? 47).map (·.size) = some NL.toArray.size) := info103a _ HNS.out
  have HZN2 : Hid (ZL.toArray.size = NL.toArray.size) := HZN.out.trans HNS.out.symm
  have HJ : Hid (JP c tn L R I X l last) := h
  clear hok hhr hZL h hc hNL
  go_enter Tryz.func46, Tryz.ntmps46
  go_wp2_with fail
  refine Calls.mono HAT.out ?_
  rintro e w1 ⟨rfl, hb1⟩
  have hs1 := hb1.size
  have HRA : Hid ((w1.alloc (.cells ZL.toArray 47 (0, 0))).heap[w1.heap.size]? = some (.cells ZL.toArray 47 (0, 0))) := heap_alloc_new _ _
  have hB2 : Below X.heap.size X ((w1.alloc (.cells ZL.toArray 47 (0, 0))).setRow w1.heap.size NL.toArray) := below_setRow (hb1.alloc (by omega) _) (by omega) _
  have hcl := (HJ.out.step hB2).px.cells.2.2
  skip
  have HB2 : Hid _ := hB2
  clear hb1 hB2 HAT
  go_wp2_with (refine wpList_store_row rfl 47 _ _ rfl w1.heap.size NL.toArray rfl rfl 47 ZL.toArray HRA.out HNI.out HZN2.out HN1.out ?_)
  go_ret
  exact ⟨rfl, HB2.out⟩
theorem cf_is (h : JP c tn L R I X l last) {rd root : Int} (hrd : iOk rd) (r : Rm) (lv : Value) (E : Int) (hc : (NoRd l rd ∧ r = zR ∧ lv = .slice none 0 0 ∧ E = 6) ∨ (∃ a b, l = a ++ (rd, r, lv) :: b) ∧ E = 0) (h0 : ¬ rd < 0) (h1 : ¬ root < 0) (hE0 : E = 0) :
    Calls Tryz.prog 46 #[.pointer (some ⟨c.xb, 0, none⟩), .int .i64 rd, .int .i64 root] X fun e Y => e = .returned (.int .i64 7) ∧ Below X.heap.size X Y := by
  have hE1 : (E == 1) = false := by rw [hE0]; rfl
  have hE2 : (E == 0) = true := by rw [hE0]; rfl
  clear hE0
  obtain ⟨hok, hhr⟩ := at_hr h r lv E hc
  have hz := fun W => zero_rm W
  obtain ⟨ZL, hZL⟩ : ∃ L, L = rmL zR (.slice none 0 0) := ⟨_, rfl⟩
  rw [← hZL] at hz
  have HZN : Hid (ZL.toArray.size = 103) := by show _ = _; rw [hZL]; simpa using rmL_len zR_ok _
  have HAT : Hid _ := at_any h hrd r lv E hc
  have HNN : Hid ((rmL r lv).length = 103) := rmL_len hok _
  have HN1 : Hid ((rmL r lv).toArray.all (·.oneCell') = true) := rmL_onea r hhr
  obtain ⟨NL, hNL⟩ : ∃ L, L = rmL r lv := ⟨_, rfl⟩
  rw [← hNL] at HNN HN1 HAT
  have HNS : Hid (NL.toArray.size = 103) := by show _ = _; simpa using HNN.out
  have HNI : Hid ((Tryz.prog.info? 47).map (·.size) = some NL.toArray.size) := info103a _ HNS.out
  have HZN2 : Hid (ZL.toArray.size = NL.toArray.size) := HZN.out.trans HNS.out.symm
  have HJ : Hid (JP c tn L R I X l last) := h
  clear hok hhr hZL h hc hNL
  go_enter Tryz.func46, Tryz.ntmps46
  go_wp2_with fail
  refine Calls.mono HAT.out ?_
  rintro e w1 ⟨rfl, hb1⟩
  have hs1 := hb1.size
  have HRA : Hid ((w1.alloc (.cells ZL.toArray 47 (0, 0))).heap[w1.heap.size]? = some (.cells ZL.toArray 47 (0, 0))) := heap_alloc_new _ _
  have hB2 : Below X.heap.size X ((w1.alloc (.cells ZL.toArray 47 (0, 0))).setRow w1.heap.size NL.toArray) := below_setRow (hb1.alloc (by omega) _) (by omega) _
  have hcl := (HJ.out.step hB2).px.cells.2.2
  skip
  have HB2 : Hid _ := hB2
  clear hb1 hB2 HAT
  go_wp2_with (refine wpList_store_row rfl 47 _ _ rfl w1.heap.size NL.toArray rfl rfl 47 ZL.toArray HRA.out HNI.out HZN2.out HN1.out ?_)
  go_ret
  exact ⟨rfl, HB2.out⟩
theorem cf_ok (h : JP c tn L R I X l last) {rd root : Int} (hrd : iOk rd) (r : Rm) (lv : Value) (E : Int) (hc : (NoRd l rd ∧ r = zR ∧ lv = .slice none 0 0 ∧ E = 6) ∨ (∃ a b, l = a ++ (rd, r, lv) :: b) ∧ E = 0) (h0 : ¬ rd < 0) (h1 : ¬ root < 0) (hE0 : E = 6) (hlast : last < 1000000) :
    Calls Tryz.prog 46 #[.pointer (some ⟨c.xb, 0, none⟩), .int .i64 rd, .int .i64 root] X fun e Y => e = .returned (.int .i64 0) ∧ Below X.heap.size X Y := by
  have hE1 : (E == 1) = false := by rw [hE0]; rfl
  have hE2 : (E == 0) = false := by rw [hE0]; rfl
  have HLI : Hid ((last : Int) < 4294967296) := by show (last : Int) < 4294967296; omega
  clear hE0 hlast
  obtain ⟨hok, hhr⟩ := at_hr h r lv E hc
  have hz := fun W => zero_rm W
  obtain ⟨ZL, hZL⟩ : ∃ L, L = rmL zR (.slice none 0 0) := ⟨_, rfl⟩
  rw [← hZL] at hz
  have HZN : Hid (ZL.toArray.size = 103) := by show _ = _; rw [hZL]; simpa using rmL_len zR_ok _
  have HAT : Hid _ := at_any h hrd r lv E hc
  have HNN : Hid ((rmL r lv).length = 103) := rmL_len hok _
  have HN1 : Hid ((rmL r lv).toArray.all (·.oneCell') = true) := rmL_onea r hhr
  obtain ⟨NL, hNL⟩ : ∃ L, L = rmL r lv := ⟨_, rfl⟩
  rw [← hNL] at HNN HN1 HAT
  have HNS : Hid (NL.toArray.size = 103) := by show _ = _; simpa using HNN.out
  have HNI : Hid ((Tryz.prog.info? 47).map (·.size) = some NL.toArray.size) := info103a _ HNS.out
  have HZN2 : Hid (ZL.toArray.size = NL.toArray.size) := HZN.out.trans HNS.out.symm
  have HJ : Hid (JP c tn L R I X l last) := h
  clear hok hhr hZL h hc hNL
  go_enter Tryz.func46, Tryz.ntmps46
  go_wp2_with fail
  refine Calls.mono HAT.out ?_
  rintro e w1 ⟨rfl, hb1⟩
  have hs1 := hb1.size
  have HRA : Hid ((w1.alloc (.cells ZL.toArray 47 (0, 0))).heap[w1.heap.size]? = some (.cells ZL.toArray 47 (0, 0))) := heap_alloc_new _ _
  have hB2 : Below X.heap.size X ((w1.alloc (.cells ZL.toArray 47 (0, 0))).setRow w1.heap.size NL.toArray) := below_setRow (hb1.alloc (by omega) _) (by omega) _
  have hcl := (HJ.out.step hB2).px.cells.2.2
  obtain ⟨Z, hZ⟩ : ∃ Z : Int, Z = (last : Int) := ⟨_, rfl⟩; rw [← hZ] at hcl; have hlI : ¬ (4294967296 ≤ Z) := (by have := HLI.out; omega); have hlJ : Z < 4294967296 := (by omega); clear hZ HLI
  have HB2 : Hid _ := hB2
  clear hb1 hB2 HAT
  go_wp2_with (refine wpList_store_row rfl 47 _ _ rfl w1.heap.size NL.toArray rfl rfl 47 ZL.toArray HRA.out HNI.out HZN2.out HN1.out ?_)
  go_ret
  exact ⟨rfl, HB2.out⟩
end
abbrev Lg := List (R5.Qn × List UInt8)
def up (I : Nat → Prop) (X Y : World) (k : Nat) : Prop := I k ∨ (X.heap.size ≤ k ∧ k < Y.heap.size)
structure CD (c : Cx) (tn : Nat) (L' R : Lg) (I : Nat → Prop) (W W' : World) (b : Nat) (E : Nat → Prop) (lg : List Rd) (lv : Value) (r' : Rm) (lv' : Value) : Prop where
  size : W.heap.size ≤ W'.heap.size
  mm : ∃ J, R5.MM c.w c.n tn c.og c.mo c.rg c.m c.D L' R J W' W' ∧ (∀ k, I k → J k) ∧ ∀ k, lv'.ownBlock = some k → J k
  row : W'.heap[b]? = some (.cells (rmL r' lv').toArray 47 (0, 0))
  ok : r'.ok
  own : HO W' lv' r'.log
  lies : ∀ k, lv'.ownBlock = some k → lv.ownBlock = some k ∨ W.heap.size ≤ k
  fr : ∀ k, k < W.heap.size → I k → k ≠ b → ¬ E k → lv.ownBlock ≠ some k → W'.heap[k]? = W.heap[k]?
  pre : ∀ k, lv.ownBlock = some k → ∀ j, j < lg.length * 172 → W'.cell? ⟨k, j, none⟩ = W.cell? ⟨k, j, none⟩
  len : lg.length ≤ r'.log.length
structure PD (c : Cx) (tn : Nat) (L' R : Lg) (I : Nat → Prop) (X Y : World) (l l' : List En) (last' : Nat) (E : Nat → Prop) : Prop where
  size : X.heap.size ≤ Y.heap.size
  jp : ∃ J, JP c tn L' R J Y l' last' ∧ ∀ k, I k → J k
  fr : ∀ k, k < X.heap.size → I k → ¬ FP c.xb c.mb l k → ¬ E k → Y.heap[k]? = X.heap[k]?
  sub : ∀ k, FP c.xb c.mb l' k → FP c.xb c.mb l k ∨ X.heap.size ≤ k
  pre : ∀ x ∈ l, ∀ k, x.2.2.ownBlock = some k → (∀ j, j < x.2.1.log.length * 172 → Y.cell? ⟨k, j, none⟩ = X.cell? ⟨k, j, none⟩) ∧ ∀ y ∈ l', y.2.2.ownBlock = some k → x.2.1.log.length ≤ y.2.1.log.length
section
variable {c : Cx} {tn last last' : Nat} {L L' R : Lg} {I J : Nat → Prop} {X Y Z W W' : World} {l l' : List En} {E : Nat → Prop}
theorem apart_eq : ∀ {l : List En}, l.Pairwise (fun x y => ∀ k, x.2.2.ownBlock = some k → y.2.2.ownBlock ≠ some k) → ∀ {x y : En}, x ∈ l → y ∈ l → ∀ {k : Nat}, x.2.2.ownBlock = some k → y.2.2.ownBlock = some k → x = y
  | [], _, x, _, hx, _, _, _, _ => by cases hx
  | z :: l, hp, x, y, hx, hy, k, ex, ey => by
    obtain ⟨h1, h2⟩ := List.pairwise_cons.1 hp
    rcases List.mem_cons.1 hx with e1 | e1 <;> rcases List.mem_cons.1 hy with e2 | e2
    · rw [e1, e2]
    · exact absurd ey (h1 y e2 k (e1 ▸ ex))
    · exact absurd ex (h1 x e1 k (e2 ▸ ey))
    · exact apart_eq h2 e1 e2 ex ey
theorem PD.refl (h : JP c tn L R I X l last) (hb : Below X.heap.size X Y) : PD c tn L R I X Y l l last E :=
  ⟨hb.size, ⟨_, h.grow hb, fun k hk => .inl hk⟩, fun k hk _ _ _ => hb.block k hk, fun k hk => .inl hk, fun x hx k e => ⟨fun j hj => World.cell?_of_block (a := ⟨k, j, none⟩) (hb.block k (HO.lt (h.px.own x hx) k e)), fun y hy ey => by rw [apart_eq h.px.apart hx hy e ey]; exact Nat.le_refl _⟩⟩
theorem PD.ahead (h : JP c tn L R I X l last) (hb : Below X.heap.size X Y) (hd : PD c tn L' R (up I X Y) Y Z l l' last' E) (hE : ∀ k, E k → X.heap.size ≤ k) : PD c tn L' R I X Z l l' last' (fun _ => False) := by
  have hs := hb.size
  refine ⟨Nat.le_trans hs hd.size, ?_, fun k hk hI hF _ => (hd.fr k (by omega) (.inl hI) hF (fun h => by have := hE k h; omega)).trans (hb.block k hk), fun k hk => (hd.sub k hk).imp id (fun h => by omega), fun x hx k e => ⟨fun j hj => ((hd.pre x hx k e).1 j hj).trans ?_, (hd.pre x hx k e).2⟩⟩
  · obtain ⟨J, h1, h2⟩ := hd.jp
    exact ⟨J, h1, fun k hk => h2 k (.inl hk)⟩
  · exact World.cell?_of_block (a := ⟨k, j, none⟩) (hb.block k (HO.lt (h.px.own x hx) k e))
theorem PD.then (hd : PD c tn L' R I X Y l l' last' E) (h : ∀ x ∈ l, ∀ k, x.2.2.ownBlock = some k → k < X.heap.size) (hb : Below Y.heap.size Y Z) : PD c tn L' R I X Z l l' last' E := by
  refine ⟨Nat.le_trans hd.size hb.size, ?_, fun k hk hI hF hE => (hb.block k (Nat.lt_of_lt_of_le hk hd.size)).trans (hd.fr k hk hI hF hE), hd.sub, fun x hx k e => ⟨fun j hj => ?_, (hd.pre x hx k e).2⟩⟩
  · obtain ⟨J, h1, h2⟩ := hd.jp
    exact ⟨_, h1.grow hb, fun k hk => .inl (h2 k hk)⟩
  · refine (World.cell?_of_block (a := ⟨k, j, none⟩) (hb.block k ?_)).trans ((hd.pre x hx k e).1 j hj)
    exact Nat.lt_of_lt_of_le (h x hx k e) hd.size
theorem pd_of_cd {a b : List En} {rd : Int} {r r' : Rm} {lv lv' : Value} {bb : Nat} (h : JP c tn L R I X l last) (hl : l = a ++ (rd, r, lv) :: b) (hb : Below X.heap.size X W) (hbb : X.heap.size ≤ bb) (hd : CD c tn L' R (up I X W) W W' bb E r.log lv r' lv') (hE : ∀ k, E k → ¬ FP c.xb c.mb l k)
    (hm : MR Y c.mb (a ++ (rd, r', lv') :: b)) (hg : W'.grownBy Y (some c.mb)) : PD c tn L' R I X Y l (a ++ (rd, r', lv') :: b) last E := by
  have hs := hb.size
  have hs2 := hd.size
  have hs3 := hg.size
  obtain ⟨J, hJm, hJI, hJl⟩ := hd.mm
  have hme : (rd, r, lv) ∈ l := by rw [hl]; simp
  have hmb := h.px.map.lt
  have hxb := PC.row_lt h.px.row
  have hmbI := (h.px.fI c.mb (.inr (.inl rfl)))
  have hlow := h.mm.low
  -- a block that is neither the map's nor the realm's own
  have same : ∀ k, k < X.heap.size → I k → ¬ E k → lv.ownBlock ≠ some k → k ≠ c.mb → Y.heap[k]? = X.heap[k]? := fun k hk hI hnE hlv hkm =>
    (hg.block k (by omega) (fun e => hkm (by simpa using e))).trans ((hd.fr k (by omega) (.inl hI) (by omega) hnE hlv).trans (hb.block k hk))
  have oth : ∀ x ∈ l, x ∈ a ∨ x ∈ b → ∀ k, x.2.2.ownBlock = some k → lv.ownBlock ≠ some k := fun x hx hab k e ek => by
    have hp := h.px.apart
    rw [hl] at hp
    rcases hab with ha | ha
    · exact (List.pairwise_append.1 hp).2.2 x ha (rd, r, lv) (by simp) k e ek
    · exact (List.pairwise_cons.1 (List.pairwise_append.1 hp).2.1).1 x ha k ek e
  have othY : ∀ x ∈ l, x ∈ a ∨ x ∈ b → ∀ k, x.2.2.ownBlock = some k → Y.heap[k]? = X.heap[k]? := fun x hx hab k e =>
    same k (HO.lt (h.px.own x hx) k e) (h.px.fI k (.inr (.inr ⟨x, hx, e⟩))).1 (fun hE' => hE k hE' (.inr (.inr ⟨x, hx, e⟩))) (oth x hx hab k e) (h.px.far x hx k e).2
  have hab : ∀ x, x ∈ a ∨ x ∈ b → x ∈ l := fun x hx => by rw [hl]; rcases hx with hx | hx <;> simp [hx]
  have lvn : ∀ k, lv'.ownBlock = some k → k ≠ c.mb ∧ k ≠ c.xb ∧ c.n ≤ k ∧ J k := fun k e => by
    have hkW := HO.lt hd.own k e
    rcases hd.lies k e with ek | ek
    · have hf := h.px.fI k (.inr (.inr ⟨_, hme, ek⟩))
      have := h.px.far _ hme k ek
      exact ⟨this.2, this.1, hf.2, hJl k e⟩
    · exact ⟨by omega, by omega, by omega, hJl k e⟩
  have mem : ∀ {x : En}, x ∈ a ++ (rd, r', lv') :: b → x = (rd, r', lv') ∨ (x ∈ a ∨ x ∈ b) := fun {x} hx => by
    rcases List.mem_append.1 hx with hx | hx
    · exact .inr (.inl hx)
    · rcases List.mem_cons.1 hx with hx | hx
      · exact .inl hx
      · exact .inr (.inr hx)
  refine ⟨by omega, ⟨J, ⟨?_, ⟨?_, hm, ?_, ?_, ?_, ?_, ?_⟩⟩, fun k hk => hJI k (.inl hk)⟩, ?_, ?_, ?_⟩
  · refine hJm.go (J := J) ⟨hg.os, hg.tape, hg.output, hg.size, fun k hk hn => hg.block k hk (fun e => ?_)⟩ (fun k hk => .inl hk)
    have e' : k = c.mb := by simpa using e
    exact hn (e' ▸ ⟨hmbI.2, hJI _ (.inl hmbI.1)⟩)
  · refine (same c.xb hxb (h.px.fI _ (.inl rfl)).1 (fun hE' => hE _ hE' (.inl rfl)) (fun e => (h.px.far _ hme _ e).1 rfl) (fun e => h.px.ne e.symm)).trans h.px.row
  · intro x hx
    rcases mem hx with rfl | hx
    · exact hd.ok
    · exact h.px.ok x (hab x hx)
  · intro x hx
    rcases mem hx with rfl | hx
    · exact R5.own_keep hd.own (fun k e hk => hg.block k hk (fun e2 => (lvn k e).1 (by simpa using e2)))
    · exact R5.own_keep (h.px.own x (hab x hx)) (fun k e hk => othY x (hab x hx) hx k e)
  · have hp := h.px.apart
    rw [hl] at hp
    obtain ⟨p1, p2, p3⟩ := List.pairwise_append.1 hp
    obtain ⟨p4, p5⟩ := List.pairwise_cons.1 p2
    have far' : ∀ x, x ∈ a ∨ x ∈ b → ∀ k, x.2.2.ownBlock = some k → lv'.ownBlock ≠ some k := fun x hx k e e' => by
      rcases hd.lies k e' with ek | ek
      · exact oth x (hab x hx) hx k e ek
      · have := HO.lt (h.px.own x (hab x hx)) k e; omega
    refine List.pairwise_append.2 ⟨p1, List.pairwise_cons.2 ⟨fun y hy k e e' => far' y (.inr hy) k e' e, p5⟩, fun x hx y hy k e => ?_⟩
    rcases List.mem_cons.1 hy with rfl | hy
    · exact far' x (.inl hx) k e
    · exact p3 x hx y (by simp [hy]) k e
  · rintro k (rfl | rfl | ⟨x, hx, e⟩)
    · exact ⟨hJI _ (.inl (h.px.fI _ (.inl rfl)).1), (h.px.fI _ (.inl rfl)).2⟩
    · exact ⟨hJI _ (.inl hmbI.1), hmbI.2⟩
    · rcases mem hx with rfl | hx
      · exact ⟨(lvn k e).2.2.2, (lvn k e).2.2.1⟩
      · have := h.px.fI k (.inr (.inr ⟨x, hab x hx, e⟩))
        exact ⟨hJI _ (.inl this.1), this.2⟩
  · intro x hx k e
    rcases mem hx with rfl | hx
    · exact ⟨(lvn k e).2.1, (lvn k e).1⟩
    · exact h.px.far x (hab x hx) k e
  · intro k hk hI hF hnE
    exact same k hk hI hnE (fun e => hF (.inr (.inr ⟨_, hme, e⟩))) (fun e => hF (.inr (.inl e)))
  · rintro k (rfl | rfl | ⟨x, hx, e⟩)
    · exact .inl (.inl rfl)
    · exact .inl (.inr (.inl rfl))
    · rcases mem hx with rfl | hx
      · rcases hd.lies k e with ek | ek
        · exact .inl (.inr (.inr ⟨_, hme, ek⟩))
        · exact .inr (by omega)
      · exact .inl (.inr (.inr ⟨x, hab x hx, e⟩))
  · intro x hx k e
    have hkX := HO.lt (h.px.own x hx) k e
    have hx' : x = (rd, r, lv) ∨ (x ∈ a ∨ x ∈ b) := by
      rw [hl] at hx
      rcases List.mem_append.1 hx with hx | hx
      · exact .inr (.inl hx)
      · rcases List.mem_cons.1 hx with hx | hx
        · exact .inl hx
        · exact .inr (.inr hx)
    rcases hx' with rfl | hx'
    · refine ⟨fun j hj => ?_, fun y hy ey => ?_⟩
      · have h1 : Y.heap[k]? = W'.heap[k]? := hg.block k (by omega) (fun e2 => (h.px.far _ hx k e).2 (by simpa using e2))
        exact (World.cell?_of_block (a := ⟨k, j, none⟩) h1).trans ((hd.pre k e j hj).trans (World.cell?_of_block (a := ⟨k, j, none⟩) (hb.block k hkX)))
      · rcases mem hy with rfl | hy
        · exact hd.len
        · exact absurd e (oth y (hab y hy) hy k ey)
    · refine ⟨fun j hj => World.cell?_of_block (a := ⟨k, j, none⟩) (othY x hx hx' k e), fun y hy ey => ?_⟩
      rcases mem hy with rfl | hy
      · rcases hd.lies k ey with ek | ek
        · exact absurd ek (oth x hx hx' k e)
        · omega
      · rw [apart_eq h.px.apart hx (hab y hy) e ey]; exact Nat.le_refl _
end
end Go.Proofs.YtekbppfocnbhbaaGreat.XC
