import Derived.Test.YtekbppfocnbhbaaGreatQh
import Derived.Test.YtekbppfocnbhbaaGreatQf
import Derived.Deep.Cut
import Derived.Deep.CutRange
set_option linter.unusedVariables false
set_option linter.unusedSimpArgs false
set_option maxHeartbeats 16000000
set_option maxRecDepth 100000
namespace Go.Proofs.YtekbppfocnbhbaaGreat.XC
open Go.RowKit
theorem eq_nilf (w : World) (a b : Nat) : (binOp .eql 74 (.func (.func 62) #[] #[.pointer (some ⟨a, 0, none⟩), .pointer (some ⟨b, 0, none⟩)]) .nilFunc).run Tryz.prog w = .ok (.bool false) w := by kernel_rfl
def lst (ks : List Int) : Nat → Int
  | 0 => -1
  | k + 1 => ks.getD k 0
structure SI (c : Cx) (rb : Nat) (X : World) (q : Nat) (b : Bool) (k : Nat) (z : Int) (U : World) : Prop where
  bel : Below X.heap.size X U
  pc : U.heap[X.heap.size]? = some (.cells #[.pointer (some ⟨c.og, 0, none⟩), .pointer (some ⟨c.xb, 0, none⟩), .pointer (some ⟨rb, 0, none⟩)] 29 (0, 0))
  rc : U.heap[X.heap.size + 1]? = some (.cells #[.bool b] 4 (0, 0))
  nc : U.heap[q]? = some (.cells #[.int .i64 (k : Int)] 3 (0, 0))
  lc : U.heap[q + 1]? = some (.cells #[.int .i64 z] 3 (0, 0))
  hq : X.heap.size + 2 ≤ q
section
variable {c : Cx} {rb : Nat} {C : Nat → Prop} {X U V : World} {s : Am} {N q k : Nat} {b : Bool} {z : Int}
theorem SI.keep (h : SI c rb X q b k z U) (hb : Below X.heap.size X V) (hk : ∀ j, j < U.heap.size → j = X.heap.size ∨ j = X.heap.size + 1 ∨ j = q ∨ j = q + 1 → V.heap[j]? = U.heap[j]?) : SI c rb X q b k z V :=
  ⟨hb, (hk _ (PC.row_lt h.pc) (.inl rfl)).trans h.pc, (hk _ (PC.row_lt h.rc) (.inr (.inl rfl))).trans h.rc, (hk _ (PC.row_lt h.nc) (.inr (.inr (.inl rfl)))).trans h.nc, (hk _ (PC.row_lt h.lc) (.inr (.inr (.inr rfl)))).trans h.lc, h.hq⟩
theorem SI.step (h : SI c rb X q b k z U) (hb : Below U.heap.size U V) : SI c rb X q b k z V := h.keep (h.bel.trans (hb.mono h.bel.size)) (fun j hj _ => hb.block j hj)
theorem SI.put (h : SI c rb X q b k z U) {lp : Nat} (hl : q + 2 ≤ lp) (ob : Obj) : SI c rb X q b k z (U.putObj lp ob) := by
  have := h.hq
  exact h.keep (below_put h.bel (by omega) _) (fun j _ hj => World.putObj_heap_other (by omega))
theorem SI.cells (h : SI c rb X q b k z U) : U.cell? ⟨X.heap.size, 0, none⟩ = some (.pointer (some ⟨c.og, 0, none⟩)) ∧ U.cell? ⟨X.heap.size, 1, none⟩ = some (.pointer (some ⟨c.xb, 0, none⟩)) ∧ U.cell? ⟨X.heap.size, 2, none⟩ = some (.pointer (some ⟨rb, 0, none⟩)) ∧ U.cell? ⟨q, 0, none⟩ = some (.int .i64 (k : Int)) ∧ U.cell? ⟨q + 1, 0, none⟩ = some (.int .i64 z) ∧ U.frozen? ⟨q, 0, none⟩ = false ∧ U.frozen? ⟨q + 1, 0, none⟩ = false ∧ U.cell? ⟨X.heap.size + 1, 0, none⟩ = some (.bool b) ∧ U.frozen? ⟨X.heap.size + 1, 0, none⟩ = false := by
  refine ⟨?_, ?_, ?_, ?_, ?_, frozen_of_row _ _ 0 _ _ h.nc, frozen_of_row _ _ 0 _ _ h.lc, ?_, frozen_of_row _ _ 0 _ _ h.rc⟩
  · rw [cell_of_row _ _ 0 _ _ _ h.pc]; rfl
  · rw [cell_of_row _ _ 1 _ _ _ h.pc]; rfl
  · rw [cell_of_row _ _ 2 _ _ _ h.pc]; rfl
  · rw [cell_of_row _ _ 0 _ _ _ h.nc]; rfl
  · rw [cell_of_row _ _ 0 _ _ _ h.lc]; rfl
  · rw [cell_of_row _ _ 0 _ _ _ h.rc]; rfl
theorem SI.set (h : SI c rb X q b k z U) (k' : Nat) (z' : Int) : SI c rb X q b k' z' ((U.setCell ⟨q, 0, none⟩ (.int .i64 (k' : Int))).setCell ⟨q + 1, 0, none⟩ (.int .i64 z')) := by
  have hq := h.hq
  have e : ∀ j, j ≠ q → j ≠ q + 1 → ((U.setCell ⟨q, 0, none⟩ (.int .i64 (k' : Int))).setCell ⟨q + 1, 0, none⟩ (.int .i64 z')).heap[j]? = U.heap[j]? := fun j h1 h2 => (heap_setCell_other _ _ _ _ h2).trans (heap_setCell_other _ _ _ _ h1)
  refine ⟨(h.bel.setCell (p := ⟨q, 0, none⟩) (by show X.heap.size ≤ q; omega) _).setCell (p := ⟨q + 1, 0, none⟩) (by show X.heap.size ≤ q + 1; omega) _, (e _ (by omega) (by omega)).trans h.pc, (e _ (by omega) (by omega)).trans h.rc, ?_, ?_, hq⟩
  · rw [heap_setCell_other _ _ _ _ (by show q ≠ q + 1; omega), heap_setCell_same _ _ 0 _ _ _ h.nc]; rfl
  · rw [heap_setCell_same _ _ 0 _ _ _ ((heap_setCell_other _ _ _ _ (by show q + 1 ≠ q; omega)).trans h.lc)]; rfl
theorem SI.ans (h : SI c rb X q b k z U) (b' : Bool) : SI c rb X q b' k z (U.setCell ⟨X.heap.size + 1, 0, none⟩ (.bool b')) := by
  have hq := h.hq
  have e : ∀ j, j ≠ X.heap.size + 1 → (U.setCell ⟨X.heap.size + 1, 0, none⟩ (.bool b')).heap[j]? = U.heap[j]? := fun j h1 => heap_setCell_other _ _ _ _ h1
  exact ⟨h.bel.setCell (p := ⟨X.heap.size + 1, 0, none⟩) (by show X.heap.size ≤ X.heap.size + 1; omega) _, (e _ (by omega)).trans h.pc, by rw [heap_setCell_same _ _ 0 _ _ _ h.rc]; rfl, (e _ (by omega)).trans h.nc, (e _ (by omega)).trans h.lc, hq⟩
def S15 (c : Cx) (rb : Nat) (X : World) (q n : Nat) (z : Int) (V : World) : Prop := (∃ b, SI c rb X q b n z V) ∧ V.heap[q + 2]? = some (.deferred (some []))
theorem wp_only {c : Code} {Q : Exit → Act → World → Prop} {a : Act} {w : World} (h : c.wp Tryz.prog (Exit.then (fun a w => Q .normal a w) (fun _ _ _ => False)) a w) : c.wp Tryz.prog Q a w := Code.wp_mono (fun e a w h => by cases e <;> first | exact h | exact h.elim) h
theorem hr_put {v : Value} {lg : List Rd} {lp : Nat} {rr : Loop} (hl : U.heap[lp]? = some (.loop rr)) (h : HR U v lg) (ob : Obj) : HR (U.putObj lp ob) v lg := by
  rcases h with h | ⟨g, cap, hv, hc⟩
  · exact .inl h
  · refine .inr ⟨g, cap, hv, fun i u hu => ?_⟩
    have h1 := hc i u hu
    have hne : g ≠ lp := fun e => by
      subst e
      simp [World.cell?, hl] at h1
    have h3 : (U.putObj lp ob).heap[g]? = U.heap[g]? := World.putObj_heap_other hne
    rw [← h1]
    exact World.cell?_of_block (a := _) h3
theorem same_any (h : JA c rb s C X) (hB : Bd N s) (hN : N ≤ 1000) (hP : PI s) :
    Calls Tryz.prog 11 #[.agg #[.pointer (some ⟨c.og, 0, none⟩), .pointer (some ⟨c.xb, 0, none⟩), .pointer (some ⟨rb, 0, none⟩)]] X fun e Y => e = .returned (.bool true) ∧ Below X.heap.size X Y := by
  obtain ⟨l, pa, capa, lvR, hF⟩ := same_facts h hB hN hP
  have HF : Hid (SFx c rb s X l pa capa lvR) := hF
  have hz := fun W => zero_rm W
  obtain ⟨ZL, hZL⟩ : ∃ L, L = rmL zR (.slice none 0 0) := ⟨_, rfl⟩
  rw [← hZL] at hz
  have HZS : Hid (ZL.toArray.size = 103) := by show _ = _; rw [hZL]; simpa using rmL_len zR_ok _
  clear h hF hB hP hZL
  refine R5.calls_marks Tryz.func11 rfl ?_
  simp only [Tryz.ntmps11, List.size_toArray, List.length_cons, List.length_nil, Nat.reduceAdd, Nat.reduceSub, Array.replicate_succ, Array.replicate_zero, List.push_toArray, List.append_toArray, List.nil_append, List.cons_append]
  go_wp2_with fail
  obtain ⟨X2, hX2⟩ : ∃ W, W = (X.alloc (.cells #[.pointer (some ⟨c.og, 0, none⟩), .pointer (some ⟨c.xb, 0, none⟩), .pointer (some ⟨rb, 0, none⟩)] 29 (0, 0))).alloc (.cells #[.bool false] 4 (0, 0)) := ⟨_, rfl⟩
  have hs2 : X2.heap.size = X.heap.size + 2 := by rw [hX2]; simp
  have hb2 : Below X.heap.size X X2 := by rw [hX2]; exact ((Below.refl _ _).alloc (Nat.le_refl _) _).alloc (by simp) _
  have hpc : X2.heap[X.heap.size]? = some (.cells #[.pointer (some ⟨c.og, 0, none⟩), .pointer (some ⟨c.xb, 0, none⟩), .pointer (some ⟨rb, 0, none⟩)] 29 (0, 0)) := by rw [hX2]; exact R5.alloc2_first _ _ _
  have hrc : X2.heap[X.heap.size + 1]? = some (.cells #[.bool false] 4 (0, 0)) := by rw [hX2]; exact R5.heap_at _ _ _ (by simp)
  rw [← hX2]
  refine Calls.mono (HF.out.all X2 hb2) ?_
  rintro e W ⟨kb, nb, nw, cap, p, ks, rfl, hAS, hperm, hsort⟩
  have hbW : Below X2.heap.size X2 W := hAS.bel
  have HAS : Hid _ := hAS
  have HPM : Hid _ := hperm
  have HST : Hid _ := hsort
  have HB2 : Hid _ := hb2
  have HS2 : Hid _ := hs2
  have HW : Hid (Below X.heap.size X W) := hb2.trans (hbW.mono (by omega))
  have HPC : Hid _ := (hbW.block _ (by omega)).trans hpc
  have HRC : Hid _ := (hbW.block _ (by omega)).trans hrc
  have heqn := fun V => eq_nilf V kb nb
  clear hX2 hs2 hb2 hpc hrc hAS hperm hsort hbW
  go_wp2
  obtain ⟨W4, hW4⟩ : ∃ V, V = (W.alloc (.cells #[.int .i64 0] 3 (0, 0))).alloc (.cells #[.int .i64 (-1)] 3 (0, 0)) := ⟨_, rfl⟩
  have hb4 : Below W.heap.size W W4 := by rw [hW4]; exact ((Below.refl _ _).alloc (Nat.le_refl _) _).alloc (by simp) _
  have hs4 : W4.heap.size = W.heap.size + 2 := by rw [hW4]; simp
  have hqX : X.heap.size + 2 ≤ W.heap.size := by have := HAS.out.bel.size; have := HS2.out; omega
  have HSI : Hid (SI c rb X W.heap.size false 0 (lst ks 0) W4) := ⟨HW.out.trans (hb4.mono (by omega)), (hb4.block _ (by omega)).trans HPC.out, (hb4.block _ (by omega)).trans HRC.out, by rw [hW4]; exact R5.alloc2_first _ _ _, by rw [hW4]; exact R5.heap_at _ _ _ (by simp), hqX⟩
  have HA4 : Hid (AS X2 W4 kb nb nw cap p l ks) := HAS.out.below hb4
  have HKF : Hid (∀ i, ks ≠ [] → KF kb nb nw p i → X.heap.size + 2 ≤ i ∧ i < W.heap.size) := fun i hne hi => ⟨by have := HAS.out.lo' hne i hi; have := HS2.out; omega, HAS.out.lt hne i hi⟩
  rw [← hW4]
  generalize W.heap.size = q at *
  have HS4 : Hid (W4.heap.size = q + 2) := hs4
  have hln : ks.length = l.length := by have := HPM.out.length_eq; simpa using this
  have HLN : Hid (ks.length = l.length) := hln
  have HKL : Hid (∀ z ∈ ks, ∃ a r lv b, l = a ++ (z, r, lv) :: b) := fun z hz => by
    obtain ⟨x, hx, rfl⟩ := List.mem_map.1 (HPM.out.mem_iff.1 hz)
    obtain ⟨a, b, hl⟩ := List.append_of_mem hx
    exact ⟨a, x.2.1, x.2.2, b, hl⟩
  have HND : Hid (ks.Nodup) := HPM.out.nodup_iff.2 HF.out.once
  have HNNk : Hid (∀ z ∈ ks, 0 ≤ z) := fun z hz => by
    obtain ⟨x, hx, rfl⟩ := List.mem_map.1 (HPM.out.mem_iff.1 hz)
    exact HF.out.nn x hx
  clear hW4 hb4 hs4 hln HAS HW HPC HRC heqn
  refine range_all (X := X2) (kb := kb) (nb := nb) (nw := nw) (cap := cap) (p := p) (l := l) (ks := ks) rfl rfl HA4.out HKL.out (fun x hx => ⟨(HF.out.ok x hx).1, (HF.out.ok x hx).2.1, (HF.out.ok x hx).2.2 X2 HB2.out⟩) (by have := HF.out.n; have := HLN.out; omega) (fun k U => SI c rb X q false k (lst ks k) U) (fun k U V h hb => h.step hb) (fun k U lp ob h hl => h.put (by have := HS4.out; omega) ob) HSI.out ?_ ?_
  · intro lp k z r lv v' U hz hm hhr hI hAU hlp hsU hlr
    simp only [List.zip_toArray, List.zip_cons_cons, List.zip_nil_left, List.zip_nil_right, List.foldl_toArray, List.foldl_cons, List.foldl_nil, List.setIfInBounds_toArray, List.set_cons_succ, List.set_cons_zero]
    have HLP : Hid (lp = W4.heap.size + 1) := hlp
    have HSU : Hid (W4.heap.size + 2 ≤ U.heap.size) := hsU
    clear hlp hsU
    obtain ⟨hok, hll, _⟩ := HF.out.ok _ hm
    obtain ⟨j, g, lv2, hj, hpa, hat⟩ := HF.out.at_ z r lv hm
    subst hpa
    have HIU : Hid (SI c rb X q false k (lst ks k) U) := hI
    have HAU : Hid (Below X2.heap.size X2 U) := hAU.bel
    have HM : Hid ((z, r, lv) ∈ l) := hm
    have HNE : Hid (ks ≠ []) := fun e => by rw [e] at hz; simp at hz
    have hlz : ¬ z ≤ lst ks k := by
      cases k with
      | zero => have := HNNk.out z (List.mem_of_getElem? hz); show ¬ z ≤ -1; omega
      | succ k' =>
        have hk' : k' < ks.length := by have := (List.getElem?_eq_some_iff.1 hz).1; omega
        obtain ⟨y, hy⟩ : ∃ y, ks[k']? = some y := ⟨_, List.getElem?_eq_getElem hk'⟩
        have e1 : lst ks (k' + 1) = y := by show ks.getD k' 0 = y; rw [List.getD_eq_getElem?_getD, hy]; rfl
        rw [e1]
        have h1 : ks[k'] = y := (List.getElem?_eq_some_iff.1 hy).2
        obtain ⟨hk2, h2⟩ := List.getElem?_eq_some_iff.1 hz
        have h3 : y ≤ z := by rw [← h1, ← h2]; exact List.pairwise_iff_getElem.1 HST.out k' (k' + 1) hk' hk2 (Nat.lt_succ_self _)
        have h4 : y ≠ z := fun e => by
          have := (List.getElem?_inj hk' HND.out).1 (hy.trans (by rw [e]; exact hz.symm))
          omega
        omega
    have HLS : Hid (lst ks (k + 1) = z) := by show ks.getD k 0 = z; rw [List.getD_eq_getElem?_getD, hz]; rfl
    have HAT : Hid (∀ V, Below X.heap.size X V → (Calls Tryz.prog 13 #[.pointer (some ⟨rb, 0, none⟩), .int .i64 z] V fun e Y => e = .returned (.int .i64 (j : Int)) ∧ V = Y) ∧ V.rangeAt g (j * 104 + 1) (rmL r lv2) ∧ HR V lv2 r.log) := hat
    have HSM : Hid (∀ V, HR V v' r.log → HR V lv2 r.log → Calls Tryz.prog 14 #[.agg (rmL r v').toArray, .agg (rmL r lv2).toArray] V fun e Y => e = .returned (.bool true) ∧ Below V.heap.size V Y) := fun V h1 h2 => same_eq r v' lv2 V hok hll h1 h2
    have HLR : Hid (∃ r, U.heap[lp]? = some (.loop r)) := hlr
    have HNN : Hid ((rmL r v').length = 103) := rmL_len hok _
    have HN1 : Hid ((rmL r v').toArray.all (·.oneCell') = true) := rmL_onea r hhr
    have HN0 : Hid ((rmL r v')[0]? = some (.int .u64 (r.inst : Int))) := by show _ = _; rw [rmL_0]; rfl
    have HMN : Hid ((rmL r lv2).length = 103) := rmL_len hok _
    obtain ⟨NL, hNL⟩ : ∃ NL, NL = rmL r v' := ⟨_, rfl⟩
    obtain ⟨ML, hML⟩ : ∃ ML, ML = rmL r lv2 := ⟨_, rfl⟩
    rw [← hNL] at HNN HN1 HN0 HSM ⊢
    rw [← hML] at HAT HSM HMN
    have HNS : Hid (NL.toArray.size = 103) := by show _ = _; simpa using HNN.out
    have HNI : Hid ((Tryz.prog.info? 47).map (·.size) = some NL.toArray.size) := info103a _ HNS.out
    have HNJ : Hid _ := info103 NL HNN.out
    have HMJ : Hid _ := info103 ML HMN.out
    have HZM : Hid (ZL.toArray.size = NL.toArray.size) := HZS.out.trans HNS.out.symm
    obtain ⟨ins, hin⟩ : ∃ ins : Int, ins = (r.inst : Int) := ⟨_, rfl⟩
    rw [← hin] at HN0
    have HIN : Hid (ins = (r.inst : Int)) := hin
    obtain ⟨U1, hU1⟩ : ∃ V, V = (U.alloc (.cells ZL.toArray 47 (0, 0))).setRow U.heap.size NL.toArray := ⟨_, rfl⟩
    have HRA : Hid ((U.alloc (.cells ZL.toArray 47 (0, 0))).heap[U.heap.size]? = some (.cells ZL.toArray 47 (0, 0))) := heap_alloc_new _ _
    have HBU : Hid (Below U.heap.size U U1) := by rw [hU1]; exact below_setRow ((Below.refl _ _).alloc (Nat.le_refl _) _) (Nat.le_refl _) _
    have HRU : Hid (U1.heap[U.heap.size]? = some (.cells NL.toArray 47 (0, 0))) := by rw [hU1]; exact setRow_heap _ _ _ _ _ _ HRA.out
    have HLZ : Hid (¬ z ≤ lst ks k) := hlz
    have HKL1 : Hid (k < ks.length) := (List.getElem?_eq_some_iff.1 hz).1
    have HJ : Hid (j < l.length) := hj
    have HHR : Hid (HR U v' r.log) := hhr
    clear hm hhr hI hAU hz hat hok hll hNL hML hin HSI HA4 hlz hj hlr
    refine wpIn_seq ?_
    refine region_plain (by kernel_rfl) (fun h => by obtain ⟨_, _, h⟩ := h; exact h) ?_
    go_wp2_with fail
    change Code.wpIn _ _ _ _ _ _ _
    refine region_plain (by kernel_rfl) (fun h => by obtain ⟨_, _, h⟩ := h; exact h) ?_
    go_wp2_with (refine wpList_store_row rfl 47 _ _ rfl U.heap.size NL.toArray rfl rfl 47 ZL.toArray HRA.out HNI.out HZM.out HN1.out ?_)
    rw [← hU1]
    refine ⟨HBU.out, fun ob => ?_⟩
    obtain ⟨X3, hX3⟩ : ∃ X3, X3 = U1.putObj lp ob := ⟨_, rfl⟩
    rw [← hX3]
    have hsU1 := HBU.out.size
    have hsU := HSU.out
    have hks := HS4.out
    have hlp := HLP.out
    have HI3 : Hid (SI c rb X q false k (lst ks k) X3) := by show SI _ _ _ _ _ _ _ _; rw [hX3]; exact (HIU.out.step HBU.out).put (by omega) ob
    have HB3 : Hid (Below X2.heap.size X2 X3) := by
      show Below _ _ _
      rw [hX3]
      exact below_put (HAU.out.trans (HBU.out.mono HAU.out.size)) (by have := HS2.out; have := HIU.out.hq; omega) ob
    have HH3 : Hid (HR X3 v' r.log) := by
      show HR _ _ _
      obtain ⟨rr, hrr⟩ := HLR.out
      rw [hX3]
      exact hr_put ((HBU.out.block _ (by omega)).trans hrr) (HHR.out.below HBU.out) ob
    have HR3 : Hid (X3.heap[U.heap.size]? = some (.cells NL.toArray 47 (0, 0))) := by show _ = _; rw [hX3, World.putObj_heap_other (by omega)]; exact HRU.out
    have HS3 : Hid (X3.heap.size = U1.heap.size) := by show _ = _; rw [hX3]; simp
    have HQ : Hid (q + 4 ≤ U.heap.size) := by show _ ≤ _; omega
    have HKB : Hid (∀ V, Below X3.heap.size X3 V → ∀ k' : Nat, KpB X2 (KF kb nb nw p) W4.heap.size X3 ((V.setCell ⟨q, 0, none⟩ (.int .i64 (k' : Int))).setCell ⟨q + 1, 0, none⟩ (.int .i64 z))) := fun V hV k' => by
      have hq := HIU.out.hq
      have h2 := HS2.out
      refine ⟨((HB3.out.trans (hV.mono HB3.out.size)).setCell (p := ⟨q, 0, none⟩) (by show X2.heap.size ≤ q; omega) _).setCell (p := ⟨q + 1, 0, none⟩) (by show X2.heap.size ≤ q + 1; omega) _, by simpa using hV.size, fun i hi hS => ?_⟩
      have hne : i ≠ q ∧ i ≠ q + 1 := by
        rcases hS with hS | hS
        · omega
        · have := (HKF.out i HNE.out hS).2; omega
      exact (heap_setCell_other _ _ _ _ hne.2).trans ((heap_setCell_other _ _ _ _ hne.1).trans (hV.block i hi))
    generalize U.heap.size = q7 at *
    clear hU1 hX3 HRA HBU HRU HIU HAU HB3 hsU1 hsU hks HS3 hlp HLP HSU HLR HHR
    obtain ⟨LZ, hLZ⟩ : ∃ LZ, LZ = lst ks k := ⟨_, rfl⟩
    rw [← hLZ] at HI3 HLZ
    have HI3' : Hid (SI c rb X q false k LZ X3) := HI3.out
    have hpx := HI3.out.cells.2.2.1
    refine wpIn_block (wpIn_seq ?_)
    refine region_plain (by kernel_rfl) (fun h => by obtain ⟨_, _, h1, _⟩ := h; cases h1) ?_
    go_wp2_with fail
    refine Calls.mono (HAT.out X3 HI3.out.bel).1 ?_
    rintro e V0 ⟨rfl, hV0⟩
    rw [← hV0]
    clear hV0 V0 hpx
    go_wp2_with fail
    change Code.wpIn _ _ _ _ _ _ _
    have HC9 : Hid (∀ V, Below X3.heap.size X3 V → V.cell? ⟨q + 1, 0, none⟩ = some (.int .i64 LZ) ∧ V.cell? ⟨X.heap.size, 2, none⟩ = some (.pointer (some ⟨rb, 0, none⟩)) ∧ V.cell? ⟨rb, 1, none⟩ = some (.slice (some ⟨g, 0, none⟩) l.length capa) ∧ V.rangeAt g (j * 104 + 1) ML ∧ V.rangeAt q7 0 NL) := fun V hV => by
      have h1 := HI3.out.step hV
      exact ⟨h1.cells.2.2.2.2.1, h1.cells.2.2.1, (HF.out.len V h1.bel).2.1, (HAT.out V h1.bel).2.1, PC.rangeAt_row ((hV.block _ (PC.row_lt HR3.out)).trans HR3.out)⟩
    have HS9 : Hid (∀ V, Below X3.heap.size X3 V → Calls Tryz.prog 14 #[.agg NL.toArray, .agg ML.toArray] V fun e Y => e = .returned (.bool true) ∧ Below V.heap.size V Y) := fun V hV => HSM.out V (HH3.out.below hV) (HAT.out V (HI3.out.step hV).bel).2.2
    have hjI : (j : Int) < (l.length : Int) := by have := HJ.out; omega
    have hlz : ¬ z ≤ LZ := by have := HLZ.out; omega
    clear HI3'
    refine wpIn_seq (wpIn_seq ?_)
    refine region_round (S := Below X3.heap.size X3) (by kernel_rfl) (by kernel_rfl) (fun h => by obtain ⟨_, _, h1, _⟩ := h; cases h1) ((Below.refl _ _).drew) (fun hHeld => ?_)
    refine qzI 0 ⟨some 23, .move (.tmp 6), 3, _, #[], none⟩ (.int .i64 z) rfl (by kernel_rfl) (fun _ _ _ h => h) (by rfl) (fun w' hw' => ?_) hHeld ?_
    · go_simp <;> rfl
    try simp only [Act.put, qT, q0, qS]
    refine qzI 1 ⟨some 24, .load 3 (.tmp 5), 3, _, #[], none⟩ (.int .i64 LZ) rfl (by kernel_rfl) (fun _ _ _ h => h) (by rfl) (fun w' hw' => ?_) hHeld ?_
    · have hcc := (HC9.out _ hw').1; go_simp <;> rfl
    try simp only [Act.put, qT, q0, qS]
    refine qzI 2 ⟨some 25, .binOp .leq 3 (.tmp 23) (.tmp 24) 3, 4, _, #[⟨0, .data⟩, ⟨1, .data⟩], none⟩ (.bool false) rfl (by kernel_rfl) (fun _ _ _ h => h) (by rfl) (fun w' hw' => ?_) hHeld ?_
    · first | (go_simp; done) | (go_simp; rfl) | (go_simp; omega)
    try simp only [Act.put, qT, q0, qS]
    refine qzI 3 ⟨some 26, .move (.tmp 25), 4, _, #[⟨2, .data⟩], none⟩ (.bool false) rfl (by kernel_rfl) (fun _ _ _ h => h) (by rfl) (fun w' hw' => ?_) hHeld ?_
    · go_simp <;> rfl
    try simp only [Act.put, qT, q0, qS]
    refine qzI 4 ⟨some 27, .move (.tmp 8), 3, _, #[⟨3, .guard⟩], some (3, false)⟩ (.int .i64 (j : Int)) rfl (by kernel_rfl) (fun _ _ _ h => h) (by rfl) (fun w' hw' => ?_) hHeld ?_
    · go_simp <;> rfl
    try simp only [Act.put, qT, q0, qS]
    refine qzI 5 ⟨some 28, .binOp .lss 3 (.tmp 27) (.const (Go.Value.int Go.IntKind.i64 0)) 3, 4, _, #[⟨4, .data⟩, ⟨3, .guard⟩], some (3, false)⟩ (.bool false) rfl (by kernel_rfl) (fun _ _ _ h => h) (by rfl) (fun w' hw' => ?_) hHeld ?_
    · first | (go_simp; done) | (go_simp; rfl) | (go_simp; omega)
    try simp only [Act.put, qT, q0, qS]
    refine qzI 6 ⟨some 29, .pick (.tmp 26) (.const (Go.Value.bool true)) (.tmp 28), 4, _, #[⟨3, .data⟩, ⟨5, .data⟩], none⟩ (.bool false) rfl (by kernel_rfl) (fun _ _ _ h => h) (by rfl) (fun w' hw' => ?_) hHeld ?_
    · go_simp <;> rfl
    try simp only [Act.put, qT, q0, qS]
    refine qzI 7 ⟨some 30, .move (.tmp 29), 4, _, #[⟨6, .data⟩, ⟨3, .chain⟩], none⟩ (.bool false) rfl (by kernel_rfl) (fun _ _ _ h => h) (by rfl) (fun w' hw' => ?_) hHeld ?_
    · go_simp <;> rfl
    try simp only [Act.put, qT, q0, qS]
    refine qzK 8 ⟨some 31, .load 47 (.tmp 7), 47, _, #[⟨7, .guard⟩], some (7, false)⟩ _ rfl (by kernel_rfl) (fun _ _ _ h => h) (yieldsIf_load_mid (by rfl) 47 (.tmp 7) rfl (q7) (0) rfl (NL) _ (fun _ h => (HC9.out _ h).2.2.2.2) Tryz.underlying47 rfl HNJ.out) hHeld ?_
    try simp only [Act.put, qT, q0, qS]
    refine qzI 9 ⟨some 32, .fieldAddr 29 (.tmp 1) 2, 0, _, #[⟨7, .guard⟩], some (7, false)⟩ (.pointer (some ⟨X.heap.size, 2, none⟩)) rfl (by kernel_rfl) (fun _ _ _ h => h) (by rfl) (fun w' hw' => ?_) hHeld ?_
    · go_simp <;> rfl
    try simp only [Act.put, qT, q0, qS]
    refine qzI 10 ⟨some 33, .load 27 (.tmp 32), 27, _, #[⟨9, .data⟩, ⟨7, .guard⟩], some (7, false)⟩ (.pointer (some ⟨rb, 0, none⟩)) rfl (by kernel_rfl) (fun _ _ _ h => h) (by rfl) (fun w' hw' => ?_) hHeld ?_
    · have hcc := (HC9.out _ hw').2.1; go_simp <;> rfl
    try simp only [Act.put, qT, q0, qS]
    refine qzI 11 ⟨some 34, .nilCheck (.tmp 33), 0, _, #[⟨10, .data⟩, ⟨7, .guard⟩], some (7, false)⟩ (.pointer (some ⟨rb, 0, none⟩)) rfl (by kernel_rfl) (fun _ _ _ h => h) (by rfl) (fun w' hw' => ?_) hHeld ?_
    · go_simp <;> rfl
    try simp only [Act.put, qT, q0, qS]
    refine qzI 12 ⟨some 35, .fieldAddr 58 (.tmp 34) 1, 0, _, #[⟨11, .data⟩, ⟨7, .guard⟩], some (7, false)⟩ (.pointer (some ⟨rb, 1, none⟩)) rfl (by kernel_rfl) (fun _ _ _ h => h) (by rfl) (fun w' hw' => ?_) hHeld ?_
    · go_simp <;> rfl
    try simp only [Act.put, qT, q0, qS]
    refine qzI 13 ⟨some 36, .load 56 (.tmp 35), 56, _, #[⟨12, .data⟩, ⟨7, .guard⟩], some (7, false)⟩ (.slice (some ⟨g, 0, none⟩) l.length capa) rfl (by kernel_rfl) (fun _ _ _ h => h) (by rfl) (fun w' hw' => ?_) hHeld ?_
    · have hcc := (HC9.out _ hw').2.2.1; go_simp <;> rfl
    try simp only [Act.put, qT, q0, qS]
    refine qzI 14 ⟨some 37, .move (.tmp 8), 3, _, #[⟨7, .guard⟩], some (7, false)⟩ (.int .i64 (j : Int)) rfl (by kernel_rfl) (fun _ _ _ h => h) (by rfl) (fun w' hw' => ?_) hHeld ?_
    · go_simp <;> rfl
    try simp only [Act.put, qT, q0, qS]
    refine qzI 15 ⟨some 38, .indexAddr 56 (.tmp 36) (.tmp 37), 0, _, #[⟨13, .data⟩, ⟨14, .data⟩, ⟨7, .guard⟩], some (7, false)⟩ (.pointer (some ⟨g, j * 104, none⟩)) rfl (by kernel_rfl) (fun _ _ _ h => h) (by rfl) (fun w' hw' => ?_) hHeld ?_
    · first | (go_simp; done) | (go_simp; rfl) | (go_simp; intro hbad; omega)
    try simp only [Act.put, qT, q0, qS]
    refine qzI 16 ⟨some 39, .fieldAddr 54 (.tmp 38) 1, 0, _, #[⟨15, .data⟩, ⟨7, .guard⟩], some (7, false)⟩ (.pointer (some ⟨g, j * 104 + 1, none⟩)) rfl (by kernel_rfl) (fun _ _ _ h => h) (by rfl) (fun w' hw' => ?_) hHeld ?_
    · go_simp <;> rfl
    try simp only [Act.put, qT, q0, qS]
    refine qzK 17 ⟨some 40, .load 47 (.tmp 39), 47, _, #[⟨16, .data⟩, ⟨7, .guard⟩], some (7, false)⟩ _ rfl (by kernel_rfl) (fun _ _ _ h => h) (yieldsIf_load_mid (by rfl) 47 (.tmp 39) rfl (g) (j * 104 + 1) rfl (ML) _ (fun _ h => (HC9.out _ h).2.2.2.1) Tryz.underlying47 rfl HMJ.out) hHeld ?_
    try simp only [Act.put, qT, q0, qS]
    refine qzR 18 ⟨some 41, .call ⟨.value (.func 14), #[.tmp 31, .tmp 40], #[47, 47]⟩, 4, _, #[⟨8, .data⟩, ⟨17, .data⟩, ⟨7, .chain⟩, ⟨7, .guard⟩], some (7, false)⟩ (by kernel_rfl) rfl (by rfl) (fun K hK => ?_)
    go_wp2_with fail
    refine Calls.mono (HS9.out _ hHeld) ?_
    rintro e V2 ⟨rfl, hv2⟩
    have hHeld2 : Below X3.heap.size X3 V2 := hHeld.trans (hv2.mono hHeld.size)
    clear hHeld
    have hHeld := hHeld2
    clear hHeld2
    refine hK.out _ _ hHeld (fun _ => ?_)
    clear hK K
    try simp only [Act.put, qT, q0, qS]
    refine qzI 19 ⟨some 42, .unOp .not 4 (.tmp 41), 4, _, #[⟨18, .data⟩, ⟨7, .guard⟩], some (7, false)⟩ (.bool false) rfl (by kernel_rfl) (fun _ _ _ h => h) (by rfl) (fun w' hw' => ?_) hHeld ?_
    · go_simp <;> rfl
    try simp only [Act.put, qT, q0, qS]
    refine qzI 20 ⟨some 43, .pick (.tmp 30) (.const (Go.Value.bool true)) (.tmp 42), 4, _, #[⟨7, .data⟩, ⟨19, .data⟩], none⟩ (.bool false) rfl (by kernel_rfl) (fun _ _ _ h => h) (by rfl) (fun w' hw' => ?_) hHeld ?_
    · go_simp <;> rfl
    try simp only [Act.put, qT, q0, qS]
    refine wpAnyH_done (by kernel_rfl) ?_ _
    have HV2 : Hid (Below X3.heap.size X3 V2) := hHeld
    clear hHeld hv2 HC9 HS9 hjI hlz
    change Code.wpIn _ _ _ _ _ _ _
    refine wpIn_cond_false (by rfl) (wpIn_skip ?_)
    change Code.wpIn _ _ _ _ _ _ _
    have hV2 := HV2.out
    have h2I := HI3.out.step hV2
    have hci : V2.cell? ⟨q7, 0, none⟩ = some (.int .u64 ins) := by rw [cell_of_row _ _ 0 _ _ _ ((hV2.block _ (PC.row_lt HR3.out)).trans HR3.out), List.getElem?_toArray]; exact HN0.out
    have hpx : V2.cell? ⟨X.heap.size, 1, none⟩ = some (.pointer (some ⟨c.xb, 0, none⟩)) := h2I.cells.2.1
    have HFI : Hid _ := HF.out.find V2 ins h2I.bel
    clear hV2 h2I
    refine wpIn_seq ?_
    refine region_plain (by kernel_rfl) (fun h => by obtain ⟨_, _, h1, _⟩ := h; cases h1) ?_
    go_wp2_with fail
    refine Calls.mono HFI.out ?_
    rintro e V3 ⟨rd', b', rfl, hFD, hb3⟩
    have hrz : rd' = z ∧ b' = true := by
      have hin := HIN.out
      rcases hFD with ⟨h1, x, hx, h2, h3⟩ | ⟨h1, h2, h3⟩
      · have h4 : x.2.1.inst = (z, r, lv).2.1.inst := by show x.2.1.inst = r.inst; omega
        have h5 := HF.out.ins x hx _ HM.out h4
        exact ⟨by rw [← h2, h5], h1⟩
      · exact absurd (by show (r.inst : Int) = ins; omega) (h3 _ HM.out)
    obtain ⟨e1, e2⟩ := hrz
    rw [e1, e2]
    have HV3 : Hid (Below X3.heap.size X3 V3) := HV2.out.trans (hb3.mono HV2.out.size)
    clear e1 e2 hFD hb3 hci hpx HFI HV2 rd' b'
    go_wp2_with fail
    change Code.wpIn _ _ _ _ _ _ _
    refine wpIn_seq (wpIn_seq ?_)
    refine region_plain (by kernel_rfl) (fun h => by obtain ⟨_, _, h1, _⟩ := h; cases h1) ?_
    go_wp2_with fail
    change Code.wpIn _ _ _ _ _ _ _
    refine wpIn_cond_false (by rfl) (wpIn_skip ?_)
    change Code.wpIn _ _ _ _ _ _ _
    have HI4 : Hid (SI c rb X q false k LZ V3) := HI3.out.step HV3.out
    obtain ⟨_, _, _, hn1, hn2, hf1, hf2, _, _⟩ := HI4.out.cells
    have HEND : Hid _ := HI4.out.set (k + 1) z
    have HKE : Hid _ := HKB.out V3 HV3.out (k + 1)
    rw [show ((k + 1 : Nat) : Int) = (k : Int) + 1 by omega] at HEND HKE
    have HLS' : Hid (lst ks (k + 1) = z) := HLS.out
    clear HI3 HI4 HKB HLZ hLZ
    refine region_plain (by kernel_rfl) (fun h => by obtain ⟨_, _, h1, _⟩ := h; cases h1) ?_
    go_wp2_with fail
    have hk1 : (k : Int) < 1000 := by have := HKL1.out; have := HLN.out; have := HF.out.n; omega
    have hw : wrap64 ((k : Int) + 1) = (k : Int) + 1 := by simp only [wrap64]; omega
    rw [hw, HLS']
    exact ⟨trivial, HEND.out, HKE.out⟩
  · intro U hI hbU hd
    have HIU : Hid (SI c rb X q false ks.length (lst ks ks.length) U) := hI
    have HDU : Hid (U.heap[q + 2]? = some (.deferred (some []))) := by show _ = _; rw [← HS4.out]; exact hd
    rw [HS4.out]
    clear hI hbU hd HSI HA4
    go_upto_region 15 with fail
    have HC5 : Hid (∀ V, S15 c rb X q ks.length (lst ks ks.length) V → V.cell? ⟨q, 0, none⟩ = some (.int .i64 (ks.length : Int)) ∧ V.cell? ⟨X.heap.size, 0, none⟩ = some (.pointer (some ⟨c.og, 0, none⟩)) ∧ V.cell? ⟨X.heap.size, 2, none⟩ = some (.pointer (some ⟨rb, 0, none⟩)) ∧ V.cell? ⟨rb, 0, none⟩ = some (.pointer (some ⟨c.rg, 0, none⟩)) ∧ V.cell? ⟨rb, 1, none⟩ = some (.slice pa l.length capa) ∧ V.cell? ⟨c.rg, 35, none⟩ = some lvR) := fun V hV => by
      obtain ⟨b, h1⟩ := hV.1
      have h2 := HF.out.len V h1.bel
      exact ⟨h1.cells.2.2.2.1, h1.cells.1, h1.cells.2.2.1, h2.1, h2.2.1, h2.2.2⟩
    have hln : (ks.length : Int) = (l.length : Int) := by have := HLN.out; omega
    refine wp_only ?_
    have hV1 : SI c rb X q false ks.length (lst ks ks.length) U.drew := HIU.out.step (Below.refl _ _).drew
    have hD1 : U.drew.heap[q + 2]? = some (.deferred (some [])) := HDU.out
    have HI1 : Hid _ := hV1
    have HD1 : Hid _ := hD1
    have HSS : Hid (∀ V b, SI c rb X q b ks.length (lst ks ks.length) V → V.heap[q + 2]? = some (.deferred (some [])) → S15 c rb X q ks.length (lst ks ks.length) V) := fun V b h1 h2 => ⟨⟨b, h1⟩, h2⟩
    refine wp_region_held_drew (S := S15 c rb X q ks.length (lst ks ks.length)) (by kernel_rfl) (HSS.out _ _ hV1 hD1) (fun hHeld => ?_)
    clear hV1 hD1
    generalize U.drew = V1 at *
    refine qzI 0 ⟨some 62, .load 3 (.tmp 4), 3, _, #[], none⟩ (.int .i64 (ks.length : Int)) rfl (by kernel_rfl) (fun _ _ _ h => h) (by rfl) (fun w' hw' => ?_) hHeld ?_
    · have hcc := (HC5.out _ hw').1; go_simp <;> rfl
    try simp only [Act.put, qT, q0, qS]
    refine qzI 1 ⟨some 63, .fieldAddr 29 (.tmp 1) 2, 0, _, #[], none⟩ (.pointer (some ⟨X.heap.size, 2, none⟩)) rfl (by kernel_rfl) (fun _ _ _ h => h) (by rfl) (fun w' hw' => ?_) hHeld ?_
    · go_simp <;> rfl
    try simp only [Act.put, qT, q0, qS]
    refine qzI 2 ⟨some 64, .load 27 (.tmp 63), 27, _, #[⟨1, .data⟩], none⟩ (.pointer (some ⟨rb, 0, none⟩)) rfl (by kernel_rfl) (fun _ _ _ h => h) (by rfl) (fun w' hw' => ?_) hHeld ?_
    · have hcc := (HC5.out _ hw').2.2.1; go_simp <;> rfl
    try simp only [Act.put, qT, q0, qS]
    refine qzI 3 ⟨some 65, .nilCheck (.tmp 64), 0, _, #[⟨2, .data⟩], none⟩ (.pointer (some ⟨rb, 0, none⟩)) rfl (by kernel_rfl) (fun _ _ _ h => h) (by rfl) (fun w' hw' => ?_) hHeld ?_
    · go_simp <;> rfl
    try simp only [Act.put, qT, q0, qS]
    refine qzI 4 ⟨some 66, .fieldAddr 58 (.tmp 65) 1, 0, _, #[⟨3, .data⟩], none⟩ (.pointer (some ⟨rb, 1, none⟩)) rfl (by kernel_rfl) (fun _ _ _ h => h) (by rfl) (fun w' hw' => ?_) hHeld ?_
    · go_simp <;> rfl
    try simp only [Act.put, qT, q0, qS]
    refine qzI 5 ⟨some 67, .load 56 (.tmp 66), 56, _, #[⟨4, .data⟩], none⟩ (.slice pa l.length capa) rfl (by kernel_rfl) (fun _ _ _ h => h) (by rfl) (fun w' hw' => ?_) hHeld ?_
    · have hcc := (HC5.out _ hw').2.2.2.2.1; go_simp <;> rfl
    try simp only [Act.put, qT, q0, qS]
    refine qzI 6 ⟨some 68, .call ⟨.builtin Go.Builtin.len, #[.tmp 67], #[56]⟩, 3, _, #[⟨5, .data⟩], none⟩ (.int .i64 (l.length : Int)) rfl (by kernel_rfl) (fun _ _ _ h => h) (by rfl) (fun w' hw' => ?_) hHeld ?_
    · go_simp <;> rfl
    try simp only [Act.put, qT, q0, qS]
    refine qzI 7 ⟨some 69, .binOp .eql 3 (.tmp 62) (.tmp 68) 3, 4, _, #[⟨0, .data⟩, ⟨6, .data⟩], none⟩ (.bool true) rfl (by kernel_rfl) (fun _ _ _ h => h) (by rfl) (fun w' hw' => ?_) hHeld ?_
    · first | (go_simp; done) | (go_simp; rfl) | (go_simp; omega)
    try simp only [Act.put, qT, q0, qS]
    refine qzI 8 ⟨some 70, .move (.tmp 69), 4, _, #[⟨7, .data⟩], none⟩ (.bool true) rfl (by kernel_rfl) (fun _ _ _ h => h) (by rfl) (fun w' hw' => ?_) hHeld ?_
    · go_simp <;> rfl
    try simp only [Act.put, qT, q0, qS]
    refine qzI 9 ⟨some 71, .fieldAddr 29 (.tmp 1) 0, 0, _, #[⟨8, .guard⟩], some (8, true)⟩ (.pointer (some ⟨X.heap.size, 0, none⟩)) rfl (by kernel_rfl) (fun _ _ _ h => h) (by rfl) (fun w' hw' => ?_) hHeld ?_
    · go_simp <;> rfl
    try simp only [Act.put, qT, q0, qS]
    refine qzI 10 ⟨some 72, .load 25 (.tmp 71), 25, _, #[⟨9, .data⟩, ⟨8, .guard⟩], some (8, true)⟩ (.pointer (some ⟨c.og, 0, none⟩)) rfl (by kernel_rfl) (fun _ _ _ h => h) (by rfl) (fun w' hw' => ?_) hHeld ?_
    · have hcc := (HC5.out _ hw').2.1; go_simp <;> rfl
    try simp only [Act.put, qT, q0, qS]
    refine qzI 12 ⟨some 74, .fieldAddr 29 (.tmp 1) 2, 0, _, #[⟨8, .guard⟩], some (8, true)⟩ (.pointer (some ⟨X.heap.size, 2, none⟩)) rfl (by kernel_rfl) (fun _ _ _ h => h) (by rfl) (fun w' hw' => ?_) hHeld ?_
    · go_simp <;> rfl
    try simp only [Act.put, qT, q0, qS]
    refine qzI 13 ⟨some 75, .load 27 (.tmp 74), 27, _, #[⟨12, .data⟩, ⟨8, .guard⟩], some (8, true)⟩ (.pointer (some ⟨rb, 0, none⟩)) rfl (by kernel_rfl) (fun _ _ _ h => h) (by rfl) (fun w' hw' => ?_) hHeld ?_
    · have hcc := (HC5.out _ hw').2.2.1; go_simp <;> rfl
    try simp only [Act.put, qT, q0, qS]
    refine qzI 14 ⟨some 76, .nilCheck (.tmp 75), 0, _, #[⟨13, .data⟩, ⟨8, .guard⟩], some (8, true)⟩ (.pointer (some ⟨rb, 0, none⟩)) rfl (by kernel_rfl) (fun _ _ _ h => h) (by rfl) (fun w' hw' => ?_) hHeld ?_
    · go_simp <;> rfl
    try simp only [Act.put, qT, q0, qS]
    refine qzI 15 ⟨some 77, .fieldAddr 58 (.tmp 76) 0, 0, _, #[⟨14, .data⟩, ⟨8, .guard⟩], some (8, true)⟩ (.pointer (some ⟨rb, 0, none⟩)) rfl (by kernel_rfl) (fun _ _ _ h => h) (by rfl) (fun w' hw' => ?_) hHeld ?_
    · go_simp <;> rfl
    try simp only [Act.put, qT, q0, qS]
    refine qzI 16 ⟨some 78, .load 55 (.tmp 77), 55, _, #[⟨15, .data⟩, ⟨8, .guard⟩], some (8, true)⟩ (.pointer (some ⟨c.rg, 0, none⟩)) rfl (by kernel_rfl) (fun _ _ _ h => h) (by rfl) (fun w' hw' => ?_) hHeld ?_
    · have hcc := (HC5.out _ hw').2.2.2.1; go_simp <;> rfl
    try simp only [Act.put, qT, q0, qS]
    refine qzI 17 ⟨some 79, .nilCheck (.tmp 78), 0, _, #[⟨16, .data⟩, ⟨8, .guard⟩], some (8, true)⟩ (.pointer (some ⟨c.rg, 0, none⟩)) rfl (by kernel_rfl) (fun _ _ _ h => h) (by rfl) (fun w' hw' => ?_) hHeld ?_
    · go_simp <;> rfl
    try simp only [Act.put, qT, q0, qS]
    refine qzI 18 ⟨some 80, .fieldAddr 94 (.tmp 79) 4, 0, _, #[⟨17, .data⟩, ⟨8, .guard⟩], some (8, true)⟩ (.pointer (some ⟨c.rg, 35, none⟩)) rfl (by kernel_rfl) (fun _ _ _ h => h) (by rfl) (fun w' hw' => ?_) hHeld ?_
    · go_simp <;> rfl
    try simp only [Act.put, qT, q0, qS]
    refine qzI 19 ⟨some 81, .load 92 (.tmp 80), 92, _, #[⟨18, .data⟩, ⟨8, .guard⟩], some (8, true)⟩ (lvR) rfl (by kernel_rfl) (fun _ _ _ h => h) (by rfl) (fun w' hw' => ?_) hHeld ?_
    · have hcc := (HC5.out _ hw').2.2.2.2.2; go_simp <;> rfl
    try simp only [Act.put, qT, q0, qS]
    refine qzR 11 ⟨some 73, .call ⟨.value (.func 42), #[.tmp 72], #[25]⟩, 92, _, #[⟨10, .data⟩, ⟨8, .chain⟩, ⟨8, .guard⟩], some (8, true)⟩ (by kernel_rfl) rfl (by rfl) (fun K hK => ?_)
    go_wp2_with fail
    refine Calls.mono (HF.out.log V1 HI1.out.bel) ?_
    rintro e V2 ⟨va, ds, rfl, hLO, hb2⟩
    have HI2 : Hid _ := HI1.out.step hb2
    have HD2 : Hid (V2.heap[q + 2]? = some (.deferred (some []))) := (hb2.block _ (PC.row_lt HD1.out)).trans HD1.out
    have HSL : Hid _ := R5.sameLog_any va lvR s.L s.L V2 HF.out.n.2 HF.out.n.2 (R5.hlr_of hLO.hlg) (HF.out.rlog V2 HI2.out.bel)
    clear hHeld hLO hb2
    have hHeld := HSS.out _ _ HI2.out HD2.out
    refine hK.out _ _ hHeld (fun _ => ?_)
    clear hK K
    try simp only [Act.put, qT, q0, qS]
    refine qzR 20 ⟨some 82, .call ⟨.value (.func 41), #[.tmp 73, .tmp 81], #[92, 92]⟩, 4, _, #[⟨11, .data⟩, ⟨19, .data⟩, ⟨11, .chain⟩, ⟨8, .guard⟩], some (8, true)⟩ (by kernel_rfl) rfl (by rfl) (fun K hK => ?_)
    go_wp2_with fail
    refine Calls.mono HSL.out ?_
    rintro e V3 ⟨he, hb3⟩
    have he2 : e = .returned (.bool true) := by rw [he]; simp
    clear he
    subst he2
    have HI3 : Hid _ := HI2.out.step hb3
    have HD3 : Hid (V3.heap[q + 2]? = some (.deferred (some []))) := (hb3.block _ (PC.row_lt HD2.out)).trans HD2.out
    clear hHeld hb3 HSL
    have hHeld := HSS.out _ _ HI3.out HD3.out
    refine hK.out _ _ hHeld (fun _ => ?_)
    clear hK K
    try simp only [Act.put, qT, q0, qS]
    refine qzI 21 ⟨some 83, .pick (.tmp 70) (.tmp 82) (.const (Go.Value.bool false)), 4, _, #[⟨8, .data⟩, ⟨20, .data⟩], none⟩ (.bool true) rfl (by kernel_rfl) (fun _ _ _ h => h) (by rfl) (fun w' hw' => ?_) hHeld ?_
    · go_simp <;> rfl
    try simp only [Act.put, qT, q0, qS]
    have hI3 := HI3.out.cells
    obtain ⟨_, _, _, _, _, _, _, hr1, hr2⟩ := hI3
    have HAN : Hid _ := HI3.out.ans true
    have HDV : Hid ((V3.setCell ⟨X.heap.size + 1, 0, none⟩ (.bool true)).heap[q + 2]? = some (.deferred (some []))) := (heap_setCell_other _ _ _ _ (by have := HIU.out.hq; show q + 2 ≠ X.heap.size + 1; omega)).trans HD3.out
    refine qzR 22 ⟨none, .store 4 (.tmp 2) (.tmp 83), 0, _, #[⟨21, .data⟩, ⟨20, .chain⟩, ⟨0, .phase⟩, ⟨1, .phase⟩, ⟨2, .phase⟩, ⟨3, .phase⟩, ⟨4, .phase⟩, ⟨5, .phase⟩, ⟨6, .phase⟩, ⟨7, .phase⟩, ⟨8, .phase⟩, ⟨9, .phase⟩, ⟨10, .phase⟩, ⟨11, .phase⟩, ⟨12, .phase⟩, ⟨13, .phase⟩, ⟨14, .phase⟩, ⟨15, .phase⟩, ⟨16, .phase⟩, ⟨17, .phase⟩, ⟨18, .phase⟩, ⟨19, .phase⟩, ⟨20, .phase⟩, ⟨21, .phase⟩], none⟩ (by kernel_rfl) rfl (by rfl) (fun K hK => ?_)
    go_wp2_with fail
    generalize V3.setCell ⟨X.heap.size + 1, 0, none⟩ (.bool true) = V4 at *
    clear hr1 hr2 hHeld
    have hHeld := HSS.out _ _ HAN.out HDV.out
    refine hK.out _ _ hHeld (fun _ => ?_)
    clear hK K
    try simp only [Act.put, qT, q0, qS]
    refine wpAnyH_done (by kernel_rfl) ?_ _
    clear hHeld
    go_wp2
    refine R5.marks_ret (v := .bool true) [q + 2] V4 (fun D hD => ?_) (by simp) (fun w' h1 h2 h3 h4 h5 => ⟨R5.results_bool Tryz.results11 _ _ (X.heap.size + 1) true rfl ?_, rfl, ⟨h2.trans HAN.out.bel.os, h3.trans HAN.out.bel.tape, h4.trans HAN.out.bel.output, by rw [h1]; exact HAN.out.bel.size, fun i hi => (h5 i (by simp; have := HIU.out.hq; omega)).trans (HAN.out.bel.block i hi)⟩⟩)
    · rw [List.mem_singleton.1 hD]; exact HDV.out
    · rw [cell_of_row _ _ 0 _ _ _ ((h5 _ (by simp; have := HIU.out.hq; omega)).trans HAN.out.rc)]; rfl
end
end Go.Proofs.YtekbppfocnbhbaaGreat.XC
