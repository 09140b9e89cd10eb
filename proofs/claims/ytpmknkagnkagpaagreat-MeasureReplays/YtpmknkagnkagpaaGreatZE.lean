/- measure: lists of records; MayAll. -/
import Derived.Test.YtpmknkagnkagpaaGreatZD
set_option linter.unusedVariables false
set_option linter.unusedSimpArgs false
namespace Go.Proofs.YtpmknkagnkagpaaGreat.ZC
open Go.RowKit

def HR (w : World) (v : Value) (l : List Rd) : Prop := ∃ p cap, v = .slice p l.length cap ∧ ∀ (i : Nat) (r : Rd), l[i]? = some r → r.ok ∧ ∃ b o, p = some ⟨b, o, none⟩ ∧ w.rangeAt b (o + i * 172) (rdL r)
theorem HR.below {w w' : World} {v : Value} {l : List Rd} (h : HR w v l) (hb : Below w.heap.size w w') : HR w' v l := by
  obtain ⟨p, cap, h1, h2⟩ := h
  refine ⟨p, cap, h1, fun i r hi => ?_⟩
  obtain ⟨h3, b, o, h4, h5⟩ := h2 i r hi
  exact ⟨h3, b, o, h4, PC.rangeAt_below h5 hb⟩
theorem HR.keep {w w' : World} {v : Value} {l : List Rd} (h : HR w v l) (hk : l ≠ [] → ∀ k, v.ownBlock = some k → k < w.heap.size → w'.heap[k]? = w.heap[k]?) : HR w' v l := by
  obtain ⟨p, cap, h1, h2⟩ := h
  refine ⟨p, cap, h1, fun i r hi => ?_⟩
  obtain ⟨h3, b, o, h4, h5⟩ := h2 i r hi
  have hne : l ≠ [] := fun e => by rw [e] at hi; simp at hi
  refine ⟨h3, b, o, h4, fun j u hu => ?_⟩
  have h6 := h5 j u hu
  exact (World.cell?_of_block (a := ⟨b, o + i * 172 + j, none⟩) (hk hne b (by rw [h1, h4]; rfl) (block_lt h6))).trans h6
def good (l : List Rd) (i : Nat) : Bool := match l[i]? with
  | some r => mayD r && ((r.kind == 1) == decide (i = 0))
  | none => true
theorem good_at {l : List Rd} {i : Nat} {r : Rd} (h : l[i]? = some r) : good l i = (mayD r && ((r.kind == 1) == decide (i = 0))) := by unfold good; rw [h]
def mayL (l : List Rd) : Bool := decide (0 < l.length) && (List.range l.length).all (good l)
theorem mayL_iff (l : List Rd) : mayL l = true ↔ 0 < l.length ∧ ∀ i, i < l.length → good l i = true := by unfold mayL; simp
theorem mayL_no {l : List Rd} {k : Nat} (hk : k < l.length) (h : good l k = false) : mayL l = false := by
  cases hm : mayL l with
  | false => rfl
  | true => have := ((mayL_iff l).1 hm).2 k hk; rw [h] at this; cases this
set_option maxHeartbeats 2000000 in
set_option maxRecDepth 100000 in
theorem mayall_any (v : Value) (l : List Rd) (w : World) (h : HR w v l) (hl : l.length ≤ 1000000) : Calls Tryz.prog 15 #[v] w fun e w' => e = .returned (.bool (mayL l)) ∧ Below w.heap.size w w' := by
  obtain ⟨p, cap, hv, hrow⟩ := h
  subst hv
  have HM : Hid (∀ r : Rd, r.ok → ∀ W, Calls Tryz.prog 8 #[.agg (rdL r).toArray] W fun e w' => e = .returned (.bool (mayD r)) ∧ Below W.heap.size W w') := fun r h W => may_any r W h
  obtain ⟨M, hM⟩ : ∃ M, M = mayL l := ⟨_, rfl⟩
  rw [← hM]
  have HNO : Hid (∀ k, k < l.length → good l k = false → M = false) := fun k h1 h2 => by rw [hM]; exact mayL_no h1 h2
  have HYES : Hid ((∀ i, i < l.length → good l i = true) → M = decide (0 < l.length)) := fun h => by
    rw [hM]
    by_cases h0 : 0 < l.length
    · rw [decide_eq_true h0]; exact (mayL_iff l).2 ⟨h0, h⟩
    · rw [decide_eq_false h0]; unfold mayL; rw [decide_eq_false h0]; rfl
  have HROW : Hid (∀ (i : Nat) (r : Rd), l[i]? = some r → r.ok ∧ ∃ b o, p = some ⟨b, o, none⟩ ∧ w.rangeAt b (o + i * 172) (rdL r)) := hrow
  have hz := fun W => zero_rd W
  obtain ⟨ZL, hZL⟩ : ∃ L, L = rdL zD := ⟨_, rfl⟩
  rw [← hZL] at hz
  have HZS : Hid (ZL.toArray.size = 172) := by show _ = _; rw [hZL]; simpa using rdL_len zD_ok
  obtain ⟨n, hn⟩ : ∃ n, n = l.length := ⟨_, rfl⟩
  rw [← hn] at hl ⊢
  have HN : Hid (n = l.length) := hn
  clear hZL hM hrow hn
  go_enter Tryz.func15, Tryz.ntmps15
  go_wp2
  go_step3
  go_wp2
  go_step3
  go_wp2
  go_loopw [3, 8] (fun c i wr => ∃ k : Nat, k ≤ n ∧ c = .int .i64 k ∧ i = .int .i64 k ∧ (∀ j, j < k → good l j = true) ∧ Below w.heap.size w wr) (fun _ i _ => n - (intOf i).toNat)
  case atStart => exact ⟨0, Nat.zero_le _, rfl, rfl, fun j hj => by omega, Below.refl _ _⟩
  case round =>
    obtain ⟨k, hk, rfl, rfl, hg, hb⟩ := hrel
    have HG : Hid (∀ j, j < k → good l j = true) := hg
    have HB : Hid (Below w.heap.size w wr) := hb
    clear hg hb
    by_cases hlt : k < n
    · have hkI : (k : Int) < (n : Int) := by omega
      have hlt' : k < l.length := by have := HN.out; omega
      obtain ⟨r, hr⟩ : ∃ r, l[k]? = some r := ⟨_, List.getElem?_eq_getElem hlt'⟩
      obtain ⟨hok, b, o, hp, hrg⟩ := HROW.out k r hr
      subst hp
      have hkc := rdL_0 r
      have HGK : Hid (good l k = (mayD r && ((r.kind == 1) == decide (k = 0)))) := good_at hr
      have HRN : Hid ((rdL r).length = 172) := rdL_len hok
      have HRS : Hid ((rdL r).toArray.size = 172) := by show _ = _; simpa using HRN.out
      have HRI : Hid _ := info172 (rdL r) HRN.out
      have HRA : Hid ((Tryz.prog.info? 33).map (·.size) = some (rdL r).toArray.size) := info172a _ HRS.out
      have HR1 : Hid ((rdL r).toArray.all (·.oneCell') = true) := PC.onea (rdL_one _)
      have HRG : Hid (wr.rangeAt b (o + k * 172) (rdL r)) := PC.rangeAt_below hrg HB.out
      have HMR : Hid _ := HM.out r hok
      have HZA : Hid ((wr.alloc (.cells ZL.toArray 33 (0, 0))).heap[wr.heap.size]? = some (.cells ZL.toArray 33 (0, 0))) := heap_alloc_new _ _
      have HZR : Hid (ZL.toArray.size = (rdL r).toArray.size) := HZS.out.trans HRS.out.symm
      have HBW : Hid (Below w.heap.size w ((wr.alloc (.cells ZL.toArray 33 (0, 0))).setRow wr.heap.size (rdL r).toArray)) := below_setRow (HB.out.alloc (by have := HB.out.size; omega) _) (by have := HB.out.size; omega) _
      have HRW : Hid (((wr.alloc (.cells ZL.toArray 33 (0, 0))).setRow wr.heap.size (rdL r).toArray).heap[wr.heap.size]? = some (.cells (rdL r).toArray 33 (0, 0))) := setRow_heap _ _ _ _ _ _ HZA.out
      have HRR : Hid _ := PC.rangeAt_row HRW.out
      obtain ⟨mr, hmr⟩ : ∃ m, m = mayD r := ⟨_, rfl⟩
      rw [← hmr] at HMR HGK
      generalize hRL : rdL r = RL at *
      have HK0 : Hid (RL[0]? = some (.int .i64 r.kind)) := hkc
      clear hkc hRL hrg hr hok hmr hlt'
      generalize r.kind = kd at *
      go_wp2_with (first
        | (refine wpList_load_mid rfl 33 _ rfl b (o + k * 172) rfl RL _ HRG.out Tryz.underlying33 rfl HRI.out ?_)
        | (refine wpList_store_row rfl 33 _ _ rfl wr.heap.size RL.toArray rfl rfl 33 ZL.toArray HZA.out HRA.out HZR.out HR1.out ?_)
        | (refine wpList_load_mid rfl 33 _ rfl wr.heap.size 0 rfl RL _ HRR.out Tryz.underlying33 rfl HRI.out ?_))
      refine Calls.mono (HMR.out _) ?_
      rintro e w2 ⟨rfl, hb2⟩
      have hs2 : wr.heap.size < w2.heap.size := by have := hb2.size; simp at this; omega
      have hr2 : w2.heap[wr.heap.size]? = some (.cells RL.toArray 33 (0, 0)) := (hb2.block _ (by simp)).trans HRW.out
      have hc2 : w2.cell? ⟨wr.heap.size, 0, none⟩ = some (.int .i64 kd) := by have := PC.rangeAt_row hr2 0 _ HK0.out; rwa [Nat.zero_add] at this
      have HB2 : Hid (Below w.heap.size w w2) := HBW.out.trans (hb2.mono (by have := HB.out.size; simp; omega))
      clear hb2 hr2 HMR HRR HRW HBW HZA HRG HK0
      have hk0 : ((k : Int) == 0) = decide (k = 0) := by rw [Bool.eq_iff_iff]; simp
      have hkn : ((k : Int) == (n : Int)) = false := by rw [beq_eq_false_iff_ne]; omega
      obtain ⟨c1, hc1⟩ : ∃ c, c = (kd == 1) := ⟨_, rfl⟩
      have hkd : (kd == 1) = c1 := hc1.symm
      rw [hkd] at HGK
      clear hc1
      cases hmr : mr with
      | false =>
        subst hmr
        have HMF : Hid (M = false) := HNO.out k (by have := HN.out; omega) (by rw [HGK.out]; rfl)
        go_wp2
        all_goals
          try rw [Exit.noGoto_ret]
          go_ret
          exact ⟨by rw [HMF.out]; try rfl, HB2.out⟩
      | true =>
        subst hmr
        rw [Bool.true_and] at HGK
        by_cases hz0 : k = 0
        · have hk0' : ((k : Int) == 0) = true := by rw [hk0]; simp [hz0]
          have hkp : ¬ 0 < (k : Int) := by omega
          clear hk0
          cases hc : c1 with
          | false =>
            subst hc
            have HMF : Hid (M = false) := HNO.out k (by have := HN.out; omega) (by rw [HGK.out]; simp [hz0])
            clear hz0
            go_wp2
            all_goals
              try rw [Exit.noGoto_ret]
              go_ret
              exact ⟨by rw [HMF.out]; try rfl, HB2.out⟩
          | true =>
            subst hc
            have HGG : Hid (good l k = true) := by show _ = _; rw [HGK.out]; simp [hz0]
            clear hz0
            go_wp2
            go_roundw
            case rel => exact ⟨k + 1, by omega, by go_num, by go_num, fun j hj => (by rcases Nat.lt_succ_iff_lt_or_eq.1 hj with h | h; exact HG.out j h; rw [h]; exact HGG.out), HB2.out⟩
            case measure => simp [intOf]; omega
        · have hk0' : ((k : Int) == 0) = false := by rw [hk0]; simp [hz0]
          have hkp : 0 < (k : Int) := by omega
          clear hk0
          cases hc : c1 with
          | true =>
            subst hc
            have HMF : Hid (M = false) := HNO.out k (by have := HN.out; omega) (by rw [HGK.out]; simp [hz0])
            clear hz0
            go_wp2
            all_goals
              try rw [Exit.noGoto_ret]
              go_ret
              exact ⟨by rw [HMF.out]; try rfl, HB2.out⟩
          | false =>
            subst hc
            have HGG : Hid (good l k = true) := by show _ = _; rw [HGK.out]; simp [hz0]
            clear hz0
            go_wp2
            go_roundw
            case rel => exact ⟨k + 1, by omega, by go_num, by go_num, fun j hj => (by rcases Nat.lt_succ_iff_lt_or_eq.1 hj with h | h; exact HG.out j h; rw [h]; exact HGG.out), HB2.out⟩
            case measure => simp [intOf]; omega
    · have hkI : ¬ (k : Int) < (n : Int) := by omega
      obtain rfl : k = n := by omega
      have HME : Hid (M = decide (0 < l.length)) := HYES.out (fun i hi => HG.out i (by have := HN.out; omega))
      have hkk : ((k : Int) == (k : Int)) = true := by simp
      by_cases h0 : 0 < k
      · have h0I : 0 < (k : Int) := by omega
        have HMT : Hid (M = true) := by show _ = _; rw [HME.out]; exact decide_eq_true (by have := HN.out; omega)
        go_wp2
        try rw [Exit.noGoto_ret]
        go_ret
        exact ⟨by rw [HMT.out]; try rfl, HB.out⟩
      · have h0I : ¬ 0 < (k : Int) := by omega
        have HMT : Hid (M = false) := by show _ = _; rw [HME.out]; exact decide_eq_false (by have := HN.out; omega)
        go_wp2
        try rw [Exit.noGoto_ret]
        go_ret
        exact ⟨by rw [HMT.out]; try rfl, HB.out⟩
end Go.Proofs.YtpmknkagnkagpaaGreat.ZC
