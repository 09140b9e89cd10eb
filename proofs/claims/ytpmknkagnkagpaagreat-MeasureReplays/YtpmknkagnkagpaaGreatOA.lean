/- measure: the program's Same; the document's MayAll. -/
import Derived.Test.YtpmknkagnkagpaaGreatZT
import Derived.Test.YtpmknkagnkagpaaGreatYX
set_option linter.unusedVariables false
set_option linter.unusedSimpArgs false
namespace Go.Proofs.YtpmknkagnkagpaaGreat.ZC
open Go.RowKit

set_option maxHeartbeats 2000000 in
set_option maxRecDepth 100000 in
theorem eqR_any (v u : Value) (l k : List Rd) (w : World) (hl : l.length < 1000000) (hv : HR w v l) (hu : HR w u k) : Calls Tryz.prog 38 #[v, u] w fun e w' => e = .returned (.bool (smeL l k)) ∧ Below w.heap.size w w' := by
  obtain ⟨p, cap, rfl, hrow⟩ := hv
  obtain ⟨p', cap', rfl, hrow'⟩ := hu
  obtain ⟨M, hM⟩ : ∃ M, M = smeL l k := ⟨_, rfl⟩
  rw [← hM]
  by_cases hlk : l.length = k.length
  · have HNO : Hid (∀ (i : Nat) (a b : Rd), l[i]? = some a → k[i]? = some b → rdEq a b = false → M = false) := fun i a b h1 h2 h3 => by rw [hM]; exact smeL_no h1 h2 h3
    have HYES : Hid ((∀ (i : Nat) (a b : Rd), l[i]? = some a → k[i]? = some b → rdEq a b = true) → M = true) := fun h => by rw [hM]; exact smeL_yes hlk h
    have HR1 : Hid (∀ (i : Nat) (r : Rd), l[i]? = some r → r.ok ∧ ∃ b o, p = some ⟨b, o, none⟩ ∧ w.rangeAt b (o + i * 172) (rdL r)) := hrow
    have HR2 : Hid (∀ (i : Nat) (r : Rd), k[i]? = some r → r.ok ∧ ∃ b o, p' = some ⟨b, o, none⟩ ∧ w.rangeAt b (o + i * 172) (rdL r)) := hrow'
    rw [← hlk]
    obtain ⟨n, hn⟩ : ∃ n, n = l.length := ⟨_, rfl⟩
    have HN2 : Hid (n = k.length) := hn.trans hlk
    rw [← hn] at hl ⊢
    have HN : Hid (n = l.length) := hn
    have hnn : ((n : Int) != (n : Int)) = false := by simp
    clear hrow hrow' hM hn hlk
    go_enter Tryz.func38, Tryz.ntmps38
    go_wp2
    go_loopw [5, 13] (fun _ v wr => ∃ i : Nat, i ≤ n ∧ v = .int .i64 i ∧ Below w.heap.size w wr ∧ ∀ (j : Nat) (a b : Rd), j < i → l[j]? = some a → k[j]? = some b → rdEq a b = true) (fun _ v _ => n - (intOf v).toNat)
    case atStart => exact ⟨0, Nat.zero_le _, rfl, Below.refl _ _, fun j a b h => by omega⟩
    case round =>
      obtain ⟨i, hi, rfl, hb, hd⟩ := hrel
      have HB : Hid (Below w.heap.size w wr) := hb
      have HBD : Hid (Below w.heap.size w wr.drew) := hb.drew
      have HD : Hid (∀ (j : Nat) (a b : Rd), j < i → l[j]? = some a → k[j]? = some b → rdEq a b = true) := hd
      clear hb hd
      by_cases hlt : i < n
      · have hiI : (i : Int) < (n : Int) := by omega
        obtain ⟨a, ha⟩ : ∃ a, l[i]? = some a := ⟨_, List.getElem?_eq_getElem (by have := HN.out; omega)⟩
        obtain ⟨c, hc⟩ : ∃ c, k[i]? = some c := ⟨_, List.getElem?_eq_getElem (by have := HN2.out; omega)⟩
        obtain ⟨oka, b1, o1, hp1, hr1⟩ := HR1.out i a ha
        obtain ⟨okc, b2, o2, hp2, hr2⟩ := HR2.out i c hc
        subst hp1 hp2
        have HA : Hid (w.rangeAt b1 (o1 + i * 172) (rdL a)) := hr1
        have HC : Hid (w.rangeAt b2 (o2 + i * 172) (rdL c)) := hr2
        have HAI : Hid _ := info172 (rdL a) (rdL_len oka)
        have HCI : Hid _ := info172 (rdL c) (rdL_len okc)
        obtain ⟨q, hq⟩ : ∃ q, q = rdEq a c := ⟨_, rfl⟩
        have HNQ : Hid (∀ W, (binOp .neq 33 (.agg (rdL a).toArray) (.agg (rdL c).toArray)).run Tryz.prog W = .ok (.bool (!q)) W) := fun W => by rw [hq]; exact neq_rd W a c oka okc
        have HF : Hid (q = false → M = false) := fun h => HNO.out i a c ha hc (by rw [← hq]; exact h)
        have HT : Hid (q = true → ∀ (j : Nat) (a b : Rd), j < i + 1 → l[j]? = some a → k[j]? = some b → rdEq a b = true) := fun h j x y hj hx hy => by
          rcases Nat.lt_or_ge j i with h1 | h1
          · exact HD.out j x y h1 hx hy
          · obtain rfl : j = i := by omega
            rw [ha] at hx; rw [hc] at hy
            obtain rfl : a = x := by simpa using hx
            obtain rfl : c = y := by simpa using hy
            rw [← hq]; exact h
        clear ha hc oka okc hr1 hr2 hq
        generalize rdL a = AL at *
        generalize rdL c = CL at *
        go_wp2
        refine wp_region_held_drew (S := fun X => Below w.heap.size w X) (by kernel_rfl) HBD.out (fun hHeld => ?_)
        generalize wr.drew = Y at *
        refine wpAnyH_take (i := 0) (oi := ⟨some 16, .move (.tmp 0), 51, _, #[], none⟩) (v := .slice (some ⟨b1, o1, none⟩) n cap) rfl (by kernel_rfl) (by kernel_rfl) (by kernel_rfl) (fun _ _ _ h => h) (Or.inl ⟨by rfl, fun w' hw' => ?_⟩) hHeld ?_
        · first | (go_simp; done) | (go_simp; rfl)
        try simp only [Act.put, qT, q0, qS]
        refine wpAnyH_take (i := 1) (oi := ⟨some 17, .move (.tmp 5), 3, _, #[], none⟩) (v := .int .i64 (i : Int)) rfl (by kernel_rfl) (by kernel_rfl) (by kernel_rfl) (fun _ _ _ h => h) (Or.inl ⟨by rfl, fun w' hw' => ?_⟩) hHeld ?_
        · first | (go_simp; done) | (go_simp; rfl)
        try simp only [Act.put, qT, q0, qS]
        refine wpAnyH_take (i := 2) (oi := ⟨some 18, .indexAddr 51 (.tmp 16) (.tmp 17), 0, _, #[⟨0, .data⟩, ⟨1, .data⟩], none⟩) (v := .pointer (some ⟨b1, o1 + i * 172, none⟩)) rfl (by kernel_rfl) (by kernel_rfl) (by kernel_rfl) (fun _ _ _ h => h) (Or.inl ⟨by rfl, fun w' hw' => ?_⟩) hHeld ?_
        · first | (go_simp; done) | (go_simp; rfl)
        try simp only [Act.put, qT, q0, qS]
        refine wpAnyH_take (i := 3) (oi := ⟨some 19, .load 33 (.tmp 18), 33, _, #[⟨2, .data⟩], none⟩) rfl (by kernel_rfl) (by kernel_rfl) (by kernel_rfl) (fun _ _ _ h => h) (yieldsIf_load_mid (by rfl) 33 (.tmp 18) rfl (b1) (o1 + i * 172) rfl (AL) _ (fun _ h => PC.rangeAt_below HA.out h) Tryz.underlying33 rfl HAI.out) hHeld ?_
        try simp only [Act.put, qT, q0, qS]
        refine wpAnyH_take (i := 4) (oi := ⟨some 20, .move (.tmp 1), 51, _, #[], none⟩) (v := .slice (some ⟨b2, o2, none⟩) n cap') rfl (by kernel_rfl) (by kernel_rfl) (by kernel_rfl) (fun _ _ _ h => h) (Or.inl ⟨by rfl, fun w' hw' => ?_⟩) hHeld ?_
        · first | (go_simp; done) | (go_simp; rfl)
        try simp only [Act.put, qT, q0, qS]
        refine wpAnyH_take (i := 5) (oi := ⟨some 21, .move (.tmp 5), 3, _, #[], none⟩) (v := .int .i64 (i : Int)) rfl (by kernel_rfl) (by kernel_rfl) (by kernel_rfl) (fun _ _ _ h => h) (Or.inl ⟨by rfl, fun w' hw' => ?_⟩) hHeld ?_
        · first | (go_simp; done) | (go_simp; rfl)
        try simp only [Act.put, qT, q0, qS]
        refine wpAnyH_take (i := 6) (oi := ⟨some 22, .indexAddr 51 (.tmp 20) (.tmp 21), 0, _, #[⟨4, .data⟩, ⟨5, .data⟩], none⟩) (v := .pointer (some ⟨b2, o2 + i * 172, none⟩)) rfl (by kernel_rfl) (by kernel_rfl) (by kernel_rfl) (fun _ _ _ h => h) (Or.inl ⟨by rfl, fun w' hw' => ?_⟩) hHeld ?_
        · first | (go_simp; done) | (go_simp; rfl)
        try simp only [Act.put, qT, q0, qS]
        refine wpAnyH_take (i := 7) (oi := ⟨some 23, .load 33 (.tmp 22), 33, _, #[⟨6, .data⟩], none⟩) rfl (by kernel_rfl) (by kernel_rfl) (by kernel_rfl) (fun _ _ _ h => h) (yieldsIf_load_mid (by rfl) 33 (.tmp 22) rfl (b2) (o2 + i * 172) rfl (CL) _ (fun _ h => PC.rangeAt_below HC.out h) Tryz.underlying33 rfl HCI.out) hHeld ?_
        try simp only [Act.put, qT, q0, qS]
        have hnq := HNQ.out
        refine wpAnyH_take (i := 8) (oi := ⟨some 24, .binOp .neq 33 (.tmp 19) (.tmp 23) 33, 4, _, #[⟨3, .data⟩, ⟨7, .data⟩], none⟩) (v := .bool (!q)) rfl (by kernel_rfl) (by kernel_rfl) (by kernel_rfl) (fun _ _ _ h => h) (Or.inl ⟨by rfl, fun w' hw' => ?_⟩) hHeld ?_
        · first | (go_simp; done) | (go_simp; rfl)
        try simp only [Act.put, qT, q0, qS]
        refine wpAnyH_done (by kernel_rfl) ?_ _
        have HB3 : Hid (Below w.heap.size w Y) := hHeld
        clear hHeld hnq
        cases hqq : q with
        | false =>
          subst hqq
          have HMF : Hid (M = false) := HF.out rfl
          go_wp2
          go_ret
          exact ⟨by rw [HMF.out]; rfl, HB3.out⟩
        | true =>
          subst hqq
          go_wp2
          go_roundw
          case rel => exact ⟨i + 1, by omega, by go_num, HB3.out, HT.out rfl⟩
          case measure => simp [intOf]; omega
      · have hie : i = n := by omega
        subst hie
        have hiI : ¬ (i : Int) < (i : Int) := by omega
        have HMT : Hid (M = true) := HYES.out (fun j a b h1 h2 => HD.out j a b (by have := (List.getElem?_eq_some_iff.1 h1).1; have := HN.out; omega) h1 h2)
        go_wp2
        go_ret
        exact ⟨by rw [HMT.out]; rfl, HB.out⟩
  · have hne : ((l.length : Int) != (k.length : Int)) = true := by rw [bne_iff_ne]; omega
    have HMF : Hid (M = false) := by show _ = _; rw [hM]; unfold smeL; rw [decide_eq_false hlk, Bool.false_and]
    clear hrow hrow' hM hlk
    go_enter Tryz.func38, Tryz.ntmps38
    go_wp2
    go_ret
    exact ⟨by rw [HMF.out]; rfl, Below.refl _ _⟩
theorem psame_any (v u : Value) (l k : List Rd) (w : World) (hl : l.length < 1000000) (hv : HR w v l) (hu : HR w u k) : Calls Tryz.prog 17 #[v, u] w fun e w' => e = .returned (.bool (smeL l k)) ∧ Below w.heap.size w w' := by
  have HE : Hid (Calls Tryz.prog 38 #[v, u] w fun e w' => e = .returned (.bool (smeL l k)) ∧ Below w.heap.size w w') := eqR_any v u l k w hl hv hu
  obtain ⟨p, cap, rfl, _⟩ := hv
  obtain ⟨p', cap', rfl, _⟩ := hu
  clear hl
  go_enter Tryz.func17, Tryz.ntmps17
  go_wp2_with fail
  refine Calls.mono HE.out ?_
  rintro e X ⟨rfl, hb⟩
  have HB : Hid (Below w.heap.size w X) := hb
  clear hb
  go_wp2
  go_ret
  exact ⟨rfl, HB.out⟩
set_option maxHeartbeats 2000000 in
set_option maxRecDepth 100000 in
theorem rmayall_any (v : Value) (l : List Rd) (w : World) (h : HR w v l) (hl : l.length ≤ 1000000) : Calls Tryz.prog 16 #[v] w fun e w' => e = .returned (.bool (mayL l)) ∧ Below w.heap.size w w' := by
  obtain ⟨p, cap, hv, hrow⟩ := h
  subst hv
  have HM : Hid (∀ r : Rd, r.ok → ∀ W, Calls Tryz.prog 9 #[.agg (rdL r).toArray] W fun e w' => e = .returned (.bool (mayD r)) ∧ Below W.heap.size W w') := fun r h W => rmay_any r W h
  obtain ⟨M, hM⟩ : ∃ M, M = mayL l := ⟨_, rfl⟩
  rw [← hM]
  have HNO : Hid (∀ k, k < l.length → good l k = false → M = false) := fun k h1 h2 => by rw [hM]; exact mayL_no h1 h2
  have HYES : Hid ((∀ i, i < l.length → good l i = true) → M = decide (0 < l.length)) := fun h => by
    rw [hM]
    by_cases h0 : 0 < l.length
    · rw [decide_eq_true h0]; exact (mayL_iff l).2 ⟨h0, h⟩
    · rw [decide_eq_false h0]; unfold mayL; rw [decide_eq_false h0]; rfl
  have HROW : Hid (∀ (i : Nat) (r : Rd), l[i]? = some r → r.ok ∧ ∃ b o, p = some ⟨b, o, none⟩ ∧ w.rangeAt b (o + i * 172) (rdL r)) := hrow
  obtain ⟨n, hn⟩ : ∃ n, n = l.length := ⟨_, rfl⟩
  rw [← hn] at hl ⊢
  have HN : Hid (n = l.length) := hn
  clear hM hrow hn
  go_enter Tryz.func16, Tryz.ntmps16
  go_wp2
  go_loopw [3] (fun i wr => ∃ k : Nat, k ≤ n ∧ i = .int .i64 k ∧ (∀ j, j < k → good l j = true) ∧ Below w.heap.size w wr) (fun i _ => n - (intOf i).toNat)
  case atStart => exact ⟨0, Nat.zero_le _, rfl, fun j hj => by omega, Below.refl _ _⟩
  case round =>
    obtain ⟨k, hk, rfl, hg, hb⟩ := hrel
    have HG : Hid (∀ j, j < k → good l j = true) := hg
    have HB : Hid (Below w.heap.size w wr) := hb
    clear hg hb
    by_cases hlt : k < n
    · have hkI : (k : Int) < (n : Int) := by omega
      have hlt' : k < l.length := by have := HN.out; omega
      obtain ⟨r, hr⟩ : ∃ r, l[k]? = some r := ⟨_, List.getElem?_eq_getElem hlt'⟩
      obtain ⟨hok, b, o, hp, hrg⟩ := HROW.out k r hr
      subst hp
      have HGK : Hid (good l k = (mayD r && ((r.kind == 1) == decide (k = 0)))) := good_at hr
      have HRI : Hid _ := info172 (rdL r) (rdL_len hok)
      have HRG : Hid (wr.rangeAt b (o + k * 172) (rdL r)) := PC.rangeAt_below hrg HB.out
      have HK0 : Hid (∀ W : World, W.rangeAt b (o + k * 172) (rdL r) → W.cell? ⟨b, o + k * 172, none⟩ = some (.int .i64 r.kind)) := fun W h => by have := h 0 _ (rdL_0 r); rwa [Nat.add_zero] at this
      have HMR : Hid _ := HM.out r hok
      obtain ⟨mr, hmr⟩ : ∃ m, m = mayD r := ⟨_, rfl⟩
      rw [← hmr] at HMR HGK
      generalize rdL r = RL at *
      clear hrg hr hok hmr hlt'
      generalize r.kind = kd at *
      go_wp2_with (refine wpList_load_mid rfl 33 _ rfl b (o + k * 172) rfl RL _ HRG.out Tryz.underlying33 rfl HRI.out ?_)
      refine Calls.mono (HMR.out _) ?_
      rintro e w2 ⟨rfl, hb2⟩
      have hc2 : w2.cell? ⟨b, o + k * 172, none⟩ = some (.int .i64 kd) := HK0.out w2 (PC.rangeAt_below HRG.out hb2)
      have HB2 : Hid (Below w.heap.size w w2) := HB.out.trans (hb2.mono HB.out.size)
      clear hb2 HMR HRG HK0
      obtain ⟨c1, hc1⟩ : ∃ c, c = (kd == 1) := ⟨_, rfl⟩
      have hkd : (kd == 1) = c1 := hc1.symm
      rw [hkd] at HGK
      have hk0 : ((k : Int) == 0) = decide (k = 0) := by rw [Bool.eq_iff_iff]; simp
      clear hc1
      cases hmr : mr with
      | false =>
        subst hmr
        have HMF : Hid (M = false) := HNO.out k (by have := HN.out; omega) (by rw [HGK.out]; rfl)
        go_wp2
        all_goals
          try rw [Exit.noGoto_ret]
          go_ret
          exact ⟨by rw [HMF.out]; try rfl, HB2.out⟩
      | true =>
        subst hmr
        rw [Bool.true_and] at HGK
        obtain ⟨z, hz⟩ : ∃ z, z = decide (k = 0) := ⟨_, rfl⟩
        rw [← hz] at HGK hk0
        clear hz
        cases c1 with
        | false =>
          cases z with
          | false =>
            have HGT : Hid (good l k = true) := by show _ = _; rw [HGK.out]; rfl
            have HG2 : Hid (∀ j, j < k + 1 → good l j = true) := fun j hj => by
              rcases Nat.lt_or_ge j k with h | h
              · exact HG.out j h
              · obtain rfl : j = k := by omega
                exact HGT.out
            go_wp2
            go_roundw
            case rel => exact ⟨k + 1, by omega, by go_num, HG2.out, HB2.out⟩
            case measure => simp [intOf]; omega
          | true =>
            have HMF : Hid (M = false) := HNO.out k (by have := HN.out; omega) (by rw [HGK.out]; rfl)
            go_wp2
            all_goals
              try rw [Exit.noGoto_ret]
              go_ret
              exact ⟨by rw [HMF.out]; try rfl, HB2.out⟩
        | true =>
          cases z with
          | false =>
            have HMF : Hid (M = false) := HNO.out k (by have := HN.out; omega) (by rw [HGK.out]; rfl)
            go_wp2
            all_goals
              try rw [Exit.noGoto_ret]
              go_ret
              exact ⟨by rw [HMF.out]; try rfl, HB2.out⟩
          | true =>
            have HGT : Hid (good l k = true) := by show _ = _; rw [HGK.out]; rfl
            have HG2 : Hid (∀ j, j < k + 1 → good l j = true) := fun j hj => by
              rcases Nat.lt_or_ge j k with h | h
              · exact HG.out j h
              · obtain rfl : j = k := by omega
                exact HGT.out
            go_wp2
            go_roundw
            case rel => exact ⟨k + 1, by omega, by go_num, HG2.out, HB2.out⟩
            case measure => simp [intOf]; omega
    · have hie : k = n := by omega
      subst hie
      have hiI : ¬ (k : Int) < (k : Int) := by omega
      have HMT : Hid (M = decide (0 < l.length)) := HYES.out (fun j hj => HG.out j (by have := HN.out; omega))
      have hgt : decide (0 < (k : Int)) = decide (0 < l.length) := by rw [Bool.eq_iff_iff]; simp; have := HN.out; omega
      go_wp2
      go_ret
      exact ⟨by rw [HMT.out]; first | (rw [← hgt]; done) | (rw [← hgt]; simp) | (have := HN.out; simp; omega), HB.out⟩
end Go.Proofs.YtpmknkagnkagpaaGreat.ZC
