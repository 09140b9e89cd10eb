/- OracleBridge: the walk. -/
import Derived.Test.YtefhjjjjbkkedaaRF
import Derived.Test.YtefhjjjjbkkedaaQQ
import Derived.Deep.CutRange
set_option linter.unusedVariables false
set_option linter.unusedSimpArgs false
namespace Go.Proofs.Ytefhjjjjbkkedaa.R5.oracleBridge
open scoped Classical
open Go.RowKit

set_option maxHeartbeats 8000000 in
set_option maxRecDepth 100000 in
theorem walk (m : List UInt8) (v : Value) (ls : List Ak) (w : World) (hml : m.length = 32) (hl : ls.length ≤ 9223372036854775807) (h : HAs w v ls) : Calls Try.prog 3 #[.agg (m.map B8).toArray, v] w fun e w' => e = .returned (.bool true) ∧ Below w.heap.size w w' := by
  obtain ⟨p, cap, hv, _⟩ := id h
  subst hv
  have HHA : Hid (HAs w (.slice p ls.length cap) ls) := h
  have hb0 : Below w.heap.size w (w.alloc (.cells (m.map B8).toArray 23 (0, 0))) := (Below.refl _ _).alloc (Nat.le_refl _) _
  have HMU : Hid _ := much_any _ ls (w.alloc (.cells (m.map B8).toArray 23 (0, 0))) hl (has_below h hb0)
  have HR0 : Hid ((w.alloc (.cells (m.map B8).toArray 23 (0, 0))).heap[w.heap.size]? = some (.cells (m.map B8).toArray 23 (0, 0))) := heap_alloc_new _ _
  have HB0 : Hid _ := hb0
  have HMI : Hid _ := info32 (m.map B8) (by simpa using hml)
  have HNEW := pnew_any false m none 0 0 [] (w.alloc (.cells (m.map B8).toArray 23 (0, 0))) hml (fun _ => rfl) (by simp) ⟨fun d hd => by simp at hd, none, 0, rfl, fun i hi => by simp at hi⟩
  have HML : Hid _ := hml
  clear hb0 hml
  by_cases hmu : muchB ls = true
  · have HBE : Hid _ := HB0.out
    rw [hmu] at HMU
    clear HNEW HHA h
    go_enter Try.func3, Try.ntmps3
    go_wp2_with (first
      | (go_at_call 6; refine Calls.mono HMU.out ?_; rintro e w1 ⟨rfl, hw1⟩; rw [hw1]; clear hw1 w1)
      | (go_at_call 7; refine (known_any _).mono ?_; rintro e wk ⟨rfl, hbk⟩))
    go_ret
    exact ⟨rfl, HBE.out.trans (hbk.mono HBE.out.size)⟩
  · have hmf : muchB ls = false := by simpa using hmu
    rw [hmf] at HMU
    have HAT : Hid _ := akAt h hmf
    clear hmu hmf h HHA
    by_cases h6 : 6 < ls.length
    · have h6I : (6 : Int) < (ls.length : Int) := by omega
      have HBE : Hid _ := HB0.out
      clear HNEW
      go_enter Try.func3, Try.ntmps3
      go_wp2_with (first
        | (go_at_call 6; refine Calls.mono HMU.out ?_; rintro e w1 ⟨rfl, hw1⟩; rw [hw1]; clear hw1 w1)
        | (go_at_call 7; refine (known_any _).mono ?_; rintro e wk ⟨rfl, hbk⟩))
      go_ret
      exact ⟨rfl, HBE.out.trans (hbk.mono HBE.out.size)⟩
    · have h6I : ¬ (6 : Int) < (ls.length : Int) := by omega
      generalize hMC : m.map B8 = MC at *
      have HMC : Hid _ := hMC
      clear hMC
      have HNW : Hid _ := HNEW
      clear HNEW
      go_enter Try.func3, Try.ntmps3
      go_wp2_with (first
        | (go_at_call 6; refine Calls.mono HMU.out ?_; rintro e w1 ⟨rfl, hw1⟩; rw [hw1]; clear hw1 w1)
        | (refine wpList_load_mid rfl 23 (.tmp 2) rfl w.heap.size 0 rfl MC _ (rangeAt_row HR0.out) Try.underlying23 rfl HMI.out ?_)
        | (go_at_call 8; fail))
      refine Calls.mono HNW.out ?_
      rintro e w3 ⟨og, mb, dv, rfl, hpo, hb3, _⟩
      have HK0 : Hid (KN w og mb ⟨false, m, [], []⟩ [(w.heap.size, m)] w3) := KN.ofNew HB0.out hpo hb3 (fun r hr => by
        simp only [List.mem_cons, List.not_mem_nil, or_false] at hr
        subst hr
        rw [HMC.out]; exact HR0.out)
      clear hpo hb3 HNW HMU HR0
      go_wp2_with fail
      go_loopw [6] (fun i wr => ∃ k : Nat, k ≤ ls.length ∧ i = .int .i64 k ∧ KN w og mb (brS m ⟨false, m, [], []⟩ (ls.take k)) [(w.heap.size, m)] wr) (fun i _ => ls.length - (intOf i).toNat)
      case atStart => exact ⟨0, Nat.zero_le _, rfl, HK0.out⟩
      case round =>
        clear HK0 HB0
        obtain ⟨k, hk, rfl, hkn⟩ := hrel
        have HKN : Hid _ := hkn
        have HBE : Hid _ := hkn.bel
        clear hkn
        by_cases hlt : k < ls.length
        · have hkI : (k : Int) < (ls.length : Int) := by omega
          obtain ⟨a, ha⟩ : ∃ a, ls[k]? = some a := ⟨_, List.getElem?_eq_getElem hlt⟩
          obtain ⟨g, o, pd, cd, hat⟩ := HAT.out k a ha
          have hp := hat.ptr
          subst hp
          have HA : Hid _ := hat
          have HLE : Hid ((brS m ⟨false, m, [], []⟩ (ls.take k)).log.length < 1000000) := by
            show _ < _
            have := brS_len m ⟨false, m, [], []⟩ (ls.take k) rfl
            rw [List.length_take] at this
            omega
          have HSN : Hid _ := brS_snoc m ⟨false, m, [], []⟩ ls k a ha
          have hc0 := hat.kind wr HBE.out
          have HGS : Hid ((brS m ⟨false, m, [], []⟩ (ls.take k)).master = m) := by show _ = _; rw [brS_a]
          clear ha hat
          by_cases k2 : a.kind = 2
          · rw [k2] at hc0
            clear HKN HLE HSN HGS HA
            go_wp2_with (go_at_call 7; refine (known_any _).mono ?_; rintro e wk ⟨rfl, hbk⟩)
            go_ret
            exact ⟨rfl, HBE.out.trans (hbk.mono HBE.out.size)⟩
          · have k2b : (a.kind == 2) = false := by simpa using k2
            by_cases k1 : a.kind = 1
            · rw [k1] at hc0
              have HAS : Hid _ := KN.askU HKN.out HLE.out _ a.q HA.out.ok (by have := HA.out.dl; omega) (HA.out.hb wr HBE.out)
              have HROW : Hid _ := HA.out.row wr HBE.out
              have HQI : Hid _ := info35 (qL a.q (.slice pd a.q.data.length cd)) (qL_len _ _ HA.out.ok.key)
              have HN : Hid _ := (brN_1 (m := m) (o := brS m ⟨false, m, [], []⟩ (ls.take k)) k1).2
              have HKD : Hid (∀ X, Below w.heap.size w X → X.cell? ⟨g, o + k * 37, none⟩ = some (.int .i64 1)) := fun X hX => by rw [← k1]; exact HA.out.kind X hX
              clear k2 k2b HA k1
              generalize qL a.q (.slice pd a.q.data.length cd) = QL at *
              go_wp2_with (first
                | (refine wpList_load_mid rfl 33 (.tmp 53) rfl g (o + k * 37 + 2) rfl QL _ HROW.out Try.underlying33 rfl HQI.out ?_)
                | (go_at_call 9; refine Calls.mono HAS.out ?_; rintro e w4 ⟨rfl, hk4⟩; rw [← HN.out, ← HSN.out] at hk4; have HK4 : Hid _ := hk4; have hc4 := HKD.out w4 hk4.bel; clear hk4; generalize ansV _ _ = av))
              go_roundw
              case rel => exact ⟨k + 1, by omega, by go_num, HK4.out⟩
              case measure => simp [intOf]; omega
            · have k1b : (a.kind == 1) = false := by simpa using k1
              by_cases k5 : a.kind = 5
              · rw [k5] at hc0
                have hcd := HA.out.dom
                have hct := HA.out.dat
                have HCD : Hid (∀ X, Below w.heap.size w X → X.cell? ⟨g, o + k * 37 + 2 + 33, none⟩ = some (.int .i64 a.q.dom)) := hcd
                have HCT : Hid (∀ X, Below w.heap.size w X → X.cell? ⟨g, o + k * 37 + 2 + 34, none⟩ = some (.slice pd a.q.data.length cd)) := hct
                have HSB : Hid (Below w.heap.size w wr.drew) := HBE.out.drew
                have HK2 : Hid (KN w og mb (brS m ⟨false, m, [], []⟩ (ls.take k)) [(w.heap.size, m)] wr.drew) := HKN.out.step ((Below.refl _ _).drew)
                have HKEY : Hid (∀ X, KN w og mb (brS m ⟨false, m, [], []⟩ (ls.take k)) [(w.heap.size, m)] X → Calls Try.prog 10 #[.pointer (some ⟨og, 0, none⟩), .int .i64 a.q.dom, .slice (some ⟨X.heap.size, 0, none⟩) 1 1] (X.alloc (.cells #[.slice pd a.q.data.length cd] 31 (0, 0))) fun e Y => (∃ av, e = .returned av) ∧ KN w og mb (brS m ⟨false, m, [], []⟩ (ls.take (k + 1))) [(w.heap.size, m)] Y) := fun X hX => by
                  have hb := hX.bel
                  refine (KN.keyU (hX.alloc _) HLE.out _ a.q.dom a.q.data ⟨hX.ml, rfl, HA.out.ok.dom, HA.out.ok.data⟩ (by have := HA.out.dl; omega) (hp_dat (HA.out.hb X hb))).mono ?_
                  rintro e Y ⟨rfl, hY⟩
                  refine ⟨⟨_, rfl⟩, ?_⟩
                  rw [HGS.out] at hY
                  rw [HSN.out, (brN_5 (m := m) k5).2]
                  exact hY
                generalize a.q.dom = dm at *
                generalize a.q.data.length = dl at *
                clear hcd hct HKN k2 k1 k2b k1b
                go_wp2_with fail
                refine wp_region_held_drew (S := Below w.heap.size w) (by kernel_rfl) HSB.out (fun hHeld => ?_)
                generalize wr.drew = W1 at *
                refine wpAnyH_take (i := 0) (oi := { dst := some 62, op := Go.Op.move (Go.Operand.tmp 5), type := 27, pos := _, after := #[], guard := none }) (v := .pointer (some ⟨og, 0, none⟩)) rfl (by kernel_rfl) (by kernel_rfl) (by kernel_rfl) (fun _ _ _ h => h) (Or.inl ⟨by rfl, fun w' hw' => ?_⟩) hHeld ?_
                · first | (go_simp; done) | (go_simp; rfl)
                try simp only [Act.put, List.setIfInBounds_toArray, List.set_cons_zero, List.set_cons_succ]
                refine wpAnyH_take (i := 1) (oi := { dst := some 63, op := Go.Op.move (Go.Operand.tmp 1), type := 24, pos := _, after := #[], guard := none }) (v := .slice (some ⟨g, o, none⟩) ls.length cap) rfl (by kernel_rfl) (by kernel_rfl) (by kernel_rfl) (fun _ _ _ h => h) (Or.inl ⟨by rfl, fun w' hw' => ?_⟩) hHeld ?_
                · first | (go_simp; done) | (go_simp; rfl)
                try simp only [Act.put, List.setIfInBounds_toArray, List.set_cons_zero, List.set_cons_succ]
                refine wpAnyH_take (i := 2) (oi := { dst := some 64, op := Go.Op.move (Go.Operand.tmp 6), type := 3, pos := _, after := #[], guard := none }) (v := .int .i64 k) rfl (by kernel_rfl) (by kernel_rfl) (by kernel_rfl) (fun _ _ _ h => h) (Or.inl ⟨by rfl, fun w' hw' => ?_⟩) hHeld ?_
                · first | (go_simp; done) | (go_simp; rfl)
                try simp only [Act.put, List.setIfInBounds_toArray, List.set_cons_zero, List.set_cons_succ]
                refine wpAnyH_take (i := 3) (oi := { dst := some 65, op := Go.Op.indexAddr 24 (Go.Operand.tmp 63) (Go.Operand.tmp 64), type := 0, pos := _, after := #[{ on := 1, ground := Go.Ground.data }, { on := 2, ground := Go.Ground.data }], guard := none }) (v := .pointer (some ⟨g, o + k * 37, none⟩)) rfl (by kernel_rfl) (by kernel_rfl) (by kernel_rfl) (fun _ _ _ h => h) (Or.inl ⟨by rfl, fun w' hw' => ?_⟩) hHeld ?_
                · first | (go_simp; done) | (go_simp; rfl) | (go_simp; intro hbad; omega)
                try simp only [Act.put, List.setIfInBounds_toArray, List.set_cons_zero, List.set_cons_succ]
                refine wpAnyH_take (i := 4) (oi := { dst := some 66, op := Go.Op.fieldAddr 35 (Go.Operand.tmp 65) 2, type := 0, pos := _, after := #[{ on := 3, ground := Go.Ground.data }], guard := none }) (v := .pointer (some ⟨g, o + k * 37 + 2, none⟩)) rfl (by kernel_rfl) (by kernel_rfl) (by kernel_rfl) (fun _ _ _ h => h) (Or.inl ⟨by rfl, fun w' hw' => ?_⟩) hHeld ?_
                · first | (go_simp; done) | (go_simp; rfl)
                try simp only [Act.put, List.setIfInBounds_toArray, List.set_cons_zero, List.set_cons_succ]
                refine wpAnyH_take (i := 5) (oi := { dst := some 67, op := Go.Op.fieldAddr 33 (Go.Operand.tmp 66) 2, type := 0, pos := _, after := #[{ on := 4, ground := Go.Ground.data }], guard := none }) (v := .pointer (some ⟨g, o + k * 37 + 2 + 33, none⟩)) rfl (by kernel_rfl) (by kernel_rfl) (by kernel_rfl) (fun _ _ _ h => h) (Or.inl ⟨by rfl, fun w' hw' => ?_⟩) hHeld ?_
                · first | (go_simp; done) | (go_simp; rfl)
                try simp only [Act.put, List.setIfInBounds_toArray, List.set_cons_zero, List.set_cons_succ]
                refine wpAnyH_take (i := 6) (oi := { dst := some 68, op := Go.Op.load 30 (Go.Operand.tmp 67), type := 30, pos := _, after := #[{ on := 5, ground := Go.Ground.data }], guard := none }) (v := .int .i64 dm) rfl (by kernel_rfl) (by kernel_rfl) (by kernel_rfl) (fun _ _ _ h => h) (Or.inl ⟨by rfl, fun w' hw' => ?_⟩) hHeld ?_
                · have hcc := HCD.out w' hw'; first | (go_simp; done) | (go_simp; rfl)
                try simp only [Act.put, List.setIfInBounds_toArray, List.set_cons_zero, List.set_cons_succ]
                refine wpAnyH_take (i := 7) (oi := { dst := some 69, op := Go.Op.move (Go.Operand.tmp 1), type := 24, pos := _, after := #[], guard := none }) (v := .slice (some ⟨g, o, none⟩) ls.length cap) rfl (by kernel_rfl) (by kernel_rfl) (by kernel_rfl) (fun _ _ _ h => h) (Or.inl ⟨by rfl, fun w' hw' => ?_⟩) hHeld ?_
                · first | (go_simp; done) | (go_simp; rfl)
                try simp only [Act.put, List.setIfInBounds_toArray, List.set_cons_zero, List.set_cons_succ]
                refine wpAnyH_take (i := 8) (oi := { dst := some 70, op := Go.Op.move (Go.Operand.tmp 6), type := 3, pos := _, after := #[], guard := none }) (v := .int .i64 k) rfl (by kernel_rfl) (by kernel_rfl) (by kernel_rfl) (fun _ _ _ h => h) (Or.inl ⟨by rfl, fun w' hw' => ?_⟩) hHeld ?_
                · first | (go_simp; done) | (go_simp; rfl)
                try simp only [Act.put, List.setIfInBounds_toArray, List.set_cons_zero, List.set_cons_succ]
                refine wpAnyH_take (i := 9) (oi := { dst := some 71, op := Go.Op.indexAddr 24 (Go.Operand.tmp 69) (Go.Operand.tmp 70), type := 0, pos := _, after := #[{ on := 7, ground := Go.Ground.data }, { on := 8, ground := Go.Ground.data }], guard := none }) (v := .pointer (some ⟨g, o + k * 37, none⟩)) rfl (by kernel_rfl) (by kernel_rfl) (by kernel_rfl) (fun _ _ _ h => h) (Or.inl ⟨by rfl, fun w' hw' => ?_⟩) hHeld ?_
                · first | (go_simp; done) | (go_simp; rfl) | (go_simp; intro hbad; omega)
                try simp only [Act.put, List.setIfInBounds_toArray, List.set_cons_zero, List.set_cons_succ]
                refine wpAnyH_take (i := 10) (oi := { dst := some 72, op := Go.Op.fieldAddr 35 (Go.Operand.tmp 71) 2, type := 0, pos := _, after := #[{ on := 9, ground := Go.Ground.data }], guard := none }) (v := .pointer (some ⟨g, o + k * 37 + 2, none⟩)) rfl (by kernel_rfl) (by kernel_rfl) (by kernel_rfl) (fun _ _ _ h => h) (Or.inl ⟨by rfl, fun w' hw' => ?_⟩) hHeld ?_
                · first | (go_simp; done) | (go_simp; rfl)
                try simp only [Act.put, List.setIfInBounds_toArray, List.set_cons_zero, List.set_cons_succ]
                refine wpAnyH_take (i := 11) (oi := { dst := some 73, op := Go.Op.fieldAddr 33 (Go.Operand.tmp 72) 3, type := 0, pos := _, after := #[{ on := 10, ground := Go.Ground.data }], guard := none }) (v := .pointer (some ⟨g, o + k * 37 + 2 + 34, none⟩)) rfl (by kernel_rfl) (by kernel_rfl) (by kernel_rfl) (fun _ _ _ h => h) (Or.inl ⟨by rfl, fun w' hw' => ?_⟩) hHeld ?_
                · first | (go_simp; done) | (go_simp; rfl)
                try simp only [Act.put, List.setIfInBounds_toArray, List.set_cons_zero, List.set_cons_succ]
                refine wpAnyH_take (i := 12) (oi := { dst := some 74, op := Go.Op.load 31 (Go.Operand.tmp 73), type := 31, pos := _, after := #[{ on := 11, ground := Go.Ground.data }], guard := none }) (v := .slice pd dl cd) rfl (by kernel_rfl) (by kernel_rfl) (by kernel_rfl) (fun _ _ _ h => h) (Or.inl ⟨by rfl, fun w' hw' => ?_⟩) hHeld ?_
                · have hcc := HCT.out w' hw'; first | (go_simp; done) | (go_simp; rfl)
                try simp only [Act.put, List.setIfInBounds_toArray, List.set_cons_zero, List.set_cons_succ]
                refine wpAnyH_ready (rs := [13]) (by kernel_rfl) (by simp) ?_
                refine AllReadyH.cons (o := { dst := some 75, op := Go.Op.buildSlice 66 1 #[(0, Go.Operand.tmp 74)], type := 66, pos := _, after := #[{ on := 12, ground := Go.Ground.data }], guard := none }) rfl (fun K hK => ?_) AllReadyH.nil
                rw [if_pos (by rfl)]
                refine wp_bslice 66 1 _ rfl _ _ (by simp; first | done | rfl) (bs_part W1 _ _ _) ?_
                have hHA : Below w.heap.size w (W1.alloc (.cells #[.slice pd dl cd] 31 (0, 0))) := hHeld.alloc hHeld.size _
                refine hK.out _ _ hHA (fun _ => ?_)
                clear hK K
                try simp only [Act.put, List.setIfInBounds_toArray, List.set_cons_zero, List.set_cons_succ]
                clear hHeld
                have hHeld := hHA
                refine wpAnyH_ready (rs := [14]) (by kernel_rfl) (by simp) ?_
                refine AllReadyH.cons (o := { dst := some 76, op := Go.Op.call { callee := Go.Callee.value (Go.Operand.func 10), args := #[Go.Operand.tmp 62, Go.Operand.tmp 68, Go.Operand.tmp 75], argTypes := #[27, 30, 66] }, type := 37, pos := _, after := #[{ on := 0, ground := Go.Ground.data }, { on := 6, ground := Go.Ground.data }, { on := 13, ground := Go.Ground.data }], guard := none }) rfl (fun K hK => ?_) AllReadyH.nil
                rw [if_pos (by rfl)]
                go_wp2_with fail
                refine Calls.mono (HKEY.out W1 HK2.out) ?_
                rintro e W2 ⟨⟨av, rfl⟩, hk4⟩
                have hH2 := hk4.bel
                refine hK.out _ _ hH2 (fun _ => ?_)
                clear hK K
                try simp only [Act.put, List.setIfInBounds_toArray, List.set_cons_zero, List.set_cons_succ]
                refine wpAnyH_done (by kernel_rfl) ?_ _
                have HK4 : Hid _ := hk4.step ((Below.refl _ _).drew)
                go_wp2_with fail
                go_roundw
                case rel => exact ⟨k + 1, by omega, by go_num, hk4⟩
                case measure => simp [intOf]; omega
              · have k5b : (a.kind == 5) = false := by simpa using k5
                have HN : Hid _ := brN_0 (m := m) (o := brS m ⟨false, m, [], []⟩ (ls.take k)) k1 k5
                go_wp2
                go_roundw
                case rel => exact ⟨k + 1, by omega, by go_num, by rw [HSN.out, HN.out]; exact HKN.out⟩
                case measure => simp [intOf]; omega
        · have hke : k = ls.length := by omega
          subst hke
          have hkI : ¬ (ls.length : Int) < (ls.length : Int) := by omega
          generalize wr = XL at *
          obtain ⟨L, hL⟩ : ∃ L, L = (brS m ⟨false, m, [], []⟩ ls).log := ⟨_, rfl⟩
          have HL : Hid _ := hL
          have HLN : Hid (L.length ≤ 6) := by show _ ≤ _; rw [hL]; have := brS_len m ⟨false, m, [], []⟩ ls rfl; omega
          have HKA : Hid (KN w og mb ⟨false, m, [], L⟩ [(w.heap.size, m)] XL) := by
            have := HKN.out
            rw [List.take_length, brS_a, ← hL] at this
            exact this
          have HLG : Hid _ := KN.logU HKA.out (by have := HLN.out; show L.length < _; omega)
          obtain ⟨N, hN⟩ : ∃ N, N = L.length := ⟨_, rfl⟩
          have HN : Hid _ := hN
          have hN6 : N ≤ 6 := by rw [hN]; exact HLN.out
          clear hL HKN hN
          have hinf := infoDg
          obtain ⟨i0, hi, hz0, hz1, hz2⟩ := info_parts hinf
          clear hinf
          go_wp2_with (go_at_call 11; refine Calls.mono HLG.out ?_; rintro e XM ⟨lv, lds, rfl, hlo, hbM⟩; obtain ⟨lp, lcap, hlv, hlr⟩ := hlr_of hlo.hlg; rw [← HN.out] at hlv; subst hlv; have HLO : Hid _ := hlo; have HBM : Hid _ := hbM; have HLR : Hid _ := hlr; clear hlo hbM hlr)
          go_loopw [8, 9] (fun v i X => ∃ k : Nat, k ≤ N ∧ i = .int .i64 k ∧ X.ownsRow XM.heap.size 23 32 v k (dC ((L.take k).map (·.2))) ∧ Below XM.heap.size XM X) (fun _ i _ => N - (intOf i).toNat)
          case atStart => exact ⟨0, Nat.zero_le _, rfl, World.ownsRow_nil _ _ _ _, Below.refl _ _⟩
          case round =>
            obtain ⟨k, hk, rfl, hown, hbx⟩ := hrel
            have HBX : Hid (Below XM.heap.size XM wr) := hbx
            have HOW : Hid (wr.ownsRow XM.heap.size 23 32 u8 k (dC ((L.take k).map (·.2)))) := hown
            clear hown hbx
            by_cases hlt : k < N
            · have hkI : (k : Int) < (N : Int) := by omega
              have hlt' : k < L.length := by rw [← HN.out]; exact hlt
              obtain ⟨x, hx⟩ : ∃ x, L[k]? = some x := ⟨_, List.getElem?_eq_getElem hlt'⟩
              obtain ⟨hx1, hx2, g, o, d, hp, hq1, hq2, _⟩ := HLR.out k x hx
              subst hp
              have HTK : Hid ((L.take (k + 1)).map (·.2) = (L.take k).map (·.2) ++ [x.2]) := by
                show _ = _
                rw [List.take_succ_eq_append_getElem hlt', List.map_append]
                congr 1
                rw [List.getElem?_eq_getElem hlt'] at hx
                simp only [Option.some.injEq] at hx
                rw [hx]; rfl
              have HRW : Hid (wr.rangeAt g (o + k * 67 + 35) (x.2.map B8)) := rangeAt_below hq2 HBX.out
              have hAN : (x.2.map B8).length = 32 := by simpa using hx2
              have HAN : Hid _ := hAN
              have HXI : Hid _ := info32 _ hAN
              have HBS : Hid _ := fun W => bs_dig W (x.2.map B8) hAN
              have HX1 : Hid _ := B8_one x.2
              generalize hAL : x.2.map B8 = AL at *
              have HAL : Hid _ := hAL
              have HOWN : Hid ((wr.alloc (.cells AL.toArray 23 (0, 0))).ownsRow XM.heap.size 23 32 u8 k (dC ((L.take k).map (·.2)))) := HOW.out.alloc _
              have HNEW : Hid (∀ j u, AL[j]? = some u → (wr.alloc (.cells AL.toArray 23 (0, 0))).cell? ((⟨wr.heap.size, 0, none⟩ : Addr).add j) = some u) := fun j u hu => by
                have h := rangeAt_row (heap_alloc_new wr (.cells AL.toArray 23 (0, 0))) j u hu
                rw [add_none]; exact h
              clear hx hx1 hx2 hq1 hq2 hAN hAL hlt'
              have hsx := HBX.out.size
              go_wp2_with (first
                | (refine wpList_load_mid rfl 23 (.tmp 89) rfl g (o + k * 67 + 35) rfl AL _ HRW.out Try.underlying23 rfl HXI.out ?_)
                | (refine wpListZ_bslice rfl 42 1 _ rfl _ _ (by simp; first | done | rfl) (HBS.out _) ?_)
                | (at_builtin; go_loud (refine wpList_append_lies _ rfl (.tmp 85) (.tmp 91) 42 rfl XM.heap.size 23 i0 (dV (List.replicate 32 0)) 32 32 Try.underlying42 hi hz0 hz1 hz2 rfl (by decide) u8 k (dC ((L.take k).map (·.2))) rfl HOWN.out ⟨wr.heap.size, 0, none⟩ 1 1 AL rfl HAN.out HNEW.out HX1.out (by decide) (by unfold maxLen; omega) (by omega) (by simp; omega) (wr.heap.size + 1) (by simp) ?_; intro g2 cap3 Z hown4 hgr4 hgl4 hgZ4; have HO4 : Hid (Z.ownsRow XM.heap.size 23 32 (.slice (some ⟨g2, 0, none⟩) (k + 1) cap3) (k + 1) (dC ((L.take k).map (·.2)) ++ AL)) := hown4; have HG4 : Hid _ := hgr4; clear hown4 hgr4 hgl4)))
              go_roundw
              case rel =>
                refine ⟨k + 1, by omega, by go_num, ?_, ?_⟩
                · rw [HTK.out, dC_snoc, HAL.out]; exact HO4.out
                · have hgr : wr.grownBy Z u8.ownBlock := (World.grownBy_alloc wr _ _).trans HG4.out
                  exact HBX.out.grown hgr HBX.out.size (fun j hj => (HOW.out.lt j hj).1)
              case measure => simp [intOf]; omega
            · have hke : k = N := by omega
              subst hke
              have hkI : ¬ (k : Int) < (k : Int) := by omega
              generalize wr = X2 at *
              have HDN : Hid ((L.take k).map (·.2) = L.map (·.2)) := by show _ = _; rw [HN.out, List.take_length]
              have HOD : Hid (X2.ownsRow XM.heap.size 23 32 u8 k (dC (L.map (·.2)))) := by have := HOW.out; rw [HDN.out] at this; exact this
              obtain ⟨dp, dcap, hdv, hdn⟩ := own_form HOD.out
              subst hdv
              have HK2 : Hid (KN w og mb ⟨false, m, [], L⟩ [(w.heap.size, m)] X2) := (HKA.out.step HBM.out).step HBX.out
              have HMR : Hid (X2.rangeAt w.heap.size 0 MC) := by rw [← HMC.out]; exact HK2.out.row (r := (w.heap.size, m)) (by simp)
              have HDS : Hid (HDs X2 (.slice dp k dcap) (L.map (·.2))) := hds_own (fun d hd => by
                obtain ⟨x, hx, rfl⟩ := List.mem_map.1 hd
                obtain ⟨i, hi'⟩ := List.getElem?_of_mem hx
                exact (HLR.out i x hi').2.1) (by rw [List.length_map, ← HN.out]; exact HOD.out)
              have HNW : Hid (Calls Try.prog 8 #[.bool true, .agg MC.toArray, .slice dp k dcap] X2 fun e w' => PNew X2 true m (L.map (·.2)) e w') := by
                have := pnew_any true m dp k dcap (L.map (·.2)) X2 HML.out hdn (by have := HLN.out; rw [List.length_map]; omega) HDS.out
                rw [HMC.out] at this
                exact this
              clear HOW HOD hdn HDS
              go_wp2_with (first
                | (refine wpList_load_mid rfl 23 (.tmp 2) rfl w.heap.size 0 rfl MC _ HMR.out Try.underlying23 rfl HMI.out ?_)
                | (go_at_call 8; fail))
              refine Calls.mono HNW.out ?_
              rintro e Y0 ⟨ogb, mbb, dvb, rfl, hpo, hbY, hdo⟩
              obtain ⟨I, P, hT0, hP⟩ : ∃ I P, TW w og mb ⟨false, m, [], L⟩ ogb mbb ⟨true, m, L.map (·.2), []⟩ [] I P Y0 ∧ ∀ Z, P Z → HLr Z (.slice lp k lcap) L := ⟨_, _, TW.start HKA.out HLO.out HBM.out HBX.out hpo hbY hdo, fun Z h => h⟩
              have HT0 : Hid _ := hT0
              have HPP : Hid _ := hP
              clear hT0 hP hpo hbY hdo HNW HK2 HMR HKA HLO HBM HBX HLR HLG HDN HMI HMC
              go_wp2_with fail
              go_loopw [11] (fun i X => ∃ j : Nat, j ≤ ls.length ∧ i = .int .i64 j ∧ TW w og mb ⟨false, m, [], L⟩ ogb mbb (brS m ⟨true, m, L.map (·.2), []⟩ (ls.take j)) [] I P X) (fun i _ => ls.length - (intOf i).toNat)
              case atStart => exact ⟨0, Nat.zero_le _, rfl, HT0.out⟩
              case round =>
                clear HT0
                obtain ⟨j, hj, rfl, htw⟩ := hrel
                have HT : Hid _ := htw
                have HBE : Hid _ := htw.bel
                clear htw
                by_cases hlt : j < ls.length
                · have hkI : (j : Int) < (ls.length : Int) := by omega
                  obtain ⟨a, ha⟩ : ∃ a, ls[j]? = some a := ⟨_, List.getElem?_eq_getElem hlt⟩
                  obtain ⟨g, o, pd, cd, hat⟩ := HAT.out j a ha
                  have hp := hat.ptr
                  subst hp
                  have HA : Hid _ := hat
                  have hc0 := hat.kind wr HBE.out
                  have hzv := fun W => zero_dig W
                  obtain ⟨ZL, hZL⟩ : ∃ L, L = (List.replicate 32 (0 : UInt8)).map B8 := ⟨_, rfl⟩
                  rw [← hZL] at hzv
                  have HZS : Hid (ZL.toArray.size = 32) := by show _ = _; rw [hZL]; simp
                  have HZL : Hid _ := hZL
                  have HLA : Hid (∀ j, (brS m ⟨true, m, L.map (·.2), []⟩ (ls.take j)).log.length < 1000000) := fun j => log_len (by omega) rfl
                  clear hat hZL
                  by_cases k1 : a.kind = 1
                  · rw [k1] at hc0
                    obtain ⟨A, n, hA, e1, e2, e3, e4⟩ := both HT.out HL.out ha (brN_1 (o := ⟨false, m, [], L⟩) k1).1
                    have HAS1 : Hid (∀ X rows, TW w og mb ⟨false, m, [], L⟩ ogb mbb (brS m ⟨true, m, L.map (·.2), []⟩ (ls.take j)) rows I P X → Calls Try.prog 9 #[.pointer (some ⟨og, 0, none⟩), .agg (qL a.q (.slice pd a.q.data.length cd)).toArray] X fun e Y => e = .returned (.tuple #[.agg (A.map B8).toArray, .int .i64 n]) ∧ TW w og mb ⟨false, m, [], L⟩ ogb mbb (brS m ⟨true, m, L.map (·.2), []⟩ (ls.take j)) rows I P Y) := fun X rows hX => by
                      have h := hX.ask (by have := HLN.out; show L.length < _; omega) (.slice pd a.q.data.length cd) a.q HA.out.ok (by have := HA.out.dl; omega) (HA.out.hb X hX.bel)
                      rw [e1, e3] at h
                      exact h
                    have HAS2 : Hid (∀ X rows, TW w og mb ⟨false, m, [], L⟩ ogb mbb (brS m ⟨true, m, L.map (·.2), []⟩ (ls.take j)) rows I P X → Calls Try.prog 9 #[.pointer (some ⟨ogb, 0, none⟩), .agg (qL a.q (.slice pd a.q.data.length cd)).toArray] X fun e Y => e = .returned (.tuple #[.agg (A.map B8).toArray, .int .i64 n]) ∧ TW w og mb ⟨false, m, [], L⟩ ogb mbb (brS m ⟨true, m, L.map (·.2), []⟩ (ls.take (j + 1))) rows I P Y) := fun X rows hX => by
                      have h := hX.swap.ask (HLA.out j) (.slice pd a.q.data.length cd) a.q HA.out.ok (by have := HA.out.dl; omega) (HA.out.hb X hX.bel)
                      rw [e2, e4] at h
                      exact h.mono (fun e Y ⟨h1, h2⟩ => ⟨h1, h2.swap⟩)
                    have HROW : Hid (∀ X, Below w.heap.size w X → X.rangeAt g (o + j * 37 + 2) (qL a.q (.slice pd a.q.data.length cd))) := HA.out.row
                    have HQI : Hid _ := info35 (qL a.q (.slice pd a.q.data.length cd)) (qL_len _ _ HA.out.ok.key)
                    have HKD : Hid (∀ X, Below w.heap.size w X → X.cell? ⟨g, o + j * 37, none⟩ = some (.int .i64 1)) := fun X hX => by rw [← k1]; exact HA.out.kind X hX
                    have hne := fun W => neq_digest W A hA
                    have HAN : Hid ((A.map B8).toArray.size = 32) := by show _ = _; simpa using hA
                    have HAI : Hid _ := info32 (A.map B8) (by simpa using hA)
                    have HA1 : Hid _ := B8_onea A
                    generalize hAC : A.map B8 = AC at *
                    have HAC : Hid _ := hAC
                    clear hAC
                    clear ha e1 e2 e3 e4 k1 HA HL HAT
                    generalize qL a.q (.slice pd a.q.data.length cd) = QL at *
                    have HT1 : Hid _ := HAS1.out wr [] HT.out
                    have HR1 : Hid _ := HROW.out wr HBE.out
                    go_wp2_with (first
                      | (refine wpList_load_mid rfl 33 (.tmp 113) rfl g (o + j * 37 + 2) rfl QL _ HR1.out Try.underlying33 rfl HQI.out ?_)
                      | (go_at_call 9; fail))
                    refine Calls.mono HT1.out ?_
                    rintro e Y1 ⟨rfl, hT⟩
                    have HRW : Hid ((Y1.alloc (.cells ZL.toArray 23 (0, 0))).heap[Y1.heap.size]? = some (.cells ZL.toArray 23 (0, 0))) := heap_alloc_new _ _
                    have HTN : Hid _ := hT.newrow (ZL := ZL) A
                    rw [HAC.out] at HTN
                    clear hT HT1 HR1
                    go_wp2_with (first
                      | (refine wpList_store_rowL rfl 23 _ _ rfl Y1.heap.size AC.toArray rfl rfl 23 ZL.toArray HRW.out (info32a _ HAN.out) (HZS.out.trans HAN.out.symm) HA1.out ?_; intro X1 hV; rw [← hV] at HTN; have HR1 : Hid _ := HROW.out X1 HTN.out.bel; clear hV)
                      | (refine wpList_load_mid rfl 33 (.tmp 123) rfl g (o + j * 37 + 2) rfl QL _ HR1.out Try.underlying33 rfl HQI.out ?_)
                      | (go_at_call 9; fail))
                    refine Calls.mono (HAS2.out X1 _ HTN.out) ?_
                    rintro e Y2 ⟨rfl, hT⟩
                    have HRW2 : Hid ((Y2.alloc (.cells ZL.toArray 23 (0, 0))).heap[Y2.heap.size]? = some (.cells ZL.toArray 23 (0, 0))) := heap_alloc_new _ _
                    have HTM : Hid _ := hT.newrow (ZL := ZL) A
                    rw [HAC.out] at HTM
                    clear hT HR1 HTN HRW
                    go_wp2_with (first
                      | (refine wpList_store_rowL rfl 23 _ _ rfl Y2.heap.size AC.toArray rfl rfl 23 ZL.toArray HRW2.out (info32a _ HAN.out) (HZS.out.trans HAN.out.symm) HA1.out ?_; intro X3 hV; rw [← hV] at HTM; have HR3 : Hid (X3.rangeAt Y1.heap.size 0 AC) := (by rw [← HAC.out]; exact HTM.out.row (r := (Y1.heap.size, A)) (by simp)); have HR4 : Hid (X3.rangeAt Y2.heap.size 0 AC) := (by rw [← HAC.out]; exact HTM.out.row (r := (Y2.heap.size, A)) (by simp)); have hc3 := HKD.out X3 HTM.out.bel; clear hV)
                      | (refine wpList_load_mid rfl 23 (.tmp 12) rfl Y1.heap.size 0 rfl AC _ HR3.out Try.underlying23 rfl HAI.out ?_)
                      | (refine wpList_load_mid rfl 23 (.tmp 14) rfl Y2.heap.size 0 rfl AC _ HR4.out Try.underlying23 rfl HAI.out ?_))
                    go_roundw
                    case rel => exact ⟨j + 1, by omega, by go_num, HTM.out.forget⟩
                    case measure => simp [intOf]; omega
                  · have k1b : (a.kind == 1) = false := by simpa using k1
                    by_cases k5 : a.kind = 5
                    · rw [k5] at hc0
                      obtain ⟨A, n, hA, e1, e2, e3, e4⟩ := both HT.out HL.out ha (brN_5 (o := ⟨false, m, [], L⟩) k5).1
                      have HMB : Hid ((brS m ⟨true, m, L.map (·.2), []⟩ (ls.take j)).master = m) := by show _ = _; rw [brS_b]
                      have HKY1 : Hid (∀ X rows pv, TW w og mb ⟨false, m, [], L⟩ ogb mbb (brS m ⟨true, m, L.map (·.2), []⟩ (ls.take j)) rows I P X → HP X pv [a.q.data] → Calls Try.prog 10 #[.pointer (some ⟨og, 0, none⟩), .int .i64 a.q.dom, pv] X fun e Y => e = .returned (.tuple #[.agg (A.map B8).toArray, .int .i64 n]) ∧ TW w og mb ⟨false, m, [], L⟩ ogb mbb (brS m ⟨true, m, L.map (·.2), []⟩ (ls.take j)) rows I P Y) := fun X rows pv hX hp => by
                        have h := hX.key (by have := HLN.out; show L.length < _; omega) pv a.q.dom a.q.data ⟨HML.out, rfl, HA.out.ok.dom, HA.out.ok.data⟩ (by have := HA.out.dl; omega) hp
                        rw [show ((⟨false, m, [], L⟩ : Pra).master) = m from rfl, e1, e3] at h
                        exact h
                      have HKY2 : Hid (∀ X rows pv, TW w og mb ⟨false, m, [], L⟩ ogb mbb (brS m ⟨true, m, L.map (·.2), []⟩ (ls.take j)) rows I P X → HP X pv [a.q.data] → Calls Try.prog 10 #[.pointer (some ⟨ogb, 0, none⟩), .int .i64 a.q.dom, pv] X fun e Y => e = .returned (.tuple #[.agg (A.map B8).toArray, .int .i64 n]) ∧ TW w og mb ⟨false, m, [], L⟩ ogb mbb (brS m ⟨true, m, L.map (·.2), []⟩ (ls.take (j + 1))) rows I P Y) := fun X rows pv hX hp => by
                        have h := hX.swap.key (HLA.out j) pv a.q.dom a.q.data ⟨by rw [HMB.out]; exact HML.out, rfl, HA.out.ok.dom, HA.out.ok.data⟩ (by have := HA.out.dl; omega) hp
                        rw [HMB.out, e2, e4] at h
                        exact h.mono (fun e Y ⟨h1, h2⟩ => ⟨h1, h2.swap⟩)
                      have HHP : Hid (∀ X, Below w.heap.size w X → HP (X.alloc (.cells #[.slice pd a.q.data.length cd] 31 (0, 0))) (.slice (some ⟨X.heap.size, 0, none⟩) 1 1) [a.q.data]) := fun X hX => hp_dat (HA.out.hb X hX)
                      have HCD : Hid (∀ X, Below w.heap.size w X → X.cell? ⟨g, o + j * 37 + 2 + 33, none⟩ = some (.int .i64 a.q.dom)) := HA.out.dom
                      have HCT : Hid (∀ X, Below w.heap.size w X → X.cell? ⟨g, o + j * 37 + 2 + 34, none⟩ = some (.slice pd a.q.data.length cd)) := HA.out.dat
                      have HKD : Hid (∀ X, Below w.heap.size w X → X.cell? ⟨g, o + j * 37, none⟩ = some (.int .i64 5)) := fun X hX => by rw [← k5]; exact HA.out.kind X hX
                      have hne := fun W => neq_digest W A hA
                      have HAN : Hid ((A.map B8).toArray.size = 32) := by show _ = _; simpa using hA
                      have HAI : Hid _ := info32 (A.map B8) (by simpa using hA)
                      have HA1 : Hid _ := B8_onea A
                      generalize hAC : A.map B8 = AC at *
                      have HAC : Hid _ := hAC
                      clear hAC
                      clear ha e1 e2 e3 e4 k5 HA HL HAT k1 k1b HMB
                      generalize a.q.data.length = dl at *
                      generalize a.q.dom = dm at *
                      generalize brS m ⟨true, m, L.map (·.2), []⟩ (ls.take j) = OB at *
                      go_upto_region 29 with fail
                      have HSB : Hid (Below w.heap.size w wr.drew) := HBE.out.drew
                      have HTD : Hid (TW w og mb ⟨false, m, [], L⟩ ogb mbb OB [] I P wr.drew) := HT.out.step ((Below.refl _ _).drew)
                      clear HT HBE hc0
                      go_cut [16, 17] from 96 to 185 (fun pv nv X => ∃ gb, pv = .pointer (some ⟨gb, 0, none⟩) ∧ nv = .int .i64 n ∧ TW w og mb ⟨false, m, [], L⟩ ogb mbb OB [(gb, A)] I P X)
                      case first =>
                        refine wp_region_held_drew (S := Below w.heap.size w) (by kernel_rfl) HSB.out (fun hHeld => ?_)
                        have hT := HTD.out
                        clear HTD
                        generalize World.drew _ = W1 at *
                        refine wpAnyH_take (i := 0) (oi := { dst := some 143, op := Go.Op.move (Go.Operand.tmp 5), type := 27, pos := _, after := #[], guard := none }) (v := .pointer (some ⟨og, 0, none⟩)) rfl (by kernel_rfl) (by kernel_rfl) (by kernel_rfl) (fun _ _ _ h => h) (Or.inl ⟨by rfl, fun w' hw' => ?_⟩) hHeld ?_
                        · first | (go_simp; done) | (go_simp; rfl)
                        try simp only [Act.put, List.setIfInBounds_toArray, List.set_cons_zero, List.set_cons_succ]
                        refine wpAnyH_take (i := 1) (oi := { dst := some 144, op := Go.Op.move (Go.Operand.tmp 1), type := 24, pos := _, after := #[], guard := none }) (v := .slice (some ⟨g, o, none⟩) ls.length cap) rfl (by kernel_rfl) (by kernel_rfl) (by kernel_rfl) (fun _ _ _ h => h) (Or.inl ⟨by rfl, fun w' hw' => ?_⟩) hHeld ?_
                        · first | (go_simp; done) | (go_simp; rfl)
                        try simp only [Act.put, List.setIfInBounds_toArray, List.set_cons_zero, List.set_cons_succ]
                        refine wpAnyH_take (i := 2) (oi := { dst := some 145, op := Go.Op.move (Go.Operand.tmp 11), type := 3, pos := _, after := #[], guard := none }) (v := .int .i64 j) rfl (by kernel_rfl) (by kernel_rfl) (by kernel_rfl) (fun _ _ _ h => h) (Or.inl ⟨by rfl, fun w' hw' => ?_⟩) hHeld ?_
                        · first | (go_simp; done) | (go_simp; rfl)
                        try simp only [Act.put, List.setIfInBounds_toArray, List.set_cons_zero, List.set_cons_succ]
                        refine wpAnyH_take (i := 3) (oi := { dst := some 146, op := Go.Op.indexAddr 24 (Go.Operand.tmp 144) (Go.Operand.tmp 145), type := 0, pos := _, after := #[{ on := 1, ground := Go.Ground.data }, { on := 2, ground := Go.Ground.data }], guard := none }) (v := .pointer (some ⟨g, o + j * 37, none⟩)) rfl (by kernel_rfl) (by kernel_rfl) (by kernel_rfl) (fun _ _ _ h => h) (Or.inl ⟨by rfl, fun w' hw' => ?_⟩) hHeld ?_
                        · first | (go_simp; done) | (go_simp; rfl) | (go_simp; intro hbad; omega)
                        try simp only [Act.put, List.setIfInBounds_toArray, List.set_cons_zero, List.set_cons_succ]
                        refine wpAnyH_take (i := 4) (oi := { dst := some 147, op := Go.Op.fieldAddr 35 (Go.Operand.tmp 146) 2, type := 0, pos := _, after := #[{ on := 3, ground := Go.Ground.data }], guard := none }) (v := .pointer (some ⟨g, o + j * 37 + 2, none⟩)) rfl (by kernel_rfl) (by kernel_rfl) (by kernel_rfl) (fun _ _ _ h => h) (Or.inl ⟨by rfl, fun w' hw' => ?_⟩) hHeld ?_
                        · first | (go_simp; done) | (go_simp; rfl)
                        try simp only [Act.put, List.setIfInBounds_toArray, List.set_cons_zero, List.set_cons_succ]
                        refine wpAnyH_take (i := 5) (oi := { dst := some 148, op := Go.Op.fieldAddr 33 (Go.Operand.tmp 147) 2, type := 0, pos := _, after := #[{ on := 4, ground := Go.Ground.data }], guard := none }) (v := .pointer (some ⟨g, o + j * 37 + 2 + 33, none⟩)) rfl (by kernel_rfl) (by kernel_rfl) (by kernel_rfl) (fun _ _ _ h => h) (Or.inl ⟨by rfl, fun w' hw' => ?_⟩) hHeld ?_
                        · first | (go_simp; done) | (go_simp; rfl)
                        try simp only [Act.put, List.setIfInBounds_toArray, List.set_cons_zero, List.set_cons_succ]
                        refine wpAnyH_take (i := 6) (oi := { dst := some 149, op := Go.Op.load 30 (Go.Operand.tmp 148), type := 30, pos := _, after := #[{ on := 5, ground := Go.Ground.data }], guard := none }) (v := .int .i64 dm) rfl (by kernel_rfl) (by kernel_rfl) (by kernel_rfl) (fun _ _ _ h => h) (Or.inl ⟨by rfl, fun w' hw' => ?_⟩) hHeld ?_
                        · have hcc := HCD.out w' hw'; first | (go_simp; done) | (go_simp; rfl)
                        try simp only [Act.put, List.setIfInBounds_toArray, List.set_cons_zero, List.set_cons_succ]
                        refine wpAnyH_take (i := 7) (oi := { dst := some 150, op := Go.Op.move (Go.Operand.tmp 1), type := 24, pos := _, after := #[], guard := none }) (v := .slice (some ⟨g, o, none⟩) ls.length cap) rfl (by kernel_rfl) (by kernel_rfl) (by kernel_rfl) (fun _ _ _ h => h) (Or.inl ⟨by rfl, fun w' hw' => ?_⟩) hHeld ?_
                        · first | (go_simp; done) | (go_simp; rfl)
                        try simp only [Act.put, List.setIfInBounds_toArray, List.set_cons_zero, List.set_cons_succ]
                        refine wpAnyH_take (i := 8) (oi := { dst := some 151, op := Go.Op.move (Go.Operand.tmp 11), type := 3, pos := _, after := #[], guard := none }) (v := .int .i64 j) rfl (by kernel_rfl) (by kernel_rfl) (by kernel_rfl) (fun _ _ _ h => h) (Or.inl ⟨by rfl, fun w' hw' => ?_⟩) hHeld ?_
                        · first | (go_simp; done) | (go_simp; rfl)
                        try simp only [Act.put, List.setIfInBounds_toArray, List.set_cons_zero, List.set_cons_succ]
                        refine wpAnyH_take (i := 9) (oi := { dst := some 152, op := Go.Op.indexAddr 24 (Go.Operand.tmp 150) (Go.Operand.tmp 151), type := 0, pos := _, after := #[{ on := 7, ground := Go.Ground.data }, { on := 8, ground := Go.Ground.data }], guard := none }) (v := .pointer (some ⟨g, o + j * 37, none⟩)) rfl (by kernel_rfl) (by kernel_rfl) (by kernel_rfl) (fun _ _ _ h => h) (Or.inl ⟨by rfl, fun w' hw' => ?_⟩) hHeld ?_
                        · first | (go_simp; done) | (go_simp; rfl) | (go_simp; intro hbad; omega)
                        try simp only [Act.put, List.setIfInBounds_toArray, List.set_cons_zero, List.set_cons_succ]
                        refine wpAnyH_take (i := 10) (oi := { dst := some 153, op := Go.Op.fieldAddr 35 (Go.Operand.tmp 152) 2, type := 0, pos := _, after := #[{ on := 9, ground := Go.Ground.data }], guard := none }) (v := .pointer (some ⟨g, o + j * 37 + 2, none⟩)) rfl (by kernel_rfl) (by kernel_rfl) (by kernel_rfl) (fun _ _ _ h => h) (Or.inl ⟨by rfl, fun w' hw' => ?_⟩) hHeld ?_
                        · first | (go_simp; done) | (go_simp; rfl)
                        try simp only [Act.put, List.setIfInBounds_toArray, List.set_cons_zero, List.set_cons_succ]
                        refine wpAnyH_take (i := 11) (oi := { dst := some 154, op := Go.Op.fieldAddr 33 (Go.Operand.tmp 153) 3, type := 0, pos := _, after := #[{ on := 10, ground := Go.Ground.data }], guard := none }) (v := .pointer (some ⟨g, o + j * 37 + 2 + 34, none⟩)) rfl (by kernel_rfl) (by kernel_rfl) (by kernel_rfl) (fun _ _ _ h => h) (Or.inl ⟨by rfl, fun w' hw' => ?_⟩) hHeld ?_
                        · first | (go_simp; done) | (go_simp; rfl)
                        try simp only [Act.put, List.setIfInBounds_toArray, List.set_cons_zero, List.set_cons_succ]
                        refine wpAnyH_take (i := 12) (oi := { dst := some 155, op := Go.Op.load 31 (Go.Operand.tmp 154), type := 31, pos := _, after := #[{ on := 11, ground := Go.Ground.data }], guard := none }) (v := .slice pd dl cd) rfl (by kernel_rfl) (by kernel_rfl) (by kernel_rfl) (fun _ _ _ h => h) (Or.inl ⟨by rfl, fun w' hw' => ?_⟩) hHeld ?_
                        · have hcc := HCT.out w' hw'; first | (go_simp; done) | (go_simp; rfl)
                        try simp only [Act.put, List.setIfInBounds_toArray, List.set_cons_zero, List.set_cons_succ]
                        refine wpAnyH_ready (rs := [13, 18]) (by kernel_rfl) (by simp) ?_
                        refine AllReadyH.cons (o := { dst := some 156, op := Go.Op.buildSlice 66 1 #[(0, Go.Operand.tmp 155)], type := 66, pos := _, after := #[{ on := 12, ground := Go.Ground.data }], guard := none }) rfl (fun K hK => ?_) (AllReadyH.cons (o := { dst := some 16, op := Go.Op.alloc 23, type := 0, pos := _, after := #[], guard := none }) rfl (fun K hK => ?_) AllReadyH.nil)
                        all_goals rw [if_pos (by rfl)]
                        · skip
                          refine wp_bslice 66 1 _ rfl _ _ (by simp; first | done | rfl) (bs_part W1 _ _ _) ?_
                          have hHP := HHP.out W1 hT.bel
                          have hT' := hT.alloc (.cells #[.slice pd dl cd] 31 (0, 0))
                          generalize (W1.alloc (.cells #[.slice pd dl cd] 31 (0, 0))) = W2 at *
                          have hB' := hT'.bel
                          refine hK.out _ _ hB' (fun _ => ?_)
                          clear hK K
                          try simp only [Act.put, List.setIfInBounds_toArray, List.set_cons_zero, List.set_cons_succ]
                          clear hHeld hT
                          have hHeld := hB'
                          have hT := hT'
                          clear hT' hB'
                          refine wpAnyH_ready (rs := [14, 18]) (by kernel_rfl) (by simp) ?_
                          refine AllReadyH.cons (o := { dst := some 157, op := Go.Op.call { callee := Go.Callee.value (Go.Operand.func 10), args := #[Go.Operand.tmp 143, Go.Operand.tmp 149, Go.Operand.tmp 156], argTypes := #[27, 30, 66] }, type := 37, pos := _, after := #[{ on := 0, ground := Go.Ground.data }, { on := 6, ground := Go.Ground.data }, { on := 13, ground := Go.Ground.data }], guard := none }) rfl (fun K hK => ?_) (AllReadyH.cons (o := { dst := some 16, op := Go.Op.alloc 23, type := 0, pos := _, after := #[], guard := none }) rfl (fun K hK => ?_) AllReadyH.nil)
                          all_goals rw [if_pos (by rfl)]
                          · skip
                            go_wp2_with fail
                            refine Calls.mono (HKY1.out W2 _ _ hT hHP) ?_
                            rintro e W3 ⟨rfl, hT'⟩
                            have hB' := hT'.bel
                            refine hK.out _ _ hB' (fun _ => ?_)
                            clear hK K
                            try simp only [Act.put, List.setIfInBounds_toArray, List.set_cons_zero, List.set_cons_succ]
                            clear hHeld hT
                            have hHeld := hB'
                            have hT := hT'
                            clear hT' hB'
                            refine wpAnyH_take (i := 15) (oi := { dst := some 142, op := Go.Op.move (Go.Operand.tmp 157), type := 37, pos := _, after := #[{ on := 14, ground := Go.Ground.data }], guard := none }) (v := .tuple #[.agg AC.toArray, .int .i64 n]) rfl (by kernel_rfl) (by kernel_rfl) (by kernel_rfl) (fun _ _ _ h => h) (Or.inl ⟨by rfl, fun w' hw' => ?_⟩) hHeld ?_
                            · first | (go_simp; done) | (go_simp; rfl)
                            try simp only [Act.put, List.setIfInBounds_toArray, List.set_cons_zero, List.set_cons_succ]
                            refine wpAnyH_take (i := 16) (oi := { dst := some 158, op := Go.Op.extract (Go.Operand.tmp 142) 0, type := 23, pos := _, after := #[{ on := 15, ground := Go.Ground.data }], guard := none }) (v := .agg AC.toArray) rfl (by kernel_rfl) (by kernel_rfl) (by kernel_rfl) (fun _ _ _ h => h) (Or.inl ⟨by rfl, fun w' hw' => ?_⟩) hHeld ?_
                            · first | (go_simp; done) | (go_simp; rfl)
                            try simp only [Act.put, List.setIfInBounds_toArray, List.set_cons_zero, List.set_cons_succ]
                            refine wpAnyH_take (i := 17) (oi := { dst := some 159, op := Go.Op.extract (Go.Operand.tmp 142) 1, type := 36, pos := _, after := #[{ on := 15, ground := Go.Ground.data }, { on := 19, ground := Go.Ground.gcOnly Go.Departure.lateStores }], guard := none }) (v := .int .i64 n) rfl (by kernel_rfl) (by kernel_rfl) (by kernel_rfl) (fun _ _ _ h => h) (Or.inl ⟨by rfl, fun w' hw' => ?_⟩) hHeld ?_
                            · first | (go_simp; done) | (go_simp; rfl)
                            try simp only [Act.put, List.setIfInBounds_toArray, List.set_cons_zero, List.set_cons_succ]
                            refine wpAnyH_ready (rs := [18]) (by kernel_rfl) (by simp) ?_
                            refine AllReadyH.cons (o := { dst := some 16, op := Go.Op.alloc 23, type := 0, pos := _, after := #[], guard := none }) rfl (fun K hK => ?_) AllReadyH.nil
                            rw [if_pos (by rfl)]
                            go_wp2_with fail
                            have hT' := hT.zrow
                            rw [← HZL.out] at hT'
                            have hgb : w.heap.size ≤ W3.heap.size := hT.bel.size
                            have hne : ∀ r ∈ ([] : List (Nat × List UInt8)), r.1 ≠ W3.heap.size := fun r hr => Nat.ne_of_lt (row_lt (hT.rowAt hr))
                            have hup : Below W3.heap.size W3 (W3.alloc (.cells ZL.toArray 23 (0, 0))) := (Below.refl _ _).alloc (Nat.le_refl _) _
                            generalize (W3.alloc (.cells ZL.toArray 23 (0, 0))) = W4 at *
                            have hB' := hT'.bel
                            refine hK.out _ _ hB' (fun _ => ?_)
                            clear hK K
                            try simp only [Act.put, List.setIfInBounds_toArray, List.set_cons_zero, List.set_cons_succ]
                            clear hHeld hT
                            have hHeld := hB'
                            have hT := hT'
                            clear hT' hB'
                            refine wpAnyH_ready (rs := [19]) (by kernel_rfl) (by simp) ?_
                            refine AllReadyH.cons (o := { dst := none, op := Go.Op.store 23 (Go.Operand.tmp 16) (Go.Operand.tmp 158), type := 0, pos := _, after := #[{ on := 18, ground := Go.Ground.data }, { on := 16, ground := Go.Ground.data }, { on := 14, ground := Go.Ground.chain }, { on := 0, ground := Go.Ground.phase }, { on := 1, ground := Go.Ground.phase }, { on := 2, ground := Go.Ground.phase }, { on := 3, ground := Go.Ground.phase }, { on := 4, ground := Go.Ground.phase }, { on := 5, ground := Go.Ground.phase }, { on := 6, ground := Go.Ground.phase }, { on := 7, ground := Go.Ground.phase }, { on := 8, ground := Go.Ground.phase }, { on := 9, ground := Go.Ground.phase }, { on := 10, ground := Go.Ground.phase }, { on := 11, ground := Go.Ground.phase }, { on := 12, ground := Go.Ground.phase }, { on := 13, ground := Go.Ground.phase }, { on := 14, ground := Go.Ground.phase }, { on := 15, ground := Go.Ground.phase }, { on := 16, ground := Go.Ground.phase }, { on := 17, ground := Go.Ground.textOnly Go.Departure.lateStores }, { on := 18, ground := Go.Ground.phase }], guard := none }) rfl (fun K hK => ?_) AllReadyH.nil
                            rw [if_pos (by rfl)]
                            refine wp_store_row 23 _ _ rfl W3.heap.size AC.toArray rfl rfl 23 _ (hT.rowAt (r := (W3.heap.size, List.replicate 32 0)) (by simp)) (info32a _ HAN.out) (by rw [HAN.out]; simp) HA1.out ?_
                            have hT2 := hT.setrow (A := A) hgb hne
                            rw [HAC.out] at hT2
                            have hB2 := hT2.bel
                            refine hK.out _ _ hB2 (fun _ => ?_)
                            clear hK K
                            try simp only [Act.put, List.setIfInBounds_toArray, List.set_cons_zero, List.set_cons_succ]
                            clear hHeld
                            have hHeld := hB2
                            refine wpAnyH_ready (rs := [20]) (by kernel_rfl) (by simp) ?_
                            refine AllReadyH.cons (o := { dst := some 17, op := Go.Op.assign (Go.Operand.tmp 159), type := 36, pos := _, after := #[{ on := 17, ground := Go.Ground.data }, { on := 19, ground := Go.Ground.chain }, { on := 0, ground := Go.Ground.phase }, { on := 1, ground := Go.Ground.phase }, { on := 2, ground := Go.Ground.phase }, { on := 3, ground := Go.Ground.phase }, { on := 4, ground := Go.Ground.phase }, { on := 5, ground := Go.Ground.phase }, { on := 6, ground := Go.Ground.phase }, { on := 7, ground := Go.Ground.phase }, { on := 8, ground := Go.Ground.phase }, { on := 9, ground := Go.Ground.phase }, { on := 10, ground := Go.Ground.phase }, { on := 11, ground := Go.Ground.phase }, { on := 12, ground := Go.Ground.phase }, { on := 13, ground := Go.Ground.phase }, { on := 14, ground := Go.Ground.phase }, { on := 15, ground := Go.Ground.phase }, { on := 16, ground := Go.Ground.phase }, { on := 17, ground := Go.Ground.phase }, { on := 18, ground := Go.Ground.phase }, { on := 19, ground := Go.Ground.phase }], guard := none }) rfl (fun K hK => ?_) AllReadyH.nil
                            rw [if_pos (by rfl)]
                            go_wp2_with fail
                            refine hK.out _ _ hB2 (fun _ => ?_)
                            clear hK K
                            try simp only [Act.put, List.setIfInBounds_toArray, List.set_cons_zero, List.set_cons_succ]
                            refine wpAnyH_done (by kernel_rfl) ?_ _
                            go_wp2_with fail
                            go_meet
                            case rel => exact ⟨_, rfl, rfl, hT2⟩
                          · skip
                            go_wp2_with fail
                            have hT' := hT.zrow
                            rw [← HZL.out] at hT'
                            have hgb : w.heap.size ≤ W2.heap.size := hT.bel.size
                            have hne : ∀ r ∈ ([] : List (Nat × List UInt8)), r.1 ≠ W2.heap.size := fun r hr => Nat.ne_of_lt (row_lt (hT.rowAt hr))
                            have hup : Below W2.heap.size W2 (W2.alloc (.cells ZL.toArray 23 (0, 0))) := (Below.refl _ _).alloc (Nat.le_refl _) _
                            generalize (W2.alloc (.cells ZL.toArray 23 (0, 0))) = W3 at *
                            have hB' := hT'.bel
                            refine hK.out _ _ hB' (fun _ => ?_)
                            clear hK K
                            try simp only [Act.put, List.setIfInBounds_toArray, List.set_cons_zero, List.set_cons_succ]
                            clear hHeld hT
                            have hHeld := hB'
                            have hT := hT'
                            clear hT' hB'
                            have hHP := hp_below hHP hup
                            refine wpAnyH_ready (rs := [14]) (by kernel_rfl) (by simp) ?_
                            refine AllReadyH.cons (o := { dst := some 157, op := Go.Op.call { callee := Go.Callee.value (Go.Operand.func 10), args := #[Go.Operand.tmp 143, Go.Operand.tmp 149, Go.Operand.tmp 156], argTypes := #[27, 30, 66] }, type := 37, pos := _, after := #[{ on := 0, ground := Go.Ground.data }, { on := 6, ground := Go.Ground.data }, { on := 13, ground := Go.Ground.data }], guard := none }) rfl (fun K hK => ?_) AllReadyH.nil
                            rw [if_pos (by rfl)]
                            go_wp2_with fail
                            refine Calls.mono (HKY1.out W3 _ _ hT hHP) ?_
                            rintro e W4 ⟨rfl, hT'⟩
                            have hB' := hT'.bel
                            refine hK.out _ _ hB' (fun _ => ?_)
                            clear hK K
                            try simp only [Act.put, List.setIfInBounds_toArray, List.set_cons_zero, List.set_cons_succ]
                            clear hHeld hT
                            have hHeld := hB'
                            have hT := hT'
                            clear hT' hB'
                            refine wpAnyH_take (i := 15) (oi := { dst := some 142, op := Go.Op.move (Go.Operand.tmp 157), type := 37, pos := _, after := #[{ on := 14, ground := Go.Ground.data }], guard := none }) (v := .tuple #[.agg AC.toArray, .int .i64 n]) rfl (by kernel_rfl) (by kernel_rfl) (by kernel_rfl) (fun _ _ _ h => h) (Or.inl ⟨by rfl, fun w' hw' => ?_⟩) hHeld ?_
                            · first | (go_simp; done) | (go_simp; rfl)
                            try simp only [Act.put, List.setIfInBounds_toArray, List.set_cons_zero, List.set_cons_succ]
                            refine wpAnyH_take (i := 16) (oi := { dst := some 158, op := Go.Op.extract (Go.Operand.tmp 142) 0, type := 23, pos := _, after := #[{ on := 15, ground := Go.Ground.data }], guard := none }) (v := .agg AC.toArray) rfl (by kernel_rfl) (by kernel_rfl) (by kernel_rfl) (fun _ _ _ h => h) (Or.inl ⟨by rfl, fun w' hw' => ?_⟩) hHeld ?_
                            · first | (go_simp; done) | (go_simp; rfl)
                            try simp only [Act.put, List.setIfInBounds_toArray, List.set_cons_zero, List.set_cons_succ]
                            refine wpAnyH_take (i := 17) (oi := { dst := some 159, op := Go.Op.extract (Go.Operand.tmp 142) 1, type := 36, pos := _, after := #[{ on := 15, ground := Go.Ground.data }, { on := 19, ground := Go.Ground.gcOnly Go.Departure.lateStores }], guard := none }) (v := .int .i64 n) rfl (by kernel_rfl) (by kernel_rfl) (by kernel_rfl) (fun _ _ _ h => h) (Or.inl ⟨by rfl, fun w' hw' => ?_⟩) hHeld ?_
                            · first | (go_simp; done) | (go_simp; rfl)
                            try simp only [Act.put, List.setIfInBounds_toArray, List.set_cons_zero, List.set_cons_succ]
                            refine wpAnyH_ready (rs := [19]) (by kernel_rfl) (by simp) ?_
                            refine AllReadyH.cons (o := { dst := none, op := Go.Op.store 23 (Go.Operand.tmp 16) (Go.Operand.tmp 158), type := 0, pos := _, after := #[{ on := 18, ground := Go.Ground.data }, { on := 16, ground := Go.Ground.data }, { on := 14, ground := Go.Ground.chain }, { on := 0, ground := Go.Ground.phase }, { on := 1, ground := Go.Ground.phase }, { on := 2, ground := Go.Ground.phase }, { on := 3, ground := Go.Ground.phase }, { on := 4, ground := Go.Ground.phase }, { on := 5, ground := Go.Ground.phase }, { on := 6, ground := Go.Ground.phase }, { on := 7, ground := Go.Ground.phase }, { on := 8, ground := Go.Ground.phase }, { on := 9, ground := Go.Ground.phase }, { on := 10, ground := Go.Ground.phase }, { on := 11, ground := Go.Ground.phase }, { on := 12, ground := Go.Ground.phase }, { on := 13, ground := Go.Ground.phase }, { on := 14, ground := Go.Ground.phase }, { on := 15, ground := Go.Ground.phase }, { on := 16, ground := Go.Ground.phase }, { on := 17, ground := Go.Ground.textOnly Go.Departure.lateStores }, { on := 18, ground := Go.Ground.phase }], guard := none }) rfl (fun K hK => ?_) AllReadyH.nil
                            rw [if_pos (by rfl)]
                            refine wp_store_row 23 _ _ rfl W2.heap.size AC.toArray rfl rfl 23 _ (hT.rowAt (r := (W2.heap.size, List.replicate 32 0)) (by simp)) (info32a _ HAN.out) (by rw [HAN.out]; simp) HA1.out ?_
                            have hT2 := hT.setrow (A := A) hgb hne
                            rw [HAC.out] at hT2
                            have hB2 := hT2.bel
                            refine hK.out _ _ hB2 (fun _ => ?_)
                            clear hK K
                            try simp only [Act.put, List.setIfInBounds_toArray, List.set_cons_zero, List.set_cons_succ]
                            clear hHeld
                            have hHeld := hB2
                            refine wpAnyH_ready (rs := [20]) (by kernel_rfl) (by simp) ?_
                            refine AllReadyH.cons (o := { dst := some 17, op := Go.Op.assign (Go.Operand.tmp 159), type := 36, pos := _, after := #[{ on := 17, ground := Go.Ground.data }, { on := 19, ground := Go.Ground.chain }, { on := 0, ground := Go.Ground.phase }, { on := 1, ground := Go.Ground.phase }, { on := 2, ground := Go.Ground.phase }, { on := 3, ground := Go.Ground.phase }, { on := 4, ground := Go.Ground.phase }, { on := 5, ground := Go.Ground.phase }, { on := 6, ground := Go.Ground.phase }, { on := 7, ground := Go.Ground.phase }, { on := 8, ground := Go.Ground.phase }, { on := 9, ground := Go.Ground.phase }, { on := 10, ground := Go.Ground.phase }, { on := 11, ground := Go.Ground.phase }, { on := 12, ground := Go.Ground.phase }, { on := 13, ground := Go.Ground.phase }, { on := 14, ground := Go.Ground.phase }, { on := 15, ground := Go.Ground.phase }, { on := 16, ground := Go.Ground.phase }, { on := 17, ground := Go.Ground.phase }, { on := 18, ground := Go.Ground.phase }, { on := 19, ground := Go.Ground.phase }], guard := none }) rfl (fun K hK => ?_) AllReadyH.nil
                            rw [if_pos (by rfl)]
                            go_wp2_with fail
                            refine hK.out _ _ hB2 (fun _ => ?_)
                            clear hK K
                            try simp only [Act.put, List.setIfInBounds_toArray, List.set_cons_zero, List.set_cons_succ]
                            refine wpAnyH_done (by kernel_rfl) ?_ _
                            go_wp2_with fail
                            go_meet
                            case rel => exact ⟨_, rfl, rfl, hT2⟩
                        · skip
                          go_wp2_with fail
                          have hT' := hT.zrow
                          rw [← HZL.out] at hT'
                          have hgb : w.heap.size ≤ W1.heap.size := hT.bel.size
                          have hne : ∀ r ∈ ([] : List (Nat × List UInt8)), r.1 ≠ W1.heap.size := fun r hr => Nat.ne_of_lt (row_lt (hT.rowAt hr))
                          have hup : Below W1.heap.size W1 (W1.alloc (.cells ZL.toArray 23 (0, 0))) := (Below.refl _ _).alloc (Nat.le_refl _) _
                          generalize (W1.alloc (.cells ZL.toArray 23 (0, 0))) = W2 at *
                          have hB' := hT'.bel
                          refine hK.out _ _ hB' (fun _ => ?_)
                          clear hK K
                          try simp only [Act.put, List.setIfInBounds_toArray, List.set_cons_zero, List.set_cons_succ]
                          clear hHeld hT
                          have hHeld := hB'
                          have hT := hT'
                          clear hT' hB'
                          refine wpAnyH_ready (rs := [13]) (by kernel_rfl) (by simp) ?_
                          refine AllReadyH.cons (o := { dst := some 156, op := Go.Op.buildSlice 66 1 #[(0, Go.Operand.tmp 155)], type := 66, pos := _, after := #[{ on := 12, ground := Go.Ground.data }], guard := none }) rfl (fun K hK => ?_) AllReadyH.nil
                          rw [if_pos (by rfl)]
                          refine wp_bslice 66 1 _ rfl _ _ (by simp; first | done | rfl) (bs_part W2 _ _ _) ?_
                          have hHP := HHP.out W2 hT.bel
                          have hT' := hT.alloc (.cells #[.slice pd dl cd] 31 (0, 0))
                          generalize (W2.alloc (.cells #[.slice pd dl cd] 31 (0, 0))) = W3 at *
                          have hB' := hT'.bel
                          refine hK.out _ _ hB' (fun _ => ?_)
                          clear hK K
                          try simp only [Act.put, List.setIfInBounds_toArray, List.set_cons_zero, List.set_cons_succ]
                          clear hHeld hT
                          have hHeld := hB'
                          have hT := hT'
                          clear hT' hB'
                          refine wpAnyH_ready (rs := [14]) (by kernel_rfl) (by simp) ?_
                          refine AllReadyH.cons (o := { dst := some 157, op := Go.Op.call { callee := Go.Callee.value (Go.Operand.func 10), args := #[Go.Operand.tmp 143, Go.Operand.tmp 149, Go.Operand.tmp 156], argTypes := #[27, 30, 66] }, type := 37, pos := _, after := #[{ on := 0, ground := Go.Ground.data }, { on := 6, ground := Go.Ground.data }, { on := 13, ground := Go.Ground.data }], guard := none }) rfl (fun K hK => ?_) AllReadyH.nil
                          rw [if_pos (by rfl)]
                          go_wp2_with fail
                          refine Calls.mono (HKY1.out W3 _ _ hT hHP) ?_
                          rintro e W4 ⟨rfl, hT'⟩
                          have hB' := hT'.bel
                          refine hK.out _ _ hB' (fun _ => ?_)
                          clear hK K
                          try simp only [Act.put, List.setIfInBounds_toArray, List.set_cons_zero, List.set_cons_succ]
                          clear hHeld hT
                          have hHeld := hB'
                          have hT := hT'
                          clear hT' hB'
                          refine wpAnyH_take (i := 15) (oi := { dst := some 142, op := Go.Op.move (Go.Operand.tmp 157), type := 37, pos := _, after := #[{ on := 14, ground := Go.Ground.data }], guard := none }) (v := .tuple #[.agg AC.toArray, .int .i64 n]) rfl (by kernel_rfl) (by kernel_rfl) (by kernel_rfl) (fun _ _ _ h => h) (Or.inl ⟨by rfl, fun w' hw' => ?_⟩) hHeld ?_
                          · first | (go_simp; done) | (go_simp; rfl)
                          try simp only [Act.put, List.setIfInBounds_toArray, List.set_cons_zero, List.set_cons_succ]
                          refine wpAnyH_take (i := 16) (oi := { dst := some 158, op := Go.Op.extract (Go.Operand.tmp 142) 0, type := 23, pos := _, after := #[{ on := 15, ground := Go.Ground.data }], guard := none }) (v := .agg AC.toArray) rfl (by kernel_rfl) (by kernel_rfl) (by kernel_rfl) (fun _ _ _ h => h) (Or.inl ⟨by rfl, fun w' hw' => ?_⟩) hHeld ?_
                          · first | (go_simp; done) | (go_simp; rfl)
                          try simp only [Act.put, List.setIfInBounds_toArray, List.set_cons_zero, List.set_cons_succ]
                          refine wpAnyH_take (i := 17) (oi := { dst := some 159, op := Go.Op.extract (Go.Operand.tmp 142) 1, type := 36, pos := _, after := #[{ on := 15, ground := Go.Ground.data }, { on := 19, ground := Go.Ground.gcOnly Go.Departure.lateStores }], guard := none }) (v := .int .i64 n) rfl (by kernel_rfl) (by kernel_rfl) (by kernel_rfl) (fun _ _ _ h => h) (Or.inl ⟨by rfl, fun w' hw' => ?_⟩) hHeld ?_
                          · first | (go_simp; done) | (go_simp; rfl)
                          try simp only [Act.put, List.setIfInBounds_toArray, List.set_cons_zero, List.set_cons_succ]
                          refine wpAnyH_ready (rs := [19]) (by kernel_rfl) (by simp) ?_
                          refine AllReadyH.cons (o := { dst := none, op := Go.Op.store 23 (Go.Operand.tmp 16) (Go.Operand.tmp 158), type := 0, pos := _, after := #[{ on := 18, ground := Go.Ground.data }, { on := 16, ground := Go.Ground.data }, { on := 14, ground := Go.Ground.chain }, { on := 0, ground := Go.Ground.phase }, { on := 1, ground := Go.Ground.phase }, { on := 2, ground := Go.Ground.phase }, { on := 3, ground := Go.Ground.phase }, { on := 4, ground := Go.Ground.phase }, { on := 5, ground := Go.Ground.phase }, { on := 6, ground := Go.Ground.phase }, { on := 7, ground := Go.Ground.phase }, { on := 8, ground := Go.Ground.phase }, { on := 9, ground := Go.Ground.phase }, { on := 10, ground := Go.Ground.phase }, { on := 11, ground := Go.Ground.phase }, { on := 12, ground := Go.Ground.phase }, { on := 13, ground := Go.Ground.phase }, { on := 14, ground := Go.Ground.phase }, { on := 15, ground := Go.Ground.phase }, { on := 16, ground := Go.Ground.phase }, { on := 17, ground := Go.Ground.textOnly Go.Departure.lateStores }, { on := 18, ground := Go.Ground.phase }], guard := none }) rfl (fun K hK => ?_) AllReadyH.nil
                          rw [if_pos (by rfl)]
                          refine wp_store_row 23 _ _ rfl W1.heap.size AC.toArray rfl rfl 23 _ (hT.rowAt (r := (W1.heap.size, List.replicate 32 0)) (by simp)) (info32a _ HAN.out) (by rw [HAN.out]; simp) HA1.out ?_
                          have hT2 := hT.setrow (A := A) hgb hne
                          rw [HAC.out] at hT2
                          have hB2 := hT2.bel
                          refine hK.out _ _ hB2 (fun _ => ?_)
                          clear hK K
                          try simp only [Act.put, List.setIfInBounds_toArray, List.set_cons_zero, List.set_cons_succ]
                          clear hHeld
                          have hHeld := hB2
                          refine wpAnyH_ready (rs := [20]) (by kernel_rfl) (by simp) ?_
                          refine AllReadyH.cons (o := { dst := some 17, op := Go.Op.assign (Go.Operand.tmp 159), type := 36, pos := _, after := #[{ on := 17, ground := Go.Ground.data }, { on := 19, ground := Go.Ground.chain }, { on := 0, ground := Go.Ground.phase }, { on := 1, ground := Go.Ground.phase }, { on := 2, ground := Go.Ground.phase }, { on := 3, ground := Go.Ground.phase }, { on := 4, ground := Go.Ground.phase }, { on := 5, ground := Go.Ground.phase }, { on := 6, ground := Go.Ground.phase }, { on := 7, ground := Go.Ground.phase }, { on := 8, ground := Go.Ground.phase }, { on := 9, ground := Go.Ground.phase }, { on := 10, ground := Go.Ground.phase }, { on := 11, ground := Go.Ground.phase }, { on := 12, ground := Go.Ground.phase }, { on := 13, ground := Go.Ground.phase }, { on := 14, ground := Go.Ground.phase }, { on := 15, ground := Go.Ground.phase }, { on := 16, ground := Go.Ground.phase }, { on := 17, ground := Go.Ground.phase }, { on := 18, ground := Go.Ground.phase }, { on := 19, ground := Go.Ground.phase }], guard := none }) rfl (fun K hK => ?_) AllReadyH.nil
                          rw [if_pos (by rfl)]
                          go_wp2_with fail
                          refine hK.out _ _ hB2 (fun _ => ?_)
                          clear hK K
                          try simp only [Act.put, List.setIfInBounds_toArray, List.set_cons_zero, List.set_cons_succ]
                          refine wpAnyH_done (by kernel_rfl) ?_ _
                          go_wp2_with fail
                          go_meet
                          case rel => exact ⟨_, rfl, rfl, hT2⟩
                      case rest =>
                        obtain ⟨gb, rfl, rfl, hT1⟩ := hcut
                        clear HSB HTD
                        generalize wc = WA at *
                        have HSB : Hid (Below w.heap.size w WA.drew) := hT1.bel.drew
                        have HTD : Hid (TW w og mb ⟨false, m, [], L⟩ ogb mbb OB [(gb, A)] I P WA.drew) := hT1.step ((Below.refl _ _).drew)
                        clear hT1
                        go_upto_region 30 with fail
                        go_cut [18, 19] from 96 to 185 (fun pv nv X => ∃ gc, pv = .pointer (some ⟨gc, 0, none⟩) ∧ nv = .int .i64 n ∧ TW w og mb ⟨false, m, [], L⟩ ogb mbb (brS m ⟨true, m, L.map (·.2), []⟩ (ls.take (j + 1))) [(gc, A), (gb, A)] I P X)
                        case first =>
                          refine wp_region_held_drew (S := Below w.heap.size w) (by kernel_rfl) HSB.out (fun hHeld => ?_)
                          have hT := HTD.out
                          clear HTD
                          generalize World.drew _ = W1 at *
                          refine wpAnyH_take (i := 0) (oi := { dst := some 161, op := Go.Op.move (Go.Operand.tmp 10), type := 27, pos := _, after := #[], guard := none }) (v := .pointer (some ⟨ogb, 0, none⟩)) rfl (by kernel_rfl) (by kernel_rfl) (by kernel_rfl) (fun _ _ _ h => h) (Or.inl ⟨by rfl, fun w' hw' => ?_⟩) hHeld ?_
                          · first | (go_simp; done) | (go_simp; rfl)
                          try simp only [Act.put, List.setIfInBounds_toArray, List.set_cons_zero, List.set_cons_succ]
                          refine wpAnyH_take (i := 1) (oi := { dst := some 162, op := Go.Op.move (Go.Operand.tmp 1), type := 24, pos := _, after := #[], guard := none }) (v := .slice (some ⟨g, o, none⟩) ls.length cap) rfl (by kernel_rfl) (by kernel_rfl) (by kernel_rfl) (fun _ _ _ h => h) (Or.inl ⟨by rfl, fun w' hw' => ?_⟩) hHeld ?_
                          · first | (go_simp; done) | (go_simp; rfl)
                          try simp only [Act.put, List.setIfInBounds_toArray, List.set_cons_zero, List.set_cons_succ]
                          refine wpAnyH_take (i := 2) (oi := { dst := some 163, op := Go.Op.move (Go.Operand.tmp 11), type := 3, pos := _, after := #[], guard := none }) (v := .int .i64 j) rfl (by kernel_rfl) (by kernel_rfl) (by kernel_rfl) (fun _ _ _ h => h) (Or.inl ⟨by rfl, fun w' hw' => ?_⟩) hHeld ?_
                          · first | (go_simp; done) | (go_simp; rfl)
                          try simp only [Act.put, List.setIfInBounds_toArray, List.set_cons_zero, List.set_cons_succ]
                          refine wpAnyH_take (i := 3) (oi := { dst := some 164, op := Go.Op.indexAddr 24 (Go.Operand.tmp 162) (Go.Operand.tmp 163), type := 0, pos := _, after := #[{ on := 1, ground := Go.Ground.data }, { on := 2, ground := Go.Ground.data }], guard := none }) (v := .pointer (some ⟨g, o + j * 37, none⟩)) rfl (by kernel_rfl) (by kernel_rfl) (by kernel_rfl) (fun _ _ _ h => h) (Or.inl ⟨by rfl, fun w' hw' => ?_⟩) hHeld ?_
                          · first | (go_simp; done) | (go_simp; rfl) | (go_simp; intro hbad; omega)
                          try simp only [Act.put, List.setIfInBounds_toArray, List.set_cons_zero, List.set_cons_succ]
                          refine wpAnyH_take (i := 4) (oi := { dst := some 165, op := Go.Op.fieldAddr 35 (Go.Operand.tmp 164) 2, type := 0, pos := _, after := #[{ on := 3, ground := Go.Ground.data }], guard := none }) (v := .pointer (some ⟨g, o + j * 37 + 2, none⟩)) rfl (by kernel_rfl) (by kernel_rfl) (by kernel_rfl) (fun _ _ _ h => h) (Or.inl ⟨by rfl, fun w' hw' => ?_⟩) hHeld ?_
                          · first | (go_simp; done) | (go_simp; rfl)
                          try simp only [Act.put, List.setIfInBounds_toArray, List.set_cons_zero, List.set_cons_succ]
                          refine wpAnyH_take (i := 5) (oi := { dst := some 166, op := Go.Op.fieldAddr 33 (Go.Operand.tmp 165) 2, type := 0, pos := _, after := #[{ on := 4, ground := Go.Ground.data }], guard := none }) (v := .pointer (some ⟨g, o + j * 37 + 2 + 33, none⟩)) rfl (by kernel_rfl) (by kernel_rfl) (by kernel_rfl) (fun _ _ _ h => h) (Or.inl ⟨by rfl, fun w' hw' => ?_⟩) hHeld ?_
                          · first | (go_simp; done) | (go_simp; rfl)
                          try simp only [Act.put, List.setIfInBounds_toArray, List.set_cons_zero, List.set_cons_succ]
                          refine wpAnyH_take (i := 6) (oi := { dst := some 167, op := Go.Op.load 30 (Go.Operand.tmp 166), type := 30, pos := _, after := #[{ on := 5, ground := Go.Ground.data }], guard := none }) (v := .int .i64 dm) rfl (by kernel_rfl) (by kernel_rfl) (by kernel_rfl) (fun _ _ _ h => h) (Or.inl ⟨by rfl, fun w' hw' => ?_⟩) hHeld ?_
                          · have hcc := HCD.out w' hw'; first | (go_simp; done) | (go_simp; rfl)
                          try simp only [Act.put, List.setIfInBounds_toArray, List.set_cons_zero, List.set_cons_succ]
                          refine wpAnyH_take (i := 7) (oi := { dst := some 168, op := Go.Op.move (Go.Operand.tmp 1), type := 24, pos := _, after := #[], guard := none }) (v := .slice (some ⟨g, o, none⟩) ls.length cap) rfl (by kernel_rfl) (by kernel_rfl) (by kernel_rfl) (fun _ _ _ h => h) (Or.inl ⟨by rfl, fun w' hw' => ?_⟩) hHeld ?_
                          · first | (go_simp; done) | (go_simp; rfl)
                          try simp only [Act.put, List.setIfInBounds_toArray, List.set_cons_zero, List.set_cons_succ]
                          refine wpAnyH_take (i := 8) (oi := { dst := some 169, op := Go.Op.move (Go.Operand.tmp 11), type := 3, pos := _, after := #[], guard := none }) (v := .int .i64 j) rfl (by kernel_rfl) (by kernel_rfl) (by kernel_rfl) (fun _ _ _ h => h) (Or.inl ⟨by rfl, fun w' hw' => ?_⟩) hHeld ?_
                          · first | (go_simp; done) | (go_simp; rfl)
                          try simp only [Act.put, List.setIfInBounds_toArray, List.set_cons_zero, List.set_cons_succ]
                          refine wpAnyH_take (i := 9) (oi := { dst := some 170, op := Go.Op.indexAddr 24 (Go.Operand.tmp 168) (Go.Operand.tmp 169), type := 0, pos := _, after := #[{ on := 7, ground := Go.Ground.data }, { on := 8, ground := Go.Ground.data }], guard := none }) (v := .pointer (some ⟨g, o + j * 37, none⟩)) rfl (by kernel_rfl) (by kernel_rfl) (by kernel_rfl) (fun _ _ _ h => h) (Or.inl ⟨by rfl, fun w' hw' => ?_⟩) hHeld ?_
                          · first | (go_simp; done) | (go_simp; rfl) | (go_simp; intro hbad; omega)
                          try simp only [Act.put, List.setIfInBounds_toArray, List.set_cons_zero, List.set_cons_succ]
                          refine wpAnyH_take (i := 10) (oi := { dst := some 171, op := Go.Op.fieldAddr 35 (Go.Operand.tmp 170) 2, type := 0, pos := _, after := #[{ on := 9, ground := Go.Ground.data }], guard := none }) (v := .pointer (some ⟨g, o + j * 37 + 2, none⟩)) rfl (by kernel_rfl) (by kernel_rfl) (by kernel_rfl) (fun _ _ _ h => h) (Or.inl ⟨by rfl, fun w' hw' => ?_⟩) hHeld ?_
                          · first | (go_simp; done) | (go_simp; rfl)
                          try simp only [Act.put, List.setIfInBounds_toArray, List.set_cons_zero, List.set_cons_succ]
                          refine wpAnyH_take (i := 11) (oi := { dst := some 172, op := Go.Op.fieldAddr 33 (Go.Operand.tmp 171) 3, type := 0, pos := _, after := #[{ on := 10, ground := Go.Ground.data }], guard := none }) (v := .pointer (some ⟨g, o + j * 37 + 2 + 34, none⟩)) rfl (by kernel_rfl) (by kernel_rfl) (by kernel_rfl) (fun _ _ _ h => h) (Or.inl ⟨by rfl, fun w' hw' => ?_⟩) hHeld ?_
                          · first | (go_simp; done) | (go_simp; rfl)
                          try simp only [Act.put, List.setIfInBounds_toArray, List.set_cons_zero, List.set_cons_succ]
                          refine wpAnyH_take (i := 12) (oi := { dst := some 173, op := Go.Op.load 31 (Go.Operand.tmp 172), type := 31, pos := _, after := #[{ on := 11, ground := Go.Ground.data }], guard := none }) (v := .slice pd dl cd) rfl (by kernel_rfl) (by kernel_rfl) (by kernel_rfl) (fun _ _ _ h => h) (Or.inl ⟨by rfl, fun w' hw' => ?_⟩) hHeld ?_
                          · have hcc := HCT.out w' hw'; first | (go_simp; done) | (go_simp; rfl)
                          try simp only [Act.put, List.setIfInBounds_toArray, List.set_cons_zero, List.set_cons_succ]
                          refine wpAnyH_ready (rs := [13, 18]) (by kernel_rfl) (by simp) ?_
                          refine AllReadyH.cons (o := { dst := some 174, op := Go.Op.buildSlice 66 1 #[(0, Go.Operand.tmp 173)], type := 66, pos := _, after := #[{ on := 12, ground := Go.Ground.data }], guard := none }) rfl (fun K hK => ?_) (AllReadyH.cons (o := { dst := some 18, op := Go.Op.alloc 23, type := 0, pos := _, after := #[], guard := none }) rfl (fun K hK => ?_) AllReadyH.nil)
                          all_goals rw [if_pos (by rfl)]
                          · skip
                            refine wp_bslice 66 1 _ rfl _ _ (by simp; first | done | rfl) (bs_part W1 _ _ _) ?_
                            have hHP := HHP.out W1 hT.bel
                            have hT' := hT.alloc (.cells #[.slice pd dl cd] 31 (0, 0))
                            generalize (W1.alloc (.cells #[.slice pd dl cd] 31 (0, 0))) = W2 at *
                            have hB' := hT'.bel
                            refine hK.out _ _ hB' (fun _ => ?_)
                            clear hK K
                            try simp only [Act.put, List.setIfInBounds_toArray, List.set_cons_zero, List.set_cons_succ]
                            clear hHeld hT
                            have hHeld := hB'
                            have hT := hT'
                            clear hT' hB'
                            refine wpAnyH_ready (rs := [14, 18]) (by kernel_rfl) (by simp) ?_
                            refine AllReadyH.cons (o := { dst := some 175, op := Go.Op.call { callee := Go.Callee.value (Go.Operand.func 10), args := #[Go.Operand.tmp 161, Go.Operand.tmp 167, Go.Operand.tmp 174], argTypes := #[27, 30, 66] }, type := 37, pos := _, after := #[{ on := 0, ground := Go.Ground.data }, { on := 6, ground := Go.Ground.data }, { on := 13, ground := Go.Ground.data }], guard := none }) rfl (fun K hK => ?_) (AllReadyH.cons (o := { dst := some 18, op := Go.Op.alloc 23, type := 0, pos := _, after := #[], guard := none }) rfl (fun K hK => ?_) AllReadyH.nil)
                            all_goals rw [if_pos (by rfl)]
                            · skip
                              go_wp2_with fail
                              refine Calls.mono (HKY2.out W2 _ _ hT hHP) ?_
                              rintro e W3 ⟨rfl, hT'⟩
                              have hB' := hT'.bel
                              refine hK.out _ _ hB' (fun _ => ?_)
                              clear hK K
                              try simp only [Act.put, List.setIfInBounds_toArray, List.set_cons_zero, List.set_cons_succ]
                              clear hHeld hT
                              have hHeld := hB'
                              have hT := hT'
                              clear hT' hB'
                              refine wpAnyH_take (i := 15) (oi := { dst := some 160, op := Go.Op.move (Go.Operand.tmp 175), type := 37, pos := _, after := #[{ on := 14, ground := Go.Ground.data }], guard := none }) (v := .tuple #[.agg AC.toArray, .int .i64 n]) rfl (by kernel_rfl) (by kernel_rfl) (by kernel_rfl) (fun _ _ _ h => h) (Or.inl ⟨by rfl, fun w' hw' => ?_⟩) hHeld ?_
                              · first | (go_simp; done) | (go_simp; rfl)
                              try simp only [Act.put, List.setIfInBounds_toArray, List.set_cons_zero, List.set_cons_succ]
                              refine wpAnyH_take (i := 16) (oi := { dst := some 176, op := Go.Op.extract (Go.Operand.tmp 160) 0, type := 23, pos := _, after := #[{ on := 15, ground := Go.Ground.data }], guard := none }) (v := .agg AC.toArray) rfl (by kernel_rfl) (by kernel_rfl) (by kernel_rfl) (fun _ _ _ h => h) (Or.inl ⟨by rfl, fun w' hw' => ?_⟩) hHeld ?_
                              · first | (go_simp; done) | (go_simp; rfl)
                              try simp only [Act.put, List.setIfInBounds_toArray, List.set_cons_zero, List.set_cons_succ]
                              refine wpAnyH_take (i := 17) (oi := { dst := some 177, op := Go.Op.extract (Go.Operand.tmp 160) 1, type := 36, pos := _, after := #[{ on := 15, ground := Go.Ground.data }, { on := 19, ground := Go.Ground.gcOnly Go.Departure.lateStores }], guard := none }) (v := .int .i64 n) rfl (by kernel_rfl) (by kernel_rfl) (by kernel_rfl) (fun _ _ _ h => h) (Or.inl ⟨by rfl, fun w' hw' => ?_⟩) hHeld ?_
                              · first | (go_simp; done) | (go_simp; rfl)
                              try simp only [Act.put, List.setIfInBounds_toArray, List.set_cons_zero, List.set_cons_succ]
                              refine wpAnyH_ready (rs := [18]) (by kernel_rfl) (by simp) ?_
                              refine AllReadyH.cons (o := { dst := some 18, op := Go.Op.alloc 23, type := 0, pos := _, after := #[], guard := none }) rfl (fun K hK => ?_) AllReadyH.nil
                              rw [if_pos (by rfl)]
                              go_wp2_with fail
                              have hT' := hT.zrow
                              rw [← HZL.out] at hT'
                              have hgb : w.heap.size ≤ W3.heap.size := hT.bel.size
                              have hne : ∀ r ∈ [(gb, A)], r.1 ≠ W3.heap.size := fun r hr => Nat.ne_of_lt (row_lt (hT.rowAt hr))
                              have hup : Below W3.heap.size W3 (W3.alloc (.cells ZL.toArray 23 (0, 0))) := (Below.refl _ _).alloc (Nat.le_refl _) _
                              generalize (W3.alloc (.cells ZL.toArray 23 (0, 0))) = W4 at *
                              have hB' := hT'.bel
                              refine hK.out _ _ hB' (fun _ => ?_)
                              clear hK K
                              try simp only [Act.put, List.setIfInBounds_toArray, List.set_cons_zero, List.set_cons_succ]
                              clear hHeld hT
                              have hHeld := hB'
                              have hT := hT'
                              clear hT' hB'
                              refine wpAnyH_ready (rs := [19]) (by kernel_rfl) (by simp) ?_
                              refine AllReadyH.cons (o := { dst := none, op := Go.Op.store 23 (Go.Operand.tmp 18) (Go.Operand.tmp 176), type := 0, pos := _, after := #[{ on := 18, ground := Go.Ground.data }, { on := 16, ground := Go.Ground.data }, { on := 14, ground := Go.Ground.chain }, { on := 0, ground := Go.Ground.phase }, { on := 1, ground := Go.Ground.phase }, { on := 2, ground := Go.Ground.phase }, { on := 3, ground := Go.Ground.phase }, { on := 4, ground := Go.Ground.phase }, { on := 5, ground := Go.Ground.phase }, { on := 6, ground := Go.Ground.phase }, { on := 7, ground := Go.Ground.phase }, { on := 8, ground := Go.Ground.phase }, { on := 9, ground := Go.Ground.phase }, { on := 10, ground := Go.Ground.phase }, { on := 11, ground := Go.Ground.phase }, { on := 12, ground := Go.Ground.phase }, { on := 13, ground := Go.Ground.phase }, { on := 14, ground := Go.Ground.phase }, { on := 15, ground := Go.Ground.phase }, { on := 16, ground := Go.Ground.phase }, { on := 17, ground := Go.Ground.textOnly Go.Departure.lateStores }, { on := 18, ground := Go.Ground.phase }], guard := none }) rfl (fun K hK => ?_) AllReadyH.nil
                              rw [if_pos (by rfl)]
                              refine wp_store_row 23 _ _ rfl W3.heap.size AC.toArray rfl rfl 23 _ (hT.rowAt (r := (W3.heap.size, List.replicate 32 0)) (by simp)) (info32a _ HAN.out) (by rw [HAN.out]; simp) HA1.out ?_
                              have hT2 := hT.setrow (A := A) hgb hne
                              rw [HAC.out] at hT2
                              have hB2 := hT2.bel
                              refine hK.out _ _ hB2 (fun _ => ?_)
                              clear hK K
                              try simp only [Act.put, List.setIfInBounds_toArray, List.set_cons_zero, List.set_cons_succ]
                              clear hHeld
                              have hHeld := hB2
                              refine wpAnyH_ready (rs := [20]) (by kernel_rfl) (by simp) ?_
                              refine AllReadyH.cons (o := { dst := some 19, op := Go.Op.assign (Go.Operand.tmp 177), type := 36, pos := _, after := #[{ on := 17, ground := Go.Ground.data }, { on := 19, ground := Go.Ground.chain }, { on := 0, ground := Go.Ground.phase }, { on := 1, ground := Go.Ground.phase }, { on := 2, ground := Go.Ground.phase }, { on := 3, ground := Go.Ground.phase }, { on := 4, ground := Go.Ground.phase }, { on := 5, ground := Go.Ground.phase }, { on := 6, ground := Go.Ground.phase }, { on := 7, ground := Go.Ground.phase }, { on := 8, ground := Go.Ground.phase }, { on := 9, ground := Go.Ground.phase }, { on := 10, ground := Go.Ground.phase }, { on := 11, ground := Go.Ground.phase }, { on := 12, ground := Go.Ground.phase }, { on := 13, ground := Go.Ground.phase }, { on := 14, ground := Go.Ground.phase }, { on := 15, ground := Go.Ground.phase }, { on := 16, ground := Go.Ground.phase }, { on := 17, ground := Go.Ground.phase }, { on := 18, ground := Go.Ground.phase }, { on := 19, ground := Go.Ground.phase }], guard := none }) rfl (fun K hK => ?_) AllReadyH.nil
                              rw [if_pos (by rfl)]
                              go_wp2_with fail
                              refine hK.out _ _ hB2 (fun _ => ?_)
                              clear hK K
                              try simp only [Act.put, List.setIfInBounds_toArray, List.set_cons_zero, List.set_cons_succ]
                              refine wpAnyH_done (by kernel_rfl) ?_ _
                              go_wp2_with fail
                              go_meet
                              case rel => exact ⟨_, rfl, rfl, hT2⟩
                            · skip
                              go_wp2_with fail
                              have hT' := hT.zrow
                              rw [← HZL.out] at hT'
                              have hgb : w.heap.size ≤ W2.heap.size := hT.bel.size
                              have hne : ∀ r ∈ [(gb, A)], r.1 ≠ W2.heap.size := fun r hr => Nat.ne_of_lt (row_lt (hT.rowAt hr))
                              have hup : Below W2.heap.size W2 (W2.alloc (.cells ZL.toArray 23 (0, 0))) := (Below.refl _ _).alloc (Nat.le_refl _) _
                              generalize (W2.alloc (.cells ZL.toArray 23 (0, 0))) = W3 at *
                              have hB' := hT'.bel
                              refine hK.out _ _ hB' (fun _ => ?_)
                              clear hK K
                              try simp only [Act.put, List.setIfInBounds_toArray, List.set_cons_zero, List.set_cons_succ]
                              clear hHeld hT
                              have hHeld := hB'
                              have hT := hT'
                              clear hT' hB'
                              have hHP := hp_below hHP hup
                              refine wpAnyH_ready (rs := [14]) (by kernel_rfl) (by simp) ?_
                              refine AllReadyH.cons (o := { dst := some 175, op := Go.Op.call { callee := Go.Callee.value (Go.Operand.func 10), args := #[Go.Operand.tmp 161, Go.Operand.tmp 167, Go.Operand.tmp 174], argTypes := #[27, 30, 66] }, type := 37, pos := _, after := #[{ on := 0, ground := Go.Ground.data }, { on := 6, ground := Go.Ground.data }, { on := 13, ground := Go.Ground.data }], guard := none }) rfl (fun K hK => ?_) AllReadyH.nil
                              rw [if_pos (by rfl)]
                              go_wp2_with fail
                              refine Calls.mono (HKY2.out W3 _ _ hT hHP) ?_
                              rintro e W4 ⟨rfl, hT'⟩
                              have hB' := hT'.bel
                              refine hK.out _ _ hB' (fun _ => ?_)
                              clear hK K
                              try simp only [Act.put, List.setIfInBounds_toArray, List.set_cons_zero, List.set_cons_succ]
                              clear hHeld hT
                              have hHeld := hB'
                              have hT := hT'
                              clear hT' hB'
                              refine wpAnyH_take (i := 15) (oi := { dst := some 160, op := Go.Op.move (Go.Operand.tmp 175), type := 37, pos := _, after := #[{ on := 14, ground := Go.Ground.data }], guard := none }) (v := .tuple #[.agg AC.toArray, .int .i64 n]) rfl (by kernel_rfl) (by kernel_rfl) (by kernel_rfl) (fun _ _ _ h => h) (Or.inl ⟨by rfl, fun w' hw' => ?_⟩) hHeld ?_
                              · first | (go_simp; done) | (go_simp; rfl)
                              try simp only [Act.put, List.setIfInBounds_toArray, List.set_cons_zero, List.set_cons_succ]
                              refine wpAnyH_take (i := 16) (oi := { dst := some 176, op := Go.Op.extract (Go.Operand.tmp 160) 0, type := 23, pos := _, after := #[{ on := 15, ground := Go.Ground.data }], guard := none }) (v := .agg AC.toArray) rfl (by kernel_rfl) (by kernel_rfl) (by kernel_rfl) (fun _ _ _ h => h) (Or.inl ⟨by rfl, fun w' hw' => ?_⟩) hHeld ?_
                              · first | (go_simp; done) | (go_simp; rfl)
                              try simp only [Act.put, List.setIfInBounds_toArray, List.set_cons_zero, List.set_cons_succ]
                              refine wpAnyH_take (i := 17) (oi := { dst := some 177, op := Go.Op.extract (Go.Operand.tmp 160) 1, type := 36, pos := _, after := #[{ on := 15, ground := Go.Ground.data }, { on := 19, ground := Go.Ground.gcOnly Go.Departure.lateStores }], guard := none }) (v := .int .i64 n) rfl (by kernel_rfl) (by kernel_rfl) (by kernel_rfl) (fun _ _ _ h => h) (Or.inl ⟨by rfl, fun w' hw' => ?_⟩) hHeld ?_
                              · first | (go_simp; done) | (go_simp; rfl)
                              try simp only [Act.put, List.setIfInBounds_toArray, List.set_cons_zero, List.set_cons_succ]
                              refine wpAnyH_ready (rs := [19]) (by kernel_rfl) (by simp) ?_
                              refine AllReadyH.cons (o := { dst := none, op := Go.Op.store 23 (Go.Operand.tmp 18) (Go.Operand.tmp 176), type := 0, pos := _, after := #[{ on := 18, ground := Go.Ground.data }, { on := 16, ground := Go.Ground.data }, { on := 14, ground := Go.Ground.chain }, { on := 0, ground := Go.Ground.phase }, { on := 1, ground := Go.Ground.phase }, { on := 2, ground := Go.Ground.phase }, { on := 3, ground := Go.Ground.phase }, { on := 4, ground := Go.Ground.phase }, { on := 5, ground := Go.Ground.phase }, { on := 6, ground := Go.Ground.phase }, { on := 7, ground := Go.Ground.phase }, { on := 8, ground := Go.Ground.phase }, { on := 9, ground := Go.Ground.phase }, { on := 10, ground := Go.Ground.phase }, { on := 11, ground := Go.Ground.phase }, { on := 12, ground := Go.Ground.phase }, { on := 13, ground := Go.Ground.phase }, { on := 14, ground := Go.Ground.phase }, { on := 15, ground := Go.Ground.phase }, { on := 16, ground := Go.Ground.phase }, { on := 17, ground := Go.Ground.textOnly Go.Departure.lateStores }, { on := 18, ground := Go.Ground.phase }], guard := none }) rfl (fun K hK => ?_) AllReadyH.nil
                              rw [if_pos (by rfl)]
                              refine wp_store_row 23 _ _ rfl W2.heap.size AC.toArray rfl rfl 23 _ (hT.rowAt (r := (W2.heap.size, List.replicate 32 0)) (by simp)) (info32a _ HAN.out) (by rw [HAN.out]; simp) HA1.out ?_
                              have hT2 := hT.setrow (A := A) hgb hne
                              rw [HAC.out] at hT2
                              have hB2 := hT2.bel
                              refine hK.out _ _ hB2 (fun _ => ?_)
                              clear hK K
                              try simp only [Act.put, List.setIfInBounds_toArray, List.set_cons_zero, List.set_cons_succ]
                              clear hHeld
                              have hHeld := hB2
                              refine wpAnyH_ready (rs := [20]) (by kernel_rfl) (by simp) ?_
                              refine AllReadyH.cons (o := { dst := some 19, op := Go.Op.assign (Go.Operand.tmp 177), type := 36, pos := _, after := #[{ on := 17, ground := Go.Ground.data }, { on := 19, ground := Go.Ground.chain }, { on := 0, ground := Go.Ground.phase }, { on := 1, ground := Go.Ground.phase }, { on := 2, ground := Go.Ground.phase }, { on := 3, ground := Go.Ground.phase }, { on := 4, ground := Go.Ground.phase }, { on := 5, ground := Go.Ground.phase }, { on := 6, ground := Go.Ground.phase }, { on := 7, ground := Go.Ground.phase }, { on := 8, ground := Go.Ground.phase }, { on := 9, ground := Go.Ground.phase }, { on := 10, ground := Go.Ground.phase }, { on := 11, ground := Go.Ground.phase }, { on := 12, ground := Go.Ground.phase }, { on := 13, ground := Go.Ground.phase }, { on := 14, ground := Go.Ground.phase }, { on := 15, ground := Go.Ground.phase }, { on := 16, ground := Go.Ground.phase }, { on := 17, ground := Go.Ground.phase }, { on := 18, ground := Go.Ground.phase }, { on := 19, ground := Go.Ground.phase }], guard := none }) rfl (fun K hK => ?_) AllReadyH.nil
                              rw [if_pos (by rfl)]
                              go_wp2_with fail
                              refine hK.out _ _ hB2 (fun _ => ?_)
                              clear hK K
                              try simp only [Act.put, List.setIfInBounds_toArray, List.set_cons_zero, List.set_cons_succ]
                              refine wpAnyH_done (by kernel_rfl) ?_ _
                              go_wp2_with fail
                              go_meet
                              case rel => exact ⟨_, rfl, rfl, hT2⟩
                          · skip
                            go_wp2_with fail
                            have hT' := hT.zrow
                            rw [← HZL.out] at hT'
                            have hgb : w.heap.size ≤ W1.heap.size := hT.bel.size
                            have hne : ∀ r ∈ [(gb, A)], r.1 ≠ W1.heap.size := fun r hr => Nat.ne_of_lt (row_lt (hT.rowAt hr))
                            have hup : Below W1.heap.size W1 (W1.alloc (.cells ZL.toArray 23 (0, 0))) := (Below.refl _ _).alloc (Nat.le_refl _) _
                            generalize (W1.alloc (.cells ZL.toArray 23 (0, 0))) = W2 at *
                            have hB' := hT'.bel
                            refine hK.out _ _ hB' (fun _ => ?_)
                            clear hK K
                            try simp only [Act.put, List.setIfInBounds_toArray, List.set_cons_zero, List.set_cons_succ]
                            clear hHeld hT
                            have hHeld := hB'
                            have hT := hT'
                            clear hT' hB'
                            refine wpAnyH_ready (rs := [13]) (by kernel_rfl) (by simp) ?_
                            refine AllReadyH.cons (o := { dst := some 174, op := Go.Op.buildSlice 66 1 #[(0, Go.Operand.tmp 173)], type := 66, pos := _, after := #[{ on := 12, ground := Go.Ground.data }], guard := none }) rfl (fun K hK => ?_) AllReadyH.nil
                            rw [if_pos (by rfl)]
                            refine wp_bslice 66 1 _ rfl _ _ (by simp; first | done | rfl) (bs_part W2 _ _ _) ?_
                            have hHP := HHP.out W2 hT.bel
                            have hT' := hT.alloc (.cells #[.slice pd dl cd] 31 (0, 0))
                            generalize (W2.alloc (.cells #[.slice pd dl cd] 31 (0, 0))) = W3 at *
                            have hB' := hT'.bel
                            refine hK.out _ _ hB' (fun _ => ?_)
                            clear hK K
                            try simp only [Act.put, List.setIfInBounds_toArray, List.set_cons_zero, List.set_cons_succ]
                            clear hHeld hT
                            have hHeld := hB'
                            have hT := hT'
                            clear hT' hB'
                            refine wpAnyH_ready (rs := [14]) (by kernel_rfl) (by simp) ?_
                            refine AllReadyH.cons (o := { dst := some 175, op := Go.Op.call { callee := Go.Callee.value (Go.Operand.func 10), args := #[Go.Operand.tmp 161, Go.Operand.tmp 167, Go.Operand.tmp 174], argTypes := #[27, 30, 66] }, type := 37, pos := _, after := #[{ on := 0, ground := Go.Ground.data }, { on := 6, ground := Go.Ground.data }, { on := 13, ground := Go.Ground.data }], guard := none }) rfl (fun K hK => ?_) AllReadyH.nil
                            rw [if_pos (by rfl)]
                            go_wp2_with fail
                            refine Calls.mono (HKY2.out W3 _ _ hT hHP) ?_
                            rintro e W4 ⟨rfl, hT'⟩
                            have hB' := hT'.bel
                            refine hK.out _ _ hB' (fun _ => ?_)
                            clear hK K
                            try simp only [Act.put, List.setIfInBounds_toArray, List.set_cons_zero, List.set_cons_succ]
                            clear hHeld hT
                            have hHeld := hB'
                            have hT := hT'
                            clear hT' hB'
                            refine wpAnyH_take (i := 15) (oi := { dst := some 160, op := Go.Op.move (Go.Operand.tmp 175), type := 37, pos := _, after := #[{ on := 14, ground := Go.Ground.data }], guard := none }) (v := .tuple #[.agg AC.toArray, .int .i64 n]) rfl (by kernel_rfl) (by kernel_rfl) (by kernel_rfl) (fun _ _ _ h => h) (Or.inl ⟨by rfl, fun w' hw' => ?_⟩) hHeld ?_
                            · first | (go_simp; done) | (go_simp; rfl)
                            try simp only [Act.put, List.setIfInBounds_toArray, List.set_cons_zero, List.set_cons_succ]
                            refine wpAnyH_take (i := 16) (oi := { dst := some 176, op := Go.Op.extract (Go.Operand.tmp 160) 0, type := 23, pos := _, after := #[{ on := 15, ground := Go.Ground.data }], guard := none }) (v := .agg AC.toArray) rfl (by kernel_rfl) (by kernel_rfl) (by kernel_rfl) (fun _ _ _ h => h) (Or.inl ⟨by rfl, fun w' hw' => ?_⟩) hHeld ?_
                            · first | (go_simp; done) | (go_simp; rfl)
                            try simp only [Act.put, List.setIfInBounds_toArray, List.set_cons_zero, List.set_cons_succ]
                            refine wpAnyH_take (i := 17) (oi := { dst := some 177, op := Go.Op.extract (Go.Operand.tmp 160) 1, type := 36, pos := _, after := #[{ on := 15, ground := Go.Ground.data }, { on := 19, ground := Go.Ground.gcOnly Go.Departure.lateStores }], guard := none }) (v := .int .i64 n) rfl (by kernel_rfl) (by kernel_rfl) (by kernel_rfl) (fun _ _ _ h => h) (Or.inl ⟨by rfl, fun w' hw' => ?_⟩) hHeld ?_
                            · first | (go_simp; done) | (go_simp; rfl)
                            try simp only [Act.put, List.setIfInBounds_toArray, List.set_cons_zero, List.set_cons_succ]
                            refine wpAnyH_ready (rs := [19]) (by kernel_rfl) (by simp) ?_
                            refine AllReadyH.cons (o := { dst := none, op := Go.Op.store 23 (Go.Operand.tmp 18) (Go.Operand.tmp 176), type := 0, pos := _, after := #[{ on := 18, ground := Go.Ground.data }, { on := 16, ground := Go.Ground.data }, { on := 14, ground := Go.Ground.chain }, { on := 0, ground := Go.Ground.phase }, { on := 1, ground := Go.Ground.phase }, { on := 2, ground := Go.Ground.phase }, { on := 3, ground := Go.Ground.phase }, { on := 4, ground := Go.Ground.phase }, { on := 5, ground := Go.Ground.phase }, { on := 6, ground := Go.Ground.phase }, { on := 7, ground := Go.Ground.phase }, { on := 8, ground := Go.Ground.phase }, { on := 9, ground := Go.Ground.phase }, { on := 10, ground := Go.Ground.phase }, { on := 11, ground := Go.Ground.phase }, { on := 12, ground := Go.Ground.phase }, { on := 13, ground := Go.Ground.phase }, { on := 14, ground := Go.Ground.phase }, { on := 15, ground := Go.Ground.phase }, { on := 16, ground := Go.Ground.phase }, { on := 17, ground := Go.Ground.textOnly Go.Departure.lateStores }, { on := 18, ground := Go.Ground.phase }], guard := none }) rfl (fun K hK => ?_) AllReadyH.nil
                            rw [if_pos (by rfl)]
                            refine wp_store_row 23 _ _ rfl W1.heap.size AC.toArray rfl rfl 23 _ (hT.rowAt (r := (W1.heap.size, List.replicate 32 0)) (by simp)) (info32a _ HAN.out) (by rw [HAN.out]; simp) HA1.out ?_
                            have hT2 := hT.setrow (A := A) hgb hne
                            rw [HAC.out] at hT2
                            have hB2 := hT2.bel
                            refine hK.out _ _ hB2 (fun _ => ?_)
                            clear hK K
                            try simp only [Act.put, List.setIfInBounds_toArray, List.set_cons_zero, List.set_cons_succ]
                            clear hHeld
                            have hHeld := hB2
                            refine wpAnyH_ready (rs := [20]) (by kernel_rfl) (by simp) ?_
                            refine AllReadyH.cons (o := { dst := some 19, op := Go.Op.assign (Go.Operand.tmp 177), type := 36, pos := _, after := #[{ on := 17, ground := Go.Ground.data }, { on := 19, ground := Go.Ground.chain }, { on := 0, ground := Go.Ground.phase }, { on := 1, ground := Go.Ground.phase }, { on := 2, ground := Go.Ground.phase }, { on := 3, ground := Go.Ground.phase }, { on := 4, ground := Go.Ground.phase }, { on := 5, ground := Go.Ground.phase }, { on := 6, ground := Go.Ground.phase }, { on := 7, ground := Go.Ground.phase }, { on := 8, ground := Go.Ground.phase }, { on := 9, ground := Go.Ground.phase }, { on := 10, ground := Go.Ground.phase }, { on := 11, ground := Go.Ground.phase }, { on := 12, ground := Go.Ground.phase }, { on := 13, ground := Go.Ground.phase }, { on := 14, ground := Go.Ground.phase }, { on := 15, ground := Go.Ground.phase }, { on := 16, ground := Go.Ground.phase }, { on := 17, ground := Go.Ground.phase }, { on := 18, ground := Go.Ground.phase }, { on := 19, ground := Go.Ground.phase }], guard := none }) rfl (fun K hK => ?_) AllReadyH.nil
                            rw [if_pos (by rfl)]
                            go_wp2_with fail
                            refine hK.out _ _ hB2 (fun _ => ?_)
                            clear hK K
                            try simp only [Act.put, List.setIfInBounds_toArray, List.set_cons_zero, List.set_cons_succ]
                            refine wpAnyH_done (by kernel_rfl) ?_ _
                            go_wp2_with fail
                            go_meet
                            case rel => exact ⟨_, rfl, rfl, hT2⟩
                        case rest =>
                          obtain ⟨gc, rfl, rfl, hT2⟩ := hcut
                          have HR3 : Hid (wc.rangeAt gb 0 AC) := by rw [← HAC.out]; exact hT2.row (r := (gb, A)) (by simp)
                          have HR4 : Hid (wc.rangeAt gc 0 AC) := by rw [← HAC.out]; exact hT2.row (r := (gc, A)) (by simp)
                          have HTE : Hid _ := hT2
                          clear hT2 HSB HTD
                          go_wp2_with (first
                            | (refine wpList_load_mid rfl 23 (.tmp 16) rfl gb 0 rfl AC _ HR3.out Try.underlying23 rfl HAI.out ?_)
                            | (refine wpList_load_mid rfl 23 (.tmp 18) rfl gc 0 rfl AC _ HR4.out Try.underlying23 rfl HAI.out ?_))
                          go_roundw
                          case rel => exact ⟨j + 1, by omega, by go_num, HTE.out.forget⟩
                          case measure => simp [intOf]; omega
                    · have k5b : (a.kind == 5) = false := by simpa using k5
                      have HSN : Hid _ := brS_snoc m ⟨true, m, L.map (·.2), []⟩ ls j a ha
                      have HNX : Hid _ := brN_0 (m := m) (o := brS m ⟨true, m, L.map (·.2), []⟩ (ls.take j)) k1 k5
                      clear ha
                      go_wp2
                      go_roundw
                      case rel => exact ⟨j + 1, by omega, by go_num, by rw [HSN.out, HNX.out]; exact HT.out⟩
                      case measure => simp [intOf]; omega
                · have hke : j = ls.length := by omega
                  subst hke
                  have hkI : ¬ (ls.length : Int) < (ls.length : Int) := by omega
                  obtain ⟨LB, hLB⟩ : ∃ l, l = (brS m ⟨true, m, L.map (·.2), []⟩ (ls.take ls.length)).log := ⟨_, rfl⟩
                  have HLB : Hid (LB = L) := by
                    show _ = _
                    rw [hLB, (bridge m ls L HL.out).1 ls.length (Nat.le_refl _), List.take_length, ← HL.out]
                  have HLG : Hid _ := HT.out.swap.logU (by rw [← hLB, HLB.out]; have := HLN.out; omega)
                  rw [← hLB, HLB.out] at HLG
                  have HSL : Hid (∀ X Y v, LogEnd X L (.returned v) Y → Below wr.heap.size wr X → X = wr → Calls Try.prog 12 #[v, .slice lp k lcap] Y fun e w' => e = .returned (.bool true) ∧ Below Y.heap.size Y w') := fun X Y v hE _ hX => by
                    obtain ⟨v', ds, e1, hlo, hb⟩ := hE
                    subst hX
                    have ev : v = v' := by simpa using e1
                    subst ev
                    have hs := sameLog_any v (.slice lp k lcap) L L Y (by have := HLN.out; omega) (by have := HLN.out; omega) (hlr_of hlo.hlg) (HPP.out Y (HT.out.step hb).low)
                    rw [show decide (L = L) = true by simp] at hs
                    exact hs
                  clear hLB HLB HT
                  go_wp2_with (first
                    | (go_at_call 11; refine Calls.mono HLG.out ?_; rintro e Y1 hE; have hE' := hE; obtain ⟨v1, ds1, rfl, hlo1, hb1⟩ := hE'; have HS1 : Hid _ := HSL.out wr Y1 v1 hE (Below.refl _ _) rfl; have HB1 : Hid (Below w.heap.size w Y1) := HBE.out.trans (hb1.mono HBE.out.size); clear hE hlo1 hb1)
                    | (go_at_call 12; refine Calls.mono HS1.out ?_; rintro e Y2 ⟨rfl, hb2⟩; have HB2 : Hid (Below w.heap.size w Y2) := HB1.out.trans (hb2.mono HB1.out.size); clear hb2)
                    | (go_at_call 7; refine (known_any _).mono ?_; rintro e wk ⟨rfl, hbk⟩))
                  go_ret
                  exact ⟨rfl, HB2.out.trans (hbk.mono HB2.out.size)⟩
end Go.Proofs.Ytefhjjjjbkkedaa.R5.oracleBridge
