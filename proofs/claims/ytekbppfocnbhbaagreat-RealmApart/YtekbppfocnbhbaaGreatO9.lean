import Derived.Test.YtekbppfocnbhbaaGreatQC
set_option linter.unusedVariables false
set_option linter.unusedSimpArgs false
set_option maxHeartbeats 16000000
set_option maxRecDepth 100000
namespace Go.Proofs.YtekbppfocnbhbaaGreat.R5
open scoped Classical
open Go.RowKit
def HLr (w : World) (v : Value) (l : List (Qn × List UInt8)) : Prop :=
  ∃ p cap, v = .slice p l.length cap ∧ ∀ i e, l[i]? = some e → e.1.key.length = 32 ∧ e.2.length = 32 ∧ ∃ g o d, p = some ⟨g, o, none⟩ ∧ w.rangeAt g (o + i * 67) (qL e.1 d) ∧ w.rangeAt g (o + i * 67 + 35) (e.2.map B8) ∧ HB w d e.1.data
theorem ret_bool' {a b : Bool} (h : a = b) : Ending.returned (.bool a) = .returned (.bool b) := by rw [h]
theorem hlr_of {B : Nat} {w : World} {v : Value} {l : List (Qn × List UInt8)} {lds : List Value} (h : HLg B w v l lds) : HLr w v l := by
  obtain ⟨p, cap, e1, hr⟩ := hlg_form h
  refine ⟨p, cap, e1, fun i e he => ?_⟩
  have hi : i < l.length := (List.getElem?_eq_some_iff.1 he).1
  obtain ⟨d, hd⟩ : ∃ d, lds[i]? = some d := ⟨_, List.getElem?_eq_getElem (by rw [h.2.1]; exact hi)⟩
  have hk := h.1 e (List.mem_of_getElem? he)
  obtain ⟨g, h1, h2, h3, h4⟩ := hr i e _ he hd
  exact ⟨hk.1, hk.2, g, 0, d, h1, by rw [Nat.zero_add]; exact h3, by rw [Nat.zero_add]; exact h4, h.2.2.2 i e _ he hd⟩
theorem hlr_below {w w' : World} {v : Value} {l : List (Qn × List UInt8)} (h : HLr w v l) (hb : Below w.heap.size w w') : HLr w' v l := by
  obtain ⟨p, cap, e1, hr⟩ := h
  refine ⟨p, cap, e1, fun i e he => ?_⟩
  obtain ⟨h1, h2, g, o, d, h3, h4, h5, h6⟩ := hr i e he
  exact ⟨h1, h2, g, o, d, h3, rangeAt_below h4 hb, rangeAt_below h5 hb, h6.below hb⟩
theorem sameLog_any (va vb : Value) (la lb : List (Qn × List UInt8)) (w : World) (hla : la.length < 1000000) (hlb : lb.length < 1000000) (ha : HLr w va la) (hb : HLr w vb lb) :
    Calls Tryz.prog 41 #[va, vb] w fun e w' => e = .returned (.bool (decide (la = lb))) ∧ Below w.heap.size w w' := by
  obtain ⟨pa, ca, rfl, hra⟩ := ha
  obtain ⟨pb, cb, rfl, hrb⟩ := hb
  have HRA : Hid _ := hra
  have HRB : Hid _ := hrb
  clear hra hrb
  by_cases hl : la.length = lb.length
  · have hq : ((la.length : Int) != (lb.length : Int)) = false := by rw [bne_eq_false_iff_eq]; omega
    have HLN : Hid _ := hl
    rw [← hl]
    rw [← hl] at hq
    clear hl
    obtain ⟨N, hN⟩ : ∃ N, N = la.length := ⟨_, rfl⟩
    rw [← hN] at hq hla ⊢
    have HN : Hid _ := hN
    clear hN hq
    go_enter Tryz.func41, Tryz.ntmps41
    go_wp2
    go_loopw [5] (fun i wr => ∃ k : Nat, k ≤ N ∧ i = .int .i64 k ∧ la.take k = lb.take k ∧ Below w.heap.size w wr) (fun i _ => N - (intOf i).toNat)
    case atStart => exact ⟨0, Nat.zero_le _, rfl, by simp, Below.refl _ _⟩
    case round =>
      obtain ⟨k, hk, rfl, hek, hb⟩ := hrel
      have HEK : Hid _ := hek
      clear hek
      by_cases hlt : k < N
      · have hkI : (k : Int) < (N : Int) := by omega
        have h1 : k < la.length := by rw [← HN.out]; exact hlt
        have h2 : k < lb.length := by rw [← HLN.out]; exact h1
        have hA := List.getElem?_eq_getElem h1
        have hBb := List.getElem?_eq_getElem h2
        have hta : la.take (k + 1) = la.take k ++ [la[k]] := List.take_succ_eq_append_getElem h1
        have htb : lb.take (k + 1) = lb.take k ++ [lb[k]] := List.take_succ_eq_append_getElem h2
        have hstep : la[k] = lb[k] → la.take (k + 1) = lb.take (k + 1) := fun h => by rw [hta, htb, HEK.out, h]
        have hbad : la[k] ≠ lb[k] → la ≠ lb := fun h e => h (by subst e; rfl)
        generalize la[k] = ea at *
        generalize lb[k] = eb at *
        obtain ⟨ka, kb', ga, oa, da, hpa, ra1, ra2, ra3⟩ := HRA.out k ea hA
        obtain ⟨ja, jb', gb, ob, db, hpb, rb1, rb2, rb3⟩ := HRB.out k eb hBb
        subst hpa hpb
        obtain ⟨a1, a2⟩ := ea
        obtain ⟨b1, b2⟩ := eb
        simp only at *
        have HA : Hid (HQ w (.agg (qL a1 da).toArray) a1) := ⟨ka, da, rfl, ra3⟩
        have HB' : Hid (HQ w (.agg (qL b1 db).toArray) b1) := ⟨ja, db, rfl, rb3⟩
        have HIA : Hid _ := info35 (qL a1 da) (qL_len a1 da ka)
        have HIB : Hid _ := info35 (qL b1 db) (qL_len b1 db ja)
        have HI2 : Hid _ := info32 (a2.map B8) (by rw [List.length_map]; exact kb')
        have HJ2 : Hid _ := info32 (b2.map B8) (by rw [List.length_map]; exact jb')
        have HEQ : Hid (∀ W, (Op.equalIn 10000 33 (.agg (a2.map B8).toArray) (.agg (b2.map B8).toArray)).run Tryz.prog W = .ok (a2 == b2) W) := fun W => run_equalIn_bytes W 9998 33 5 32 Tryz.underlying33 Tryz.underlying5 size_u8 a2 b2 kb' jb'
        have HRa1 : Hid _ := ra1
        have HRa2 : Hid _ := ra2
        have HRb1 : Hid _ := rb1
        have HRb2 : Hid _ := rb2
        have HST : Hid _ := hstep
        have HBD : Hid _ := hbad
        have HUQ : Hid _ := Tryz.underlying138
        have HUD : Hid _ := Tryz.underlying33
        have HBd : Hid (Below w.heap.size w wr.drew) := hb.drew
        clear hstep hbad hta htb hA hBb ra1 ra2 ra3 rb1 rb2 rb3 h1 h2 HRA HRB ka ja kb' jb' hb
        generalize qL a1 da = QA at *
        generalize qL b1 db = QB at *
        by_cases hq1 : a1 = b1
        · have HD : Hid (decide (a1 = b1) = true) := decide_eq_true hq1
          have HQE : Hid _ := hq1
          clear hq1
          by_cases hq2 : a2 = b2
          · have HR : Hid ((a2 == b2) = true) := by show _ = _; simp [hq2]
            have HT : Hid (la.take (k + 1) = lb.take (k + 1)) := HST.out (by rw [HQE.out, hq2])
            clear hq2
            rw [HR.out] at HEQ
            go_wp2
            refine wp_region_held_drew (S := fun w' => Below w.heap.size w w') (by kernel_rfl) HBd.out (fun hHeld => ?_)
            generalize wr.drew = W at *
            refine qzI 0 ⟨some 17, .move (.tmp 0), 92, _, #[], none⟩ (.slice (some ⟨ga, oa, none⟩) N ca) rfl (by kernel_rfl) (fun _ _ _ h => h) (by rfl) (fun w' hw' => ?_) hHeld ?_
            · go_simp <;> rfl
            try simp only [Act.put, qT, q0, qS]
            refine qzI 1 ⟨some 18, .move (.tmp 5), 3, _, #[], none⟩ (.int .i64 (k : Int)) rfl (by kernel_rfl) (fun _ _ _ h => h) (by rfl) (fun w' hw' => ?_) hHeld ?_
            · go_simp <;> rfl
            try simp only [Act.put, qT, q0, qS]
            refine qzI 2 ⟨some 19, .indexAddr 92 (.tmp 17) (.tmp 18), 0, _, #[⟨0, .data⟩, ⟨1, .data⟩], none⟩ (.pointer (some ⟨ga, oa + k * 67, none⟩)) rfl (by kernel_rfl) (fun _ _ _ h => h) (by rfl) (fun w' hw' => ?_) hHeld ?_
            · go_simp <;> rfl
            try simp only [Act.put, qT, q0, qS]
            refine qzI 3 ⟨some 20, .fieldAddr 140 (.tmp 19) 0, 0, _, #[⟨2, .data⟩], none⟩ (.pointer (some ⟨ga, oa + k * 67, none⟩)) rfl (by kernel_rfl) (fun _ _ _ h => h) (by rfl) (fun w' hw' => ?_) hHeld ?_
            · go_simp <;> rfl
            try simp only [Act.put, qT, q0, qS]
            refine qzK 4 ⟨some 21, .load 138 (.tmp 20), 138, _, #[⟨3, .data⟩], none⟩ _ rfl (by kernel_rfl) (fun _ _ _ h => h) (yieldsIf_load_mid (by rfl) 138 (.tmp 20) rfl (ga) (oa + k * 67) rfl (QA) _ (fun _ h => rangeAt_below HRa1.out h) HUQ.out rfl HIA.out) hHeld ?_
            try simp only [Act.put, qT, q0, qS]
            refine qzI 5 ⟨some 22, .move (.tmp 1), 92, _, #[], none⟩ (.slice (some ⟨gb, ob, none⟩) N cb) rfl (by kernel_rfl) (fun _ _ _ h => h) (by rfl) (fun w' hw' => ?_) hHeld ?_
            · go_simp <;> rfl
            try simp only [Act.put, qT, q0, qS]
            refine qzI 6 ⟨some 23, .move (.tmp 5), 3, _, #[], none⟩ (.int .i64 (k : Int)) rfl (by kernel_rfl) (fun _ _ _ h => h) (by rfl) (fun w' hw' => ?_) hHeld ?_
            · go_simp <;> rfl
            try simp only [Act.put, qT, q0, qS]
            refine qzI 7 ⟨some 24, .indexAddr 92 (.tmp 22) (.tmp 23), 0, _, #[⟨5, .data⟩, ⟨6, .data⟩], none⟩ (.pointer (some ⟨gb, ob + k * 67, none⟩)) rfl (by kernel_rfl) (fun _ _ _ h => h) (by rfl) (fun w' hw' => ?_) hHeld ?_
            · go_simp <;> rfl
            try simp only [Act.put, qT, q0, qS]
            refine qzI 8 ⟨some 25, .fieldAddr 140 (.tmp 24) 0, 0, _, #[⟨7, .data⟩], none⟩ (.pointer (some ⟨gb, ob + k * 67, none⟩)) rfl (by kernel_rfl) (fun _ _ _ h => h) (by rfl) (fun w' hw' => ?_) hHeld ?_
            · go_simp <;> rfl
            try simp only [Act.put, qT, q0, qS]
            refine qzK 9 ⟨some 26, .load 138 (.tmp 25), 138, _, #[⟨8, .data⟩], none⟩ _ rfl (by kernel_rfl) (fun _ _ _ h => h) (yieldsIf_load_mid (by rfl) 138 (.tmp 25) rfl (gb) (ob + k * 67) rfl (QB) _ (fun _ h => rangeAt_below HRb1.out h) HUQ.out rfl HIB.out) hHeld ?_
            try simp only [Act.put, qT, q0, qS]
            refine qzR 10 ⟨some 27, .call ⟨.value (.func 75), #[.tmp 21, .tmp 26], #[138, 138]⟩, 4, _, #[⟨4, .data⟩, ⟨9, .data⟩], none⟩ (by kernel_rfl) rfl (by rfl) (fun K hK => ?_)
            go_wp2_with fail
            refine (qsame_any (.agg QA.toArray) (.agg QB.toArray) a1 b1 _ (hq_below HA.out hHeld) (hq_below HB'.out hHeld)).mono ?_
            rintro ex W2 ⟨rfl, hb2⟩
            rw [HD.out]
            have hHeld2 : Below w.heap.size w W2 := hHeld.trans (hb2.mono hHeld.size)
            clear hb2
            refine hK.out _ _ hHeld2 (fun _ => ?_)
            clear hK K
            try simp only [Act.put, qT, q0, qS]
            have hHeld := hHeld2
            refine qzI 11 ⟨some 28, .unOp .not 4 (.tmp 27), 4, _, #[⟨10, .data⟩], none⟩ (.bool false) rfl (by kernel_rfl) (fun _ _ _ h => h) (by rfl) (fun w' hw' => ?_) hHeld ?_
            · go_simp <;> rfl
            try simp only [Act.put, qT, q0, qS]
            refine qzI 12 ⟨some 29, .move (.tmp 28), 4, _, #[⟨11, .data⟩, ⟨10, .chain⟩], none⟩ (.bool false) rfl (by kernel_rfl) (fun _ _ _ h => h) (by rfl) (fun w' hw' => ?_) hHeld ?_
            · go_simp <;> rfl
            try simp only [Act.put, qT, q0, qS]
            refine qzI 13 ⟨some 30, .move (.tmp 0), 92, _, #[⟨12, .guard⟩], some (12, false)⟩ (.slice (some ⟨ga, oa, none⟩) N ca) rfl (by kernel_rfl) (fun _ _ _ h => h) (by rfl) (fun w' hw' => ?_) hHeld ?_
            · go_simp <;> rfl
            try simp only [Act.put, qT, q0, qS]
            refine qzI 14 ⟨some 31, .move (.tmp 5), 3, _, #[⟨12, .guard⟩], some (12, false)⟩ (.int .i64 (k : Int)) rfl (by kernel_rfl) (fun _ _ _ h => h) (by rfl) (fun w' hw' => ?_) hHeld ?_
            · go_simp <;> rfl
            try simp only [Act.put, qT, q0, qS]
            refine qzI 15 ⟨some 32, .indexAddr 92 (.tmp 30) (.tmp 31), 0, _, #[⟨13, .data⟩, ⟨14, .data⟩, ⟨12, .guard⟩], some (12, false)⟩ (.pointer (some ⟨ga, oa + k * 67, none⟩)) rfl (by kernel_rfl) (fun _ _ _ h => h) (by rfl) (fun w' hw' => ?_) hHeld ?_
            · go_simp <;> rfl
            try simp only [Act.put, qT, q0, qS]
            refine qzI 16 ⟨some 33, .fieldAddr 140 (.tmp 32) 1, 0, _, #[⟨15, .data⟩, ⟨12, .guard⟩], some (12, false)⟩ (.pointer (some ⟨ga, oa + k * 67 + 35, none⟩)) rfl (by kernel_rfl) (fun _ _ _ h => h) (by rfl) (fun w' hw' => ?_) hHeld ?_
            · go_simp <;> rfl
            try simp only [Act.put, qT, q0, qS]
            refine qzK 17 ⟨some 34, .load 33 (.tmp 33), 33, _, #[⟨16, .data⟩, ⟨12, .guard⟩], some (12, false)⟩ _ rfl (by kernel_rfl) (fun _ _ _ h => h) (yieldsIf_load_mid (by rfl) 33 (.tmp 33) rfl (ga) (oa + k * 67 + 35) rfl (a2.map B8) _ (fun _ h => rangeAt_below HRa2.out h) HUD.out rfl HI2.out) hHeld ?_
            try simp only [Act.put, qT, q0, qS]
            refine qzI 18 ⟨some 35, .move (.tmp 1), 92, _, #[⟨12, .guard⟩], some (12, false)⟩ (.slice (some ⟨gb, ob, none⟩) N cb) rfl (by kernel_rfl) (fun _ _ _ h => h) (by rfl) (fun w' hw' => ?_) hHeld ?_
            · go_simp <;> rfl
            try simp only [Act.put, qT, q0, qS]
            refine qzI 19 ⟨some 36, .move (.tmp 5), 3, _, #[⟨12, .guard⟩], some (12, false)⟩ (.int .i64 (k : Int)) rfl (by kernel_rfl) (fun _ _ _ h => h) (by rfl) (fun w' hw' => ?_) hHeld ?_
            · go_simp <;> rfl
            try simp only [Act.put, qT, q0, qS]
            refine qzI 20 ⟨some 37, .indexAddr 92 (.tmp 35) (.tmp 36), 0, _, #[⟨18, .data⟩, ⟨19, .data⟩, ⟨12, .guard⟩], some (12, false)⟩ (.pointer (some ⟨gb, ob + k * 67, none⟩)) rfl (by kernel_rfl) (fun _ _ _ h => h) (by rfl) (fun w' hw' => ?_) hHeld ?_
            · go_simp <;> rfl
            try simp only [Act.put, qT, q0, qS]
            refine qzI 21 ⟨some 38, .fieldAddr 140 (.tmp 37) 1, 0, _, #[⟨20, .data⟩, ⟨12, .guard⟩], some (12, false)⟩ (.pointer (some ⟨gb, ob + k * 67 + 35, none⟩)) rfl (by kernel_rfl) (fun _ _ _ h => h) (by rfl) (fun w' hw' => ?_) hHeld ?_
            · go_simp <;> rfl
            try simp only [Act.put, qT, q0, qS]
            refine qzK 22 ⟨some 39, .load 33 (.tmp 38), 33, _, #[⟨21, .data⟩, ⟨12, .guard⟩], some (12, false)⟩ _ rfl (by kernel_rfl) (fun _ _ _ h => h) (yieldsIf_load_mid (by rfl) 33 (.tmp 38) rfl (gb) (ob + k * 67 + 35) rfl (b2.map B8) _ (fun _ h => rangeAt_below HRb2.out h) HUD.out rfl HJ2.out) hHeld ?_
            try simp only [Act.put, qT, q0, qS]
            refine qzI 23 ⟨some 40, .binOp .neq 33 (.tmp 34) (.tmp 39) 33, 4, _, #[⟨17, .data⟩, ⟨22, .data⟩, ⟨12, .guard⟩], some (12, false)⟩ (.bool false) rfl (by kernel_rfl) (fun _ _ _ h => h) (by rfl) (fun w' hw' => ?_) hHeld ?_
            · have hqq := HEQ.out w'; go_simp <;> rfl
            try simp only [Act.put, qT, q0, qS]
            refine qzI 24 ⟨some 41, .pick (.tmp 29) (.const (Go.Value.bool true)) (.tmp 40), 4, _, #[⟨12, .data⟩, ⟨23, .data⟩], none⟩ (.bool false) rfl (by kernel_rfl) (fun _ _ _ h => h) (by rfl) (fun w' hw' => ?_) hHeld ?_
            · go_simp <;> rfl
            try simp only [Act.put, qT, q0, qS]
            refine wpAnyH_done (by kernel_rfl) ?_ _
            go_wp2
            go_roundw
            case rel => exact ⟨k + 1, by omega, by go_num, HT.out, hHeld2⟩
            case measure => simp [intOf]; omega
          · have HR : Hid ((a2 == b2) = false) := by show _ = _; simp [hq2]
            have HNE : Hid (la ≠ lb) := HBD.out (fun e => hq2 (Prod.mk.inj e).2)
            clear hq2
            rw [HR.out] at HEQ
            go_wp2
            refine wp_region_held_drew (S := fun w' => Below w.heap.size w w') (by kernel_rfl) HBd.out (fun hHeld => ?_)
            generalize wr.drew = W at *
            refine qzI 0 ⟨some 17, .move (.tmp 0), 92, _, #[], none⟩ (.slice (some ⟨ga, oa, none⟩) N ca) rfl (by kernel_rfl) (fun _ _ _ h => h) (by rfl) (fun w' hw' => ?_) hHeld ?_
            · go_simp <;> rfl
            try simp only [Act.put, qT, q0, qS]
            refine qzI 1 ⟨some 18, .move (.tmp 5), 3, _, #[], none⟩ (.int .i64 (k : Int)) rfl (by kernel_rfl) (fun _ _ _ h => h) (by rfl) (fun w' hw' => ?_) hHeld ?_
            · go_simp <;> rfl
            try simp only [Act.put, qT, q0, qS]
            refine qzI 2 ⟨some 19, .indexAddr 92 (.tmp 17) (.tmp 18), 0, _, #[⟨0, .data⟩, ⟨1, .data⟩], none⟩ (.pointer (some ⟨ga, oa + k * 67, none⟩)) rfl (by kernel_rfl) (fun _ _ _ h => h) (by rfl) (fun w' hw' => ?_) hHeld ?_
            · go_simp <;> rfl
            try simp only [Act.put, qT, q0, qS]
            refine qzI 3 ⟨some 20, .fieldAddr 140 (.tmp 19) 0, 0, _, #[⟨2, .data⟩], none⟩ (.pointer (some ⟨ga, oa + k * 67, none⟩)) rfl (by kernel_rfl) (fun _ _ _ h => h) (by rfl) (fun w' hw' => ?_) hHeld ?_
            · go_simp <;> rfl
            try simp only [Act.put, qT, q0, qS]
            refine qzK 4 ⟨some 21, .load 138 (.tmp 20), 138, _, #[⟨3, .data⟩], none⟩ _ rfl (by kernel_rfl) (fun _ _ _ h => h) (yieldsIf_load_mid (by rfl) 138 (.tmp 20) rfl (ga) (oa + k * 67) rfl (QA) _ (fun _ h => rangeAt_below HRa1.out h) HUQ.out rfl HIA.out) hHeld ?_
            try simp only [Act.put, qT, q0, qS]
            refine qzI 5 ⟨some 22, .move (.tmp 1), 92, _, #[], none⟩ (.slice (some ⟨gb, ob, none⟩) N cb) rfl (by kernel_rfl) (fun _ _ _ h => h) (by rfl) (fun w' hw' => ?_) hHeld ?_
            · go_simp <;> rfl
            try simp only [Act.put, qT, q0, qS]
            refine qzI 6 ⟨some 23, .move (.tmp 5), 3, _, #[], none⟩ (.int .i64 (k : Int)) rfl (by kernel_rfl) (fun _ _ _ h => h) (by rfl) (fun w' hw' => ?_) hHeld ?_
            · go_simp <;> rfl
            try simp only [Act.put, qT, q0, qS]
            refine qzI 7 ⟨some 24, .indexAddr 92 (.tmp 22) (.tmp 23), 0, _, #[⟨5, .data⟩, ⟨6, .data⟩], none⟩ (.pointer (some ⟨gb, ob + k * 67, none⟩)) rfl (by kernel_rfl) (fun _ _ _ h => h) (by rfl) (fun w' hw' => ?_) hHeld ?_
            · go_simp <;> rfl
            try simp only [Act.put, qT, q0, qS]
            refine qzI 8 ⟨some 25, .fieldAddr 140 (.tmp 24) 0, 0, _, #[⟨7, .data⟩], none⟩ (.pointer (some ⟨gb, ob + k * 67, none⟩)) rfl (by kernel_rfl) (fun _ _ _ h => h) (by rfl) (fun w' hw' => ?_) hHeld ?_
            · go_simp <;> rfl
            try simp only [Act.put, qT, q0, qS]
            refine qzK 9 ⟨some 26, .load 138 (.tmp 25), 138, _, #[⟨8, .data⟩], none⟩ _ rfl (by kernel_rfl) (fun _ _ _ h => h) (yieldsIf_load_mid (by rfl) 138 (.tmp 25) rfl (gb) (ob + k * 67) rfl (QB) _ (fun _ h => rangeAt_below HRb1.out h) HUQ.out rfl HIB.out) hHeld ?_
            try simp only [Act.put, qT, q0, qS]
            refine qzR 10 ⟨some 27, .call ⟨.value (.func 75), #[.tmp 21, .tmp 26], #[138, 138]⟩, 4, _, #[⟨4, .data⟩, ⟨9, .data⟩], none⟩ (by kernel_rfl) rfl (by rfl) (fun K hK => ?_)
            go_wp2_with fail
            refine (qsame_any (.agg QA.toArray) (.agg QB.toArray) a1 b1 _ (hq_below HA.out hHeld) (hq_below HB'.out hHeld)).mono ?_
            rintro ex W2 ⟨rfl, hb2⟩
            rw [HD.out]
            have hHeld2 : Below w.heap.size w W2 := hHeld.trans (hb2.mono hHeld.size)
            clear hb2
            refine hK.out _ _ hHeld2 (fun _ => ?_)
            clear hK K
            try simp only [Act.put, qT, q0, qS]
            have hHeld := hHeld2
            refine qzI 11 ⟨some 28, .unOp .not 4 (.tmp 27), 4, _, #[⟨10, .data⟩], none⟩ (.bool false) rfl (by kernel_rfl) (fun _ _ _ h => h) (by rfl) (fun w' hw' => ?_) hHeld ?_
            · go_simp <;> rfl
            try simp only [Act.put, qT, q0, qS]
            refine qzI 12 ⟨some 29, .move (.tmp 28), 4, _, #[⟨11, .data⟩, ⟨10, .chain⟩], none⟩ (.bool false) rfl (by kernel_rfl) (fun _ _ _ h => h) (by rfl) (fun w' hw' => ?_) hHeld ?_
            · go_simp <;> rfl
            try simp only [Act.put, qT, q0, qS]
            refine qzI 13 ⟨some 30, .move (.tmp 0), 92, _, #[⟨12, .guard⟩], some (12, false)⟩ (.slice (some ⟨ga, oa, none⟩) N ca) rfl (by kernel_rfl) (fun _ _ _ h => h) (by rfl) (fun w' hw' => ?_) hHeld ?_
            · go_simp <;> rfl
            try simp only [Act.put, qT, q0, qS]
            refine qzI 14 ⟨some 31, .move (.tmp 5), 3, _, #[⟨12, .guard⟩], some (12, false)⟩ (.int .i64 (k : Int)) rfl (by kernel_rfl) (fun _ _ _ h => h) (by rfl) (fun w' hw' => ?_) hHeld ?_
            · go_simp <;> rfl
            try simp only [Act.put, qT, q0, qS]
            refine qzI 15 ⟨some 32, .indexAddr 92 (.tmp 30) (.tmp 31), 0, _, #[⟨13, .data⟩, ⟨14, .data⟩, ⟨12, .guard⟩], some (12, false)⟩ (.pointer (some ⟨ga, oa + k * 67, none⟩)) rfl (by kernel_rfl) (fun _ _ _ h => h) (by rfl) (fun w' hw' => ?_) hHeld ?_
            · go_simp <;> rfl
            try simp only [Act.put, qT, q0, qS]
            refine qzI 16 ⟨some 33, .fieldAddr 140 (.tmp 32) 1, 0, _, #[⟨15, .data⟩, ⟨12, .guard⟩], some (12, false)⟩ (.pointer (some ⟨ga, oa + k * 67 + 35, none⟩)) rfl (by kernel_rfl) (fun _ _ _ h => h) (by rfl) (fun w' hw' => ?_) hHeld ?_
            · go_simp <;> rfl
            try simp only [Act.put, qT, q0, qS]
            refine qzK 17 ⟨some 34, .load 33 (.tmp 33), 33, _, #[⟨16, .data⟩, ⟨12, .guard⟩], some (12, false)⟩ _ rfl (by kernel_rfl) (fun _ _ _ h => h) (yieldsIf_load_mid (by rfl) 33 (.tmp 33) rfl (ga) (oa + k * 67 + 35) rfl (a2.map B8) _ (fun _ h => rangeAt_below HRa2.out h) HUD.out rfl HI2.out) hHeld ?_
            try simp only [Act.put, qT, q0, qS]
            refine qzI 18 ⟨some 35, .move (.tmp 1), 92, _, #[⟨12, .guard⟩], some (12, false)⟩ (.slice (some ⟨gb, ob, none⟩) N cb) rfl (by kernel_rfl) (fun _ _ _ h => h) (by rfl) (fun w' hw' => ?_) hHeld ?_
            · go_simp <;> rfl
            try simp only [Act.put, qT, q0, qS]
            refine qzI 19 ⟨some 36, .move (.tmp 5), 3, _, #[⟨12, .guard⟩], some (12, false)⟩ (.int .i64 (k : Int)) rfl (by kernel_rfl) (fun _ _ _ h => h) (by rfl) (fun w' hw' => ?_) hHeld ?_
            · go_simp <;> rfl
            try simp only [Act.put, qT, q0, qS]
            refine qzI 20 ⟨some 37, .indexAddr 92 (.tmp 35) (.tmp 36), 0, _, #[⟨18, .data⟩, ⟨19, .data⟩, ⟨12, .guard⟩], some (12, false)⟩ (.pointer (some ⟨gb, ob + k * 67, none⟩)) rfl (by kernel_rfl) (fun _ _ _ h => h) (by rfl) (fun w' hw' => ?_) hHeld ?_
            · go_simp <;> rfl
            try simp only [Act.put, qT, q0, qS]
            refine qzI 21 ⟨some 38, .fieldAddr 140 (.tmp 37) 1, 0, _, #[⟨20, .data⟩, ⟨12, .guard⟩], some (12, false)⟩ (.pointer (some ⟨gb, ob + k * 67 + 35, none⟩)) rfl (by kernel_rfl) (fun _ _ _ h => h) (by rfl) (fun w' hw' => ?_) hHeld ?_
            · go_simp <;> rfl
            try simp only [Act.put, qT, q0, qS]
            refine qzK 22 ⟨some 39, .load 33 (.tmp 38), 33, _, #[⟨21, .data⟩, ⟨12, .guard⟩], some (12, false)⟩ _ rfl (by kernel_rfl) (fun _ _ _ h => h) (yieldsIf_load_mid (by rfl) 33 (.tmp 38) rfl (gb) (ob + k * 67 + 35) rfl (b2.map B8) _ (fun _ h => rangeAt_below HRb2.out h) HUD.out rfl HJ2.out) hHeld ?_
            try simp only [Act.put, qT, q0, qS]
            refine qzI 23 ⟨some 40, .binOp .neq 33 (.tmp 34) (.tmp 39) 33, 4, _, #[⟨17, .data⟩, ⟨22, .data⟩, ⟨12, .guard⟩], some (12, false)⟩ (.bool true) rfl (by kernel_rfl) (fun _ _ _ h => h) (by rfl) (fun w' hw' => ?_) hHeld ?_
            · have hqq := HEQ.out w'; go_simp <;> rfl
            try simp only [Act.put, qT, q0, qS]
            refine qzI 24 ⟨some 41, .pick (.tmp 29) (.const (Go.Value.bool true)) (.tmp 40), 4, _, #[⟨12, .data⟩, ⟨23, .data⟩], none⟩ (.bool true) rfl (by kernel_rfl) (fun _ _ _ h => h) (by rfl) (fun w' hw' => ?_) hHeld ?_
            · go_simp <;> rfl
            try simp only [Act.put, qT, q0, qS]
            refine wpAnyH_done (by kernel_rfl) ?_ _
            go_wp2
            go_ret
            exact ⟨ret_bool' (decide_eq_false HNE.out).symm, hHeld2⟩
        · have HD : Hid (decide (a1 = b1) = false) := decide_eq_false hq1
          have HNE : Hid (la ≠ lb) := HBD.out (fun e => hq1 (Prod.mk.inj e).1)
          clear hq1
          go_wp2
          refine wp_region_held_drew (S := fun w' => Below w.heap.size w w') (by kernel_rfl) HBd.out (fun hHeld => ?_)
          generalize wr.drew = W at *
          refine qzI 0 ⟨some 17, .move (.tmp 0), 92, _, #[], none⟩ (.slice (some ⟨ga, oa, none⟩) N ca) rfl (by kernel_rfl) (fun _ _ _ h => h) (by rfl) (fun w' hw' => ?_) hHeld ?_
          · go_simp <;> rfl
          try simp only [Act.put, qT, q0, qS]
          refine qzI 1 ⟨some 18, .move (.tmp 5), 3, _, #[], none⟩ (.int .i64 (k : Int)) rfl (by kernel_rfl) (fun _ _ _ h => h) (by rfl) (fun w' hw' => ?_) hHeld ?_
          · go_simp <;> rfl
          try simp only [Act.put, qT, q0, qS]
          refine qzI 2 ⟨some 19, .indexAddr 92 (.tmp 17) (.tmp 18), 0, _, #[⟨0, .data⟩, ⟨1, .data⟩], none⟩ (.pointer (some ⟨ga, oa + k * 67, none⟩)) rfl (by kernel_rfl) (fun _ _ _ h => h) (by rfl) (fun w' hw' => ?_) hHeld ?_
          · go_simp <;> rfl
          try simp only [Act.put, qT, q0, qS]
          refine qzI 3 ⟨some 20, .fieldAddr 140 (.tmp 19) 0, 0, _, #[⟨2, .data⟩], none⟩ (.pointer (some ⟨ga, oa + k * 67, none⟩)) rfl (by kernel_rfl) (fun _ _ _ h => h) (by rfl) (fun w' hw' => ?_) hHeld ?_
          · go_simp <;> rfl
          try simp only [Act.put, qT, q0, qS]
          refine qzK 4 ⟨some 21, .load 138 (.tmp 20), 138, _, #[⟨3, .data⟩], none⟩ _ rfl (by kernel_rfl) (fun _ _ _ h => h) (yieldsIf_load_mid (by rfl) 138 (.tmp 20) rfl (ga) (oa + k * 67) rfl (QA) _ (fun _ h => rangeAt_below HRa1.out h) HUQ.out rfl HIA.out) hHeld ?_
          try simp only [Act.put, qT, q0, qS]
          refine qzI 5 ⟨some 22, .move (.tmp 1), 92, _, #[], none⟩ (.slice (some ⟨gb, ob, none⟩) N cb) rfl (by kernel_rfl) (fun _ _ _ h => h) (by rfl) (fun w' hw' => ?_) hHeld ?_
          · go_simp <;> rfl
          try simp only [Act.put, qT, q0, qS]
          refine qzI 6 ⟨some 23, .move (.tmp 5), 3, _, #[], none⟩ (.int .i64 (k : Int)) rfl (by kernel_rfl) (fun _ _ _ h => h) (by rfl) (fun w' hw' => ?_) hHeld ?_
          · go_simp <;> rfl
          try simp only [Act.put, qT, q0, qS]
          refine qzI 7 ⟨some 24, .indexAddr 92 (.tmp 22) (.tmp 23), 0, _, #[⟨5, .data⟩, ⟨6, .data⟩], none⟩ (.pointer (some ⟨gb, ob + k * 67, none⟩)) rfl (by kernel_rfl) (fun _ _ _ h => h) (by rfl) (fun w' hw' => ?_) hHeld ?_
          · go_simp <;> rfl
          try simp only [Act.put, qT, q0, qS]
          refine qzI 8 ⟨some 25, .fieldAddr 140 (.tmp 24) 0, 0, _, #[⟨7, .data⟩], none⟩ (.pointer (some ⟨gb, ob + k * 67, none⟩)) rfl (by kernel_rfl) (fun _ _ _ h => h) (by rfl) (fun w' hw' => ?_) hHeld ?_
          · go_simp <;> rfl
          try simp only [Act.put, qT, q0, qS]
          refine qzK 9 ⟨some 26, .load 138 (.tmp 25), 138, _, #[⟨8, .data⟩], none⟩ _ rfl (by kernel_rfl) (fun _ _ _ h => h) (yieldsIf_load_mid (by rfl) 138 (.tmp 25) rfl (gb) (ob + k * 67) rfl (QB) _ (fun _ h => rangeAt_below HRb1.out h) HUQ.out rfl HIB.out) hHeld ?_
          try simp only [Act.put, qT, q0, qS]
          refine qzR 10 ⟨some 27, .call ⟨.value (.func 75), #[.tmp 21, .tmp 26], #[138, 138]⟩, 4, _, #[⟨4, .data⟩, ⟨9, .data⟩], none⟩ (by kernel_rfl) rfl (by rfl) (fun K hK => ?_)
          go_wp2_with fail
          refine (qsame_any (.agg QA.toArray) (.agg QB.toArray) a1 b1 _ (hq_below HA.out hHeld) (hq_below HB'.out hHeld)).mono ?_
          rintro ex W2 ⟨rfl, hb2⟩
          rw [HD.out]
          have hHeld2 : Below w.heap.size w W2 := hHeld.trans (hb2.mono hHeld.size)
          clear hb2
          refine hK.out _ _ hHeld2 (fun _ => ?_)
          clear hK K
          try simp only [Act.put, qT, q0, qS]
          have hHeld := hHeld2
          refine qzI 11 ⟨some 28, .unOp .not 4 (.tmp 27), 4, _, #[⟨10, .data⟩], none⟩ (.bool true) rfl (by kernel_rfl) (fun _ _ _ h => h) (by rfl) (fun w' hw' => ?_) hHeld ?_
          · go_simp <;> rfl
          try simp only [Act.put, qT, q0, qS]
          refine qzI 12 ⟨some 29, .move (.tmp 28), 4, _, #[⟨11, .data⟩, ⟨10, .chain⟩], none⟩ (.bool true) rfl (by kernel_rfl) (fun _ _ _ h => h) (by rfl) (fun w' hw' => ?_) hHeld ?_
          · go_simp <;> rfl
          try simp only [Act.put, qT, q0, qS]
          refine qzN 13 ⟨some 30, .move (.tmp 0), 92, _, #[⟨12, .guard⟩], some (12, false)⟩ rfl (by kernel_rfl) (fun _ _ _ h => h) (by rfl) hHeld ?_
          try simp only [Act.put, qT, q0, qS]
          refine qzN 14 ⟨some 31, .move (.tmp 5), 3, _, #[⟨12, .guard⟩], some (12, false)⟩ rfl (by kernel_rfl) (fun _ _ _ h => h) (by rfl) hHeld ?_
          try simp only [Act.put, qT, q0, qS]
          refine qzN 15 ⟨some 32, .indexAddr 92 (.tmp 30) (.tmp 31), 0, _, #[⟨13, .data⟩, ⟨14, .data⟩, ⟨12, .guard⟩], some (12, false)⟩ rfl (by kernel_rfl) (fun _ _ _ h => h) (by rfl) hHeld ?_
          try simp only [Act.put, qT, q0, qS]
          refine qzN 16 ⟨some 33, .fieldAddr 140 (.tmp 32) 1, 0, _, #[⟨15, .data⟩, ⟨12, .guard⟩], some (12, false)⟩ rfl (by kernel_rfl) (fun _ _ _ h => h) (by rfl) hHeld ?_
          try simp only [Act.put, qT, q0, qS]
          refine qzN 17 ⟨some 34, .load 33 (.tmp 33), 33, _, #[⟨16, .data⟩, ⟨12, .guard⟩], some (12, false)⟩ rfl (by kernel_rfl) (fun _ _ _ h => h) (by rfl) hHeld ?_
          try simp only [Act.put, qT, q0, qS]
          refine qzN 18 ⟨some 35, .move (.tmp 1), 92, _, #[⟨12, .guard⟩], some (12, false)⟩ rfl (by kernel_rfl) (fun _ _ _ h => h) (by rfl) hHeld ?_
          try simp only [Act.put, qT, q0, qS]
          refine qzN 19 ⟨some 36, .move (.tmp 5), 3, _, #[⟨12, .guard⟩], some (12, false)⟩ rfl (by kernel_rfl) (fun _ _ _ h => h) (by rfl) hHeld ?_
          try simp only [Act.put, qT, q0, qS]
          refine qzN 20 ⟨some 37, .indexAddr 92 (.tmp 35) (.tmp 36), 0, _, #[⟨18, .data⟩, ⟨19, .data⟩, ⟨12, .guard⟩], some (12, false)⟩ rfl (by kernel_rfl) (fun _ _ _ h => h) (by rfl) hHeld ?_
          try simp only [Act.put, qT, q0, qS]
          refine qzN 21 ⟨some 38, .fieldAddr 140 (.tmp 37) 1, 0, _, #[⟨20, .data⟩, ⟨12, .guard⟩], some (12, false)⟩ rfl (by kernel_rfl) (fun _ _ _ h => h) (by rfl) hHeld ?_
          try simp only [Act.put, qT, q0, qS]
          refine qzN 22 ⟨some 39, .load 33 (.tmp 38), 33, _, #[⟨21, .data⟩, ⟨12, .guard⟩], some (12, false)⟩ rfl (by kernel_rfl) (fun _ _ _ h => h) (by rfl) hHeld ?_
          try simp only [Act.put, qT, q0, qS]
          refine qzN 23 ⟨some 40, .binOp .neq 33 (.tmp 34) (.tmp 39) 33, 4, _, #[⟨17, .data⟩, ⟨22, .data⟩, ⟨12, .guard⟩], some (12, false)⟩ rfl (by kernel_rfl) (fun _ _ _ h => h) (by rfl) hHeld ?_
          try simp only [Act.put, qT, q0, qS]
          refine qzI 24 ⟨some 41, .pick (.tmp 29) (.const (Go.Value.bool true)) (.tmp 40), 4, _, #[⟨12, .data⟩, ⟨23, .data⟩], none⟩ (.bool true) rfl (by kernel_rfl) (fun _ _ _ h => h) (by rfl) (fun w' hw' => ?_) hHeld ?_
          · go_simp <;> rfl
          try simp only [Act.put, qT, q0, qS]
          refine wpAnyH_done (by kernel_rfl) ?_ _
          go_wp2
          go_ret
          exact ⟨ret_bool' (decide_eq_false HNE.out).symm, hHeld2⟩
      · have hkN : k = N := by omega
        have HE : Hid (la = lb) := by
          have h := HEK.out
          rw [hkN, HN.out, List.take_length, HLN.out, List.take_length] at h
          exact h
        have hkI : ¬ (k : Int) < (N : Int) := by omega
        go_wp2
        go_ret
        exact ⟨ret_bool' (decide_eq_true HE.out).symm, hb⟩
  · have hq : ((la.length : Int) != (lb.length : Int)) = true := by rw [bne_iff_ne]; omega
    have HNE : Hid (la ≠ lb) := fun e => hl (by rw [e])
    clear hl
    go_enter Tryz.func41, Tryz.ntmps41
    go_wp2
    go_ret
    exact ⟨ret_bool' (decide_eq_false HNE.out).symm, Below.refl _ _⟩
end Go.Proofs.YtekbppfocnbhbaaGreat.R5
