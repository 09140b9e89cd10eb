/- OracleBreaks: the walk. -/
import Derived.Test.YtefhjjjjbkkedaaGreatWg
import Derived.Deep.Cut
import Derived.Deep.CutRange
set_option linter.unusedVariables false
set_option linter.unusedSimpArgs false
namespace Go.Proofs.YtefhjjjjbkkedaaGreat.R5.oracleBreaks
open scoped Classical
open Go.RowKit

set_option maxHeartbeats 8000000 in
set_option maxRecDepth 100000 in
theorem walk (p : Option Addr) (N cap : Nat) (ds : List (List UInt8)) (v1 : Value) (ls : List Ak) (w : World) (hdl : ds.length ≤ 9223372036854775807) (hpc : p = none → cap = 0) (hD : HDs w (.slice p N cap) ds) (hl1 : ls.length ≤ 9223372036854775807) (h1 : HAs w v1 ls) :
    Calls Tryz.prog 4 #[.slice p N cap, v1] w fun e w' => e = .returned (.bool true) ∧ Below w.heap.size w w' := by
  have hba : Below w.heap.size w (w.alloc (.cells #[.bool false] 4 (0, 0))) := (Below.refl _ _).alloc (Nat.le_refl _) _
  have HC4 : Hid (C4 w (w.alloc (.cells #[.bool false] 4 (0, 0))) false) := ⟨hba, heap_alloc_new _ _⟩
  have HMU1 : Hid _ := much_any v1 ls (w.alloc (.cells #[.bool false] 4 (0, 0))) hl1 (has_below h1 hba)
  have hNd : N = ds.length := by obtain ⟨_, p', c', e, _⟩ := hD; simp only [Value.slice.injEq] at e; exact e.2.1
  by_cases hm1 : muchB ls = true
  · rw [hm1] at HMU1
    clear hNd hD h1 hba
    refine calls_marks Tryz.func4 rfl ?_
    simp only [Tryz.ntmps4, List.size_toArray, List.length_cons, List.length_nil, Nat.reduceAdd, Nat.reduceSub, Array.replicate_succ, Array.replicate_zero, List.push_toArray, List.append_toArray, List.nil_append, List.cons_append]
    go_wp2_with fail
    refine Calls.mono HMU1.out ?_
    rintro e w1 ⟨rfl, hw1⟩
    rw [hw1]
    clear hw1 w1
    go_wp2_with fail
    refine (known_any _).mono ?_
    rintro e wk ⟨rfl, hbk⟩
    have hc4 := HC4.out.step hbk
    have HC5 : Hid _ := hc4.set true
    obtain ⟨hk1, hk2⟩ := hc4.facts
    clear hc4 hbk
    go_wp2
    refine marks_ret (v := .bool true) [] _ (by simp) (by simp) (fun w' h1 h2 h3 h4 h5 => ⟨results_bool Tryz.results4 _ _ w.heap.size true rfl (by rw [cell_of_row _ _ 0 _ _ _ ((h5 _ (by simp)).trans HC5.out.c)]; rfl), rfl, ⟨h2.trans HC5.out.bel.os, h3.trans HC5.out.bel.tape, h4.trans HC5.out.bel.output, by rw [h1]; exact HC5.out.bel.size, fun k hk => (h5 k (by simp)).trans (HC5.out.bel.block k hk)⟩⟩)
  · have hf1 : muchB ls = false := by simpa using hm1
    rw [hf1] at HMU1
    clear hm1
    by_cases h60 : 60 < N
    · have h60I : (60 : Int) < (N : Int) := by omega
      clear hNd hD h1 hba
      refine calls_marks Tryz.func4 rfl ?_
      simp only [Tryz.ntmps4, List.size_toArray, List.length_cons, List.length_nil, Nat.reduceAdd, Nat.reduceSub, Array.replicate_succ, Array.replicate_zero, List.push_toArray, List.append_toArray, List.nil_append, List.cons_append]
      go_wp2_with fail
      refine Calls.mono HMU1.out ?_
      rintro e w1 ⟨rfl, hw1⟩
      rw [hw1]
      clear hw1 w1
      go_wp2_with fail
      refine (known_any _).mono ?_
      rintro e wk ⟨rfl, hbk⟩
      have hc4 := HC4.out.step hbk
      have HC5 : Hid _ := hc4.set true
      obtain ⟨hk1, hk2⟩ := hc4.facts
      clear hc4 hbk
      go_wp2
      refine marks_ret (v := .bool true) [] _ (by simp) (by simp) (fun w' h1 h2 h3 h4 h5 => ⟨results_bool Tryz.results4 _ _ w.heap.size true rfl (by rw [cell_of_row _ _ 0 _ _ _ ((h5 _ (by simp)).trans HC5.out.c)]; rfl), rfl, ⟨h2.trans HC5.out.bel.os, h3.trans HC5.out.bel.tape, h4.trans HC5.out.bel.output, by rw [h1]; exact HC5.out.bel.size, fun k hk => (h5 k (by simp)).trans (HC5.out.bel.block k hk)⟩⟩)
    · have h60I : ¬ (60 : Int) < (N : Int) := by omega
      obtain ⟨p1, c1, hv1, _⟩ := id h1
      subst hv1
      obtain ⟨W4, hW4⟩ : ∃ W, W = w.alloc (.cells #[.bool false] 4 (0, 0)) := ⟨_, rfl⟩
      have h1' := has_below h1 hba
      have hD' := hds_below hD hba
      rw [← hW4] at h1' hD'
      have HAT1 : Hid _ := akIn h1' hf1
      have hL1 := (much_le2 hf1).1
      have hnew := pnew_any true (List.replicate 32 0) p N cap ds W4 (by simp) hpc (by omega) hD'
      have hbo := fun W => build_ora W p N cap
      have hbd := fun W => build_dig W
      have HD : Hid _ := hD'
      have HLN : Hid (N = ds.length ∧ ds.length ≤ 60) := ⟨hNd, by omega⟩
      obtain ⟨ZZ, hZZ⟩ : ∃ Z : List UInt8, Z = List.replicate 32 0 := ⟨_, rfl⟩
      rw [← hZZ] at hnew hbo hbd
      clear hZZ hD h1 hf1 hNd hdl hD' hba h1'
      generalize hZC : ZZ.map B8 = ZC at *
      have HZC : Hid _ := hZC
      clear hZC
      have HBO : Hid _ := hbo
      have HBD : Hid _ := hbd
      have HNEW : Hid (Calls Tryz.prog 7 #[.bool true, .agg ZC.toArray, .slice p N cap] W4 fun e w' => PNew W4 true ZZ ds e w') := hnew
      clear hbo hbd hnew
      refine calls_marks Tryz.func4 rfl ?_
      simp only [Tryz.ntmps4, List.size_toArray, List.length_cons, List.length_nil, Nat.reduceAdd, Nat.reduceSub, Array.replicate_succ, Array.replicate_zero, List.push_toArray, List.append_toArray, List.nil_append, List.cons_append]
      go_wp2_with fail
      refine Calls.mono HMU1.out ?_
      rintro e w1 ⟨rfl, hw1⟩
      rw [hw1]
      clear hw1 w1
      clear HMU1
      rw [← hW4] at HC4
      have hszW : W4.heap.size = w.heap.size + 1 := by rw [hW4]; simp
      go_wp2
      rw [← hW4]
      clear hW4
      go_loopw [5] (fun i wr => wr = W4 ∧ ∃ k : Nat, k ≤ ls.length ∧ i = .int .i64 k) (fun i _ => ls.length - (intOf i).toNat)
      case atStart => exact ⟨rfl, 0, Nat.zero_le _, rfl⟩
      case round =>
        obtain ⟨rfl, k, hk, rfl⟩ := hrel
        by_cases hlt : k < ls.length
        · have hkI : (k : Int) < (ls.length : Int) := by omega
          obtain ⟨a, ha⟩ : ∃ a, ls[k]? = some a := ⟨_, List.getElem?_eq_getElem hlt⟩
          obtain ⟨g, o, pd, cd, hat⟩ := HAT1.out k a ha
          have hp := hat.ptr
          subst hp
          obtain ⟨hk0, hk1, _, _, _⟩ := ak_facts hat.ok.key hat.row
          clear hat ha
          by_cases hk2 : a.kind = 2
          · rw [hk2] at hk0
            by_cases hn2 : (200 : Int) < a.n
            · skip
              go_wp2_with fail
              refine (known_any _).mono ?_
              rintro e wk ⟨rfl, hbk⟩
              have hc4 := HC4.out.step hbk
              have HC5 : Hid _ := hc4.set true
              obtain ⟨hk1, hk2⟩ := hc4.facts
              clear hc4 hbk
              go_wp2
              refine marks_ret (v := .bool true) [] _ (by simp) (by simp) (fun w' h1 h2 h3 h4 h5 => ⟨results_bool Tryz.results4 _ _ w.heap.size true rfl (by rw [cell_of_row _ _ 0 _ _ _ ((h5 _ (by simp)).trans HC5.out.c)]; rfl), rfl, ⟨h2.trans HC5.out.bel.os, h3.trans HC5.out.bel.tape, h4.trans HC5.out.bel.output, by rw [h1]; exact HC5.out.bel.size, fun k hk => (h5 k (by simp)).trans (HC5.out.bel.block k hk)⟩⟩)
            · go_wp2
              go_roundw
              case rel => exact ⟨trivial, k + 1, by omega, by go_num⟩
              case measure => simp [intOf]; omega
          · go_wp2
            go_roundw
            case rel => exact ⟨trivial, k + 1, by omega, by go_num⟩
            case measure => simp [intOf]; omega
        · have hke : k = ls.length := by omega
          subst hke
          have hkI : ¬ (ls.length : Int) < (ls.length : Int) := by omega
          clear hk hlt
          go_wp2_with (refine wpList_build rfl 29 _ rfl _ _ (by simp; first | done | rfl) (HBD.out _) ?_)
          generalize wr = W4 at *
          refine Calls.mono HNEW.out ?_
          rintro e X ⟨og, mb, dv, rfl, hpo, hbX, _⟩
          have HM0 : Hid _ := MM.start hpo hbX HD.out
          clear hpo HNEW HBD hbX
          generalize hOL : oL true ZZ (.slice p N cap) 0 (.slice none 0 0) = OL at *
          clear hOL
          go_wp2_with (refine wpList_build rfl 33 _ rfl _ _ (by simp; exact ⟨rfl, rfl⟩) (HBO.out _) ?_)
          have hM1 := MS.start HM0.out
          clear HM0 HBO
          generalize (X.alloc (.cells OL.toArray 33 (0, 0))).alloc (.cells #[.pointer (some ⟨X.heap.size, 0, none⟩)] 30 (0, 0)) = W0 at *
          generalize X.heap.size + 1 = n0 at *
          generalize X.heap.size = rg at *
          have HM1 : Hid _ := hM1
          clear hM1 X
          go_loopw [8] (fun i wr => ∃ k : Nat, k ≤ ls.length ∧ i = .int .i64 k ∧ MS W4 n0 og mb rg n0 ZZ ds (runL ZZ ds [] (ls.take k)) wr) (fun i _ => ls.length - (intOf i).toNat)
          case atStart => exact ⟨0, Nat.zero_le _, rfl, by rw [List.take_zero]; exact HM1.out⟩
          case round =>
            clear HM1 W0
            obtain ⟨k, hk, rfl, hM⟩ := hrel
            have HM : Hid _ := hM
            clear hM
            by_cases hlt : k < ls.length
            · have hkI : (k : Int) < (ls.length : Int) := by omega
              obtain ⟨a, ha⟩ : ∃ a, ls[k]? = some a := ⟨_, List.getElem?_eq_getElem hlt⟩
              obtain ⟨g, o, pd, cd, hat⟩ := HAT1.out k a ha
              have hp := hat.ptr
              subst hp
              have hrow := hat.row
              have HROW : Hid (∀ Y, Below W4.heap.size W4 Y → Y.rangeAt g (o + k * 37) (akL a (.slice pd a.q.data.length cd))) := fun Y hY => rangeAt_below hrow hY
              have hAI := info37 (akL a (.slice pd a.q.data.length cd)) (akL_len _ _ hat.ok.key)
              have HONE : Hid (∀ Y, Below wr.heap.size wr Y → Y.heap.size = wr.heap.size → Calls Tryz.prog 8 #[.pointer (some ⟨og, 0, none⟩), .pointer (some ⟨rg, 0, none⟩), .agg (akL a (.slice pd a.q.data.length cd)).toArray] Y fun e Z => e = .returned (.bool true) ∧ MS W4 n0 og mb rg n0 ZZ ds (runL ZZ ds [] (ls.take (k + 1))) Z) := by
                show ∀ Y, _ → _ → Calls _ _ _ _ _
                intro Y hY hs
                rw [runL_snoc ZZ ds [] ls k a ha]
                exact HM.out.one hY a pd cd (runL_take ZZ ds [] ls k (by omega) (by first | omega | simp)) hat.ok (by have := hat.dl; omega) hat.hb hs
              clear ha hat hrow
              generalize akL a (.slice pd a.q.data.length cd) = AKL at *
              have huA := Tryz.underlying41
              go_wp2
              refine wp_only ?_
              refine wp_region_held_drew (S := S13 n0 rg g (o + k * 37) AKL) (by kernel_rfl) ?_ (fun hHeld => ?_)
              · exact ⟨(((Below.refl wr.heap.size wr).drew).cell (block_lt HM.out.cell)).trans HM.out.cell, HROW.out _ HM.out.bel.drew⟩
              refine wpAnyH_take (i := 0) (oi := { dst := some 59, op := Go.Op.move (Go.Operand.tmp 6), type := 26, pos := _, after := #[], guard := none }) (v := .pointer (some ⟨og, 0, none⟩)) rfl (by kernel_rfl) (by kernel_rfl) (by kernel_rfl) (fun _ _ _ h => h) (Or.inl ⟨by rfl, fun w' hw' => ?_⟩) hHeld ?_
              · first | (go_simp; done) | (go_simp; rfl)
              try simp only [Act.put, List.setIfInBounds_toArray, List.set_cons_zero, List.set_cons_succ]
              refine wpAnyH_take (i := 1) (oi := { dst := some 60, op := Go.Op.load 30 (Go.Operand.tmp 7), type := 30, pos := _, after := #[], guard := none }) (v := .pointer (some ⟨rg, 0, none⟩)) rfl (by kernel_rfl) (by kernel_rfl) (by kernel_rfl) (fun _ _ _ h => h) (Or.inl ⟨by rfl, fun w' hw' => ?_⟩) hHeld ?_
              · (have h1 := hw'.c; go_simp; done)
              try simp only [Act.put, List.setIfInBounds_toArray, List.set_cons_zero, List.set_cons_succ]
              refine wpAnyH_take (i := 2) (oi := { dst := some 61, op := Go.Op.move (Go.Operand.tmp 1), type := 23, pos := _, after := #[], guard := none }) (v := .slice (some ⟨g, o, none⟩) ls.length c1) rfl (by kernel_rfl) (by kernel_rfl) (by kernel_rfl) (fun _ _ _ h => h) (Or.inl ⟨by rfl, fun w' hw' => ?_⟩) hHeld ?_
              · first | (go_simp; done) | (go_simp; rfl)
              try simp only [Act.put, List.setIfInBounds_toArray, List.set_cons_zero, List.set_cons_succ]
              refine wpAnyH_take (i := 3) (oi := { dst := some 62, op := Go.Op.move (Go.Operand.tmp 8), type := 3, pos := _, after := #[], guard := none }) (v := .int .i64 (k : Int)) rfl (by kernel_rfl) (by kernel_rfl) (by kernel_rfl) (fun _ _ _ h => h) (Or.inl ⟨by rfl, fun w' hw' => ?_⟩) hHeld ?_
              · first | (go_simp; done) | (go_simp; rfl)
              try simp only [Act.put, List.setIfInBounds_toArray, List.set_cons_zero, List.set_cons_succ]
              refine wpAnyH_take (i := 4) (oi := { dst := some 63, op := Go.Op.indexAddr 23 (Go.Operand.tmp 61) (Go.Operand.tmp 62), type := 0, pos := _, after := #[{ on := 2, ground := Go.Ground.data }, { on := 3, ground := Go.Ground.data }], guard := none }) (v := .pointer (some ⟨g, o + k * 37, none⟩)) rfl (by kernel_rfl) (by kernel_rfl) (by kernel_rfl) (fun _ _ _ h => h) (Or.inl ⟨by rfl, fun w' hw' => ?_⟩) hHeld ?_
              · first | (go_simp; done) | (go_simp; rfl)
              try simp only [Act.put, List.setIfInBounds_toArray, List.set_cons_zero, List.set_cons_succ]
              refine wpAnyH_take (i := 5) (oi := { dst := some 64, op := Go.Op.load 41 (Go.Operand.tmp 63), type := 41, pos := _, after := #[{ on := 4, ground := Go.Ground.data }], guard := none }) rfl (by kernel_rfl) (by kernel_rfl) (by kernel_rfl) (fun _ _ _ h => h) (yieldsIf_load_mid (by rfl) 41 (.tmp 63) rfl (g) (o + k * 37) rfl (AKL) _ (fun _ h => h.r) huA rfl hAI) hHeld ?_
              try simp only [Act.put, List.setIfInBounds_toArray, List.set_cons_zero, List.set_cons_succ]
              refine wpAnyH_ready (rs := [6]) (by kernel_rfl) (by simp) ?_
              refine AllReadyH.cons (o := { dst := some 65, op := Go.Op.call { callee := Go.Callee.value (Go.Operand.func 8), args := #[Go.Operand.tmp 59, Go.Operand.tmp 60, Go.Operand.tmp 64], argTypes := #[26, 30, 41] }, type := 4, pos := _, after := #[{ on := 0, ground := Go.Ground.data }, { on := 1, ground := Go.Ground.data }, { on := 5, ground := Go.Ground.data }], guard := none }) rfl (fun K hK => ?_) AllReadyH.nil
              rw [if_pos (by rfl)]
              go_wp2_with fail
              refine Calls.mono (HONE.out _ ((Below.refl _ _).drew) (by rw [heap_drew])) ?_
              rintro e Y ⟨rfl, hMY⟩
              have HMY : Hid _ := hMY
              have hHeld1 : S13 n0 rg g (o + k * 37) AKL Y := ⟨hMY.cell, HROW.out _ hMY.bel⟩
              clear hMY
              refine hK.out _ _ hHeld1 (fun _ => ?_)
              clear hK K
              try simp only [Act.put, List.setIfInBounds_toArray, List.set_cons_zero, List.set_cons_succ]
              have hHeld := hHeld1
              refine wpAnyH_take (i := 7) (oi := { dst := some 66, op := Go.Op.unOp Go.UnOp.not 4 (Go.Operand.tmp 65), type := 4, pos := _, after := #[{ on := 6, ground := Go.Ground.data }], guard := none }) (v := .bool false) rfl (by kernel_rfl) (by kernel_rfl) (by kernel_rfl) (fun _ _ _ h => h) (Or.inl ⟨by rfl, fun w' hw' => ?_⟩) hHeld ?_
              · first | (go_simp; done) | (go_simp; rfl)
              try simp only [Act.put, List.setIfInBounds_toArray, List.set_cons_zero, List.set_cons_succ]
              refine wpAnyH_done (by kernel_rfl) ?_ _
              clear hHeld hHeld1 HONE
              go_wp2
              go_roundw
              case rel => exact ⟨k + 1, by omega, by go_num, HMY.out⟩
              case measure => simp [intOf]; omega
            · have hke : k = ls.length := by omega
              subst hke
              have hkI : ¬ (ls.length : Int) < (ls.length : Int) := by omega
              generalize wr = XL at *
              obtain ⟨L1, hL1e⟩ : ∃ L, L = runL ZZ ds [] ls := ⟨_, rfl⟩
              have hM1 := HM.out
              rw [List.take_length, ← hL1e] at hM1
              have hN1 : L1.length ≤ 1280 := by rw [hL1e]; have := runL_len ZZ ds ls []; simp only [List.length_nil] at this; omega
              have HANS : Hid (ansOk ds L1) := by show ansOk ds L1; rw [hL1e]; exact runL_ans (fun i e he => by simp at he)
              have HM2 : Hid _ := hM1
              have hM2 := hM1
              obtain ⟨pl, cl, dr, hlf⟩ := hM2.lf
              have HLF : Hid _ := hlf
              have HCN : Hid (∀ X, Below XL.heap.size XL X → X.cell? ⟨n0, 0, none⟩ = some (.pointer (some ⟨rg, 0, none⟩))) := fun X hX => (hX.cell (block_lt hM2.cell)).trans hM2.cell
              have HW0 : Hid _ := WT.start XL
              clear hM2 hlf
              clear hL1e HM HAT1 hk hlt hM1
              obtain ⟨NL, hNL⟩ : ∃ n, n = L1.length := ⟨_, rfl⟩
              have HNL : Hid _ := hNL
              have hNN : NL ≤ 1280 := by omega
              clear hNL
              go_wp2
              generalize (XL.alloc (.cells #[.slice none 0 0] 52 (0, 0))) = W9 at *
              go_loopw [10] (fun i wr => ∃ (k : Nat) (pw : Option Addr) (cw : Nat) (dn : List (Nat × Nat)), k ≤ NL ∧ i = .int .i64 k ∧ WT XL wr pw cw dn ∧ dn ++ PS.restP (PS.cls L1) k = PS.pairs (PS.cls L1)) (fun i _ => NL - (intOf i).toNat)
              case atStart => exact ⟨0, none, 0, [], Nat.zero_le _, rfl, HW0.out, by rw [PS.restP_0]; rfl⟩
              case round =>
                clear HW0 W9
                obtain ⟨i, pw, cw, dn, hi, rfl, hw, hdn⟩ := hrel
                have HW : Hid _ := hw
                have hcn := HCN.out _ hw.bel
                have hc35 := (HLF.out.step hw.bel).c35
                rw [← HNL.out] at hc35
                have HDN : Hid _ := hdn
                clear hw hdn
                by_cases hlt : i < NL
                · have hiI : (i : Int) < (NL : Int) := by omega
                  obtain ⟨ei, hei⟩ : ∃ e, L1[i]? = some e := ⟨_, List.getElem?_eq_getElem (by have := HNL.out; omega)⟩
                  have HEI : Hid _ := hei
                  have HD0 : Hid (dn ++ ((PS.plc (PS.cls L1) (i + 1) (PS.clX ei)).map (fun q => (i, q)) ++ PS.restP (PS.cls L1) (i + 1)) = PS.pairs (PS.cls L1)) := by
                    have h := HDN.out
                    rw [PS.restP_step _ _ (by rw [PS.cls_len]; have := HNL.out; omega)] at h
                    unfold PS.prI at h
                    rw [PS.cls_at hei] at h
                    exact h
                  clear HDN hei
                  go_wp2
                  go_loopw [11] (fun v wr => ∃ (k : Nat) (pw : Option Addr) (cw : Nat) (dn : List (Nat × Nat)), i + 1 ≤ k ∧ k ≤ NL ∧ v = .int .i64 k ∧ WT XL wr pw cw dn ∧ dn ++ ((PS.plc (PS.cls L1) k (PS.clX ei)).map (fun q => (i, q)) ++ PS.restP (PS.cls L1) (i + 1)) = PS.pairs (PS.cls L1)) (fun v _ => NL - (intOf v).toNat)
                  case atStart => exact ⟨i + 1, pw, cw, dn, Nat.le_refl _, by omega, by go_num, HW.out, HD0.out⟩
                  case round =>
                    clear HW HD0 hcn hc35
                    clear pw cw dn
                    obtain ⟨k, pw, cw, dn, hik, hk, rfl, hw, hdn⟩ := hrel
                    have HW : Hid _ := hw
                    have hcn := HCN.out _ hw.bel
                    have hc35 := (HLF.out.step hw.bel).c35
                    rw [← HNL.out] at hc35
                    have HDN : Hid _ := hdn
                    by_cases hkl : k < NL
                    · have hkI : (k : Int) < (NL : Int) := by omega
                      obtain ⟨ek, hek⟩ : ∃ e, L1[k]? = some e := ⟨_, List.getElem?_eq_getElem (by have := HNL.out; omega)⟩
                      obtain ⟨g, pi, ci, hpl, hri, hki, hai, hbi⟩ := (HLF.out.step hw.bel).rows i ei HEI.out
                      obtain ⟨g', pk, ck, hpl', hrk, hkk, hak, hbk⟩ := (HLF.out.step hw.bel).rows k ek hek
                      have hgg : g' = g := by rw [hpl] at hpl'; simpa using hpl'.symm
                      subst hgg
                      subst hpl
                      obtain ⟨AI, hAI⟩ : ∃ L, L = aL ei (.slice pi ei.1.data.length ci) := ⟨_, rfl⟩
                      obtain ⟨AK, hAK⟩ : ∃ L, L = aL ek (.slice pk ek.1.data.length ck) := ⟨_, rfl⟩
                      have hlI : AI.length = 67 := by rw [hAI]; exact aL_len _ _ hki hai
                      have hlK : AK.length = 67 := by rw [hAK]; exact aL_len _ _ hkk hak
                      have h1I : AI.toArray.all (·.oneCell') = true := by rw [hAI]; exact PS.all_ofN (aL_one ei pi _ ci)
                      have h1K : AK.toArray.all (·.oneCell') = true := by rw [hAK]; exact PS.all_ofN (aL_one ek pk _ ck)
                      have HFI : Hid (∀ (X : World) (b : Nat), X.rangeAt b 0 AI → X.cell? ⟨b, 0, none⟩ = some (.int .i64 ei.1.kind) ∧ X.cell? ⟨b, 33, none⟩ = some (.int .i64 ei.1.dom) ∧ X.rangeAt b 35 (ei.2.map B8)) := fun X b h => by
                        rw [hAI] at h
                        obtain ⟨h1, h2, h3, _⟩ := a_facts hki h
                        exact ⟨h1, by simpa using h2, by simpa using h3⟩
                      have HFK : Hid (∀ (X : World) (b : Nat), X.rangeAt b 0 AK → X.cell? ⟨b, 0, none⟩ = some (.int .i64 ek.1.kind) ∧ X.cell? ⟨b, 33, none⟩ = some (.int .i64 ek.1.dom) ∧ X.rangeAt b 35 (ek.2.map B8)) := fun X b h => by
                        rw [hAK] at h
                        obtain ⟨h1, h2, h3, _⟩ := a_facts hkk h
                        exact ⟨h1, by simpa using h2, by simpa using h3⟩
                      have HRI : Hid (wr.rangeAt g' (i * 67) AI) := by rw [hAI]; exact hri
                      have HRK : Hid (wr.rangeAt g' (k * 67) AK) := by rw [hAK]; exact hrk
                      have HAA : Hid (ei.2.length = 32 ∧ ek.2.length = 32) := ⟨hai, hak⟩
                      have hzv := fun W => zero_ask W
                      obtain ⟨ZK, hZK⟩ : ∃ Z, Z = zAk.toArray := ⟨_, rfl⟩
                      rw [← hZK] at hzv
                      have HZS : Hid (ZK.size = 67) := by show _ = _; rw [hZK]; kernel_rfl
                      have HPL : Hid _ := PS.plc_step (PS.cls L1) k (PS.clX ei) (PS.clX ek) (PS.cls_at hek)
                      have HEK : Hid _ := hek
                      clear hw hdn hri hrk hki hkk hai hak hbi hbk hAI hAK hZK hek hpl'
                      have HBW : Hid (Below wr.heap.size wr wr.drew) := (Below.refl _ _).drew
                      have huA := Tryz.underlying47
                      have hiI7 := info67 AI hlI
                      have hiK7 := info67 AK hlK
                      go_upto_region 22 with fail
                      go_cut [12, 13] from 87 to 101 (fun va vb X => ∃ ba bb : Nat, va = .pointer (some ⟨ba, 0, none⟩) ∧ vb = .pointer (some ⟨bb, 0, none⟩) ∧ Below wr.heap.size wr X ∧ X.rangeAt ba 0 AI ∧ X.rangeAt bb 0 AK)
                      case first =>
                        refine wp_only ?_
                        refine wp_region_held_drew (S := Below wr.heap.size wr) (by kernel_rfl) HBW.out (fun hHeld => ?_)
                        generalize wr.drew = W1 at *
                        refine wpAnyH_take (i := 0) (oi := { dst := some 87, op := Go.Op.load 30 (Go.Operand.tmp 7), type := 30, pos := _, after := #[], guard := none }) (v := .pointer (some ⟨rg, 0, none⟩)) rfl (by kernel_rfl) (by kernel_rfl) (by kernel_rfl) (fun _ _ _ h => h) (Or.inl ⟨by rfl, fun w' hw' => ?_⟩) hHeld ?_
                        · have hcc := (hw'.cell (block_lt hcn)).trans hcn; first | (go_simp; done) | (go_simp; rfl)
                        try simp only [Act.put, List.setIfInBounds_toArray, List.set_cons_zero, List.set_cons_succ]
                        refine wpAnyH_take (i := 1) (oi := { dst := some 88, op := Go.Op.nilCheck (Go.Operand.tmp 87), type := 0, pos := _, after := #[{ on := 0, ground := Go.Ground.data }], guard := none }) (v := .pointer (some ⟨rg, 0, none⟩)) rfl (by kernel_rfl) (by kernel_rfl) (by kernel_rfl) (fun _ _ _ h => h) (Or.inl ⟨by rfl, fun w' hw' => ?_⟩) hHeld ?_
                        · first | (go_simp; done) | (go_simp; rfl)
                        try simp only [Act.put, List.setIfInBounds_toArray, List.set_cons_zero, List.set_cons_succ]
                        refine wpAnyH_take (i := 2) (oi := { dst := some 89, op := Go.Op.fieldAddr 33 (Go.Operand.tmp 88) 4, type := 0, pos := _, after := #[{ on := 1, ground := Go.Ground.data }], guard := none }) (v := .pointer (some ⟨rg, 35, none⟩)) rfl (by kernel_rfl) (by kernel_rfl) (by kernel_rfl) (fun _ _ _ h => h) (Or.inl ⟨by rfl, fun w' hw' => ?_⟩) hHeld ?_
                        · first | (go_simp; done) | (go_simp; rfl)
                        try simp only [Act.put, List.setIfInBounds_toArray, List.set_cons_zero, List.set_cons_succ]
                        refine wpAnyH_take (i := 3) (oi := { dst := some 90, op := Go.Op.load 31 (Go.Operand.tmp 89), type := 31, pos := _, after := #[{ on := 2, ground := Go.Ground.data }], guard := none }) (v := .slice (some ⟨g', 0, none⟩) NL cl) rfl (by kernel_rfl) (by kernel_rfl) (by kernel_rfl) (fun _ _ _ h => h) (Or.inl ⟨by rfl, fun w' hw' => ?_⟩) hHeld ?_
                        · have hcc := (hw'.cell (block_lt hc35)).trans hc35; first | (go_simp; done) | (go_simp; rfl)
                        try simp only [Act.put, List.setIfInBounds_toArray, List.set_cons_zero, List.set_cons_succ]
                        refine wpAnyH_take (i := 4) (oi := { dst := some 91, op := Go.Op.move (Go.Operand.tmp 10), type := 3, pos := _, after := #[], guard := none }) (v := .int .i64 (i : Int)) rfl (by kernel_rfl) (by kernel_rfl) (by kernel_rfl) (fun _ _ _ h => h) (Or.inl ⟨by rfl, fun w' hw' => ?_⟩) hHeld ?_
                        · first | (go_simp; done) | (go_simp; rfl)
                        try simp only [Act.put, List.setIfInBounds_toArray, List.set_cons_zero, List.set_cons_succ]
                        refine wpAnyH_take (i := 5) (oi := { dst := some 92, op := Go.Op.indexAddr 31 (Go.Operand.tmp 90) (Go.Operand.tmp 91), type := 0, pos := _, after := #[{ on := 3, ground := Go.Ground.data }, { on := 4, ground := Go.Ground.data }], guard := none }) (v := .pointer (some ⟨g', i * 67, none⟩)) rfl (by kernel_rfl) (by kernel_rfl) (by kernel_rfl) (fun _ _ _ h => h) (Or.inl ⟨by rfl, fun w' hw' => ?_⟩) hHeld ?_
                        · first | (go_simp; done) | (go_simp; rfl)
                        try simp only [Act.put, List.setIfInBounds_toArray, List.set_cons_zero, List.set_cons_succ]
                        refine wpAnyH_take (i := 6) (oi := { dst := some 93, op := Go.Op.load 47 (Go.Operand.tmp 92), type := 47, pos := _, after := #[{ on := 5, ground := Go.Ground.data }], guard := none }) rfl (by kernel_rfl) (by kernel_rfl) (by kernel_rfl) (fun _ _ _ h => h) (yieldsIf_load_mid (by rfl) 47 (.tmp 92) rfl (g') (i * 67) rfl (AI) _ (fun _ h => rangeAt_below HRI.out h) huA rfl hiI7) hHeld ?_
                        try simp only [Act.put, List.setIfInBounds_toArray, List.set_cons_zero, List.set_cons_succ]
                        refine wpAnyH_take (i := 7) (oi := { dst := some 94, op := Go.Op.load 30 (Go.Operand.tmp 7), type := 30, pos := _, after := #[{ on := 16, ground := Go.Ground.gcOnly Go.Departure.lateStores }], guard := none }) (v := .pointer (some ⟨rg, 0, none⟩)) rfl (by kernel_rfl) (by kernel_rfl) (by kernel_rfl) (fun _ _ _ h => h) (Or.inl ⟨by rfl, fun w' hw' => ?_⟩) hHeld ?_
                        · have hcc := (hw'.cell (block_lt hcn)).trans hcn; first | (go_simp; done) | (go_simp; rfl)
                        try simp only [Act.put, List.setIfInBounds_toArray, List.set_cons_zero, List.set_cons_succ]
                        refine wpAnyH_take (i := 8) (oi := { dst := some 95, op := Go.Op.nilCheck (Go.Operand.tmp 94), type := 0, pos := _, after := #[{ on := 7, ground := Go.Ground.data }, { on := 16, ground := Go.Ground.gcOnly Go.Departure.lateStores }], guard := none }) (v := .pointer (some ⟨rg, 0, none⟩)) rfl (by kernel_rfl) (by kernel_rfl) (by kernel_rfl) (fun _ _ _ h => h) (Or.inl ⟨by rfl, fun w' hw' => ?_⟩) hHeld ?_
                        · first | (go_simp; done) | (go_simp; rfl)
                        try simp only [Act.put, List.setIfInBounds_toArray, List.set_cons_zero, List.set_cons_succ]
                        refine wpAnyH_take (i := 9) (oi := { dst := some 96, op := Go.Op.fieldAddr 33 (Go.Operand.tmp 95) 4, type := 0, pos := _, after := #[{ on := 8, ground := Go.Ground.data }, { on := 16, ground := Go.Ground.gcOnly Go.Departure.lateStores }], guard := none }) (v := .pointer (some ⟨rg, 35, none⟩)) rfl (by kernel_rfl) (by kernel_rfl) (by kernel_rfl) (fun _ _ _ h => h) (Or.inl ⟨by rfl, fun w' hw' => ?_⟩) hHeld ?_
                        · first | (go_simp; done) | (go_simp; rfl)
                        try simp only [Act.put, List.setIfInBounds_toArray, List.set_cons_zero, List.set_cons_succ]
                        refine wpAnyH_take (i := 10) (oi := { dst := some 97, op := Go.Op.load 31 (Go.Operand.tmp 96), type := 31, pos := _, after := #[{ on := 9, ground := Go.Ground.data }, { on := 16, ground := Go.Ground.gcOnly Go.Departure.lateStores }], guard := none }) (v := .slice (some ⟨g', 0, none⟩) NL cl) rfl (by kernel_rfl) (by kernel_rfl) (by kernel_rfl) (fun _ _ _ h => h) (Or.inl ⟨by rfl, fun w' hw' => ?_⟩) hHeld ?_
                        · have hcc := (hw'.cell (block_lt hc35)).trans hc35; first | (go_simp; done) | (go_simp; rfl)
                        try simp only [Act.put, List.setIfInBounds_toArray, List.set_cons_zero, List.set_cons_succ]
                        refine wpAnyH_take (i := 11) (oi := { dst := some 98, op := Go.Op.move (Go.Operand.tmp 11), type := 3, pos := _, after := #[{ on := 16, ground := Go.Ground.gcOnly Go.Departure.lateStores }], guard := none }) (v := .int .i64 (k : Int)) rfl (by kernel_rfl) (by kernel_rfl) (by kernel_rfl) (fun _ _ _ h => h) (Or.inl ⟨by rfl, fun w' hw' => ?_⟩) hHeld ?_
                        · first | (go_simp; done) | (go_simp; rfl)
                        try simp only [Act.put, List.setIfInBounds_toArray, List.set_cons_zero, List.set_cons_succ]
                        refine wpAnyH_take (i := 12) (oi := { dst := some 99, op := Go.Op.indexAddr 31 (Go.Operand.tmp 97) (Go.Operand.tmp 98), type := 0, pos := _, after := #[{ on := 10, ground := Go.Ground.data }, { on := 11, ground := Go.Ground.data }, { on := 16, ground := Go.Ground.gcOnly Go.Departure.lateStores }], guard := none }) (v := .pointer (some ⟨g', k * 67, none⟩)) rfl (by kernel_rfl) (by kernel_rfl) (by kernel_rfl) (fun _ _ _ h => h) (Or.inl ⟨by rfl, fun w' hw' => ?_⟩) hHeld ?_
                        · first | (go_simp; done) | (go_simp; rfl)
                        try simp only [Act.put, List.setIfInBounds_toArray, List.set_cons_zero, List.set_cons_succ]
                        refine wpAnyH_take (i := 13) (oi := { dst := some 100, op := Go.Op.load 47 (Go.Operand.tmp 99), type := 47, pos := _, after := #[{ on := 12, ground := Go.Ground.data }, { on := 16, ground := Go.Ground.gcOnly Go.Departure.lateStores }], guard := none }) rfl (by kernel_rfl) (by kernel_rfl) (by kernel_rfl) (fun _ _ _ h => h) (yieldsIf_load_mid (by rfl) 47 (.tmp 99) rfl (g') (k * 67) rfl (AK) _ (fun _ h => rangeAt_below HRK.out h) huA rfl hiK7) hHeld ?_
                        try simp only [Act.put, List.setIfInBounds_toArray, List.set_cons_zero, List.set_cons_succ]
                        have hB0 := hHeld
                        refine wpAnyH_ready (rs := [14, 15]) (by kernel_rfl) (by simp) ?_
                        refine AllReadyH.cons (o := { dst := some 12, op := Go.Op.alloc 47, type := 0, pos := _, after := #[], guard := none }) rfl (fun K hK => ?_) (AllReadyH.cons (o := { dst := some 13, op := Go.Op.alloc 47, type := 0, pos := _, after := #[], guard := none }) rfl (fun K hK => ?_) AllReadyH.nil)
                        all_goals rw [if_pos (by rfl)]
                        · skip
                          have hB1 := hHeld.alloc hHeld.size (.cells ZK 47 (0, 0))
                          go_wp2_with fail
                          refine hK.out _ _ hB1 (fun _ => ?_)
                          clear hK K
                          try simp only [Act.put, List.setIfInBounds_toArray, List.set_cons_zero, List.set_cons_succ]
                          clear hHeld
                          have hHeld := hB1
                          refine wpAnyH_ready (rs := [15]) (by kernel_rfl) (by simp) ?_
                          refine AllReadyH.cons (o := { dst := some 13, op := Go.Op.alloc 47, type := 0, pos := _, after := #[], guard := none }) rfl (fun K hK => ?_) AllReadyH.nil
                          rw [if_pos (by rfl)]
                          go_wp2_with fail
                          obtain ⟨q1, q2, q3, q4, q5, q6, q7⟩ := two_rows (AI := AI) (AK := AK) (A := W1.heap.size) (B := W1.heap.size + 1) hB0 rfl (by simp) _ rfl
                          refine hK.out _ _ q1 (fun _ => ?_)
                          clear hK K
                          try simp only [Act.put, List.setIfInBounds_toArray, List.set_cons_zero, List.set_cons_succ]
                          clear hHeld
                          have hHeld := q1
                          refine wpAnyH_ready (rs := [16]) (by kernel_rfl) (by simp) ?_
                          refine AllReadyH.cons (o := { dst := none, op := Go.Op.store 47 (Go.Operand.tmp 12) (Go.Operand.tmp 93), type := 0, pos := _, after := #[{ on := 14, ground := Go.Ground.data }, { on := 6, ground := Go.Ground.data }, { on := 0, ground := Go.Ground.phase }, { on := 1, ground := Go.Ground.phase }, { on := 2, ground := Go.Ground.phase }, { on := 3, ground := Go.Ground.phase }, { on := 4, ground := Go.Ground.phase }, { on := 5, ground := Go.Ground.phase }, { on := 6, ground := Go.Ground.phase }, { on := 7, ground := Go.Ground.textOnly Go.Departure.lateStores }, { on := 8, ground := Go.Ground.textOnly Go.Departure.lateStores }, { on := 9, ground := Go.Ground.textOnly Go.Departure.lateStores }, { on := 10, ground := Go.Ground.textOnly Go.Departure.lateStores }, { on := 11, ground := Go.Ground.textOnly Go.Departure.lateStores }, { on := 12, ground := Go.Ground.textOnly Go.Departure.lateStores }, { on := 13, ground := Go.Ground.textOnly Go.Departure.lateStores }, { on := 14, ground := Go.Ground.phase }, { on := 15, ground := Go.Ground.phase }], guard := none }) rfl (fun K hK => ?_) AllReadyH.nil
                          rw [if_pos (by rfl)]
                          refine wp_store_row 47 _ _ rfl (W1.heap.size) AI.toArray rfl rfl 47 ZK q2 (info67a _ (by simpa using hlI)) (by rw [HZS.out]; simpa using hlI.symm) h1I ?_
                          refine hK.out _ _ q3 (fun _ => ?_)
                          clear hK K
                          try simp only [Act.put, List.setIfInBounds_toArray, List.set_cons_zero, List.set_cons_succ]
                          clear hHeld
                          have hHeld := q3
                          refine wpAnyH_ready (rs := [17]) (by kernel_rfl) (by simp) ?_
                          refine AllReadyH.cons (o := { dst := none, op := Go.Op.store 47 (Go.Operand.tmp 13) (Go.Operand.tmp 100), type := 0, pos := _, after := #[{ on := 15, ground := Go.Ground.data }, { on := 13, ground := Go.Ground.data }, { on := 16, ground := Go.Ground.chain }, { on := 0, ground := Go.Ground.phase }, { on := 1, ground := Go.Ground.phase }, { on := 2, ground := Go.Ground.phase }, { on := 3, ground := Go.Ground.phase }, { on := 4, ground := Go.Ground.phase }, { on := 5, ground := Go.Ground.phase }, { on := 6, ground := Go.Ground.phase }, { on := 7, ground := Go.Ground.phase }, { on := 8, ground := Go.Ground.phase }, { on := 9, ground := Go.Ground.phase }, { on := 10, ground := Go.Ground.phase }, { on := 11, ground := Go.Ground.phase }, { on := 12, ground := Go.Ground.phase }, { on := 13, ground := Go.Ground.phase }, { on := 14, ground := Go.Ground.phase }, { on := 15, ground := Go.Ground.phase }, { on := 16, ground := Go.Ground.phase }], guard := none }) rfl (fun K hK => ?_) AllReadyH.nil
                          rw [if_pos (by rfl)]
                          refine wp_store_row 47 _ _ rfl (W1.heap.size + 1) AK.toArray rfl rfl 47 ZK q4 (info67a _ (by simpa using hlK)) (by rw [HZS.out]; simpa using hlK.symm) h1K ?_
                          refine hK.out _ _ q5 (fun _ => ?_)
                          clear hK K
                          try simp only [Act.put, List.setIfInBounds_toArray, List.set_cons_zero, List.set_cons_succ]
                          refine wpAnyH_done (by kernel_rfl) ?_ _
                          go_wp2_with fail
                          go_meet
                          case rel => exact ⟨_, _, rfl, rfl, q5, q6, q7⟩
                        · skip
                          have hB1 := hHeld.alloc hHeld.size (.cells ZK 47 (0, 0))
                          go_wp2_with fail
                          refine hK.out _ _ hB1 (fun _ => ?_)
                          clear hK K
                          try simp only [Act.put, List.setIfInBounds_toArray, List.set_cons_zero, List.set_cons_succ]
                          clear hHeld
                          have hHeld := hB1
                          refine wpAnyH_ready (rs := [14]) (by kernel_rfl) (by simp) ?_
                          refine AllReadyH.cons (o := { dst := some 12, op := Go.Op.alloc 47, type := 0, pos := _, after := #[], guard := none }) rfl (fun K hK => ?_) AllReadyH.nil
                          rw [if_pos (by rfl)]
                          go_wp2_with fail
                          obtain ⟨q1, q2, q3, q4, q5, q6, q7⟩ := two_rows (AI := AI) (AK := AK) (A := W1.heap.size + 1) (B := W1.heap.size) hB0 rfl (by simp) _ rfl
                          refine hK.out _ _ q1 (fun _ => ?_)
                          clear hK K
                          try simp only [Act.put, List.setIfInBounds_toArray, List.set_cons_zero, List.set_cons_succ]
                          clear hHeld
                          have hHeld := q1
                          refine wpAnyH_ready (rs := [16]) (by kernel_rfl) (by simp) ?_
                          refine AllReadyH.cons (o := { dst := none, op := Go.Op.store 47 (Go.Operand.tmp 12) (Go.Operand.tmp 93), type := 0, pos := _, after := #[{ on := 14, ground := Go.Ground.data }, { on := 6, ground := Go.Ground.data }, { on := 0, ground := Go.Ground.phase }, { on := 1, ground := Go.Ground.phase }, { on := 2, ground := Go.Ground.phase }, { on := 3, ground := Go.Ground.phase }, { on := 4, ground := Go.Ground.phase }, { on := 5, ground := Go.Ground.phase }, { on := 6, ground := Go.Ground.phase }, { on := 7, ground := Go.Ground.textOnly Go.Departure.lateStores }, { on := 8, ground := Go.Ground.textOnly Go.Departure.lateStores }, { on := 9, ground := Go.Ground.textOnly Go.Departure.lateStores }, { on := 10, ground := Go.Ground.textOnly Go.Departure.lateStores }, { on := 11, ground := Go.Ground.textOnly Go.Departure.lateStores }, { on := 12, ground := Go.Ground.textOnly Go.Departure.lateStores }, { on := 13, ground := Go.Ground.textOnly Go.Departure.lateStores }, { on := 14, ground := Go.Ground.phase }, { on := 15, ground := Go.Ground.phase }], guard := none }) rfl (fun K hK => ?_) AllReadyH.nil
                          rw [if_pos (by rfl)]
                          refine wp_store_row 47 _ _ rfl (W1.heap.size + 1) AI.toArray rfl rfl 47 ZK q2 (info67a _ (by simpa using hlI)) (by rw [HZS.out]; simpa using hlI.symm) h1I ?_
                          refine hK.out _ _ q3 (fun _ => ?_)
                          clear hK K
                          try simp only [Act.put, List.setIfInBounds_toArray, List.set_cons_zero, List.set_cons_succ]
                          clear hHeld
                          have hHeld := q3
                          refine wpAnyH_ready (rs := [17]) (by kernel_rfl) (by simp) ?_
                          refine AllReadyH.cons (o := { dst := none, op := Go.Op.store 47 (Go.Operand.tmp 13) (Go.Operand.tmp 100), type := 0, pos := _, after := #[{ on := 15, ground := Go.Ground.data }, { on := 13, ground := Go.Ground.data }, { on := 16, ground := Go.Ground.chain }, { on := 0, ground := Go.Ground.phase }, { on := 1, ground := Go.Ground.phase }, { on := 2, ground := Go.Ground.phase }, { on := 3, ground := Go.Ground.phase }, { on := 4, ground := Go.Ground.phase }, { on := 5, ground := Go.Ground.phase }, { on := 6, ground := Go.Ground.phase }, { on := 7, ground := Go.Ground.phase }, { on := 8, ground := Go.Ground.phase }, { on := 9, ground := Go.Ground.phase }, { on := 10, ground := Go.Ground.phase }, { on := 11, ground := Go.Ground.phase }, { on := 12, ground := Go.Ground.phase }, { on := 13, ground := Go.Ground.phase }, { on := 14, ground := Go.Ground.phase }, { on := 15, ground := Go.Ground.phase }, { on := 16, ground := Go.Ground.phase }], guard := none }) rfl (fun K hK => ?_) AllReadyH.nil
                          rw [if_pos (by rfl)]
                          refine wp_store_row 47 _ _ rfl (W1.heap.size) AK.toArray rfl rfl 47 ZK q4 (info67a _ (by simpa using hlK)) (by rw [HZS.out]; simpa using hlK.symm) h1K ?_
                          refine hK.out _ _ q5 (fun _ => ?_)
                          clear hK K
                          try simp only [Act.put, List.setIfInBounds_toArray, List.set_cons_zero, List.set_cons_succ]
                          refine wpAnyH_done (by kernel_rfl) ?_ _
                          go_wp2_with fail
                          go_meet
                          case rel => exact ⟨_, _, rfl, rfl, q5, q6, q7⟩
                      case rest =>
                        obtain ⟨ba, bb, rfl, rfl, hbc, hra, hrb⟩ := hcut
                        obtain ⟨fi1, fi2, hfi⟩ := HFI.out _ _ hra
                        obtain ⟨fk1, fk2, hfk⟩ := HFK.out _ _ hrb
                        have HGI : Hid _ := hfi
                        have HGK : Hid _ := hfk
                        have HWC : Hid _ := HW.out.step hbc
                        have HAi : Hid _ := info32 (ei.2.map B8) (by simpa using HAA.out.1)
                        have HAk : Hid _ := info32 (ek.2.map B8) (by simpa using HAA.out.2)
                        have heq := fun W => eql_digest W ei.2 ek.2 HAA.out.1 HAA.out.2
                        clear hfi hfk hra hrb hbc HRI HRK HFI HFK HBW hzv HZS hlI hlK h1I h1K huA hiI7 hiK7 hcn hc35 HW
                        generalize wc = WA at *
                        have HNO : Hid (PS.clX ek ≠ PS.clX ei → dn ++ ((PS.plc (PS.cls L1) (k + 1) (PS.clX ei)).map (fun q => (i, q)) ++ PS.restP (PS.cls L1) (i + 1)) = PS.pairs (PS.cls L1)) := fun hne => by
                          have h := HDN.out
                          rw [HPL.out, if_neg hne] at h
                          exact h
                        by_cases hkd : ei.1.kind = ek.1.kind
                        · rw [hkd] at fi1
                          by_cases hdm : ei.1.dom = ek.1.dom
                          · rw [hdm] at fi2
                            by_cases han : ei.2 = ek.2
                            · have hbb : (ei.2 == ek.2) = true := by simpa using han
                              rw [hbb] at heq
                              have hce : PS.clX ek = PS.clX ei := by unfold PS.clX; rw [hkd, hdm, han]
                              have HR : Hid ((dn ++ [(i, k)]) ++ ((PS.plc (PS.cls L1) (k + 1) (PS.clX ei)).map (fun q => (i, q)) ++ PS.restP (PS.cls L1) (i + 1)) = PS.pairs (PS.cls L1)) := by
                                have h := HDN.out
                                rw [HPL.out, if_pos hce] at h
                                rw [List.append_assoc]
                                exact h
                              have hdl : dn.length < 2000000 := by
                                have h := congrArg List.length HDN.out
                                have h2 := pairs_len (PS.cls L1)
                                rw [PS.cls_len] at h2
                                have h3 := Nat.mul_le_mul hN1 hN1
                                simp only [List.length_append] at h
                                omega
                              obtain ⟨i0, hi0, hz0, hz1, hz2⟩ := info_parts infoPr
                              have HI0 : Hid _ := hi0
                              have HI1 : Hid _ := hz0
                              have HI2 : Hid _ := hz1
                              have HI3 : Hid _ := hz2
                              have hcw := HWC.out.cell.1
                              have HOWN : Hid _ := HWC.out.own.alloc (.cells #[.int .i64 (i : Int), .int .i64 (k : Int)] 53 (0, 0))
                              have HNEW : Hid (∀ j u, [Value.int .i64 (i : Int), Value.int .i64 (k : Int)][j]? = some u → (WA.alloc (.cells #[.int .i64 (i : Int), .int .i64 (k : Int)] 53 (0, 0))).cell? ((⟨WA.heap.size, 0, none⟩ : Addr).add j) = some u) := fun j u hu => by
                                have h := rangeAt_row (heap_alloc_new WA (.cells [Value.int .i64 (i : Int), Value.int .i64 (k : Int)].toArray 53 (0, 0))) j u hu
                                rw [add_none]; exact h
                              have HA1 : Hid (∀ u ∈ [Value.int .i64 (i : Int), Value.int .i64 (k : Int)], u.oneCell' = true) := fun u hu => by
                                simp only [List.mem_cons, List.not_mem_nil, or_false] at hu
                                rcases hu with rfl | rfl <;> rfl
                              have hsW := HWC.out.bel.size
                              have hxw : XL.heap.size < WA.heap.size := row_lt HWC.out.c
                              have HZ : Hid (∀ (Z : World) (g2 cap3 : Nat), (WA.alloc (.cells #[.int .i64 (i : Int), .int .i64 (k : Int)] 53 (0, 0))).grownBy Z (Value.slice pw dn.length cw).ownBlock → Z.ownsRow (XL.heap.size + 1) 53 2 (.slice (some ⟨g2, 0, none⟩) (dn.length + 1) cap3) (dn.length + 1) (pC dn ++ [.int .i64 (i : Int), .int .i64 (k : Int)]) → Z.cell? ⟨XL.heap.size, 0, none⟩ = some (.slice pw dn.length cw) ∧ Z.frozen? ⟨XL.heap.size, 0, none⟩ = false ∧ WT XL (Z.setCell ⟨XL.heap.size, 0, none⟩ (.slice (some ⟨g2, 0, none⟩) (dn.length + 1) cap3)) (some ⟨g2, 0, none⟩) cap3 (dn ++ [(i, k)])) := fun Z g2 cap3 hgr hown => by
                                have hg := (World.grownBy_alloc WA (.cells #[.int .i64 (i : Int), .int .i64 (k : Int)] 53 (0, 0)) _).trans hgr
                                have hr : Z.heap[XL.heap.size]? = some (.cells #[.slice pw dn.length cw] 52 (0, 0)) := (hg.block _ (row_lt HWC.out.c) (fun e => by have := (HWC.out.own.lt _ e.symm).1; omega)).trans HWC.out.c
                                exact ⟨by rw [cell_of_row _ _ 0 _ _ _ hr]; rfl, frozen_of_row _ _ 0 _ _ hr, HWC.out.more hg hown⟩
                              clear hkd hdm han hbb HNO HDN HPL hce hi0 hz0 hz1 hz2
                              generalize ei.2.map B8 = A1 at *
                              generalize ek.2.map B8 = A2 at *
                              go_wp2_with (first
                                | (refine load_mid_g (by rfl) 29 _ rfl ba 35 rfl A1 _ HGI.out Tryz.underlying29 rfl HAi.out ?_)
                                | (refine load_mid_g (by rfl) 29 _ rfl bb 35 rfl A2 _ HGK.out Tryz.underlying29 rfl HAk.out ?_)
                                | (refine wpList_build rfl 53 _ rfl _ _ (by simp; first | done | rfl) (build_pair _ i k) ?_)
                                | (refine PS.wpListZ_bslice rfl 52 1 _ rfl _ _ (by simp; first | done | rfl) (bs_pair _ i k) ?_)
                                | (at_builtin; go_loud (refine wpList_append_lies _ rfl (.tmp 124) (.tmp 128) 52 rfl (XL.heap.size + 1) 53 i0 (.agg #[.int .i64 0, .int .i64 0]) 2 16 Tryz.underlying52 HI0.out HI1.out HI2.out HI3.out rfl (by decide) (.slice pw dn.length cw) dn.length (pC dn) rfl HOWN.out ⟨WA.heap.size, 0, none⟩ 1 1 [.int .i64 (i : Int), .int .i64 (k : Int)] rfl rfl HNEW.out HA1.out (by decide) (by unfold maxLen; omega) (by omega) (by simp; omega) (WA.heap.size + 1) (by simp) ?_; intro g2 cap3 Z hown4 hgr4 hgl4 hgZ4; obtain ⟨hzc, hzf, hwz⟩ := HZ.out Z g2 cap3 hgr4 hown4; have HWZ : Hid _ := hwz; clear hown4 hgr4 hgl4 hwz)))
                              go_roundw
                              case rel => exact ⟨k + 1, some ⟨g2, 0, none⟩, cap3, dn ++ [(i, k)], by omega, by omega, by go_num, HWZ.out, HR.out⟩
                              case measure => simp [intOf]; omega
                            · have hbb : (ei.2 == ek.2) = false := by simpa using han
                              rw [hbb] at heq
                              have HR : Hid _ := HNO.out (fun e => han (congrArg PS.Cl.ans e).symm)
                              clear hkd hdm han hbb HNO HDN HPL
                              generalize ei.2.map B8 = A1 at *
                              generalize ek.2.map B8 = A2 at *
                              go_wp2_with (first
                                | (refine load_mid_g (by rfl) 29 _ rfl ba 35 rfl A1 _ HGI.out Tryz.underlying29 rfl HAi.out ?_)
                                | (refine load_mid_g (by rfl) 29 _ rfl bb 35 rfl A2 _ HGK.out Tryz.underlying29 rfl HAk.out ?_))
                              go_roundw
                              case rel => exact ⟨k + 1, pw, cw, dn, by omega, by omega, by go_num, HWC.out, HR.out⟩
                              case measure => simp [intOf]; omega
                          · have HR : Hid _ := HNO.out (fun e => hdm (congrArg PS.Cl.dom e).symm)
                            go_wp2
                            go_roundw
                            case rel => exact ⟨k + 1, pw, cw, dn, by omega, by omega, by go_num, HWC.out, HR.out⟩
                            case measure => simp [intOf]; omega
                        · have HR : Hid _ := HNO.out (fun e => hkd (congrArg PS.Cl.kind e).symm)
                          go_wp2
                          go_roundw
                          case rel => exact ⟨k + 1, pw, cw, dn, by omega, by omega, by go_num, HWC.out, HR.out⟩
                          case measure => simp [intOf]; omega
                    · have hke : k = NL := by omega
                      subst hke
                      have hkI : ¬ (k : Int) < (k : Int) := by omega
                      have HDE : Hid (dn ++ PS.restP (PS.cls L1) (i + 1) = PS.pairs (PS.cls L1)) := by
                        have h := HDN.out
                        rw [HNL.out, ← PS.cls_len L1, plc_end] at h
                        exact h
                      clear hdn HDN hw
                      go_wp2
                      go_roundw
                      case rel => exact ⟨i + 1, pw, cw, dn, by omega, by go_num, HW.out, HDE.out⟩
                      case measure => simp [intOf]; omega
                · have hie : i = NL := by omega
                  subst hie
                  have hiI : ¬ (i : Int) < (i : Int) := by omega
                  have HDE : Hid (dn = PS.pairs (PS.cls L1)) := by
                    have h := HDN.out
                    rw [HNL.out, ← PS.cls_len L1, PS.restP_end, List.append_nil] at h
                    exact h
                  clear HDN hlt hi
                  generalize wr = XP at *
                  have hdst := distinct_any rg i dr ds XP.drew (by omega) ((HLF.out.step HW.out.bel.drew).c33) ((HLF.out.step HW.out.bel.drew).dh)
                  have HDST : Hid _ := hdst
                  have hc34 := (HLF.out.step HW.out.bel).c34
                  rw [← HNL.out] at hc34
                  have hcw := HW.out.cell.1
                  have HBP : Hid (Below XP.heap.size XP XP.drew) := (Below.refl _ _).drew
                  have HNP : Hid ((∀ j, j < i → ∀ k, k < j → drawD ds j ≠ drawD ds k) → dn.length = 0) := fun h => by rw [HDE.out, no_pairs HANS.out (by rw [← HNL.out]; exact h)]; rfl
                  clear hdst
                  go_upto_region 25 with fail
                  go_cut [140] from 130 to 139 (fun v X => v = .bool false ∧ Below XP.heap.size XP X)
                  case first =>
                    refine wp_only ?_
                    refine wp_region_held_drew (S := Below XP.heap.size XP) (by kernel_rfl) HBP.out (fun hHeld => ?_)
                    generalize XP.drew = W1 at *
                    refine wpAnyH_take (i := 0) (oi := { dst := some 130, op := Go.Op.load 30 (Go.Operand.tmp 7), type := 30, pos := _, after := #[], guard := none }) (v := .pointer (some ⟨rg, 0, none⟩)) rfl (by kernel_rfl) (by kernel_rfl) (by kernel_rfl) (fun _ _ _ h => h) (Or.inl ⟨by rfl, fun w' hw' => ?_⟩) hHeld ?_
                    · have hcc := (hw'.cell (block_lt hcn)).trans hcn; first | (go_simp; done) | (go_simp; rfl)
                    try simp only [Act.put, List.setIfInBounds_toArray, List.set_cons_zero, List.set_cons_succ]
                    refine wpAnyH_take (i := 1) (oi := { dst := some 131, op := Go.Op.load 30 (Go.Operand.tmp 7), type := 30, pos := _, after := #[], guard := none }) (v := .pointer (some ⟨rg, 0, none⟩)) rfl (by kernel_rfl) (by kernel_rfl) (by kernel_rfl) (fun _ _ _ h => h) (Or.inl ⟨by rfl, fun w' hw' => ?_⟩) hHeld ?_
                    · have hcc := (hw'.cell (block_lt hcn)).trans hcn; first | (go_simp; done) | (go_simp; rfl)
                    try simp only [Act.put, List.setIfInBounds_toArray, List.set_cons_zero, List.set_cons_succ]
                    refine wpAnyH_take (i := 2) (oi := { dst := some 132, op := Go.Op.nilCheck (Go.Operand.tmp 131), type := 0, pos := _, after := #[{ on := 1, ground := Go.Ground.data }], guard := none }) (v := .pointer (some ⟨rg, 0, none⟩)) rfl (by kernel_rfl) (by kernel_rfl) (by kernel_rfl) (fun _ _ _ h => h) (Or.inl ⟨by rfl, fun w' hw' => ?_⟩) hHeld ?_
                    · first | (go_simp; done) | (go_simp; rfl)
                    try simp only [Act.put, List.setIfInBounds_toArray, List.set_cons_zero, List.set_cons_succ]
                    refine wpAnyH_take (i := 3) (oi := { dst := some 133, op := Go.Op.fieldAddr 33 (Go.Operand.tmp 132) 3, type := 0, pos := _, after := #[{ on := 2, ground := Go.Ground.data }], guard := none }) (v := .pointer (some ⟨rg, 34, none⟩)) rfl (by kernel_rfl) (by kernel_rfl) (by kernel_rfl) (fun _ _ _ h => h) (Or.inl ⟨by rfl, fun w' hw' => ?_⟩) hHeld ?_
                    · first | (go_simp; done) | (go_simp; rfl)
                    try simp only [Act.put, List.setIfInBounds_toArray, List.set_cons_zero, List.set_cons_succ]
                    refine wpAnyH_take (i := 4) (oi := { dst := some 134, op := Go.Op.load 3 (Go.Operand.tmp 133), type := 3, pos := _, after := #[{ on := 3, ground := Go.Ground.data }], guard := none }) (v := .int .i64 (i : Int)) rfl (by kernel_rfl) (by kernel_rfl) (by kernel_rfl) (fun _ _ _ h => h) (Or.inl ⟨by rfl, fun w' hw' => ?_⟩) hHeld ?_
                    · have hcc := (hw'.cell (block_lt hc34)).trans hc34; first | (go_simp; done) | (go_simp; rfl)
                    try simp only [Act.put, List.setIfInBounds_toArray, List.set_cons_zero, List.set_cons_succ]
                    refine wpAnyH_ready (rs := [5]) (by kernel_rfl) (by simp) ?_
                    refine AllReadyH.cons (o := { dst := some 135, op := Go.Op.call { callee := Go.Callee.value (Go.Operand.func 14), args := #[Go.Operand.tmp 130, Go.Operand.tmp 134], argTypes := #[30, 3] }, type := 4, pos := _, after := #[{ on := 0, ground := Go.Ground.data }, { on := 4, ground := Go.Ground.data }], guard := none }) rfl (fun K hK => ?_) AllReadyH.nil
                    rw [if_pos (by rfl)]
                    go_wp2_with fail
                    refine Calls.mono HDST.out ?_
                    rintro e W2 ⟨b, rfl, hbd, hb2⟩
                    have hHeld2 : Below XP.heap.size XP W2 := hHeld.trans (hb2.mono hHeld.size)
                    refine hK.out _ _ hHeld2 (fun _ => ?_)
                    clear hK K
                    try simp only [Act.put, List.setIfInBounds_toArray, List.set_cons_zero, List.set_cons_succ]
                    clear hHeld
                    have hHeld := hHeld2
                    cases b with
                    | false =>
                      refine wpAnyH_take (i := 6) (oi := { dst := some 136, op := Go.Op.move (Go.Operand.tmp 135), type := 4, pos := _, after := #[{ on := 5, ground := Go.Ground.data }, { on := 5, ground := Go.Ground.chain }], guard := none }) (v := .bool false) rfl (by kernel_rfl) (by kernel_rfl) (by kernel_rfl) (fun _ _ _ h => h) (Or.inl ⟨by rfl, fun w' hw' => ?_⟩) hHeld ?_
                      · first | (go_simp; done) | (go_simp; rfl)
                      try simp only [Act.put, List.setIfInBounds_toArray, List.set_cons_zero, List.set_cons_succ]
                      refine wpAnyH_take (i := 7) (oi := { dst := some 137, op := Go.Op.load 52 (Go.Operand.tmp 9), type := 52, pos := _, after := #[{ on := 6, ground := Go.Ground.guard }], guard := some (6, true) }) (v := undef) rfl (by kernel_rfl) (by kernel_rfl) (by kernel_rfl) (fun _ _ _ h => h) (Or.inr ⟨by rfl, rfl⟩) hHeld ?_
                      try simp only [Act.put, List.setIfInBounds_toArray, List.set_cons_zero, List.set_cons_succ]
                      refine wpAnyH_take (i := 8) (oi := { dst := some 138, op := Go.Op.call { callee := Go.Callee.builtin Go.Builtin.len, args := #[Go.Operand.tmp 137], argTypes := #[52] }, type := 3, pos := _, after := #[{ on := 7, ground := Go.Ground.data }, { on := 6, ground := Go.Ground.guard }], guard := some (6, true) }) (v := undef) rfl (by kernel_rfl) (by kernel_rfl) (by kernel_rfl) (fun _ _ _ h => h) (Or.inr ⟨by rfl, rfl⟩) hHeld ?_
                      try simp only [Act.put, List.setIfInBounds_toArray, List.set_cons_zero, List.set_cons_succ]
                      refine wpAnyH_take (i := 9) (oi := { dst := some 139, op := Go.Op.binOp Go.BinOp.gtr 3 (Go.Operand.tmp 138) (Go.Operand.const (Go.Value.int Go.IntKind.i64 0)) 3, type := 4, pos := _, after := #[{ on := 8, ground := Go.Ground.data }, { on := 6, ground := Go.Ground.guard }], guard := some (6, true) }) (v := undef) rfl (by kernel_rfl) (by kernel_rfl) (by kernel_rfl) (fun _ _ _ h => h) (Or.inr ⟨by rfl, rfl⟩) hHeld ?_
                      try simp only [Act.put, List.setIfInBounds_toArray, List.set_cons_zero, List.set_cons_succ]
                      refine wpAnyH_take (i := 10) (oi := { dst := some 140, op := Go.Op.pick (Go.Operand.tmp 136) (Go.Operand.tmp 139) (Go.Operand.const (Go.Value.bool false)), type := 4, pos := _, after := #[{ on := 6, ground := Go.Ground.data }, { on := 9, ground := Go.Ground.data }], guard := none }) (v := .bool false) rfl (by kernel_rfl) (by kernel_rfl) (by kernel_rfl) (fun _ _ _ h => h) (Or.inl ⟨by rfl, fun w' hw' => ?_⟩) hHeld ?_
                      · first | (go_simp; done) | (go_simp; rfl)
                      try simp only [Act.put, List.setIfInBounds_toArray, List.set_cons_zero, List.set_cons_succ]
                      refine wpAnyH_done (by kernel_rfl) ?_ _
                      go_wp2_with fail
                      go_meet
                      case rel => exact ⟨rfl, hHeld⟩
                    | true =>
                      have hz := HNP.out (hbd rfl)
                      have hcw0 : XP.cell? ⟨XL.heap.size, 0, none⟩ = some (.slice pw 0 cw) := by have h := hcw; rw [hz] at h; exact h
                      refine wpAnyH_take (i := 6) (oi := { dst := some 136, op := Go.Op.move (Go.Operand.tmp 135), type := 4, pos := _, after := #[{ on := 5, ground := Go.Ground.data }, { on := 5, ground := Go.Ground.chain }], guard := none }) (v := .bool true) rfl (by kernel_rfl) (by kernel_rfl) (by kernel_rfl) (fun _ _ _ h => h) (Or.inl ⟨by rfl, fun w' hw' => ?_⟩) hHeld ?_
                      · first | (go_simp; done) | (go_simp; rfl)
                      try simp only [Act.put, List.setIfInBounds_toArray, List.set_cons_zero, List.set_cons_succ]
                      refine wpAnyH_take (i := 7) (oi := { dst := some 137, op := Go.Op.load 52 (Go.Operand.tmp 9), type := 52, pos := _, after := #[{ on := 6, ground := Go.Ground.guard }], guard := some (6, true) }) (v := .slice pw 0 cw) rfl (by kernel_rfl) (by kernel_rfl) (by kernel_rfl) (fun _ _ _ h => h) (Or.inl ⟨by rfl, fun w' hw' => ?_⟩) hHeld ?_
                      · have hcc := (hw'.cell (block_lt hcw0)).trans hcw0; first | (go_simp; done) | (go_simp; rfl)
                      try simp only [Act.put, List.setIfInBounds_toArray, List.set_cons_zero, List.set_cons_succ]
                      refine wpAnyH_take (i := 8) (oi := { dst := some 138, op := Go.Op.call { callee := Go.Callee.builtin Go.Builtin.len, args := #[Go.Operand.tmp 137], argTypes := #[52] }, type := 3, pos := _, after := #[{ on := 7, ground := Go.Ground.data }, { on := 6, ground := Go.Ground.guard }], guard := some (6, true) }) (v := .int .i64 0) rfl (by kernel_rfl) (by kernel_rfl) (by kernel_rfl) (fun _ _ _ h => h) (Or.inl ⟨by rfl, fun w' hw' => ?_⟩) hHeld ?_
                      · first | (go_simp; done) | (go_simp; rfl)
                      try simp only [Act.put, List.setIfInBounds_toArray, List.set_cons_zero, List.set_cons_succ]
                      refine wpAnyH_take (i := 9) (oi := { dst := some 139, op := Go.Op.binOp Go.BinOp.gtr 3 (Go.Operand.tmp 138) (Go.Operand.const (Go.Value.int Go.IntKind.i64 0)) 3, type := 4, pos := _, after := #[{ on := 8, ground := Go.Ground.data }, { on := 6, ground := Go.Ground.guard }], guard := some (6, true) }) (v := .bool false) rfl (by kernel_rfl) (by kernel_rfl) (by kernel_rfl) (fun _ _ _ h => h) (Or.inl ⟨by rfl, fun w' hw' => ?_⟩) hHeld ?_
                      · first | (go_simp; done) | (go_simp; rfl)
                      try simp only [Act.put, List.setIfInBounds_toArray, List.set_cons_zero, List.set_cons_succ]
                      refine wpAnyH_take (i := 10) (oi := { dst := some 140, op := Go.Op.pick (Go.Operand.tmp 136) (Go.Operand.tmp 139) (Go.Operand.const (Go.Value.bool false)), type := 4, pos := _, after := #[{ on := 6, ground := Go.Ground.data }, { on := 9, ground := Go.Ground.data }], guard := none }) (v := .bool false) rfl (by kernel_rfl) (by kernel_rfl) (by kernel_rfl) (fun _ _ _ h => h) (Or.inl ⟨by rfl, fun w' hw' => ?_⟩) hHeld ?_
                      · first | (go_simp; done) | (go_simp; rfl)
                      try simp only [Act.put, List.setIfInBounds_toArray, List.set_cons_zero, List.set_cons_succ]
                      refine wpAnyH_done (by kernel_rfl) ?_ _
                      go_wp2_with fail
                      go_meet
                      case rel => exact ⟨rfl, hHeld⟩
                  case rest =>
                    obtain ⟨rfl, hbq⟩ := hcut
                    generalize wc = XB at *
                    have HWB : Hid _ := HW.out.step hbq
                    have hbB := HWB.out.bel
                    obtain ⟨S, dv, ov, hpo, hov, hdv⟩ := HM2.out.po
                    have hpo' := hpo.below hbB
                    have HBR : Hid _ := PS.breaks_any hpo' (Nat.le_trans HM2.out.bel.size hbB.size) hov hdv
                    have heqn := fun W b => eq_nilb W b
                    have HPO : Hid _ := hpo'
                    clear hpo hpo' hbq HDST HBP HNP hov hdv hcn hc35 hc34 hcw HW
                    go_wp2_with fail
                    refine Calls.mono HBR.out ?_
                    rintro e XR ⟨rfl, hbr, hsr, hpr⟩
                    have HPR : Hid _ := hpr
                    have HWR : Hid _ := HWB.out.step hbr
                    clear HBR HPO
                    have hbn : Below XR.heap.size XR (XR.alloc (.cells #[.int .i64 0] 3 (0, 0))) := (Below.refl _ _).alloc (Nat.le_refl _) _
                    have HIN : Hid (IR XL XR.heap.size pw cw dn 0 (XR.alloc (.cells #[.int .i64 0] 3 (0, 0)))) := ⟨HWR.out.step hbn, heap_alloc_new _ _⟩
                    have HPN : Hid _ := hpr.below hbn
                    have hxn : XL.heap.size < XR.heap.size := row_lt HWR.out.c
                    have HPW : Hid (∀ b, (Value.slice pw dn.length cw).ownBlock = some b → b < XR.heap.size) := fun b hb => (HWR.out.own.lt b hb).2
                    have hsn : (XR.alloc (.cells #[.int .i64 0] 3 (0, 0))).heap.size = XR.heap.size + 1 := by simp
                    have HSN : Hid _ := hsn
                    have HTP : Hid ((∀ k, (S k ∨ k = XB.heap.size) → k < XR.heap.size) ∧ ∀ k, dv.ownBlock = some k → k < XR.heap.size) := ⟨fun k hk => hpr.top k hk, fun k hk => (hpr.dro k hk).2⟩
                    clear hpr HPR hbn HWR HWB hbr hsr hsn
                    go_wp2
                    generalize XR.alloc (.cells #[.int .i64 0] 3 (0, 0)) = WN at *
                    generalize XR.heap.size = nr at *
                    by_cases h0 : 0 < i
                    · refine PS.range_pairs (o := pr ZZ ds L1) rfl rfl HPN.out (by show L1.length < 1000000; omega) (by show 0 < L1.length; have := HNL.out; omega) (IR XL nr pw cw dn) (fun k X Y h hb => h.step hb) (fun k X l ob h hl => h.put hxn HPW.out (by have := HSN.out; omega) ob) HIN.out ?_ ?_
                      · intro l k pq X A1 A2 e1 e2 hp he1 he2 hI hA1 hA2 hl hX hlp
                        obtain ⟨b1, ca1, rfl, hb1⟩ := hA1
                        obtain ⟨b2, ca2, rfl, hb2⟩ := hA2
                        obtain ⟨_, _, _, _, _, hk1, ha1, _⟩ := HLF.out.rows pq.1 e1 he1
                        obtain ⟨_, _, _, _, _, hk2, ha2, _⟩ := HLF.out.rows pq.2 e2 he2
                        have hdk : dn[k]? = some pq := by rw [HDE.out]; exact hp
                        have hkl : k < dn.length := (List.getElem?_eq_some_iff.1 hdk).1
                        have hp1 : pq.1 < i := by have := (List.getElem?_eq_some_iff.1 he1).1; have h2 := HNL.out; have h3 : (pr ZZ ds L1).log.length = L1.length := rfl; omega
                        have hp2 : pq.2 < i := by have := (List.getElem?_eq_some_iff.1 he2).1; have h2 := HNL.out; have h3 : (pr ZZ ds L1).log.length = L1.length := rfl; omega
                        have HAT : Hid _ := hI
                        obtain ⟨AL1, hAL1⟩ : ∃ L, L = aL e1 (.slice (some ⟨b1, 0, none⟩) e1.1.data.length ca1) := ⟨_, rfl⟩
                        obtain ⟨AL2, hAL2⟩ : ∃ L, L = aL e2 (.slice (some ⟨b2, 0, none⟩) e2.1.data.length ca2) := ⟨_, rfl⟩
                        have hlI : AL1.length = 67 := by rw [hAL1]; exact aL_len _ _ hk1 ha1
                        have hlK : AL2.length = 67 := by rw [hAL2]; exact aL_len _ _ hk2 ha2
                        have h1I : AL1.toArray.all (·.oneCell') = true := by rw [hAL1]; exact PS.all_ofN (aL_one e1 _ _ _)
                        have h1K : AL2.toArray.all (·.oneCell') = true := by rw [hAL2]; exact PS.all_ofN (aL_one e2 _ _ _)
                        have hzv := fun W => zero_ask W
                        obtain ⟨ZK, hZK⟩ : ∃ Z, Z = zAk.toArray := ⟨_, rfl⟩
                        rw [← hZK] at hzv
                        have HZS : Hid (ZK.size = 67) := by show _ = _; rw [hZK]; kernel_rfl
                        rw [← hAL1, ← hAL2]
                        have HE1 : Hid _ := hAL1
                        have HE2 : Hid _ := hAL2
                        clear hZK hp hAL1 hAL2
                        simp only [List.zip_toArray, List.zip_cons_cons, List.zip_nil_left, List.zip_nil_right, List.foldl_toArray, List.foldl_cons, List.foldl_nil, List.setIfInBounds_toArray, List.set_cons_succ, List.set_cons_zero]
                        have HN1 : Hid ((X.alloc (.cells ZK 47 (0, 0))).heap[X.heap.size]? = some (.cells ZK 47 (0, 0))) := heap_alloc_new _ _
                        obtain ⟨X1, hX1⟩ : ∃ X1, X1 = (X.alloc (.cells ZK 47 (0, 0))).setRow X.heap.size AL1.toArray := ⟨_, rfl⟩
                        have HX1 : Hid _ := hX1
                        have HN2 : Hid ((X1.alloc (.cells ZK 47 (0, 0))).heap[X1.heap.size]? = some (.cells ZK 47 (0, 0))) := heap_alloc_new _ _
                        have hb1 : Below X.heap.size X X1 := by rw [hX1]; exact below_setRow ((Below.refl _ _).alloc (Nat.le_refl _) _) (Nat.le_refl _) _
                        have hs1 : X1.heap.size = X.heap.size + 1 := by rw [hX1]; simp
                        have hr11 : X1.heap[X.heap.size]? = some (.cells AL1.toArray 47 (0, 0)) := by rw [hX1]; exact setRow_heap _ _ _ _ _ _ HN1.out
                        clear hX1
                        refine wpIn_seq ?_
                        refine region_plain (by kernel_rfl) (fun h => by obtain ⟨_, _, h⟩ := h; exact h) ?_
                        go_wp2_with (first
                          | (refine wpList_store_row rfl 47 _ _ rfl X.heap.size AL1.toArray rfl rfl 47 ZK HN1.out (info67a _ (by simpa using hlI)) (by rw [HZS.out]; simpa using hlI.symm) h1I ?_))
                        rw [← HX1.out]
                        have HB1 : Hid _ := hb1
                        have HR1 : Hid _ := hr11
                        have HS1 : Hid _ := hs1
                        clear hb1 hr11 hs1 HX1
                        change Code.wpIn _ _ _ _ _ _ _
                        refine region_plain (by kernel_rfl) (fun h => by obtain ⟨_, _, h⟩ := h; exact h) ?_
                        go_wp2_with (first
                          | (refine wpList_store_row rfl 47 _ _ rfl X1.heap.size AL2.toArray rfl rfl 47 ZK HN2.out (info67a _ (by simpa using hlK)) (by rw [HZS.out]; simpa using hlK.symm) h1K ?_))
                        have hba : Below X1.heap.size X1 ((X1.alloc (.cells ZK 47 (0, 0))).setRow X1.heap.size AL2.toArray) := below_setRow ((Below.refl _ _).alloc (Nat.le_refl _) _) (Nat.le_refl _) _
                        have hr22 := setRow_heap _ _ _ AL2.toArray _ _ HN2.out
                        have hr12 : ((X1.alloc (.cells ZK 47 (0, 0))).setRow X1.heap.size AL2.toArray).heap[X.heap.size]? = some (.cells AL1.toArray 47 (0, 0)) := (hba.block _ (row_lt HR1.out)).trans HR1.out
                        have hbY : Below X.heap.size X ((X1.alloc (.cells ZK 47 (0, 0))).setRow X1.heap.size AL2.toArray) := HB1.out.trans (hba.mono HB1.out.size)
                        clear hba
                        generalize (X1.alloc (.cells ZK 47 (0, 0))).setRow X1.heap.size AL2.toArray = Y at *
                        refine ⟨hbY, fun X2 _ hX2 => ?_⟩
                        obtain ⟨ob, hX2⟩ := hX2
                        obtain ⟨rl, hlp⟩ := hlp
                        have hs1 := HS1.out
                        have hsY := hbY.size
                        have hkX : ∀ j, j < X.heap.size → j ≠ l → X2.heap[j]? = X.heap[j]? := fun j hj hne => by rw [hX2, World.putObj_heap_other hne]; exact hbY.block j hj
                        have HIR : Hid (IR XL nr pw cw dn k X2) := by show IR _ _ _ _ _ _ _; rw [hX2]; exact (hI.step hbY).put hxn HPW.out (by have := HSN.out; omega) ob
                        have hq1 : X2.heap[X.heap.size]? = some (.cells AL1.toArray 47 (0, 0)) := by rw [hX2, World.putObj_heap_other (by omega)]; exact hr12
                        have hq2 : X2.heap[X1.heap.size]? = some (.cells AL2.toArray 47 (0, 0)) := by rw [hX2, World.putObj_heap_other (by omega)]; exact hr22
                        obtain ⟨gw, hpw, hw1, hw2⟩ := HIR.out.wt.pair hdk
                        obtain ⟨g, pd1, cd1, hpl, hr1, _, _, hd1⟩ := (HLF.out.step HIR.out.wt.bel).rows pq.1 e1 he1
                        obtain ⟨g', pd2, cd2, hpl', hr2, _, _, hd2⟩ := (HLF.out.step HIR.out.wt.bel).rows pq.2 e2 he2
                        have hgg : g' = g := by rw [hpl] at hpl'; simpa using hpl'.symm
                        subst hgg
                        have hcn := HCN.out X2 HIR.out.wt.bel
                        have hc35 := (HLF.out.step HIR.out.wt.bel).c35
                        rw [← HNL.out, hpl] at hc35
                        have hcn9 := HIR.out.wt.cell.1
                        rw [hpw] at hcn9
                        have hcn15 := HIR.out.cell.1
                        have HB1 : Hid _ := hb_put hb1 hlp hkX
                        have HB2 : Hid _ := hb_put hb2 hlp hkX
                        have hra := rangeAt_row hq1
                        rw [HE1.out] at hra
                        have hrb := rangeAt_row hq2
                        rw [HE2.out] at hrb
                        have HQ1 : Hid _ := (a_facts hk1 hra).2.2.2
                        have HQ2 : Hid _ := (a_facts hk2 hrb).2.2.2
                        have HG1 : Hid _ := (a_facts hk1 hr1).2.2.2
                        have HG2 : Hid _ := (a_facts hk2 hr2).2.2.2
                        have huQ := Tryz.underlying39
                        have hi1 := info35 (qL e1.1 (.slice (some ⟨b1, 0, none⟩) e1.1.data.length ca1)) (qL_len _ _ hk1)
                        have hi2 := info35 (qL e2.1 (.slice (some ⟨b2, 0, none⟩) e2.1.data.length ca2)) (qL_len _ _ hk2)
                        have hj1 := info35 (qL e1.1 (.slice pd1 e1.1.data.length cd1)) (qL_len _ _ hk1)
                        have hj2 := info35 (qL e2.1 (.slice pd2 e2.1.data.length cd2)) (qL_len _ _ hk2)
                        have HSM1 : Hid (∀ Z, Below X2.heap.size X2 Z → Calls Tryz.prog 16 #[.agg (qL e1.1 (.slice (some ⟨b1, 0, none⟩) e1.1.data.length ca1)).toArray, .agg (qL e1.1 (.slice pd1 e1.1.data.length cd1)).toArray] Z fun e Z' => e = .returned (.bool true) ∧ Below Z.heap.size Z Z') := fun Z hZ => by
                          have h := qsame_any _ _ e1.1 e1.1 Z ⟨hk1, _, rfl, HB.below HB1.out hZ⟩ ⟨hk1, _, rfl, hd1.below hZ⟩
                          simpa using h
                        have HSM2 : Hid (∀ Z, Below X2.heap.size X2 Z → Calls Tryz.prog 16 #[.agg (qL e2.1 (.slice (some ⟨b2, 0, none⟩) e2.1.data.length ca2)).toArray, .agg (qL e2.1 (.slice pd2 e2.1.data.length cd2)).toArray] Z fun e Z' => e = .returned (.bool true) ∧ Below Z.heap.size Z Z') := fun Z hZ => by
                          have h := qsame_any _ _ e2.1 e2.1 Z ⟨hk2, _, rfl, HB.below HB2.out hZ⟩ ⟨hk2, _, rfl, hd2.below hZ⟩
                          simpa using h
                        generalize qL e1.1 (.slice (some ⟨b1, 0, none⟩) e1.1.data.length ca1) = Q1 at *
                        generalize qL e2.1 (.slice (some ⟨b2, 0, none⟩) e2.1.data.length ca2) = Q2 at *
                        generalize qL e1.1 (.slice pd1 e1.1.data.length cd1) = Q3 at *
                        generalize qL e2.1 (.slice pd2 e2.1.data.length cd2) = Q4 at *
                        have HKX : Hid (∀ j, j < X2.heap.size → j = j) := fun j _ => rfl
                        generalize pq.1 = i1 at *
                        generalize pq.2 = i2 at *
                        have HBD : Hid (Below X2.heap.size X2 X2.drew) := (Below.refl _ _).drew
                        have hp1I : (i1 : Int) < (i : Int) := by omega
                        have hp2I : (i2 : Int) < (i : Int) := by omega
                        have hklI : ¬ ((dn.length : Int) ≤ (k : Int)) := by omega
                        have hklJ : (k : Int) < (dn.length : Int) := by omega
                        clear hX2 hq1 hq2 hra hrb hr1 hr2 hd1 hd2 hkX hlp hr12 hr22 hbY hb1 hb2
                        refine wpIn_block (wpIn_seq (wpIn_seq ?_))
                        refine region_round (S := Below X2.heap.size X2) (by kernel_rfl) (by kernel_rfl) (fun h => by obtain ⟨_, _, h1, _⟩ := h; cases h1) HBD.out (fun hHeld => ?_)
                        generalize X2.drew = V at *
                        refine wpAnyH_take (i := 0) (oi := { dst := some 148, op := Go.Op.load 3 (Go.Operand.tmp 15), type := 3, pos := _, after := #[], guard := none }) (v := .int .i64 (k : Int)) rfl (by kernel_rfl) (by kernel_rfl) (by kernel_rfl) (fun _ _ _ h => h) (Or.inl ⟨by rfl, fun w' hw' => ?_⟩) hHeld ?_
                        · have hcc := (hw'.cell (block_lt hcn15)).trans hcn15; first | (go_simp; done) | (go_simp; rfl)
                        try simp only [Act.put, List.setIfInBounds_toArray, List.set_cons_zero, List.set_cons_succ]
                        refine wpAnyH_take (i := 1) (oi := { dst := some 149, op := Go.Op.load 52 (Go.Operand.tmp 9), type := 52, pos := _, after := #[], guard := none }) (v := .slice (some ⟨gw, 0, none⟩) dn.length cw) rfl (by kernel_rfl) (by kernel_rfl) (by kernel_rfl) (fun _ _ _ h => h) (Or.inl ⟨by rfl, fun w' hw' => ?_⟩) hHeld ?_
                        · have hcc := (hw'.cell (block_lt hcn9)).trans hcn9; first | (go_simp; done) | (go_simp; rfl)
                        try simp only [Act.put, List.setIfInBounds_toArray, List.set_cons_zero, List.set_cons_succ]
                        refine wpAnyH_take (i := 2) (oi := { dst := some 150, op := Go.Op.call { callee := Go.Callee.builtin Go.Builtin.len, args := #[Go.Operand.tmp 149], argTypes := #[52] }, type := 3, pos := _, after := #[{ on := 1, ground := Go.Ground.data }], guard := none }) (v := .int .i64 (dn.length : Int)) rfl (by kernel_rfl) (by kernel_rfl) (by kernel_rfl) (fun _ _ _ h => h) (Or.inl ⟨by rfl, fun w' hw' => ?_⟩) hHeld ?_
                        · first | (go_simp; done) | (go_simp; rfl)
                        try simp only [Act.put, List.setIfInBounds_toArray, List.set_cons_zero, List.set_cons_succ]
                        refine wpAnyH_take (i := 3) (oi := { dst := some 151, op := Go.Op.binOp Go.BinOp.geq 3 (Go.Operand.tmp 148) (Go.Operand.tmp 150) 3, type := 4, pos := _, after := #[{ on := 0, ground := Go.Ground.data }, { on := 2, ground := Go.Ground.data }], guard := none }) (v := .bool false) rfl (by kernel_rfl) (by kernel_rfl) (by kernel_rfl) (fun _ _ _ h => h) (Or.inl ⟨by rfl, fun w' hw' => ?_⟩) hHeld ?_
                        · first | (go_simp; done) | (go_simp; rfl)
                        try simp only [Act.put, List.setIfInBounds_toArray, List.set_cons_zero, List.set_cons_succ]
                        refine wpAnyH_take (i := 4) (oi := { dst := some 152, op := Go.Op.move (Go.Operand.tmp 151), type := 4, pos := _, after := #[{ on := 3, ground := Go.Ground.data }], guard := none }) (v := .bool false) rfl (by kernel_rfl) (by kernel_rfl) (by kernel_rfl) (fun _ _ _ h => h) (Or.inl ⟨by rfl, fun w' hw' => ?_⟩) hHeld ?_
                        · first | (go_simp; done) | (go_simp; rfl)
                        try simp only [Act.put, List.setIfInBounds_toArray, List.set_cons_zero, List.set_cons_succ]
                        refine wpAnyH_take (i := 5) (oi := { dst := some 153, op := Go.Op.fieldAddr 47 (Go.Operand.tmp 16) 0, type := 0, pos := _, after := #[{ on := 4, ground := Go.Ground.guard }], guard := some (4, false) }) (v := .pointer (some ⟨X.heap.size, 0, none⟩)) rfl (by kernel_rfl) (by kernel_rfl) (by kernel_rfl) (fun _ _ _ h => h) (Or.inl ⟨by rfl, fun w' hw' => ?_⟩) hHeld ?_
                        · first | (go_simp; done) | (go_simp; rfl)
                        try simp only [Act.put, List.setIfInBounds_toArray, List.set_cons_zero, List.set_cons_succ]
                        refine wpAnyH_take (i := 6) (oi := { dst := some 154, op := Go.Op.load 39 (Go.Operand.tmp 153), type := 39, pos := _, after := #[{ on := 5, ground := Go.Ground.data }, { on := 4, ground := Go.Ground.guard }], guard := some (4, false) }) rfl (by kernel_rfl) (by kernel_rfl) (by kernel_rfl) (fun _ _ _ h => h) (yieldsIf_load_mid (by rfl) 39 (.tmp 153) rfl (X.heap.size) (0) rfl (Q1) _ (fun _ h => rangeAt_below HQ1.out h) huQ rfl hi1) hHeld ?_
                        try simp only [Act.put, List.setIfInBounds_toArray, List.set_cons_zero, List.set_cons_succ]
                        refine wpAnyH_take (i := 7) (oi := { dst := some 155, op := Go.Op.load 30 (Go.Operand.tmp 7), type := 30, pos := _, after := #[{ on := 4, ground := Go.Ground.guard }], guard := some (4, false) }) (v := .pointer (some ⟨rg, 0, none⟩)) rfl (by kernel_rfl) (by kernel_rfl) (by kernel_rfl) (fun _ _ _ h => h) (Or.inl ⟨by rfl, fun w' hw' => ?_⟩) hHeld ?_
                        · have hcc := (hw'.cell (block_lt hcn)).trans hcn; first | (go_simp; done) | (go_simp; rfl)
                        try simp only [Act.put, List.setIfInBounds_toArray, List.set_cons_zero, List.set_cons_succ]
                        refine wpAnyH_take (i := 8) (oi := { dst := some 156, op := Go.Op.nilCheck (Go.Operand.tmp 155), type := 0, pos := _, after := #[{ on := 7, ground := Go.Ground.data }, { on := 4, ground := Go.Ground.guard }], guard := some (4, false) }) (v := .pointer (some ⟨rg, 0, none⟩)) rfl (by kernel_rfl) (by kernel_rfl) (by kernel_rfl) (fun _ _ _ h => h) (Or.inl ⟨by rfl, fun w' hw' => ?_⟩) hHeld ?_
                        · first | (go_simp; done) | (go_simp; rfl)
                        try simp only [Act.put, List.setIfInBounds_toArray, List.set_cons_zero, List.set_cons_succ]
                        refine wpAnyH_take (i := 9) (oi := { dst := some 157, op := Go.Op.fieldAddr 33 (Go.Operand.tmp 156) 4, type := 0, pos := _, after := #[{ on := 8, ground := Go.Ground.data }, { on := 4, ground := Go.Ground.guard }], guard := some (4, false) }) (v := .pointer (some ⟨rg, 35, none⟩)) rfl (by kernel_rfl) (by kernel_rfl) (by kernel_rfl) (fun _ _ _ h => h) (Or.inl ⟨by rfl, fun w' hw' => ?_⟩) hHeld ?_
                        · first | (go_simp; done) | (go_simp; rfl)
                        try simp only [Act.put, List.setIfInBounds_toArray, List.set_cons_zero, List.set_cons_succ]
                        refine wpAnyH_take (i := 10) (oi := { dst := some 158, op := Go.Op.load 31 (Go.Operand.tmp 157), type := 31, pos := _, after := #[{ on := 9, ground := Go.Ground.data }, { on := 4, ground := Go.Ground.guard }], guard := some (4, false) }) (v := .slice (some ⟨g', 0, none⟩) i cl) rfl (by kernel_rfl) (by kernel_rfl) (by kernel_rfl) (fun _ _ _ h => h) (Or.inl ⟨by rfl, fun w' hw' => ?_⟩) hHeld ?_
                        · have hcc := (hw'.cell (block_lt hc35)).trans hc35; first | (go_simp; done) | (go_simp; rfl)
                        try simp only [Act.put, List.setIfInBounds_toArray, List.set_cons_zero, List.set_cons_succ]
                        refine wpAnyH_take (i := 11) (oi := { dst := some 159, op := Go.Op.load 52 (Go.Operand.tmp 9), type := 52, pos := _, after := #[{ on := 4, ground := Go.Ground.guard }], guard := some (4, false) }) (v := .slice (some ⟨gw, 0, none⟩) dn.length cw) rfl (by kernel_rfl) (by kernel_rfl) (by kernel_rfl) (fun _ _ _ h => h) (Or.inl ⟨by rfl, fun w' hw' => ?_⟩) hHeld ?_
                        · have hcc := (hw'.cell (block_lt hcn9)).trans hcn9; first | (go_simp; done) | (go_simp; rfl)
                        try simp only [Act.put, List.setIfInBounds_toArray, List.set_cons_zero, List.set_cons_succ]
                        refine wpAnyH_take (i := 12) (oi := { dst := some 160, op := Go.Op.load 3 (Go.Operand.tmp 15), type := 3, pos := _, after := #[{ on := 4, ground := Go.Ground.guard }], guard := some (4, false) }) (v := .int .i64 (k : Int)) rfl (by kernel_rfl) (by kernel_rfl) (by kernel_rfl) (fun _ _ _ h => h) (Or.inl ⟨by rfl, fun w' hw' => ?_⟩) hHeld ?_
                        · have hcc := (hw'.cell (block_lt hcn15)).trans hcn15; first | (go_simp; done) | (go_simp; rfl)
                        try simp only [Act.put, List.setIfInBounds_toArray, List.set_cons_zero, List.set_cons_succ]
                        refine wpAnyH_take (i := 13) (oi := { dst := some 161, op := Go.Op.indexAddr 52 (Go.Operand.tmp 159) (Go.Operand.tmp 160), type := 0, pos := _, after := #[{ on := 11, ground := Go.Ground.data }, { on := 12, ground := Go.Ground.data }, { on := 4, ground := Go.Ground.guard }], guard := some (4, false) }) (v := .pointer (some ⟨gw, k * 2, none⟩)) rfl (by kernel_rfl) (by kernel_rfl) (by kernel_rfl) (fun _ _ _ h => h) (Or.inl ⟨by rfl, fun w' hw' => ?_⟩) hHeld ?_
                        · first | (go_simp; done) | (go_simp; rfl)
                        try simp only [Act.put, List.setIfInBounds_toArray, List.set_cons_zero, List.set_cons_succ]
                        refine wpAnyH_take (i := 14) (oi := { dst := some 162, op := Go.Op.indexAddr 53 (Go.Operand.tmp 161) (Go.Operand.const (Go.Value.int Go.IntKind.i64 0)), type := 0, pos := _, after := #[{ on := 13, ground := Go.Ground.data }, { on := 4, ground := Go.Ground.guard }], guard := some (4, false) }) (v := .pointer (some ⟨gw, k * 2, none⟩)) rfl (by kernel_rfl) (by kernel_rfl) (by kernel_rfl) (fun _ _ _ h => h) (Or.inl ⟨by rfl, fun w' hw' => ?_⟩) hHeld ?_
                        · first | (go_simp; done) | (go_simp; rfl)
                        try simp only [Act.put, List.setIfInBounds_toArray, List.set_cons_zero, List.set_cons_succ]
                        refine wpAnyH_take (i := 15) (oi := { dst := some 163, op := Go.Op.load 3 (Go.Operand.tmp 162), type := 3, pos := _, after := #[{ on := 14, ground := Go.Ground.data }, { on := 4, ground := Go.Ground.guard }], guard := some (4, false) }) (v := .int .i64 (i1 : Int)) rfl (by kernel_rfl) (by kernel_rfl) (by kernel_rfl) (fun _ _ _ h => h) (Or.inl ⟨by rfl, fun w' hw' => ?_⟩) hHeld ?_
                        · have hcc := (hw'.cell (block_lt hw1)).trans hw1; first | (go_simp; done) | (go_simp; rfl)
                        try simp only [Act.put, List.setIfInBounds_toArray, List.set_cons_zero, List.set_cons_succ]
                        refine wpAnyH_take (i := 16) (oi := { dst := some 164, op := Go.Op.indexAddr 31 (Go.Operand.tmp 158) (Go.Operand.tmp 163), type := 0, pos := _, after := #[{ on := 10, ground := Go.Ground.data }, { on := 15, ground := Go.Ground.data }, { on := 4, ground := Go.Ground.guard }], guard := some (4, false) }) (v := .pointer (some ⟨g', i1 * 67, none⟩)) rfl (by kernel_rfl) (by kernel_rfl) (by kernel_rfl) (fun _ _ _ h => h) (Or.inl ⟨by rfl, fun w' hw' => ?_⟩) hHeld ?_
                        · first | (go_simp; done) | (go_simp; rfl)
                        try simp only [Act.put, List.setIfInBounds_toArray, List.set_cons_zero, List.set_cons_succ]
                        refine wpAnyH_take (i := 17) (oi := { dst := some 165, op := Go.Op.fieldAddr 47 (Go.Operand.tmp 164) 0, type := 0, pos := _, after := #[{ on := 16, ground := Go.Ground.data }, { on := 4, ground := Go.Ground.guard }], guard := some (4, false) }) (v := .pointer (some ⟨g', i1 * 67, none⟩)) rfl (by kernel_rfl) (by kernel_rfl) (by kernel_rfl) (fun _ _ _ h => h) (Or.inl ⟨by rfl, fun w' hw' => ?_⟩) hHeld ?_
                        · first | (go_simp; done) | (go_simp; rfl)
                        try simp only [Act.put, List.setIfInBounds_toArray, List.set_cons_zero, List.set_cons_succ]
                        refine wpAnyH_take (i := 18) (oi := { dst := some 166, op := Go.Op.load 39 (Go.Operand.tmp 165), type := 39, pos := _, after := #[{ on := 17, ground := Go.Ground.data }, { on := 4, ground := Go.Ground.guard }], guard := some (4, false) }) rfl (by kernel_rfl) (by kernel_rfl) (by kernel_rfl) (fun _ _ _ h => h) (yieldsIf_load_mid (by rfl) 39 (.tmp 165) rfl (g') (i1 * 67) rfl (Q3) _ (fun _ h => rangeAt_below HG1.out h) huQ rfl hj1) hHeld ?_
                        try simp only [Act.put, List.setIfInBounds_toArray, List.set_cons_zero, List.set_cons_succ]
                        refine wpAnyH_ready (rs := [19]) (by kernel_rfl) (by simp) ?_
                        refine AllReadyH.cons (o := { dst := some 167, op := Go.Op.call { callee := Go.Callee.value (Go.Operand.func 16), args := #[Go.Operand.tmp 154, Go.Operand.tmp 166], argTypes := #[39, 39] }, type := 4, pos := _, after := #[{ on := 6, ground := Go.Ground.data }, { on := 18, ground := Go.Ground.data }, { on := 4, ground := Go.Ground.chain }, { on := 4, ground := Go.Ground.guard }], guard := some (4, false) }) rfl (fun K hK => ?_) AllReadyH.nil
                        rw [if_pos (by rfl)]
                        go_wp2_with fail
                        refine Calls.mono (HSM1.out _ hHeld) ?_
                        rintro e V2 ⟨rfl, hv2⟩
                        have hHeld2 : Below X2.heap.size X2 V2 := hHeld.trans (hv2.mono hHeld.size)
                        refine hK.out _ _ hHeld2 (fun _ => ?_)
                        clear hK K
                        try simp only [Act.put, List.setIfInBounds_toArray, List.set_cons_zero, List.set_cons_succ]
                        clear hHeld
                        have hHeld := hHeld2
                        refine wpAnyH_take (i := 20) (oi := { dst := some 168, op := Go.Op.unOp Go.UnOp.not 4 (Go.Operand.tmp 167), type := 4, pos := _, after := #[{ on := 19, ground := Go.Ground.data }, { on := 4, ground := Go.Ground.guard }], guard := some (4, false) }) (v := .bool false) rfl (by kernel_rfl) (by kernel_rfl) (by kernel_rfl) (fun _ _ _ h => h) (Or.inl ⟨by rfl, fun w' hw' => ?_⟩) hHeld ?_
                        · first | (go_simp; done) | (go_simp; rfl)
                        try simp only [Act.put, List.setIfInBounds_toArray, List.set_cons_zero, List.set_cons_succ]
                        refine wpAnyH_take (i := 21) (oi := { dst := some 169, op := Go.Op.pick (Go.Operand.tmp 152) (Go.Operand.const (Go.Value.bool true)) (Go.Operand.tmp 168), type := 4, pos := _, after := #[{ on := 4, ground := Go.Ground.data }, { on := 20, ground := Go.Ground.data }], guard := none }) (v := .bool false) rfl (by kernel_rfl) (by kernel_rfl) (by kernel_rfl) (fun _ _ _ h => h) (Or.inl ⟨by rfl, fun w' hw' => ?_⟩) hHeld ?_
                        · first | (go_simp; done) | (go_simp; rfl)
                        try simp only [Act.put, List.setIfInBounds_toArray, List.set_cons_zero, List.set_cons_succ]
                        refine wpAnyH_take (i := 22) (oi := { dst := some 170, op := Go.Op.move (Go.Operand.tmp 169), type := 4, pos := _, after := #[{ on := 21, ground := Go.Ground.data }, { on := 19, ground := Go.Ground.chain }], guard := none }) (v := .bool false) rfl (by kernel_rfl) (by kernel_rfl) (by kernel_rfl) (fun _ _ _ h => h) (Or.inl ⟨by rfl, fun w' hw' => ?_⟩) hHeld ?_
                        · first | (go_simp; done) | (go_simp; rfl)
                        try simp only [Act.put, List.setIfInBounds_toArray, List.set_cons_zero, List.set_cons_succ]
                        refine wpAnyH_take (i := 23) (oi := { dst := some 171, op := Go.Op.fieldAddr 47 (Go.Operand.tmp 17) 0, type := 0, pos := _, after := #[{ on := 22, ground := Go.Ground.guard }], guard := some (22, false) }) (v := .pointer (some ⟨X1.heap.size, 0, none⟩)) rfl (by kernel_rfl) (by kernel_rfl) (by kernel_rfl) (fun _ _ _ h => h) (Or.inl ⟨by rfl, fun w' hw' => ?_⟩) hHeld ?_
                        · first | (go_simp; done) | (go_simp; rfl)
                        try simp only [Act.put, List.setIfInBounds_toArray, List.set_cons_zero, List.set_cons_succ]
                        refine wpAnyH_take (i := 24) (oi := { dst := some 172, op := Go.Op.load 39 (Go.Operand.tmp 171), type := 39, pos := _, after := #[{ on := 23, ground := Go.Ground.data }, { on := 22, ground := Go.Ground.guard }], guard := some (22, false) }) rfl (by kernel_rfl) (by kernel_rfl) (by kernel_rfl) (fun _ _ _ h => h) (yieldsIf_load_mid (by rfl) 39 (.tmp 171) rfl (X1.heap.size) (0) rfl (Q2) _ (fun _ h => rangeAt_below HQ2.out h) huQ rfl hi2) hHeld ?_
                        try simp only [Act.put, List.setIfInBounds_toArray, List.set_cons_zero, List.set_cons_succ]
                        refine wpAnyH_take (i := 25) (oi := { dst := some 173, op := Go.Op.load 30 (Go.Operand.tmp 7), type := 30, pos := _, after := #[{ on := 22, ground := Go.Ground.guard }], guard := some (22, false) }) (v := .pointer (some ⟨rg, 0, none⟩)) rfl (by kernel_rfl) (by kernel_rfl) (by kernel_rfl) (fun _ _ _ h => h) (Or.inl ⟨by rfl, fun w' hw' => ?_⟩) hHeld ?_
                        · have hcc := (hw'.cell (block_lt hcn)).trans hcn; first | (go_simp; done) | (go_simp; rfl)
                        try simp only [Act.put, List.setIfInBounds_toArray, List.set_cons_zero, List.set_cons_succ]
                        refine wpAnyH_take (i := 26) (oi := { dst := some 174, op := Go.Op.nilCheck (Go.Operand.tmp 173), type := 0, pos := _, after := #[{ on := 25, ground := Go.Ground.data }, { on := 22, ground := Go.Ground.guard }], guard := some (22, false) }) (v := .pointer (some ⟨rg, 0, none⟩)) rfl (by kernel_rfl) (by kernel_rfl) (by kernel_rfl) (fun _ _ _ h => h) (Or.inl ⟨by rfl, fun w' hw' => ?_⟩) hHeld ?_
                        · first | (go_simp; done) | (go_simp; rfl)
                        try simp only [Act.put, List.setIfInBounds_toArray, List.set_cons_zero, List.set_cons_succ]
                        refine wpAnyH_take (i := 27) (oi := { dst := some 175, op := Go.Op.fieldAddr 33 (Go.Operand.tmp 174) 4, type := 0, pos := _, after := #[{ on := 26, ground := Go.Ground.data }, { on := 22, ground := Go.Ground.guard }], guard := some (22, false) }) (v := .pointer (some ⟨rg, 35, none⟩)) rfl (by kernel_rfl) (by kernel_rfl) (by kernel_rfl) (fun _ _ _ h => h) (Or.inl ⟨by rfl, fun w' hw' => ?_⟩) hHeld ?_
                        · first | (go_simp; done) | (go_simp; rfl)
                        try simp only [Act.put, List.setIfInBounds_toArray, List.set_cons_zero, List.set_cons_succ]
                        refine wpAnyH_take (i := 28) (oi := { dst := some 176, op := Go.Op.load 31 (Go.Operand.tmp 175), type := 31, pos := _, after := #[{ on := 27, ground := Go.Ground.data }, { on := 22, ground := Go.Ground.guard }], guard := some (22, false) }) (v := .slice (some ⟨g', 0, none⟩) i cl) rfl (by kernel_rfl) (by kernel_rfl) (by kernel_rfl) (fun _ _ _ h => h) (Or.inl ⟨by rfl, fun w' hw' => ?_⟩) hHeld ?_
                        · have hcc := (hw'.cell (block_lt hc35)).trans hc35; first | (go_simp; done) | (go_simp; rfl)
                        try simp only [Act.put, List.setIfInBounds_toArray, List.set_cons_zero, List.set_cons_succ]
                        refine wpAnyH_take (i := 29) (oi := { dst := some 177, op := Go.Op.load 52 (Go.Operand.tmp 9), type := 52, pos := _, after := #[{ on := 22, ground := Go.Ground.guard }], guard := some (22, false) }) (v := .slice (some ⟨gw, 0, none⟩) dn.length cw) rfl (by kernel_rfl) (by kernel_rfl) (by kernel_rfl) (fun _ _ _ h => h) (Or.inl ⟨by rfl, fun w' hw' => ?_⟩) hHeld ?_
                        · have hcc := (hw'.cell (block_lt hcn9)).trans hcn9; first | (go_simp; done) | (go_simp; rfl)
                        try simp only [Act.put, List.setIfInBounds_toArray, List.set_cons_zero, List.set_cons_succ]
                        refine wpAnyH_take (i := 30) (oi := { dst := some 178, op := Go.Op.load 3 (Go.Operand.tmp 15), type := 3, pos := _, after := #[{ on := 22, ground := Go.Ground.guard }], guard := some (22, false) }) (v := .int .i64 (k : Int)) rfl (by kernel_rfl) (by kernel_rfl) (by kernel_rfl) (fun _ _ _ h => h) (Or.inl ⟨by rfl, fun w' hw' => ?_⟩) hHeld ?_
                        · have hcc := (hw'.cell (block_lt hcn15)).trans hcn15; first | (go_simp; done) | (go_simp; rfl)
                        try simp only [Act.put, List.setIfInBounds_toArray, List.set_cons_zero, List.set_cons_succ]
                        refine wpAnyH_take (i := 31) (oi := { dst := some 179, op := Go.Op.indexAddr 52 (Go.Operand.tmp 177) (Go.Operand.tmp 178), type := 0, pos := _, after := #[{ on := 29, ground := Go.Ground.data }, { on := 30, ground := Go.Ground.data }, { on := 22, ground := Go.Ground.guard }], guard := some (22, false) }) (v := .pointer (some ⟨gw, k * 2, none⟩)) rfl (by kernel_rfl) (by kernel_rfl) (by kernel_rfl) (fun _ _ _ h => h) (Or.inl ⟨by rfl, fun w' hw' => ?_⟩) hHeld ?_
                        · first | (go_simp; done) | (go_simp; rfl)
                        try simp only [Act.put, List.setIfInBounds_toArray, List.set_cons_zero, List.set_cons_succ]
                        refine wpAnyH_take (i := 32) (oi := { dst := some 180, op := Go.Op.indexAddr 53 (Go.Operand.tmp 179) (Go.Operand.const (Go.Value.int Go.IntKind.i64 1)), type := 0, pos := _, after := #[{ on := 31, ground := Go.Ground.data }, { on := 22, ground := Go.Ground.guard }], guard := some (22, false) }) (v := .pointer (some ⟨gw, k * 2 + 1, none⟩)) rfl (by kernel_rfl) (by kernel_rfl) (by kernel_rfl) (fun _ _ _ h => h) (Or.inl ⟨by rfl, fun w' hw' => ?_⟩) hHeld ?_
                        · first | (go_simp; done) | (go_simp; rfl)
                        try simp only [Act.put, List.setIfInBounds_toArray, List.set_cons_zero, List.set_cons_succ]
                        refine wpAnyH_take (i := 33) (oi := { dst := some 181, op := Go.Op.load 3 (Go.Operand.tmp 180), type := 3, pos := _, after := #[{ on := 32, ground := Go.Ground.data }, { on := 22, ground := Go.Ground.guard }], guard := some (22, false) }) (v := .int .i64 (i2 : Int)) rfl (by kernel_rfl) (by kernel_rfl) (by kernel_rfl) (fun _ _ _ h => h) (Or.inl ⟨by rfl, fun w' hw' => ?_⟩) hHeld ?_
                        · have hcc := (hw'.cell (block_lt hw2)).trans hw2; first | (go_simp; done) | (go_simp; rfl)
                        try simp only [Act.put, List.setIfInBounds_toArray, List.set_cons_zero, List.set_cons_succ]
                        refine wpAnyH_take (i := 34) (oi := { dst := some 182, op := Go.Op.indexAddr 31 (Go.Operand.tmp 176) (Go.Operand.tmp 181), type := 0, pos := _, after := #[{ on := 28, ground := Go.Ground.data }, { on := 33, ground := Go.Ground.data }, { on := 22, ground := Go.Ground.guard }], guard := some (22, false) }) (v := .pointer (some ⟨g', i2 * 67, none⟩)) rfl (by kernel_rfl) (by kernel_rfl) (by kernel_rfl) (fun _ _ _ h => h) (Or.inl ⟨by rfl, fun w' hw' => ?_⟩) hHeld ?_
                        · first | (go_simp; done) | (go_simp; rfl)
                        try simp only [Act.put, List.setIfInBounds_toArray, List.set_cons_zero, List.set_cons_succ]
                        refine wpAnyH_take (i := 35) (oi := { dst := some 183, op := Go.Op.fieldAddr 47 (Go.Operand.tmp 182) 0, type := 0, pos := _, after := #[{ on := 34, ground := Go.Ground.data }, { on := 22, ground := Go.Ground.guard }], guard := some (22, false) }) (v := .pointer (some ⟨g', i2 * 67, none⟩)) rfl (by kernel_rfl) (by kernel_rfl) (by kernel_rfl) (fun _ _ _ h => h) (Or.inl ⟨by rfl, fun w' hw' => ?_⟩) hHeld ?_
                        · first | (go_simp; done) | (go_simp; rfl)
                        try simp only [Act.put, List.setIfInBounds_toArray, List.set_cons_zero, List.set_cons_succ]
                        refine wpAnyH_take (i := 36) (oi := { dst := some 184, op := Go.Op.load 39 (Go.Operand.tmp 183), type := 39, pos := _, after := #[{ on := 35, ground := Go.Ground.data }, { on := 22, ground := Go.Ground.guard }], guard := some (22, false) }) rfl (by kernel_rfl) (by kernel_rfl) (by kernel_rfl) (fun _ _ _ h => h) (yieldsIf_load_mid (by rfl) 39 (.tmp 183) rfl (g') (i2 * 67) rfl (Q4) _ (fun _ h => rangeAt_below HG2.out h) huQ rfl hj2) hHeld ?_
                        try simp only [Act.put, List.setIfInBounds_toArray, List.set_cons_zero, List.set_cons_succ]
                        refine wpAnyH_ready (rs := [37]) (by kernel_rfl) (by simp) ?_
                        refine AllReadyH.cons (o := { dst := some 185, op := Go.Op.call { callee := Go.Callee.value (Go.Operand.func 16), args := #[Go.Operand.tmp 172, Go.Operand.tmp 184], argTypes := #[39, 39] }, type := 4, pos := _, after := #[{ on := 24, ground := Go.Ground.data }, { on := 36, ground := Go.Ground.data }, { on := 22, ground := Go.Ground.chain }, { on := 22, ground := Go.Ground.guard }], guard := some (22, false) }) rfl (fun K hK => ?_) AllReadyH.nil
                        rw [if_pos (by rfl)]
                        go_wp2_with fail
                        refine Calls.mono (HSM2.out _ hHeld) ?_
                        rintro e V3 ⟨rfl, hv3⟩
                        have hHeld3 : Below X2.heap.size X2 V3 := hHeld.trans (hv3.mono hHeld.size)
                        refine hK.out _ _ hHeld3 (fun _ => ?_)
                        clear hK K
                        try simp only [Act.put, List.setIfInBounds_toArray, List.set_cons_zero, List.set_cons_succ]
                        clear hHeld
                        have hHeld := hHeld3
                        refine wpAnyH_take (i := 38) (oi := { dst := some 186, op := Go.Op.unOp Go.UnOp.not 4 (Go.Operand.tmp 185), type := 4, pos := _, after := #[{ on := 37, ground := Go.Ground.data }, { on := 22, ground := Go.Ground.guard }], guard := some (22, false) }) (v := .bool false) rfl (by kernel_rfl) (by kernel_rfl) (by kernel_rfl) (fun _ _ _ h => h) (Or.inl ⟨by rfl, fun w' hw' => ?_⟩) hHeld ?_
                        · first | (go_simp; done) | (go_simp; rfl)
                        try simp only [Act.put, List.setIfInBounds_toArray, List.set_cons_zero, List.set_cons_succ]
                        refine wpAnyH_take (i := 39) (oi := { dst := some 187, op := Go.Op.pick (Go.Operand.tmp 170) (Go.Operand.const (Go.Value.bool true)) (Go.Operand.tmp 186), type := 4, pos := _, after := #[{ on := 22, ground := Go.Ground.data }, { on := 38, ground := Go.Ground.data }], guard := none }) (v := .bool false) rfl (by kernel_rfl) (by kernel_rfl) (by kernel_rfl) (fun _ _ _ h => h) (Or.inl ⟨by rfl, fun w' hw' => ?_⟩) hHeld ?_
                        · first | (go_simp; done) | (go_simp; rfl)
                        try simp only [Act.put, List.setIfInBounds_toArray, List.set_cons_zero, List.set_cons_succ]
                        refine wpAnyH_done (by kernel_rfl) ?_ _
                        have hI3 := HIR.out.step hHeld
                        have HK3 : Hid (PS.KpR WN.heap.size (fun k => S k ∨ k = XB.heap.size) dv X2 (V3.setCell ⟨nr, 0, none⟩ (.int .i64 ((k : Int) + 1)))) := ⟨by have := hHeld.size; simp; exact this, fun j hj hS => by
                          have hne : j ≠ nr := by
                            rcases hS with hS | hS | hS
                            · have := HSN.out; omega
                            · have := HTP.out.1 j hS; omega
                            · have := HTP.out.2 j hS; omega
                          exact (heap_setCell_other _ _ _ _ hne).trans (hHeld.block j hj)⟩
                        have HI3 : Hid _ := hI3.set hxn HPW.out
                        obtain ⟨hn1, hn2⟩ := hI3.cell
                        clear hHeld hHeld2 hHeld3 hI3 hcn hc35 hcn9 hcn15 hw1 hw2
                        change Code.wpIn _ _ _ _ _ _ _
                        refine wpIn_cond (t := false) rfl ?_
                        simp only [Bool.false_eq_true, if_false]
                        refine wpIn_skip ?_
                        change Code.wpIn _ _ _ _ _ _ _
                        refine region_plain (by kernel_rfl) (fun h => by obtain ⟨_, _, h1, _⟩ := h; cases h1) ?_
                        have hkb : k < 2000000 := by
                          have h2 := pairs_len (PS.cls L1)
                          rw [PS.cls_len, ← HDE.out] at h2
                          have h3 := Nat.mul_le_mul hN1 hN1
                          omega
                        go_wp2
                        first
                          | exact ⟨trivial, HI3.out, HK3.out⟩
                          | (have hwk : Value.int IntKind.i64 (wrap64 ((k : Int) + 1)) = .int .i64 ((k : Int) + 1) := by go_num
                             rw [hwk]; exact ⟨trivial, HI3.out, HK3.out⟩)
                      · intro X hI hd
                        have hI' : IR XL nr pw cw dn dn.length X := by
                          have h := hI
                          rw [show (PS.pairs (PS.cls (pr ZZ ds L1).log)) = dn from HDE.out.symm] at h
                          exact h
                        clear hI
                        have hbX : Below W4.heap.size W4 X := HM2.out.bel.trans (hI'.wt.bel.mono HM2.out.bel.size)
                        obtain ⟨hn1, hn2⟩ := hI'.cell
                        have hcw := hI'.wt.cell.1
                        have HC6 : Hid _ := HC4.out.step hbX
                        have HDD : Hid (X.heap[WN.heap.size]? = some (.deferred (some []))) := hd
                        have hlw : w.heap.size < WN.heap.size := by have := HM2.out.bel.size; have := HSN.out; omega
                        clear hbX hd
                        go_wp2_with fail
                        refine (known_any _).mono ?_
                        rintro e wk ⟨rfl, hbk⟩
                        have hc4 := HC6.out.step hbk
                        have HC5 : Hid _ := hc4.set true
                        obtain ⟨hk1, hk2⟩ := hc4.facts
                        have HDF : Hid ((wk.setCell ⟨w.heap.size, 0, none⟩ (.bool true)).heap[WN.heap.size]? = some (.deferred (some []))) := (heap_setCell_other _ _ _ _ (by show WN.heap.size ≠ w.heap.size; omega)).trans ((hbk.block _ (row_lt HDD.out)).trans HDD.out)
                        clear hc4 hbk
                        go_wp2
                        have HB5 : Hid _ := HC5.out.bel
                        have HR5 : Hid _ := HC5.out.c
                        clear HC5 HC6
                        generalize wk.setCell ⟨w.heap.size, 0, none⟩ (.bool true) = WF at *
                        refine marks_ret (v := .bool true) [WN.heap.size] WF (fun D hD => ?_) (by simp) (fun w' h1 h2 h3 h4 h5 => ⟨results_bool Tryz.results4 _ _ w.heap.size true rfl ?_, rfl, ⟨h2.trans HB5.out.os, h3.trans HB5.out.tape, h4.trans HB5.out.output, by rw [h1]; exact HB5.out.size, fun k hk => (h5 k (by simp; omega)).trans (HB5.out.block k hk)⟩⟩)
                        · rw [List.mem_singleton.1 hD]; exact HDF.out
                        · rw [cell_of_row _ _ 0 _ _ _ ((h5 _ (by simp; omega)).trans HR5.out)]; rfl
                    · have hi0 : L1.length = 0 := by have := HNL.out; omega
                      have hd0 : dn.length = 0 := by rw [HDE.out, List.eq_nil_of_length_eq_zero hi0]; rfl
                      obtain ⟨po, co, hov⟩ : ∃ po co, ov = .slice po 0 co := by
                        rcases HPN.out.order.2 with ⟨e, _⟩ | ⟨g, cap, cur, e, _⟩
                        · exact ⟨none, 0, e⟩
                        · exact ⟨_, cap, e.trans (by show Value.slice _ L1.length cap = _; rw [hi0])⟩
                      have HC34 : Hid (WN.cell? ⟨XB.heap.size, 34, none⟩ = some (.slice po 0 co)) := by rw [← hov]; exact HPN.out.cells.2.2.1
                      clear HPN hov
                      refine wp_rangeFunc_never (gf := 36) (lb := #[.pointer (some ⟨XB.heap.size, 0, none⟩)]) rfl (enters_of Tryz.func36 (by kernel_rfl) rfl) (fun y W hb => breaks1_empty y XB.heap.size po co W ((hb.cell (block_lt HC34.out)).trans HC34.out)) ?_
                      intro X hbX0 hszX hd
                      have hI' : IR XL nr pw cw dn dn.length X := by rw [hd0]; exact HIN.out.step hbX0
                      clear hbX0 HC34
                      have hbX : Below W4.heap.size W4 X := HM2.out.bel.trans (hI'.wt.bel.mono HM2.out.bel.size)
                      obtain ⟨hn1, hn2⟩ := hI'.cell
                      have hcw := hI'.wt.cell.1
                      have HC6 : Hid _ := HC4.out.step hbX
                      have HDD : Hid (X.heap[WN.heap.size]? = some (.deferred (some []))) := hd
                      have hlw : w.heap.size < WN.heap.size := by have := HM2.out.bel.size; have := HSN.out; omega
                      clear hbX hd
                      go_wp2_with fail
                      refine (known_any _).mono ?_
                      rintro e wk ⟨rfl, hbk⟩
                      have hc4 := HC6.out.step hbk
                      have HC5 : Hid _ := hc4.set true
                      obtain ⟨hk1, hk2⟩ := hc4.facts
                      have HDF : Hid ((wk.setCell ⟨w.heap.size, 0, none⟩ (.bool true)).heap[WN.heap.size]? = some (.deferred (some []))) := (heap_setCell_other _ _ _ _ (by show WN.heap.size ≠ w.heap.size; omega)).trans ((hbk.block _ (row_lt HDD.out)).trans HDD.out)
                      clear hc4 hbk
                      go_wp2
                      have HB5 : Hid _ := HC5.out.bel
                      have HR5 : Hid _ := HC5.out.c
                      clear HC5 HC6
                      generalize wk.setCell ⟨w.heap.size, 0, none⟩ (.bool true) = WF at *
                      refine marks_ret (v := .bool true) [WN.heap.size] WF (fun D hD => ?_) (by simp) (fun w' h1 h2 h3 h4 h5 => ⟨results_bool Tryz.results4 _ _ w.heap.size true rfl ?_, rfl, ⟨h2.trans HB5.out.os, h3.trans HB5.out.tape, h4.trans HB5.out.output, by rw [h1]; exact HB5.out.size, fun k hk => (h5 k (by simp; omega)).trans (HB5.out.block k hk)⟩⟩)
                      · rw [List.mem_singleton.1 hD]; exact HDF.out
                      · rw [cell_of_row _ _ 0 _ _ _ ((h5 _ (by simp; omega)).trans HR5.out)]; rfl
end Go.Proofs.YtefhjjjjbkkedaaGreat.R5.oracleBreaks
