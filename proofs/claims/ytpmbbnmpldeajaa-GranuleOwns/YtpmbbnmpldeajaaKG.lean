/- granule: Step whole; the document's Step, Hold, Let (ref 7). -/
import Derived.Test.YtpmbbnmpldeajaaKF
set_option linter.unusedVariables false
set_option linter.unusedSimpArgs false
namespace Go.Proofs.Ytpmbbnmpldeajaa.GC
open Go.RowKit

theorem ne0 (o : Nat) : decide (o ≠ 0) = ((o : Int) != 0) := by
  by_cases h : o = 0
  · subst h; rfl
  · have h2 : ((o : Int) != 0) = true := by rw [bne_iff_ne]; omega
    rw [h2]; simpa using h
theorem step_any (tb gb n g : Nat) (l : List Rw) (r : Rw) (f t : Int) (o : Nat) (w : World) (h : PM w tb gb n l) (hr : l[g]? = some r) (hwf : (Lit.int .i64 f).wf = true) (hwt : (Lit.int .i64 t).wf = true) :
    Calls Try.prog 20 #[.pointer (some ⟨tb, 0, none⟩), .int .i64 (g : Int), .int .i64 f, .int .i64 t, .int .u64 (o : Int)] w fun e w' => StpEnd tb gb n (l.set g (stR r f t o)) (stC r f t o) w e w' := by
  have hgb := h.row.lt
  have key : ∀ c, c ≠ 0 → stC r f t o = c → ∀ e w', (e = .returned (.int .i64 c) ∧ Below w.heap.size w w') → StpEnd tb gb n (l.set g (stR r f t o)) (stC r f t o) w e w' := by
    rintro c hc hq e w' ⟨rfl, hb⟩
    rw [stR_no (by rw [hq]; exact hc), set_self hr, hq]
    exact ⟨rfl, h.below hb, KB.of (by omega) hb⟩
  by_cases hmy : mayB f t = true
  · by_cases how : decide (2 ≤ t) = ((o : Int) != 0)
    · have hA : mayB f t = true ∧ decide (2 ≤ t) = decide (o ≠ 0) := ⟨hmy, by rw [ne0]; exact how⟩
      by_cases hst : r.st = f
      · by_cases hh : 0 < r.held ∧ f ≠ 1
        · exact (step_use tb gb n g l r f t o w h hr hwf hwt hmy how hst hh.1 hh.2).mono (key 9 (by omega) (by unfold stC; rw [if_pos hA, if_pos hst, if_pos hh]))
        · have hq : stC r f t o = 0 := by unfold stC; rw [if_pos hA, if_pos hst, if_neg hh]
          rw [show stR r f t o = ⟨t, o, r.held⟩ from if_pos hq, hq]
          exact step_done tb gb n g l r f t o w h hr hwf hwt hmy how hst hh
      · exact (step_state tb gb n g l r f t o w h hr hwf hwt hmy how hst).mono (key 7 (by omega) (by unfold stC; rw [if_pos hA, if_neg hst]))
    · exact (step_own tb gb n g l r f t o w h hr hwf hwt hmy how).mono (key 2 (by omega) (by unfold stC; rw [if_neg (fun hA => how (by rw [← ne0]; exact hA.2))]))
  · exact (step_no tb gb n g l r f t o w h hr hwf hwt (by simpa using hmy)).mono (key 2 (by omega) (by unfold stC; rw [if_neg (fun hA => hmy hA.1)]))

/-- What the document's calls hand back. -/
def REnd (b : Nat) (l : List Rw) (c : Int) (w : World) (e : Ending) (w' : World) : Prop := e = .returned (.int .i64 c) ∧ AR w' b l ∧ KB b w w'
theorem rhold_no (b n cap : Nat) (g : Int) (w : World) (h : g < 0 ∨ (n : Int) ≤ g) : Calls Try.prog 26 #[.slice (some ⟨b, 0, none⟩) n cap, .int .i64 g] w fun e w' => e = .returned (.int .i64 2) ∧ w = w' := by
  by_cases h0 : g < 0
  · clear h
    go_enter Try.func26, Try.ntmps26
    go_wp2
    go_ret
    exact ⟨rfl, rfl⟩
  · have h1 : (n : Int) ≤ g := by omega
    clear h
    go_enter Try.func26, Try.ntmps26
    go_wp2
    go_ret
    exact ⟨rfl, rfl⟩
theorem rlet_no (b n cap : Nat) (g : Int) (w : World) (h : g < 0 ∨ (n : Int) ≤ g) : Calls Try.prog 27 #[.slice (some ⟨b, 0, none⟩) n cap, .int .i64 g] w fun e w' => e = .returned (.int .i64 2) ∧ w = w' := by
  by_cases h0 : g < 0
  · clear h
    go_enter Try.func27, Try.ntmps27
    go_wp2
    go_ret
    exact ⟨rfl, rfl⟩
  · have h1 : (n : Int) ≤ g := by omega
    clear h
    go_enter Try.func27, Try.ntmps27
    go_wp2
    go_ret
    exact ⟨rfl, rfl⟩
theorem rstep_no (b n cap : Nat) (g f t o : Int) (w : World) (h : g < 0 ∨ (n : Int) ≤ g) : Calls Try.prog 25 #[.slice (some ⟨b, 0, none⟩) n cap, .int .i64 g, .int .i64 f, .int .i64 t, .int .u64 o] w fun e w' => e = .returned (.int .i64 2) ∧ w = w' := by
  by_cases h0 : g < 0
  · clear h
    go_enter Try.func25, Try.ntmps25
    go_wp2
    go_ret
    exact ⟨rfl, rfl⟩
  · have h1 : (n : Int) ≤ g := by omega
    clear h
    go_enter Try.func25, Try.ntmps25
    go_wp2
    go_ret
    exact ⟨rfl, rfl⟩
set_option maxHeartbeats 1000000 in
theorem rhold_ok (b n cap g : Nat) (l : List Rw) (r : Rw) (w : World) (h : AR w b l) (hl : l.length = n) (hn : n ≤ 4096) (hr : l[g]? = some r) (hh : r.held < 2147483647) :
    Calls Try.prog 26 #[.slice (some ⟨b, 0, none⟩) n cap, .int .i64 (g : Int)] w fun e w' => REnd b (l.set g ⟨r.st, r.ow, r.held + 1⟩) 0 w e w' := by
  have hg : g < n := by rw [← hl]; exact (List.getElem?_eq_some_iff.1 hr).1
  obtain ⟨hc0, hc1, hc2⟩ := range_cells (range_row h.range hr)
  have hfz0 := h.frozen (g * 3)
  have hfz1 := h.frozen (g * 3 + 1)
  have hfz2 := h.frozen (g * 3 + 2)
  have hgI : ¬ (n : Int) ≤ (g : Int) := by omega
  have hg0I : ¬ (g : Int) < 0 := by omega
  have HEND : Hid (REnd b (l.set g ⟨r.st, r.ow, r.held + 1⟩) 0 w (.returned (.int .i64 0)) (w.setCell ⟨b, g * 3 + 2, none⟩ (.int .i64 ((r.held : Int) + 1)))) :=
    ⟨rfl, h.set hr _ 2 _ (by omega) rfl, (KB.refl b w).setCell (k := g * 3 + 2) _⟩
  obtain ⟨x, hx⟩ : ∃ x : Int, x = (r.held : Int) := ⟨_, rfl⟩
  have hx1 : x ≤ 2147483646 := by omega
  have hx0 : 0 ≤ x := by omega
  rw [← hx] at hc2 HEND
  clear h hr hh hx hl
  go_enter Try.func26, Try.ntmps26
  go_wp2
  go_ret
  exact HEND.out
set_option maxHeartbeats 1000000 in
theorem rlet_none (b n cap g : Nat) (l : List Rw) (r : Rw) (w : World) (h : AR w b l) (hl : l.length = n) (hn : n ≤ 4096) (hr : l[g]? = some r) (hh : r.held = 0) :
    Calls Try.prog 27 #[.slice (some ⟨b, 0, none⟩) n cap, .int .i64 (g : Int)] w fun e w' => e = .returned (.int .i64 6) ∧ w = w' := by
  have hg : g < n := by rw [← hl]; exact (List.getElem?_eq_some_iff.1 hr).1
  obtain ⟨hc0, hc1, hc2⟩ := range_cells (range_row h.range hr)
  have hfz0 := h.frozen (g * 3)
  have hfz1 := h.frozen (g * 3 + 1)
  have hfz2 := h.frozen (g * 3 + 2)
  have hgI : ¬ (n : Int) ≤ (g : Int) := by omega
  have hg0I : ¬ (g : Int) < 0 := by omega
  rw [hh] at hc2
  clear h hr hl
  go_enter Try.func27, Try.ntmps27
  go_wp2
  go_ret
  exact ⟨rfl, rfl⟩
set_option maxHeartbeats 1000000 in
theorem rlet_ok (b n cap g : Nat) (l : List Rw) (r : Rw) (w : World) (h : AR w b l) (hl : l.length = n) (hn : n ≤ 4096) (hr : l[g]? = some r) (hh : 0 < r.held) (hm : r.held ≤ 2147483647) :
    Calls Try.prog 27 #[.slice (some ⟨b, 0, none⟩) n cap, .int .i64 (g : Int)] w fun e w' => REnd b (l.set g ⟨r.st, r.ow, r.held - 1⟩) 0 w e w' := by
  have hg : g < n := by rw [← hl]; exact (List.getElem?_eq_some_iff.1 hr).1
  obtain ⟨hc0, hc1, hc2⟩ := range_cells (range_row h.range hr)
  have hfz0 := h.frozen (g * 3)
  have hfz1 := h.frozen (g * 3 + 1)
  have hfz2 := h.frozen (g * 3 + 2)
  have hgI : ¬ (n : Int) ≤ (g : Int) := by omega
  have hg0I : ¬ (g : Int) < 0 := by omega
  have hhI : ((r.held : Int) == 0) = false := by simp; omega
  have HEND : Hid (REnd b (l.set g ⟨r.st, r.ow, r.held - 1⟩) 0 w (.returned (.int .i64 0)) (w.setCell ⟨b, g * 3 + 2, none⟩ (.int .i64 ((r.held : Int) - 1)))) := by
    refine ⟨rfl, h.set hr _ 2 _ (by omega) ?_, (KB.refl b w).setCell (k := g * 3 + 2) _⟩
    simp only [rL, List.set_cons_succ, List.set_cons_zero]
    rw [show ((r.held - 1 : Nat) : Int) = (r.held : Int) - 1 by omega]
  clear h hr hl
  go_enter Try.func27, Try.ntmps27
  go_wp2
  go_ret
  exact HEND.out
set_option maxHeartbeats 1000000 in
theorem rstep_any (b n cap g : Nat) (l : List Rw) (r : Rw) (f t : Int) (o : Nat) (w : World) (h : AR w b l) (hl : l.length = n) (hn : n ≤ 4096) (hr : l[g]? = some r) :
    Calls Try.prog 25 #[.slice (some ⟨b, 0, none⟩) n cap, .int .i64 (g : Int), .int .i64 f, .int .i64 t, .int .u64 (o : Int)] w fun e w' => REnd b (l.set g (stR r f t o)) (stC r f t o) w e w' := by
  have key : ∀ c, c ≠ 0 → stC r f t o = c → Hid (REnd b (l.set g (stR r f t o)) (stC r f t o) w (.returned (.int .i64 c)) w) := by
    rintro c hc hq
    rw [stR_no (by rw [hq]; exact hc), set_self hr, hq]
    exact ⟨rfl, h, KB.refl _ _⟩
  have KEY : Hid _ := key
  clear key
  have hg : g < n := by rw [← hl]; exact (List.getElem?_eq_some_iff.1 hr).1
  obtain ⟨hc0, hc1, hc2⟩ := range_cells (range_row h.range hr)
  have hfz0 := h.frozen (g * 3)
  have hfz1 := h.frozen (g * 3 + 1)
  have hfz2 := h.frozen (g * 3 + 2)
  have hgI : ¬ (n : Int) ≤ (g : Int) := by omega
  have hg0I : ¬ (g : Int) < 0 := by omega
  cases hmy : mayB f t with
  | false =>
    have HK : Hid _ := KEY.out 2 (by omega) (by unfold stC; rw [if_neg (fun hA => by rw [hmy] at hA; cases hA.1)])
    have HMY : Hid _ := rmay_any f t w
    clear h hr hl
    go_enter Try.func25, Try.ntmps25
    go_wp2_with fail
    refine Calls.mono HMY.out ?_
    rintro e w1 ⟨rfl, rfl⟩
    rw [hmy]
    go_wp2
    go_ret
    exact HK.out
  | true =>
    have main : ∀ OB, ((o : Int) != 0) = OB → Calls Try.prog 25 #[.slice (some ⟨b, 0, none⟩) n cap, .int .i64 (g : Int), .int .i64 f, .int .i64 t, .int .u64 (o : Int)] w fun e w' => REnd b (l.set g (stR r f t o)) (stC r f t o) w e w' := fun OB hOB => by
      by_cases h2 : 2 ≤ t
      · cases OB with
        | true =>
          have hA : mayB f t = true ∧ decide (2 ≤ t) = decide (o ≠ 0) := ⟨hmy, by rw [ne0, hOB]; simpa using h2⟩
          by_cases hst : r.st = f
          · have hsI : (r.st != f) = false := by simpa using hst
            by_cases hh : 0 < r.held
            · have hhI : (0 : Int) < (r.held : Int) := by omega
              by_cases hf1 : f = 1
              · have hf1I : (f != 1) = false := by simpa using hf1
                have hq : stC r f t o = 0 := by unfold stC; rw [if_pos hA, if_pos hst, if_neg (fun h => h.2 hf1)]
                have HEND : Hid (REnd b (l.set g (stR r f t o)) (stC r f t o) w (.returned (.int .i64 0)) ((w.setCell ⟨b, g * 3, none⟩ (.int .i64 t)).setCell ⟨b, g * 3 + 1, none⟩ (.int .u64 (o : Int)))) := by
                  rw [show stR r f t o = ⟨t, o, r.held⟩ from if_pos hq, hq]
                  have h1 : AR (w.setCell ⟨b, g * 3, none⟩ (.int .i64 t)) b (l.set g ⟨t, r.ow, r.held⟩) := h.set hr _ 0 _ (by omega) rfl
                  have h2 := h1.set (g := g) (r := ⟨t, r.ow, r.held⟩) (by rw [List.getElem?_set_self (by rw [hl]; exact hg)]) ⟨t, o, r.held⟩ 1 (.int .u64 (o : Int)) (by omega) rfl
                  rw [List.set_set] at h2
                  exact ⟨rfl, h2, ((KB.refl b w).setCell (k := g * 3) _).setCell (k := g * 3 + 1) _⟩
                have hfz3 : (w.setCell ⟨b, g * 3, none⟩ (.int .i64 t)).frozen? ⟨b, g * 3 + 1, none⟩ = false := (h.set hr ⟨t, r.ow, r.held⟩ 0 (.int .i64 t) (by omega) rfl).frozen _
                have hcc1 : (w.setCell ⟨b, g * 3, none⟩ (.int .i64 t)).cell? ⟨b, g * 3 + 1, none⟩ = some (.int .u64 (r.ow : Int)) := (range_cells (range_row (h.set hr ⟨t, r.ow, r.held⟩ 0 (.int .i64 t) (by omega) rfl).range (r := ⟨t, r.ow, r.held⟩) (by rw [List.getElem?_set_self (by rw [hl]; exact hg)]))).2.1
                clear hA hst hq KEY hh
                try clear hf1
                have HMY : Hid _ := rmay_any f t w
                clear h hr hl
                go_enter Try.func25, Try.ntmps25
                go_wp2_with fail
                refine Calls.mono HMY.out ?_
                rintro e w1 ⟨rfl, rfl⟩
                rw [hmy]
                go_wp2
                go_ret
                exact HEND.out
              · have HK : Hid _ := KEY.out 9 (by omega) (by unfold stC; rw [if_pos hA, if_pos hst, if_pos ⟨hh, hf1⟩])
                have hf1I : (f != 1) = true := by simpa using hf1
                clear hA hst hh KEY hf1
                have HMY : Hid _ := rmay_any f t w
                clear h hr hl
                go_enter Try.func25, Try.ntmps25
                go_wp2_with fail
                refine Calls.mono HMY.out ?_
                rintro e w1 ⟨rfl, rfl⟩
                rw [hmy]
                go_wp2
                go_ret
                exact HK.out
            · have hhI : ¬ (0 : Int) < (r.held : Int) := by omega
              have hq : stC r f t o = 0 := by unfold stC; rw [if_pos hA, if_pos hst, if_neg (fun h => hh h.1)]
              have HEND : Hid (REnd b (l.set g (stR r f t o)) (stC r f t o) w (.returned (.int .i64 0)) ((w.setCell ⟨b, g * 3, none⟩ (.int .i64 t)).setCell ⟨b, g * 3 + 1, none⟩ (.int .u64 (o : Int)))) := by
                rw [show stR r f t o = ⟨t, o, r.held⟩ from if_pos hq, hq]
                have h1 : AR (w.setCell ⟨b, g * 3, none⟩ (.int .i64 t)) b (l.set g ⟨t, r.ow, r.held⟩) := h.set hr _ 0 _ (by omega) rfl
                have h2 := h1.set (g := g) (r := ⟨t, r.ow, r.held⟩) (by rw [List.getElem?_set_self (by rw [hl]; exact hg)]) ⟨t, o, r.held⟩ 1 (.int .u64 (o : Int)) (by omega) rfl
                rw [List.set_set] at h2
                exact ⟨rfl, h2, ((KB.refl b w).setCell (k := g * 3) _).setCell (k := g * 3 + 1) _⟩
              have hfz3 : (w.setCell ⟨b, g * 3, none⟩ (.int .i64 t)).frozen? ⟨b, g * 3 + 1, none⟩ = false := (h.set hr ⟨t, r.ow, r.held⟩ 0 (.int .i64 t) (by omega) rfl).frozen _
              have hcc1 : (w.setCell ⟨b, g * 3, none⟩ (.int .i64 t)).cell? ⟨b, g * 3 + 1, none⟩ = some (.int .u64 (r.ow : Int)) := (range_cells (range_row (h.set hr ⟨t, r.ow, r.held⟩ 0 (.int .i64 t) (by omega) rfl).range (r := ⟨t, r.ow, r.held⟩) (by rw [List.getElem?_set_self (by rw [hl]; exact hg)]))).2.1
              clear hA hst hq KEY hh
              try clear hf1
              have HMY : Hid _ := rmay_any f t w
              clear h hr hl
              go_enter Try.func25, Try.ntmps25
              go_wp2_with fail
              refine Calls.mono HMY.out ?_
              rintro e w1 ⟨rfl, rfl⟩
              rw [hmy]
              go_wp2
              go_ret
              exact HEND.out
          · have HK : Hid _ := KEY.out 7 (by omega) (by unfold stC; rw [if_pos hA, if_neg hst])
            have hsI : (r.st != f) = true := by simpa using hst
            clear hA hst KEY
            have HMY : Hid _ := rmay_any f t w
            clear h hr hl
            go_enter Try.func25, Try.ntmps25
            go_wp2_with fail
            refine Calls.mono HMY.out ?_
            rintro e w1 ⟨rfl, rfl⟩
            rw [hmy]
            go_wp2
            go_ret
            exact HK.out
        | false =>
          have HK : Hid _ := KEY.out 2 (by omega) (by unfold stC; rw [if_neg (fun hA => by have := hA.2; rw [ne0, hOB] at this; simp at this; omega)])
          have HMY : Hid _ := rmay_any f t w
          clear h hr hl
          go_enter Try.func25, Try.ntmps25
          go_wp2_with fail
          refine Calls.mono HMY.out ?_
          rintro e w1 ⟨rfl, rfl⟩
          rw [hmy]
          go_wp2
          go_ret
          exact HK.out
      · cases OB with
        | false =>
          have hA : mayB f t = true ∧ decide (2 ≤ t) = decide (o ≠ 0) := ⟨hmy, by rw [ne0, hOB]; simpa using h2⟩
          by_cases hst : r.st = f
          · have hsI : (r.st != f) = false := by simpa using hst
            by_cases hh : 0 < r.held
            · have hhI : (0 : Int) < (r.held : Int) := by omega
              by_cases hf1 : f = 1
              · have hf1I : (f != 1) = false := by simpa using hf1
                have hq : stC r f t o = 0 := by unfold stC; rw [if_pos hA, if_pos hst, if_neg (fun h => h.2 hf1)]
                have HEND : Hid (REnd b (l.set g (stR r f t o)) (stC r f t o) w (.returned (.int .i64 0)) ((w.setCell ⟨b, g * 3, none⟩ (.int .i64 t)).setCell ⟨b, g * 3 + 1, none⟩ (.int .u64 (o : Int)))) := by
                  rw [show stR r f t o = ⟨t, o, r.held⟩ from if_pos hq, hq]
                  have h1 : AR (w.setCell ⟨b, g * 3, none⟩ (.int .i64 t)) b (l.set g ⟨t, r.ow, r.held⟩) := h.set hr _ 0 _ (by omega) rfl
                  have h2 := h1.set (g := g) (r := ⟨t, r.ow, r.held⟩) (by rw [List.getElem?_set_self (by rw [hl]; exact hg)]) ⟨t, o, r.held⟩ 1 (.int .u64 (o : Int)) (by omega) rfl
                  rw [List.set_set] at h2
                  exact ⟨rfl, h2, ((KB.refl b w).setCell (k := g * 3) _).setCell (k := g * 3 + 1) _⟩
                have hfz3 : (w.setCell ⟨b, g * 3, none⟩ (.int .i64 t)).frozen? ⟨b, g * 3 + 1, none⟩ = false := (h.set hr ⟨t, r.ow, r.held⟩ 0 (.int .i64 t) (by omega) rfl).frozen _
                have hcc1 : (w.setCell ⟨b, g * 3, none⟩ (.int .i64 t)).cell? ⟨b, g * 3 + 1, none⟩ = some (.int .u64 (r.ow : Int)) := (range_cells (range_row (h.set hr ⟨t, r.ow, r.held⟩ 0 (.int .i64 t) (by omega) rfl).range (r := ⟨t, r.ow, r.held⟩) (by rw [List.getElem?_set_self (by rw [hl]; exact hg)]))).2.1
                clear hA hst hq KEY hh
                try clear hf1
                have HMY : Hid _ := rmay_any f t w
                clear h hr hl
                go_enter Try.func25, Try.ntmps25
                go_wp2_with fail
                refine Calls.mono HMY.out ?_
                rintro e w1 ⟨rfl, rfl⟩
                rw [hmy]
                go_wp2
                go_ret
                exact HEND.out
              · have HK : Hid _ := KEY.out 9 (by omega) (by unfold stC; rw [if_pos hA, if_pos hst, if_pos ⟨hh, hf1⟩])
                have hf1I : (f != 1) = true := by simpa using hf1
                clear hA hst hh KEY hf1
                have HMY : Hid _ := rmay_any f t w
                clear h hr hl
                go_enter Try.func25, Try.ntmps25
                go_wp2_with fail
                refine Calls.mono HMY.out ?_
                rintro e w1 ⟨rfl, rfl⟩
                rw [hmy]
                go_wp2
                go_ret
                exact HK.out
            · have hhI : ¬ (0 : Int) < (r.held : Int) := by omega
              have hq : stC r f t o = 0 := by unfold stC; rw [if_pos hA, if_pos hst, if_neg (fun h => hh h.1)]
              have HEND : Hid (REnd b (l.set g (stR r f t o)) (stC r f t o) w (.returned (.int .i64 0)) ((w.setCell ⟨b, g * 3, none⟩ (.int .i64 t)).setCell ⟨b, g * 3 + 1, none⟩ (.int .u64 (o : Int)))) := by
                rw [show stR r f t o = ⟨t, o, r.held⟩ from if_pos hq, hq]
                have h1 : AR (w.setCell ⟨b, g * 3, none⟩ (.int .i64 t)) b (l.set g ⟨t, r.ow, r.held⟩) := h.set hr _ 0 _ (by omega) rfl
                have h2 := h1.set (g := g) (r := ⟨t, r.ow, r.held⟩) (by rw [List.getElem?_set_self (by rw [hl]; exact hg)]) ⟨t, o, r.held⟩ 1 (.int .u64 (o : Int)) (by omega) rfl
                rw [List.set_set] at h2
                exact ⟨rfl, h2, ((KB.refl b w).setCell (k := g * 3) _).setCell (k := g * 3 + 1) _⟩
              have hfz3 : (w.setCell ⟨b, g * 3, none⟩ (.int .i64 t)).frozen? ⟨b, g * 3 + 1, none⟩ = false := (h.set hr ⟨t, r.ow, r.held⟩ 0 (.int .i64 t) (by omega) rfl).frozen _
              have hcc1 : (w.setCell ⟨b, g * 3, none⟩ (.int .i64 t)).cell? ⟨b, g * 3 + 1, none⟩ = some (.int .u64 (r.ow : Int)) := (range_cells (range_row (h.set hr ⟨t, r.ow, r.held⟩ 0 (.int .i64 t) (by omega) rfl).range (r := ⟨t, r.ow, r.held⟩) (by rw [List.getElem?_set_self (by rw [hl]; exact hg)]))).2.1
              clear hA hst hq KEY hh
              try clear hf1
              have HMY : Hid _ := rmay_any f t w
              clear h hr hl
              go_enter Try.func25, Try.ntmps25
              go_wp2_with fail
              refine Calls.mono HMY.out ?_
              rintro e w1 ⟨rfl, rfl⟩
              rw [hmy]
              go_wp2
              go_ret
              exact HEND.out
          · have HK : Hid _ := KEY.out 7 (by omega) (by unfold stC; rw [if_pos hA, if_neg hst])
            have hsI : (r.st != f) = true := by simpa using hst
            clear hA hst KEY
            have HMY : Hid _ := rmay_any f t w
            clear h hr hl
            go_enter Try.func25, Try.ntmps25
            go_wp2_with fail
            refine Calls.mono HMY.out ?_
            rintro e w1 ⟨rfl, rfl⟩
            rw [hmy]
            go_wp2
            go_ret
            exact HK.out
        | true =>
          have HK : Hid _ := KEY.out 2 (by omega) (by unfold stC; rw [if_neg (fun hA => by have := hA.2; rw [ne0, hOB] at this; simp at this; omega)])
          have hd2 : decide (2 ≤ t) = false := by simpa using h2
          have HMY : Hid _ := rmay_any f t w
          clear h hr hl
          go_enter Try.func25, Try.ntmps25
          go_wp2_with fail
          refine Calls.mono HMY.out ?_
          rintro e w1 ⟨rfl, rfl⟩
          rw [hmy]
          go_wp2
          go_ret
          exact HK.out
    exact main _ rfl
end Go.Proofs.Ytpmbbnmpldeajaa.GC
