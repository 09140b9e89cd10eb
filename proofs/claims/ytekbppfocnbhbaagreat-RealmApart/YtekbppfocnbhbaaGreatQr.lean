import Derived.Test.YtekbppfocnbhbaaGreatQp
import Derived.Test.YtekbppfocnbhbaaGreatQh
import Derived.Test.YtekbppfocnbhbaaGreatQi
set_option linter.unusedVariables false
set_option linter.unusedSimpArgs false
set_option maxHeartbeats 16000000
set_option maxRecDepth 100000
namespace Go.Proofs.YtekbppfocnbhbaaGreat.XC
open Go.RowKit
theorem all1_own (m : Nat) (hm : 1 ≤ m) (y : Nat) (X : World) (kb nb nw cap : Nat) (p : Option Addr) (l : List En) (ks : List Int) (W0 : World) (J : Nat → World → Prop) (hw : AS X W0 kb nb nw cap p l ks) (hkl : ∀ z ∈ ks, ∃ a r lv b, l = a ++ (z, r, lv) :: b) (hok : ∀ x ∈ l, x.2.1.ok ∧ x.2.1.log.length < 1000000 ∧ HR X x.2.2 x.2.1.log) (hn : ks.length ≤ 1000000)
    (hJB : ∀ k U V, J k U → Below U.heap.size U V → J k V)
    (hY : ∀ k z r lv v' W, ks[k]? = some z → (z, r, lv) ∈ l → J k W → AS X W kb nb nw cap p l ks → (∃ U, J k U ∧ W.ownsRow U.heap.size 69 172 v' r.log.length (lgC r.log)) → YieldAt Fence.wide (m - 1) Tryz.prog y #[.int .i64 z, .agg (rmL r v').toArray] W fun e Y => e = .returned (.bool true) ∧ J (k + 1) Y ∧ KpA X (KF kb nb nw p) W Y)
    (hj0 : J 0 W0) :
    CallsIn Fence.wide m Tryz.prog 62 #[.func (.yield y) #[] #[], .pointer (some ⟨kb, 0, none⟩), .pointer (some ⟨nb, 0, none⟩)] W0 fun e W' => (∃ v, e = .returned v) ∧ J ks.length W' := by
  refine callsIn_of_wp Tryz.func62 rfl trivial ?_ rfl
  simp only [Tryz.ntmps62, List.size_toArray, List.length_cons, List.length_nil, Nat.reduceAdd, Nat.reduceSub, Array.replicate_succ, Array.replicate_zero, List.push_toArray, List.append_toArray, List.nil_append, List.cons_append]
  have HY : Hid _ := hY
  have HJB : Hid _ := hJB
  have HW : Hid _ := hw
  have HKL : Hid _ := hkl
  have HOK : Hid _ := hok
  have HJ0 : Hid _ := hj0
  have hck : W0.cell? ⟨kb, 0, none⟩ = some (.slice p ks.length cap) := by rw [cell_of_row _ _ 0 _ _ _ hw.kc]; rfl
  clear hY hJB hkl hok hj0 hw
  gi_wp2
  clear hck
  gi_loopw [8] (fun i wr => ∃ k : Nat, k ≤ ks.length ∧ i = .int .i64 (k : Int) ∧ AS X wr kb nb nw cap p l ks ∧ J k wr) (fun i _ => ks.length - (intOf i).toNat)
  case atStart => exact ⟨0, Nat.zero_le _, rfl, HW.out, HJ0.out⟩
  case round =>
    clear HW HJ0
    obtain ⟨k, hk, rfl, hW, hJ⟩ := hrel
    generalize wr = W at *
    by_cases hlt : k < ks.length
    · have hkI : (k : Int) < (ks.length : Int) := by omega
      obtain ⟨z, hz⟩ : ∃ z, ks[k]? = some z := ⟨_, List.getElem?_eq_getElem hlt⟩
      have hne : ks ≠ [] := fun e => by rw [e] at hlt; simp at hlt
      obtain ⟨a, r, lv, b, hl⟩ := HKL.out z (List.mem_of_getElem? hz)
      have hmem : (z, r, lv) ∈ l := by rw [hl]; simp
      obtain ⟨hrok, hrl, hhr⟩ := HOK.out _ hmem
      obtain ⟨g, hp, hg, hcz⟩ := hW.kr k z hz
      subst hp
      have hcn : W.cell? ⟨nb, 0, none⟩ = some (.map (some nw)) := by rw [cell_of_row _ _ 0 _ _ _ hW.nc]; rfl
      have hlk : (Instr.lookup 78 (.map (some nw)) (.int .i64 z) false).run Tryz.prog W = .ok (.agg (rmL r lv).toArray) W := mr_some hW.mr (hW.mr.iok _ hmem) hl false
      have HTO : Hid (Calls Tryz.prog 44 #[.agg (rmL r lv).toArray] W fun e w' => TEnd W r e w') := told_any r lv W hrok (hhr.below hW.bel) hrl
      have HYK : Hid (∀ v' V, J k V → AS X V kb nb nw cap (some ⟨g, 0, none⟩) l ks → (∃ U, J k U ∧ V.ownsRow U.heap.size 69 172 v' r.log.length (lgC r.log)) → YieldAt Fence.wide (m - 1) Tryz.prog y #[.int .i64 z, .agg (rmL r v').toArray] V fun e Y => e = .returned (.bool true) ∧ J (k + 1) Y ∧ KpA X (KF kb nb nw (some ⟨g, 0, none⟩)) V Y) := fun v' V h1 h2 h3 => HY.out k z r lv v' V hz hmem h1 h2 h3
      have HWW : Hid _ := hW
      have HJK : Hid _ := hJ
      have HNE : Hid (ks ≠ []) := hne
      obtain ⟨RL, hRL⟩ : ∃ RL, RL = (rmL r lv).toArray := ⟨_, rfl⟩
      rw [← hRL] at hlk HTO
      clear hW hJ hz hl hmem hrok hrl hhr hRL hne
      gi_wp2
      refine ⟨trivial, (callsIn_wide.2 HTO.out).mono ?_⟩
      rintro e V ⟨v', rfl, hown, hb⟩
      have HV : Hid _ := HWW.out.below hb
      have HJV : Hid _ := HJB.out k W V HJK.out hb
      have HRV : Hid (∃ U, J k U ∧ V.ownsRow U.heap.size 69 172 v' r.log.length (lgC r.log)) := ⟨W, HJK.out, hown⟩
      obtain ⟨fn, tmps, assign, body, hy, hR⟩ := HYK.out v' V HJV.out HV.out HRV.out
      have HRR : Hid _ := hR
      clear hR hown hb
      gi_wp2
      refine RoundIn.mono HRR.out ?_
      rintro e W3 ⟨rfl, hJ3, hK3⟩
      have HJ3 : Hid _ := hJ3
      have HW3 : Hid _ := HV.out.kp HNE.out hK3
      clear hJ3 hK3 hy
      gi_wp2
      go_roundw
      case rel => exact ⟨k + 1, by omega, by go_num, HW3.out, HJ3.out⟩
      case measure => simp [intOf]; omega
    · have hke : k = ks.length := by omega
      subst hke
      have HJ : Hid _ := hJ
      clear hJ hW
      gi_wp2
      go_end0
      exact ⟨⟨_, rfl⟩, HJ.out⟩
def KpC (X : World) (S : Nat → Prop) (B : Nat) (W Y : World) : Prop := Below X.heap.size X Y ∧ W.heap.size ≤ Y.heap.size ∧ ∀ k, k < W.heap.size → (k = B ∨ k = B + 1 ∨ S k) → Y.heap[k]? = W.heap[k]?
theorem range_own {gop : Operand} {ps : Array Tmp} {assign body : Code} {Q : Exit → Act → World → Prop} {a : Act} {w X : World} {kb nb nw cap : Nat} {p : Option Addr} {l : List En} {ks : List Int}
    (hg : a.eval gop = .func (.func 62) #[] #[.pointer (some ⟨kb, 0, none⟩), .pointer (some ⟨nb, 0, none⟩)]) (hps : ps.size = 2)
    (hw : AS X w kb nb nw cap p l ks) (hkl : ∀ z ∈ ks, ∃ a r lv b, l = a ++ (z, r, lv) :: b) (hok : ∀ x ∈ l, x.2.1.ok ∧ x.2.1.log.length < 1000000 ∧ HR X x.2.2 x.2.1.log) (hn : ks.length ≤ 1000000)
    (I : Nat → World → Prop) (hIB : ∀ k U V, I k U → Below U.heap.size U V → I k V) (hIo : ∀ k U lp ob, I k U → w.heap.size ≤ lp → I k (U.putObj lp ob)) (hI0 : I 0 w)
    (hround : ∀ lp k z r lv v' U, ks[k]? = some z → (z, r, lv) ∈ l → U.ownsRow (w.heap.size + 2) 69 172 v' r.log.length (lgC r.log) → I k U → AS X U kb nb nw cap p l ks → lp = w.heap.size + 1 → w.heap.size + 2 ≤ U.heap.size → (∃ r, U.heap[lp]? = some (.loop r)) →
      assign.wpIn (Fence.wide.inRound lp) 7 Tryz.prog (Exit.then (fun a1 X1 => Below U.heap.size U X1 ∧ ∀ X2, (∃ ob, X2 = X1.putObj lp ob) → body.wpIn (Fence.wide.inRound lp) 7 Tryz.prog (fun e a3 X3 => e = .normal ∧ I (k + 1) X3 ∧ KpC X (KF kb nb nw p) w.heap.size X2 X3) a1 X2) (fun _ _ _ => False)) { tmps := (ps.zip #[.int .i64 z, .agg (rmL r v').toArray]).foldl (fun t (p, v) => t.setIfInBounds p v) a.tmps, defers := [] } U)
    (hdone : ∀ U, I ks.length U → Below X.heap.size X U → U.heap[w.heap.size]? = some (.deferred (some [])) → Q .normal { a with defers := { target := .collected w.heap.size, args := #[] } :: a.defers } U) :
    (Code.rangeFunc gop ps assign body).wp Tryz.prog Q a w := by
  refine (wpIn_wide (n := 9)).1 (wpIn_rangeFunc (F := Fence.wide) (n := 9) ?_)
  intro fn hfn
  have hbw := hw.bel
  have hXw := hbw.size
  obtain ⟨rec, hrec⟩ : ∃ rec : LoopState → Loop, rec = fun st => { state := st, pending := none, fn, tmps := a.tmps, params := ps, assign, body, defers := w.heap.size } := ⟨_, rfl⟩
  obtain ⟨W1, hW1⟩ : ∃ W1, W1 = (w.alloc (.deferred (some []))).alloc (.loop (rec .ready)) := ⟨_, rfl⟩
  have hb1 : Below w.heap.size w W1 := by rw [hW1]; exact ((Below.refl _ _).alloc (Nat.le_refl _) _).alloc (by simp) _
  have hs1 : W1.heap.size = w.heap.size + 2 := by rw [hW1]; simp
  have hl1 : W1.heap[w.heap.size + 1]? = some (.loop (rec .ready)) := by rw [hW1]; exact R5.heap_at _ _ _ (by simp)
  have hd1 : W1.heap[w.heap.size]? = some (.deferred (some [])) := by rw [hW1]; exact R5.alloc2_first _ _ _
  refine ⟨w.heap.size + 1, [{ target := .collected w.heap.size, args := #[] }], W1, { target := .fn (.func 62) #[.pointer (some ⟨kb, 0, none⟩), .pointer (some ⟨nb, 0, none⟩)], args := #[.func (.yield (w.heap.size + 1)) #[] #[]] }, W1, 62,
    #[.func (.yield (w.heap.size + 1)) #[] #[]] ++ #[.pointer (some ⟨kb, 0, none⟩), .pointer (some ⟨nb, 0, none⟩)], W1, ?_, ?_, fun f' hf' => trivial, ?_, fun _ => by omega, ?_⟩
  · rw [hW1, hrec]; exact run_enterLoop_outer _ _ _ _ _
  · simp only [resolve, hg]
    simp [go_sem]
  · simp [invoke, go_sem, enters_of Tryz.func62 (by kernel_rfl) rfl]
  · refine ((all1_own 8 (by omega) (w.heap.size + 1) X kb nb nw cap p l ks W1 (fun k U => I k U ∧ w.heap.size + 2 ≤ U.heap.size ∧ U.heap[w.heap.size + 1]? = some (.loop (rec .ready)) ∧ U.heap[w.heap.size]? = some (.deferred (some [])) ∧ Below X.heap.size X U) (hw.below hb1) hkl hok hn (fun k U V hU hb => ⟨hIB k U V hU.1 hb, Nat.le_trans hU.2.1 hb.size, (hb.block _ (Array.getElem?_eq_some_iff.1 hU.2.2.1).1).trans hU.2.2.1, (hb.block _ (Array.getElem?_eq_some_iff.1 hU.2.2.2.1).1).trans hU.2.2.2.1, hU.2.2.2.2.trans (hb.mono hU.2.2.2.2.size)⟩) ?_ ⟨hIB 0 w W1 hI0 hb1, by omega, hl1, hd1, hbw.trans (hb1.mono hXw)⟩).mono ?_)
    · rintro k z r lv v' U hz hm ⟨hI, hsX, hl, hd, hbU⟩ hAU ⟨V0, hV0, hown⟩
      have hhr := R5.own_lower hown hV0.2.1
      have hlt := (Array.getElem?_eq_some_iff.1 hl).1
      have hne : ks ≠ [] := fun e => by rw [e] at hz; simp at hz
      have hSlt := hw.lt hne
      have hy := run_yield (P := Tryz.prog) (args := #[.int .i64 z, .agg (rmL r v').toArray]) hl (by rw [hrec]; exact hps.symm)
      rw [hrec] at hy
      refine ⟨fn, _, assign, body, hy, roundIn_of_wpIn trivial (Code.wpIn_mono ?_ (hround (w.heap.size + 1) k z r lv v' U hz hm hhr hI hAU rfl hsX ⟨_, hl⟩))⟩
      rintro e a1 X1 hq
      cases e with
      | normal =>
        obtain ⟨hbX, hbody⟩ := hq
        have hl' : X1.heap[w.heap.size + 1]? = some (.loop (rec .ready)) := (hbX.block _ hlt).trans hl
        have hlt1 := (Array.getElem?_eq_some_iff.1 hl').1
        refine ⟨_, run_beginRound hl' (by rw [hrec]), Code.wpIn_mono ?_ (hbody _ ⟨_, rfl⟩)⟩
        rintro e a3 X3 ⟨rfl, hI3, hK3⟩
        have hl2 : (X1.putObj (w.heap.size + 1) (.loop { rec .ready with state := .busy })).heap[w.heap.size + 1]? = some (.loop { rec .ready with state := .busy }) := World.putObj_heap_same hlt1
        have hs2 : (X1.putObj (w.heap.size + 1) (.loop { rec .ready with state := .busy })).heap.size = X1.heap.size := by simp
        have hbs := hbX.size
        have hl3 : X3.heap[w.heap.size + 1]? = some (.loop { rec .ready with state := .busy }) := (hK3.2.2 _ (by rw [hs2]; exact hlt1) (by first | exact .inl rfl | exact .inr (.inl rfl))).trans hl2
        have hend := run_endRound (P := Tryz.prog) none hl3
        have hks := hK3.2.1
        rw [hs2] at hks
        have hb4 : Below X.heap.size X (X3.putObj (w.heap.size + 1) (.loop { rec .ready with state := .ready })) := below_put hK3.1 (by omega) _
        refine ⟨_, _, hend, rfl, ⟨hIo _ _ _ _ hI3 (by omega), by simp; omega, ?_, ?_, below_put hK3.1 (by omega) _⟩, below_put hK3.1 (by omega) _, ?_, fun q hq hqU => ?_⟩
        · rw [World.putObj_heap_same (Array.getElem?_eq_some_iff.1 hl3).1, hrec]; rfl
        · rw [World.putObj_heap_other (by omega), hK3.2.2 _ (by rw [hs2]; omega) (by first | exact .inl rfl | exact .inr (.inl rfl)), World.putObj_heap_other (by omega)]
          exact (hbX.block _ (Array.getElem?_eq_some_iff.1 hd).1).trans hd
        · simp; omega
        · have hqw := hSlt q hq
          rw [World.putObj_heap_other (by omega), hK3.2.2 q (by rw [hs2]; omega) (.inr (.inr hq)), World.putObj_heap_other (by omega)]
          exact hbX.block _ hqU
      | _ => exact hq.elim
    · rintro e U ⟨⟨v, rfl⟩, hI, hsX, hl, hd, hbU⟩
      have hend := run_endLoop (P := Tryz.prog) hl (by rw [hrec]; simp)
      refine ⟨none, _, by rw [hend, hrec], hdone _ (hIo _ _ _ _ hI (by omega)) (below_put hbU (by omega) _) ?_⟩
      rw [World.putObj_heap_other (by omega)]; exact hd
section
variable {c : Cx} {tn last kb nb nw cap : Nat} {L R : Lg} {I : Nat → Prop} {X X0 W V : World} {l : List En} {p : Option Addr} {ks : List Int}
def cutW (V : World) (n : Nat) : World := { V with heap := V.heap.extract 0 n }
theorem cutW_size (V : World) (n : Nat) (h : n ≤ V.heap.size) : (cutW V n).heap.size = n := by unfold cutW; simp; omega
theorem cutW_get (V : World) {n k : Nat} (h : n ≤ V.heap.size) (hk : k < n) : V.heap[k]? = (cutW V n).heap[k]? := by
  unfold cutW
  rw [Array.getElem?_extract]
  simp
  omega
theorem cutW_below (V : World) (n : Nat) (h : n ≤ V.heap.size) : Below (cutW V n).heap.size (cutW V n) V :=
  ⟨rfl, rfl, rfl, by rw [cutW_size V n h]; exact h, fun k hk => cutW_get V h (by rw [cutW_size V n h] at hk; exact hk)⟩
theorem cutW_hr {v : Value} {log : List Rd} {n : Nat} (hn : n ≤ V.heap.size) (h : HR V v log) (hv : ∀ k, v.ownBlock = some k → k < n) : HR (cutW V n) v log := by
  rcases h with h1 | ⟨g, cap, he, hc⟩
  · exact .inl h1
  · exact .inr ⟨g, cap, he, fun j u hu => (World.cell?_of_block (a := ⟨g, j, none⟩) (cutW_get V hn (hv g (by rw [he]; rfl))).symm).trans (hc j u hu)⟩
theorem AS.rebase (h : AS X W kb nb nw cap p l ks) (hn : X.heap.size ≤ V.heap.size) (hk : ∀ k, X.heap.size ≤ k → k < W.heap.size → V.heap[k]? = W.heap[k]?) : AS (cutW V X.heap.size) V kb nb nw cap p l ks := by
  have hs := cutW_size V X.heap.size hn
  refine ⟨cutW_below V _ hn, (hk kb h.lo.1 (PC.row_lt h.kc)).trans h.kc, (hk nb h.lo.2.1 (PC.row_lt h.nc)).trans h.nc, fun j z hz => ?_, h.mr.keep (hk nw h.lo.2.2 h.mr.lt), by rw [hs]; exact h.lo⟩
  obtain ⟨g, h1, h2, h3⟩ := h.kr j z hz
  exact ⟨g, h1, by rw [hs]; exact h2, (World.cell?_of_block (a := ⟨g, j, none⟩) (hk g h2 (cell_lt h3))).trans h3⟩
theorem copy_nil (h : JP c tn L R I X l last) : Calls Tryz.prog 19 #[.pointer (some ⟨c.xb, 0, none⟩), .pointer none] X fun e Y => e = .returned (.pointer none) ∧ Below X.heap.size X Y := by
  have HN : Hid _ := h.nonO
  have HNO : Hid (∀ V : World, Calls Tryz.prog 55 #[.pointer none] V fun e Y => e = .returned (.bool true) ∧ Below V.heap.size V Y) := fun V => noOr_yes (.pointer none) V (fun X _ => R5.none_nil X)
  clear h
  go_enter Tryz.func19, Tryz.ntmps19
  go_wp2_with fail
  refine Calls.mono HN.out ?_
  rintro e w1 ⟨rfl, hb1⟩
  have HB1 : Hid _ := hb1
  clear hb1 HN
  go_wp2_with fail
  refine Calls.mono (HNO.out w1) ?_
  rintro e w2 ⟨rfl, hb2⟩
  have HB2 : Hid (Below X.heap.size X w2) := HB1.out.trans (hb2.mono HB1.out.size)
  clear hb2 HB1 HNO
  go_wp2
  go_ret
  exact ⟨rfl, HB2.out⟩
end
theorem own_set {B j g s n : Nat} {ty : TypeId} {v u : Value} {xs : List Value} {w : World} (h : w.ownsRow B ty s v n xs) (hg : v.ownBlock = some g) : (w.setCell ⟨g, j, none⟩ u).ownsRow B ty s v n (xs.set j u) := by
  refine ⟨by rw [List.length_set]; exact h.1, .inr ?_⟩
  rcases h.2 with ⟨e1, _⟩ | ⟨g', cap, cur, e1, e2, e3, e4, e5, e6, e7⟩
  · rw [e1] at hg; simp [Value.ownBlock] at hg
  · have e : g' = g := by rw [e1] at hg; simpa [Value.ownBlock] using hg
    subst e
    refine ⟨g', cap, cur.setIfInBounds j u, e1, e2, heap_setCell_same _ _ j _ _ _ e3, e4, e5, by simpa using e6, ?_⟩
    rw [Array.toList_setIfInBounds, List.take_set, e7]
theorem own_frozen {B j g s n : Nat} {ty : TypeId} {v : Value} {xs : List Value} {w : World} (h : w.ownsRow B ty s v n xs) (hg : v.ownBlock = some g) : w.frozen? ⟨g, j, none⟩ = false := by
  rcases h.2 with ⟨e1, _⟩ | ⟨g', cap, cur, e1, e2, e3, _⟩
  · rw [e1] at hg; simp [Value.ownBlock] at hg
  · have e : g' = g := by rw [e1] at hg; simpa [Value.ownBlock] using hg
    subst e
    exact frozen_of_row _ _ j _ _ e3
def bR (x : Rd) : Rd := { x with page := wrap64 (x.page + 1) }
theorem bR_ok {x : Rd} (h : x.ok) : (bR x).ok := ⟨h.v, h.d, h.s⟩
theorem bR_ne (x : Rd) : x.page ≠ (bR x).page := by
  show x.page ≠ wrap64 (x.page + 1)
  simp only [wrap64]
  omega
def bmp (k : Nat) (l : List Rd) : List Rd := (l.take k).map bR ++ l.drop k
theorem bmp_zero (l : List Rd) : bmp 0 l = l := by simp [bmp]
theorem bmp_len (k : Nat) (l : List Rd) : (bmp k l).length = l.length := by simp [bmp]; omega
theorem bmp_all (x : Rd) (l : List Rd) : bmp (x :: l).length (x :: l) = bR x :: l.map bR := by simp [bmp]
theorem bmp_at (a b : List Rd) (x : Rd) : bmp a.length (a ++ x :: b) = a.map bR ++ x :: b := by simp [bmp]
theorem bmp_next (a b : List Rd) (x : Rd) : bmp (a.length + 1) (a ++ x :: b) = a.map bR ++ bR x :: b := by
  have e : a ++ x :: b = (a ++ [x]) ++ b := by simp
  have := bmp_len
  unfold bmp
  rw [e, List.take_append_of_le_length (by simp), List.drop_append_of_le_length (by simp), List.take_of_length_le (by simp), List.drop_of_length_le (by simp)]
  simp
theorem lgC_split (a b : List Rd) (x : Rd) : lgC (a ++ x :: b) = (lgC a ++ (.int .i64 x.kind :: x.value.map B8)) ++ .int .i64 x.page :: ((x.data.map B8 ++ PC.rcL x.pc x.rs x.run) ++ lgC b) := by
  rw [lgC_app]
  show lgC a ++ (rdL x ++ lgC b) = _
  unfold rdL
  simp
theorem bmp_step {l : List Rd} {k : Nat} {x : Rd} (hok : ∀ y ∈ l, y.ok) (hx : l[k]? = some x) : (lgC (bmp k l))[k * 172 + 33]? = some (.int .i64 x.page) ∧ (lgC (bmp k l)).set (k * 172 + 33) (.int .i64 (wrap64 (x.page + 1))) = lgC (bmp (k + 1) l) := by
  obtain ⟨a, b, rfl, rfl⟩ := split_j hx
  have ha : ∀ y ∈ a.map bR, y.ok := fun y hy => by
    obtain ⟨z, hz, rfl⟩ := List.mem_map.1 hy
    exact bR_ok (hok z (by simp [hz]))
  have hxo := hok x (by simp)
  have hl : (lgC (a.map bR) ++ (Value.int .i64 x.kind :: x.value.map B8)).length = a.length * 172 + 33 := by rw [List.length_append, lgC_len ha]; simp [hxo.v]
  rw [bmp_at, bmp_next, lgC_split, lgC_split]
  exact ⟨at_app _ _ _ _ hl, set_app _ _ _ _ _ hl⟩
theorem bmp_ok {l : List Rd} (k : Nat) (h : ∀ y ∈ l, y.ok) : ∀ y ∈ bmp k l, y.ok := fun y hy => by
  unfold bmp at hy
  rcases List.mem_append.1 hy with hy | hy
  · obtain ⟨z, hz, rfl⟩ := List.mem_map.1 hy
    exact bR_ok (h z (List.mem_of_mem_take hz))
  · exact h y (List.mem_of_mem_drop hy)
structure LI (W0 : World) (B q11 q12 : Nat) (r : Rm) (vx vr : Value) (ka kb : Nat) (W : World) : Prop where
  bel : Below B W0 W
  r11 : W.heap[q11]? = some (.cells (rmL r vr).toArray 47 (0, 0))
  r12 : W.heap[q12]? = some (.cells (rmL r vx).toArray 47 (0, 0))
  ox : W.ownsRow B 69 172 vx r.log.length (lgC (bmp ka r.log))
  orr : W.ownsRow B 69 172 vr r.log.length (lgC (bmp kb r.log))
  ne : ∀ k, vx.ownBlock = some k → k ≠ q11 ∧ k ≠ q12 ∧ vr.ownBlock ≠ some k
  nr : ∀ k, vr.ownBlock = some k → k ≠ q11 ∧ k ≠ q12
section
variable {W0 W V : World} {B q11 q12 n ka kb cx cr : Nat} {r : Rm} {vx vr : Value} {px pr : Option Addr} {x : Rd}
theorem LI.c12 (h : LI W0 B q11 q12 r vx vr ka kb W) (hok : r.ok) : W.cell? ⟨q12, 36, none⟩ = some vx := by rw [cell_of_row _ _ 36 _ _ _ h.r12, List.getElem?_toArray]; exact rmL_36 hok _
theorem LI.c11 (h : LI W0 B q11 q12 r vx vr ka kb W) (hok : r.ok) : W.cell? ⟨q11, 36, none⟩ = some vr := by rw [cell_of_row _ _ 36 _ _ _ h.r11, List.getElem?_toArray]; exact rmL_36 hok _
theorem LI.bx (h : LI W0 B q11 q12 r (.slice px n cx) vr ka kb W) (hn : n = r.log.length) (hok : r.ok) (hx : r.log[ka]? = some x) :
    ∃ g, px = some ⟨g, 0, none⟩ ∧ W.cell? ⟨g, ka * 172 + 33, none⟩ = some (.int .i64 x.page) ∧ W.frozen? ⟨g, ka * 172 + 33, none⟩ = false ∧ LI W0 B q11 q12 r (.slice px n cx) vr (ka + 1) kb (W.setCell ⟨g, ka * 172 + 33, none⟩ (.int .i64 (wrap64 (x.page + 1)))) := by
  have hox := h.ox
  have hlt : ka < r.log.length := (List.getElem?_eq_some_iff.1 hx).1
  obtain ⟨g, hp⟩ : ∃ g, px = some ⟨g, 0, none⟩ := by
    rcases hox.2 with ⟨e1, e2⟩ | ⟨g, cap, cur, e1, _⟩
    · omega
    · injection e1 with e; exact ⟨g, e⟩
  subst hp
  obtain ⟨b1, b2⟩ := bmp_step hok.l hx
  have hob : (Value.slice (some ⟨g, 0, none⟩) n cx).ownBlock = some g := rfl
  have hc := World.ownsRow.cells hox (g := g) hob _ _ b1
  rw [PC.add_none, Nat.zero_add] at hc
  have hgB := (World.ownsRow.lt hox g hob).1
  have hne := h.ne g hob
  refine ⟨g, rfl, hc, own_frozen hox hob, h.bel.setCell (p := ⟨g, ka * 172 + 33, none⟩) hgB _, ?_, ?_, ?_, ?_, h.ne, h.nr⟩
  · rw [heap_setCell_other _ _ _ _ (fun e => hne.1 e.symm)]; exact h.r11
  · rw [heap_setCell_other _ _ _ _ (fun e => hne.2.1 e.symm)]; exact h.r12
  · rw [← b2]; exact own_set hox hob
  · exact R5.own_keep h.orr (fun k e _ => heap_setCell_other _ _ _ _ (fun e2 => hne.2.2 (by rw [e]; exact congrArg some e2)))
theorem LI.br (h : LI W0 B q11 q12 r vx (.slice pr n cr) ka kb W) (hn : n = r.log.length) (hok : r.ok) (hx : r.log[kb]? = some x) :
    ∃ g, pr = some ⟨g, 0, none⟩ ∧ W.cell? ⟨g, kb * 172 + 33, none⟩ = some (.int .i64 x.page) ∧ W.frozen? ⟨g, kb * 172 + 33, none⟩ = false ∧ LI W0 B q11 q12 r vx (.slice pr n cr) ka (kb + 1) (W.setCell ⟨g, kb * 172 + 33, none⟩ (.int .i64 (wrap64 (x.page + 1)))) := by
  have hox := h.orr
  have hlt : kb < r.log.length := (List.getElem?_eq_some_iff.1 hx).1
  obtain ⟨g, hp⟩ : ∃ g, pr = some ⟨g, 0, none⟩ := by
    rcases hox.2 with ⟨e1, e2⟩ | ⟨g, cap, cur, e1, _⟩
    · omega
    · injection e1 with e; exact ⟨g, e⟩
  subst hp
  obtain ⟨b1, b2⟩ := bmp_step hok.l hx
  have hob : (Value.slice (some ⟨g, 0, none⟩) n cr).ownBlock = some g := rfl
  have hc := World.ownsRow.cells hox (g := g) hob _ _ b1
  rw [PC.add_none, Nat.zero_add] at hc
  have hgB := (World.ownsRow.lt hox g hob).1
  have hne := h.nr g hob
  refine ⟨g, rfl, hc, own_frozen hox hob, h.bel.setCell (p := ⟨g, kb * 172 + 33, none⟩) hgB _, ?_, ?_, ?_, ?_, h.ne, h.nr⟩
  · rw [heap_setCell_other _ _ _ _ (fun e => hne.1 e.symm)]; exact h.r11
  · rw [heap_setCell_other _ _ _ _ (fun e => hne.2 e.symm)]; exact h.r12
  · exact R5.own_keep h.ox (fun k e _ => heap_setCell_other _ _ _ _ (fun e2 => (h.ne k e).2.2 (by rw [hob]; exact congrArg some e2.symm)))
  · rw [← b2]; exact own_set hox hob
theorem LI.below (h : LI W0 B q11 q12 r vx vr ka kb W) (hB : B ≤ W.heap.size) (hb : Below W.heap.size W V) : LI W0 B q11 q12 r vx vr ka kb V :=
  ⟨h.bel.trans (hb.mono hB), (hb.block _ (PC.row_lt h.r11)).trans h.r11, (hb.block _ (PC.row_lt h.r12)).trans h.r12, R5.own_keep h.ox (fun k e hl => hb.block k hl), R5.own_keep h.orr (fun k e hl => hb.block k hl), h.ne, h.nr⟩
end
theorem neq_part (ev : Operand → Value) (o : Oper) (x y : Operand) (ho : o.op = .binOp .neq 69 x y 69) (w : World) (r s : Rd) (h : r.ok) (hs : s.ok) (hk : r.kind = s.kind) (hvv : r.value = s.value) (hp : r.page ≠ s.page) (hx : ev x = .agg (rdL r).toArray) (hy : ev y = .agg (rdL s).toArray) : (execOp ev o).run Tryz.prog w = .ok (.value (.bool true)) w := by
  have h0 : (rdL r)[0]? = some (.int .i64 r.kind) := rfl
  have h33 := rdL_33 h
  have hv := rdL_val h
  have s0 : (rdL s)[0]? = some (.int .i64 s.kind) := rfl
  have s33 := rdL_33 hs
  have sv := rdL_val hs
  have e1 : (Op.equalIn 9999 33 (.agg (r.value.map B8).toArray) (.agg (r.value.map B8).toArray)).run Tryz.prog w = .ok true w := by
    rw [show true = (r.value == r.value) by simp]
    exact run_equalIn_bytes (P := Tryz.prog) w 9997 33 5 32 Tryz.underlying33 Tryz.underlying5 PC.size_u8 r.value r.value h.v h.v
  have hsd := PC.size_dg
  have hsg : ∀ w, (sizeOf 38).run Tryz.prog w = .ok 128 w := fun w => by kernel_rfl
  have hsr : ∀ w, (sizeOf 41).run Tryz.prog w = .ok 10 w := fun w => by kernel_rfl
  have hpb : (r.page == s.page) = false := by simpa using hp
  rw [← hk] at s0
  rw [← hvv] at sv
  unfold execOp
  rw [ho]
  generalize rdL r = PL at *
  generalize rdL s = QL at *
  generalize r.value.map B8 = VL at *
  go_simp
theorem samelog_ne (va vb : Value) (x : Rd) (xs ys : List Rd) (w : World) (hl : (x :: xs).length < 1000000) (hyl : ys.length = xs.length) (hok : ∀ y ∈ x :: xs, y.ok) (hoy : ∀ y ∈ bR x :: ys, y.ok) (ha : HR w va (x :: xs)) (hb : HR w vb (bR x :: ys)) :
    Calls Tryz.prog 22 #[va, vb] w fun e w' => e = .returned (.bool false) ∧ Below w.heap.size w w' := by
  obtain ⟨ga, ca, hva, ra⟩ := ha.range hok (i := 0) rfl
  obtain ⟨gb, cb, hvb, rb⟩ := hb.range hoy (i := 0) rfl
  subst hva hvb
  have HXA : Hid (w.rangeAt ga 0 (rdL x)) := by rw [Nat.zero_mul] at ra; exact ra
  have HXB : Hid (w.rangeAt gb 0 (rdL (bR x))) := by rw [Nat.zero_mul] at rb; exact rb
  have hxo := hok x (by simp)
  have HIA : Hid _ := info172 (rdL x) (rdL_len hxo)
  have HIB : Hid _ := info172 (rdL (bR x)) (rdL_len (bR_ok hxo))
  have HEQ : Hid (∀ ev o y z W, o.op = .binOp .neq 69 y z 69 → ev y = .agg (rdL x).toArray → ev z = .agg (rdL (bR x)).toArray → (execOp ev o).run Tryz.prog W = .ok (.value (.bool true)) W) := fun ev o y z W h0 h1 h2 => neq_part ev o y z h0 W x (bR x) hxo (bR_ok hxo) rfl rfl (bR_ne x) h1 h2
  have HUR : Hid _ := Tryz.underlying69
  obtain ⟨N, hN⟩ : ∃ N, N = (x :: xs).length := ⟨_, rfl⟩
  have hN2 : (bR x :: ys).length = N := by rw [hN]; simp [hyl]
  rw [hN2, ← hN]
  have hNp : 0 < N := by rw [hN]; simp
  rw [← hN] at hl
  have hq : ((N : Int) != (N : Int)) = false := by simp
  generalize rdL x = XL at *
  generalize rdL (bR x) = YL at *
  clear ha hb hok hoy hN hN2 hyl hxo ra rb
  go_enter Tryz.func22, Tryz.ntmps22
  go_wp2
  go_loopw [5] (fun i wr => i = .int .i64 0 ∧ Below w.heap.size w wr) (fun i _ => 0)
  case atStart => exact ⟨rfl, Below.refl _ _⟩
  case round =>
    obtain ⟨rfl, hb⟩ := hrel
    have hkI : (0 : Int) < (N : Int) := by omega
    have HBd : Hid (Below w.heap.size w wr.drew) := hb.drew
    clear hb
    go_wp2
    refine wp_region_held_drew (S := fun w' => Below w.heap.size w w') (by kernel_rfl) HBd.out (fun hHeld => ?_)
    generalize wr.drew = W at *
    refine qzI 0 ⟨some 17, .move (.tmp 0), 45, _, #[], none⟩ (.slice (some ⟨ga, 0, none⟩) N ca) rfl (by kernel_rfl) (fun _ _ _ h => h) (by rfl) (fun w' hw' => ?_) hHeld ?_
    · go_simp <;> rfl
    try simp only [Act.put, qT, q0, qS]
    refine qzI 1 ⟨some 18, .move (.tmp 5), 3, _, #[], none⟩ (.int .i64 0) rfl (by kernel_rfl) (fun _ _ _ h => h) (by rfl) (fun w' hw' => ?_) hHeld ?_
    · go_simp <;> rfl
    try simp only [Act.put, qT, q0, qS]
    refine qzI 2 ⟨some 19, .indexAddr 45 (.tmp 17) (.tmp 18), 0, _, #[⟨0, .data⟩, ⟨1, .data⟩], none⟩ (.pointer (some ⟨ga, 0, none⟩)) rfl (by kernel_rfl) (fun _ _ _ h => h) (by rfl) (fun w' hw' => ?_) hHeld ?_
    · go_simp <;> rfl
    try simp only [Act.put, qT, q0, qS]
    refine qzK 3 ⟨some 20, .load 69 (.tmp 19), 69, _, #[⟨2, .data⟩], none⟩ _ rfl (by kernel_rfl) (fun _ _ _ h => h) (yieldsIf_load_mid (by rfl) 69 (.tmp 19) rfl (ga) (0) rfl (XL) _ (fun _ h => PC.rangeAt_below HXA.out h) HUR.out rfl HIA.out) hHeld ?_
    try simp only [Act.put, qT, q0, qS]
    refine qzI 4 ⟨some 21, .move (.tmp 1), 45, _, #[], none⟩ (.slice (some ⟨gb, 0, none⟩) N cb) rfl (by kernel_rfl) (fun _ _ _ h => h) (by rfl) (fun w' hw' => ?_) hHeld ?_
    · go_simp <;> rfl
    try simp only [Act.put, qT, q0, qS]
    refine qzI 5 ⟨some 22, .move (.tmp 5), 3, _, #[], none⟩ (.int .i64 0) rfl (by kernel_rfl) (fun _ _ _ h => h) (by rfl) (fun w' hw' => ?_) hHeld ?_
    · go_simp <;> rfl
    try simp only [Act.put, qT, q0, qS]
    refine qzI 6 ⟨some 23, .indexAddr 45 (.tmp 21) (.tmp 22), 0, _, #[⟨4, .data⟩, ⟨5, .data⟩], none⟩ (.pointer (some ⟨gb, 0, none⟩)) rfl (by kernel_rfl) (fun _ _ _ h => h) (by rfl) (fun w' hw' => ?_) hHeld ?_
    · go_simp <;> rfl
    try simp only [Act.put, qT, q0, qS]
    refine qzK 7 ⟨some 24, .load 69 (.tmp 23), 69, _, #[⟨6, .data⟩], none⟩ _ rfl (by kernel_rfl) (fun _ _ _ h => h) (yieldsIf_load_mid (by rfl) 69 (.tmp 23) rfl (gb) (0) rfl (YL) _ (fun _ h => PC.rangeAt_below HXB.out h) HUR.out rfl HIB.out) hHeld ?_
    try simp only [Act.put, qT, q0, qS]
    refine qzI 8 ⟨some 25, .binOp .neq 69 (.tmp 20) (.tmp 24) 69, 4, _, #[⟨3, .data⟩, ⟨7, .data⟩], none⟩ (.bool true) rfl (by kernel_rfl) (fun _ _ _ h => h) (by rfl) (fun w' hw' => ?_) hHeld ?_
    · exact HEQ.out _ _ _ _ w' rfl rfl rfl
    try simp only [Act.put, qT, q0, qS]
    refine wpAnyH_done (by kernel_rfl) ?_ _
    have HBE : Hid (Below w.heap.size w W) := hHeld
    clear hHeld
    go_wp2
    go_ret
    exact ⟨rfl, HBE.out⟩
end Go.Proofs.YtekbppfocnbhbaaGreat.XC
