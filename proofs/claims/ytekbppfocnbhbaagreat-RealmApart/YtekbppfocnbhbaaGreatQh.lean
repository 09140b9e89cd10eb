import Derived.Test.YtekbppfocnbhbaaGreatQf
import Derived.Test.YtekbppfocnbhbaaGreatRs
import Derived.Test.YtekbppfocnbhbaaGreatQn
import Derived.Test.YtekbppfocnbhbaaGreatO9
set_option linter.unusedVariables false
set_option linter.unusedSimpArgs false
namespace Go.Proofs.YtekbppfocnbhbaaGreat.XC
open Go.RowKit
def KpB (X : World) (S : Nat → Prop) (B : Nat) (W Y : World) : Prop := Below X.heap.size X Y ∧ W.heap.size ≤ Y.heap.size ∧ ∀ k, k < W.heap.size → (B ≤ k ∨ S k) → Y.heap[k]? = W.heap[k]?
theorem below_put {X W : World} {lp : Nat} (h : Below X.heap.size X W) (hl : X.heap.size ≤ lp) (ob : Obj) : Below X.heap.size X (W.putObj lp ob) := h.grown (grownBy_putObj' W lp ob) h.size (fun k e => by cases e; exact hl)
theorem range_all {gop : Operand} {ps : Array Tmp} {assign body : Code} {Q : Exit → Act → World → Prop} {a : Act} {w X : World} {kb nb nw cap : Nat} {p : Option Addr} {l : List En} {ks : List Int}
    (hg : a.eval gop = .func (.func 62) #[] #[.pointer (some ⟨kb, 0, none⟩), .pointer (some ⟨nb, 0, none⟩)]) (hps : ps.size = 2)
    (hw : AS X w kb nb nw cap p l ks) (hkl : ∀ z ∈ ks, ∃ a r lv b, l = a ++ (z, r, lv) :: b) (hok : ∀ x ∈ l, x.2.1.ok ∧ x.2.1.log.length < 1000000 ∧ HR X x.2.2 x.2.1.log) (hn : ks.length ≤ 1000000)
    (I : Nat → World → Prop) (hIB : ∀ k U V, I k U → Below U.heap.size U V → I k V) (hIo : ∀ k U lp ob, I k U → w.heap.size ≤ lp → I k (U.putObj lp ob)) (hI0 : I 0 w)
    (hround : ∀ lp k z r lv v' U, ks[k]? = some z → (z, r, lv) ∈ l → HR U v' r.log → I k U → AS X U kb nb nw cap p l ks → lp = w.heap.size + 1 → w.heap.size + 2 ≤ U.heap.size → (∃ r, U.heap[lp]? = some (.loop r)) →
      assign.wpIn (Fence.wide.inRound lp) 7 Tryz.prog (Exit.then (fun a1 X1 => Below U.heap.size U X1 ∧ ∀ X2, (∃ ob, X2 = X1.putObj lp ob) → body.wpIn (Fence.wide.inRound lp) 7 Tryz.prog (fun e a3 X3 => e = .normal ∧ I (k + 1) X3 ∧ KpB X (KF kb nb nw p) w.heap.size X2 X3) a1 X2) (fun _ _ _ => False)) { tmps := (ps.zip #[.int .i64 z, .agg (rmL r v').toArray]).foldl (fun t (p, v) => t.setIfInBounds p v) a.tmps, defers := [] } U)
    (hdone : ∀ U, I ks.length U → Below X.heap.size X U → U.heap[w.heap.size]? = some (.deferred (some [])) → Q .normal { a with defers := { target := .collected w.heap.size, args := #[] } :: a.defers } U) :
    (Code.rangeFunc gop ps assign body).wp Tryz.prog Q a w := by
  refine (wpIn_wide (n := 9)).1 (wpIn_rangeFunc (F := Fence.wide) (n := 9) ?_)
  intro fn hfn
  have hbw := hw.bel
  have hXw := hbw.size
  obtain ⟨rec, hrec⟩ : ∃ rec : LoopState → Loop, rec = fun st => { state := st, pending := none, fn, tmps := a.tmps, params := ps, assign, body, defers := w.heap.size } := ⟨_, rfl⟩
  obtain ⟨W1, hW1⟩ : ∃ W1, W1 = (w.alloc (.deferred (some []))).alloc (.loop (rec .ready)) := ⟨_, rfl⟩
  have hb1 : Below w.heap.size w W1 := by rw [hW1]; exact ((Below.refl _ _).alloc (Nat.le_refl _) _).alloc (by simp) _
  have hs1 : W1.heap.size = w.heap.size + 2 := by rw [hW1]; simp
  have hl1 : W1.heap[w.heap.size + 1]? = some (.loop (rec .ready)) := by rw [hW1]; exact R5.heap_at _ _ _ (by simp)
  have hd1 : W1.heap[w.heap.size]? = some (.deferred (some [])) := by rw [hW1]; exact R5.alloc2_first _ _ _
  refine ⟨w.heap.size + 1, [{ target := .collected w.heap.size, args := #[] }], W1, { target := .fn (.func 62) #[.pointer (some ⟨kb, 0, none⟩), .pointer (some ⟨nb, 0, none⟩)], args := #[.func (.yield (w.heap.size + 1)) #[] #[]] }, W1, 62,
    #[.func (.yield (w.heap.size + 1)) #[] #[]] ++ #[.pointer (some ⟨kb, 0, none⟩), .pointer (some ⟨nb, 0, none⟩)], W1, ?_, ?_, fun f' hf' => trivial, ?_, fun _ => by omega, ?_⟩
  · rw [hW1, hrec]; exact run_enterLoop_outer _ _ _ _ _
  · simp only [resolve, hg]
    simp [go_sem]
  · simp [invoke, go_sem, enters_of Tryz.func62 (by kernel_rfl) rfl]
  · refine ((all1_in 8 (by omega) (w.heap.size + 1) X kb nb nw cap p l ks W1 (fun k U => I k U ∧ w.heap.size + 2 ≤ U.heap.size ∧ U.heap[w.heap.size + 1]? = some (.loop (rec .ready)) ∧ U.heap[w.heap.size]? = some (.deferred (some [])) ∧ Below X.heap.size X U) (hw.below hb1) hkl hok hn (fun k U V hU hb => ⟨hIB k U V hU.1 hb, Nat.le_trans hU.2.1 hb.size, (hb.block _ (Array.getElem?_eq_some_iff.1 hU.2.2.1).1).trans hU.2.2.1, (hb.block _ (Array.getElem?_eq_some_iff.1 hU.2.2.2.1).1).trans hU.2.2.2.1, hU.2.2.2.2.trans (hb.mono hU.2.2.2.2.size)⟩) ?_ ⟨hIB 0 w W1 hI0 hb1, by omega, hl1, hd1, hbw.trans (hb1.mono hXw)⟩).mono ?_)
    · rintro k z r lv v' U hz hm ⟨hI, hsX, hl, hd, hbU⟩ hAU hhr
      have hlt := (Array.getElem?_eq_some_iff.1 hl).1
      have hne : ks ≠ [] := fun e => by rw [e] at hz; simp at hz
      have hSlt := hw.lt hne
      have hy := run_yield (P := Tryz.prog) (args := #[.int .i64 z, .agg (rmL r v').toArray]) hl (by rw [hrec]; exact hps.symm)
      rw [hrec] at hy
      refine ⟨fn, _, assign, body, hy, roundIn_of_wpIn trivial (Code.wpIn_mono ?_ (hround (w.heap.size + 1) k z r lv v' U hz hm hhr hI hAU rfl hsX ⟨_, hl⟩))⟩
      rintro e a1 X1 hq
      cases e with
      | normal =>
        obtain ⟨hbX, hbody⟩ := hq
        have hl' : X1.heap[w.heap.size + 1]? = some (.loop (rec .ready)) := (hbX.block _ hlt).trans hl
        have hlt1 := (Array.getElem?_eq_some_iff.1 hl').1
        refine ⟨_, run_beginRound hl' (by rw [hrec]), Code.wpIn_mono ?_ (hbody _ ⟨_, rfl⟩)⟩
        rintro e a3 X3 ⟨rfl, hI3, hK3⟩
        have hl2 : (X1.putObj (w.heap.size + 1) (.loop { rec .ready with state := .busy })).heap[w.heap.size + 1]? = some (.loop { rec .ready with state := .busy }) := World.putObj_heap_same hlt1
        have hs2 : (X1.putObj (w.heap.size + 1) (.loop { rec .ready with state := .busy })).heap.size = X1.heap.size := by simp
        have hbs := hbX.size
        have hl3 : X3.heap[w.heap.size + 1]? = some (.loop { rec .ready with state := .busy }) := (hK3.2.2 _ (by rw [hs2]; exact hlt1) (.inl (by omega))).trans hl2
        have hend := run_endRound (P := Tryz.prog) none hl3
        have hks := hK3.2.1
        rw [hs2] at hks
        have hb4 : Below X.heap.size X (X3.putObj (w.heap.size + 1) (.loop { rec .ready with state := .ready })) := below_put hK3.1 (by omega) _
        refine ⟨_, _, hend, rfl, ⟨hIo _ _ _ _ hI3 (by omega), by simp; omega, ?_, ?_, below_put hK3.1 (by omega) _⟩, below_put hK3.1 (by omega) _, ?_, fun q hq hqU => ?_⟩
        · rw [World.putObj_heap_same (Array.getElem?_eq_some_iff.1 hl3).1, hrec]; rfl
        · rw [World.putObj_heap_other (by omega), hK3.2.2 _ (by rw [hs2]; omega) (.inl (by omega)), World.putObj_heap_other (by omega)]
          exact (hbX.block _ (Array.getElem?_eq_some_iff.1 hd).1).trans hd
        · simp; omega
        · have hqw := hSlt q hq
          rw [World.putObj_heap_other (by omega), hK3.2.2 q (by rw [hs2]; omega) (.inr hq), World.putObj_heap_other (by omega)]
          exact hbX.block _ hqU
      | _ => exact hq.elim
    · rintro e U ⟨⟨v, rfl⟩, hI, hsX, hl, hd, hbU⟩
      have hend := run_endLoop (P := Tryz.prog) hl (by rw [hrec]; simp)
      refine ⟨none, _, by rw [hend, hrec], hdone _ (hIo _ _ _ _ hI (by omega)) (below_put hbU (by omega) _) ?_⟩
      rw [World.putObj_heap_other (by omega)]; exact hd
structure PI (s : Am) : Prop where
  nn : ∀ x ∈ s.l, 0 ≤ x.1
  ge : ∀ x ∈ s.l, 1 ≤ x.2.inst
  lt : ∀ x ∈ s.l, x.2.inst ≤ s.last
  nd : (s.l.map (fun x => x.2.inst)).Nodup
theorem pi_start : PI ⟨[], 0, []⟩ := ⟨fun x hx => (List.not_mem_nil hx).elim, fun x hx => (List.not_mem_nil hx).elim, fun x hx => (List.not_mem_nil hx).elim, by simp⟩
theorem PI.step {c : Cx} {k : Int} {s s' : Am} (h : PI s) (ht : AT c k s s') : PI s' := by
  obtain ⟨h1, h2, h3, h4⟩ := h
  cases ht using AT.elim with
  | same => exact ⟨h1, h2, h3, h4⟩
  | upd a b rd r r' L L' last hu =>
    have e1 := (up_inst hu).1
    have hm : (rd, r) ∈ a ++ (rd, r) :: b := by simp
    have hin : ∀ x ∈ a ++ (rd, r') :: b, x = (rd, r') ∨ x ∈ a ++ (rd, r) :: b := fun x hx => by
      rcases List.mem_append.1 hx with hx | hx
      · exact .inr (by simp [hx])
      · rcases List.mem_cons.1 hx with hx | hx
        · exact .inl hx
        · exact .inr (by simp [hx])
    refine ⟨fun x hx => ?_, fun x hx => ?_, fun x hx => ?_, ?_⟩
    · rcases hin x hx with rfl | hx
      · exact h1 (rd, r) hm
      · exact h1 x hx
    · rcases hin x hx with rfl | hx
      · show 1 ≤ r'.inst; rw [e1]; exact h2 _ hm
      · exact h2 x hx
    · rcases hin x hx with rfl | hx
      · show r'.inst ≤ last; rw [e1]; exact h3 _ hm
      · exact h3 x hx
    · have e : (a ++ (rd, r') :: b).map (fun x => x.2.inst) = (a ++ (rd, r) :: b).map (fun x => x.2.inst) := by simp [e1]
      show ((a ++ (rd, r') :: b).map (fun x => x.2.inst)).Nodup
      rw [e]; exact h4
  | del a b rd r L last =>
    have hsub : ∀ x ∈ a ++ b, x ∈ a ++ (rd, r) :: b := fun x hx => by rcases List.mem_append.1 hx with hx | hx <;> simp [hx]
    refine ⟨fun x hx => h1 x (hsub x hx), fun x hx => h2 x (hsub x hx), fun x hx => h3 x (hsub x hx), ?_⟩
    have : ((a ++ (rd, r) :: b).map (fun x => x.2.inst)).Nodup := h4
    rw [List.map_append, List.map_cons] at this
    show ((a ++ b).map (fun x => x.2.inst)).Nodup
    rw [List.map_append]
    exact this.sublist (List.Sublist.append_left (List.sublist_cons_self _ _) _)
  | new l last L rd root V nodes tree hV h0 =>
    refine ⟨fun x hx => ?_, fun x hx => ?_, fun x hx => ?_, ?_⟩
    · rcases List.mem_append.1 hx with hx | hx
      · exact h1 x hx
      · rw [List.mem_singleton.1 hx]; exact h0
    · rcases List.mem_append.1 hx with hx | hx
      · exact h2 x hx
      · rw [List.mem_singleton.1 hx]; exact Nat.succ_le_succ (Nat.zero_le _)
    · rcases List.mem_append.1 hx with hx | hx
      · exact Nat.le_succ_of_le (h3 x hx)
      · rw [List.mem_singleton.1 hx]; exact Nat.le_refl _
    · show ((l ++ [(rd, newR c L (last + 1) root V nodes tree)]).map (fun x => x.2.inst)).Nodup
      rw [List.map_append, List.nodup_append]
      refine ⟨h4, by simp, fun x hx y hy e => ?_⟩
      obtain ⟨z, hz, rfl⟩ := List.mem_map.1 hx
      have hy' : y = last + 1 := by simpa [newR] using hy
      have := h3 z hz
      have : z.2.inst ≤ last := this
      omega
theorem nodup_inj {α β : Type} {f : α → β} {l : List α} (h : (l.map f).Nodup) {x y : α} (hx : x ∈ l) (hy : y ∈ l) (e : f x = f y) : x = y := by
  obtain ⟨i, hi⟩ := List.getElem?_of_mem hx
  obtain ⟨j, hj⟩ := List.getElem?_of_mem hy
  have h1 : (l.map f)[i]? = some (f x) := by rw [List.getElem?_map, hi]; rfl
  have h2 : (l.map f)[j]? = some (f y) := by rw [List.getElem?_map, hj]; rfl
  have hij := (List.getElem?_inj (by simpa using (List.getElem?_eq_some_iff.1 hi).1) h).1 (h1.trans (by rw [h2, e]))
  rw [hij, hj] at hi
  exact (Option.some.inj hi).symm
structure SFx (c : Cx) (rb : Nat) (s : Am) (X : World) (l : List En) (pa : Option Addr) (capa : Nat) (lvR : Value) : Prop where
  all : ∀ V, Below X.heap.size X V → Calls Tryz.prog 21 #[.pointer (some ⟨c.xb, 0, none⟩)] V fun e Y => AllEnd V l e Y
  find : ∀ V (i : Int), Below X.heap.size X V → Calls Tryz.prog 15 #[.pointer (some ⟨c.xb, 0, none⟩), .int .u64 i] V fun e Y => FEnd V l i e Y
  at_ : ∀ z r lv, (z, r, lv) ∈ l → ∃ (j g : Nat) (lv2 : Value), j < l.length ∧ pa = some ⟨g, 0, none⟩ ∧ ∀ V, Below X.heap.size X V → (Calls Tryz.prog 13 #[.pointer (some ⟨rb, 0, none⟩), .int .i64 z] V fun e Y => e = .returned (.int .i64 (j : Int)) ∧ V = Y) ∧ V.rangeAt g (j * 104 + 1) (rmL r lv2) ∧ HR V lv2 r.log
  len : ∀ V, Below X.heap.size X V → V.cell? ⟨rb, 0, none⟩ = some (.pointer (some ⟨c.rg, 0, none⟩)) ∧ V.cell? ⟨rb, 1, none⟩ = some (.slice pa l.length capa) ∧ V.cell? ⟨c.rg, 35, none⟩ = some lvR
  log : ∀ V, Below X.heap.size X V → Calls Tryz.prog 42 #[.pointer (some ⟨c.og, 0, none⟩)] V fun e Y => R5.LogEnd V s.L e Y
  rlog : ∀ V, Below X.heap.size X V → R5.HLr V lvR s.L
  ok : ∀ x ∈ l, x.2.1.ok ∧ x.2.1.log.length < 1000000 ∧ ∀ V, Below X.heap.size X V → HR V x.2.2 x.2.1.log
  n : l.length ≤ 1000 ∧ s.L.length < 1000000
  nn : ∀ x ∈ l, 0 ≤ x.1
  ins : ∀ x ∈ l, ∀ y ∈ l, x.2.1.inst = y.2.1.inst → x = y
  once : (l.map (·.1)).Nodup
  no : ∀ z, (∀ x ∈ s.l, x.1 ≠ z) → ∀ V, Below X.heap.size X V → Calls Tryz.prog 13 #[.pointer (some ⟨rb, 0, none⟩), .int .i64 z] V fun e Y => e = .returned (.int .i64 (-1)) ∧ V = Y
  mem : ∀ z r, (z, r) ∈ s.l → ∃ lv, (z, r, lv) ∈ l
  ge : ∀ x ∈ l, 1 ≤ x.2.1.inst
section
variable {c : Cx} {rb : Nat} {C : Nat → Prop} {X : World} {s : Am} {N : Nat}
theorem same_facts (h : JA c rb s C X) (hB : Bd N s) (hN : N ≤ 1000) (hP : PI s) : ∃ l pa capa lvR, SFx c rb s X l pa capa lvR := by
  obtain ⟨I, l, rl, av, tn, h⟩ := h
  have hln := h.rln hB
  have hlt : ∀ k, I k → k < X.heap.size := fun k hk => h.jr.jp.mm.ilt hk
  obtain ⟨pa, capa, hav, _⟩ := h.jr.rx.form
  have hL := hB.L
  obtain ⟨S, dv, ov, T, dr, lvR, lds, hpo, hor, _⟩ := h.jr.jp.mm.ex
  have hmem : ∀ x ∈ l, (x.1, x.2.1) ∈ s.l := fun x hx => by rw [← h.ab]; exact List.mem_map.2 ⟨x, hx, rfl⟩
  have hon : (l.map (·.1)).Nodup := h.jr.jp.px.map.once
  have hlen : rl.length = l.length := hln.1.symm
  refine ⟨l, pa, capa, lvR, fun V hb => all_any (h.jr.jp.step hb) (by omega), fun V i hb => find_any (h.jr.jp.step hb) i, fun z r lv hz => ?_, fun V hb => ?_, fun V hb => ?_, fun V hb => ?_, fun x hx => ⟨h.jr.jp.px.ok x hx, ?_, fun V hb => (h.jr.jp.px.hr hx).below hb⟩, ⟨by omega, by omega⟩, fun x hx => hP.nn _ (hmem x hx), fun x hx y hy e => ?_, hon, fun z hz V hb => ?_, fun z r hz => ?_, fun x hx => hP.ge _ (hmem x hx)⟩
  · obtain ⟨a, b, hl⟩ := List.append_of_mem hz
    have hna : NoRd a z := fun x hx e => by
      rw [hl, List.map_append, List.map_cons, List.nodup_append] at hon
      exact hon.2.2 x.1 (List.mem_map.2 ⟨x, hx, rfl⟩) z (by simp) e
    obtain ⟨a', lv2, b', hrl, ea, eb⟩ := ab_split (hl ▸ h.jr.ab)
    have hna' := ab_no ea hna
    have hla : a'.length = a.length := by have := congrArg List.length ea; rwa [ab_len, ab_len] at this
    have hx := h.jr.rx
    rw [hrl] at hx
    obtain ⟨g, cap, hsl⟩ := hx.slice
    have hpa : pa = some ⟨g, 0, none⟩ := by rw [hav] at hsl; injection hsl
    have hlr : (a' ++ (z, r, lv2) :: b').length < 1000000 := by rw [← hrl]; omega
    refine ⟨a'.length, g, lv2, by rw [hla, hl]; simp, hpa, fun V hb => ?_⟩
    have hV := hx.below hlt hb
    refine ⟨rat_is hV hlr hna', fun i u hu => ?_, ?_⟩
    · have hi : i < 103 := by have := (List.getElem?_eq_some_iff.1 hu).1; rwa [rmL_len (hV.ok (z, r, lv2) (by simp))] at this
      have h1 := hV.get hsl (i + 1) (by omega)
      have h2 : (⟨g, a'.length * 104 + 1, none⟩ : Addr).add i = ⟨g, a'.length * 104 + (i + 1), none⟩ := by rw [PC.add_none]; congr 1; omega
      first
        | (rw [h2, h1]; exact hu)
        | (show V.cell? ⟨g, a'.length * 104 + 1 + i, none⟩ = some u; rw [show a'.length * 104 + 1 + i = a'.length * 104 + (i + 1) by omega, h1]; exact hu)
    · exact hV.logs (z, r, lv2) (by simp)
  · have hV := h.jr.rx.below hlt hb
    obtain ⟨c1, c2, c3⟩ := hV.cells
    refine ⟨c1, by rw [c2, hav, hlen], ?_⟩
    rw [cell_of_row _ _ 35 _ _ _ ((hb.block _ (PC.row_lt hor.row)).trans hor.row)]
    unfold R5.oL
    have := hor.ml
    simp [this]
  · obtain ⟨S', dv', ov', T', dr', lv', lds', hpo', _⟩ := (h.jr.jp.step hb).mm.ex
    have := R5.plog_any hpo' (by show s.L.length < 1000000; omega)
    exact this
  · exact R5.hlr_below (R5.hlr_of hor.log) hb
  · have := (hB.r _ (hmem x hx)).1
    have : x.2.1.log.length ≤ N + 1 := this
    omega
  · have h1 := nodup_inj (f := fun x : Int × Rm => x.2.inst) hP.nd (hmem x hx) (hmem y hy) e
    have h2 : x.1 = y.1 := congrArg (fun q : Int × Rm => q.1) h1
    exact nodup_inj (f := fun x : En => x.1) hon hx hy h2
  · exact rat_no (h.jr.rx.below hlt hb) (by omega) (ab_no h.jr.ab ((ab_no' h.ab).1 hz))
  · rw [← h.ab] at hz
    obtain ⟨x, hx, e⟩ := List.mem_map.1 hz
    obtain ⟨x1, x2, x3⟩ := x
    simp only [Prod.mk.injEq] at e
    obtain ⟨rfl, rfl⟩ := e
    exact ⟨x3, hx⟩
end
end Go.Proofs.YtekbppfocnbhbaaGreat.XC
