/- realm: Create by both, where the caller writes between the halves; what holds along the walk of measures. -/
import Derived.Test.YtekbppfocnbhbaaGreatRs
import Derived.Deep.AppendLies
import Derived.Stop.BytesEq
set_option linter.unusedVariables false
set_option linter.unusedSimpArgs false
namespace Go.Proofs.YtekbppfocnbhbaaGreat.XC
open Go.RowKit

section
variable {c : Cx} {rb tn last last' : Nat} {L R R' L' : Lg} {C C2 D I J : Nat → Prop} {X Y Y' Z W w : World} {rl rl' l l' a b : List En} {av av' : Value} {rd root : Int} {r r' : Rm} {lv : Value} {s s' : Am} {k : Int} {N pb q : Nat} {sv : Value} {ms : List Nat}
structure PB2 (c : Cx) (rb : Nat) (s : Am) (C : Nat → Prop) (rd root : Int) (PA TA : Array Value) (X : World) (E : Int) (r : Rm) (v' : Value) (s' : Am) (Y : World) : Prop where
  ok : r.ok
  hr : HR Y v' r.log
  ht : AT c 1 s s'
  hi : E = 0 → r.inst = s.last + 1 ∧ s'.last = s.last + 1
  hs : E ≠ 0 → s' = s
  fr : ∀ k, C k → Y.heap[k]? = X.heap[k]?
  bel : Below c.w.heap.size c.w Y
  sz : X.heap.size ≤ Y.heap.size
  ref : ∀ Y', R5.Fr (fun k => C k ∧ c.n ≤ k) Y Y' → Calls Tryz.prog 17 #[.pointer (some ⟨rb, 0, none⟩), .int .i64 rd, .int .i64 root, .agg PA, .agg TA] Y' fun e Z => (∃ v, e = .returned v) ∧ JA c rb s' (fun k => C k ∨ (Y.heap.size ≤ k ∧ k < Y'.heap.size)) Z ∧ ∀ k, (C k ∨ (Y.heap.size ≤ k ∧ k < Y'.heap.size)) → Z.heap[k]? = Y'.heap[k]?
def PBC2 (c : Cx) (rb : Nat) (s : Am) (C : Nat → Prop) (rd root : Int) (PA TA : Array Value) (X : World) (e : Ending) (Y : World) : Prop :=
  ∃ E r v' s', e = .returned (.tuple #[.agg (rmL r v').toArray, .int .i64 E]) ∧ PB2 c rb s C rd root PA TA X E r v' s' Y
theorem do_cre2 (h : JB c rb s C I X l rl av tn) (hB : Bd N s) (hN : N ≤ 1000) (hrd : iOk rd) (V : List UInt8) (hV : V.length = 32) (nodes : Nat) (tree : List UInt8) (ht : tree.length = 32) :
    Calls Tryz.prog 16 #[.pointer (some ⟨c.xb, 0, none⟩), .int .i64 rd, .int .i64 root, .agg (PC.rpL V nodes).toArray, .agg (tree.map B8).toArray] X fun e Y => PBC2 c rb s C rd root (PC.rpL V nodes).toArray (tree.map B8).toArray X e Y := by
  have hab := h.jr.ab
  obtain ⟨hln, hrn⟩ := h.rln hB
  have hsl := h.ab
  have hL := hB.L
  have hla := hB.last
  obtain ⟨r0, lv0, E0, hc0⟩ : ∃ r0 lv0 E0, (NoRd l rd ∧ r0 = zR ∧ lv0 = .slice none 0 0 ∧ E0 = 6) ∨ (∃ a b, l = a ++ (rd, r0, lv0) :: b) ∧ E0 = (0 : Int) := by
    rcases first_split l rd with hno | ⟨a, r, lv, b, hl, hna⟩
    · exact ⟨zR, .slice none 0 0, 6, .inl ⟨hno, rfl, rfl, rfl⟩⟩
    · exact ⟨r, lv, 0, .inr ⟨⟨a, b, hl⟩, rfl⟩⟩
  by_cases h0 : rd < 0
  · skip
    exact (cr_err h.jr.jp V nodes tree 2 (by decide) (fun hj => cf_arg1 hj hrd r0 lv0 E0 hc0 h0)).mono fun e Y ⟨he, hb⟩ => by
      obtain ⟨⟨J0, hH0⟩, hfr⟩ := h.half (s' := s) (PD.refl h.jr.jp hb) (Below.refl _ _) h.ab rfl rfl
      refine ⟨2, zR, .slice none 0 0, s, he, zR_ok, .inl ⟨rfl, rfl⟩, AT.same _, fun h => absurd h (by decide), fun _ => rfl, hfr, hH0.jp.mm.bel, hb.size, fun Y' hF => ?_⟩
      obtain ⟨tn', hH⟩ := hH0.wr (Y' := Y') ⟨hF.os, hF.tape, hF.output, hF.size, fun k hk hn => hF.block k hk (fun hc => hn ⟨.inl hc.1, hc.2⟩)⟩
      have hx := hH.rx
      skip
      refine (rcr_arg _ (.inl h0) _ _).mono fun e Z ⟨h1, h2⟩ => ?_
      obtain ⟨q1, q2⟩ := hH.fin (RE.refl hH.jp.mm hH.rx h2) (hab.trans h.ab)
      exact ⟨⟨_, h1⟩, q1.sub (fun k hk => hk.elim (fun h => .inl (.inl h)) .inr), fun k hk => q2 k (hk.elim (fun h => .inl (.inl h)) .inr)⟩
  · by_cases h1 : root < 0
    · skip
      exact (cr_err h.jr.jp V nodes tree 2 (by decide) (fun hj => cf_arg2 hj hrd r0 lv0 E0 hc0 h0 h1)).mono fun e Y ⟨he, hb⟩ => by
        obtain ⟨⟨J0, hH0⟩, hfr⟩ := h.half (s' := s) (PD.refl h.jr.jp hb) (Below.refl _ _) h.ab rfl rfl
        refine ⟨2, zR, .slice none 0 0, s, he, zR_ok, .inl ⟨rfl, rfl⟩, AT.same _, fun h => absurd h (by decide), fun _ => rfl, hfr, hH0.jp.mm.bel, hb.size, fun Y' hF => ?_⟩
        obtain ⟨tn', hH⟩ := hH0.wr (Y' := Y') ⟨hF.os, hF.tape, hF.output, hF.size, fun k hk hn => hF.block k hk (fun hc => hn ⟨.inl hc.1, hc.2⟩)⟩
        have hx := hH.rx
        skip
        refine (rcr_arg _ (.inr h1) _ _).mono fun e Z ⟨h1, h2⟩ => ?_
        obtain ⟨q1, q2⟩ := hH.fin (RE.refl hH.jp.mm hH.rx h2) (hab.trans h.ab)
        exact ⟨⟨_, h1⟩, q1.sub (fun k hk => hk.elim (fun h => .inl (.inl h)) .inr), fun k hk => q2 k (hk.elim (fun h => .inl (.inl h)) .inr)⟩
    · rcases first_split l rd with hno | ⟨a, r, lv, b, hl, hna⟩
      · refine (cr_ok h.jr.jp V hV nodes tree ht hrd hno h0 h1 (by omega) (by omega)).mono ?_
        rintro e Y ⟨lvn, v', he, hcd⟩
        obtain ⟨J, hJ, hIJ, hv⟩ := hcd.ex
        have hok := (hJ.px.ok (rd, newR c s.L (s.last + 1) root V nodes tree, lvn) (by simp))
        have hH0 := h.half2 (s' := ⟨s.l ++ [(rd, newR c s.L (s.last + 1) root V nodes tree)], s.last + 1, newL c s.L (s.last + 1) V⟩) (C2 := fun k => v'.ownBlock = some k) hcd.pd hJ hIJ hv (Below.refl _ _) (by rw [ab_app, hsl]; rfl) rfl rfl
        refine ⟨0, newR c s.L (s.last + 1) root V nodes tree, v', ⟨s.l ++ [(rd, newR c s.L (s.last + 1) root V nodes tree)], s.last + 1, newL c s.L (s.last + 1) V⟩, he, hok, hcd.hr, AT.new s.l s.last s.L rd root V nodes tree hV (by omega), fun _ => ⟨rfl, rfl⟩, fun h => absurd rfl h, (h.half (s' := ⟨s.l ++ [(rd, newR c s.L (s.last + 1) root V nodes tree)], s.last + 1, newL c s.L (s.last + 1) V⟩) hcd.pd (Below.refl _ _) (by rw [ab_app, hsl]; rfl) rfl rfl).2, hJ.mm.bel, hcd.pd.size, fun Y' hF => ?_⟩
        obtain ⟨tn', hH⟩ := hH0.wr (Y' := Y') ⟨hF.os, hF.tape, hF.output, hF.size, fun k hk hn => hF.block k hk (fun hc => hn ⟨.inl (.inl hc.1), hc.2⟩)⟩
        have hA1 : (R5.nx c.D s.L (cq1 V)).1.length = 32 := h.jr.jp.mm.alen _
        have hA2 : (R5.nx c.D (R5.nx c.D s.L (cq1 V)).2 (cq2 c.m (s.last + 1))).1.length = 32 := by
          have := hJ.mm.alen (cq2 c.m (s.last + 1))
          rw [← nx_again c.D (R5.nx c.D s.L (cq1 V)).2 (cq2 c.m (s.last + 1))]
          exact this
        refine (rcr_ok hH.rx hH.jp.mm (by omega) (ab_no hab hno) h0 h1 V hV nodes tree ht (by omega) (by omega) hA1 hA2).mono fun e Z ⟨lv2, av2, h1, h2, h3⟩ => ?_
        obtain ⟨q1, q2⟩ := hH.fin h2 (by rw [ab_app, hab, hsl]; rfl)
        exact ⟨⟨_, h1⟩, q1.sub (fun k hk => hk.elim (fun h => .inl (.inl (.inl h))) .inr), fun k hk => q2 k (hk.elim (fun h => .inl (.inl (.inl h))) .inr)⟩
      · obtain ⟨a', lv2, b', hrl, ea, eb⟩ := ab_split (hl ▸ hab)
        have hna' := ab_no ea hna
        have hlen2 : (a' ++ (rd, r, lv2) :: b').length < 1000000 := by rw [← hrl]; omega
        exact (cr_err h.jr.jp V nodes tree 7 (by decide) (fun hj => cf_is hj hrd r lv 0 (.inr ⟨⟨a, b, hl⟩, rfl⟩) h0 h1 rfl)).mono fun e Y ⟨he, hb⟩ => by
          obtain ⟨⟨J0, hH0⟩, hfr⟩ := h.half (s' := s) (PD.refl h.jr.jp hb) (Below.refl _ _) h.ab rfl rfl
          refine ⟨7, zR, .slice none 0 0, s, he, zR_ok, .inl ⟨rfl, rfl⟩, AT.same _, fun h => absurd h (by decide), fun _ => rfl, hfr, hH0.jp.mm.bel, hb.size, fun Y' hF => ?_⟩
          obtain ⟨tn', hH⟩ := hH0.wr (Y' := Y') ⟨hF.os, hF.tape, hF.output, hF.size, fun k hk hn => hF.block k hk (fun hc => hn ⟨.inl hc.1, hc.2⟩)⟩
          have hx := hH.rx
          rw [hrl] at hx
          refine (rcr_st hx (fun k hk => hH.jp.mm.ilt hk) hlen2 hna' h0 h1 _ _).mono fun e Z ⟨h1, h2⟩ => ?_
          obtain ⟨q1, q2⟩ := hH.fin (RE.refl hH.jp.mm hH.rx h2) (hab.trans h.ab)
          exact ⟨⟨_, h1⟩, q1.sub (fun k hk => hk.elim (fun h => .inl (.inl h)) .inr), fun k hk => q2 k (hk.elim (fun h => .inl (.inl h)) .inr)⟩
theorem do_cre3 (h : JA c rb s C X) (hB : Bd N s) (hN : N ≤ 1000) (hrd : iOk rd) (V : List UInt8) (hV : V.length = 32) (nodes : Nat) (tree : List UInt8) (ht : tree.length = 32) :
    Calls Tryz.prog 16 #[.pointer (some ⟨c.xb, 0, none⟩), .int .i64 rd, .int .i64 root, .agg (PC.rpL V nodes).toArray, .agg (tree.map B8).toArray] X fun e Y => PBC2 c rb s C rd root (PC.rpL V nodes).toArray (tree.map B8).toArray X e Y := by
  obtain ⟨I, l, rl, av, tn, h⟩ := h
  exact do_cre2 h hB hN hrd V hV nodes tree ht
structure CRX (w : World) (c : Cx) (rb : Nat) (s : Am) (C : Nat → Prop) (rd root : Int) (PA TA : Array Value) (W1 : World) (q : Nat) (E : Int) (r : Rm) (s' : Am) (X : World) : Prop where
  ok : r.ok
  ht : AT c 1 s s'
  hi : E = 0 → r.inst = s.last + 1 ∧ s'.last = s.last + 1
  fr : ∀ k, C k → X.heap[k]? = W1.heap[k]?
  bel : Below w.heap.size w X
  row : ∃ v, X.heap[q]? = some (.cells (rmL r v).toArray 47 (0, 0))
  cn : c.n ≤ q
  ref : ∀ X', Below X.heap.size X X' → Calls Tryz.prog 17 #[.pointer (some ⟨rb, 0, none⟩), .int .i64 rd, .int .i64 root, .agg PA, .agg TA] X' fun e Z => (∃ v, e = .returned v) ∧ JA c rb s' (fun k => C k ∨ k = q) Z ∧ ∀ k, (C k ∨ k = q) → Z.heap[k]? = X'.heap[k]?
theorem crx_A {E : Int} {v' : Value} {W1 W2 V : World} {ZA NA PA TA : Array Value} (h : PB2 c rb s C rd root PA TA W1 E r v' s' W2) (hcw : c.w = w) (hlt : ∀ k, C k → k < W1.heap.size) (hlow : c.n ≤ W1.heap.size) (hV : V = (W2.alloc (.cells ZA 47 (0, 0))).setRow W2.heap.size NA) (hNA : NA = (rmL r v').toArray) : CRX w c rb s C rd root PA TA W1 W2.heap.size E r s' V := by
  have hb : Below W2.heap.size W2 V := by rw [hV]; exact below_setRow ((Below.refl _ _).alloc (Nat.le_refl _) _) (Nat.le_refl _) _
  have hs : V.heap.size = W2.heap.size + 1 := by rw [hV]; simp
  have hsz := h.sz
  have hbel := h.bel
  rw [hcw] at hbel
  refine ⟨h.ok, h.ht, h.hi, fun k hk => (hb.block k (by have := hlt k hk; omega)).trans (h.fr k hk), hbel.trans (hb.mono hbel.size), ⟨v', by rw [hV, ← hNA]; exact setRow_heap _ _ _ _ _ _ (heap_alloc_new _ _)⟩, by omega, fun X' hX => ?_⟩
  have hb2 : Below W2.heap.size W2 X' := hb.trans (hX.mono hb.size)
  have hs2 := hX.size
  refine (h.ref X' ⟨hb2.os, hb2.tape, hb2.output, hb2.size, fun k hk _ => hb2.block k hk⟩).mono fun e Z ⟨h1, h2, h3⟩ => ⟨h1, h2.sub (fun k hk => ?_), fun k hk => h3 k ?_⟩
  · rcases hk with hk | rfl
    · exact .inl hk
    · exact .inr ⟨Nat.le_refl _, by omega⟩
  · rcases hk with hk | rfl
    · exact .inl hk
    · exact .inr ⟨Nat.le_refl _, by omega⟩
theorem crx_B {E : Int} {v' : Value} {W1 W3 W5 V : World} {ZA NA PA TA : Array Value} (h : PB2 c rb s (fun k => C k ∨ k = q) rd root PA TA W3 E r v' s' W5) (hcw : c.w = w) (h13 : ∀ k, C k → W3.heap[k]? = W1.heap[k]?) (hne : ∀ k, C k → k ≠ q) (hcq : c.n ≤ q) (hwq : w.heap.size ≤ q) (hr : W5.heap[q]? = some (.cells ZA 47 (0, 0))) (hV : V = W5.setRow q NA) (hNA : NA = (rmL r v').toArray) : CRX w c rb s C rd root PA TA W1 q E r s' V := by
  have hs : V.heap.size = W5.heap.size := by rw [hV]; simp
  have ho : ∀ k, k ≠ q → V.heap[k]? = W5.heap[k]? := fun k hk => by rw [hV]; exact setRow_other _ _ _ _ hk
  have hbel := h.bel
  rw [hcw] at hbel
  refine ⟨h.ok, h.ht, h.hi, fun k hk => (ho k (hne k hk)).trans ((h.fr k (.inl hk)).trans (h13 k hk)), by rw [hV]; exact below_setRow hbel hwq _, ⟨v', by rw [hV, ← hNA]; exact setRow_heap _ _ _ _ _ _ hr⟩, hcq, fun X' hX => ?_⟩
  have hF : R5.Fr (fun k => (C k ∨ k = q) ∧ c.n ≤ k) W5 X' := by
    have e1 := hX.os
    have e2 := hX.tape
    have e3 := hX.output
    have e4 := hX.size
    rw [hV] at e1 e2 e3
    refine ⟨e1, e2, e3, by omega, fun k hk hn => (hX.block k (by omega)).trans (ho k (fun e => hn ⟨.inr e, by omega⟩))⟩
  exact (h.ref X' hF).mono fun e Z ⟨h1, h2, h3⟩ => ⟨h1, h2.sub (fun k hk => .inl hk), fun k hk => h3 k (.inl hk)⟩
def FV (base : Nat) (w : World) (v : Value) (ls : List Nat) : Prop := w.ownsRow base 34 1 v ls.length (ls.map PC.U8)
theorem infoQ : (Tryz.prog.info? 34).map (fun i => (i.zero, i.size, i.bytes)) = some (some (.int .u64 0), 1, 8) := by kernel_rfl
theorem FV.nil (base : Nat) (w : World) : FV base w (.slice none 0 0) [] := World.ownsRow_nil _ _ _ _
theorem FV.keep {base : Nat} {w w' : World} {v : Value} {ls : List Nat} (h : FV base w v ls) (hk : ∀ j, v.ownBlock = some j → w'.heap[j]? = w.heap[j]?) : FV base w' v ls := R5.own_keep h (fun j e _ => hk j e)
theorem FV.lt {base : Nat} {w : World} {v : Value} {ls : List Nat} (h : FV base w v ls) {j : Nat} (e : v.ownBlock = some j) : base ≤ j ∧ j < w.heap.size := World.ownsRow.lt h j e
theorem FV.form {base : Nat} {w : World} {v : Value} {ls : List Nat} (h : FV base w v ls) : ∃ p cap, v = .slice p ls.length cap := by
  rcases h.2 with ⟨h1, h2⟩ | ⟨g, cap, cur, hv, _⟩
  · exact ⟨none, 0, by rw [h1, h2]⟩
  · exact ⟨_, cap, hv⟩
theorem FV.at {base : Nat} {w : World} {v : Value} {ls : List Nat} (h : FV base w v ls) {j x : Nat} (hx : ls[j]? = some x) : ∃ g cap, v = .slice (some ⟨g, 0, none⟩) ls.length cap ∧ w.cell? ⟨g, j, none⟩ = some (PC.U8 x) := by
  rcases h.2 with ⟨h1, h2⟩ | ⟨g, cap, cur, hv, _⟩
  · have : ls = [] := List.eq_nil_of_length_eq_zero h2
    rw [this] at hx; cases hx
  · refine ⟨g, cap, hv, ?_⟩
    have h3 : (ls.map PC.U8)[j]? = some (PC.U8 x) := by rw [List.getElem?_map, hx]; rfl
    have := World.ownsRow.cells h (g := g) (by rw [hv]; rfl) j _ h3
    rwa [PC.add_none, Nat.zero_add] at this
theorem wpList_appV {ops : Array Oper} {rest : List Oper} {o : Oper} {a : Act} {Q : Exit → Act → World → Prop} {W : World} (hgd : o.guard = none) (s x : Operand) (ho : o.op = .call { callee := .builtin .append, args := #[s, x], argTypes := #[62, 62] })
    (base : Nat) (v : Value) (l : List Nat) (k : Nat) (hs : a.eval s = v) (hx : a.eval x = .slice (some ⟨W.heap.size, 0, none⟩) 1 1) (hown : FV base W v l) (hl : l.length ≤ 1000000) (hbase : base ≤ W.heap.size)
    (h : ∀ b cap w', FV base w' (.slice (some ⟨b, 0, none⟩) (l.length + 1) cap) (l ++ [k]) → (W.alloc (.cells #[.int .u64 (k : Int)] 34)).grownBy w' v.ownBlock → (v.ownBlock = some b ∨ b = W.heap.size + 1) → b < w'.heap.size → wpList Tryz.prog ops Q rest (a.put o.dst (.slice (some ⟨b, 0, none⟩) (l.length + 1) cap)) w') :
    wpList Tryz.prog ops Q (o :: rest) a (W.alloc (.cells #[.int .u64 (k : Int)] 34)) := by
  obtain ⟨i0, hi, hz0, hz1, hz2⟩ := info_parts infoQ
  refine wpList_append_lies _ hgd s x 62 ho base 34 i0 (.int .u64 0) 1 8 Tryz.underlying62 hi hz0 hz1 hz2 rfl (by decide) v _ _ hs (World.ownsRow.alloc hown _) ⟨W.heap.size, 0, none⟩ 1 1 [.int .u64 (k : Int)] hx rfl (fun j u hu => ?_) (fun u hu => by simp at hu; subst hu; rfl) (by decide) (by unfold maxLen; omega) (by omega) (by simp; omega) (W.heap.size + 1) (by simp) ?_
  · rw [show (⟨W.heap.size, 0, none⟩ : Addr).add j = ⟨W.heap.size, 0 + j, none⟩ by unfold Addr.add; split <;> simp_all]
    exact PC.rangeAt_row (cs := [.int .u64 (k : Int)]) (heap_alloc_new _ _) j u hu
  intro b cap w' h1 h2 h3 h4
  refine h b cap w' ?_ h2 h3 h4
  unfold FV
  rw [List.length_append, List.map_append]
  simpa [PC.U8] using h1
structure ST (w : World) (c : Cx) (rb : Nat) (s : Am) (C : Nat → Prop) (pb : Nat) (sv : Value) (ms : List Nat) (X : World) : Prop where
  ja : JA c rb s C X
  cw : c.w = w
  cp : C pb
  cn : ∀ k, C k → c.n ≤ k
  pr : X.heap[pb]? = some (.cells (prL c rb).toArray 29 (0, 0))
  fu : FV (pb + 1) X sv ms
  so : ∀ k, sv.ownBlock = some k → C k
theorem ST.bel (h : ST w c rb s C pb sv ms X) : Below w.heap.size w X := by
  have := h.ja.bel
  rwa [h.cw] at this
theorem ST.step (h : ST w c rb s C pb sv ms X) (hb : Below X.heap.size X Y) : ST w c rb s C pb sv ms Y :=
  ⟨h.ja.below hb, h.cw, h.cp, h.cn, (hb.block pb (h.ja.lt h.cp)).trans h.pr, h.fu.keep (fun j e => hb.block j (h.fu.lt e).2), h.so⟩
theorem ST.call (h : ST w c rb s C pb sv ms X) (ja : JA c rb s' C Y) (hk : ∀ k, C k → Y.heap[k]? = X.heap[k]?) : ST w c rb s' C pb sv ms Y :=
  ⟨ja, h.cw, h.cp, h.cn, (hk pb h.cp).trans h.pr, h.fu.keep (fun j e => hk j (h.so j e)), h.so⟩
theorem ST.sub (h : ST w c rb s C pb sv ms X) (hD : ∀ k, D k → C k) (dp : D pb) (ds : ∀ k, sv.ownBlock = some k → D k) : ST w c rb s D pb sv ms X :=
  ⟨h.ja.sub hD, h.cw, dp, fun k hk => h.cn k (hD k hk), h.pr, h.fu, ds⟩
theorem ST.new (h : ST w c rb s C pb sv ms X) (hb : Below X.heap.size X Y) (h2 : ∀ k, C2 k → X.heap.size ≤ k ∧ k < Y.heap.size) : ST w c rb s (fun k => C k ∨ C2 k) pb sv ms Y := by
  have h1 := h.step hb
  refine ⟨(h.ja.new hb).sub (fun k hk => hk.elim .inl (fun e => .inr (h2 k e))), h.cw, .inl h.cp, fun k hk => ?_, h1.pr, h1.fu, fun k e => .inl (h.so k e)⟩
  rcases hk with hk | hk
  · exact h.cn k hk
  · have := h.ja.low; have := (h2 k hk).1; omega
theorem ST.app {b n cap : Nat} {ms' : List Nat} {o : Obj} (h : ST w c rb s C pb sv ms X) (hg : (X.alloc o).grownBy Y sv.ownBlock) (hf : FV (pb + 1) Y (.slice (some ⟨b, 0, none⟩) n cap) ms') (hb : sv.ownBlock = some b ∨ b = X.heap.size + 1) (hlt : b < Y.heap.size) :
    ST w c rb s (fun k => C k ∨ k = b) pb (.slice (some ⟨b, 0, none⟩) n cap) ms' Y ∧ ∀ k, k < X.heap.size → sv.ownBlock ≠ some k → Y.heap[k]? = X.heap[k]? := by
  obtain ⟨g1, g2, g3, g4, g5⟩ := hg
  have hs : (X.alloc o).heap.size = X.heap.size + 1 := by simp
  have hbl : ∀ k, k < X.heap.size → sv.ownBlock ≠ some k → Y.heap[k]? = X.heap[k]? := fun k hk hn => (g5 k (by omega) (Ne.symm hn)).trans (heap_alloc_old _ _ hk)
  have hF : R5.Fr C X Y := ⟨g1, g2, g3, by omega, fun k hk hn => hbl k hk (fun e => hn (h.so k e))⟩
  have hnp : sv.ownBlock ≠ some pb := fun e => by have := (h.fu.lt e).1; omega
  refine ⟨⟨(h.ja.wr h.cn hF).sub (fun k hk => ?_), h.cw, .inl h.cp, fun k hk => ?_, (hbl pb (h.ja.lt h.cp) hnp).trans h.pr, hf, fun k e => ?_⟩, hbl⟩
  · rcases hk with hk | rfl
    · exact .inl hk
    · rcases hb with hb | hb
      · exact .inl (h.so _ hb)
      · exact .inr ⟨by omega, hlt⟩
  · rcases hk with hk | rfl
    · exact h.cn k hk
    · rcases hb with hb | hb
      · exact h.cn _ (h.so _ hb)
      · have := h.ja.low; omega
  · exact .inr (by simpa [Value.ownBlock] using e.symm)
theorem ST.sq {g o : Nat} {a : Ac} (h : ST w c rb s C pb sv ms X) (hr : w.rangeAt g o (acL a)) : SQ c rb pb g o a.rd X := sq_mk h.pr h.bel hr
theorem ST.sa {g o : Nat} {a : Ac} (h : ST w c rb s C pb sv ms X) (hr : w.rangeAt g o (acL a)) : SA c rb pb g o (acL a) X := ⟨h.pr, R5.rangeAt_below hr h.bel⟩
theorem FV.ne {base : Nat} {w : World} {v : Value} {ls : List Nat} {A : Array Value} {t : TypeId} {z : Nat × Nat} (h : FV base w v ls) (hr : w.heap[q]? = some (.cells A t z)) (ht : t ≠ 34) : v.ownBlock ≠ some q := fun e => by
  rcases h.2 with ⟨h1, _⟩ | ⟨g, cap, cur, hv, hg, hh, _⟩
  · rw [h1] at e; simp [Value.ownBlock] at e
  · rw [hv] at e
    have e' : g = q := by simpa [Value.ownBlock] using e
    rw [e', hr] at hh
    injection hh with hh
    injection hh with _ h2
    exact ht h2
theorem ST.crx (h : ST w c rb s C pb sv ms W) (ja : JA c rb s' (fun k => C k ∨ k = q) Z) (hq : c.n ≤ q) (hk : ∀ k, C k → Z.heap[k]? = W.heap[k]?) : ST w c rb s' (fun k => C k ∨ k = q) pb sv ms Z :=
  ⟨ja, h.cw, .inl h.cp, fun k hk => hk.elim (h.cn k) (fun e => e ▸ hq), (hk pb h.cp).trans h.pr, h.fu.keep (fun j e => hk j (h.so j e)), fun k e => .inl (h.so k e)⟩
theorem ST.row {A : Array Value} (h : ST w c rb s C pb sv ms X) (hq : C q) (hp : pb ≠ q) (hs : sv.ownBlock ≠ some q) : ST w c rb s C pb sv ms (X.setRow q A) :=
  ⟨h.ja.write h.cn (R5.Fr.setRow (R5.Fr.refl _ _) q A (.inl hq)), h.cw, h.cp, h.cn, (setRow_other _ _ _ _ hp).trans h.pr, h.fu.keep (fun j e => setRow_other _ _ _ _ (fun e2 => hs (e2 ▸ e))), h.so⟩
theorem hr_at {g cap j n : Nat} {lg : List Rd} {rec : Rd} (h : HR X (.slice (some ⟨g, 0, none⟩) n cap) lg) (hj : lg[j]? = some rec) (hok : ∀ y ∈ lg, y.ok) : X.rangeAt g (j * 172) (rdL rec) := by
  intro i u hu
  rcases h with ⟨e, _⟩ | ⟨g', cap', e, hc⟩
  · cases e
  · injection e with e1 e2 e3
    have e4 : g = g' := by simpa using e1
    subst e4
    apply hc
    obtain ⟨hlt, hx⟩ := List.getElem?_eq_some_iff.1 hj
    have e : lg = lg.take j ++ rec :: lg.drop (j + 1) := by rw [← hx, ← List.drop_eq_getElem_cons hlt, List.take_append_drop]
    have hi := (List.getElem?_eq_some_iff.1 hu).1
    have hl : (lgC (lg.take j)).length = j * 172 := by rw [lgC_len (fun y hy => hok y (List.mem_of_mem_take hy)), List.length_take, Nat.min_eq_left (by omega)]
    have e5 : lgC lg = lgC (lg.take j) ++ (rdL rec ++ lgC (lg.drop (j + 1))) := by
      conv => lhs; rw [e]
      unfold lgC
      rw [List.flatMap_append, List.flatMap_cons]
    rw [e5, List.getElem?_append_right (by omega), hl, Nat.add_sub_cancel_left, List.getElem?_append_left hi]
    exact hu
theorem meas_store {q6 q11 q13 g11 n cap : Nat} {o6 o11 : Obj} {A : Array Value} {t : TypeId} {z : Nat × Nat} {lg : List Rd} (B : Array Value) (h : ST w c rb s C pb sv ms X) (hC : C q13) (h1 : pb ≠ q13) (h2 : sv.ownBlock ≠ some q13) (h3 : q6 ≠ q13) (h4 : q11 ≠ q13) (h5 : g11 ≠ q13) (r6 : X.heap[q6]? = some o6) (r11 : X.heap[q11]? = some o11) (r13 : X.heap[q13]? = some (.cells A t z)) (hh : HR X (.slice (some ⟨g11, 0, none⟩) n cap) lg) :
    ST w c rb s C pb sv ms (X.setRow q13 B) ∧ (X.setRow q13 B).heap[q6]? = some o6 ∧ (X.setRow q13 B).heap[q11]? = some o11 ∧ HR (X.setRow q13 B) (.slice (some ⟨g11, 0, none⟩) n cap) lg ∧ (X.setRow q13 B).heap[q13]? = some (.cells B t z) := by
  refine ⟨h.row hC h1 h2, (setRow_other _ _ _ _ h3).trans r6, (setRow_other _ _ _ _ h4).trans r11, hh.keep (fun k e _ => setRow_other _ _ _ _ (fun e2 => h5 ?_)), setRow_heap _ _ _ _ _ _ r13⟩
  have e3 : g11 = k := by simpa [Value.ownBlock] using e
  rw [e3]; exact e2
structure SMq (rb pb q g j n cap : Nat) (RL : List Value) (W : World) : Prop where
  c2 : W.cell? ⟨pb, 2, none⟩ = some (.pointer (some ⟨rb, 0, none⟩))
  c36 : W.cell? ⟨q, 36, none⟩ = some (.slice (some ⟨g, 0, none⟩) n cap)
  ra : W.rangeAt g j RL
theorem sm_mk {g j n cap : Nat} {v : Value} {rec : Rd} (hp : W.heap[pb]? = some (.cells (prL c rb).toArray 29 (0, 0))) (hr : W.heap[q]? = some (.cells (rmL r v).toArray 47 (0, 0))) (hok : r.ok) (hv : v = .slice (some ⟨g, 0, none⟩) n cap) (hh : HR W v r.log) (hj : r.log[j]? = some rec) : SMq rb pb q g (j * 172) n cap (rdL rec) W := by
  subst hv
  exact ⟨by rw [cell_of_row _ _ _ _ _ _ hp]; rfl, by rw [cell_of_row _ _ 36 _ _ _ hr, List.getElem?_toArray, rmL_36 hok], hr_at hh hj hok.l⟩
structure SX (c : Cx) (rb pb g o : Nat) (rd root : Int) (PL TL : List Value) (W : World) : Prop where
  c1 : W.cell? ⟨pb, 1, none⟩ = some (.pointer (some ⟨c.xb, 0, none⟩))
  c2 : W.cell? ⟨pb, 2, none⟩ = some (.pointer (some ⟨rb, 0, none⟩))
  k1 : W.cell? ⟨g, o + 1, none⟩ = some (.int .i64 rd)
  k2 : W.cell? ⟨g, o + 2, none⟩ = some (.int .i64 root)
  rp : W.rangeAt g (o + 4) PL
  rt : W.rangeAt g (o + 37) TL
theorem sx_mk {g o : Nat} {a : Ac} (hp : W.heap[pb]? = some (.cells (prL c rb).toArray 29 (0, 0))) (hb : Below w.heap.size w W) (hr : w.rangeAt g o (acL a)) (ha : a.ok) : SX c rb pb g o a.rd a.root (PC.rpL a.V a.nodes) (a.tree.map B8) W := by
  have h1 := R5.rangeAt_below hr hb
  refine ⟨by rw [cell_of_row _ _ _ _ _ _ hp]; rfl, by rw [cell_of_row _ _ _ _ _ _ hp]; rfl, h1 1 _ rfl, h1 2 _ rfl, ?_, ?_⟩
  · have := PC.rangeAt_part h1 4 33
    rwa [acL_p ha] at this
  · have := PC.rangeAt_part h1 37 32
    rwa [acL_t ha] at this
theorem st_start {w X : World} {c : Cx} {rb tn : Nat} {I : Nat → Prop} (hcw : c.w = w) (hJR : JR c rb tn [] I X [] [] 0 (.slice none 0 0)) {Y : World} {PA : Array Value} (hPA : PA = (prL c rb).toArray) (hY : Y = X.alloc (.cells PA 29 (0, 0))) :
    ST w c rb ⟨[], 0, []⟩ (fun k => k = X.heap.size ∨ (Value.slice none 0 0).ownBlock = some k) X.heap.size (.slice none 0 0) [] Y := by
  have hb : Below X.heap.size X Y := by rw [hY]; exact (Below.refl _ _).alloc (Nat.le_refl _) _
  have hs : Y.heap.size = X.heap.size + 1 := by rw [hY]; simp
  have h0 : JA c rb ⟨[], 0, []⟩ (fun _ => False) X := ⟨I, [], [], _, tn, hJR, rfl, fun k hk => hk.elim⟩
  have hno : ∀ k, (Value.slice none 0 0).ownBlock ≠ some k := fun k e => by simp [Value.ownBlock] at e
  refine ⟨(h0.new hb).sub (fun k hk => .inr ?_), hcw, .inl rfl, fun k hk => ?_, ?_, FV.nil _ _, fun k e => absurd e (hno k)⟩
  · rcases hk with rfl | hk
    · omega
    · exact absurd hk (hno k)
  · have := h0.low
    rcases hk with rfl | hk
    · exact this
    · exact absurd hk (hno k)
  · rw [hY, ← hPA]; exact heap_alloc_new _ _
theorem mi_start : MI ⟨[], 0, []⟩ := ⟨fun x hx => (List.not_mem_nil hx).elim, fun x hx => (List.not_mem_nil hx).elim⟩
end
end Go.Proofs.YtekbppfocnbhbaaGreat.XC
