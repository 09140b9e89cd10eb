import Derived.Test.YtekbppfocnbhbaaGreatYS
import Derived.Test.YtekbppfocnbhbaaGreatWm
set_option linter.unusedVariables false
set_option linter.unusedSimpArgs false
namespace Go.Proofs.YtekbppfocnbhbaaGreat.XC
open Go.RowKit
abbrev RwT := Nat × TypeId × List Value
def RJ (I : Nat → Prop) (rows : List RwT) (k : Nat) : Prop := I k ∨ ∃ p ∈ rows, p.1 = k
structure RC (c : Cx) (rb : Nat) (L R : Lg) (I : Nat → Prop) (X Y : World) (rl : List En) (last : Nat) (av : Value) (rows : List RwT) : Prop where
  mm : R5.MM c.w c.n Y.heap.size c.og c.mo c.rg c.m c.D L R (RJ I rows) Y Y
  rx : RX c rb I Y rl last av
  fr : ∀ k, I k → k ≠ rb → Y.heap[k]? = X.heap[k]?
  sz : X.heap.size ≤ Y.heap.size
  rw : ∀ p ∈ rows, Y.heap[p.1]? = some (.cells p.2.2.toArray p.2.1 (0, 0)) ∧ X.heap.size ≤ p.1
  nd : (rows.map (·.1)).Nodup
  lo : (∀ k, I k → k < X.heap.size) ∧ c.n ≤ X.heap.size
section
variable {c : Cx} {rb tn last : Nat} {L R R' : Lg} {I J : Nat → Prop} {X Y Z : World} {rl : List En} {av : Value} {rows : List RwT}
theorem RC.start (h : RX c rb I X rl last av) (hM : R5.MM c.w c.n tn c.og c.mo c.rg c.m c.D L R I X X) : RC c rb L R I X X rl last av [] :=
  ⟨hM.retn.back (fun k hk => by rcases hk with hk | ⟨p, hp, _⟩; exact ⟨hk, rfl⟩; cases hp), h, fun _ _ _ => rfl, Nat.le_refl _, fun p hp => (List.not_mem_nil hp).elim, by simp, fun k hk => hM.ilt hk, hM.low.2⟩
theorem RC.row (h : RC c rb L R I X Y rl last av rows) (i : Nat) {b : Nat} {t : TypeId} {V : List Value} (hp : rows[i]? = some (b, t, V)) : Y.heap[b]? = some (.cells V.toArray t (0, 0)) := (h.rw (b, t, V) (List.mem_of_getElem? hp)).1
theorem RC.at (h : RC c rb L R I X Y rl last av rows) (i : Nat) {b : Nat} {t : TypeId} {V : List Value} (hp : rows[i]? = some (b, t, V)) : Y.rangeAt b 0 V := PC.rangeAt_row (h.row i hp)
theorem RC.cell (h : RC c rb L R I X Y rl last av rows) (i : Nat) {b : Nat} {t : TypeId} {V : List Value} (hp : rows[i]? = some (b, t, V)) {o : Nat} {v : Value} (ho : V[o]? = some v) : Y.cell? ⟨b, o, none⟩ = some v := by
  have := h.at i hp o v ho; rwa [Nat.zero_add] at this
theorem RC.step (h : RC c rb L R I X Y rl last av rows) (hb : Below Y.heap.size Y Z) : RC c rb L R I X Z rl last av rows := by
  have hI : ∀ k, I k → k < Y.heap.size := fun k hk => Nat.lt_of_lt_of_le (h.lo.1 k hk) h.sz
  exact ⟨((h.mm.step hb).fix).up_tn hb.size, h.rx.below hI hb, fun k hk hn => (hb.block k (hI k hk)).trans (h.fr k hk hn), Nat.le_trans h.sz hb.size, fun p hp => ⟨(hb.block p.1 (PC.row_lt (h.rw p hp).1)).trans (h.rw p hp).1, (h.rw p hp).2⟩, h.nd, h.lo⟩
theorem RC.alloc (h : RC c rb L R I X Y rl last av rows) (t : TypeId) (V : List Value) : RC c rb L R I X (Y.alloc (.cells V.toArray t (0, 0))) rl last av ((Y.heap.size, t, V) :: rows) := by
  have hb : Below Y.heap.size Y (Y.alloc (.cells V.toArray t (0, 0))) := (Below.refl _ _).alloc (Nat.le_refl _) _
  have hI : ∀ k, I k → k < Y.heap.size := fun k hk => Nat.lt_of_lt_of_le (h.lo.1 k hk) h.sz
  have hs : (Y.alloc (.cells V.toArray t (0, 0))).heap.size = Y.heap.size + 1 := by simp
  refine ⟨(h.mm.go (J := RJ I ((Y.heap.size, t, V) :: rows)) (R5.Fr.ofBelow hb) (fun k hk => ?_)).up_tn (by omega), h.rx.below hI hb, fun k hk hn => (hb.block k (hI k hk)).trans (h.fr k hk hn), Nat.le_trans h.sz hb.size, fun p hp => ?_, ?_, h.lo⟩
  · rcases hk with hk | ⟨p, hp, rfl⟩
    · exact .inl (.inl hk)
    · rcases List.mem_cons.1 hp with rfl | hp
      · exact .inr ⟨Nat.le_refl _, by rw [hs]; exact Nat.lt_succ_self _⟩
      · exact .inl (.inr ⟨p, hp, rfl⟩)
  · rcases List.mem_cons.1 hp with rfl | hp
    · exact ⟨heap_alloc_new _ _, h.sz⟩
    · exact ⟨(hb.block p.1 (PC.row_lt (h.rw p hp).1)).trans (h.rw p hp).1, (h.rw p hp).2⟩
  · rw [List.map_cons, List.nodup_cons]
    refine ⟨fun hm => ?_, h.nd⟩
    obtain ⟨p, hp, e⟩ := List.mem_map.1 hm
    have := PC.row_lt (h.rw p hp).1
    have e2 : p.1 = Y.heap.size := e
    omega
theorem RC.drop {p0 : RwT} (h : RC c rb L R I X Y rl last av (p0 :: rows)) : RC c rb L R I X Y rl last av rows :=
  ⟨h.mm.back (fun k hk => ⟨hk.elim .inl (fun ⟨p, hp, e⟩ => .inr ⟨p, List.mem_cons_of_mem _ hp, e⟩), rfl⟩), h.rx, h.fr, h.sz, fun p hp => h.rw p (List.mem_cons_of_mem _ hp), (List.nodup_cons.1 h.nd).2, h.lo⟩
theorem RC.perm {rows' : List RwT} (h : RC c rb L R I X Y rl last av rows) (hp : rows.Perm rows') : RC c rb L R I X Y rl last av rows' :=
  ⟨h.mm.back (fun k hk => ⟨hk.elim .inl (fun ⟨p, hm, e⟩ => .inr ⟨p, hp.mem_iff.2 hm, e⟩), rfl⟩), h.rx, h.fr, h.sz, fun p hm => h.rw p (hp.mem_iff.2 hm), (hp.map _).nodup_iff.1 h.nd, h.lo⟩
theorem RC.swap {p0 p1 : RwT} (h : RC c rb L R I X Y rl last av (p0 :: p1 :: rows)) : RC c rb L R I X Y rl last av (p1 :: p0 :: rows) := h.perm (List.Perm.swap _ _ _)
theorem RC.poke (h : RC c rb L R I X Y rl last av rows) (i : Nat) {b : Nat} {t : TypeId} {V : List Value} (hp : rows[i]? = some (b, t, V)) (V' : List Value) : RC c rb L R I X (Y.setRow b V'.toArray) rl last av (rows.set i (b, t, V')) := by
  have hm := List.mem_of_getElem? hp
  have hbX := (h.rw _ hm).2
  have hbr : Y.heap[b]? = some (.cells V.toArray t (0, 0)) := (h.rw _ hm).1
  have hk : ∀ k, k ≠ b → (Y.setRow b V'.toArray).heap[k]? = Y.heap[k]? := fun k hk => setRow_other _ _ _ _ hk
  have hIb : ∀ k, I k → k ≠ b := fun k hI => by have := h.lo.1 k hI; have : X.heap.size ≤ b := hbX; omega
  have hsz : (Y.setRow b V'.toArray).heap.size = Y.heap.size := by simp
  have hmap : (rows.set i (b, t, V')).map (·.1) = rows.map (·.1) := by
    rw [List.map_set]
    apply List.ext_getElem?
    intro j
    rw [List.getElem?_set]
    split
    · next e =>
      subst e
      have hi : i < rows.length := (List.getElem?_eq_some_iff.1 hp).1
      rw [if_pos (by simpa using hi), List.getElem?_map, hp]; rfl
    · rfl
  have hin : ∀ p ∈ rows.set i (b, t, V'), p = (b, t, V') ∨ (p ∈ rows ∧ p.1 ≠ b) := fun p hq => by
    obtain ⟨j, hj⟩ := List.getElem?_of_mem hq
    rw [List.getElem?_set] at hj
    split at hj
    · split at hj
      · exact .inl (by simpa using hj.symm)
      · cases hj
    · next hne =>
      refine .inr ⟨List.mem_of_getElem? hj, fun e => hne ?_⟩
      have h1 : (rows.map (·.1))[i]? = some b := by rw [List.getElem?_map, hp]; rfl
      have h2 : (rows.map (·.1))[j]? = some b := by rw [List.getElem?_map, hj]; simpa using e
      exact (List.getElem?_inj (List.getElem?_eq_some_iff.1 h1).1 h.nd).1 (h1.trans h2.symm)
  refine ⟨?_, h.rx.keep (fun k hkx => hk k (hIb k (by
    rcases hkx with rfl | hkx | ⟨x, hx, hkx⟩
    · exact h.rx.fI.1
    · exact (h.rx.aI k hkx).1
    · exact (h.rx.lI x hx k hkx).1))) (fun _ h => h), fun k hI hn => (hk k (hIb k hI)).trans (h.fr k hI hn), by rw [hsz]; exact h.sz, fun p hq => ?_, by rw [hmap]; exact h.nd, h.lo⟩
  · rw [hsz]
    refine h.mm.go (R5.Fr.setRow (R5.Fr.refl _ _) b _ (.inl ⟨by have := h.lo.2; have : X.heap.size ≤ b := hbX; omega, .inr ⟨_, hm, rfl⟩⟩)) (fun k hk2 => .inl ?_)
    rcases hk2 with hk2 | ⟨p, hq, rfl⟩
    · exact .inl hk2
    · rcases hin p hq with rfl | ⟨hq, _⟩
      · exact .inr ⟨_, hm, rfl⟩
      · exact .inr ⟨p, hq, rfl⟩
  · rcases hin p hq with rfl | ⟨hq, hne⟩
    · exact ⟨setRow_heap _ _ _ _ _ _ hbr, hbX⟩
    · exact ⟨(hk p.1 hne).trans (h.rw p hq).1, (h.rw p hq).2⟩
theorem RC.ask (h : RC c rb L R I X Y rl last av rows) (hq : R5.RQ c.w c.n c.og c.mo c.rg c.m c.D L R' (RJ I rows) Y Z) : RC c rb L R' I X Z rl last av rows := by
  obtain ⟨q1, q2, q3⟩ := hq
  exact ⟨q1, h.rx.keep (fun k hkx => q2 k (.inl (by
    rcases hkx with rfl | hkx | ⟨x, hx, hkx⟩
    · exact h.rx.fI.1
    · exact (h.rx.aI k hkx).1
    · exact (h.rx.lI x hx k hkx).1))) (fun _ h => h), fun k hk hn => (q2 k (.inl hk)).trans (h.fr k hk hn), Nat.le_trans h.sz q3, fun p hp => ⟨(q2 p.1 (.inr ⟨p, hp, rfl⟩)).trans (h.rw p hp).1, (h.rw p hp).2⟩, h.nd, h.lo⟩
theorem RC.num (h : RC c rb L R I X Y rl last av rows) (n : Nat) : RC c rb L R I X (Y.setCell ⟨rb, 2, none⟩ (PC.U8 n)) rl n av rows := by
  have hk : ∀ k, k ≠ rb → (Y.setCell ⟨rb, 2, none⟩ (PC.U8 n)).heap[k]? = Y.heap[k]? := fun k hk => heap_setCell_other _ _ _ _ (by simpa using hk)
  have hrow := heap_setCell_same Y rb 2 _ _ (PC.U8 n) h.rx.row
  have hsz : (Y.setCell ⟨rb, 2, none⟩ (PC.U8 n)).heap.size = Y.heap.size := by simp
  have hrbX := h.lo.1 rb h.rx.fI.1
  refine ⟨?_, ⟨hrow, ?_, h.rx.ok, fun x hx => (h.rx.logs x hx).keep (fun k hk1 _ => hk k (h.rx.lI x hx k hk1).2.1), h.rx.lI, h.rx.fI, h.rx.aI⟩, fun k hI hn => (hk k hn).trans (h.fr k hI hn), by rw [hsz]; exact h.sz, fun p hp => ⟨(hk p.1 (by have := (h.rw p hp).2; omega)).trans (h.rw p hp).1, (h.rw p hp).2⟩, h.nd, h.lo⟩
  · rw [hsz]
    exact h.mm.go (R5.Fr.setCell (R5.Fr.refl _ _) rb 2 _ (.inl ⟨h.rx.fI.2, .inl h.rx.fI.1⟩)) (fun k hk => .inl hk)
  · exact R5.own_keep h.rx.own (fun k e _ => hk k (h.rx.aI k e).2.2)
end
structure RE (c : Cx) (rb : Nat) (L R' : Lg) (I : Nat → Prop) (X Z : World) (rl rl' : List En) (last' : Nat) (av av' : Value) : Prop where
  ex : ∃ J, RX c rb J Z rl' last' av' ∧ R5.MM c.w c.n Z.heap.size c.og c.mo c.rg c.m c.D L R' J Z Z ∧ ∀ k, I k → J k
  fr : ∀ k, I k → k ≠ rb → av.ownBlock ≠ some k → Z.heap[k]? = X.heap[k]?
  sz : X.heap.size ≤ Z.heap.size
  nw : ∀ k, av'.ownBlock = some k → av.ownBlock = some k ∨ X.heap.size ≤ k
  lg : ∀ x ∈ rl', ∀ k, x.2.2.ownBlock = some k → (∃ y ∈ rl, y.2.2.ownBlock = some k) ∨ X.heap.size ≤ k
section
variable {c : Cx} {rb tn last : Nat} {L R R' : Lg} {I J : Nat → Prop} {X Y Z W : World} {rl : List En} {av : Value} {rows : List RwT}
theorem RC.rkey (h : RC c rb L R I X Y rl last av rows) (hb : Below Y.heap.size Y Z) (hll : R.length < 1000000) {v : Value} {i : Nat} (hf : FB Y.heap.size Z v (W1.le 8 i)) (hAl : (R5.nx c.D R (cq2 c.m i)).1.length = 32) :
    Calls Tryz.prog 50 #[.pointer (some ⟨c.rg, 0, none⟩), .int .i64 8, v] Z fun e V => e = .returned (.agg ((R5.nx c.D R (cq2 c.m i)).1.map B8).toArray) ∧ RC c rb L (R5.nx c.D R (cq2 c.m i)).2 I X V rl last av rows := by
  have hM : R5.MM c.w c.n Y.heap.size c.og c.mo c.rg c.m c.D L R (fun k => RJ I rows k ∨ (Y.heap.size ≤ k ∧ k < Z.heap.size)) Z Z := h.mm.go (R5.Fr.ofBelow hb) (fun k hk => hk)
  refine (hM.rkey hll 8 v (W1.le 8 i) (by rw [W1.le_length]; decide) hf.hb (fun k e => .inr (World.ownsRow.lt hf k e)) hAl).mono fun e V ⟨h1, h2, h3, h4⟩ => ⟨h1, (h.step hb).ask ⟨h2.back (fun k hk => ⟨.inl hk, rfl⟩), fun k hk => h3 k (.inl hk), h4⟩⟩
theorem RC.app (h : RC c rb L R I X Y rl last av rows) {x : En} (hx : x.2.1.ok) {bA : Nat} (hlv : HR Y x.2.2 x.2.1.log) (hla : ∀ k, x.2.2.ownBlock = some k → k = bA) (hbA : ∃ p ∈ rows, p.1 = bA) {s : Nat} (hs : ∃ p ∈ rows, p.1 = s) (hsA : s ≠ bA)
    {g cap : Nat} (hown : W.ownsRow 0 54 104 (.slice (some ⟨g, 0, none⟩) (rl.length + 1) cap) (rl.length + 1) (itC rl ++ itL x)) (hg : Y.grownBy W av.ownBlock) (hg2 : av.ownBlock = some g ∨ g = Y.heap.size) (hlt : g < W.heap.size) (A : Array Value)
    (hZ : Z = (W.setCell ⟨rb, 1, none⟩ (.slice (some ⟨g, 0, none⟩) (rl.length + 1) cap)).setRow s A) :
    RE c rb L R I X Z rl (rl ++ [x]) last av (.slice (some ⟨g, 0, none⟩) (rl.length + 1) cap) := by
  obtain ⟨pA, hpA, rfl⟩ := hbA
  obtain ⟨pS, hpS, rfl⟩ := hs
  have hA := h.rw pA hpA
  have hS := h.rw pS hpS
  have hAl := PC.row_lt hA.1
  have hSl := PC.row_lt hS.1
  have hrbX := h.lo.1 rb h.rx.fI.1
  have hsz := h.sz
  have hIY : ∀ k, I k → k < X.heap.size := h.lo.1
  have hZs : Z.heap.size = W.heap.size := by rw [hZ]; simp
  have hWs := hg.size
  have hgv : ∀ k, av.ownBlock = some k → k < X.heap.size ∧ k ≠ rb ∧ I k ∧ c.n ≤ k := fun k e => ⟨hIY k (h.rx.aI k e).1, (h.rx.aI k e).2.2, (h.rx.aI k e).1, (h.rx.aI k e).2.1⟩
  have hgr : g ≠ rb := by
    rcases hg2 with e | e
    · exact (hgv g e).2.1
    · omega
  have hgS : g ≠ pS.1 := by
    rcases hg2 with e | e
    · have := (hgv g e).1; have := hS.2; omega
    · omega
  -- what stays from Y on
  have hk : ∀ k, k < Y.heap.size → k ≠ rb → k ≠ pS.1 → av.ownBlock ≠ some k → Z.heap[k]? = Y.heap[k]? := fun k hk h1 h2 h3 => by
    rw [hZ, setRow_other _ _ _ _ h2, heap_setCell_other _ _ _ _ (by show k ≠ rb; exact h1)]
    exact hg.block k hk (fun e => h3 e.symm)
  have hrow : Z.heap[rb]? = some (.cells #[.pointer (some ⟨c.rg, 0, none⟩), .slice (some ⟨g, 0, none⟩) (rl.length + 1) cap, PC.U8 last] 58 (0, 0)) := by
    rw [hZ, setRow_other _ _ _ _ (by have := hS.2; omega)]
    have hW : W.heap[rb]? = some (.cells #[.pointer (some ⟨c.rg, 0, none⟩), av, PC.U8 last] 58 (0, 0)) := (hg.block rb (by omega) (fun e => (hgv rb e.symm).2.1 rfl)).trans h.rx.row
    rw [heap_setCell_same _ _ 1 _ _ _ hW]; rfl
  have hownZ : Z.ownsRow 0 54 104 (.slice (some ⟨g, 0, none⟩) (rl.length + 1) cap) (rl ++ [x]).length (itC (rl ++ [x])) := by
    have e1 : itC (rl ++ [x]) = itC rl ++ itL x := by rw [itC_app]; simp [itC]
    rw [e1, List.length_append, List.length_singleton]
    refine R5.own_keep hown (fun k e _ => ?_)
    have e' : k = g := by simpa [Value.ownBlock] using e.symm
    subst e'
    rw [hZ, setRow_other _ _ _ _ hgS, heap_setCell_other _ _ _ _ (by show k ≠ rb; exact hgr)]
  refine ⟨⟨fun k => RJ I rows k ∨ k = g, ⟨hrow, hownZ, fun y hy => ?_, fun y hy => ?_, fun y hy k e => ?_, ⟨.inl (.inl h.rx.fI.1), h.rx.fI.2⟩, fun k e => ?_⟩, ?_, fun k hk => .inl (.inl hk)⟩, fun k hI h1 h2 => ?_, by omega, fun k e => ?_, fun y hy k e => ?_⟩
  · rcases List.mem_append.1 hy with hy | hy
    · exact h.rx.ok y hy
    · rw [List.mem_singleton.1 hy]; exact hx
  · rcases List.mem_append.1 hy with hy | hy
    · refine (h.rx.logs y hy).keep (fun k e hkl => hk k hkl (h.rx.lI y hy k e).2.1 ?_ (h.rx.lI y hy k e).2.2)
      have := hIY k (h.rx.lI y hy k e).1; have := hS.2; omega
    · rw [List.mem_singleton.1 hy]
      refine hlv.keep (fun k e hkl => ?_)
      have e1 := hla k e
      have hA2 := hA.2
      exact hk k hkl (by omega) (by rw [e1]; exact hsA.symm) (fun e2 => by have := (hgv k e2).1; omega)
  · rcases List.mem_append.1 hy with hy | hy
    · have h1 := h.rx.lI y hy k e
      have h2 := hIY k h1.1
      refine ⟨.inl (.inl h1.1), h1.2.1, fun e2 => ?_⟩
      have e' : k = g := by simpa [Value.ownBlock] using e2.symm
      subst e'
      rcases hg2 with e3 | e3
      · exact h1.2.2 e3
      · omega
    · rw [List.mem_singleton.1 hy] at e
      have e1 := hla k e
      have hA2 := hA.2
      refine ⟨.inl (.inr ⟨pA, hpA, e1.symm⟩), by omega, fun e2 => ?_⟩
      have e' : k = g := by simpa [Value.ownBlock] using e2.symm
      subst e'
      rcases hg2 with e3 | e3
      · have := (hgv k e3).1; omega
      · omega
  · have e' : k = g := by simpa [Value.ownBlock] using e.symm
    subst e'
    refine ⟨.inr rfl, ?_, hgr⟩
    rcases hg2 with e3 | e3
    · exact (hgv k e3).2.2.2
    · have := h.lo.2; omega
  · have hF : R5.Fr (fun k => c.n ≤ k ∧ RJ I rows k) Y Z := by
      rw [hZ]
      refine R5.Fr.setRow (R5.Fr.setCell (R5.Fr.grown (R5.Fr.refl _ _) hg (fun k e => .inl ⟨(hgv k e).2.2.2, .inl (hgv k e).2.2.1⟩)) rb 1 _ (.inl ⟨h.rx.fI.2, .inl h.rx.fI.1⟩)) pS.1 A (.inl ⟨by have := h.lo.2; have := hS.2; omega, .inr ⟨pS, hpS, rfl⟩⟩)
    refine (h.mm.go hF (fun k hk => ?_)).up_tn (by omega)
    rcases hk with hk | rfl
    · exact .inl hk
    · rcases hg2 with e3 | e3
      · exact .inl (.inl (hgv k e3).2.2.1)
      · exact .inr ⟨by omega, by omega⟩
  · have h3 := hIY k hI
    rw [hk k (by omega) h1 (by have := hS.2; omega) h2]
    exact h.fr k hI h1
  · have e' : k = g := by simpa [Value.ownBlock] using e.symm
    subst e'
    rcases hg2 with e3 | e3
    · exact .inl e3
    · exact .inr (by omega)
  · rcases List.mem_append.1 hy with hy | hy
    · exact .inl ⟨y, hy, e⟩
    · rw [List.mem_singleton.1 hy] at e
      exact .inr (by rw [hla k e]; exact hA.2)
end
end Go.Proofs.YtekbppfocnbhbaaGreat.XC
