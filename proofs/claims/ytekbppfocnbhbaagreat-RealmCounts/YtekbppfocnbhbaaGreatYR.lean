/- realm: the reference's grow: the new log is laid. -/
import Derived.Test.YtekbppfocnbhbaaGreatYN
set_option linter.unusedVariables false
set_option linter.unusedSimpArgs false
namespace Go.Proofs.YtekbppfocnbhbaaGreat.XC
open Go.RowKit

section
variable {c : Cx} {rb last : Nat} {I J : Nat → Prop} {X Y : World} {rl a b : List En} {av : Value} {rd : Int} {r : Rm} {lv : Value}
set_option maxHeartbeats 1000000 in
set_option maxRecDepth 100000 in
theorem rgrow_no (h : RX c rb I X rl last av) (hs : ∀ k, I k → k < X.heap.size) (hn : rl.length < 1000000) (hno : NoRd rl rd) (TA : Array Value) :
    Calls Tryz.prog 73 #[.pointer (some ⟨rb, 0, none⟩), .int .i64 rd, .agg TA] X fun e Y => e = .returned (.int .i64 6) ∧ RX c rb I Y rl last av ∧ Below X.heap.size X Y := by
  have hb1 : Below X.heap.size X (X.alloc (.cells TA 69 (0, 0))) := (Below.refl _ _).alloc (Nat.le_refl _) _
  have h1 := h.below hs hb1
  have HC : Hid (Calls Tryz.prog 13 #[.pointer (some ⟨rb, 0, none⟩), .int .i64 rd] (X.alloc (.cells TA 69 (0, 0))) fun e Y => e = .returned (.int .i64 (-1)) ∧ (X.alloc (.cells TA 69 (0, 0))) = Y) := rat_no h1 hn hno
  have HE : Hid (RX c rb I (X.alloc (.cells TA 69 (0, 0))) rl last av ∧ Below X.heap.size X (X.alloc (.cells TA 69 (0, 0)))) := ⟨h1, hb1⟩
  clear h hn hno h1 hb1
  go_enter Tryz.func73, Tryz.ntmps73
  go_wp2_with fail
  refine Calls.mono HC.out ?_
  rintro e w1 ⟨rfl, rfl⟩
  go_wp2
  go_ret
  exact ⟨rfl, HE.out⟩
set_option maxHeartbeats 1000000 in
set_option maxRecDepth 100000 in
theorem rgrow_st (h : RX c rb I X (a ++ (rd, r, lv) :: b) last av) (hs : ∀ k, I k → k < X.heap.size) (hn : (a ++ (rd, r, lv) :: b).length < 1000000) (hno : NoRd a rd) (hst : r.st ≠ 1) (TA : Array Value) :
    Calls Tryz.prog 73 #[.pointer (some ⟨rb, 0, none⟩), .int .i64 rd, .agg TA] X fun e Y => e = .returned (.int .i64 7) ∧ RX c rb I Y (a ++ (rd, r, lv) :: b) last av ∧ Below X.heap.size X Y := by
  have hb1 : Below X.heap.size X (X.alloc (.cells TA 69 (0, 0))) := (Below.refl _ _).alloc (Nat.le_refl _) _
  have h1 := h.below hs hb1
  obtain ⟨g, cap, hav⟩ := h1.slice
  have HC : Hid (Calls Tryz.prog 13 #[.pointer (some ⟨rb, 0, none⟩), .int .i64 rd] (X.alloc (.cells TA 69 (0, 0))) fun e Y => e = .returned (.int .i64 (a.length : Int)) ∧ (X.alloc (.cells TA 69 (0, 0))) = Y) := rat_is h1 hn hno
  have HE : Hid (RX c rb I (X.alloc (.cells TA 69 (0, 0))) (a ++ (rd, r, lv) :: b) last av ∧ Below X.heap.size X (X.alloc (.cells TA 69 (0, 0)))) := ⟨h1, hb1⟩
  have hc1 := h1.cells.2.1
  rw [hav] at hc1
  have hlt : a.length < (a ++ (rd, r, lv) :: b).length := by simp
  have hg2 := h1.get hav 2 (by decide)
  replace hg2 : (X.alloc (.cells TA 69 (0, 0))).cell? ⟨g, a.length * 104 + 2, none⟩ = some (.int .i64 r.st) := hg2
  have hne : (r.st == 1) = false := by rw [beq_eq_false_iff_ne]; exact hst
  clear h hst h1 hb1
  obtain ⟨Kk, hKk⟩ : ∃ Kk, Kk = a.length := ⟨_, rfl⟩
  obtain ⟨Nn, hNn⟩ : ∃ Nn, Nn = (a ++ (rd, r, lv) :: b).length := ⟨_, rfl⟩
  rw [← hNn] at hc1 hlt hn
  rw [← hKk] at hlt HC hg2
  have hneg : ¬ (Kk : Int) < 0 := by omega
  have hltI : (Kk : Int) < (Nn : Int) := by omega
  clear hno hav hKk hNn
  generalize r.st = ST at hg2 hne
  go_enter Tryz.func73, Tryz.ntmps73
  go_wp2_with fail
  refine Calls.mono HC.out ?_
  rintro e w1 ⟨rfl, rfl⟩
  go_wp2
  go_ret
  exact ⟨rfl, HE.out⟩
end
end Go.Proofs.YtekbppfocnbhbaaGreat.XC

namespace Go.Proofs.YtekbppfocnbhbaaGreat.XC
open Go.RowKit

section
variable {c : Cx} {rb last : Nat} {I J : Nat → Prop} {X Y : World} {rl a b : List En} {av : Value} {rd : Int} {r : Rm} {lv : Value}
set_option maxHeartbeats 1000000 in
set_option maxRecDepth 100000 in
theorem rdata_arg (p0 : Value) (pg : Int) (hp : pg < 0 ∨ 127 < pg) (GA : Array Value) :
    Calls Tryz.prog 34 #[p0, .int .i64 rd, .int .i64 pg, .agg GA] X fun e Y => e = .returned (.int .i64 2) ∧ Below X.heap.size X Y := by
  have HB1 : Hid (Below X.heap.size X (X.alloc (.cells GA 38 (0, 0)))) := (Below.refl _ _).alloc (Nat.le_refl _) _
  rcases hp with hp | hp
  · go_enter Tryz.func34, Tryz.ntmps34
    go_wp2
    go_ret
    exact ⟨rfl, HB1.out⟩
  · have hn : ¬ pg < 0 := by omega
    go_enter Tryz.func34, Tryz.ntmps34
    go_wp2
    go_ret
    exact ⟨rfl, HB1.out⟩
set_option maxHeartbeats 1000000 in
set_option maxRecDepth 100000 in
theorem rdata_go (p0 : Value) (pg : Nat) (hp : pg < 128) (g : List UInt8) (hg : g.length = 128) {Q : Value → World → Prop}
    (h : ∀ X1, X1 = X.alloc (.cells (g.map B8).toArray 38 (0, 0)) → Calls Tryz.prog 73 #[p0, .int .i64 rd, .agg (rdL (rec2 pg g)).toArray] X1 fun e Y => ∃ v, e = .returned (.int .i64 v) ∧ Q (.int .i64 v) Y) :
    Calls Tryz.prog 34 #[p0, .int .i64 rd, .int .i64 (pg : Int), .agg (g.map B8).toArray] X fun e Y => ∃ v, e = .returned (.int .i64 v) ∧ Q (.int .i64 v) Y := by
  have HG : Hid (Calls Tryz.prog 73 #[p0, .int .i64 rd, .agg (rdL (rec2 pg g)).toArray] (X.alloc (.cells (g.map B8).toArray 38 (0, 0))) fun e Y => ∃ v, e = .returned (.int .i64 v) ∧ Q (.int .i64 v) Y) := h _ rfl
  have hbk := fun W => build_rd2 W (pg : Int) (g.map B8) (by simpa using hg)
  have hqq : Value.int .i64 2 :: (PC.Z32.map B8 ++ (.int .i64 (pg : Int) :: (g.map B8 ++ PC.rcL 0 PC.Z8 false))) = rdL (rec2 pg g) := rfl
  rw [hqq] at hbk
  have HBK : Hid (∀ W, (Instr.build 69 #[(0, .int .i64 2), (2, .int .i64 (pg : Int)), (3, .agg (g.map B8).toArray)]).run Tryz.prog W = .ok (.agg (rdL (rec2 pg g)).toArray) W) := hbk
  have HGR : Hid ((X.alloc (.cells (g.map B8).toArray 38 (0, 0))).rangeAt X.heap.size 0 (g.map B8)) := PC.rangeAt_row (heap_alloc_new _ _)
  have HGI : Hid _ := PC.info128 (g.map B8) (by simpa using hg)
  have h0 : ¬ (pg : Int) < 0 := by omega
  have h7 : ¬ (127 : Int) < (pg : Int) := by omega
  generalize rdL (rec2 pg g) = RL at *
  generalize g.map B8 = GL at *
  clear h hbk hqq
  go_enter Tryz.func34, Tryz.ntmps34
  go_wp2_with (first
    | (refine wpList_load_mid rfl 38 _ rfl X.heap.size 0 rfl GL _ HGR.out Tryz.underlying38 rfl HGI.out ?_)
    | (refine R5.wpList_build rfl 69 _ rfl _ _ (by simp; exact ⟨rfl, rfl, rfl⟩) (HBK.out _) ?_))
  refine Calls.mono HG.out ?_
  rintro e Y ⟨v, rfl, hQ⟩
  have HQ : Hid (Q (.int .i64 v) Y) := hQ
  clear hQ HG
  go_wp2
  go_ret
  exact ⟨v, rfl, HQ.out⟩
end
end Go.Proofs.YtekbppfocnbhbaaGreat.XC

namespace Go.Proofs.YtekbppfocnbhbaaGreat.XC
open Go.RowKit

section
variable {c : Cx} {rb tn last : Nat} {I J : Nat → Prop} {X Y W : World} {rl a b : List En} {av : Value} {rd : Int} {r : Rm} {lv : Value} {L R : List (R5.Qn × List UInt8)}
theorem itL_splM {r : Rm} (hr : r.ok) (rd : Int) (lv : Value) (t : List UInt8) (ht : t.length = 32) (p q : List Value) (n : Nat) (hn : n = p.length + 5) : splice (p ++ (itL (rd, r, lv) ++ q)) n (t.map B8) = p ++ (itL (rd, { r with meas := t }, lv) ++ q) := by
  have e : p ++ (itL (rd, r, lv) ++ q) = (p ++ (.int .i64 rd :: [PC.U8 r.inst, .int .i64 r.st, .int .i64 r.root, PC.U8 r.nodes])) ++ (r.meas.map B8 ++ (lv :: (r.key.map B8 ++ (PC.U8 r.ctr :: (r.tree.map B8 ++ [.int .i64 (r.recs : Int)]))) ++ q)) := by simp [itL, rmL]
  rw [e, spl_app _ _ (t.map B8) _ n (by simp [hn]) (by simp [hr.m, ht])]; simp [itL, rmL]
theorem RX.meas (h : RX c rb I X (a ++ (rd, r, lv) :: b) last av) {g cap : Nat} (hav : av = .slice (some ⟨g, 0, none⟩) (a ++ (rd, r, lv) :: b).length cap) : X.rangeAt g (a.length * 104 + 5) (r.meas.map B8) := fun j v hv => by
  have hok := h.ok _ (show (rd, r, lv) ∈ a ++ (rd, r, lv) :: b by simp)
  have hj : j < 32 := by have := (List.getElem?_eq_some_iff.1 hv).1; simpa [hok.m] using this
  rw [Nat.add_assoc, h.get hav (5 + j) (by omega)]
  have e : itL (rd, r, lv) = (.int .i64 rd :: [PC.U8 r.inst, .int .i64 r.st, .int .i64 r.root, PC.U8 r.nodes]) ++ (r.meas.map B8 ++ (lv :: (r.key.map B8 ++ (PC.U8 r.ctr :: (r.tree.map B8 ++ [.int .i64 (r.recs : Int)]))))) := by simp [itL, rmL]
  rw [e, List.getElem?_append_right (by simp), List.getElem?_append_left (by simp [hok.m]; omega)]
  simpa using hv
structure GV (c : Cx) (rb s : Nat) (L R : List (R5.Qn × List UInt8)) (I : Nat → Prop) (X V : World) (rl : List En) (last : Nat) (av : Value) (RA : Array Value) : Prop where
  rx : RX c rb I V rl last av
  mm : R5.MM c.w c.n V.heap.size c.og c.mo c.rg c.m c.D L R (fun k => I k ∨ k = s) V V
  box : V.heap[s]? = some (.cells RA 69 (0, 0))
  keep : ∀ k, I k → av.ownBlock ≠ some k → V.heap[k]? = X.heap[k]?
  sz : X.heap.size ≤ V.heap.size
theorem gv_meas {X1 : World} {RA : Array Value} {NX : List UInt8 × List (R5.Qn × List UInt8)} (h : RX c rb I X (a ++ (rd, r, lv) :: b) last av) (hs : ∀ k, I k → k < X.heap.size) {g cap : Nat} (hav : av = .slice (some ⟨g, 0, none⟩) (a ++ (rd, r, lv) :: b).length cap)
    (hb1 : Below X.heap.size X X1) (hs1 : X1.heap.size = X.heap.size + 1) (hbx : X1.heap[X.heap.size]? = some (.cells RA 69 (0, 0))) (hNX : NX.1.length = 32)
    (hW : Below X1.heap.size X1 W) (hY : R5.RQ c.w c.n c.og c.mo c.rg c.m c.D L NX.2 (fun k => I k ∨ k = X.heap.size) W Y) :
    ∃ Z, Y.heap[g]? = some (.cells (itC a ++ (itL (rd, r, lv) ++ (itC b ++ Z))).toArray 54 (0, 0)) ∧ Y.heap[X.heap.size]? = some (.cells RA 69 (0, 0)) ∧ a.length * 104 + 5 + (NX.1.map B8).toArray.size ≤ (itC a ++ (itL (rd, r, lv) ++ (itC b ++ Z))).length ∧
      ∀ V, V = Y.setRow g (splice (itC a ++ (itL (rd, r, lv) ++ (itC b ++ Z))) (a.length * 104 + 5) (NX.1.map B8).toArray.toList).toArray → GV c rb X.heap.size L NX.2 I X V (a ++ (rd, { r with meas := NX.1 }, lv) :: b) last av RA := by
  have hgo : av.ownBlock = some g := by rw [hav]; rfl
  have hgI := h.aI g hgo
  have hgX := hs _ hgI.1
  have hok := h.ok _ (show (rd, r, lv) ∈ a ++ (rd, r, lv) :: b by simp)
  have hao : ∀ y ∈ a, y.2.1.ok := fun y hy => h.ok y (by simp [hy])
  have h0 : (rd, r, lv) ∈ a ++ (rd, r, lv) :: b := by simp
  have hYk : ∀ k, I k → Y.heap[k]? = X.heap[k]? := fun k hk => by
    rw [hY.2.1 k (.inl hk), hW.block k (by have := hs k hk; omega), hb1.block k (hs k hk)]
  have hYb : Y.heap[X.heap.size]? = some (.cells RA 69 (0, 0)) := by
    rw [hY.2.1 _ (.inr rfl), hW.block _ (by omega)]; exact hbx
  have hRY : RX c rb I Y (a ++ (rd, r, lv) :: b) last av := h.keep (fun k hk => hYk k (by
    rcases hk with rfl | hk | ⟨x, hx, hk⟩
    · exact h.fI.1
    · exact (h.aI k hk).1
    · exact (h.lI x hx k hk).1)) (fun _ h => h)
  obtain ⟨Z, hZ⟩ := hRY.block hav
  refine ⟨Z, hZ, hYb, ?_, fun V hV => ?_⟩
  · rw [List.length_append, List.length_append, itC_len hao, itL_len (x := (rd, r, lv)) hok, List.size_toArray, List.length_map, hNX]
    omega
  · rw [List.toList_toArray, itL_splM hok rd lv NX.1 hNX _ _ _ (by rw [itC_len hao])] at hV
    subst hV
    have hsz : ∀ A, (Y.setRow g A).heap.size = Y.heap.size := fun A => by simp
    have hYs : X.heap.size ≤ Y.heap.size := by have := hY.2.2; have := hW.size; omega
    refine ⟨hRY.put2 hav hZ { r with meas := NX.1 } lv ⟨hNX, hok.k, hok.t, hok.l⟩ (setRow_heap _ _ _ _ _ _ hZ) (fun k _ hk => setRow_other _ _ _ _ hk) ?_ (fun _ h => h) (fun k hk => ⟨(hRY.lI _ h0 k hk).1, (hRY.lI _ h0 k hk).2.1, fun e => (hRY.lI _ h0 k hk).2.2 (by rw [e]; exact hgo)⟩), ?_, ?_, fun k hk hne => ?_, by rw [hsz]; exact hYs⟩
    · exact (hRY.logs _ h0).keep (fun k hk _ => setRow_other _ _ _ _ (fun e => (hRY.lI _ h0 k hk).2.2 (by rw [e]; exact hgo)))
    · rw [hsz]
      exact hY.1.go (R5.Fr.setRow (R5.Fr.refl _ _) g _ (.inl ⟨hgI.2.1, .inl hgI.1⟩)) (fun k hk => .inl hk)
    · rw [setRow_other _ _ _ _ (by omega)]; exact hYb
    · rw [setRow_other _ _ _ _ (fun e => hne (by rw [e]; exact hgo))]; exact hYk k hk
end
end Go.Proofs.YtekbppfocnbhbaaGreat.XC

namespace Go.Proofs.YtekbppfocnbhbaaGreat.XC
open Go.RowKit

theorem _root_.Go.Proofs.YtekbppfocnbhbaaGreat.R5.MM.up_tn {w K X : World} {n tn tn' og mb rg : Nat} {m : List UInt8} {D : List (List UInt8)} {L R : List (R5.Qn × List UInt8)} {I : Nat → Prop} (h : R5.MM w n tn og mb rg m D L R I K X) (ht : tn ≤ tn') : R5.MM w n tn' og mb rg m D L R I K X := by
  obtain ⟨S, dv, ov, T, dr, lv, lds, h1, h2, h3, h4, h5, h6⟩ := h.ex
  exact ⟨⟨S, dv, ov, T, dr, lv, lds, h1, h2, h3, h4, h5, fun k hk => Nat.lt_of_lt_of_le (h6 k hk) ht⟩, h.bel, h.low, h.same⟩
section
variable {c : Cx} {rb tn last s : Nat} {I J : Nat → Prop} {X Y V W : World} {rl a b : List En} {av : Value} {rd : Int} {r : Rm} {lv : Value} {L R : List (R5.Qn × List UInt8)} {RA : Array Value}
def GE (c : Cx) (rb : Nat) (L R : List (R5.Qn × List UInt8)) (I : Nat → Prop) (X T : World) (a b : List En) (rd : Int) (r : Rm) (last : Nat) (av : Value) : Prop :=
  ∃ v, RX c rb (fun k => I k ∨ v.ownBlock = some k) T (a ++ (rd, r, v) :: b) last av ∧ R5.MM c.w c.n T.heap.size c.og c.mo c.rg c.m c.D L R (fun k => I k ∨ v.ownBlock = some k) T T ∧ (∀ k, I k → av.ownBlock ≠ some k → T.heap[k]? = X.heap[k]?) ∧ X.heap.size ≤ T.heap.size ∧ (∀ k, v.ownBlock = some k → X.heap.size ≤ k)
theorem gv_log (h : GV c rb s L R I X V (a ++ (rd, r, lv) :: b) last av RA) {g cap : Nat} (hav : av = .slice (some ⟨g, 0, none⟩) (a ++ (rd, r, lv) :: b).length cap) {v : Value} {l' : List Rd} (hl : ∀ x ∈ l', x.ok) (hb : Below V.heap.size V W) (hown : W.ownsRow V.heap.size 69 172 v l'.length (lgC l')) :
    GE c rb L R I X (W.setCell ⟨g, a.length * 104 + 37, none⟩ v) a b rd { r with log := l' } last av := by
  have hIl : ∀ k, (I k ∨ k = s) → k < V.heap.size := fun k hk => by
    obtain ⟨S, dv, ov, T, dr, lv, lds, h1, h2, h3, h4, h5, h6⟩ := h.mm.ex
    exact (h5 k hk).2.2
  have hgo : av.ownBlock = some g := by rw [hav]; rfl
  have hgI := h.rx.aI g hgo
  have hgV := hIl g (.inl hgI.1)
  have hok := h.rx.ok _ (show (rd, r, lv) ∈ a ++ (rd, r, lv) :: b by simp)
  have hao : ∀ y ∈ a, y.2.1.ok := fun y hy => h.rx.ok y (by simp [hy])
  have hRW := h.rx.below (fun k hk => hIl k (.inl hk)) hb
  obtain ⟨Z, hZ⟩ := hRW.block hav
  have hT := heap_setCell_same W g (a.length * 104 + 37) _ _ v hZ
  have hset : (itC a ++ (itL (rd, r, lv) ++ (itC b ++ Z))).set (a.length * 104 + 37) v = itC a ++ (itL (rd, { r with log := l' }, v) ++ (itC b ++ Z)) := by
    rw [List.set_append_right _ _ (by rw [itC_len hao]; omega), itC_len hao, Nat.add_sub_cancel_left, List.set_append_left _ _ (by rw [itL_len (x := (rd, r, lv)) hok]; decide)]
    congr 2
    show _ :: (rmL r lv).set 36 v = _
    rw [rmL_set36 hok]; rfl
  rw [List.setIfInBounds_toArray, hset] at hT
  have hother : ∀ k, k ≠ g → (W.setCell ⟨g, a.length * 104 + 37, none⟩ v).heap[k]? = W.heap[k]? := fun k hk => heap_setCell_other _ _ _ _ (by simpa using hk)
  have hsz : (W.setCell ⟨g, a.length * 104 + 37, none⟩ v).heap.size = W.heap.size := by simp
  have hvl := fun k hk => hown.lt k hk
  refine ⟨v, hRW.put2 hav hZ { r with log := l' } v ⟨hok.m, hok.k, hok.t, hl⟩ hT (fun k _ hk => hother k hk) ?_ (fun k hk => .inl hk) (fun k hk => ⟨.inr hk, ?_, ?_⟩), ?_, fun k hk hne => ?_, ?_, fun k hk => ?_⟩
  · exact (HO.hr hown).keep (fun k hk _ => hother k (by have := (hvl k hk).1; omega))
  · have := (hvl k hk).1
    have := hIl rb (.inl h.rx.fI.1)
    omega
  · have := (hvl k hk).1
    omega
  · have h1 : R5.MM c.w c.n V.heap.size c.og c.mo c.rg c.m c.D L R (fun k => I k ∨ v.ownBlock = some k) (W.setCell ⟨g, a.length * 104 + 37, none⟩ v) (W.setCell ⟨g, a.length * 104 + 37, none⟩ v) := by
      refine h.mm.go (R5.Fr.setCell (R5.Fr.ofBelow hb) g _ v (.inl ⟨hgI.2.1, .inl hgI.1⟩)) (fun k hk => ?_)
      rcases hk with hk | hk
      · exact .inl (.inl hk)
      · exact .inr (by rw [hsz]; exact hvl k hk)
    exact h1.up_tn (by rw [hsz]; exact hb.size)
  · rw [hother k (fun e => hne (by rw [e]; exact hgo)), hb.block k (hIl k (.inl hk))]; exact h.keep k hk hne
  · rw [hsz]; exact Nat.le_trans h.sz hb.size
  · exact Nat.le_trans h.sz (hvl k hk).1
end
end Go.Proofs.YtekbppfocnbhbaaGreat.XC
