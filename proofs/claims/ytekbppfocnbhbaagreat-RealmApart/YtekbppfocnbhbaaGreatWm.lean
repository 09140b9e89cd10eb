import Derived.Test.YtekbppfocnbhbaaGreatXR
set_option linter.unusedVariables false
set_option linter.unusedSimpArgs false
set_option maxHeartbeats 16000000
set_option maxRecDepth 100000
namespace Go.Proofs.YtekbppfocnbhbaaGreat.XC
open Go.RowKit
open Go.ChangeMaps (setBlock)
theorem build_rm0 (w : World) (i n : Int) (root : Int) (TL : List Value) (h : TL.length = 32) : (Instr.build 47 #[(0, .int .u64 i), (1, .int .i64 1), (2, .int .i64 root), (3, .int .u64 n), (8, .agg TL.toArray)]).run Tryz.prog w = .ok (.agg (.int .u64 i :: .int .i64 1 :: .int .i64 root :: .int .u64 n :: (PC.Z32.map B8 ++ (.slice none 0 0 :: (PC.Z32.map B8 ++ (.int .u64 0 :: (TL ++ [.int .i64 0])))))).toArray) w := by
  iterate 32 (obtain ⟨_, _, e, g⟩ := R5.cons_of h; clear h; subst e; have h := g; clear g)
  obtain rfl := List.eq_nil_of_length_eq_zero h
  show _ = _
  kernel_rfl
def r0 (i : Nat) (root : Int) (nodes : Nat) (tree : List UInt8) : Rm := ⟨i, 1, root, nodes, PC.Z32, [], PC.Z32, 0, tree, 0⟩
theorem r0_ok (i : Nat) (root : Int) (nodes : Nat) {tree : List UInt8} (h : tree.length = 32) : (r0 i root nodes tree).ok := ⟨PC.z32_len, PC.z32_len, h, fun x hx => by cases hx⟩
section
variable {c : Cx} {tn last last' bb : Nat} {L L' R : Lg} {I J : Nat → Prop} {X Y Z W W' : World} {l l' : List En} {rd root : Int} {r r' : Rm} {lv lv' : Value} {PL TL ZL : List Value}
structure CS (c : Cx) (tn : Nat) (L R : Lg) (I J : Nat → Prop) (X Y : World) (last' bb : Nat) (PL TL ZL : List Value) (r : Rm) (lv : Value) : Prop where
  mm : R5.MM c.w c.n tn c.og c.mo c.rg c.m c.D L R J Y Y
  IJ : ∀ k, I k → J k
  fr : ∀ k, k < X.heap.size → I k → k ≠ c.xb → Y.heap[k]? = X.heap[k]?
  x : Y.heap[c.xb]? = some (.cells (xL c.og c.mb last').toArray 80 (0, 0))
  xI : I c.xb ∧ c.n ≤ c.xb ∧ c.xb < X.heap.size
  b0 : Y.heap[X.heap.size]? = some (.cells PL.toArray 36 (0, 0))
  b1 : Y.heap[X.heap.size + 1]? = some (.cells TL.toArray 33 (0, 0))
  b2 : Y.heap[X.heap.size + 1 + 1]? = some (.cells ZL.toArray 47 (0, 0))
  jb : J X.heap.size ∧ J (X.heap.size + 1) ∧ J (X.heap.size + 1 + 1)
  bk : X.heap.size + 3 ≤ bb ∧ J bb
  row : Y.heap[bb]? = some (.cells (rmL r lv).toArray 47 (0, 0))
  ok : r.ok
  own : HO Y lv r.log
  lJ : ∀ k, lv.ownBlock = some k → J k ∧ X.heap.size + 3 ≤ k ∧ k ≠ bb
  nX : c.n ≤ X.heap.size
theorem CS.step (h : CS c tn L R I J X Y last' bb PL TL ZL r lv) (hb : Below Y.heap.size Y Z) : CS c tn L R I (up J Y Z) X Z last' bb PL TL ZL r lv := by
  have hk : ∀ k, J k → Z.heap[k]? = Y.heap[k]? := fun k hk => hb.block k (h.mm.ilt hk)
  exact ⟨h.mm.go (R5.Fr.ofBelow hb) (fun k hk => hk), fun k hk => .inl (h.IJ k hk), fun k h1 h2 h3 => (hk k (h.IJ k h2)).trans (h.fr k h1 h2 h3), (hk _ (h.IJ _ h.xI.1)).trans h.x, h.xI, (hk _ h.jb.1).trans h.b0, (hk _ h.jb.2.1).trans h.b1, (hk _ h.jb.2.2).trans h.b2, ⟨.inl h.jb.1, .inl h.jb.2.1, .inl h.jb.2.2⟩, ⟨h.bk.1, .inl h.bk.2⟩, (hk _ h.bk.2).trans h.row, h.ok, R5.own_keep h.own (fun k e _ => hk k (h.lJ k e).1), fun k e => ⟨.inl (h.lJ k e).1, (h.lJ k e).2⟩, h.nX⟩
theorem CS.ask (h : CS c tn L R I J X Y last' bb PL TL ZL r lv) (hm : R5.MM c.w c.n tn c.og c.mo c.rg c.m c.D L' R J Y Z) : CS c tn L' R I J X Z last' bb PL TL ZL r lv := by
  have hk : ∀ k, J k → Z.heap[k]? = Y.heap[k]? := fun k hk => hm.same k hk
  exact ⟨hm.fix, h.IJ, fun k h1 h2 h3 => (hk k (h.IJ k h2)).trans (h.fr k h1 h2 h3), (hk _ (h.IJ _ h.xI.1)).trans h.x, h.xI, (hk _ h.jb.1).trans h.b0, (hk _ h.jb.2.1).trans h.b1, (hk _ h.jb.2.2).trans h.b2, h.jb, h.bk, (hk _ h.bk.2).trans h.row, h.ok, R5.own_keep h.own (fun k e _ => hk k (h.lJ k e).1), h.lJ, h.nX⟩
theorem CS.ms (h : CS c tn L R I J X Y last' bb PL TL ZL r lv) : Ms c tn L R J Y c.xb bb last' r lv := ⟨h.mm, h.x, h.IJ _ h.xI.1, h.row, ⟨h.bk.2, by have := h.nX; have := h.bk.1; omega⟩, h.ok, h.own, fun k e => ⟨(h.lJ k e).1, by have := h.nX; have := (h.lJ k e).2.1; omega, (h.lJ k e).2.2⟩⟩
theorem CS.cd (h : CS c tn L R I J X Y last' bb PL TL ZL r lv) (hd : CD c tn L' R J Y Z bb (fun _ => False) r.log lv r' lv') : ∃ J', CS c tn L' R I J' X Z last' bb PL TL ZL r' lv' ∧ ∀ k, J k → J' k := by
  obtain ⟨J', h1, h2, h3⟩ := hd.mm
  have hbb := h.bk.1
  have hk : ∀ k, J k → k < X.heap.size + 3 → Z.heap[k]? = Y.heap[k]? := fun k hk hl => hd.fr k (h.mm.ilt hk) hk (by omega) (fun h => h) (fun e => by have := (h.lJ k e).2.1; omega)
  have hsY : X.heap.size + 3 ≤ Y.heap.size := by have := h.mm.ilt h.bk.2; omega
  have hbY := h.mm.ilt h.bk.2
  refine ⟨J', ⟨h1, fun k hk => h2 k (h.IJ k hk), fun k hk1 hk2 hk3 => (hk k (h.IJ k hk2) (by omega)).trans (h.fr k hk1 hk2 hk3), (hk _ (h.IJ _ h.xI.1) (by have := h.xI.2.2; omega)).trans h.x, h.xI, (hk _ h.jb.1 (by omega)).trans h.b0, (hk _ h.jb.2.1 (by omega)).trans h.b1, (hk _ h.jb.2.2 (by omega)).trans h.b2, ⟨h2 _ h.jb.1, h2 _ h.jb.2.1, h2 _ h.jb.2.2⟩, ⟨hbb, h2 _ h.bk.2⟩, hd.row, hd.ok, hd.own, fun k e => ⟨h3 k e, ?_⟩, h.nX⟩, h2⟩
  rcases hd.lies k e with ek | ek
  · exact (h.lJ k ek).2
  · exact ⟨by omega, by omega⟩
theorem CS.set (h : CS c tn L R I J X Y last' bb PL TL ZL r lv) (hok : r'.ok) (hlog : r'.log = r.log) : CS c tn L R I J X (Y.setRow bb (rmL r' lv).toArray) last' bb PL TL ZL r' lv := by
  have hbb := h.bk.1
  have hx := h.xI.2.2
  have hk : ∀ k, k ≠ bb → (Y.setRow bb (rmL r' lv).toArray).heap[k]? = Y.heap[k]? := fun k hk => setRow_other _ _ _ _ hk
  refine ⟨h.mm.go (J := J) (R5.Fr.setRow (R5.Fr.refl _ _) bb _ (.inl ⟨by have := h.nX; omega, h.bk.2⟩)) (fun k hk => .inl hk), h.IJ, fun k h1 h2 h3 => (hk k (by omega)).trans (h.fr k h1 h2 h3), (hk _ (by omega)).trans h.x, h.xI, (hk _ (by omega)).trans h.b0, (hk _ (by omega)).trans h.b1, (hk _ (by omega)).trans h.b2, h.jb, h.bk, setRow_heap _ _ _ _ _ _ h.row, hok, ?_, h.lJ, h.nX⟩
  unfold HO; rw [hlog]; exact R5.own_keep h.own (fun k e _ => hk k (h.lJ k e).2.2)
structure CrD (c : Cx) (tn : Nat) (L' R : Lg) (I : Nat → Prop) (X Y : World) (l : List En) (rd : Int) (r : Rm) (lv v' : Value) (last' : Nat) : Prop where
  pd : PD c tn L' R I X Y l (l ++ [(rd, r, lv)]) last' (fun _ => False)
  ex : ∃ J, JP c tn L' R J Y (l ++ [(rd, r, lv)]) last' ∧ (∀ k, I k → J k) ∧ (∀ k, v'.ownBlock = some k → J k ∧ X.heap.size ≤ k ∧ ¬ FP c.xb c.mb (l ++ [(rd, r, lv)]) k)
  hr : HR Y v' r.log
theorem pd_new (h : JP c tn L R I X l last) (hs : CS c tn L' R I J X W last' bb PL TL ZL r lv) (hm : MR Y c.mb (l ++ [(rd, r, lv)])) (hg : W.grownBy Y (some c.mb)) :
    PD c tn L' R I X Y l (l ++ [(rd, r, lv)]) last' (fun _ => False) ∧ JP c tn L' R J Y (l ++ [(rd, r, lv)]) last' := by
  have hsW : X.heap.size + 3 ≤ W.heap.size := by have := hs.mm.ilt hs.bk.2; have := hs.bk.1; omega
  have hsY := hg.size
  have hmb := h.px.map.lt
  have hmbI := (h.px.fI c.mb (.inr (.inl rfl)))
  have same : ∀ k, k < X.heap.size → I k → k ≠ c.xb → k ≠ c.mb → Y.heap[k]? = X.heap[k]? := fun k hk hI hx hkm => (hg.block k (by omega) (fun e => hkm (by simpa using e))).trans (hs.fr k hk hI hx)
  have old : ∀ x ∈ l, ∀ k, x.2.2.ownBlock = some k → Y.heap[k]? = X.heap[k]? := fun x hx k e => same k (HO.lt (h.px.own x hx) k e) (h.px.fI k (.inr (.inr ⟨x, hx, e⟩))).1 (h.px.far x hx k e).1 (h.px.far x hx k e).2
  have mem : ∀ {x : En}, x ∈ l ++ [(rd, r, lv)] → x ∈ l ∨ x = (rd, r, lv) := fun {x} hx => by
    rcases List.mem_append.1 hx with hx | hx
    · exact .inl hx
    · exact .inr (by simpa using hx)
  have hJP : JP c tn L' R J Y (l ++ [(rd, r, lv)]) last' := by
    refine ⟨?_, ⟨?_, hm, ?_, ?_, ?_, ?_, ?_⟩⟩
    · refine hs.mm.go (J := J) ⟨hg.os, hg.tape, hg.output, hg.size, fun k hk hn => hg.block k hk (fun e => ?_)⟩ (fun k hk => .inl hk)
      have e' : k = c.mb := by simpa using e
      exact hn (e' ▸ ⟨hmbI.2, hs.IJ _ hmbI.1⟩)
    · exact (hg.block c.xb (by have := hs.xI.2.2; omega) (fun e => by have e' : c.xb = c.mb := (by simpa using e); exact h.px.ne e'.symm)).trans hs.x
    · intro x hx
      rcases mem hx with hx | rfl
      · exact h.px.ok x hx
      · exact hs.ok
    · intro x hx
      rcases mem hx with hx | rfl
      · exact R5.own_keep (h.px.own x hx) (fun k e _ => old x hx k e)
      · exact R5.own_keep hs.own (fun k e hk => hg.block k hk (fun e2 => by have := (hs.lJ k e).2.1; have e' : k = c.mb := (by simpa using e2); omega))
    · refine List.pairwise_append.2 ⟨h.px.apart, by simp, fun x hx y hy k e e2 => ?_⟩
      obtain rfl : y = (rd, r, lv) := by simpa using hy
      have := HO.lt (h.px.own x hx) k e
      have := (hs.lJ k e2).2.1
      omega
    · rintro k (rfl | rfl | ⟨x, hx, e⟩)
      · exact ⟨hs.IJ _ hs.xI.1, hs.xI.2.1⟩
      · exact ⟨hs.IJ _ hmbI.1, hmbI.2⟩
      · rcases mem hx with hx | rfl
        · have := h.px.fI k (.inr (.inr ⟨x, hx, e⟩))
          exact ⟨hs.IJ _ this.1, this.2⟩
        · exact ⟨(hs.lJ k e).1, by have := hs.nX; have := (hs.lJ k e).2.1; omega⟩
    · intro x hx k e
      rcases mem hx with hx | rfl
      · exact h.px.far x hx k e
      · have := (hs.lJ k e).2.1
        exact ⟨by have := hs.xI.2.2; omega, by omega⟩
  refine ⟨⟨by omega, ⟨J, hJP, hs.IJ⟩, fun k hk hI hF _ => same k hk hI (fun e => hF (.inl e)) (fun e => hF (.inr (.inl e))), ?_, ?_⟩, hJP⟩
  · rintro k (rfl | rfl | ⟨x, hx, e⟩)
    · exact .inl (.inl rfl)
    · exact .inl (.inr (.inl rfl))
    · rcases mem hx with hx | rfl
      · exact .inl (.inr (.inr ⟨x, hx, e⟩))
      · exact .inr (by have := (hs.lJ k e).2.1; omega)
  · intro x hx k e
    refine ⟨fun j _ => World.cell?_of_block (a := ⟨k, j, none⟩) (old x hx k e), fun y hy ey => ?_⟩
    rcases mem hy with hy | rfl
    · rw [apart_eq h.px.apart hx hy e ey]; exact Nat.le_refl _
    · have := HO.lt (h.px.own x hx) k e
      have := (hs.lJ k ey).2.1
      omega
end
section
variable {c : Cx} {tn last last' bb : Nat} {L L' R : Lg} {I J : Nat → Prop} {X X3 Y Z W W' : World} {l l' : List En} {rd root : Int} {r r' : Rm} {lv lv' : Value} {PL TL ZL : List Value}
structure Bz (X X3 : World) (PL TL ZL : List Value) : Prop where
  bel : Below X.heap.size X X3
  size : X3.heap.size = X.heap.size + 3
  b0 : X3.heap[X.heap.size]? = some (.cells PL.toArray 36 (0, 0))
  b1 : X3.heap[X.heap.size + 1]? = some (.cells TL.toArray 33 (0, 0))
  b2 : X3.heap[X.heap.size + 1 + 1]? = some (.cells ZL.toArray 47 (0, 0))
theorem bz_mk (X : World) (PL TL ZL : List Value) (X3 : World) (h : X3 = ((X.alloc (.cells PL.toArray 36 (0, 0))).alloc (.cells TL.toArray 33 (0, 0))).alloc (.cells ZL.toArray 47 (0, 0))) : Bz X X3 PL TL ZL := by
  subst h
  refine ⟨(((Below.refl _ _).alloc (Nat.le_refl _) _).alloc (by simp) _).alloc (by simp; omega) _, by simp, ?_, ?_, R5.heap_at _ _ _ (by simp)⟩
  · rw [heap_alloc_old _ _ (by simp; omega)]; exact R5.alloc2_first _ _ _
  · rw [heap_alloc_old _ _ (by simp)]; exact R5.heap_at _ _ _ (by simp)
theorem cs_mk {w1 U w3 : World} {r : Rm} (h : JP c tn L R I X l last) (hB : Bz X X3 PL TL ZL) (hb1 : Below X3.heap.size X3 w1) (hU : U = (w1.setCell ⟨c.xb, 2, none⟩ (.int .u64 ((last + 1 : Nat) : Int))).drew) (hw3 : w3 = (U.alloc (.cells ZL.toArray 47 (0, 0))).setRow U.heap.size (rmL r (.slice none 0 0)).toArray) (hok : r.ok) (hlog : r.log = []) :
    CS c tn L R I (up I X w3) X w3 (last + 1) U.heap.size PL TL ZL r (.slice none 0 0) := by
  have hs1 := hb1.size
  have hs3 := hB.size
  have hsU : U.heap.size = w1.heap.size := by rw [hU]; show (w1.setCell _ _).heap.size = _; simp
  have hsw : w3.heap.size = U.heap.size + 1 := by rw [hw3]; simp
  have hbX : Below X.heap.size X w1 := hB.bel.trans (hb1.mono hB.bel.size)
  have hxl := PC.row_lt h.px.row
  have hU2 : ∀ k, k ≠ c.xb → U.heap[k]? = w1.heap[k]? := fun k hk => by rw [hU]; exact heap_setCell_other _ _ _ _ hk
  have h3k : ∀ k, k < U.heap.size → w3.heap[k]? = U.heap[k]? := fun k hk => by rw [hw3, setRow_other _ _ _ _ (by omega)]; exact heap_alloc_old _ _ hk
  have hxw : w1.heap[c.xb]? = some (.cells (xL c.og c.mb last).toArray 80 (0, 0)) := (hbX.block _ hxl).trans h.px.row
  have hxI := h.px.fI c.xb (.inl rfl)
  have hsame : ∀ k, k < w1.heap.size → k ≠ c.xb → w3.heap[k]? = w1.heap[k]? := fun k hk hx => (h3k k (by omega)).trans (hU2 k hx)
  refine ⟨?_, fun k hk => .inl hk, fun k hk hI hx => (hsame k (by omega) hx).trans (hbX.block k hk), ?_, ⟨hxI.1, hxI.2, hxl⟩, ?_, ?_, ?_, ⟨.inr ⟨Nat.le_refl _, by omega⟩, .inr ⟨by omega, by omega⟩, .inr ⟨by omega, by omega⟩⟩, ⟨by omega, .inr ⟨by omega, by omega⟩⟩, ?_, hok, ?_, fun k e => by simp [Value.ownBlock] at e, h.mm.low.2⟩
  · refine h.mm.go ⟨?_, ?_, ?_, by omega, fun k hk hn => ?_⟩ (fun k hk => hk)
    · rw [hw3, hU]; exact hbX.os
    · rw [hw3, hU]; exact hbX.tape
    · rw [hw3, hU]; exact hbX.output
    · have hx : k ≠ c.xb := fun e => hn (e ▸ ⟨hxI.2, hxI.1⟩)
      exact (hsame k (by omega) hx).trans (hbX.block k hk)
  · rw [h3k _ (by omega), hU]
    show (w1.setCell _ _).heap[c.xb]? = _
    rw [heap_setCell_same _ _ 2 _ _ _ hxw]; rfl
  · exact (hsame _ (by omega) (by omega)).trans ((hb1.block _ (by omega)).trans hB.b0)
  · exact (hsame _ (by omega) (by omega)).trans ((hb1.block _ (by omega)).trans hB.b1)
  · exact (hsame _ (by omega) (by omega)).trans ((hb1.block _ (by omega)).trans hB.b2)
  · rw [hw3]; exact setRow_heap _ _ _ _ _ _ (heap_alloc_new _ _)
  · unfold HO; rw [hlog]; exact World.ownsRow_nil _ _ _ _
theorem cr_fin {w8 : World} {v' : Value} {NL : List Value} (h : JP c tn L R I X l last) (hs : CS c tn L' R I J X W last' bb PL TL ZL r lv) (hm : MR Y c.mb (l ++ [(rd, r, lv)])) (hg : W.grownBy Y (some c.mb)) (hb8 : Below Y.heap.size Y w8) (hown : w8.ownsRow Y.heap.size 69 172 v' r.log.length (lgC r.log)) :
    CrD c tn L' R I X (w8.setRow (X.heap.size + 1 + 1) NL.toArray) l rd r lv v' last' := by
  obtain ⟨hPD, hJP⟩ := pd_new h hs hm hg
  have hsW : X.heap.size + 3 ≤ W.heap.size := by have := hs.mm.ilt hs.bk.2; have := hs.bk.1; omega
  have hsY := hg.size
  have hs8 := hb8.size
  have hJ8 := hJP.grow hb8
  have hlt : ∀ x ∈ l, ∀ k, x.2.2.ownBlock = some k → k < X.heap.size := fun x hx k e => HO.lt (h.px.own x hx) k e
  have hP8 := hPD.then hlt hb8
  have ho : ∀ k, k ≠ X.heap.size + 1 + 1 → (w8.setRow (X.heap.size + 1 + 1) NL.toArray).heap[k]? = w8.heap[k]? := fun k hk => setRow_other _ _ _ _ hk
  have hFP : ∀ k, FP c.xb c.mb (l ++ [(rd, r, lv)]) k → k ≠ X.heap.size + 1 + 1 := fun k hk => by
    rcases hk with rfl | rfl | ⟨x, hx, e⟩
    · have := PC.row_lt h.px.row; omega
    · have := h.px.map.lt; omega
    · rcases List.mem_append.1 hx with hx | hx
      · have := hlt x hx k e; omega
      · obtain rfl : x = (rd, r, lv) := by simpa using hx
        have := (hs.lJ k e).2.1; omega
  have hJ9 : JP c tn L' R (up J Y w8) (w8.setRow (X.heap.size + 1 + 1) NL.toArray) (l ++ [(rd, r, lv)]) last' :=
    ⟨hJ8.mm.go (R5.Fr.setRow (R5.Fr.refl _ _) _ _ (.inl ⟨by have := hs.nX; omega, .inl hs.jb.2.2⟩)) (fun k hk => .inl hk), hJ8.px.keep (fun k hk => hk) (fun k hk _ => ho k (hFP k hk))⟩
  have hIJ : ∀ k, I k → up J Y w8 k := fun k hk => .inl (hs.IJ k hk)
  have hv : ∀ k, v'.ownBlock = some k → Y.heap.size ≤ k ∧ k < w8.heap.size := fun k e => hown.lt k e
  refine ⟨⟨by have := hP8.size; simpa using this, ⟨_, hJ9, hIJ⟩, fun k hk hI hF hE => (ho k (by omega)).trans (hP8.fr k hk hI hF hE), hP8.sub, fun x hx k e => ⟨fun j hj => (World.cell?_of_block (a := ⟨k, j, none⟩) (ho k (by have := hlt x hx k e; omega))).trans ((hP8.pre x hx k e).1 j hj), (hP8.pre x hx k e).2⟩⟩, ⟨_, hJ9, hIJ, fun k e => ⟨.inr (hv k e), by have := (hv k e).1; omega, fun hf => ?_⟩⟩, ?_⟩
  · have := hJP.px.top k hf
    have := (hv k e).1
    omega
  · exact (HO.hr hown).keep (fun k e _ => ho k (by have := (hv k e).1; omega))
theorem cr_err (h : JP c tn L R I X l last) (V : List UInt8) (nodes : Nat) (tree : List UInt8) (er : Int) (her : er ≠ 0) (hcf : ∀ {J : Nat → Prop} {W : World}, JP c tn L R J W l last → Calls Tryz.prog 46 #[.pointer (some ⟨c.xb, 0, none⟩), .int .i64 rd, .int .i64 root] W fun e Y => e = .returned (.int .i64 er) ∧ Below W.heap.size W Y) :
    Calls Tryz.prog 16 #[.pointer (some ⟨c.xb, 0, none⟩), .int .i64 rd, .int .i64 root, .agg (PC.rpL V nodes).toArray, .agg (tree.map B8).toArray] X fun e Y => e = .returned (.tuple #[.agg (rmL zR (.slice none 0 0)).toArray, .int .i64 er]) ∧ Below X.heap.size X Y := by
  have hz := fun W => zero_rm W
  have HBZ : Hid (∀ W, (Instr.build 47 #[]).run Tryz.prog W = .ok (.agg (rmL zR (.slice none 0 0)).toArray) W) := build_zrm
  obtain ⟨ZL, hZL⟩ : ∃ L, L = rmL zR (.slice none 0 0) := ⟨_, rfl⟩
  rw [← hZL] at hz HBZ
  have HZL : Hid (ZL = rmL zR (.slice none 0 0)) := hZL
  have HZN : Hid (ZL.length = 103) := by show _ = _; rw [hZL]; exact rmL_len zR_ok _
  have HZS : Hid (ZL.toArray.size = 103) := by show _ = _; simpa using HZN.out
  have HZ1 : Hid (ZL.toArray.all (·.oneCell') = true) := by show _ = _; rw [hZL]; exact PC.onea (rmL_one _ _ rfl)
  have HZI : Hid ((Tryz.prog.info? 47).map (·.size) = some ZL.toArray.size) := info103a _ HZS.out
  obtain ⟨X3, hX3⟩ : ∃ X3, X3 = ((X.alloc (.cells (PC.rpL V nodes).toArray 36 (0, 0))).alloc (.cells (tree.map B8).toArray 33 (0, 0))).alloc (.cells ZL.toArray 47 (0, 0)) := ⟨_, rfl⟩
  have hB := bz_mk X (PC.rpL V nodes) (tree.map B8) ZL X3 hX3
  have HB : Hid (Bz X X3 (PC.rpL V nodes) (tree.map B8) ZL) := hB
  have hJ3 := h.grow hB.bel
  clear hZL
  have HCF : Hid (Calls Tryz.prog 46 #[.pointer (some ⟨c.xb, 0, none⟩), .int .i64 rd, .int .i64 root] X3 fun e Y => e = .returned (.int .i64 er) ∧ Below X3.heap.size X3 Y) := hcf hJ3
  have her1 : (er != 0) = true := by simpa using her
  generalize PC.rpL V nodes = PL at *
  generalize tree.map B8 = TL at *
  rw [← HZL.out]
  rw [hX3] at HCF
  clear hcf her h hJ3 hB
  go_enter Tryz.func16, Tryz.ntmps16
  go_wp2_with fail
  refine Calls.mono HCF.out ?_
  rintro e w1 ⟨rfl, hb1⟩
  rw [← hX3] at hb1
  have HR2 : Hid (w1.heap[X.heap.size + 1 + 1]? = some (.cells ZL.toArray 47 (0, 0))) := (hb1.block _ (PC.row_lt HB.out.b2)).trans HB.out.b2
  have HB1 : Hid (Below X.heap.size X w1) := HB.out.bel.trans (hb1.mono HB.out.bel.size)
  clear hb1 HCF hX3
  go_wp2_with (first
    | (refine PC.wpList_build rfl 47 _ rfl #[] (.agg ZL.toArray) (by simp) (HBZ.out _) ?_)
    | (refine wpList_store_row rfl 47 _ _ rfl (X.heap.size + 1 + 1) ZL.toArray rfl rfl 47 ZL.toArray HR2.out HZI.out rfl HZ1.out ?_))
  have hbE : Below X.heap.size X (w1.setRow (X.heap.size + 1 + 1) ZL.toArray) := below_setRow HB1.out (by omega) _
  refine bodyPost_ret (v := .tuple #[.agg ZL.toArray, .int .i64 er]) ?_ rfl ⟨rfl, hbE⟩
  exact PC.results2 Tryz.results16 _ _ (X.heap.size + 1 + 1) 47 _ (0, 0) _ rfl rfl (setRow_heap _ _ _ _ _ _ HR2.out) Tryz.underlying47 rfl (info103 _ HZN.out)
end
section
variable {c : Cx} {tn last last' bb : Nat} {L L' R : Lg} {I J : Nat → Prop} {X X3 Y Z W W' : World} {l l' : List En} {rd root : Int} {r r' : Rm} {lv lv' : Value} {PL TL ZL : List Value}
structure S5 (og xb mb last q0 : Nat) (PL TL : List Value) (Y : World) : Prop where
  x : Y.heap[xb]? = some (.cells (xL og mb last).toArray 80 (0, 0))
  b0 : Y.heap[q0]? = some (.cells PL.toArray 36 (0, 0))
  b1 : Y.heap[q0 + 1]? = some (.cells TL.toArray 33 (0, 0))
theorem S5.keep {og xb mb last b0 : Nat} {PL TL : List Value} {Y Y' : World} (h : S5 og xb mb last b0 PL TL Y) (hk : ∀ k, k = xb ∨ k = b0 ∨ k = b0 + 1 → k < Y.heap.size → Y'.heap[k]? = Y.heap[k]?) : S5 og xb mb last b0 PL TL Y' :=
  ⟨(hk _ (.inl rfl) (PC.row_lt h.x)).trans h.x, (hk _ (.inr (.inl rfl)) (PC.row_lt h.b0)).trans h.b0, (hk _ (.inr (.inr rfl)) (PC.row_lt h.b1)).trans h.b1⟩
def S6b (b0 : Nat) (PL : List Value) (Y : World) : Prop := Y.heap[b0]? = some (.cells PL.toArray 36 (0, 0))
structure S7 (og xb mb last bb : Nat) (i : Int) (Y : World) : Prop where
  x : Y.heap[xb]? = some (.cells (xL og mb last).toArray 80 (0, 0))
  c : Y.cell? ⟨bb, 0, none⟩ = some (.int .u64 i)
def cq1 (V : List UInt8) : R5.Qn := ⟨1, Z0, 1, V⟩
def cq2 (m : List UInt8) (i : Nat) : R5.Qn := ⟨3, m, 8, W1.le 8 i⟩
def newR (c : Cx) (L : Lg) (i : Nat) (root : Int) (V : List UInt8) (nodes : Nat) (tree : List UInt8) : Rm := ⟨i, 1, root, nodes, (R5.nx c.D L (cq1 V)).1, [rec1 V], (R5.nx c.D (R5.nx c.D L (cq1 V)).2 (cq2 c.m i)).1, 0, tree, 0⟩
def newL (c : Cx) (L : Lg) (i : Nat) (V : List UInt8) : Lg := (R5.nx c.D (R5.nx c.D L (cq1 V)).2 (cq2 c.m i)).2
def CrEnd (c : Cx) (tn : Nat) (L' R : Lg) (I : Nat → Prop) (X : World) (l : List En) (rd : Int) (r : Rm) (last' : Nat) (e : Ending) (Y : World) : Prop := ∃ lv v', e = .returned (.tuple #[.agg (rmL r v').toArray, .int .i64 0]) ∧ CrD c tn L' R I X Y l rd r lv v' last'
theorem kOk_k {m : List UInt8} {i : Nat} (hm : m.length = 32) : R5.kOk ⟨3, m, 8, [W1.le 8 i].flatten⟩ := ⟨hm, rfl, rfl, by simp [W1.le_length]⟩
theorem cr_ok (h : JP c tn L R I X l last) (V : List UInt8) (hV : V.length = 32) (nodes : Nat) (tree : List UInt8) (ht : tree.length = 32) (hrd : iOk rd) (hno : NoRd l rd) (h0 : ¬ rd < 0) (h1 : ¬ root < 0) (hlast : last < 100000) (hL : L.length < 900000) :
    Calls Tryz.prog 16 #[.pointer (some ⟨c.xb, 0, none⟩), .int .i64 rd, .int .i64 root, .agg (PC.rpL V nodes).toArray, .agg (tree.map B8).toArray] X fun e Y => CrEnd c tn (newL c L (last + 1) V) R I X l rd (newR c L (last + 1) root V nodes tree) (last + 1) e Y := by
  have hz := fun W => zero_rm W
  have HBZ : Hid (∀ W, (Instr.build 47 #[]).run Tryz.prog W = .ok (.agg (rmL zR (.slice none 0 0)).toArray) W) := build_zrm
  obtain ⟨ZL, hZL⟩ : ∃ L, L = rmL zR (.slice none 0 0) := ⟨_, rfl⟩
  rw [← hZL] at hz HBZ
  have HZL : Hid (ZL = rmL zR (.slice none 0 0)) := hZL
  have HZN : Hid (ZL.length = 103) := by show _ = _; rw [hZL]; exact rmL_len zR_ok _
  have HZS : Hid (ZL.toArray.size = 103) := by show _ = _; simpa using HZN.out
  have HZ1 : Hid (ZL.toArray.all (·.oneCell') = true) := by show _ = _; rw [hZL]; exact PC.onea (rmL_one _ _ rfl)
  have HZI : Hid ((Tryz.prog.info? 47).map (·.size) = some ZL.toArray.size) := info103a _ HZS.out
  obtain ⟨X3, hX3⟩ : ∃ X3, X3 = ((X.alloc (.cells (PC.rpL V nodes).toArray 36 (0, 0))).alloc (.cells (tree.map B8).toArray 33 (0, 0))).alloc (.cells ZL.toArray 47 (0, 0)) := ⟨_, rfl⟩
  have hB := bz_mk X (PC.rpL V nodes) (tree.map B8) ZL X3 hX3
  have HBz : Hid (Bz X X3 (PC.rpL V nodes) (tree.map B8) ZL) := hB
  have hJ3 := h.grow hB.bel
  clear hZL
  have HCF : Hid (Calls Tryz.prog 46 #[.pointer (some ⟨c.xb, 0, none⟩), .int .i64 rd, .int .i64 root] X3 fun e Y => e = .returned (.int .i64 0) ∧ Below X3.heap.size X3 Y) := cf_ok hJ3 hrd zR (.slice none 0 0) 6 (.inl ⟨hno, rfl, rfl, rfl⟩) h0 h1 rfl (by omega)
  have HJ : Hid (JP c tn L R I X l last) := h
  have HNO : Hid (NoRd l rd) := hno
  have HVN : Hid (V.length = 32) := hV
  have HTN : Hid (tree.length = 32) := ht
  have HPN : Hid ((PC.rpL V nodes)[32]? = some (.int .u64 (nodes : Int))) := PC.rpL_n V nodes hV
  have HPV : Hid (((PC.rpL V nodes).drop 0).take 32 = V.map B8) := PC.rpL_v V nodes hV
  have HTI : Hid _ := R5.info32 (tree.map B8) (by simpa using ht)
  have HVI : Hid _ := R5.info32 (V.map B8) (by simpa using hV)
  have HR0 : Hid (∀ W, (Instr.build 47 #[(0, .int .u64 ((last + 1 : Nat) : Int)), (1, .int .i64 1), (2, .int .i64 root), (3, .int .u64 (nodes : Int)), (8, .agg (tree.map B8).toArray)]).run Tryz.prog W = .ok (.agg (rmL (r0 (last + 1) root nodes tree) (.slice none 0 0)).toArray) W) := fun W => build_rm0 W _ _ root (tree.map B8) (by simpa using ht)
  have HR1 : Hid (∀ W, (Instr.build 69 #[(0, .int .i64 1), (1, .agg (V.map B8).toArray)]).run Tryz.prog W = .ok (.agg (rdL (rec1 V)).toArray) W) := fun W => build_rd1 W (V.map B8) (by simpa using hV)
  have HN0 : Hid ((rmL (r0 (last + 1) root nodes tree) (.slice none 0 0)).length = 103) := rmL_len (r0_ok _ _ _ ht) _
  have HN1 : Hid ((rmL (r0 (last + 1) root nodes tree) (.slice none 0 0)).toArray.all (·.oneCell') = true) := PC.onea (rmL_one _ _ rfl)
  obtain ⟨NL, hNL⟩ : ∃ NL, NL = rmL (r0 (last + 1) root nodes tree) (.slice none 0 0) := ⟨_, rfl⟩
  rw [← hNL] at HN0 HN1 HR0
  have HNL : Hid (NL = rmL (r0 (last + 1) root nodes tree) (.slice none 0 0)) := hNL
  have HNI : Hid ((Tryz.prog.info? 47).map (·.size) = some NL.toArray.size) := info103a _ (by simpa using HN0.out)
  have HZN2 : Hid (ZL.toArray.size = NL.toArray.size) := by have := HZS.out; have := HN0.out; simp_all
  obtain ⟨PL, hPL⟩ : ∃ PL, PL = PC.rpL V nodes := ⟨_, rfl⟩
  obtain ⟨TL, hTL⟩ : ∃ TL, TL = tree.map B8 := ⟨_, rfl⟩
  obtain ⟨VL, hVL⟩ : ∃ VL, VL = V.map B8 := ⟨_, rfl⟩
  obtain ⟨AL, hAL⟩ : ∃ AL, AL = rdL (rec1 V) := ⟨_, rfl⟩
  rw [← hPL] at HPN HPV hX3 HBz ⊢
  rw [← hTL] at HTI HR0 hX3 HBz ⊢
  rw [← hVL] at HVI HPV HR1
  rw [← hAL] at HR1
  have HVL : Hid (VL = V.map B8) := hVL
  have HAL : Hid (AL = rdL (rec1 V)) := hAL
  rw [hX3] at HCF
  clear hno h hJ3 hB hV ht hPL hTL hVL hAL hNL h0 h1
  go_enter Tryz.func16, Tryz.ntmps16
  go_wp2_with fail
  refine Calls.mono HCF.out ?_
  rintro e w1 ⟨rfl, hb1⟩
  rw [← hX3] at hb1
  have hJ1 := (HJ.out.grow HBz.out.bel).step hb1
  have hcl := hJ1.px.cells.2.2
  have hfz := frozen_of_row _ _ 2 _ _ hJ1.px.row
  have hwr : IntKind.u64.wrap ((last : Int) + 1) = ((last + 1 : Nat) : Int) := by rw [IntKind.wrap_u64]; omega
  have HB1 : Hid (Below X3.heap.size X3 w1) := hb1
  have hxl := PC.row_lt HJ.out.px.row
  have hs3 := HBz.out.size
  have hs1 := hb1.size
  have HS5 : Hid (S5 c.og c.xb c.mb (last + 1) X.heap.size PL TL (w1.setCell ⟨c.xb, 2, none⟩ (.int .u64 ((last + 1 : Nat) : Int))).drew) := by
    refine ⟨?_, ?_, ?_⟩
    · show (w1.setCell _ _).heap[c.xb]? = _
      rw [heap_setCell_same _ _ 2 _ _ _ hJ1.px.row]; rfl
    · exact (heap_setCell_other _ _ _ _ (show X.heap.size ≠ c.xb by omega)).trans ((hb1.block _ (by omega)).trans HBz.out.b0)
    · exact (heap_setCell_other _ _ _ _ (show X.heap.size + 1 ≠ c.xb by omega)).trans ((hb1.block _ (by omega)).trans HBz.out.b1)
  have HCS : Hid (∀ U w3, U = (w1.setCell ⟨c.xb, 2, none⟩ (.int .u64 ((last + 1 : Nat) : Int))).drew → w3 = (U.alloc (.cells ZL.toArray 47 (0, 0))).setRow U.heap.size NL.toArray → CS c tn L R I (up I X w3) X w3 (last + 1) U.heap.size PL TL ZL (r0 (last + 1) root nodes tree) (.slice none 0 0)) := fun U w3 hU hw => cs_mk HJ.out HBz.out hb1 hU (by rw [hw, HNL.out]) (r0_ok _ _ _ HTN.out) rfl
  clear hb1 HCF hJ1 hX3
  generalize hLN : ((last + 1 : Nat) : Int) = LN at *
  have HLN : Hid (((last + 1 : Nat) : Int) = LN) := hLN
  clear hLN
  go_wp2_with fail
  refine wp_region_held_drew (S := S5 c.og c.xb c.mb (last + 1) X.heap.size PL TL) (by kernel_rfl) HS5.out (fun hHeld => ?_)
  have hCS := fun w3 => HCS.out _ w3 rfl
  generalize (w1.setCell ⟨c.xb, 2, none⟩ (.int .u64 LN)).drew = U at *
  refine qzI 0 ⟨some 29, .move (.tmp 0), 26, _, #[], none⟩ (.pointer (some ⟨c.xb, 0, none⟩)) rfl (by kernel_rfl) (fun _ _ _ h => h) (by rfl) (fun w' hw' => ?_) hHeld ?_
  · go_simp <;> rfl
  try simp only [Act.put, qT, q0, qS]
  refine qzI 1 ⟨some 30, .nilCheck (.tmp 29), 0, _, #[⟨0, .data⟩], none⟩ (.pointer (some ⟨c.xb, 0, none⟩)) rfl (by kernel_rfl) (fun _ _ _ h => h) (by rfl) (fun w' hw' => ?_) hHeld ?_
  · go_simp <;> rfl
  try simp only [Act.put, qT, q0, qS]
  refine qzI 2 ⟨some 31, .fieldAddr 80 (.tmp 30) 2, 0, _, #[⟨1, .data⟩], none⟩ (.pointer (some ⟨c.xb, 2, none⟩)) rfl (by kernel_rfl) (fun _ _ _ h => h) (by rfl) (fun w' hw' => ?_) hHeld ?_
  · go_simp <;> rfl
  try simp only [Act.put, qT, q0, qS]
  refine qzI 3 ⟨some 32, .load 34 (.tmp 31), 34, _, #[⟨2, .data⟩], none⟩ (.int .u64 LN) rfl (by kernel_rfl) (fun _ _ _ h => h) (by rfl) (fun w' hw' => ?_) hHeld ?_
  · have hcc : w'.cell? ⟨c.xb, 2, none⟩ = some (.int .u64 LN) := (by rw [cell_of_row _ _ 2 _ _ _ hw'.x, ← HLN.out]; rfl); go_simp <;> rfl
  try simp only [Act.put, qT, q0, qS]
  refine qzI 4 ⟨some 33, .move (.tmp 2), 3, _, #[], none⟩ (.int .i64 root) rfl (by kernel_rfl) (fun _ _ _ h => h) (by rfl) (fun w' hw' => ?_) hHeld ?_
  · go_simp <;> rfl
  try simp only [Act.put, qT, q0, qS]
  refine qzI 5 ⟨some 34, .fieldAddr 36 (.tmp 8) 1, 0, _, #[], none⟩ (.pointer (some ⟨X.heap.size, 32, none⟩)) rfl (by kernel_rfl) (fun _ _ _ h => h) (by rfl) (fun w' hw' => ?_) hHeld ?_
  · go_simp <;> rfl
  try simp only [Act.put, qT, q0, qS]
  refine qzI 6 ⟨some 35, .load 34 (.tmp 34), 34, _, #[⟨5, .data⟩], none⟩ (.int .u64 (nodes : Int)) rfl (by kernel_rfl) (fun _ _ _ h => h) (by rfl) (fun w' hw' => ?_) hHeld ?_
  · have hcc : w'.cell? ⟨X.heap.size, 32, none⟩ = some (.int .u64 (nodes : Int)) := (by have := PC.rangeAt_row hw'.b0 32 _ HPN.out; rwa [Nat.zero_add] at this); go_simp <;> rfl
  try simp only [Act.put, qT, q0, qS]
  refine qzK 7 ⟨some 36, .load 33 (.tmp 9), 33, _, #[], none⟩ _ rfl (by kernel_rfl) (fun _ _ _ h => h) (yieldsIf_load_mid (by rfl) 33 (.tmp 9) rfl (X.heap.size + 1) (0) rfl (TL) _ (fun _ h => PC.rangeAt_row h.b1) Tryz.underlying33 rfl HTI.out) hHeld ?_
  try simp only [Act.put, qT, q0, qS]
  refine qzI 8 ⟨some 37, .build 47 #[(0, .tmp 32), (1, .const (Go.Value.int Go.IntKind.i64 1)), (2, .tmp 33), (3, .tmp 35), (8, .tmp 36)], 47, _, #[⟨3, .data⟩, ⟨4, .data⟩, ⟨6, .data⟩, ⟨7, .data⟩], none⟩ (.agg NL.toArray) rfl (by kernel_rfl) (fun _ _ _ h => h) (by rfl) (fun w' hw' => ?_) hHeld ?_
  · exact PC.exec_build _ _ 47 _ _ _ w' rfl (by simp; exact ⟨rfl, rfl, rfl, rfl, rfl⟩) (HR0.out w')
  try simp only [Act.put, qT, q0, qS]
  have hbA : Below U.heap.size U (U.alloc (.cells ZL.toArray 47 (0, 0))) := (Below.refl _ _).alloc (Nat.le_refl _) _
  have hHeld2 := hHeld.keep (fun k _ hk => hbA.block k hk)
  refine qzR 9 ⟨some 13, .alloc 47, 0, _, #[], none⟩ (by kernel_rfl) rfl (by rfl) (fun K hK => ?_)
  go_wp2_with fail
  refine hK.out _ _ hHeld2 (fun _ => ?_)
  clear hK K
  try simp only [Act.put, qT, q0, qS]
  refine qzR 10 ⟨none, .store 47 (.tmp 13) (.tmp 37), 0, _, #[⟨9, .data⟩, ⟨8, .data⟩, ⟨0, .phase⟩, ⟨1, .phase⟩, ⟨2, .phase⟩, ⟨3, .phase⟩, ⟨4, .phase⟩, ⟨5, .phase⟩, ⟨6, .phase⟩, ⟨7, .phase⟩, ⟨8, .phase⟩, ⟨9, .phase⟩], none⟩ (by kernel_rfl) rfl (by rfl) (fun K hK => ?_)
  refine wp_store_row 47 _ _ rfl U.heap.size NL.toArray rfl rfl 47 ZL.toArray (heap_alloc_new _ _) HNI.out HZN2.out HN1.out ?_
  have hbB : Below U.heap.size U ((U.alloc (.cells ZL.toArray 47 (0, 0))).setRow U.heap.size NL.toArray) := below_setRow hbA (Nat.le_refl _) _
  have hHeld3 := hHeld.keep (fun k _ hk => hbB.block k hk)
  have HC3 : Hid (CS c tn L R I (up I X ((U.alloc (.cells ZL.toArray 47 (0, 0))).setRow U.heap.size NL.toArray)) X ((U.alloc (.cells ZL.toArray 47 (0, 0))).setRow U.heap.size NL.toArray) (last + 1) U.heap.size PL TL ZL (r0 (last + 1) root nodes tree) (.slice none 0 0)) := hCS _ rfl
  refine hK.out _ _ hHeld3 (fun _ => ?_)
  clear hK K
  try simp only [Act.put, qT, q0, qS]
  refine wpAnyH_done (by kernel_rfl) ?_ _
  clear hHeld hHeld2 hHeld3 hbA hbB hCS HCS HS5 hcl hfz hwr
  generalize (U.alloc (.cells ZL.toArray 47 (0, 0))).setRow U.heap.size NL.toArray = w3 at *
  generalize hbb : U.heap.size = bb at *
  clear hbb
  have HC4 : Hid (CS c tn L R I (up (up I X w3) w3 w3.drew) X w3.drew (last + 1) bb PL TL ZL (r0 (last + 1) root nodes tree) (.slice none 0 0)) := HC3.out.step (Below.refl _ _).drew
  have HS6 : Hid (S6b X.heap.size PL w3.drew) := HC4.out.b0
  clear HC3
  generalize hJ4 : up (up I X w3) w3 w3.drew = J4 at *
  clear hJ4
  go_wp2_with fail
  refine wp_region_held_drew (S := S6b X.heap.size PL) (by kernel_rfl) HS6.out (fun hHeld => ?_)
  generalize w3.drew = U6 at *
  have hsl := fun W => PC.slice_dg W X.heap.size 0
  refine qzI 0 ⟨some 38, .move (.tmp 0), 26, _, #[], none⟩ (.pointer (some ⟨c.xb, 0, none⟩)) rfl (by kernel_rfl) (fun _ _ _ h => h) (by rfl) (fun w' hw' => ?_) hHeld ?_
  · go_simp <;> rfl
  try simp only [Act.put, qT, q0, qS]
  refine qzI 1 ⟨some 39, .fieldAddr 36 (.tmp 8) 0, 0, _, #[], none⟩ (.pointer (some ⟨X.heap.size, 0, none⟩)) rfl (by kernel_rfl) (fun _ _ _ h => h) (by rfl) (fun w' hw' => ?_) hHeld ?_
  · go_simp <;> rfl
  try simp only [Act.put, qT, q0, qS]
  refine qzK 2 ⟨some 40, .load 33 (.tmp 39), 33, _, #[⟨1, .data⟩], none⟩ _ rfl (by kernel_rfl) (fun _ _ _ h => h) (yieldsIf_load_mid (by rfl) 33 (.tmp 39) rfl (X.heap.size) (0) rfl (VL) _ (fun _ h => (by have := PC.rangeAt_part (PC.rangeAt_row h) 0 32; rwa [HPV.out] at this)) Tryz.underlying33 rfl HVI.out) hHeld ?_
  try simp only [Act.put, qT, q0, qS]
  refine qzI 3 ⟨some 41, .build 69 #[(0, .const (Go.Value.int Go.IntKind.i64 1)), (1, .tmp 40)], 69, _, #[⟨2, .data⟩], none⟩ (.agg AL.toArray) rfl (by kernel_rfl) (fun _ _ _ h => h) (by rfl) (fun w' hw' => ?_) hHeld ?_
  · exact PC.exec_build _ _ 69 _ _ _ w' rfl (by simp; exact ⟨rfl, rfl⟩) (HR1.out w')
  try simp only [Act.put, qT, q0, qS]
  refine qzI 4 ⟨some 42, .fieldAddr 36 (.tmp 8) 0, 0, _, #[], none⟩ (.pointer (some ⟨X.heap.size, 0, none⟩)) rfl (by kernel_rfl) (fun _ _ _ h => h) (by rfl) (fun w' hw' => ?_) hHeld ?_
  · go_simp <;> rfl
  try simp only [Act.put, qT, q0, qS]
  refine qzI 5 ⟨some 43, .slice 33 (.tmp 42) none none none, 106, _, #[⟨4, .data⟩], none⟩ (.slice (some ⟨X.heap.size, 0, none⟩) 32 32) rfl (by kernel_rfl) (fun _ _ _ h => h) (by rfl) (fun w' hw' => ?_) hHeld ?_
  · go_simp <;> rfl
  try simp only [Act.put, qT, q0, qS]
  have hbA : Below U6.heap.size U6 (U6.alloc (.cells #[.slice (some ⟨X.heap.size, 0, none⟩) 32 32] 106 (0, 0))) := (Below.refl _ _).alloc (Nat.le_refl _) _
  have hHeld2 : S6b X.heap.size PL (U6.alloc (.cells #[.slice (some ⟨X.heap.size, 0, none⟩) 32 32] 106 (0, 0))) := (hbA.block _ (PC.row_lt hHeld)).trans hHeld
  refine qzR 6 ⟨some 44, .buildSlice 144 1 #[(0, .tmp 43)], 144, _, #[⟨5, .data⟩], none⟩ (by kernel_rfl) rfl (by rfl) (fun K hK => ?_)
  refine wp_bslice 144 1 _ rfl _ _ (by simp; rfl) (bs1 U6 _ _ _ _ rfl) ?_
  refine hK.out _ _ hHeld2 (fun _ => ?_)
  clear hK K
  try simp only [Act.put, qT, q0, qS]
  refine qzR 7 ⟨some 45, .call ⟨.value (.func 47), #[.tmp 38, .tmp 13, .tmp 41, .const (Go.Value.int Go.IntKind.i64 1), .tmp 44], #[26, 104, 69, 105, 144]⟩, 0, _, #[⟨0, .data⟩, ⟨3, .data⟩, ⟨6, .data⟩], none⟩ (by kernel_rfl) rfl (by rfl) (fun K hK => ?_)
  have hC5 := HC4.out.step hbA
  have hhv : HB U6 (.slice (some ⟨X.heap.size, 0, none⟩) 32 32) V := PC.hb_range 32 HVN.out.symm (by rw [HVN.out]; decide) (by unfold maxLen; decide) (by have := PC.rangeAt_part (PC.rangeAt_row hHeld) 0 32; rw [HPV.out, HVL.out] at this; simpa using this)
  have hHP := hp1 U6 _ _ hhv
  have hfl : [V].flatten.length = 32 := by simp [HVN.out]
  have hcall := msr_any hC5.ms (rec1 V) (rec1_ok HVN.out) 1 _ _ hHP (by simp) (by rw [hfl]; decide) (kOk_d (by decide) (by rw [hfl]; decide)) (askB_d (by decide) (by decide)) (by omega) (by show (0 : Nat) < 100000; decide)
  go_wp2_with fail
  rw [HAL.out]
  refine Calls.mono hcall ?_
  rintro e w4 ⟨lv1, rfl, hcd⟩
  have hq2 : (⟨1, List.replicate 32 0, 1, [V].flatten⟩ : R5.Qn) = cq1 V := by unfold cq1 Z0; simp
  rw [hq2] at hcd
  have hHeld3 : S6b X.heap.size PL w4 := by
    have hx := hC5.jb.1
    have hbk := hC5.bk.1
    exact (hcd.fr _ (hC5.mm.ilt hx) hx (by omega) (fun h => h) (by simp [Value.ownBlock])).trans hHeld2
  obtain ⟨J5, hC6, _⟩ := hC5.cd hcd
  have HC6 : Hid (CS c tn (R5.nx c.D L (cq1 V)).2 R I J5 X w4 (last + 1) bb PL TL ZL { r0 (last + 1) root nodes tree with meas := (R5.nx c.D L (cq1 V)).1, log := (r0 (last + 1) root nodes tree).log ++ [rec1 V] } lv1) := hC6
  have hL1 : (R5.nx c.D L (cq1 V)).2.length < 1000000 := by have := R5.nx_len c.D L (cq1 V); omega
  clear hcd hcall hHP hhv hC5 hfl hq2 hC6
  refine hK.out _ _ hHeld3 (fun _ => ?_)
  clear hK K
  try simp only [Act.put, qT, q0, qS]
  refine wpAnyH_done (by kernel_rfl) ?_ _
  clear hHeld hHeld2 hHeld3 hbA HS6 HC4
  obtain ⟨r1, hr1⟩ : ∃ r1, r1 = ({ r0 (last + 1) root nodes tree with meas := (R5.nx c.D L (cq1 V)).1, log := (r0 (last + 1) root nodes tree).log ++ [rec1 V] } : Rm) := ⟨_, rfl⟩
  rw [← hr1] at HC6
  have HR1E : Hid (r1 = ({ r0 (last + 1) root nodes tree with meas := (R5.nx c.D L (cq1 V)).1, log := (r0 (last + 1) root nodes tree).log ++ [rec1 V] } : Rm)) := hr1
  have hin : r1.inst = last + 1 := by rw [hr1]; rfl
  have HC7 : Hid (CS c tn (R5.nx c.D L (cq1 V)).2 R I (up J5 w4 w4.drew) X w4.drew (last + 1) bb PL TL ZL r1 lv1) := HC6.out.step (Below.refl _ _).drew
  have HS7 : Hid (S7 c.og c.xb c.mb (last + 1) bb LN w4.drew) := ⟨HC7.out.x, by have := PC.rangeAt_row HC7.out.row 0 _ (rmL_0 r1 lv1); rw [Nat.zero_add] at this; rw [this, ← HLN.out, ← hin]; rfl⟩
  clear HC6 hr1 hin
  generalize hJ7 : up J5 w4 w4.drew = J7 at *
  clear hJ7
  generalize hLL : (R5.nx c.D L (cq1 V)).2 = L1 at *
  have HLL : Hid ((R5.nx c.D L (cq1 V)).2 = L1) := hLL
  clear hLL
  go_wp2_with fail
  refine wp_region_held_drew (S := S7 c.og c.xb c.mb (last + 1) bb LN) (by kernel_rfl) HS7.out (fun hHeld => ?_)
  generalize w4.drew = U7 at *
  refine qzI 0 ⟨some 47, .move (.tmp 0), 26, _, #[], none⟩ (.pointer (some ⟨c.xb, 0, none⟩)) rfl (by kernel_rfl) (fun _ _ _ h => h) (by rfl) (fun w' hw' => ?_) hHeld ?_
  · go_simp <;> rfl
  try simp only [Act.put, qT, q0, qS]
  refine qzI 1 ⟨some 48, .nilCheck (.tmp 47), 0, _, #[⟨0, .data⟩], none⟩ (.pointer (some ⟨c.xb, 0, none⟩)) rfl (by kernel_rfl) (fun _ _ _ h => h) (by rfl) (fun w' hw' => ?_) hHeld ?_
  · go_simp <;> rfl
  try simp only [Act.put, qT, q0, qS]
  refine qzI 2 ⟨some 49, .fieldAddr 80 (.tmp 48) 0, 0, _, #[⟨1, .data⟩], none⟩ (.pointer (some ⟨c.xb, 0, none⟩)) rfl (by kernel_rfl) (fun _ _ _ h => h) (by rfl) (fun w' hw' => ?_) hHeld ?_
  · go_simp <;> rfl
  try simp only [Act.put, qT, q0, qS]
  refine qzI 3 ⟨some 50, .load 25 (.tmp 49), 25, _, #[⟨2, .data⟩], none⟩ (.pointer (some ⟨c.og, 0, none⟩)) rfl (by kernel_rfl) (fun _ _ _ h => h) (by rfl) (fun w' hw' => ?_) hHeld ?_
  · have hcc : w'.cell? ⟨c.xb, 0, none⟩ = some (.pointer (some ⟨c.og, 0, none⟩)) := (by rw [cell_of_row _ _ 0 _ _ _ hw'.x]; rfl); go_simp <;> rfl
  try simp only [Act.put, qT, q0, qS]
  refine qzI 4 ⟨some 51, .fieldAddr 47 (.tmp 13) 0, 0, _, #[], none⟩ (.pointer (some ⟨bb, 0, none⟩)) rfl (by kernel_rfl) (fun _ _ _ h => h) (by rfl) (fun w' hw' => ?_) hHeld ?_
  · go_simp <;> rfl
  try simp only [Act.put, qT, q0, qS]
  refine qzI 5 ⟨some 52, .load 34 (.tmp 51), 34, _, #[⟨4, .data⟩], none⟩ (.int .u64 LN) rfl (by kernel_rfl) (fun _ _ _ h => h) (by rfl) (fun w' hw' => ?_) hHeld ?_
  · have hcc := hw'.c; go_simp <;> rfl
  try simp only [Act.put, qT, q0, qS]
  refine qzR 6 ⟨some 53, .call ⟨.value (.func 49), #[.tmp 52], #[34]⟩, 106, _, #[⟨5, .data⟩], none⟩ (by kernel_rfl) rfl (by rfl) (fun K hK => ?_)
  go_wp2_with fail
  have hnum := number_any (last + 1) U7 (by omega)
  rw [HLN.out] at hnum
  refine Calls.mono hnum ?_
  rintro e U8 ⟨rfl, hfb, hb8⟩
  have hC8 := HC7.out.step hb8
  have hHeld2 : S7 c.og c.xb c.mb (last + 1) bb LN U8 := ⟨hC8.x, (hb8.cell (block_lt hHeld.c)).trans hHeld.c⟩
  refine hK.out _ _ hHeld2 (fun _ => ?_)
  clear hK K
  try simp only [Act.put, qT, q0, qS]
  have hbA : Below U8.heap.size U8 (U8.alloc (.cells #[.slice (some ⟨U7.heap.size, 0, none⟩) 8 8] 106 (0, 0))) := (Below.refl _ _).alloc (Nat.le_refl _) _
  have hC9 := hC8.step hbA
  have hHeld3 : S7 c.og c.xb c.mb (last + 1) bb LN (U8.alloc (.cells #[.slice (some ⟨U7.heap.size, 0, none⟩) 8 8] 106 (0, 0))) := ⟨hC9.x, (hbA.cell (block_lt hHeld2.c)).trans hHeld2.c⟩
  refine qzR 7 ⟨some 54, .buildSlice 144 1 #[(0, .tmp 53)], 144, _, #[⟨6, .data⟩], none⟩ (by kernel_rfl) rfl (by rfl) (fun K hK => ?_)
  refine wp_bslice 144 1 _ rfl _ _ (by simp; rfl) (bs1 U8 _ _ _ _ rfl) ?_
  refine hK.out _ _ hHeld3 (fun _ => ?_)
  clear hK K
  try simp only [Act.put, qT, q0, qS]
  refine qzR 8 ⟨some 55, .call ⟨.value (.func 48), #[.tmp 50, .const (Go.Value.int Go.IntKind.i64 8), .tmp 54], #[25, 105, 144]⟩, 107, _, #[⟨3, .data⟩, ⟨7, .data⟩, ⟨6, .chain⟩], none⟩ (by kernel_rfl) rfl (by rfl) (fun K hK => ?_)
  have hHP := hp1 U8 _ _ hfb.hb
  have hml : c.m.length = 32 := hC9.mm.ml
  have hcall := hC9.mm.key hL1 _ 8 _ (kOk_k (i := last + 1) hml) hHP (by simp) (by simp [W1.le_length]) (by unfold R5.askB R5.mayQ; simp)
  have hKl := hC9.mm.alen ⟨3, c.m, 8, [W1.le 8 (last + 1)].flatten⟩
  go_wp2_with fail
  refine Calls.mono hcall ?_
  rintro e w5 ⟨rfl, hm5⟩
  have hq3 : (⟨3, c.m, 8, [W1.le 8 (last + 1)].flatten⟩ : R5.Qn) = cq2 c.m (last + 1) := by unfold cq2; simp
  rw [hq3] at hm5 hKl ⊢
  obtain ⟨KD, hK0⟩ : ∃ KD, KD = (R5.nx c.D L1 (cq2 c.m (last + 1))).1 := ⟨_, rfl⟩
  rw [← hK0] at hKl
  have HKE : Hid (KD = (R5.nx c.D L1 (cq2 c.m (last + 1))).1) := hK0
  have HOKV : Hid (R5.okV (R5.nx c.D L1 (cq2 c.m (last + 1))).1 = .tuple #[.agg (KD.map B8).toArray, .int .i64 0]) := by show _ = _; rw [hK0]; rfl
  rw [HOKV.out]
  have hCa := hC9.ask hm5
  have hHeld4 : S7 c.og c.xb c.mb (last + 1) bb LN w5 := ⟨hCa.x, (World.cell?_of_block (a := ⟨bb, 0, none⟩) (hm5.same bb hC9.bk.2)).trans hHeld3.c⟩
  have HCA : Hid (CS c tn (R5.nx c.D L1 (cq2 c.m (last + 1))).2 R I _ X w5 (last + 1) bb PL TL ZL r1 lv1) := hCa
  have HKL : Hid (KD.length = 32) := hKl
  clear hCa hm5 hC9 hC8 hcall hHP hnum hfb hb8 hbA hHeld2 hHeld3 hKl hq3 hK0
  refine hK.out _ _ hHeld4 (fun _ => ?_)
  clear hK K
  try simp only [Act.put, qT, q0, qS]
  have hHeld := hHeld4
  refine qzI 9 ⟨some 46, .move (.tmp 55), 107, _, #[⟨8, .data⟩], none⟩ (.tuple #[.agg (KD.map B8).toArray, .int .i64 0]) rfl (by kernel_rfl) (fun _ _ _ h => h) (by rfl) (fun w' hw' => ?_) hHeld ?_
  · go_simp <;> rfl
  try simp only [Act.put, qT, q0, qS]
  refine qzI 10 ⟨some 56, .extract (.tmp 46) 0, 33, _, #[⟨9, .data⟩], none⟩ (.agg (KD.map B8).toArray) rfl (by kernel_rfl) (fun _ _ _ h => h) (by rfl) (fun w' hw' => ?_) hHeld ?_
  · go_simp <;> rfl
  try simp only [Act.put, qT, q0, qS]
  refine qzI 11 { dst := some 57, op := .extract (.tmp 46) 1, type := 48, pos := _, after := #[⟨9, .data⟩, { on := 13, ground := .gcOnly Go.Departure.lateStores }], guard := none } (.int .i64 0) rfl (by kernel_rfl) (fun _ _ _ h => h) (by rfl) (fun w' hw' => ?_) hHeld ?_
  · go_simp <;> rfl
  try simp only [Act.put, qT, q0, qS]
  refine qzI 12 { dst := some 58, op := .fieldAddr 47 (.tmp 13) 6, type := 0, pos := _, after := #[⟨0, .phase⟩, ⟨1, .phase⟩, ⟨2, .phase⟩, ⟨3, .phase⟩, ⟨4, .phase⟩, ⟨5, .phase⟩, ⟨6, .phase⟩, ⟨7, .phase⟩, ⟨8, .phase⟩, ⟨9, .phase⟩, ⟨10, .phase⟩, { on := 11, ground := .textOnly Go.Departure.lateStores }], guard := none } (.pointer (some ⟨bb, 37, none⟩)) rfl (by kernel_rfl) (fun _ _ _ h => h) (by rfl) (fun w' hw' => ?_) hHeld ?_
  · go_simp <;> rfl
  try simp only [Act.put, qT, q0, qS]
  refine qzR 13 { dst := none, op := .store 33 (.tmp 58) (.tmp 56), type := 0, pos := _, after := #[⟨12, .data⟩, ⟨10, .data⟩, ⟨8, .chain⟩, ⟨0, .phase⟩, ⟨1, .phase⟩, ⟨2, .phase⟩, ⟨3, .phase⟩, ⟨4, .phase⟩, ⟨5, .phase⟩, ⟨6, .phase⟩, ⟨7, .phase⟩, ⟨8, .phase⟩, ⟨9, .phase⟩, ⟨10, .phase⟩, { on := 11, ground := .textOnly Go.Departure.lateStores }], guard := none } (by kernel_rfl) rfl (by rfl) (fun K hK => ?_)
  have hCb := HCA.out.set (r' := { r1 with key := KD }) ⟨HCA.out.ok.m, HKL.out, HCA.out.ok.t, HCA.out.ok.l⟩ rfl
  have hspl : (splice (rmL r1 lv1) 37 (KD.map B8).toArray.toList).toArray = (rmL { r1 with key := KD } lv1).toArray := by simp [rmL_splK HCA.out.ok lv1 KD HKL.out]
  refine wp_store_seg 33 _ _ rfl bb 37 (KD.map B8).toArray (rmL r1 lv1) 47 rfl rfl HCA.out.row (R5.info32a _ (by simpa using HKL.out)) (by rw [rmL_len HCA.out.ok]; simp [HKL.out]) (R5.B8_onea KD) ?_
  rw [hspl]
  have hHeld5 : S7 c.og c.xb c.mb (last + 1) bb LN (w5.setRow bb (rmL { r1 with key := KD } lv1).toArray) := ⟨hCb.x, by have h1 := PC.rangeAt_row hCb.row 0 _ (rmL_0 _ lv1); have h2 := PC.rangeAt_row HCA.out.row 0 _ (rmL_0 r1 lv1); rw [Nat.zero_add] at h1 h2; rw [h1]; rw [hHeld4.c] at h2; rw [h2]⟩
  have HCB : Hid (CS c tn (R5.nx c.D L1 (cq2 c.m (last + 1))).2 R I _ X (w5.setRow bb (rmL { r1 with key := KD } lv1).toArray) (last + 1) bb PL TL ZL { r1 with key := KD } lv1) := hCb
  clear hCb hspl
  refine hK.out _ _ hHeld5 (fun _ => ?_)
  clear hK K
  try simp only [Act.put, qT, q0, qS]
  refine wpAnyH_done (by kernel_rfl) ?_ _
  clear hHeld hHeld4 hHeld5 HCA HS7 HC7 hL1
  generalize w5.setRow bb (rmL { r1 with key := KD } lv1).toArray = w6 at *
  have hr2 : ({ r1 with key := KD } : Rm) = newR c L (last + 1) root V nodes tree := by rw [HR1E.out, HKE.out, ← HLL.out]; rfl
  have hL2 : (R5.nx c.D L1 (cq2 c.m (last + 1))).2 = newL c L (last + 1) V := by rw [← HLL.out]; rfl
  rw [hr2, hL2] at HCB
  obtain ⟨rN, hrN⟩ : ∃ rN, rN = newR c L (last + 1) root V nodes tree := ⟨_, rfl⟩
  obtain ⟨LX, hLX⟩ : ∃ LX, LX = newL c L (last + 1) V := ⟨_, rfl⟩
  have HLEN : Hid (rN.log.length < 1000000) := by show rN.log.length < 1000000; rw [hrN]; show (1 : Nat) < 1000000; decide
  rw [← hrN, ← hLX] at HCB
  have HRN : Hid (rN = newR c L (last + 1) root V nodes tree) := hrN
  have HLX : Hid (LX = newL c L (last + 1) V) := hLX
  have HCC := HCB.out.step (Below.refl _ _).drew
  have HMR : Hid (MR w6.drew c.mb l) := HJ.out.px.map.keep (HCC.fr c.mb HJ.out.px.map.lt (HJ.out.px.fI _ (.inr (.inl rfl))).1 HJ.out.px.ne)
  have HSC : Hid (SC c.og c.xb c.mb (last + 1) bb (rmL rN lv1) w6.drew) := ⟨HCC.x, HCC.row⟩
  have HPUT : Hid (∃ o, (Instr.mapUpdate 78 (.map (some c.mb)) (.int .i64 rd) (.agg (rmL rN lv1).toArray)).run Tryz.prog w6.drew = .ok () (setBlock w6.drew c.mb o) ∧ MR (setBlock w6.drew c.mb o) c.mb (l ++ [(rd, rN, lv1)]) ∧ w6.drew.grownBy (setBlock w6.drew c.mb o) (some c.mb)) := mr_new HMR.out hrd HNO.out rN lv1
  have HCD : Hid (CS c tn LX R I _ X w6.drew (last + 1) bb PL TL ZL rN lv1) := HCC
  have HMN : Hid ((rmL rN lv1).length = 103) := rmL_len HCC.ok _
  have HMI : Hid _ := info103 (rmL rN lv1) HMN.out
  obtain ⟨ML, hML⟩ : ∃ ML, ML = rmL rN lv1 := ⟨_, rfl⟩
  rw [← hML] at HSC HPUT HMN HMI
  have HML : Hid (ML = rmL rN lv1) := hML
  clear HCC HCB hML hr2 hL2 hrN hLX HMR
  go_wp2_with fail
  refine wp_region_held_drew (S := SC c.og c.xb c.mb (last + 1) bb ML) (by kernel_rfl) HSC.out (fun hHeld => ?_)
  generalize w6.drew = U9 at *
  refine qzI 0 ⟨some 59, .move (.tmp 0), 26, _, #[], none⟩ (.pointer (some ⟨c.xb, 0, none⟩)) rfl (by kernel_rfl) (fun _ _ _ h => h) (by rfl) (fun w' hw' => ?_) hHeld ?_
  · go_simp <;> rfl
  try simp only [Act.put, qT, q0, qS]
  refine qzI 1 ⟨some 60, .nilCheck (.tmp 59), 0, _, #[⟨0, .data⟩], none⟩ (.pointer (some ⟨c.xb, 0, none⟩)) rfl (by kernel_rfl) (fun _ _ _ h => h) (by rfl) (fun w' hw' => ?_) hHeld ?_
  · go_simp <;> rfl
  try simp only [Act.put, qT, q0, qS]
  refine qzI 2 ⟨some 61, .fieldAddr 80 (.tmp 60) 1, 0, _, #[⟨1, .data⟩], none⟩ (.pointer (some ⟨c.xb, 1, none⟩)) rfl (by kernel_rfl) (fun _ _ _ h => h) (by rfl) (fun w' hw' => ?_) hHeld ?_
  · go_simp <;> rfl
  try simp only [Act.put, qT, q0, qS]
  refine qzI 3 ⟨some 62, .load 78 (.tmp 61), 78, _, #[⟨2, .data⟩], none⟩ (.map (some c.mb)) rfl (by kernel_rfl) (fun _ _ _ h => h) (by rfl) (fun w' hw' => ?_) hHeld ?_
  · have hcc := hw'.cell; go_simp <;> rfl
  try simp only [Act.put, qT, q0, qS]
  refine qzI 4 ⟨some 63, .move (.tmp 1), 3, _, #[], none⟩ (.int .i64 rd) rfl (by kernel_rfl) (fun _ _ _ h => h) (by rfl) (fun w' hw' => ?_) hHeld ?_
  · go_simp <;> rfl
  try simp only [Act.put, qT, q0, qS]
  refine qzK 5 ⟨some 64, .load 47 (.tmp 13), 47, _, #[], none⟩ _ rfl (by kernel_rfl) (fun _ _ _ h => h) (yieldsIf_load_mid (by rfl) 47 (.tmp 13) rfl (bb) (0) rfl (ML) _ (fun _ h => PC.rangeAt_row h.r) Tryz.underlying47 rfl HMI.out) hHeld ?_
  try simp only [Act.put, qT, q0, qS]
  refine qzR 6 ⟨none, .mapUpdate 78 (.tmp 62) (.tmp 63) (.tmp 64), 0, _, #[⟨3, .data⟩, ⟨4, .data⟩, ⟨5, .data⟩, ⟨0, .phase⟩, ⟨1, .phase⟩, ⟨2, .phase⟩, ⟨3, .phase⟩, ⟨4, .phase⟩, ⟨5, .phase⟩], none⟩ (by kernel_rfl) rfl (by rfl) (fun K hK => ?_)
  obtain ⟨o, hrun, hmr, hgr⟩ := HPUT.out
  refine R5.wp_mapUpd _ _ _ 78 rfl _ _ _ rfl rfl rfl hrun ?_
  have hbkX := HCD.out.bk.1
  have hmbX := HJ.out.px.map.lt
  have hS2 : SC c.og c.xb c.mb (last + 1) bb ML (setBlock U9 c.mb o) := ⟨(hgr.block c.xb (PC.row_lt hHeld.x) (fun e => by have e' : c.xb = c.mb := (by simpa using e); exact HJ.out.px.ne e'.symm)).trans hHeld.x, (hgr.block _ (PC.row_lt hHeld.r) (fun e => by have e' : bb = c.mb := (by simpa using e); omega)).trans hHeld.r⟩
  have hr2 : (setBlock U9 c.mb o).heap[X.heap.size + 1 + 1]? = some (.cells ZL.toArray 47 (0, 0)) := (hgr.block _ (PC.row_lt HCD.out.b2) (fun e => by have e' : X.heap.size + 1 + 1 = c.mb := (by simpa using e); omega)).trans HCD.out.b2
  have HR2 : Hid _ := hr2
  have hlvY : HR (setBlock U9 c.mb o) lv1 rN.log := (HO.hr HCD.out.own).keep (fun k e hk => hgr.block k hk (fun e2 => by have := (HCD.out.lJ k e).2.1; have e' : k = c.mb := (by simpa using e2); omega))
  have hlen : rN.log.length < 1000000 := HLEN.out
  have HTO : Hid (Calls Tryz.prog 44 #[.agg ML.toArray] (setBlock U9 c.mb o) fun e w' => TEnd (setBlock U9 c.mb o) rN e w') := by rw [HML.out]; exact told_any rN lv1 _ HCD.out.ok hlvY hlen
  have HFIN : Hid (∀ w8 v' NL', Below (setBlock U9 c.mb o).heap.size (setBlock U9 c.mb o) w8 → w8.ownsRow (setBlock U9 c.mb o).heap.size 69 172 v' rN.log.length (lgC rN.log) → CrD c tn LX R I X (w8.setRow (X.heap.size + 1 + 1) (List.toArray NL')) l rd rN lv1 v' (last + 1)) := fun w8 v' NL' hb ho => cr_fin HJ.out HCD.out hmr hgr hb ho
  have HOK : Hid rN.ok := HCD.out.ok
  have HRR : Hid ((setBlock U9 c.mb o).rangeAt bb 0 ML) := PC.rangeAt_row hS2.r
  clear hmr hgr hrun hlvY hr2 hlen HCD
  refine hK.out _ _ hS2 (fun _ => ?_)
  clear hK K
  try simp only [Act.put, qT, q0, qS]
  refine wpAnyH_done (by kernel_rfl) ?_ _
  clear hHeld hS2 HPUT HSC
  generalize setBlock U9 c.mb o = Y7 at *
  go_wp2_with (refine wpList_load_mid rfl 47 _ rfl bb 0 rfl ML _ HRR.out Tryz.underlying47 rfl HMI.out ?_)
  refine Calls.mono HTO.out ?_
  rintro e w8 ⟨v', rfl, hown, hb8⟩
  have HR8 : Hid (w8.heap[X.heap.size + 1 + 1]? = some (.cells ZL.toArray 47 (0, 0))) := (hb8.block _ (PC.row_lt HR2.out)).trans HR2.out
  have HQN : Hid ((rmL rN v').length = 103) := rmL_len HOK.out _
  have HQ1 : Hid ((rmL rN v').toArray.all (·.oneCell') = true) := rmL_onea rN (HO.hr hown)
  have HCRD : Hid (CrD c tn LX R I X (w8.setRow (X.heap.size + 1 + 1) (rmL rN v').toArray) l rd rN lv1 v' (last + 1)) := HFIN.out w8 v' (rmL rN v') hb8 hown
  obtain ⟨QL, hQL⟩ : ∃ QL, QL = rmL rN v' := ⟨_, rfl⟩
  rw [← hQL] at HQN HQ1 HCRD ⊢
  have HQL : Hid (QL = rmL rN v') := hQL
  have HQI : Hid ((Tryz.prog.info? 47).map (·.size) = some QL.toArray.size) := info103a _ (by simpa using HQN.out)
  have HZQ : Hid (ZL.toArray.size = QL.toArray.size) := by have := HZS.out; have := HQN.out; simp_all
  clear hown hb8 HFIN HTO hQL
  go_wp2_with (refine wpList_store_row rfl 47 _ _ rfl (X.heap.size + 1 + 1) QL.toArray rfl rfl 47 ZL.toArray HR8.out HQI.out HZQ.out HQ1.out ?_)
  have HEND : CrEnd c tn (newL c L (last + 1) V) R I X l rd (newR c L (last + 1) root V nodes tree) (last + 1) (.returned (.tuple #[.agg QL.toArray, .int .i64 0])) (w8.setRow (X.heap.size + 1 + 1) QL.toArray) := by rw [← HRN.out, ← HLX.out]; exact ⟨lv1, v', by rw [HQL.out], HCRD.out⟩
  refine bodyPost_ret (v := .tuple #[.agg QL.toArray, .int .i64 0]) ?_ rfl HEND
  exact PC.results2 Tryz.results16 _ _ (X.heap.size + 1 + 1) 47 _ (0, 0) _ rfl rfl (setRow_heap _ _ _ _ _ _ HR8.out) Tryz.underlying47 rfl (info103 _ HQN.out)
end
end Go.Proofs.YtekbppfocnbhbaaGreat.XC
