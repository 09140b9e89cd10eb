/- Several texts in one. -/
import Derived.Test.YtnijjoankahddaaDN
import Derived.Test.YtnijjoankahddaaMK
import Derived.Test.YtnijjoankahddaaDQ
import Derived.Stop.BytesEq
set_option linter.unusedVariables false
set_option linter.unusedSimpArgs false
/- tree: a case, as cells; what both sides begin with. -/
namespace Go.Proofs.Ytnijjoankahddaa.DC
open Go.RowKit

/-- A case. -/
structure Ca where
  i : Bool
  m : List UInt8
  D : List (List UInt8)
  n : Int
  F : List (List UInt8)
  a : Nat
def caL (c : Ca) (dv fv : Value) : List Value := .bool c.i :: (c.m.map B8 ++ [dv, .int .i64 c.n, fv, .int .u64 (c.a : Int)])
/-- Granules that can be read. -/
def HGs (w : World) (v : Value) (F : List (List UInt8)) : Prop := (∀ g ∈ F, g.length = 128) ∧ ∃ p cap, v = .slice p F.length cap ∧ ∀ k gl, F[k]? = some gl → ∃ b o, p = some ⟨b, o, none⟩ ∧ w.rangeAt b (o + k * 128) (gl.map B8)
theorem HGs.below {w w' : World} {v : Value} {F : List (List UInt8)} (h : HGs w v F) (hb : Below w.heap.size w w') : HGs w' v F := by
  obtain ⟨h1, p, cap, h2, h3⟩ := h
  refine ⟨h1, p, cap, h2, fun k gl hk => ?_⟩
  obtain ⟨b, o, h4, h5⟩ := h3 k gl hk
  exact ⟨b, o, h4, MC.rangeAt_below h5 hb⟩
structure Ca.ok (c : Ca) (dv fv : Value) (w : World) : Prop where
  m : c.m.length = 32
  d : R5.HDs w dv c.D
  f : HGs w fv c.F
  dn : ∀ p n cap, dv = .slice p n cap → p = none → cap = 0
  a : c.a < 18446744073709551616
theorem po_lower {B B' og mb : Nat} {S : Nat → Prop} {w : World} {o : R5.Pra} {dv ov : Value} (h : R5.PO B og mb S w o dv ov) (hB : B' ≤ B) : R5.PO B' og mb S w o dv ov :=
  ⟨h.ml, h.row, h.draws, h.dro, h.ok, R5.own_lower h.order hB, h.map, h.sog, h.smb, h.sov, fun k hk => Nat.le_trans hB (h.low k hk), h.top⟩
theorem RS.add {w X : World} {rows : Rws} {b : Nat} {t : TypeId} {M : List Value} (h : RS w rows X) (hb : w.heap.size ≤ b) (hr : X.heap[b]? = some (.cells M.toArray t (0, 0))) (hn : ∀ r ∈ rows, r.1 ≠ b) : RS w ((b, t, M) :: rows) X := by
  refine ⟨h.bel, fun r hr => ?_, ?_, fun r hr' => ?_⟩
  · rcases List.mem_cons.1 hr with rfl | hr
    · exact hb
    · exact h.low r hr
  · rw [List.map_cons, List.nodup_cons]
    refine ⟨fun hm => ?_, h.nd⟩
    obtain ⟨r, hr, e⟩ := List.mem_map.1 hm
    exact hn r hr e
  · rcases List.mem_cons.1 hr' with rfl | hr'
    · exact hr
    · exact h.row r hr'
/-- Both oracles at the start. -/
theorem TB.start {w V Y : World} {og mb rg : Nat} {i : Bool} {m : List UInt8} {D : List (List UInt8)} {rows : Rws} {dv v0 : Value} {x0 : Nat} (hpo : R5.PO x0 og mb (fun k => k = og ∨ k = mb) V ⟨i, m, D, []⟩ dv (.slice none 0 0)) (hdv : ∀ k, dv.ownBlock = some k → x0 ≤ k) (hx0 : w.heap.size ≤ x0) (hVY : Below V.heap.size V Y) (hD : R5.HDs w v0 D) (hrg : V.heap.size ≤ rg)
    (hr : Y.heap[rg]? = some (.cells (R5.oL i m v0 0 (.slice none 0 0)).toArray 64 (0, 0))) (hrows : RS w rows Y) (hout : ∀ r ∈ rows, r.1 ≠ rg ∧ (r.1 < x0 ∨ V.heap.size ≤ r.1)) (hV : x0 ≤ V.heap.size) : TB w og mb rg i m D [] [] rows Y := by
  have hrY := MC.row_lt hr
  have hus : (rrG i m D []).used = 0 := by unfold rrG; cases i <;> rfl
  have hS : ∀ k, (k = og ∨ k = mb) ∨ dv.ownBlock = some k → x0 ≤ k ∧ k < V.heap.size := fun k hk => hk.elim (fun hk => ⟨hpo.low k hk, hpo.top k hk⟩) (fun e => ⟨hdv k e, (hpo.dro k e).2⟩)
  refine ⟨⟨fun k => k = og ∨ k = mb, dv, .slice none 0 0, fun k => k = rg, v0, .slice none 0 0, [], (po_lower hpo hx0).below hVY, ⟨hpo.ml, by rw [hus]; exact hr, R5.hds_below hD hrows.bel, fun hne k e => ?_, ⟨fun e he => by simp [rrG] at he, rfl, World.ownsRow_nil _ _ _ _, fun i e d he => by simp [rrG] at he⟩, rfl, fun k e => by simp [Value.ownBlock] at e, fun d hd => by simp at hd, fun k hk => by rw [hk]; omega, fun k hk => by rw [hk]; exact hrY⟩, fun k hk hT => ?_, fun k e hT => ?_, fun r hr => ?_⟩, hrows⟩
  · have hne : D ≠ [] := hne
    obtain ⟨h0, p, cap, h1, h2⟩ := hD
    obtain ⟨b, o, hp, hr⟩ := h2 0 (List.length_pos_iff.2 hne)
    have hbk : b = k := by rw [h1, hp] at e; simpa [Value.ownBlock] using e
    have hl : (D.getD 0 []).length = 32 := by
      rw [List.getD_eq_getElem?_getD, List.getElem?_eq_getElem (List.length_pos_iff.2 hne)]
      exact h0 _ (List.getElem_mem _)
    have := block_lt (hr 0 (B8 ((D.getD 0 [])[0]'(by omega))) (by rw [List.getElem?_map, List.getElem?_eq_getElem (by omega)]; rfl))
    rw [← hbk]; exact this
  · have hT : k = rg := hT
    have := (hS k (.inl hk)).2; omega
  · have hT : k = rg := hT
    have := (hS k (.inr e)).2; omega
  · obtain ⟨h1, h2⟩ := hout r hr
    exact ⟨fun hk => by have := hS _ (.inl hk); omega, h1, fun e => by have := hS _ (.inr e); omega⟩
/-- The rows of both memories. -/
def mrows (mm gb rm bb n : Nat) (l1 l2 : List UInt8) (rows : Rws) : Rws := (bb, 5, l2.map B8) :: (rm, 93, [.slice (some ⟨bb, 0, none⟩) (128 * n) (128 * n)]) :: (gb, 68, l1.map B8) :: (mm, 87, [.slice (some ⟨gb, 0, none⟩) n n]) :: rows
/-- Both oracles, both memories of n granules, and rows of one's own. -/
structure TM (w : World) (og mb rg : Nat) (i : Bool) (m : List UInt8) (D : List (List UInt8)) (L R : Lg) (mm gb rm bb n : Nat) (l1 l2 : List UInt8) (rows : Rws) (X : World) : Prop where
  tb : TB w og mb rg i m D L R (mrows mm gb rm bb n l1 l2 rows) X
  len1 : l1.length = 128 * n
  len2 : l2.length = 128 * n
  pos : 1 ≤ n
  le : n ≤ 4096
section
variable {w X Y : World} {og mb rg mm gb rm bb n : Nat} {i : Bool} {m : List UInt8} {D : List (List UInt8)} {L L' R R' : Lg} {rows : Rws} {l1 l2 l' : List UInt8}
theorem TM.ne1 (h : TM w og mb rg i m D L R mm gb rm bb n l1 l2 rows X) : mm ≠ gb := by
  have := h.tb.rs.nd
  intro e
  subst e
  simp [mrows] at this
theorem TM.ne2 (h : TM w og mb rg i m D L R mm gb rm bb n l1 l2 rows X) : rm ≠ bb := by
  have := h.tb.rs.nd
  intro e
  subst e
  simp [mrows] at this
theorem TM.pm (h : TM w og mb rg i m D L R mm gb rm bb n l1 l2 rows X) : MC.PM X mm gb n l1 := ⟨h.tb.rs.at 3 rfl, h.tb.rs.at 2 rfl, h.len1, h.pos, h.le, h.ne1⟩
theorem TM.rmem (h : TM w og mb rg i m D L R mm gb rm bb n l1 l2 rows X) : MC.RM X rm bb n l2 := ⟨h.tb.rs.at 1 rfl, h.tb.rs.at 0 rfl, h.len2, h.pos, h.le, h.ne2⟩
theorem TM.step (h : TM w og mb rg i m D L R mm gb rm bb n l1 l2 rows X) (hb : Below X.heap.size X Y) : TM w og mb rg i m D L R mm gb rm bb n l1 l2 rows Y := ⟨h.tb.step hb, h.len1, h.len2, h.pos, h.le⟩
theorem TM.there (h : TM w og mb rg i m D L R mm gb rm bb n l1 l2 rows X) : There og mb mm n X := ⟨h.tb.mc, ⟨_, _, h.pm.cell⟩, h.le, h.pos⟩
/-- The program's memory was written. -/
theorem TM.wr1 (h : TM w og mb rg i m D L R mm gb rm bb n l1 l2 rows X) (hp : MC.PM Y mm gb n l') (hk : MC.KB gb X Y) : TM w og mb rg i m D L R mm gb rm bb n l' l2 rows Y :=
  ⟨h.tb.other 2 rfl hp.row ⟨hk.1.os.trans h.tb.bel.os, hk.1.tape.trans h.tb.bel.tape, hk.1.output.trans h.tb.bel.output, Nat.le_trans h.tb.bel.size hk.1.size, fun j hj => (hk.1.block j (Nat.lt_of_lt_of_le hj (h.tb.rs.lowAt 2 rfl))).trans (h.tb.bel.block j hj)⟩ hk.1.size (fun j hj hne => hk.2 j hj hne), hp.len, h.len2, h.pos, h.le⟩
/-- The document's was. -/
theorem TM.wr2 (h : TM w og mb rg i m D L R mm gb rm bb n l1 l2 rows X) (hp : MC.RM Y rm bb n l') (hk : MC.KB bb X Y) : TM w og mb rg i m D L R mm gb rm bb n l1 l' rows Y :=
  ⟨h.tb.other 0 rfl hp.row ⟨hk.1.os.trans h.tb.bel.os, hk.1.tape.trans h.tb.bel.tape, hk.1.output.trans h.tb.bel.output, Nat.le_trans h.tb.bel.size hk.1.size, fun j hj => (hk.1.block j (Nat.lt_of_lt_of_le hj (h.tb.rs.lowAt 0 rfl))).trans (h.tb.bel.block j hj)⟩ hk.1.size (fun j hj hne => hk.2 j hj hne), h.len1, hp.len, h.pos, h.le⟩
theorem TM.put (h : TM w og mb rg i m D L R mm gb rm bb n l1 l2 rows X) (g : Nat) (gl : List UInt8) (hg : g < n) (hgl : gl.length = 128) : Calls Try.prog 27 #[.pointer (some ⟨mm, 0, none⟩), .int .i64 (g : Int), .agg (gl.map B8).toArray] X fun e Y => e = .returned (.int .i64 0) ∧ TM w og mb rg i m D L R mm gb rm bb n (splice l1 (128 * g) gl) l2 rows Y :=
  (MC.put_ok mm gb n g l1 gl X h.pm hg hgl).mono fun e Y ⟨h1, h2, h3⟩ => ⟨h1, h.wr1 h2 h3⟩
theorem TM.rput (h : TM w og mb rg i m D L R mm gb rm bb n l1 l2 rows X) (g : Nat) (gl : List UInt8) (hg : g < n) (hgl : gl.length = 128) : Calls Try.prog 28 #[.pointer (some ⟨rm, 0, none⟩), .int .i64 (g : Int), .agg (gl.map B8).toArray] X fun e Y => (∃ v, e = .returned v) ∧ TM w og mb rg i m D L R mm gb rm bb n l1 (splice l2 (128 * g) gl) rows Y :=
  (MC.rput_ok rm bb n g l2 gl X h.rmem hg hgl).mono fun e Y ⟨h1, h2, h3⟩ => ⟨h1, h.wr2 h2 h3⟩
end
/-- Memory, its first k granules filled. -/
def filled (n : Nat) (F : List (List UInt8)) : Nat → List UInt8
  | 0 => List.replicate (128 * n) 0
  | k + 1 => splice (filled n F k) (128 * k) (F.getD k [])
end Go.Proofs.Ytnijjoankahddaa.DC

/- tree: the statements' two. -/
namespace Go.Proofs.Ytnijjoankahddaa.DC
open Go.RowKit

theorem caL_at (c : Ca) (dv fv : Value) (h : c.m.length = 32) (j : Nat) : (caL c dv fv)[33 + j]? = [dv, .int .i64 c.n, fv, .int .u64 (c.a : Int)][j]? := by
  unfold caL
  rw [show 33 + j = (32 + j) + 1 by omega, List.getElem?_cons_succ, List.getElem?_append_right (by simp [h])]
  simp [h]
theorem caL_m (c : Ca) (dv fv : Value) (h : c.m.length = 32) : ((caL c dv fv).drop 1).take 32 = c.m.map B8 := by
  unfold caL
  rw [List.drop_one, List.tail_cons, List.take_append_of_le_length (by simp [h]), List.take_of_length_le (by simp [h])]
theorem caL_len (c : Ca) (dv fv : Value) (h : c.m.length = 32) : (caL c dv fv).length = 37 := by unfold caL; simp [h]
set_option maxHeartbeats 4000000 in
set_option maxRecDepth 100000 in
theorem build_orG (w : World) (i : Bool) (DL : List Value) (h2 : DL.length = 32) (p : Option Addr) (n c : Nat) : (Instr.build 64 #[(0, .bool i), (1, .agg DL.toArray), (2, .slice p n c)]).run Try.prog w = .ok (.agg (.bool i :: (DL ++ [.slice p n c, .int .i64 0, .slice none 0 0])).toArray) w := by
  iterate 32 (obtain ⟨_, _, e, g⟩ := R5.cons_of h2; clear h2; subst e; have h2 := g; clear g)
  obtain rfl := List.eq_nil_of_length_eq_zero h2
  show _ = _
  kernel_rfl
/-- How two ends. -/
def TwEnd (w : World) (c : Ca) (n : Nat) (rows : Rws) (e : Ending) (Y : World) : Prop :=
  ∃ og mb rg mm gb rm bb, e = .returned (.tuple #[.pointer (some ⟨og, 0, none⟩), .pointer (some ⟨mm, 0, none⟩), .pointer (some ⟨rg, 0, none⟩), .pointer (some ⟨rm, 0, none⟩), .bool true]) ∧ TM w og mb rg c.i c.m c.D [] [] mm gb rm bb n (filled n c.F (min c.F.length n)) (filled n c.F (min c.F.length n)) rows Y
/-- Both sides begun, ahead of the loop. -/
theorem tw_start {w X X0 V1 V2 V3 V4 : World} {c : Ca} {dv fv dvo : Value} {n og mb mm gb rm bb : Nat} {rows : Rws} (hc : c.ok dv fv w) (hrows : RS w rows X) (hX : X0 = X.alloc (.cells (caL c dv fv).toArray 28 (0, 0)))
    (hpo : R5.PO X0.heap.size og mb (fun k => k = og ∨ k = mb) V1 ⟨c.i, c.m, c.D, []⟩ dvo (.slice none 0 0)) (hb1 : Below X0.heap.size X0 V1) (hdv : ∀ k, dvo.ownBlock = some k → X0.heap.size ≤ k)
    (hpm : MC.PM V2 mm gb n (List.replicate (128 * n) 0)) (hm1 : V1.heap.size ≤ mm) (hm2 : V1.heap.size ≤ gb) (hb2 : Below V1.heap.size V1 V2)
    (hV3 : V3 = V2.alloc (.cells (R5.oL c.i c.m dv 0 (.slice none 0 0)).toArray 64 (0, 0)))
    (hrm : MC.RM V4 rm bb n (List.replicate (128 * n) 0)) (hr1 : V3.heap.size ≤ rm) (hr2 : V3.heap.size ≤ bb) (hb4 : Below V3.heap.size V3 V4) :
    TM w og mb V2.heap.size c.i c.m c.D [] [] mm gb rm bb n (List.replicate (128 * n) 0) (List.replicate (128 * n) 0) ((X.heap.size, 28, caL c dv fv) :: rows) V4 := by
  have hs0 : X0.heap.size = X.heap.size + 1 := by rw [hX]; simp
  have hs3 : V3.heap.size = V2.heap.size + 1 := by rw [hV3]; simp
  have hx := hrows.bel.size
  have h1 := hb1.size
  have h2 := hb2.size
  have h4 := hb4.size
  have hb3 : Below V2.heap.size V2 V3 := by rw [hV3]; exact (Below.refl _ _).alloc (Nat.le_refl _) _
  have hb24 : Below V2.heap.size V2 V4 := hb3.trans (hb4.mono (by omega))
  have hb14 : Below V1.heap.size V1 V4 := hb2.trans (hb24.mono h2)
  have hr0 : RS w ((X.heap.size, 28, caL c dv fv) :: rows) X0 := by rw [hX]; exact hrows.alloc _ rfl _ _
  have hr4 : RS w ((X.heap.size, 28, caL c dv fv) :: rows) V4 := hr0.step (hb1.trans (hb14.mono h1))
  have hlt : ∀ r ∈ ((X.heap.size, 28, caL c dv fv) :: rows : Rws), r.1 < X0.heap.size := fun r hr => MC.row_lt (hr0.row r hr)
  have hmm := MC.row_lt hpm.head
  have hgb := MC.row_lt hpm.row
  have ne1 := hpm.ne
  have ne2 := hrm.ne
  have a1 : RS w ((mm, 87, [.slice (some ⟨gb, 0, none⟩) n n]) :: (X.heap.size, 28, caL c dv fv) :: rows) V4 := hr4.add (by omega) ((hb24.block _ hmm).trans hpm.head) (fun r hr => by have := hlt r hr; omega)
  have a2 : RS w ((gb, 68, (List.replicate (128 * n) (0 : UInt8)).map B8) :: (mm, 87, [.slice (some ⟨gb, 0, none⟩) n n]) :: (X.heap.size, 28, caL c dv fv) :: rows) V4 := a1.add (by omega) ((hb24.block _ hgb).trans hpm.row) (fun r hr => by
    rcases List.mem_cons.1 hr with rfl | hr
    · exact ne1
    · have := hlt r hr; omega)
  have a3 : RS w ((rm, 93, [.slice (some ⟨bb, 0, none⟩) (128 * n) (128 * n)]) :: (gb, 68, (List.replicate (128 * n) (0 : UInt8)).map B8) :: (mm, 87, [.slice (some ⟨gb, 0, none⟩) n n]) :: (X.heap.size, 28, caL c dv fv) :: rows) V4 := a2.add (by omega) hrm.head (fun r hr => by
    rcases List.mem_cons.1 hr with rfl | hr
    · show gb ≠ rm; omega
    · rcases List.mem_cons.1 hr with rfl | hr
      · show mm ≠ rm; omega
      · have := hlt r hr; omega)
  have a4 : RS w (mrows mm gb rm bb n (List.replicate (128 * n) 0) (List.replicate (128 * n) 0) ((X.heap.size, 28, caL c dv fv) :: rows)) V4 := a3.add (by omega) hrm.row (fun r hr => by
    rcases List.mem_cons.1 hr with rfl | hr
    · exact ne2
    · rcases List.mem_cons.1 hr with rfl | hr
      · show gb ≠ bb; omega
      · rcases List.mem_cons.1 hr with rfl | hr
        · show mm ≠ bb; omega
        · have := hlt r hr; omega)
  refine ⟨TB.start hpo hdv (by omega) hb14 hc.d (by omega) ((hb4.block _ (by omega)).trans (by rw [hV3]; exact heap_alloc_new _ _)) a4 (fun r hr => ?_) h1, hpm.len, hpm.len, hpm.pos, hpm.le⟩
  unfold mrows at hr
  rcases List.mem_cons.1 hr with rfl | hr
  · show bb ≠ V2.heap.size ∧ _; exact ⟨by omega, .inr (by show V1.heap.size ≤ bb; omega)⟩
  · rcases List.mem_cons.1 hr with rfl | hr
    · show rm ≠ V2.heap.size ∧ _; exact ⟨by omega, .inr (by show V1.heap.size ≤ rm; omega)⟩
    · rcases List.mem_cons.1 hr with rfl | hr
      · show gb ≠ V2.heap.size ∧ _; exact ⟨by omega, .inr hm2⟩
      · rcases List.mem_cons.1 hr with rfl | hr
        · show mm ≠ V2.heap.size ∧ _; exact ⟨by omega, .inr hm1⟩
        · have := hlt r hr; exact ⟨by omega, .inl this⟩
end Go.Proofs.Ytnijjoankahddaa.DC

/- tree: the statements' two, walked. -/
namespace Go.Proofs.Ytnijjoankahddaa.DC
open Go.RowKit

/-- A case in memory. -/
structure CaC (b : Nat) (c : Ca) (dv fv : Value) (W : World) : Prop where
  c0 : W.cell? ⟨b, 0, none⟩ = some (.bool c.i)
  c33 : W.cell? ⟨b, 33, none⟩ = some dv
  c34 : W.cell? ⟨b, 34, none⟩ = some (.int .i64 c.n)
  c35 : W.cell? ⟨b, 35, none⟩ = some fv
  c36 : W.cell? ⟨b, 36, none⟩ = some (.int .u64 (c.a : Int))
  m : W.rangeAt b 1 (c.m.map B8)
theorem CaC.of {b : Nat} {c : Ca} {dv fv : Value} {W : World} {t : TypeId} (hm : c.m.length = 32) (h : W.heap[b]? = some (.cells (caL c dv fv).toArray t (0, 0))) : CaC b c dv fv W := by
  have hc := fun k => cell_of_row W _ k _ _ _ h
  refine ⟨by rw [hc]; rfl, ?_, ?_, ?_, ?_, ?_⟩
  · rw [hc, List.getElem?_toArray]; exact caL_at c dv fv hm 0
  · rw [hc, List.getElem?_toArray]; exact caL_at c dv fv hm 1
  · rw [hc, List.getElem?_toArray]; exact caL_at c dv fv hm 2
  · rw [hc, List.getElem?_toArray]; exact caL_at c dv fv hm 3
  · have q := MC.rangeAt_part (MC.rangeAt_row h) 1 32
    rw [caL_m c dv fv hm, Nat.zero_add] at q
    exact q
theorem filled_len (n : Nat) (F : List (List UInt8)) (hF : ∀ g ∈ F, g.length = 128) : ∀ k, k ≤ F.length → k ≤ n → (filled n F k).length = 128 * n
  | 0, _, _ => by simp [filled]
  | k + 1, h1, h2 => by
    have hk : k < F.length := by omega
    have hg : (F.getD k []).length = 128 := by rw [List.getD_eq_getElem?_getD, List.getElem?_eq_getElem hk]; exact hF _ (List.getElem_mem _)
    unfold filled
    rw [MC.splice_len _ _ _ (by rw [filled_len n F hF k (by omega) (by omega), hg]; omega)]
    exact filled_len n F hF k (by omega) (by omega)
theorem results_tmp5 {fn : Func} {t u v x y : Tmp} (h : fn.results = #[.tmp t, .tmp u, .tmp v, .tmp x, .tmp y]) (tmps : Array Value) (P : Program) (w : World) :
    (results fn tmps).run P w = .ok (.tuple #[tmps.getD t undef, tmps.getD u undef, tmps.getD v undef, tmps.getD x undef, tmps.getD y undef]) w := by
  simp [results, h]
set_option maxHeartbeats 4000000 in
set_option maxRecDepth 100000 in
theorem two_any (w X : World) (c : Ca) (dv fv : Value) (n : Nat) (rows : Rws) (hc : c.ok dv fv w) (hrows : RS w rows X) (hn : c.n = (n : Int)) (h1 : 1 ≤ n) (h2 : n ≤ 4096) (hD : c.D.length ≤ 1000) (hF : c.F.length ≤ 1000) :
    Calls Try.prog 10 #[.agg (caL c dv fv).toArray] X fun e Y => TwEnd w c n ((X.heap.size, 28, caL c dv fv) :: rows) e Y := by
  obtain ⟨X0, hX0⟩ : ∃ X0, X0 = X.alloc (.cells (caL c dv fv).toArray 28 (0, 0)) := ⟨_, rfl⟩
  have hb0 : Below X.heap.size X X0 := by rw [hX0]; exact (Below.refl _ _).alloc (Nat.le_refl _) _
  have hwX0 : Below w.heap.size w X0 := hrows.bel.trans (hb0.mono hrows.bel.size)
  have hrow0 : X0.heap[X.heap.size]? = some (.cells (caL c dv fv).toArray 28 (0, 0)) := by rw [hX0]; exact heap_alloc_new _ _
  have HCC : Hid (∀ W, Below X0.heap.size X0 W → CaC X.heap.size c dv fv W) := fun W hW => CaC.of hc.m ((hW.block _ (MC.row_lt hrow0)).trans hrow0)
  have HCR : Hid (∀ W, W.heap[X.heap.size]? = some (.cells (caL c dv fv).toArray 28 (0, 0)) → CaC X.heap.size c dv fv W) := fun W hW => CaC.of hc.m hW
  obtain ⟨hdl, pd, capd, hde, _⟩ := id hc.d
  obtain ⟨hfl, pf, capf, hfe, hfr⟩ := id hc.f
  have hNEW := R5.pnew_any c.i c.m pd c.D.length capd c.D X0 hc.m (hc.dn _ _ _ hde) (by omega) (by rw [← hde]; exact R5.hds_below hc.d hwX0)
  have HNEW : Hid (Calls Try.prog 17 #[.bool c.i, .agg (c.m.map B8).toArray, dv] X0 fun e w' => R5.PNew X0 c.i c.m c.D e w') := by rw [hde]; exact hNEW
  have HMN : Hid (∀ W, Calls Try.prog 18 #[.int .i64 c.n] W fun e w' => MC.NewEnd W n e w') := fun W => by rw [hn]; exact MC.new_ok n W h1 h2
  have HRN : Hid (∀ W, Calls Try.prog 26 #[.int .i64 c.n] W fun e w' => MC.RNewEnd W n e w') := fun W => by rw [hn]; exact MC.rnew_ok n W h1 h2
  have HMI : Hid _ := R5.info32 (c.m.map B8) (by simpa using hc.m)
  obtain ⟨OL, hOL⟩ : ∃ OL, OL = R5.oL c.i c.m dv 0 (.slice none 0 0) := ⟨_, rfl⟩
  have HBO : Hid (∀ W, (Instr.build 64 #[(0, .bool c.i), (1, .agg (c.m.map B8).toArray), (2, dv)]).run Try.prog W = .ok (.agg OL.toArray) W) := fun W => by rw [hOL, hde]; exact build_orG W c.i (c.m.map B8) (by simpa using hc.m) pd c.D.length capd
  have HOL : Hid (OL = R5.oL c.i c.m dv 0 (.slice none 0 0)) := hOL
  have HX0 : Hid (X0 = X.alloc (.cells (caL c dv fv).toArray 28 (0, 0))) := hX0
  have HROW : Hid (RS w rows X) := hrows
  have HOK : Hid (c.ok dv fv w) := hc
  have HNM : Hid (∀ n W, Calls Try.prog 13 #[.int .i64 n] W fun x w' => x = .returned (.int .i64 n) ∧ W = w') := num_any
  have C0 := HCC.out X0 (Below.refl _ _)
  have k0 := C0.c0
  have k33 := C0.c33
  have HM0 : Hid (X0.rangeAt X.heap.size 1 (c.m.map B8)) := C0.m
  rw [hX0] at k0 k33 HM0 HNEW
  clear hOL hX0 hb0 hwX0 hrow0 hNEW C0
  obtain ⟨CL, hCL⟩ : ∃ L, (caL c dv fv).toArray = L := ⟨_, rfl⟩
  rw [hCL] at k0 k33 HM0 HNEW HX0 ⊢
  have HCL : Hid ((caL c dv fv).toArray = CL) := hCL
  obtain ⟨ci, hci⟩ : ∃ x, c.i = x := ⟨_, rfl⟩
  obtain ⟨cn, hcn⟩ : ∃ x, c.n = x := ⟨_, rfl⟩
  obtain ⟨ML, hML⟩ : ∃ x, c.m.map B8 = x := ⟨_, rfl⟩
  rw [hci] at k0 HNEW HBO
  rw [hML] at HM0 HNEW HBO HMI
  rw [hcn] at HMN HRN
  have HCI : Hid (c.i = ci) := hci
  have HCN : Hid (c.n = cn) := hcn
  have HML : Hid (c.m.map B8 = ML) := hML
  have HFG : Hid (∀ W, Below w.heap.size w W → ∀ k, k < c.F.length → ∃ b o gl, pf = some ⟨b, o, none⟩ ∧ W.rangeAt b (o + k * 128) (gl.map B8) ∧ gl.length = 128 ∧ c.F.getD k [] = gl) := fun W hW k hk => by
    obtain ⟨b, o, h4, h5⟩ := hfr k (c.F[k]) (List.getElem?_eq_getElem hk)
    exact ⟨b, o, _, h4, MC.rangeAt_below h5 hW, hfl _ (List.getElem_mem _), by rw [List.getD_eq_getElem?_getD, List.getElem?_eq_getElem hk]; rfl⟩
  have HFE : Hid (fv = .slice pf c.F.length capf) := hfe
  have HNC : Hid (cn = (n : Int)) := by show _ = _; rw [← hcn]; exact hn
  have hFl : c.F.length ≤ 1000 := hF
  clear hCL hci hcn hML hn hc hrows hdl hde hfl hfe hfr hF hD
  go_enter Try.func10, Try.ntmps10
  go_wp2_with (refine wpList_load_mid rfl 23 (.tmp 15) rfl X.heap.size 1 rfl ML _ HM0.out Try.underlying23 rfl HMI.out ?_)
  refine Calls.mono HNEW.out ?_
  rintro e V1 ⟨og, mb, dvo, rfl, hpo, hbV, hdv⟩
  rw [← HX0.out] at hpo hbV hdv
  rw [← HCI.out] at hpo
  have HPO : Hid (R5.PO X0.heap.size og mb (fun k => k = og ∨ k = mb) V1 ⟨c.i, c.m, c.D, []⟩ dvo (.slice none 0 0)) := hpo
  have HB1 : Hid (Below X0.heap.size X0 V1) := hbV
  have HDV : Hid (∀ k, dvo.ownBlock = some k → X0.heap.size ≤ k) := hdv
  have k34 := (HCC.out V1 hbV).c34
  rw [HCN.out] at k34
  clear hpo hbV hdv k0 k33 HNEW HM0
  go_wp2_with fail
  refine Calls.mono (HMN.out V1) ?_
  rintro e V2 ⟨mm, gb, rfl, hpm, hm1, hm2, hb2⟩
  have HPM : Hid (MC.PM V2 mm gb n (List.replicate (128 * n) 0)) := hpm
  have HM1 : Hid (V1.heap.size ≤ mm) := hm1
  have HM2 : Hid (V1.heap.size ≤ gb) := hm2
  have HB2 : Hid (Below V1.heap.size V1 V2) := hb2
  have hb02 : Below X0.heap.size X0 V2 := HB1.out.trans (hb2.mono HB1.out.size)
  have C2 := HCC.out V2 hb02
  have k0 := C2.c0
  have k33 := C2.c33
  have HM0 : Hid (V2.rangeAt X.heap.size 1 ML) := by have q := C2.m; rw [HML.out] at q; exact q
  rw [HCI.out] at k0
  have hb3 : Below V2.heap.size V2 (V2.alloc (.cells OL.toArray 64 (0, 0))) := (Below.refl _ _).alloc (Nat.le_refl _) _
  have k34b := (HCC.out _ (hb02.trans (hb3.mono hb02.size))).c34
  rw [HCN.out] at k34b
  clear hpm hm1 hm2 hb2 hb02 C2 k34 HMN hb3
  go_wp2_with (first
    | (refine wpList_load_mid rfl 23 (.tmp 28) rfl X.heap.size 1 rfl ML _ HM0.out Try.underlying23 rfl HMI.out ?_)
    | (refine R5.wpList_build rfl 64 _ rfl #[(0, .bool ci), (1, .agg ML.toArray), (2, dv)] (.agg OL.toArray) (by simp; first | done | rfl | exact ⟨rfl, rfl, rfl⟩) (HBO.out _) ?_))
  refine Calls.mono (HRN.out _) ?_
  rintro e V4 ⟨rm, bb, rfl, hrm, hr1, hr2, hb4⟩
  have HTM : Hid (TM w og mb V2.heap.size c.i c.m c.D [] [] mm gb rm bb n (List.replicate (128 * n) 0) (List.replicate (128 * n) 0) ((X.heap.size, 28, caL c dv fv) :: rows) V4) := tw_start HOK.out HROW.out (by rw [HCL.out]; exact HX0.out) HPO.out HB1.out HDV.out HPM.out HM1.out HM2.out HB2.out (by rw [← HOL.out]) hrm hr1 hr2 hb4
  clear hrm hr1 hr2 hb4 HRN HPO HB1 HDV HPM HM1 HM2 HB2 HM0 HBO HMI HOL HROW HX0 k0 k33 k34b
  generalize V2.heap.size = rg at *
  go_wp2
  go_loopw [12] (fun i wr => ∃ k : Nat, k ≤ min c.F.length n ∧ i = .int .i64 k ∧ TM w og mb rg c.i c.m c.D [] [] mm gb rm bb n (filled n c.F k) (filled n c.F k) ((X.heap.size, 28, caL c dv fv) :: rows) wr) (fun i _ => min c.F.length n - (intOf i).toNat)
  case atStart => exact ⟨0, by omega, rfl, HTM.out⟩
  case round =>
    obtain ⟨k, hk, rfl, hT⟩ := hrel
    clear HTM
    have HT : Hid _ := hT
    have C2 := HCR.out wr (hT.tb.rs.at 4 rfl)
    have k34 := C2.c34
    have k35 := C2.c35
    rw [HCN.out, HNC.out] at k34
    rw [HFE.out] at k35
    by_cases hlt : k < min c.F.length n
    · obtain ⟨fb, fo, gl, hpf, hgr, hgl, hgd⟩ := HFG.out wr hT.tb.bel k (by omega)
      subst hpf
      have HGR : Hid (wr.rangeAt fb (fo + k * 128) (gl.map B8)) := hgr
      have HGI : Hid _ := MC.info128 (gl.map B8) (by simpa using hgl)
      have HPUT : Hid (Calls Try.prog 27 #[.pointer (some ⟨mm, 0, none⟩), .int .i64 (k : Int), .agg (gl.map B8).toArray] wr fun e Y => e = .returned (.int .i64 0) ∧ TM w og mb rg c.i c.m c.D [] [] mm gb rm bb n (splice (filled n c.F k) (128 * k) gl) (filled n c.F k) ((X.heap.size, 28, caL c dv fv) :: rows) Y) := hT.put k gl (by omega) hgl
      have HGD : Hid (splice (filled n c.F k) (128 * k) gl = filled n c.F (k + 1)) := by show _ = _; rw [← hgd]; rfl
      have HGL : Hid (gl.length = 128) := hgl
      have HGE : Hid (c.F.getD k [] = gl) := hgd
      have hk1 : (k : Int) < (c.F.length : Int) := by omega
      have hk2 : (k : Int) < (n : Int) := by omega
      have hk3 : k < c.F.length := by omega
      have hk4 : k < n := by omega
      clear hT C2 hgr hgd hgl
      generalize hGG : gl.map B8 = GG at *
      have HGG : Hid (gl.map B8 = GG) := hGG
      clear hGG
      go_wp2_with (refine wpList_load_mid rfl 68 (.tmp 55) rfl fb (fo + k * 128) rfl GG _ HGR.out Try.underlying68 rfl HGI.out ?_)
      refine Calls.mono HPUT.out ?_
      rintro e Y1 ⟨rfl, hT1⟩
      have HT1 : Hid _ := hT1
      clear HPUT HT
      go_wp2_with fail
      refine Calls.mono (HNM.out 0 Y1) ?_
      rintro e Y2 ⟨rfl, hy⟩
      rw [← hy]
      clear hy Y2
      have k35b := (HCR.out Y1 (HT1.out.tb.rs.at 4 rfl)).c35
      rw [HFE.out] at k35b
      obtain ⟨fb2, fo2, gl2, hpf2, hgr2, hgl2, hgd2⟩ := HFG.out Y1 HT1.out.tb.bel k hk3
      rw [HGE.out] at hgd2
      subst hgd2
      obtain ⟨rfl, rfl⟩ : fb = fb2 ∧ fo = fo2 := by simpa using hpf2
      have HGR2 : Hid (Y1.rangeAt fb (fo + k * 128) GG) := by rw [HGG.out] at hgr2; exact hgr2
      have HRP : Hid (Calls Try.prog 28 #[.pointer (some ⟨rm, 0, none⟩), .int .i64 (k : Int), .agg GG.toArray] Y1 fun e Y => (∃ v, e = .returned v) ∧ TM w og mb rg c.i c.m c.D [] [] mm gb rm bb n (filled n c.F (k + 1)) (filled n c.F (k + 1)) ((X.heap.size, 28, caL c dv fv) :: rows) Y) := by
        have q := HT1.out.rput k gl hk4 HGL.out
        rw [HGG.out, HGD.out] at q
        exact q
      clear hpf2 hgr2 hgl2 HT1 HGR k34 k35
      go_wp2_with (refine wpList_load_mid rfl 68 (.tmp 65) rfl fb (fo + k * 128) rfl GG _ HGR2.out Try.underlying68 rfl HGI.out ?_)
      refine Calls.mono HRP.out ?_
      rintro e Y3 ⟨⟨v3, rfl⟩, hT3⟩
      have HT3 : Hid _ := hT3
      clear HRP hT3 k35b
      go_wp2
      go_roundw
      case rel => exact ⟨k + 1, by omega, by go_num, HT3.out⟩
      case measure => simp [intOf]; omega
    · have hkm : k = min c.F.length n := by omega
      have HEND : Hid (TM w og mb rg c.i c.m c.D [] [] mm gb rm bb n (filled n c.F (min c.F.length n)) (filled n c.F (min c.F.length n)) ((X.heap.size, 28, caL c dv fv) :: rows) wr) := by rw [hkm] at hT; exact hT
      have HNN : Hid (∀ W, Calls Try.prog 13 #[.int .i64 0] W fun x w' => x = .returned (.int .i64 0) ∧ W = w') := fun W => HNM.out 0 W
      by_cases hk1 : k < c.F.length
      · have hk1I : (k : Int) < (c.F.length : Int) := by omega
        have hk2I : ¬ (k : Int) < (n : Int) := by omega
        clear hT C2 hk hlt hkm HT
        go_wp2_with fail
        refine Calls.mono (HNN.out wr) ?_
        rintro e Y2 ⟨rfl, hy⟩
        rw [← hy]
        clear hy Y2
        go_wp2
        try simp only [Exit.inBlock, Exit.then]
        refine bodyPost_ret (results_tmp5 rfl _ _ _) rfl ?_
        exact ⟨og, mb, rg, mm, gb, rm, bb, rfl, HEND.out⟩
      · have hk1I : ¬ (k : Int) < (c.F.length : Int) := by omega
        clear hT C2 hk hlt hkm HT
        go_wp2_with fail
        refine Calls.mono (HNN.out wr) ?_
        rintro e Y2 ⟨rfl, hy⟩
        rw [← hy]
        clear hy Y2
        go_wp2
        try simp only [Exit.inBlock, Exit.then]
        refine bodyPost_ret (results_tmp5 rfl _ _ _) rfl ?_
        exact ⟨og, mb, rg, mm, gb, rm, bb, rfl, HEND.out⟩
end Go.Proofs.Ytnijjoankahddaa.DC

/- tree: is a case small; digests compared; lists as rows of one's own. -/
namespace Go.Proofs.Ytnijjoankahddaa.DC
open Go.RowKit

theorem eqg (t : TypeId) (x y : Operand) (xs ys : Array Value) (W : World) (h : Try.prog.eqGuardType Try.prog.depth t = false) : (eqGuard .eql t x y (.agg xs) (.agg ys)).run Try.prog W = .ok () W := by
  unfold eqGuard
  simp [h]
theorem run_eql {a : Act} {o : Oper} {t u : TypeId} {x y : Operand} {xs ys : Array Value} {w : World} {b : Bool} (ho : o.op = .binOp .eql t x y u) (hx : a.eval x = .agg xs) (hy : a.eval y = .agg ys) (hg : Try.prog.eqGuardType Try.prog.depth t = false) (hq : (Op.equalIn 10000 t (.agg xs) (.agg ys)).run Try.prog w = .ok b w) : (execOp a.eval o).run Try.prog w = .ok (.value (.bool b)) w := by
  have h1 := eqg t x y xs ys w hg
  have h2 : (binOp .eql t (.agg xs) (.agg ys)).run Try.prog w = .ok (.bool b) w := by
    have e : Op.equal t (.agg xs) (.agg ys) = Op.equalIn 10000 t (.agg xs) (.agg ys) := rfl
    show ((do pure (.bool (← Op.equal t (.agg xs) (.agg ys))) : Sem Value)).run Try.prog w = _
    rw [e]
    simp [hq]
  unfold execOp
  simp only [ho, hx, hy, Sem.run_bind, h1, h2, Result.andThen_ok]
  rfl
theorem eqgn (t : TypeId) (x y : Operand) (xs ys : Array Value) (W : World) (h : Try.prog.eqGuardType Try.prog.depth t = false) : (eqGuard .neq t x y (.agg xs) (.agg ys)).run Try.prog W = .ok () W := by
  unfold eqGuard
  simp [h]
theorem run_neq {a : Act} {o : Oper} {t u : TypeId} {x y : Operand} {xs ys : Array Value} {w : World} {b : Bool} (ho : o.op = .binOp .neq t x y u) (hx : a.eval x = .agg xs) (hy : a.eval y = .agg ys) (hg : Try.prog.eqGuardType Try.prog.depth t = false) (hq : (Op.equalIn 10000 t (.agg xs) (.agg ys)).run Try.prog w = .ok b w) : (execOp a.eval o).run Try.prog w = .ok (.value (.bool (!b))) w := by
  have h1 := eqgn t x y xs ys w hg
  have h2 : (binOp .neq t (.agg xs) (.agg ys)).run Try.prog w = .ok (.bool (!b)) w := by
    have e : Op.equal t (.agg xs) (.agg ys) = Op.equalIn 10000 t (.agg xs) (.agg ys) := rfl
    show ((do pure (.bool (!(← Op.equal t (.agg xs) (.agg ys)))) : Sem Value)).run Try.prog w = _
    rw [e]
    simp [hq]
  unfold execOp
  simp only [ho, hx, hy, Sem.run_bind, h1, h2, Result.andThen_ok]
  rfl

theorem gD : Try.prog.eqGuardType Try.prog.depth 23 = false := by kernel_rfl
theorem eq_dig (w : World) (xs ys : List UInt8) (hx : xs.length = 32) (hy : ys.length = 32) (b : Bool) (h : (xs == ys) = b) : (Op.equalIn 10000 23 (.agg (xs.map B8).toArray) (.agg (ys.map B8).toArray)).run Try.prog w = .ok b w := by
  rw [← h]; exact run_equalIn_bytes (P := Try.prog) w 9998 23 5 32 Try.underlying23 Try.underlying5 MC.size_u8 xs ys hx hy
def smB (c : Ca) : Bool := decide (c.D.length ≤ 700 ∧ 1 ≤ c.n ∧ c.n ≤ 80 ∧ c.F.length ≤ 80)
set_option maxHeartbeats 2000000 in
set_option maxRecDepth 100000 in
theorem small_any (X : World) (c : Ca) (pd pf : Option Addr) (capd capf : Nat) (hm : c.m.length = 32) :
    Calls Try.prog 7 #[.agg (caL c (.slice pd c.D.length capd) (.slice pf c.F.length capf)).toArray] X fun e Y => e = .returned (.bool (smB c)) ∧ Below X.heap.size X Y := by
  obtain ⟨X0, hX0⟩ : ∃ X0, X0 = X.alloc (.cells (caL c (.slice pd c.D.length capd) (.slice pf c.F.length capf)).toArray 28 (0, 0)) := ⟨_, rfl⟩
  have HB : Hid (Below X.heap.size X X0) := by rw [hX0]; exact (Below.refl _ _).alloc (Nat.le_refl _) _
  have C0 : CaC X.heap.size c (.slice pd c.D.length capd) (.slice pf c.F.length capf) X0 := CaC.of hm (by rw [hX0]; exact heap_alloc_new _ _)
  have k33 := C0.c33
  have k34 := C0.c34
  have k35 := C0.c35
  have HX : Hid (X0 = X.alloc (.cells (caL c (.slice pd c.D.length capd) (.slice pf c.F.length capf)).toArray 28 (0, 0))) := hX0
  rw [hX0] at k33 k34 k35
  have HSM : Hid (smB c = decide (c.D.length ≤ 700 ∧ 1 ≤ c.n ∧ c.n ≤ 80 ∧ c.F.length ≤ 80)) := rfl
  generalize (caL c (.slice pd c.D.length capd) (.slice pf c.F.length capf)).toArray = CL at *
  generalize smB c = sb at *
  generalize c.D.length = dn at *
  generalize c.F.length = fn at *
  generalize c.n = cn at *
  clear C0 hX0 hm
  by_cases h1 : dn ≤ 700
  · have h1I : (dn : Int) ≤ 700 := by omega
    by_cases h2 : 1 ≤ cn
    · by_cases h3 : cn ≤ 80
      · by_cases h4 : fn ≤ 80
        · have h4I : (fn : Int) ≤ 80 := by omega
          have hsb : sb = true := by rw [HSM.out]; exact decide_eq_true ⟨h1, h2, h3, h4⟩
          subst hsb
          clear HSM
          go_enter Try.func7, Try.ntmps7
          go_wp2
          go_ret
          exact ⟨rfl, by rw [← HX.out]; exact HB.out⟩
        · have h4I : ¬ (fn : Int) ≤ 80 := by omega
          have hsb : sb = false := by rw [HSM.out]; exact decide_eq_false (fun h => h4 h.2.2.2)
          subst hsb
          clear HSM
          go_enter Try.func7, Try.ntmps7
          go_wp2
          go_ret
          exact ⟨by first | rfl | (show Ending.returned (.bool (decide _)) = _; rw [decide_eq_false (by omega)]), by rw [← HX.out]; exact HB.out⟩
      · skip
        have hsb : sb = false := by rw [HSM.out]; exact decide_eq_false (fun h => h3 h.2.2.1)
        subst hsb
        clear HSM
        go_enter Try.func7, Try.ntmps7
        go_wp2
        go_ret
        exact ⟨rfl, by rw [← HX.out]; exact HB.out⟩
    · skip
      have hsb : sb = false := by rw [HSM.out]; exact decide_eq_false (fun h => h2 h.2.1)
      subst hsb
      clear HSM
      go_enter Try.func7, Try.ntmps7
      go_wp2
      go_ret
      exact ⟨rfl, by rw [← HX.out]; exact HB.out⟩
  · have h1I : ¬ (dn : Int) ≤ 700 := by omega
    have hsb : sb = false := by rw [HSM.out]; exact decide_eq_false (fun h => h1 h.1)
    subst hsb
    clear HSM
    go_enter Try.func7, Try.ntmps7
    go_wp2
    go_ret
    exact ⟨rfl, by rw [← HX.out]; exact HB.out⟩
section
variable {w X Y : World} {og mb rg : Nat} {i : Bool} {m : List UInt8} {D : List (List UInt8)} {L R : Lg} {rows : Rws}
/-- A list that was made is a row of one's own. -/
theorem TB.list (h : TB w og mb rg i m D L R rows X) (hb : Below X.heap.size X Y) {v : Value} {ls : List Int} (hl : 0 < ls.length) (hf : FI X.heap.size Y v ls) : ∃ g M, TB w og mb rg i m D L R ((g, 3, M) :: rows) Y ∧ ∀ W, W.heap[g]? = some (.cells M.toArray 3 (0, 0)) → HI W v ls := by
  rcases hf.2 with ⟨h1, h2⟩ | ⟨g, cap, cur, h1, h2, h3, h4⟩
  · omega
  · obtain ⟨S, dv, ov, T, dr, lv, lds, a1, a2, a3, a4, a5⟩ := h.ex
    have hs := hb.size
    have hw := h.bel.size
    have hlow : X.heap.size ≤ g := (World.ownsRow.lt hf g (by rw [h1]; rfl)).1
    refine ⟨g, cur.toList, ⟨⟨S, dv, ov, T, dr, lv, lds, a1.below hb, a2.keep hb.size (fun k hk _ => hb.block k hk), a3, a4, fun r hr => ?_⟩, (h.rs.step hb).add (by omega) (by rw [Array.toArray_toList]; exact h3) (fun r hr e => ?_)⟩, fun W hW => ?_⟩
    · rcases List.mem_cons.1 hr with rfl | hr
      · exact ⟨fun hS => by have := a1.top _ hS; omega, fun hT => by have := a2.top _ hT; omega, fun e => by have := (a1.dro _ e).2; omega⟩
      · exact a5 r hr
    · have := MC.row_lt (h.rs.row r hr); omega
    · have := (hf.keep (w' := W) (fun j hj => ?_)).hi
      · exact this
      · have : j = g := by rw [h1] at hj; simpa [Value.ownBlock] using hj.symm
        rw [this, hW, h3, Array.toArray_toList]
end
end Go.Proofs.Ytnijjoankahddaa.DC

/- tree: where a node lies; lies, lay, At of the program. -/
namespace Go.Proofs.Ytnijjoankahddaa.DC
open Go.RowKit

theorem wpList_copy_seg {ops : Array Oper} {rest : List Oper} {op : Oper} {a : Act} {w : World} {Q : Exit → Act → World → Prop} (hgd : op.guard = none) (d s : Operand) (ho : op.op = .call { callee := .builtin .copy, args := #[d, s], argTypes := #[91, 91] })
    (b o dLen dCap : Nat) (sp : Option Addr) (sLen sCap : Nat) (hd : a.eval d = .slice (some ⟨b, o, none⟩) dLen dCap) (hs : a.eval s = .slice sp sLen sCap) (cur : List Value) (t : TypeId) (hg : w.heap[b]? = some (.cells cur.toArray t (0, 0)))
    (cs : List Value) (hn : cs.length = Nat.min sLen dLen) (hpos : 0 < cs.length → ∃ ad, sp = some ad ∧ ∀ j v, cs[j]? = some v → w.cell? (ad.add j) = some v) (hfit : o + cs.length ≤ cur.length) (h1 : ∀ v ∈ cs, v.oneCell' = true)
    (h : ∀ W', Hid (W'.heap[b]? = some (.cells (splice cur o cs).toArray t (0, 0))) → Hid (∀ j, j ≠ b → W'.heap[j]? = w.heap[j]?) → Hid (Below b w W') → wpList Try.prog ops Q rest (a.put op.dst (goInt cs.length)) W') : wpList Try.prog ops Q (op :: rest) a w :=
  wpList_plain hgd fun _ hK => MC.wp_copy_seg d s ho b o dLen dCap sp sLen sCap hd hs cur t hg cs hn hpos hfit h1 (hK _ _ (h _ (setRow_heap _ _ _ _ _ _ hg) (fun j hj => setRow_other _ _ _ _ hj) (below_setRow (Below.refl _ _) (Nat.le_refl _) _)))

/-- The node i, as it lies. -/
def nodeB (l : List UInt8) (a i : Nat) : List UInt8 := MC.rdB l (a + 32 * i) 32
theorem nodeB_len {l : List UInt8} {a i n : Nat} (hl : l.length = 128 * n) (hw : witB n a = true) (hi : i < 256) : (nodeB l a i).length = 32 := by
  have := of_decide_eq_true hw
  unfold nodeB MC.rdB
  rw [List.length_take, List.length_drop, hl]
  omega
theorem wit_in {n a i : Nat} (hw : witB n a = true) (hi : i < 256) : MC.wIn n (a + 32 * i) 32 = true := by
  have := of_decide_eq_true hw
  exact decide_eq_true (.inr (by omega))
theorem wit_lt {n a i : Nat} (hw : witB n a = true) (hn : n ≤ 4096) (hi : i < 256) : a + 32 * i < 1000000 := by
  have := of_decide_eq_true hw
  omega
theorem place_any (a i : Nat) (w : World) (h : a + 32 * i < 1000000) : Calls Try.prog 46 #[.int .u64 (a : Int), .int .i64 (i : Int)] w fun e w' => e = .returned (.int .u64 ((a + 32 * i : Nat) : Int)) ∧ w' = w := by
  have h1 : IntKind.u64.wrap (i : Int) = (i : Int) := by rw [W1.wrap_u64]; omega
  have h2 : IntKind.u64.wrap (32 * (i : Int)) = ((32 * i : Nat) : Int) := by rw [W1.wrap_u64]; omega
  have h3 : IntKind.u64.wrap ((a : Int) + ((32 * i : Nat) : Int)) = ((a + 32 * i : Nat) : Int) := by rw [W1.wrap_u64]; omega
  generalize ((a + 32 * i : Nat) : Int) = z at *
  generalize ((32 * i : Nat) : Int) = y at *
  clear h
  go_enter Try.func46, Try.ntmps46
  go_wp2
  go_ret
  exact ⟨rfl, rfl⟩
set_option maxHeartbeats 2000000 in
set_option maxRecDepth 100000 in
theorem lies_any (mm gb n cap a i : Nat) (l : List UInt8) (w : World) (h : MC.PR w mm gb n cap l) (hw : witB n a = true) (hi : i < 256) :
    Calls Try.prog 40 #[.pointer (some ⟨mm, 0, none⟩), .int .u64 (a : Int), .int .i64 (i : Int)] w fun e w' => e = .returned (.agg ((nodeB l a i).map B8).toArray) ∧ Below w.heap.size w w' := by
  have hz := fun W => R5.zero_dig W
  obtain ⟨ZL, hZL⟩ : ∃ L, L = (List.replicate 32 (0 : UInt8)).map B8 := ⟨_, rfl⟩
  rw [← hZL] at hz
  have HZL : Hid (ZL.length = 32) := by show _ = _; rw [hZL]; simp
  have HZS : Hid (ZL.toArray.size = 32) := by show _ = _; rw [hZL]; simp
  clear hZL
  have hlt := wit_lt hw h.le hi
  have hNl := nodeB_len h.len hw hi
  have HPL : Hid (∀ W, Calls Try.prog 46 #[.int .u64 (a : Int), .int .i64 (i : Int)] W fun e w' => e = .returned (.int .u64 ((a + 32 * i : Nat) : Int)) ∧ w' = W) := fun W => place_any a i W hlt
  have HRD : Hid (∀ W, Below w.heap.size w W → Calls Try.prog 49 #[.pointer (some ⟨mm, 0, none⟩), .int .u64 ((a + 32 * i : Nat) : Int), .int .i64 32] W fun e w' => e = .returned (.tuple #[.slice (some ⟨W.heap.size, 0, none⟩) 32 32, .int .i64 0]) ∧ w'.heap[W.heap.size]? = some (.cells ((nodeB l a i).map B8).toArray 5 (0, 0)) ∧ Below W.heap.size W w') := fun W hW => MC.read_ok mm gb n cap (a + 32 * i) 32 l W (h.below hW) (by omega) (by decide) (wit_in hw hi)
  have HNL : Hid (((nodeB l a i).map B8).length = 32) := by show _ = _; simpa using hNl
  have HN1 : Hid (∀ v ∈ (nodeB l a i).map B8, v.oneCell' = true) := MC.B8_one _
  have HN2 : Hid _ := MC.B8_onea (nodeB l a i)
  generalize ((a + 32 * i : Nat) : Int) = AD at *
  generalize (nodeB l a i).map B8 = NL at *
  clear h hw hi hlt hNl
  obtain ⟨X0, hX0⟩ : ∃ X, X = (w.alloc (.cells ZL.toArray 23 (0, 0))).alloc (.cells ZL.toArray 23 (0, 0)) := ⟨_, rfl⟩
  have HB0 : Hid (Below w.heap.size w X0) := by rw [hX0]; exact ((Below.refl _ _).alloc (Nat.le_refl _) _).alloc (by simp) _
  have HR0 : Hid (X0.heap[w.heap.size]? = some (.cells ZL.toArray 23 (0, 0))) := by rw [hX0]; exact (heap_alloc_old _ _ (by simp)).trans (heap_alloc_new _ _)
  have HR1 : Hid (X0.heap[w.heap.size + 1]? = some (.cells ZL.toArray 23 (0, 0))) := by rw [hX0]; exact MC.heap_at _ _ _ (by simp)
  have HX0 : Hid (X0 = (w.alloc (.cells ZL.toArray 23 (0, 0))).alloc (.cells ZL.toArray 23 (0, 0))) := hX0
  have hsl := fun W => R5.sliceDig W (w.heap.size + 1) 0
  clear hX0
  go_enter Try.func40, Try.ntmps40
  go_wp2_with fail
  refine Calls.mono (HPL.out _) ?_
  rintro e W1 ⟨rfl, hy⟩
  rw [hy, ← HX0.out]
  clear hy W1 HPL
  go_wp2_with fail
  refine Calls.mono (HRD.out X0 HB0.out) ?_
  rintro e X1 ⟨rfl, hr, hb⟩
  have HRR : Hid (X1.rangeAt X0.heap.size 0 NL) := MC.rangeAt_row hr
  have HB1 : Hid (Below w.heap.size w X1) := HB0.out.trans (hb.mono HB0.out.size)
  have HQ0 : Hid (X1.heap[w.heap.size]? = some (.cells ZL.toArray 23 (0, 0))) := (hb.block _ (MC.row_lt HR0.out)).trans HR0.out
  have HQ1 : Hid (X1.heap[w.heap.size + 1]? = some (.cells ZL.toArray 23 (0, 0))) := (hb.block _ (MC.row_lt HR1.out)).trans HR1.out
  clear hr hb HRD HB0 HR0 HR1 HX0
  generalize X0.heap.size = nb at *
  go_wp2_with (first
    | (refine wpList_copy_seg rfl (.tmp 18) (.tmp 19) rfl (w.heap.size + 1) 0 32 32 (some ⟨nb, 0, none⟩) 32 32 rfl rfl ZL 23 HQ1.out NL (by rw [HNL.out]; rfl) (fun _ => ⟨_, rfl, fun j v hv => by rw [add_none]; exact HRR.out j v hv⟩) (by rw [HNL.out, HZL.out]; decide) HN1.out ?_
       intro X2 h1 h2 h3
       have HS1 : Hid (X2.heap[w.heap.size + 1]? = some (.cells NL.toArray 23 (0, 0))) := by have q := h1.out; rw [MC.splice_all _ _ (HNL.out.trans HZL.out.symm)] at q; exact q
       have HS0 : Hid (X2.heap[w.heap.size]? = some (.cells ZL.toArray 23 (0, 0))) := (h2.out _ (by omega)).trans HQ0.out
       have HB2 : Hid (Below w.heap.size w X2) := HB1.out.trans (h3.out.mono (by omega))
       clear h1 h2 h3)
    | (refine wpList_load_mid rfl 23 (.tmp 7) rfl (w.heap.size + 1) 0 rfl NL _ (MC.rangeAt_row HS1.out) Try.underlying23 rfl (R5.info32 NL HNL.out) ?_)
    | (refine wpList_store_row rfl 23 (.tmp 6) (.tmp 21) rfl w.heap.size NL.toArray rfl rfl 23 ZL.toArray HS0.out (R5.info32a _ (by simpa using HNL.out)) (HZS.out.trans (by simpa using HNL.out.symm)) HN2.out ?_))
  refine bodyPost_ret (v := .agg NL.toArray) ?_ rfl ⟨rfl, below_setRow HB2.out (Nat.le_refl _) _⟩
  exact results_cell_row Try.results40 _ _ w.heap.size 23 _ (0, 0) _ rfl (setRow_heap _ _ _ _ _ _ HS0.out) Try.underlying23 rfl (R5.info32a _ (by simpa using HNL.out))
section
variable {w X Y : World} {og mb rg mm gb rm bb n : Nat} {i : Bool} {m : List UInt8} {D : List (List UInt8)} {L L' R R' : Lg} {rows : Rws} {l1 l2 l' : List UInt8}
theorem TM.lies (h : TM w og mb rg i m D L R mm gb rm bb n l1 l2 rows X) (a k : Nat) (hw : witB n a = true) (hk : k < 256) : Calls Try.prog 40 #[.pointer (some ⟨mm, 0, none⟩), .int .u64 (a : Int), .int .i64 (k : Int)] X fun e Y => e = .returned (.agg ((nodeB l1 a k).map B8).toArray) ∧ TM w og mb rg i m D L R mm gb rm bb n l1 l2 rows Y :=
  (lies_any mm gb n n a k l1 X h.pm.pr hw hk).mono fun e Y ⟨h1, h2⟩ => ⟨h1, h.step h2⟩
end
set_option maxHeartbeats 2000000 in
set_option maxRecDepth 100000 in
theorem lay_any (mm gb n a i : Nat) (l d : List UInt8) (w : World) (h : MC.PM w mm gb n l) (hw : witB n a = true) (hi : i < 256) (hd : d.length = 32) :
    Calls Try.prog 33 #[.pointer (some ⟨mm, 0, none⟩), .int .u64 (a : Int), .int .i64 (i : Int), .agg (d.map B8).toArray] w fun e w' => e = .returned (.tuple #[]) ∧ MC.PM w' mm gb n (splice l (a + 32 * i) d) ∧ MC.KB gb w w' := by
  have hlt := wit_lt hw h.le hi
  obtain ⟨X0, hX0⟩ : ∃ X, X = (w.alloc (.cells (d.map B8).toArray 23 (0, 0))).drew := ⟨_, rfl⟩
  have hb0 : Below w.heap.size w X0 := by rw [hX0]; exact ((Below.refl _ _).alloc (Nat.le_refl _) _).drew
  have hr0 : X0.heap[w.heap.size]? = some (.cells (d.map B8).toArray 23 (0, 0)) := by rw [hX0]; exact heap_alloc_new _ _
  have hgb := MC.row_lt h.row
  have HPL : Hid (∀ W, Calls Try.prog 46 #[.int .u64 (a : Int), .int .i64 (i : Int)] W fun e w' => e = .returned (.int .u64 ((a + 32 * i : Nat) : Int)) ∧ w' = W) := fun W => place_any a i W hlt
  have HWR : Hid (Calls Try.prog 45 #[.pointer (some ⟨mm, 0, none⟩), .int .u64 ((a + 32 * i : Nat) : Int), .slice (some ⟨w.heap.size, 0, none⟩) 32 32] X0 fun e w' => e = .returned (.int .i64 0) ∧ MC.PM w' mm gb n (splice l (a + 32 * i) d) ∧ MC.KB gb X0 w') := MC.write_ok mm gb n (a + 32 * i) l d _ X0 (h.below hb0) (by omega) (by rw [hd]; exact wit_in hw hi) (fun W hW => MC.hb_range hd.symm (by omega) (by decide) (MC.rangeAt_row ((hW.2 _ (MC.row_lt hr0) (by omega)).trans hr0)))
  have HK0 : Hid (MC.KB gb w X0) := MC.KB.of (by omega) hb0
  have HX0 : Hid (X0 = (w.alloc (.cells (d.map B8).toArray 23 (0, 0))).drew) := hX0
  have hsl := fun W => R5.sliceDig W w.heap.size 0
  generalize hAD : ((a + 32 * i : Nat) : Int) = AD at *
  generalize splice l (a + 32 * i) d = NL at *
  generalize (d.map B8).toArray = DL at *
  clear hX0 hb0 hr0 hgb h hd hw hlt hAD
  go_enter Try.func33, Try.ntmps33
  go_wp2_with fail
  refine wp_region_held_drew (S := fun _ => True) (by kernel_rfl) trivial (fun hHeld => ?_)
  rw [← HX0.out]
  refine wpAnyH_take (i := 0) (oi := { dst := some 8, op := Go.Op.move (Go.Operand.tmp 0), type := 35, pos := _, after := #[], guard := none }) (v := .pointer (some ⟨mm, 0, none⟩)) rfl (by kernel_rfl) (by kernel_rfl) (by kernel_rfl) (fun _ _ _ h => h) (Or.inl ⟨by rfl, fun w' hw' => ?_⟩) hHeld ?_
  · first | (go_simp; done) | (go_simp; rfl)
  try simp only [Act.put, List.setIfInBounds_toArray, List.set_cons_zero, List.set_cons_succ]
  refine wpAnyH_take (i := 1) (oi := { dst := some 9, op := Go.Op.move (Go.Operand.tmp 1), type := 26, pos := _, after := #[], guard := none }) (v := .int .u64 (a : Int)) rfl (by kernel_rfl) (by kernel_rfl) (by kernel_rfl) (fun _ _ _ h => h) (Or.inl ⟨by rfl, fun w' hw' => ?_⟩) hHeld ?_
  · first | (go_simp; done) | (go_simp; rfl)
  try simp only [Act.put, List.setIfInBounds_toArray, List.set_cons_zero, List.set_cons_succ]
  refine wpAnyH_take (i := 2) (oi := { dst := some 10, op := Go.Op.move (Go.Operand.tmp 2), type := 3, pos := _, after := #[], guard := none }) (v := .int .i64 (i : Int)) rfl (by kernel_rfl) (by kernel_rfl) (by kernel_rfl) (fun _ _ _ h => h) (Or.inl ⟨by rfl, fun w' hw' => ?_⟩) hHeld ?_
  · first | (go_simp; done) | (go_simp; rfl)
  try simp only [Act.put, List.setIfInBounds_toArray, List.set_cons_zero, List.set_cons_succ]
  refine wpAnyH_take (i := 4) (oi := { dst := some 12, op := Go.Op.slice 23 (Go.Operand.tmp 7) none none none, type := 91, pos := _, after := #[], guard := none }) (v := .slice (some ⟨w.heap.size, 0, none⟩) 32 32) rfl (by kernel_rfl) (by kernel_rfl) (by kernel_rfl) (fun _ _ _ h => h) (Or.inl ⟨by rfl, fun w' hw' => ?_⟩) hHeld ?_
  · first | (go_simp; done) | (go_simp; rfl)
  try simp only [Act.put, List.setIfInBounds_toArray, List.set_cons_zero, List.set_cons_succ]
  refine wpAnyH_ready (rs := [3]) (by kernel_rfl) (by simp) ?_
  refine AllReadyH.cons (o := { dst := some 11, op := Go.Op.call { callee := Go.Callee.value (Go.Operand.func 46), args := #[Go.Operand.tmp 9, Go.Operand.tmp 10], argTypes := #[26, 3] }, type := 26, pos := _, after := #[{ on := 1, ground := Go.Ground.data }, { on := 2, ground := Go.Ground.data }], guard := none }) rfl (fun K hK => ?_) AllReadyH.nil
  rw [if_pos (by rfl)]
  go_wp2_with fail
  refine Calls.mono (HPL.out X0) ?_
  rintro e W1 ⟨rfl, hy⟩
  rw [hy]
  clear hy W1
  refine hK.out _ _ trivial (fun _ => ?_)
  clear hK K
  try simp only [Act.put, List.setIfInBounds_toArray, List.set_cons_zero, List.set_cons_succ]
  refine wpAnyH_ready (rs := [5]) (by kernel_rfl) (by simp) ?_
  refine AllReadyH.cons (o := { dst := some 13, op := Go.Op.call { callee := Go.Callee.value (Go.Operand.func 45), args := #[Go.Operand.tmp 8, Go.Operand.tmp 11, Go.Operand.tmp 12], argTypes := #[35, 26, 91] }, type := 40, pos := _, after := #[{ on := 0, ground := Go.Ground.data }, { on := 3, ground := Go.Ground.data }, { on := 4, ground := Go.Ground.data }, { on := 3, ground := Go.Ground.chain }], guard := none }) rfl (fun K hK => ?_) AllReadyH.nil
  rw [if_pos (by rfl)]
  go_wp2_with fail
  refine Calls.mono HWR.out ?_
  rintro e Y ⟨rfl, h1, h2⟩
  have HE : Hid (MC.PM Y mm gb n NL ∧ MC.KB gb w Y) := ⟨h1, HK0.out.trans h2⟩
  clear h1 h2
  refine hK.out _ _ trivial (fun _ => ?_)
  clear hK K
  try simp only [Act.put, List.setIfInBounds_toArray, List.set_cons_zero, List.set_cons_succ]
  refine wpAnyH_done (by kernel_rfl) ?_ _
  go_wp2
  go_end0
  exact ⟨rfl, HE.out⟩
section
variable {w X Y : World} {og mb rg mm gb rm bb n : Nat} {i : Bool} {m : List UInt8} {D : List (List UInt8)} {L L' R R' : Lg} {rows : Rws} {l1 l2 l' : List UInt8}
theorem TM.lay (h : TM w og mb rg i m D L R mm gb rm bb n l1 l2 rows X) (a k : Nat) (d : List UInt8) (hw : witB n a = true) (hk : k < 256) (hd : d.length = 32) : Calls Try.prog 33 #[.pointer (some ⟨mm, 0, none⟩), .int .u64 (a : Int), .int .i64 (k : Int), .agg (d.map B8).toArray] X fun e Y => e = .returned (.tuple #[]) ∧ TM w og mb rg i m D L R mm gb rm bb n (splice l1 (a + 32 * k) d) l2 rows Y :=
  (lay_any mm gb n a k l1 d X h.pm hw hk hd).mono fun e Y ⟨h1, h2, h3⟩ => ⟨h1, h.wr1 h2 h3⟩
end
end Go.Proofs.Ytnijjoankahddaa.DC
