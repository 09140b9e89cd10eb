/- tree: a case, as cells; what both sides begin with. -/
import Derived.Test.YtnijjoankahddaaGreatDO
import Derived.Test.YtnijjoankahddaaGreatMK
set_option linter.unusedVariables false
set_option linter.unusedSimpArgs false
namespace Go.Proofs.YtnijjoankahddaaGreat.DC
open Go.RowKit

/-- A case. -/
structure Ca where
  i : Bool
  m : List UInt8
  D : List (List UInt8)
  n : Int
  F : List (List UInt8)
  a : Nat
def caL (c : Ca) (dv fv : Value) : List Value := .bool c.i :: (c.m.map B8 ++ [dv, .int .i64 c.n, fv, .int .u64 (c.a : Int)])
/-- Granules that can be read. -/
def HGs (w : World) (v : Value) (F : List (List UInt8)) : Prop := (∀ g ∈ F, g.length = 128) ∧ ∃ p cap, v = .slice p F.length cap ∧ ∀ k gl, F[k]? = some gl → ∃ b o, p = some ⟨b, o, none⟩ ∧ w.rangeAt b (o + k * 128) (gl.map B8)
theorem HGs.below {w w' : World} {v : Value} {F : List (List UInt8)} (h : HGs w v F) (hb : Below w.heap.size w w') : HGs w' v F := by
  obtain ⟨h1, p, cap, h2, h3⟩ := h
  refine ⟨h1, p, cap, h2, fun k gl hk => ?_⟩
  obtain ⟨b, o, h4, h5⟩ := h3 k gl hk
  exact ⟨b, o, h4, MC.rangeAt_below h5 hb⟩
structure Ca.ok (c : Ca) (dv fv : Value) (w : World) : Prop where
  m : c.m.length = 32
  d : R5.HDs w dv c.D
  f : HGs w fv c.F
  dn : ∀ p n cap, dv = .slice p n cap → p = none → cap = 0
  a : c.a < 18446744073709551616
theorem po_lower {B B' og mb : Nat} {S : Nat → Prop} {w : World} {o : R5.Pra} {dv ov : Value} (h : R5.PO B og mb S w o dv ov) (hB : B' ≤ B) : R5.PO B' og mb S w o dv ov :=
  ⟨h.ml, h.row, h.draws, h.dro, h.ok, R5.own_lower h.order hB, h.map, h.sog, h.smb, h.sov, fun k hk => Nat.le_trans hB (h.low k hk), h.top⟩
theorem RS.add {w X : World} {rows : Rws} {b : Nat} {t : TypeId} {M : List Value} (h : RS w rows X) (hb : w.heap.size ≤ b) (hr : X.heap[b]? = some (.cells M.toArray t (0, 0))) (hn : ∀ r ∈ rows, r.1 ≠ b) : RS w ((b, t, M) :: rows) X := by
  refine ⟨h.bel, fun r hr => ?_, ?_, fun r hr' => ?_⟩
  · rcases List.mem_cons.1 hr with rfl | hr
    · exact hb
    · exact h.low r hr
  · rw [List.map_cons, List.nodup_cons]
    refine ⟨fun hm => ?_, h.nd⟩
    obtain ⟨r, hr, e⟩ := List.mem_map.1 hm
    exact hn r hr e
  · rcases List.mem_cons.1 hr' with rfl | hr'
    · exact hr
    · exact h.row r hr'
/-- Both oracles at the start. -/
theorem TB.start {w V Y : World} {og mb rg : Nat} {i : Bool} {m : List UInt8} {D : List (List UInt8)} {rows : Rws} {dv v0 : Value} {x0 : Nat} (hpo : R5.PO x0 og mb (fun k => k = og ∨ k = mb) V ⟨i, m, D, []⟩ dv (.slice none 0 0)) (hdv : ∀ k, dv.ownBlock = some k → x0 ≤ k) (hx0 : w.heap.size ≤ x0) (hVY : Below V.heap.size V Y) (hD : R5.HDs w v0 D) (hrg : V.heap.size ≤ rg)
    (hr : Y.heap[rg]? = some (.cells (R5.oL i m v0 0 (.slice none 0 0)).toArray 61 (0, 0))) (hrows : RS w rows Y) (hout : ∀ r ∈ rows, r.1 ≠ rg ∧ (r.1 < x0 ∨ V.heap.size ≤ r.1)) (hV : x0 ≤ V.heap.size) : TB w og mb rg i m D [] [] rows Y := by
  have hrY := MC.row_lt hr
  have hus : (rrG i m D []).used = 0 := by unfold rrG; cases i <;> rfl
  have hS : ∀ k, (k = og ∨ k = mb) ∨ dv.ownBlock = some k → x0 ≤ k ∧ k < V.heap.size := fun k hk => hk.elim (fun hk => ⟨hpo.low k hk, hpo.top k hk⟩) (fun e => ⟨hdv k e, (hpo.dro k e).2⟩)
  refine ⟨⟨fun k => k = og ∨ k = mb, dv, .slice none 0 0, fun k => k = rg, v0, .slice none 0 0, [], (po_lower hpo hx0).below hVY, ⟨hpo.ml, by rw [hus]; exact hr, R5.hds_below hD hrows.bel, fun hne k e => ?_, ⟨fun e he => by simp [rrG] at he, rfl, World.ownsRow_nil _ _ _ _, fun i e d he => by simp [rrG] at he⟩, rfl, fun k e => by simp [Value.ownBlock] at e, fun d hd => by simp at hd, fun k hk => by rw [hk]; omega, fun k hk => by rw [hk]; exact hrY⟩, fun k hk hT => ?_, fun k e hT => ?_, fun r hr => ?_⟩, hrows⟩
  · have hne : D ≠ [] := hne
    obtain ⟨h0, p, cap, h1, h2⟩ := hD
    obtain ⟨b, o, hp, hr⟩ := h2 0 (List.length_pos_iff.2 hne)
    have hbk : b = k := by rw [h1, hp] at e; simpa [Value.ownBlock] using e
    have hl : (D.getD 0 []).length = 32 := by
      rw [List.getD_eq_getElem?_getD, List.getElem?_eq_getElem (List.length_pos_iff.2 hne)]
      exact h0 _ (List.getElem_mem _)
    have := block_lt (hr 0 (B8 ((D.getD 0 [])[0]'(by omega))) (by rw [List.getElem?_map, List.getElem?_eq_getElem (by omega)]; rfl))
    rw [← hbk]; exact this
  · have hT : k = rg := hT
    have := (hS k (.inl hk)).2; omega
  · have hT : k = rg := hT
    have := (hS k (.inr e)).2; omega
  · obtain ⟨h1, h2⟩ := hout r hr
    exact ⟨fun hk => by have := hS _ (.inl hk); omega, h1, fun e => by have := hS _ (.inr e); omega⟩
/-- The rows of both memories. -/
def mrows (mm gb rm bb n : Nat) (l1 l2 : List UInt8) (rows : Rws) : Rws := (bb, 5, l2.map B8) :: (rm, 97, [.slice (some ⟨bb, 0, none⟩) (128 * n) (128 * n)]) :: (gb, 76, l1.map B8) :: (mm, 118, [.slice (some ⟨gb, 0, none⟩) n n]) :: rows
/-- Both oracles, both memories of n granules, and rows of one's own. -/
structure TM (w : World) (og mb rg : Nat) (i : Bool) (m : List UInt8) (D : List (List UInt8)) (L R : Lg) (mm gb rm bb n : Nat) (l1 l2 : List UInt8) (rows : Rws) (X : World) : Prop where
  tb : TB w og mb rg i m D L R (mrows mm gb rm bb n l1 l2 rows) X
  len1 : l1.length = 128 * n
  len2 : l2.length = 128 * n
  pos : 1 ≤ n
  le : n ≤ 4096
section
variable {w X Y : World} {og mb rg mm gb rm bb n : Nat} {i : Bool} {m : List UInt8} {D : List (List UInt8)} {L L' R R' : Lg} {rows : Rws} {l1 l2 l' : List UInt8}
theorem TM.ne1 (h : TM w og mb rg i m D L R mm gb rm bb n l1 l2 rows X) : mm ≠ gb := by
  have := h.tb.rs.nd
  intro e
  subst e
  simp [mrows] at this
theorem TM.ne2 (h : TM w og mb rg i m D L R mm gb rm bb n l1 l2 rows X) : rm ≠ bb := by
  have := h.tb.rs.nd
  intro e
  subst e
  simp [mrows] at this
theorem TM.pm (h : TM w og mb rg i m D L R mm gb rm bb n l1 l2 rows X) : MC.PM X mm gb n l1 := ⟨h.tb.rs.at 3 rfl, h.tb.rs.at 2 rfl, h.len1, h.pos, h.le, h.ne1⟩
theorem TM.rmem (h : TM w og mb rg i m D L R mm gb rm bb n l1 l2 rows X) : MC.RM X rm bb n l2 := ⟨h.tb.rs.at 1 rfl, h.tb.rs.at 0 rfl, h.len2, h.pos, h.le, h.ne2⟩
theorem TM.step (h : TM w og mb rg i m D L R mm gb rm bb n l1 l2 rows X) (hb : Below X.heap.size X Y) : TM w og mb rg i m D L R mm gb rm bb n l1 l2 rows Y := ⟨h.tb.step hb, h.len1, h.len2, h.pos, h.le⟩
theorem TM.there (h : TM w og mb rg i m D L R mm gb rm bb n l1 l2 rows X) : There og mb mm n X := ⟨h.tb.mc, ⟨_, _, h.pm.cell⟩, h.le, h.pos⟩
/-- The program's memory was written. -/
theorem TM.wr1 (h : TM w og mb rg i m D L R mm gb rm bb n l1 l2 rows X) (hp : MC.PM Y mm gb n l') (hk : MC.KB gb X Y) : TM w og mb rg i m D L R mm gb rm bb n l' l2 rows Y :=
  ⟨h.tb.other 2 rfl hp.row ⟨hk.1.os.trans h.tb.bel.os, hk.1.tape.trans h.tb.bel.tape, hk.1.output.trans h.tb.bel.output, Nat.le_trans h.tb.bel.size hk.1.size, fun j hj => (hk.1.block j (Nat.lt_of_lt_of_le hj (h.tb.rs.lowAt 2 rfl))).trans (h.tb.bel.block j hj)⟩ hk.1.size (fun j hj hne => hk.2 j hj hne), hp.len, h.len2, h.pos, h.le⟩
/-- The document's was. -/
theorem TM.wr2 (h : TM w og mb rg i m D L R mm gb rm bb n l1 l2 rows X) (hp : MC.RM Y rm bb n l') (hk : MC.KB bb X Y) : TM w og mb rg i m D L R mm gb rm bb n l1 l' rows Y :=
  ⟨h.tb.other 0 rfl hp.row ⟨hk.1.os.trans h.tb.bel.os, hk.1.tape.trans h.tb.bel.tape, hk.1.output.trans h.tb.bel.output, Nat.le_trans h.tb.bel.size hk.1.size, fun j hj => (hk.1.block j (Nat.lt_of_lt_of_le hj (h.tb.rs.lowAt 0 rfl))).trans (h.tb.bel.block j hj)⟩ hk.1.size (fun j hj hne => hk.2 j hj hne), h.len1, hp.len, h.pos, h.le⟩
theorem TM.put (h : TM w og mb rg i m D L R mm gb rm bb n l1 l2 rows X) (g : Nat) (gl : List UInt8) (hg : g < n) (hgl : gl.length = 128) : Calls Tryz.prog 37 #[.pointer (some ⟨mm, 0, none⟩), .int .i64 (g : Int), .agg (gl.map B8).toArray] X fun e Y => e = .returned (.int .i64 0) ∧ TM w og mb rg i m D L R mm gb rm bb n (splice l1 (128 * g) gl) l2 rows Y :=
  (MC.put_ok mm gb n g l1 gl X h.pm hg hgl).mono fun e Y ⟨h1, h2, h3⟩ => ⟨h1, h.wr1 h2 h3⟩
theorem TM.rput (h : TM w og mb rg i m D L R mm gb rm bb n l1 l2 rows X) (g : Nat) (gl : List UInt8) (hg : g < n) (hgl : gl.length = 128) : Calls Tryz.prog 38 #[.pointer (some ⟨rm, 0, none⟩), .int .i64 (g : Int), .agg (gl.map B8).toArray] X fun e Y => (∃ v, e = .returned v) ∧ TM w og mb rg i m D L R mm gb rm bb n l1 (splice l2 (128 * g) gl) rows Y :=
  (MC.rput_ok rm bb n g l2 gl X h.rmem hg hgl).mono fun e Y ⟨h1, h2, h3⟩ => ⟨h1, h.wr2 h2 h3⟩
end
/-- Memory, its first k granules filled. -/
def filled (n : Nat) (F : List (List UInt8)) : Nat → List UInt8
  | 0 => List.replicate (128 * n) 0
  | k + 1 => splice (filled n F k) (128 * k) (F.getD k [])
end Go.Proofs.YtnijjoankahddaaGreat.DC
