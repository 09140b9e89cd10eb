/- tree: the statements' two. -/
import Derived.Test.YtnijjoankahddaaGreatDR
set_option linter.unusedVariables false
set_option linter.unusedSimpArgs false
namespace Go.Proofs.YtnijjoankahddaaGreat.DC
open Go.RowKit

theorem caL_at (c : Ca) (dv fv : Value) (h : c.m.length = 32) (j : Nat) : (caL c dv fv)[33 + j]? = [dv, .int .i64 c.n, fv, .int .u64 (c.a : Int)][j]? := by
  unfold caL
  rw [show 33 + j = (32 + j) + 1 by omega, List.getElem?_cons_succ, List.getElem?_append_right (by simp [h])]
  simp [h]
theorem caL_m (c : Ca) (dv fv : Value) (h : c.m.length = 32) : ((caL c dv fv).drop 1).take 32 = c.m.map B8 := by
  unfold caL
  rw [List.drop_one, List.tail_cons, List.take_append_of_le_length (by simp [h]), List.take_of_length_le (by simp [h])]
theorem caL_len (c : Ca) (dv fv : Value) (h : c.m.length = 32) : (caL c dv fv).length = 37 := by unfold caL; simp [h]
set_option maxHeartbeats 4000000 in
set_option maxRecDepth 100000 in
theorem build_orG (w : World) (i : Bool) (DL : List Value) (h2 : DL.length = 32) (p : Option Addr) (n c : Nat) : (Instr.build 61 #[(0, .bool i), (1, .agg DL.toArray), (2, .slice p n c)]).run Tryz.prog w = .ok (.agg (.bool i :: (DL ++ [.slice p n c, .int .i64 0, .slice none 0 0])).toArray) w := by
  iterate 32 (obtain ⟨_, _, e, g⟩ := R5.cons_of h2; clear h2; subst e; have h2 := g; clear g)
  obtain rfl := List.eq_nil_of_length_eq_zero h2
  show _ = _
  kernel_rfl
/-- How two ends. -/
def TwEnd (w : World) (c : Ca) (n : Nat) (rows : Rws) (e : Ending) (Y : World) : Prop :=
  ∃ og mb rg mm gb rm bb, e = .returned (.tuple #[.pointer (some ⟨og, 0, none⟩), .pointer (some ⟨mm, 0, none⟩), .pointer (some ⟨rg, 0, none⟩), .pointer (some ⟨rm, 0, none⟩), .bool true]) ∧ TM w og mb rg c.i c.m c.D [] [] mm gb rm bb n (filled n c.F (min c.F.length n)) (filled n c.F (min c.F.length n)) rows Y
/-- Both sides begun, ahead of the loop. -/
theorem tw_start {w X X0 V1 V2 V3 V4 : World} {c : Ca} {dv fv dvo : Value} {n og mb mm gb rm bb : Nat} {rows : Rws} (hc : c.ok dv fv w) (hrows : RS w rows X) (hX : X0 = X.alloc (.cells (caL c dv fv).toArray 28 (0, 0)))
    (hpo : R5.PO X0.heap.size og mb (fun k => k = og ∨ k = mb) V1 ⟨c.i, c.m, c.D, []⟩ dvo (.slice none 0 0)) (hb1 : Below X0.heap.size X0 V1) (hdv : ∀ k, dvo.ownBlock = some k → X0.heap.size ≤ k)
    (hpm : MC.PM V2 mm gb n (List.replicate (128 * n) 0)) (hm1 : V1.heap.size ≤ mm) (hm2 : V1.heap.size ≤ gb) (hb2 : Below V1.heap.size V1 V2)
    (hV3 : V3 = V2.alloc (.cells (R5.oL c.i c.m dv 0 (.slice none 0 0)).toArray 61 (0, 0)))
    (hrm : MC.RM V4 rm bb n (List.replicate (128 * n) 0)) (hr1 : V3.heap.size ≤ rm) (hr2 : V3.heap.size ≤ bb) (hb4 : Below V3.heap.size V3 V4) :
    TM w og mb V2.heap.size c.i c.m c.D [] [] mm gb rm bb n (List.replicate (128 * n) 0) (List.replicate (128 * n) 0) ((X.heap.size, 28, caL c dv fv) :: rows) V4 := by
  have hs0 : X0.heap.size = X.heap.size + 1 := by rw [hX]; simp
  have hs3 : V3.heap.size = V2.heap.size + 1 := by rw [hV3]; simp
  have hx := hrows.bel.size
  have h1 := hb1.size
  have h2 := hb2.size
  have h4 := hb4.size
  have hb3 : Below V2.heap.size V2 V3 := by rw [hV3]; exact (Below.refl _ _).alloc (Nat.le_refl _) _
  have hb24 : Below V2.heap.size V2 V4 := hb3.trans (hb4.mono (by omega))
  have hb14 : Below V1.heap.size V1 V4 := hb2.trans (hb24.mono h2)
  have hr0 : RS w ((X.heap.size, 28, caL c dv fv) :: rows) X0 := by rw [hX]; exact hrows.alloc _ rfl _ _
  have hr4 : RS w ((X.heap.size, 28, caL c dv fv) :: rows) V4 := hr0.step (hb1.trans (hb14.mono h1))
  have hlt : ∀ r ∈ ((X.heap.size, 28, caL c dv fv) :: rows : Rws), r.1 < X0.heap.size := fun r hr => MC.row_lt (hr0.row r hr)
  have hmm := MC.row_lt hpm.head
  have hgb := MC.row_lt hpm.row
  have ne1 := hpm.ne
  have ne2 := hrm.ne
  have a1 : RS w ((mm, 118, [.slice (some ⟨gb, 0, none⟩) n n]) :: (X.heap.size, 28, caL c dv fv) :: rows) V4 := hr4.add (by omega) ((hb24.block _ hmm).trans hpm.head) (fun r hr => by have := hlt r hr; omega)
  have a2 : RS w ((gb, 76, (List.replicate (128 * n) (0 : UInt8)).map B8) :: (mm, 118, [.slice (some ⟨gb, 0, none⟩) n n]) :: (X.heap.size, 28, caL c dv fv) :: rows) V4 := a1.add (by omega) ((hb24.block _ hgb).trans hpm.row) (fun r hr => by
    rcases List.mem_cons.1 hr with rfl | hr
    · exact ne1
    · have := hlt r hr; omega)
  have a3 : RS w ((rm, 97, [.slice (some ⟨bb, 0, none⟩) (128 * n) (128 * n)]) :: (gb, 76, (List.replicate (128 * n) (0 : UInt8)).map B8) :: (mm, 118, [.slice (some ⟨gb, 0, none⟩) n n]) :: (X.heap.size, 28, caL c dv fv) :: rows) V4 := a2.add (by omega) hrm.head (fun r hr => by
    rcases List.mem_cons.1 hr with rfl | hr
    · show gb ≠ rm; omega
    · rcases List.mem_cons.1 hr with rfl | hr
      · show mm ≠ rm; omega
      · have := hlt r hr; omega)
  have a4 : RS w (mrows mm gb rm bb n (List.replicate (128 * n) 0) (List.replicate (128 * n) 0) ((X.heap.size, 28, caL c dv fv) :: rows)) V4 := a3.add (by omega) hrm.row (fun r hr => by
    rcases List.mem_cons.1 hr with rfl | hr
    · exact ne2
    · rcases List.mem_cons.1 hr with rfl | hr
      · show gb ≠ bb; omega
      · rcases List.mem_cons.1 hr with rfl | hr
        · show mm ≠ bb; omega
        · have := hlt r hr; omega)
  refine ⟨TB.start hpo hdv (by omega) hb14 hc.d (by omega) ((hb4.block _ (by omega)).trans (by rw [hV3]; exact heap_alloc_new _ _)) a4 (fun r hr => ?_) h1, hpm.len, hpm.len, hpm.pos, hpm.le⟩
  unfold mrows at hr
  rcases List.mem_cons.1 hr with rfl | hr
  · show bb ≠ V2.heap.size ∧ _; exact ⟨by omega, .inr (by show V1.heap.size ≤ bb; omega)⟩
  · rcases List.mem_cons.1 hr with rfl | hr
    · show rm ≠ V2.heap.size ∧ _; exact ⟨by omega, .inr (by show V1.heap.size ≤ rm; omega)⟩
    · rcases List.mem_cons.1 hr with rfl | hr
      · show gb ≠ V2.heap.size ∧ _; exact ⟨by omega, .inr hm2⟩
      · rcases List.mem_cons.1 hr with rfl | hr
        · show mm ≠ V2.heap.size ∧ _; exact ⟨by omega, .inr hm1⟩
        · have := hlt r hr; exact ⟨by omega, .inl this⟩
end Go.Proofs.YtnijjoankahddaaGreat.DC
