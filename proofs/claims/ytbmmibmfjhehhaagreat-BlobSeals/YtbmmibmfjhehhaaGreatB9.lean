/- Contracts of ref 5's Same, May. -/
import Derived.Test.YtbmmibmfjhehhaaGreatWa
import Derived.Test.YtbmmibmfjhehhaaGreatWh
set_option linter.unusedVariables false
set_option linter.unusedSimpArgs false
namespace Go.Proofs.YtbmmibmfjhehhaaGreat.R5
open scoped Classical
open Go.RowKit

theorem q_facts {w : World} {b : Nat} {q : Qn} {dv : Value} {t : TypeId} {fr : Nat × Nat} (hk : q.key.length = 32) (h : w.heap[b]? = some (.cells (qL q dv).toArray t fr)) :
    w.cell? ⟨b, 0, none⟩ = some (.int .i64 q.kind) ∧ w.rangeAt b 1 (q.key.map B8) ∧ w.cell? ⟨b, 33, none⟩ = some (.int .i64 q.dom) ∧ w.cell? ⟨b, 34, none⟩ = some dv := by
  refine ⟨?_, fun j v hv => ?_, ?_, ?_⟩
  · rw [cell_of_row _ _ 0 _ _ _ h]; exact qL_0 q dv
  · rw [cell_of_row _ _ (1 + j) _ _ _ h]; exact qL_key q dv hk j v hv
  · rw [cell_of_row _ _ 33 _ _ _ h]; exact qL_33 q dv hk
  · rw [cell_of_row _ _ 34 _ _ _ h]; exact qL_34 q dv hk

set_option maxHeartbeats 4000000 in
set_option maxRecDepth 100000 in
theorem qsame_any (va vb : Value) (p q : Qn) (w : World) (ha : HQ w va p) (hb : HQ w vb q) : Calls Tryz.prog 27 #[va, vb] w fun e w' => e = .returned (.bool (decide (p = q))) ∧ Below w.heap.size w w' := by
  obtain ⟨hpk, da, rfl, hda⟩ := ha
  obtain ⟨hqk, db, rfl, hdb⟩ := hb
  have HB0 : Hid (Below w.heap.size w ((w.alloc (.cells (qL p da).toArray 66 (0, 0))).alloc (.cells (qL q db).toArray 66 (0, 0)))) := ((Below.refl _ _).alloc (Nat.le_refl _) _).alloc (by simp) _
  have c1 := conv_hb _ da p.data (hb_alloc (hb_alloc hda (.cells (qL p da).toArray 66 (0, 0))) (.cells (qL q db).toArray 66 (0, 0)))
  have c2 := conv_hb _ db q.data (hb_alloc (hb_alloc hdb (.cells (qL p da).toArray 66 (0, 0))) (.cells (qL q db).toArray 66 (0, 0)))
  obtain ⟨a0, a1, a2, a3⟩ := q_facts hpk (alloc2_first w (.cells (qL p da).toArray 66 (0, 0)) (.cells (qL q db).toArray 66 (0, 0)))
  obtain ⟨b0, b1, b2, b3⟩ := q_facts (b := w.heap.size + 1) hqk (heap_at (w.alloc (.cells (qL p da).toArray 66 (0, 0))) (.cells (qL q db).toArray 66 (0, 0)) _ (by simp))
  have hq := fun W => eql_digest W p.key q.key hpk hqk
  have HTX : Hid (((txt p.data).toList == (txt q.data).toList) = decide (p.data = q.data)) := txt_beq p.data q.data
  obtain ⟨k1, y1, d1, x1⟩ := p
  obtain ⟨k2, y2, d2, x2⟩ := q
  simp only at *
  have HI1 : Hid _ := info32 (y1.map B8) (by simpa using hpk)
  have HI2 : Hid _ := info32 (y2.map B8) (by simpa using hqk)
  have HA1 : Hid _ := a1
  have HB1 : Hid _ := b1
  generalize (qL ⟨k1, y1, d1, x1⟩ da).toArray = PA at *
  generalize (qL ⟨k2, y2, d2, x2⟩ db).toArray = QA at *
  clear a1 b1 hpk hqk hda hdb
  by_cases h1 : k1 = k2
  · have g1 : (k1 == k2) = true := by simp [h1]
    by_cases h2 : y1 = y2
    · have g2 : (y1 == y2) = true := by simp [h2]
      rw [g2] at hq
      by_cases h3 : d1 = d2
      · have g3 : (d1 == d2) = true := by simp [h3]
        have HE : Hid (decide ((⟨k1, y1, d1, x1⟩ : Qn) = ⟨k2, y2, d2, x2⟩) = decide (x1 = x2)) := by show _ = _; simp [h1, h2, h3]
        clear h1 h2 h3 g2
        go_enter Tryz.func27, Tryz.ntmps27
        go_wp2_with (first
          | (refine load_mid_g (by rfl) 23 _ rfl w.heap.size 1 rfl (y1.map B8) _ HA1.out Tryz.underlying23 rfl HI1.out ?_)
          | (refine load_mid_g (by rfl) 23 _ rfl (w.heap.size + 1) 1 rfl (y2.map B8) _ HB1.out Tryz.underlying23 rfl HI2.out ?_))
        go_ret
        refine ⟨?_, HB0.out⟩
        rw [HE.out, ← HTX.out]
        rfl
      · have g3 : (d1 == d2) = false := by simp [h3]
        have HE : Hid (decide ((⟨k1, y1, d1, x1⟩ : Qn) = ⟨k2, y2, d2, x2⟩) = false) := by show _ = _; simp [h3]
        clear h1 h2 h3 g2
        go_enter Tryz.func27, Tryz.ntmps27
        go_wp2_with (first
          | (refine load_mid_g (by rfl) 23 _ rfl w.heap.size 1 rfl (y1.map B8) _ HA1.out Tryz.underlying23 rfl HI1.out ?_)
          | (refine load_mid_g (by rfl) 23 _ rfl (w.heap.size + 1) 1 rfl (y2.map B8) _ HB1.out Tryz.underlying23 rfl HI2.out ?_))
        go_ret
        exact ⟨by rw [HE.out]; rfl, HB0.out⟩
    · have g2 : (y1 == y2) = false := by simp [h2]
      rw [g2] at hq
      have HE : Hid (decide ((⟨k1, y1, d1, x1⟩ : Qn) = ⟨k2, y2, d2, x2⟩) = false) := by show _ = _; simp [h2]
      clear h1 h2 g2
      go_enter Tryz.func27, Tryz.ntmps27
      go_wp2_with (first
        | (refine load_mid_g (by rfl) 23 _ rfl w.heap.size 1 rfl (y1.map B8) _ HA1.out Tryz.underlying23 rfl HI1.out ?_)
        | (refine load_mid_g (by rfl) 23 _ rfl (w.heap.size + 1) 1 rfl (y2.map B8) _ HB1.out Tryz.underlying23 rfl HI2.out ?_))
      go_ret
      exact ⟨by rw [HE.out]; rfl, HB0.out⟩
  · have g1 : (k1 == k2) = false := by simp [h1]
    have HE : Hid (decide ((⟨k1, y1, d1, x1⟩ : Qn) = ⟨k2, y2, d2, x2⟩) = false) := by show _ = _; simp [h1]
    clear h1
    go_enter Tryz.func27, Tryz.ntmps27
    go_wp2
    go_ret
    exact ⟨by rw [HE.out]; rfl, HB0.out⟩

end Go.Proofs.YtbmmibmfjhehhaaGreat.R5
