/- report: what came in; the program's tables as the text lays them. -/
import Derived.Test.YtpklboicgjpmeaaDoorTb
import Derived.Test.YtpklboicgjpmeaaDoorCards
import Derived.Test.YtpklboicgjpmeaaDoorTie
import Derived.WalkKit
import Derived.ProofKit
import Derived.OpenShut
import Derived.Carry
import Derived.LaidMore
import Derived.Stop.Joined
import Derived.SevenTiedAt
set_option linter.unusedVariables false
set_option linter.unusedSimpArgs false
namespace Go.Proofs.YtpklboicgjpmeaaDoor.RB
open Go.RowKit

theorem bounds_u64 {z : Int} (h : (Lit.int .u64 z).wf = true) : 0 ≤ z ∧ z < 18446744073709551616 := by
  simp [Lit.wf, IntKind.min, IntKind.max, IntKind.signed, IntKind.bits] at h; omega
theorem bounds_u8 {z : Int} (h : (Lit.int .u8 z).wf = true) : 0 ≤ z ∧ z < 256 := by
  simp [Lit.wf, IntKind.min, IntKind.max, IntKind.signed, IntKind.bits] at h; omega
section
open Go.ChangeShapes Go.WideShapes Go.ChangeAt
set_option maxRecDepth 100000 in
theorem okWide_str {W : World} {r : Reach} {b0 : Nat} {k : TypeId} {fs : Array Field} {v : Value} (hu : Tryd.prog.underlying k = some (.struct fs)) (h : Value.okWide Tryd.prog W r b0 k v) : ∃ xs : Array Value, v = .agg xs := by
  simp only [Value.okWide, hu] at h
  obtain ⟨cs, h1, _⟩ := h
  exact ⟨cs, h1⟩
variable {H : Type} {enc : TypeId × Value → H} {w : World} {base : Nat} {held : Bool}
theorem mapM_ints {P : Program} {e : TypeId} {q : IntKind} {sp : Nat → Bool} (he : P.underlying e = some (.int q)) {m : Nat} {cs : List Value} : ∀ (L : List Nat) (ys : List (DataW H × List MemPlace)),
    L.mapM (fun i => DataW.trod enc P w base sp held m e ((cs.drop (i * 1)).take 1)) = some ys → ∀ i ∈ L, ∃ z, (cs.drop (i * 1)).take 1 = [.int q z] ∧ (Lit.int q z).wf = true
  | [], ys, h => by simp
  | i :: L, ys, h => by
    rw [List.mapM_cons] at h
    simp only [bind, Option.bind_eq_some_iff, pure, Option.some.injEq] at h
    obtain ⟨y, hy, ys', hys, rfl⟩ := h
    obtain ⟨a, ea, _, wa⟩ := DataW.trod_int he hy
    intro j hj
    rcases List.mem_cons.1 hj with rfl | hj
    · exact ⟨a, ea, wa⟩
    · exact mapM_ints he L ys' hys j hj
/-- The cells of an array of numbers. -/
theorem open_arr {k e : TypeId} {q : IntKind} {n : Nat} {cs : List Value} {fuel : Nat} {x : DataW H × List MemPlace} {sp : Nat → Bool} (hu : Tryd.prog.underlying k = some (.array n e)) (he : Tryd.prog.underlying e = some (.int q)) (hk : Tryd.prog.cellsOf k = n) (h1 : Tryd.prog.cellsOf e = 1)
    (h : DataW.trod enc Tryd.prog w base sp held fuel k cs = some x) : cs.length = n ∧ ∀ v ∈ cs, ∃ z, v = .int q z ∧ (Lit.int q z).wf = true := by
  cases fuel with
  | zero => simp [DataW.trod] at h
  | succ m =>
    rw [DataW.trod_step] at h
    unfold DataW.trodStep at h
    simp only [hu] at h
    by_cases hl : cs.length = Tryd.prog.cellsOf k
    · rw [if_pos hl] at h
      simp only [Option.map_eq_some_iff, h1] at h
      obtain ⟨ys, hy, e1⟩ := h
      have := mapM_ints he _ ys hy
      refine ⟨by rw [hl, hk], fun v hv => ?_⟩
      obtain ⟨i, hi, rfl⟩ := List.getElem_of_mem hv
      obtain ⟨z, e, hw⟩ := this i (by rw [hl, hk] at hi; simpa using hi)
      rw [Nat.mul_one, List.drop_eq_getElem_cons hi, List.take_succ_cons, List.take_zero] at e
      exact ⟨z, (List.cons.inj e).1, hw⟩
    · rw [if_neg hl] at h; cases h
theorem cells_u8 (cs : List Value) (h : ∀ v ∈ cs, ∃ z, v = .int .u8 z ∧ (Lit.int .u8 z).wf = true) : ∃ bs : List UInt8, cs = bs.map B8 := by
  induction cs with
  | nil => exact ⟨[], rfl⟩
  | cons v l ih =>
    obtain ⟨bs, hb⟩ := ih (fun u hu => h u (List.mem_cons_of_mem _ hu))
    obtain ⟨z, rfl, hw⟩ := h v (by simp)
    have hb8 := bounds_u8 hw
    refine ⟨UInt8.ofNat z.toNat :: bs, ?_⟩
    rw [List.map_cons, ← hb]
    congr 1
    unfold B8
    congr 1
    simp; omega
theorem split_at {l : List Value} (k n : Nat) (h : l.length = k + n) : l = (l.drop 0).take k ++ (l.drop k).take n := by
  rw [List.drop_zero, List.take_of_length_le (l := l.drop k) (by simp [h]), List.take_append_drop]
/-- A report that came in. -/
theorem open_rp {cs : List Value} {fuel : Nat} {x : DataW H × List MemPlace} (h : DataW.trod enc Tryd.prog w base (fun _ => true) held fuel 26 cs = some x) : ∃ r : Rp, cs = rL r ∧ r.ok := by
  cases fuel with
  | zero => simp [DataW.trod] at h
  | succ m =>
    rw [DataW.trod_step] at h
    unfold DataW.trodStep at h
    simp only [Tryd.underlying26] at h
    have hcell : Tryd.prog.cellsOf 26 = 65 := by kernel_rfl
    have c0 : Tryd.prog.cellsOf 24 = 32 := by kernel_rfl
    have c1 : Tryd.prog.cellsOf 22 = 1 := by kernel_rfl
    by_cases hl : cs.length = Tryd.prog.cellsOf 26
    · rw [if_pos hl] at h
      simp only [Option.map_eq_some_iff, List.mapM_cons, List.mapM_nil, bind, Option.bind_eq_some_iff, pure, Option.some.injEq, c0, c1] at h
      obtain ⟨ys, ⟨y0, h0, z0, ⟨y1, h1, z1, ⟨y2, h2, _⟩, _⟩, _⟩, _⟩ := h
      obtain ⟨k, e0, _, w0⟩ := DataW.trod_int Tryd.underlying22 h0
      obtain ⟨l1, p1⟩ := open_arr Tryd.underlying24 Tryd.underlying5 c0 (by kernel_rfl) h1
      obtain ⟨l2, p2⟩ := open_arr Tryd.underlying24 Tryd.underlying5 c0 (by kernel_rfl) h2
      obtain ⟨ms, hm⟩ := cells_u8 _ p1
      obtain ⟨ch, hc⟩ := cells_u8 _ p2
      have hk := bounds_u64 w0
      rw [hcell] at hl
      have a1 : cs.drop 33 = (cs.drop 1).drop 32 := by rw [List.drop_drop]
      have hs : cs = cs.take 1 ++ ((cs.drop 1).take 32 ++ (cs.drop 33).take 32) := by
        rw [List.take_of_length_le (l := cs.drop 33) (by simp [hl]), a1, List.take_append_drop, List.take_append_drop]
      have hm' : (cs.drop 1).take 32 = ms.map B8 := hm
      have hc' : (cs.drop 33).take 32 = ch.map B8 := hc
      have e0' : cs.take 1 = [.int .u64 k] := e0
      rw [hm] at l1
      rw [hc] at l2
      rw [hm', hc', e0'] at hs
      refine ⟨⟨k.toNat, ms, ch⟩, ?_, by show k.toNat < _; omega, by simpa using l1, by simpa using l2⟩
      rw [hs]
      unfold rL
      rw [show (((⟨k.toNat, ms, ch⟩ : Rp).inst : Nat) : Int) = k by show ((k.toNat : Nat) : Int) = k; omega]
      rfl
    · rw [if_neg hl] at h; cases h
theorem iface_cells {t : TypeId} {ms : Array (String × TypeId)} {cs : List Value} {fuel : Nat} {n : String} {d : DataW H} {p : List MemPlace} {sp : Nat → Bool} (hu : Tryd.prog.underlying t = some (.interface ms)) (h : DataW.trod enc Tryd.prog w base sp held fuel t cs = some (.iface n d, p)) : ∃ tp v, cs = [.iface tp v] := by
  cases fuel with
  | zero => simp [DataW.trod] at h
  | succ m =>
    rw [DataW.trod_step] at h
    unfold DataW.trodStep at h
    simp only [hu] at h
    match cs, h with
    | [.nilIface], h => simp at h
    | [.iface u v], h => exact ⟨u, v, rfl⟩
end
theorem own : ownKnob Tryd.prog.godebug = none := by kernel_rfl
theorem laidOut : laidOutB Tryd.prog = true := by kernel_rfl
/-- What the rows list. -/
def laidL : List (String × DataW Unit) := Rows.reportTellsRow.laid
theorem gTab : Tryd.prog.globalNamed Rows.tabN = some 0 := by kernel_rfl
theorem tTab : (Tryd.prog.globals[0]?).map (·.type) = some 101 := by kernel_rfl
theorem gEs : Tryd.prog.globalNamed "strconv.ErrSyntax" = some 2 := by kernel_rfl
theorem tEs : (Tryd.prog.globals[2]?).map (·.type) = some 76 := by kernel_rfl
theorem gEr : Tryd.prog.globalNamed "strconv.ErrRange" = some 3 := by kernel_rfl
theorem tEr : (Tryd.prog.globals[3]?).map (·.type) = some 76 := by kernel_rfl
/-- The door's own heap meets the condition. -/
theorem door_met (os : Os) (args : Array Value) : laidMetH Tryd.prog laidL ((World.doorLaid Tryd.prog 400 os).forCall (fun _ _ => 0) ⟨#[], args, []⟩).memory :=
  laidMetH_of_parts3 (fuel := 8) (laidMet_of_run' 8 (by kernel_rfl) (by kernel_rfl)) (by kernel_rfl) (by kernel_rfl)
theorem of_laid {W : World} (h : laidMetH Tryd.prog laidL W) : GV W := by
  rw [MakeChecks.laidMetH_plain _ _ _ (by kernel_rfl)] at h
  obtain ⟨ps, ⟨g0, t0, cs0, f0, p0, q0, hg0, ht0, hv0, hd0, ⟨g1, t1, cs1, f1, p1, q1, hg1, ht1, hv1, hd1, ⟨g2, t2, cs2, f2, p2, q2, hg2, ht2, hv2, hd2, ⟨g3, t3, cs3, f3, p3, q3, hg3, ht3, hv3, hd3, ⟨g4, t4, cs4, f4, p4, q4, hg4, ht4, hv4, hd4, _, _⟩, _⟩, _⟩, _⟩, _⟩, _, _⟩ := h
  obtain rfl := Option.some.inj (gTab.symm.trans hg2)
  obtain rfl := Option.some.inj (tTab.symm.trans ht2)
  obtain rfl := Option.some.inj (gEr.symm.trans hg3)
  obtain rfl := Option.some.inj (tEr.symm.trans ht3)
  obtain rfl := Option.some.inj (gEs.symm.trans hg4)
  obtain rfl := Option.some.inj (tEs.symm.trans ht4)
  refine ⟨?_, ?_, ?_⟩
  · unfold Lib.TabIs
    have := Lib.cells_of_tab (k := .u64) (zs := Lib.pow10Tab) Tryd.underlying101 Tryd.underlying22 (by kernel_rfl) (by kernel_rfl) hd2
    rw [← this]; exact hv2
  · obtain ⟨tp, v, e⟩ := iface_cells Tryd.underlying76 hd4
    exact ⟨tp, v, hv4.trans (by rw [← Array.toList_inj.1 (show cs4.toList = (#[Value.iface tp v]).toList from e)])⟩
  · obtain ⟨tp, v, e⟩ := iface_cells Tryd.underlying76 hd3
    exact ⟨tp, v, hv3.trans (by rw [← Array.toList_inj.1 (show cs3.toList = (#[Value.iface tp v]).toList from e)])⟩
end Go.Proofs.YtpklboicgjpmeaaDoor.RB
