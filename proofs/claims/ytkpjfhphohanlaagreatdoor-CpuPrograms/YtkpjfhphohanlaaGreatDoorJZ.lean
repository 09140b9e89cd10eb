/- cpu: what came in; the program's tables as the text lays them. -/
import Derived.Test.YtkpjfhphohanlaaGreatDoorJY
import Derived.Test.YtkpjfhphohanlaaGreatDoorCards
import Derived.Test.YtkpjfhphohanlaaGreatDoorTie
import Derived.WalkKit
import Derived.ProofKit
import Derived.OpenShut
import Derived.Carry
import Derived.LaidMore
import Derived.Stop.Joined
import Derived.SevenTiedAt
set_option linter.unusedVariables false
set_option linter.unusedSimpArgs false
namespace Go.Proofs.YtkpjfhphohanlaaGreatDoor.JC
open Go.RowKit
open Go.Proofs.YtkpjfhphohanlaaGreatDoor.EC (row_lt heap_at rangeAt_below rangeAt_row ret_bool ret_i64 beq_int)

theorem bounds_u64 {z : Int} (h : (Lit.int .u64 z).wf = true) : 0 ≤ z ∧ z < 18446744073709551616 := by
  simp [Lit.wf, IntKind.min, IntKind.max, IntKind.signed, IntKind.bits] at h; omega
section
open Go.ChangeShapes Go.WideShapes Go.ChangeAt
set_option maxRecDepth 100000 in
theorem okWide_str {W : World} {r : Reach} {b0 : Nat} {k : TypeId} {fs : Array Field} {v : Value} (hu : Tryz.prog.underlying k = some (.struct fs)) (h : Value.okWide Tryz.prog W r b0 k v) : ∃ xs : Array Value, v = .agg xs := by
  simp only [Value.okWide, hu] at h
  obtain ⟨cs, h1, _⟩ := h
  exact ⟨cs, h1⟩
variable {H : Type} {enc : TypeId × Value → H} {w : World} {base : Nat} {held : Bool}
theorem mapM_ints {P : Program} {e : TypeId} {q : IntKind} {sp : Nat → Bool} (he : P.underlying e = some (.int q)) {m : Nat} {cs : List Value} : ∀ (L : List Nat) (ys : List (DataW H × List MemPlace)),
    L.mapM (fun i => DataW.trod enc P w base sp held m e ((cs.drop (i * 1)).take 1)) = some ys → ∀ i ∈ L, ∃ z, (cs.drop (i * 1)).take 1 = [.int q z] ∧ (Lit.int q z).wf = true
  | [], ys, h => by simp
  | i :: L, ys, h => by
    rw [List.mapM_cons] at h
    simp only [bind, Option.bind_eq_some_iff, pure, Option.some.injEq] at h
    obtain ⟨y, hy, ys', hys, rfl⟩ := h
    obtain ⟨a, ea, _, wa⟩ := DataW.trod_int he hy
    intro j hj
    rcases List.mem_cons.1 hj with rfl | hj
    · exact ⟨a, ea, wa⟩
    · exact mapM_ints he L ys' hys j hj
/-- The cells of an array of numbers. -/
theorem open_arr {k e : TypeId} {q : IntKind} {n : Nat} {cs : List Value} {fuel : Nat} {x : DataW H × List MemPlace} {sp : Nat → Bool} (hu : Tryz.prog.underlying k = some (.array n e)) (he : Tryz.prog.underlying e = some (.int q)) (hk : Tryz.prog.cellsOf k = n) (h1 : Tryz.prog.cellsOf e = 1)
    (h : DataW.trod enc Tryz.prog w base sp held fuel k cs = some x) : cs.length = n ∧ ∀ v ∈ cs, ∃ z, v = .int q z ∧ (Lit.int q z).wf = true := by
  cases fuel with
  | zero => simp [DataW.trod] at h
  | succ m =>
    rw [DataW.trod_step] at h
    unfold DataW.trodStep at h
    simp only [hu] at h
    by_cases hl : cs.length = Tryz.prog.cellsOf k
    · rw [if_pos hl] at h
      simp only [Option.map_eq_some_iff, h1] at h
      obtain ⟨ys, hy, e1⟩ := h
      have := mapM_ints he _ ys hy
      refine ⟨by rw [hl, hk], fun v hv => ?_⟩
      obtain ⟨i, hi, rfl⟩ := List.getElem_of_mem hv
      obtain ⟨z, e, hw⟩ := this i (by rw [hl, hk] at hi; simpa using hi)
      rw [Nat.mul_one, List.drop_eq_getElem_cons hi, List.take_succ_cons, List.take_zero] at e
      exact ⟨z, (List.cons.inj e).1, hw⟩
    · rw [if_neg hl] at h; cases h
theorem cells_u (cs : List Value) (h : ∀ v ∈ cs, ∃ z, v = .int .u64 z ∧ (Lit.int .u64 z).wf = true) : ∃ bs : List Int, cs = bs.map U ∧ ∀ x ∈ bs, u64 x := by
  induction cs with
  | nil => exact ⟨[], rfl, fun x hx => by simp at hx⟩
  | cons v l ih =>
    obtain ⟨bs, hb, hx⟩ := ih (fun u hu => h u (List.mem_cons_of_mem _ hu))
    obtain ⟨z, rfl, hw⟩ := h v (by simp)
    refine ⟨z :: bs, by rw [List.map_cons, ← hb]; rfl, fun x hy => ?_⟩
    rcases List.mem_cons.1 hy with rfl | hy
    · exact bounds_u64 hw
    · exact hx x hy
theorem split_at {l : List Value} (k n : Nat) (h : l.length = k + n) : l = (l.drop 0).take k ++ (l.drop k).take n := by
  rw [List.drop_zero, List.take_of_length_le (l := l.drop k) (by simp [h]), List.take_append_drop]
/-- A state that came in. -/
theorem open_cpu {cs : List Value} {fuel : Nat} {x : DataW H × List MemPlace} (h : DataW.trod enc Tryz.prog w base (fun _ => true) held fuel 50 cs = some x) : ∃ s, cs = sL s ∧ swf s := by
  cases fuel with
  | zero => simp [DataW.trod] at h
  | succ m =>
    rw [DataW.trod_step] at h
    unfold DataW.trodStep at h
    simp only [Tryz.underlying50] at h
    have hcell : Tryz.prog.cellsOf 50 = 9 := by kernel_rfl
    have c0 : Tryz.prog.cellsOf 48 = 8 := by kernel_rfl
    have c1 : Tryz.prog.cellsOf 36 = 1 := by kernel_rfl
    by_cases hl : cs.length = Tryz.prog.cellsOf 50
    · rw [if_pos hl] at h
      simp only [Option.map_eq_some_iff, List.mapM_cons, List.mapM_nil, bind, Option.bind_eq_some_iff, pure, Option.some.injEq, c0, c1] at h
      obtain ⟨ys, ⟨y0, h0, z0, ⟨y1, h1, _⟩, _⟩, _⟩ := h
      obtain ⟨l0, p0⟩ := open_arr Tryz.underlying48 Tryz.underlying36 c0 c1 h0
      obtain ⟨bs, hb, hx⟩ := cells_u _ p0
      obtain ⟨k, e1, _, w1⟩ := DataW.trod_int Tryz.underlying36 h1
      rw [hcell] at hl
      have hs := split_at 8 1 hl
      rw [hb] at hs l0
      rw [e1] at hs
      exact ⟨⟨bs, k⟩, hs, by simpa using l0, hx, bounds_u64 w1⟩
    · rw [if_neg hl] at h; cases h
/-- An instruction that came in. -/
theorem open_ins {cs : List Value} {fuel : Nat} {x : DataW H × List MemPlace} (h : DataW.trod enc Tryz.prog w base (fun _ => true) held fuel 41 cs = some x) : ∃ i, cs = iL i ∧ iwf i := by
  cases fuel with
  | zero => simp [DataW.trod] at h
  | succ m =>
    rw [DataW.trod_step] at h
    unfold DataW.trodStep at h
    simp only [Tryz.underlying41] at h
    have hcell : Tryz.prog.cellsOf 41 = 5 := by kernel_rfl
    have c0 : Tryz.prog.cellsOf 39 = 1 := by kernel_rfl
    have c1 : Tryz.prog.cellsOf 3 = 1 := by kernel_rfl
    have c2 : Tryz.prog.cellsOf 2 = 1 := by kernel_rfl
    by_cases hl : cs.length = Tryz.prog.cellsOf 41
    · rw [if_pos hl] at h
      simp only [Option.map_eq_some_iff, List.mapM_cons, List.mapM_nil, bind, Option.bind_eq_some_iff, pure, Option.some.injEq, c0, c1, c2] at h
      obtain ⟨ys, ⟨y0, h0, z0, ⟨y1, h1, z1, ⟨y2, h2, z2, ⟨y3, h3, z3, ⟨y4, h4, _⟩, _⟩, _⟩, _⟩, _⟩, _⟩ := h
      obtain ⟨k0, e0, _, w0⟩ := DataW.trod_int Tryz.underlying39 h0
      obtain ⟨k1, e1, _, w1⟩ := DataW.trod_int Tryz.underlying3 h1
      obtain ⟨k2, e2, _, w2⟩ := DataW.trod_int Tryz.underlying3 h2
      obtain ⟨k3, e3, _, w3⟩ := DataW.trod_int Tryz.underlying3 h3
      obtain ⟨k4, e4, _, w4⟩ := DataW.trod_int Tryz.underlying2 h4
      rw [hcell] at hl
      match cs, hl with
      | [v0, v1, v2, v3, v4], _ =>
        simp at e0 e1 e2 e3 e4
        subst e0 e1 e2 e3 e4
        exact ⟨⟨k0, k1, k2, k3, k4⟩, rfl, w0, w1, w2, w3, w4⟩
    · rw [if_neg hl] at h; cases h
theorem iface_cells {t : TypeId} {ms : Array (String × TypeId)} {cs : List Value} {fuel : Nat} {n : String} {d : DataW H} {p : List MemPlace} {sp : Nat → Bool} (hu : Tryz.prog.underlying t = some (.interface ms)) (h : DataW.trod enc Tryz.prog w base sp held fuel t cs = some (.iface n d, p)) : ∃ tp v, cs = [.iface tp v] := by
  cases fuel with
  | zero => simp [DataW.trod] at h
  | succ m =>
    rw [DataW.trod_step] at h
    unfold DataW.trodStep at h
    simp only [hu] at h
    match cs, h with
    | [.nilIface], h => simp at h
    | [.iface u v], h => exact ⟨u, v, rfl⟩
end
theorem own : ownKnob Tryz.prog.godebug = none := by kernel_rfl
theorem laidOut : laidOutB Tryz.prog = true := by kernel_rfl
/-- What the rows list. -/
def laidL : List (String × DataW Unit) := Rows.cpuProgramsRow.laid
def namN : String := (laidL.map (fun x => x.1)).getD 5 default
theorem gNames : Tryz.prog.globalNamed namN = some 0 := by kernel_rfl
theorem tNames : (Tryz.prog.globals[0]?).map (·.type) = some 95 := by kernel_rfl
theorem gTab : Tryz.prog.globalNamed Rows.tabN = some 2 := by kernel_rfl
theorem tTab : (Tryz.prog.globals[2]?).map (·.type) = some 133 := by kernel_rfl
theorem gEs : Tryz.prog.globalNamed "strconv.ErrSyntax" = some 3 := by kernel_rfl
theorem tEs : (Tryz.prog.globals[3]?).map (·.type) = some 71 := by kernel_rfl
theorem gEr : Tryz.prog.globalNamed "strconv.ErrRange" = some 4 := by kernel_rfl
theorem tEr : (Tryz.prog.globals[4]?).map (·.type) = some 71 := by kernel_rfl
/-- The door's own heap meets the condition. -/
theorem door_met (os : Os) (args : Array Value) : laidMetH Tryz.prog laidL ((World.doorLaid Tryz.prog 400 os).forCall (fun _ _ => 0) ⟨#[], args, []⟩).memory :=
  laidMetH_of_parts3 (fuel := 8) (laidMet_of_run' 8 (by kernel_rfl) (by kernel_rfl)) (by kernel_rfl) (by kernel_rfl)
theorem str_of {s : ByteArray} {bs : List UInt8} (h : s.data.toList = bs) : s = ⟨bs.toArray⟩ := by
  cases s with
  | mk d => simp only at h; rw [← h]
theorem names_of {W : World} {f0 : Nat} {cs : Array Value} {p : List MemPlace} (hv : W.var? Tryz.prog namN = some cs) (hd : DataW.trod (fun _ => ()) Tryz.prog W 0 (fun _ => true) false f0 95 cs.toList = some (Rows.laid_anchorite_cpu_names, p)) : NT W := by
  obtain ⟨xs, m1, rfl, hx1, hlen, hn3, hel⟩ := DataW.trod_array Tryz.underlying95 hd
  have c1 : Tryz.prog.cellsOf 9 = 1 := by kernel_rfl
  have c7 : Tryz.prog.cellsOf 95 = 18 := by kernel_rfl
  have hx2 : xs.map (·.1) = nmL.map fun bs => (DataW.lit (.string bs) : DataW Unit) := by
    simp only [Prod.mk.injEq, Rows.laid_anchorite_cpu_names, DataW.agg.injEq] at hx1
    exact hx1.1.symm
  have hlen18 : nmL.length = 18 := rfl
  refine ⟨fun j v hj => ?_⟩
  have hj18 : j < 18 := by
    have := (List.getElem?_eq_some_iff.1 hj).1
    simp [nmV, hlen18] at this; exact this
  rw [nmV_get j hj18] at hj
  obtain rfl := Option.some.inj hj
  rw [Nat.zero_add, World.var?_cell gNames hv j]
  have he := hel j hj18
  have hb : (xs.map (·.1))[j]? = some (.lit (.string (nmL.getD j []))) := by
    rw [hx2, List.getElem?_map, List.getElem?_eq_getElem (by omega)]
    simp [List.getD, List.getElem?_eq_getElem (show j < nmL.length by omega)]
  rw [List.getElem?_map, Option.map_eq_some_iff] at hb
  obtain ⟨x, hx, hxb⟩ := hb
  rw [hx] at he
  obtain ⟨s, e1, e2, _⟩ := DataW.trod_string Tryz.underlying9 he
  rw [e2] at hxb
  have hs : s = ⟨(nmL.getD j []).toArray⟩ := str_of (by simpa using hxb)
  rw [c1, Nat.mul_one] at e1
  have hl : j < cs.toList.length := by rw [hlen, c7]; exact hj18
  rw [List.drop_eq_getElem_cons hl] at e1
  have e3 : cs.toList[j] = .string s := by simpa using e1
  rw [← Array.getElem?_toList, List.getElem?_eq_getElem hl, e3, hs]; rfl
theorem of_laid {W : World} (h : laidMetH Tryz.prog laidL W) : GV W := by
  rw [MakeChecks.laidMetH_plain _ _ _ (by kernel_rfl)] at h
  obtain ⟨ps, ⟨g0, t0, cs0, f0, p0, q0, hg0, ht0, hv0, hd0, ⟨g1, t1, cs1, f1, p1, q1, hg1, ht1, hv1, hd1, ⟨g2, t2, cs2, f2, p2, q2, hg2, ht2, hv2, hd2, ⟨g3, t3, cs3, f3, p3, q3, hg3, ht3, hv3, hd3, ⟨g4, t4, cs4, f4, p4, q4, hg4, ht4, hv4, hd4, ⟨g5, t5, cs5, f5, p5, q5, hg5, ht5, hv5, hd5, _, _⟩, _⟩, _⟩, _⟩, _⟩, _⟩, _, _⟩ := h
  obtain rfl := Option.some.inj (gNames.symm.trans hg5)
  obtain rfl := Option.some.inj (tNames.symm.trans ht5)
  obtain rfl := Option.some.inj (gTab.symm.trans hg2)
  obtain rfl := Option.some.inj (tTab.symm.trans ht2)
  obtain rfl := Option.some.inj (gEr.symm.trans hg3)
  obtain rfl := Option.some.inj (tEr.symm.trans ht3)
  obtain rfl := Option.some.inj (gEs.symm.trans hg4)
  obtain rfl := Option.some.inj (tEs.symm.trans ht4)
  refine ⟨names_of hv5 hd5, ?_, ?_, ?_⟩
  · unfold Lib.TabIs
    have := Lib.cells_of_tab (k := .u64) (zs := Lib.pow10Tab) Tryz.underlying133 Tryz.underlying36 (by kernel_rfl) (by kernel_rfl) hd2
    rw [← this]; exact hv2
  · obtain ⟨tp, v, e⟩ := iface_cells Tryz.underlying71 hd4
    exact ⟨tp, v, hv4.trans (by rw [← Array.toList_inj.1 (show cs4.toList = (#[Value.iface tp v]).toList from e)])⟩
  · obtain ⟨tp, v, e⟩ := iface_cells Tryz.underlying71 hd3
    exact ⟨tp, v, hv3.trans (by rw [← Array.toList_inj.1 (show cs3.toList = (#[Value.iface tp v]).toList from e)])⟩
end Go.Proofs.YtkpjfhphohanlaaGreatDoor.JC
