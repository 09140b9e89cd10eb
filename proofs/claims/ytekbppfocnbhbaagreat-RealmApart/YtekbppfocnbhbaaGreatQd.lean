import Derived.Test.YtekbppfocnbhbaaGreatRs
import Derived.Shelf.SlIterI.Nil
import Derived.Shelf.SortM.Plain
import Derived.Shelf.SortM.SortNone
import Derived.Ground.GgzProg
import Derived.Ground.SlgmProg
import Derived.Test.YtekbppfocnbhbaaGreatProg
set_option linter.unusedVariables false
set_option linter.unusedSimpArgs false
set_option maxHeartbeats 16000000
set_option maxRecDepth 100000
namespace Go.Proofs.YtekbppfocnbhbaaGreat.XC
open Go.RowKit
open Go.ChangeMaps (setBlock)
def GO (w : World) (mb it : Nat) (l done : List En) : Prop :=
  ∃ es clock since seen c0, w.heap[mb]? = some (.map es clock) ∧ (es.toList.map fun e => (e.key, e.val)) = l.map itm ∧ MapKept.Stamped es clock ∧ w.heap[it]? = some (.mapIter (some mb) since seen c0) ∧ (∀ x ∈ es.toList, x.born < since) ∧ since ≤ c0 ∧ since ≤ clock ∧
    (∀ (j : Nat) (e : MapEntry) (x : En), es.toList[j]? = some e → l[j]? = some x → (seen.contains e.born = true ↔ x ∈ done)) ∧ (l.map (·.1)).Nodup
theorem MR.lenes {es : Array MapEntry} {l : List En} (h : (es.toList.map fun e => (e.key, e.val)) = l.map itm) : es.toList.length = l.length := by simpa using congrArg List.length h
def AllIn (l done : List En) : Prop := ∀ x ∈ l, x ∈ done
theorem go_start {w : World} {mb : Nat} {l : List En} (h : MR w mb l) : ∃ w', (Instr.range 78 (.map (some mb))).run Tryz.prog w = .ok (.pointer (some ⟨w.heap.size, 0, none⟩)) w' ∧ GO w' mb w.heap.size l [] ∧ Below w.heap.size w w' ∧ w'.heap.size = w.heap.size + 1 := by
  have hlt := h.lt
  obtain ⟨es, clock, hb, he, hs⟩ := h.ex
  have hst := (MapKept.stamped_iff es clock).1 hs
  refine ⟨_, run_range_map w _ _ _ mb es clock Tryz.underlying78 hb, ⟨es, clock, clock, #[], clock, (heap_alloc_old _ _ hlt).trans hb, he, hs, heap_alloc_new _ _, hst.1, Nat.le_refl _, Nat.le_refl _, fun j e x h1 h2 => by simp, h.once⟩, (Below.refl _ _).alloc (Nat.le_refl _) _, by simp⟩
theorem go_next {w : World} {mb it : Nat} {l done : List En} (h : GO w mb it l done) (ty : TypeId) :
    ((∀ x ∈ l, x ∈ done) ∧ (Instr.next (.pointer (some ⟨it, 0, none⟩)) false ty).run Tryz.prog w = .ok (.tuple #[.bool false]) w) ∨
    ∃ x w', x ∈ l ∧ x ∉ done ∧ (Instr.next (.pointer (some ⟨it, 0, none⟩)) false ty).run Tryz.prog w = .ok (.tuple #[.bool true, .int .i64 x.1, .agg (rmL x.2.1 x.2.2).toArray]) w' ∧ GO w' mb it l (done ++ [x]) ∧ w'.rangeLeft mb it < w.rangeLeft mb it ∧ w.grownBy w' (some it) ∧ w'.heap.size = w.heap.size ∧
      ∃ o1 o2, w'.heap[mb]? = some o1 ∧ w'.heap[it]? = some o2 ∧ ∀ V : World, V.heap[mb]? = some o1 → V.heap[it]? = some o2 → (Instr.entry (.pointer (some ⟨it, 0, none⟩))).run Tryz.prog V = .ok (.tuple #[.int .i64 x.1, .agg (rmL x.2.1 x.2.2).toArray]) V := by
  obtain ⟨es, clock, since, seen, c0, hb, he, hs, hr, hold, hsc, hsk, hseen, hnd⟩ := h
  have hst := (MapKept.stamped_iff es clock).1 hs
  have hne : it ≠ mb := fun e => by rw [e, hb] at hr; cases hr
  rcases run_next_at (P := Tryz.prog) w ty it mb since c0 seen es clock hr hb hold hsc with ⟨h0, hrun⟩ | ⟨e, hem, w1, hal, hrun⟩
  · refine .inl ⟨fun x hx => ?_, hrun⟩
    obtain ⟨j, hj⟩ := List.getElem?_of_mem hx
    have hjl : j < es.toList.length := by rw [MR.lenes he]; exact (List.getElem?_eq_some_iff.1 hj).1
    have hje := List.getElem?_eq_getElem hjl
    exact (hseen j _ x hje hj).1 (all_seen es seen h0 _ (List.getElem_mem hjl))
  · obtain ⟨hme, hnc⟩ := mem_left hem
    obtain ⟨j, hj⟩ := List.getElem?_of_mem hme
    obtain ⟨x, hx, e1, e2⟩ := MR.at he hj
    have hxl := List.mem_of_getElem? hx
    have hxd : x ∉ done := fun hd => by have := (hseen j e x hj hx).2 hd; rw [hnc] at this; cases this
    have hr1 : w1.heap = w.heap := by rcases hal with rfl | rfl <;> rfl
    have hlt : it < w1.heap.size := by rw [hr1]; exact (Array.getElem?_eq_some_iff.1 hr).1
    have hit : (setBlock w1 it (.mapIter (some mb) since (seen.push e.born) clock)).heap[it]? = some (.mapIter (some mb) since (seen.push e.born) clock) := by simp [setBlock, hlt]
    have hmb : (setBlock w1 it (.mapIter (some mb) since (seen.push e.born) clock)).heap[mb]? = some (.map es clock) := by
      simp only [setBlock, Array.getElem?_setIfInBounds]
      rw [if_neg hne, hr1]; exact hb
    have hev : e.val = .agg (rmL x.2.1 x.2.2).toArray := e2
    refine .inr ⟨x, _, hxl, hxd, by rw [← e1, ← hev]; exact hrun, ⟨es, clock, since, _, clock, hmb, he, hs, hit, hold, hsk, hsk, fun j' e' x' h1 h2 => ?_, hnd⟩, ?_, ⟨by rcases hal with rfl | rfl <;> rfl, by rcases hal with rfl | rfl <;> rfl, by rcases hal with rfl | rfl <;> rfl, by simp [setBlock, hr1], fun i hi hn => ?_⟩, by simp [setBlock, hr1], _, _, hmb, hit, fun V h1 h2 => ?_⟩
    · rw [contains_push, Bool.or_eq_true, hseen j' e' x' h1 h2, List.mem_append, List.mem_singleton]
      constructor
      · rintro (h | h)
        · exact .inl h
        · have h3 := born_inj hst.2.1 (List.mem_of_getElem? h1) hme (by simpa using h)
          subst h3
          have hjj : j' = j := by
            have n1 : (es.toList.map (·.born))[j']? = some e'.born := by rw [List.getElem?_map, h1]; rfl
            have n2 : (es.toList.map (·.born))[j]? = some e'.born := by rw [List.getElem?_map, hj]; rfl
            exact (List.getElem?_inj (by simpa using (List.getElem?_eq_some_iff.1 h1).1) hst.2.1).1 (n1.trans n2.symm)
          rw [hjj, hx] at h2
          exact .inr (Option.some.inj h2).symm
      · rintro (h | h)
        · exact .inl h
        · subst h
          have hjj := once_at hnd h2 hx rfl
          rw [hjj, hj] at h1
          have h3 := Option.some.inj h1
          exact .inr (by rw [h3]; simp)
    · have e3 : (setBlock w1 it (.mapIter (some mb) since (seen.push e.born) clock)).rangeLeft mb it = (leftOf es (seen.push e.born)).size := by unfold World.rangeLeft; rw [hmb, hit]
      have e4 : w.rangeLeft mb it = (leftOf es seen).size := by unfold World.rangeLeft; rw [hb, hr]
      rw [e3, e4]
      exact left_shrinks es seen e hem
    · simp only [setBlock, Array.getElem?_setIfInBounds]
      rw [if_neg (fun e => hn (by rw [e])), hr1]
    · have := run_entry_at (P := Tryz.prog) V it mb since seen es clock e h2 h1 hme hst.2.1
      rw [this, e1, hev]
structure NX (w w' : World) (mb it : Nat) (l done : List En) (rd : Int) (r : Rm) (lv : Value) : Prop where
  mem : (rd, r, lv) ∈ l
  new : (rd, r, lv) ∉ done
  go : GO w' mb it l (done ++ [(rd, r, lv)])
  lt : w'.rangeLeft mb it < w.rangeLeft mb it
  gr : w.grownBy w' (some it)
  sz : w'.heap.size = w.heap.size
  ent : ∃ o1 o2, w'.heap[mb]? = some o1 ∧ w'.heap[it]? = some o2 ∧ ∀ V : World, V.heap[mb]? = some o1 → V.heap[it]? = some o2 → (Instr.entry (.pointer (some ⟨it, 0, none⟩))).run Tryz.prog V = .ok (.tuple #[.int .i64 rd, .agg (rmL r lv).toArray]) V
section
variable {ops : Array Oper} {rest : List Oper} {o : Oper} {a : Act} {Q : Exit → Act → World → Prop} {w : World} {mb it : Nat} {l done : List En}
theorem wpList_go_range (hg : o.guard = none) (m : Operand) (hop : o.op = Op.range 78 m) (hm : a.eval m = .map (some mb)) (h : MR w mb l)
    (hK : ∀ w', GO w' mb w.heap.size l [] → Below w.heap.size w w' → w'.heap.size = w.heap.size + 1 → wpList Tryz.prog ops Q rest (a.put o.dst (.pointer (some ⟨w.heap.size, 0, none⟩))) w') : wpList Tryz.prog ops Q (o :: rest) a w := by
  refine wpList_plain hg fun K' hK' => ?_
  obtain ⟨w', hrun, r1, r2, r3⟩ := go_start h
  unfold Oper.wp
  simp [execOp, hop, hm, hrun, Result.andThen]
  exact hK' _ _ (hK w' r1 r2 r3)
theorem wpList_go_next (hg : o.guard = none) (m : Operand) (hop : o.op = Op.next m false) (hm : a.eval m = .pointer (some ⟨it, 0, none⟩)) (h : GO w mb it l done)
    (hD : AllIn l done → wpList Tryz.prog ops Q rest (a.put o.dst (.tuple #[.bool false])) w)
    (hM : ∀ (rd : Int) (r : Rm) (lv : Value) (w' : World), NX w w' mb it l done rd r lv → wpList Tryz.prog ops Q rest (a.put o.dst (.tuple #[.bool true, .int .i64 rd, .agg (rmL r lv).toArray])) w') : wpList Tryz.prog ops Q (o :: rest) a w := by
  refine wpList_plain hg fun K' hK' => ?_
  unfold Oper.wp
  rcases go_next h o.type with ⟨h0, hrun⟩ | ⟨x, w', h1, h2, hrun, h3, h4, h5, h6, h7⟩
  · simp [execOp, hop, hm, hrun, Result.andThen]
    exact hK' _ _ (hD h0)
  · simp [execOp, hop, hm, hrun, Result.andThen]
    exact hK' _ _ (hM x.1 x.2.1 x.2.2 w' ⟨h1, h2, h3, h4, h5, h6, h7⟩)
end
theorem GO.keep {w w' : World} {mb it : Nat} {l done : List En} (h : GO w mb it l done) (h1 : w'.heap[mb]? = w.heap[mb]?) (h2 : w'.heap[it]? = w.heap[it]?) : GO w' mb it l done := by
  obtain ⟨es, clock, since, seen, c0, q1, q2, q3, q4, q5⟩ := h
  exact ⟨es, clock, since, seen, c0, h1.trans q1, q2, q3, h2.trans q4, q5⟩
theorem GO.below {w w' : World} {mb it : Nat} {l done : List En} (h : GO w mb it l done) (hb : Below w.heap.size w w') : GO w' mb it l done := by
  have h' := h
  obtain ⟨es, clock, since, seen, c0, q1, q2, q3, q4, q5⟩ := h'
  exact h.keep (hb.block _ (PC.row_lt q1)) (hb.block _ (PC.row_lt q4))
theorem GO.left {w w' : World} {mb it : Nat} {l done : List En} (h : GO w mb it l done) (hb : Below w.heap.size w w') : w'.rangeLeft mb it = w.rangeLeft mb it := by
  obtain ⟨es, clock, since, seen, c0, q1, q2, q3, q4, q5⟩ := h
  unfold World.rangeLeft
  rw [hb.block _ (PC.row_lt q1), hb.block _ (PC.row_lt q4)]
def FD (l : List En) (i rd : Int) (b : Bool) : Prop := (b = true ∧ ∃ x ∈ l, x.1 = rd ∧ (x.2.1.inst : Int) = i) ∨ (b = false ∧ rd = 0 ∧ ∀ x ∈ l, (x.2.1.inst : Int) ≠ i)
def FEnd (X : World) (l : List En) (i : Int) (e : Ending) (Y : World) : Prop := ∃ rd b, e = .returned (.tuple #[.int .i64 rd, .bool b]) ∧ FD l i rd b ∧ Below X.heap.size X Y
section
variable {c : Cx} {tn last : Nat} {L R : Lg} {I : Nat → Prop} {X Y : World} {l : List En}
theorem find_any (h : JP c tn L R I X l last) (i : Int) : Calls Tryz.prog 15 #[.pointer (some ⟨c.xb, 0, none⟩), .int .u64 i] X fun e Y => FEnd X l i e Y := by
  have hz := fun W => zero_rm W
  obtain ⟨ZL, hZL⟩ : ∃ L, L = rmL zR (.slice none 0 0) := ⟨_, rfl⟩
  rw [← hZL] at hz
  have HZS : Hid (ZL.toArray.size = 103) := by show _ = _; rw [hZL]; simpa using rmL_len zR_ok _
  clear hZL
  have HLO : Hid _ := h.listO
  have HMR : Hid (∀ Y, Below X.heap.size X Y → MR Y c.mb l) := fun Y hb => (h.step hb).px.map
  have HOK : Hid (∀ x ∈ l, x.2.1.ok ∧ HR X x.2.2 x.2.1.log) := fun x hx => ⟨h.px.ok x hx, h.px.hr hx⟩
  clear h
  go_enter Tryz.func15, Tryz.ntmps15
  go_wp2_with fail
  refine Calls.mono HLO.out ?_
  rintro e w1 ⟨rfl, hb1⟩
  have hmr := HMR.out w1 hb1
  have HB1 : Hid (Below X.heap.size X w1) := hb1
  clear hb1 HLO HMR
  go_wp2_with (at_range; refine wpList_go_range rfl _ rfl rfl hmr ?_; intro w2 hgo hb2 hs2)
  go_frame
  have HB2 : Hid (Below X.heap.size X w2) := HB1.out.trans (hb2.mono HB1.out.size)
  have hit : X.heap.size ≤ w1.heap.size := HB1.out.size
  generalize w1.heap.size = it at *
  clear hmr hb2 hs2 HB1
  go_wp2
  go_loopw [4] (fun _ wr => ∃ done, GO wr c.mb it l done ∧ Below X.heap.size X wr ∧ ∀ x ∈ done, (x.2.1.inst : Int) ≠ i) (fun _ wr => wr.rangeLeft c.mb it)
  case atStart => exact ⟨[], hgo, HB2.out, fun x hx => (List.not_mem_nil hx).elim⟩
  case round =>
    clear hgo HB2
    obtain ⟨done, hgo, hb, hne⟩ := hrel
    generalize wr = W at *
    have HNE : Hid (∀ x ∈ done, (x.2.1.inst : Int) ≠ i) := hne
    have HB : Hid (Below X.heap.size X W) := hb
    have HGO : Hid (GO W c.mb it l done) := hgo
    clear hne hb hgo
    go_wp2_with (at_next; refine wpList_go_next rfl _ rfl rfl HGO.out ?_ ?_)
    · intro hall
      have HALL : Hid _ := hall
      clear hall
      go_wp2
      go_ret2
      exact ⟨0, false, rfl, .inr ⟨rfl, rfl, fun x hx => HNE.out x (HALL.out x hx)⟩, HB.out⟩
    · intro rd r lv W1 hnx
      obtain ⟨o1, o2, hm1, hm2, hen⟩ := hnx.ent
      have hb1 : Below X.heap.size X W1 := HB.out.grown hnx.gr HB.out.size (fun k e => by cases e; exact hit)
      obtain ⟨hok, hhr⟩ := HOK.out _ hnx.mem
      have HB1 : Hid (Below X.heap.size X W1) := hb1
      have HGO1 : Hid (GO W1 c.mb it l (done ++ [(rd, r, lv)])) := hnx.go
      have HX : Hid ((rd, r, lv) ∈ l) := hnx.mem
      have HLT : Hid (W1.rangeLeft c.mb it < W.rangeLeft c.mb it) := hnx.lt
      have hen1 := hen W1 hm1 hm2
      have HNN : Hid ((rmL r lv).length = 103) := rmL_len hok _
      have HN1 : Hid ((rmL r lv).toArray.all (·.oneCell') = true) := rmL_onea r hhr
      have HN0 : Hid ((rmL r lv)[0]? = some (.int .u64 (r.inst : Int))) := by show _ = _; rw [rmL_0]; rfl
      obtain ⟨NL, hNL⟩ : ∃ NL, NL = rmL r lv := ⟨_, rfl⟩
      rw [← hNL] at HNN HN1 hen1 HN0 ⊢
      have HNS : Hid (NL.toArray.size = 103) := by show _ = _; simpa using HNN.out
      have HNI : Hid ((Tryz.prog.info? 47).map (·.size) = some NL.toArray.size) := info103a _ HNS.out
      have HZM : Hid (ZL.toArray.size = NL.toArray.size) := HZS.out.trans HNS.out.symm
      obtain ⟨ins, hin⟩ : ∃ ins : Int, ins = (r.inst : Int) := ⟨_, rfl⟩
      rw [← hin] at HN0
      have HIN : Hid (ins = (r.inst : Int)) := hin
      obtain ⟨V4, hV4⟩ : ∃ V, V = (W1.alloc (.cells ZL.toArray 47 (0, 0))).setRow W1.heap.size NL.toArray := ⟨_, rfl⟩
      have HRA : Hid ((W1.alloc (.cells ZL.toArray 47 (0, 0))).heap[W1.heap.size]? = some (.cells ZL.toArray 47 (0, 0))) := heap_alloc_new _ _
      have HBS : Hid (Below W1.heap.size W1 V4) := by rw [hV4]; exact below_setRow ((Below.refl _ _).alloc (Nat.le_refl _) _) (Nat.le_refl _) _
      have hc0 : V4.cell? ⟨W1.heap.size, 0, none⟩ = some (.int .u64 ins) := by rw [hV4, cell_of_row _ _ 0 _ _ _ (setRow_heap _ _ _ _ _ _ HRA.out), List.getElem?_toArray]; exact HN0.out
      have HBE : Hid (Below X.heap.size X V4) := HB1.out.trans (HBS.out.mono HB1.out.size)
      clear hnx hm1 hm2 hen hok hhr hb1 hNL hin HGO HB
      go_wp2_with (refine wpList_store_row rfl 47 _ _ rfl W1.heap.size NL.toArray rfl rfl 47 ZL.toArray HRA.out HNI.out HZM.out HN1.out ?_; rw [← hV4]; clear hen1 hV4; by_cases hi : ins = i)
      · go_ret2
        exact ⟨rd, true, rfl, .inl ⟨rfl, _, HX.out, rfl, by rw [← HIN.out]; exact hi⟩, HBE.out⟩
      · go_roundw
        case rel => exact ⟨done ++ [(rd, r, lv)], HGO1.out.below HBS.out, HBE.out, fun y hy => by
          rcases List.mem_append.1 hy with hy | hy
          · exact HNE.out y hy
          · rw [List.mem_singleton.1 hy, ← HIN.out]; exact hi⟩
        case measure =>
          have := HLT.out
          have h2 := HGO1.out.left HBS.out
          show World.rangeLeft _ _ _ < World.rangeLeft _ _ _
          omega
end
end Go.Proofs.YtekbppfocnbhbaaGreat.XC
