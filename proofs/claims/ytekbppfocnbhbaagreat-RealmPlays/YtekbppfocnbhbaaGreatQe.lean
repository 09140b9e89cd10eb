/- realm: All. -/
import Derived.Test.YtekbppfocnbhbaaGreatRt
import Derived.Shelf.SlIterI.Nil
import Derived.Shelf.SortM.Plain
import Derived.Shelf.SortM.SortNone
import Derived.Ground.GgzProg
import Derived.Ground.SlgmProg
import Derived.Test.YtekbppfocnbhbaaGreatProg
import Derived.Test.YtekbppfocnbhbaaGreatQM
import Derived.RangeFuncLeaves
import Derived.RangeFuncMany
import Derived.Test.YtekbppfocnbhbaaGreatXW
import Derived.Shelf.SlMaps.Clone
import Derived.Test.YtekbppfocnbhbaaGreatXX
set_option linter.unusedVariables false
set_option linter.unusedSimpArgs false
namespace Go.Proofs.YtekbppfocnbhbaaGreat.XC
open Go.RowKit
open Go.ChangeMaps (setBlock)

def GO (w : World) (mb it : Nat) (l done : List En) : Prop :=
  ∃ es clock since seen c0, w.heap[mb]? = some (.map es clock) ∧ (es.toList.map fun e => (e.key, e.val)) = l.map itm ∧ MapKept.Stamped es clock ∧ w.heap[it]? = some (.mapIter (some mb) since seen c0) ∧ (∀ x ∈ es.toList, x.born < since) ∧ since ≤ c0 ∧ since ≤ clock ∧
    (∀ (j : Nat) (e : MapEntry) (x : En), es.toList[j]? = some e → l[j]? = some x → (seen.contains e.born = true ↔ x ∈ done)) ∧ (l.map (·.1)).Nodup
theorem MR.lenes {es : Array MapEntry} {l : List En} (h : (es.toList.map fun e => (e.key, e.val)) = l.map itm) : es.toList.length = l.length := by simpa using congrArg List.length h
def AllIn (l done : List En) : Prop := ∀ x ∈ l, x ∈ done
theorem go_start {w : World} {mb : Nat} {l : List En} (h : MR w mb l) : ∃ w', (Instr.range 78 (.map (some mb))).run Tryz.prog w = .ok (.pointer (some ⟨w.heap.size, 0, none⟩)) w' ∧ GO w' mb w.heap.size l [] ∧ Below w.heap.size w w' ∧ w'.heap.size = w.heap.size + 1 := by
  have hlt := h.lt
  obtain ⟨es, clock, hb, he, hs⟩ := h.ex
  have hst := (MapKept.stamped_iff es clock).1 hs
  refine ⟨_, run_range_map w _ _ _ mb es clock Tryz.underlying78 hb, ⟨es, clock, clock, #[], clock, (heap_alloc_old _ _ hlt).trans hb, he, hs, heap_alloc_new _ _, hst.1, Nat.le_refl _, Nat.le_refl _, fun j e x h1 h2 => by simp, h.once⟩, (Below.refl _ _).alloc (Nat.le_refl _) _, by simp⟩
theorem go_next {w : World} {mb it : Nat} {l done : List En} (h : GO w mb it l done) (ty : TypeId) :
    ((∀ x ∈ l, x ∈ done) ∧ (Instr.next (.pointer (some ⟨it, 0, none⟩)) false ty).run Tryz.prog w = .ok (.tuple #[.bool false]) w) ∨
    ∃ x w', x ∈ l ∧ x ∉ done ∧ (Instr.next (.pointer (some ⟨it, 0, none⟩)) false ty).run Tryz.prog w = .ok (.tuple #[.bool true, .int .i64 x.1, .agg (rmL x.2.1 x.2.2).toArray]) w' ∧ GO w' mb it l (done ++ [x]) ∧ w'.rangeLeft mb it < w.rangeLeft mb it ∧ w.grownBy w' (some it) ∧ w'.heap.size = w.heap.size ∧
      ∃ o1 o2, w'.heap[mb]? = some o1 ∧ w'.heap[it]? = some o2 ∧ ∀ V : World, V.heap[mb]? = some o1 → V.heap[it]? = some o2 → (Instr.entry (.pointer (some ⟨it, 0, none⟩))).run Tryz.prog V = .ok (.tuple #[.int .i64 x.1, .agg (rmL x.2.1 x.2.2).toArray]) V := by
  obtain ⟨es, clock, since, seen, c0, hb, he, hs, hr, hold, hsc, hsk, hseen, hnd⟩ := h
  have hst := (MapKept.stamped_iff es clock).1 hs
  have hne : it ≠ mb := fun e => by rw [e, hb] at hr; cases hr
  rcases run_next_at (P := Tryz.prog) w ty it mb since c0 seen es clock hr hb hold hsc with ⟨h0, hrun⟩ | ⟨e, hem, w1, hal, hrun⟩
  · refine .inl ⟨fun x hx => ?_, hrun⟩
    obtain ⟨j, hj⟩ := List.getElem?_of_mem hx
    have hjl : j < es.toList.length := by rw [MR.lenes he]; exact (List.getElem?_eq_some_iff.1 hj).1
    have hje := List.getElem?_eq_getElem hjl
    exact (hseen j _ x hje hj).1 (all_seen es seen h0 _ (List.getElem_mem hjl))
  · obtain ⟨hme, hnc⟩ := mem_left hem
    obtain ⟨j, hj⟩ := List.getElem?_of_mem hme
    obtain ⟨x, hx, e1, e2⟩ := MR.at he hj
    have hxl := List.mem_of_getElem? hx
    have hxd : x ∉ done := fun hd => by have := (hseen j e x hj hx).2 hd; rw [hnc] at this; cases this
    have hr1 : w1.heap = w.heap := by rcases hal with rfl | rfl <;> rfl
    have hlt : it < w1.heap.size := by rw [hr1]; exact (Array.getElem?_eq_some_iff.1 hr).1
    have hit : (setBlock w1 it (.mapIter (some mb) since (seen.push e.born) clock)).heap[it]? = some (.mapIter (some mb) since (seen.push e.born) clock) := by simp [setBlock, hlt]
    have hmb : (setBlock w1 it (.mapIter (some mb) since (seen.push e.born) clock)).heap[mb]? = some (.map es clock) := by
      simp only [setBlock, Array.getElem?_setIfInBounds]
      rw [if_neg hne, hr1]; exact hb
    have hev : e.val = .agg (rmL x.2.1 x.2.2).toArray := e2
    refine .inr ⟨x, _, hxl, hxd, by rw [← e1, ← hev]; exact hrun, ⟨es, clock, since, _, clock, hmb, he, hs, hit, hold, hsk, hsk, fun j' e' x' h1 h2 => ?_, hnd⟩, ?_, ⟨by rcases hal with rfl | rfl <;> rfl, by rcases hal with rfl | rfl <;> rfl, by rcases hal with rfl | rfl <;> rfl, by simp [setBlock, hr1], fun i hi hn => ?_⟩, by simp [setBlock, hr1], _, _, hmb, hit, fun V h1 h2 => ?_⟩
    · rw [contains_push, Bool.or_eq_true, hseen j' e' x' h1 h2, List.mem_append, List.mem_singleton]
      constructor
      · rintro (h | h)
        · exact .inl h
        · have h3 := born_inj hst.2.1 (List.mem_of_getElem? h1) hme (by simpa using h)
          subst h3
          have hjj : j' = j := by
            have n1 : (es.toList.map (·.born))[j']? = some e'.born := by rw [List.getElem?_map, h1]; rfl
            have n2 : (es.toList.map (·.born))[j]? = some e'.born := by rw [List.getElem?_map, hj]; rfl
            exact (List.getElem?_inj (by simpa using (List.getElem?_eq_some_iff.1 h1).1) hst.2.1).1 (n1.trans n2.symm)
          rw [hjj, hx] at h2
          exact .inr (Option.some.inj h2).symm
      · rintro (h | h)
        · exact .inl h
        · subst h
          have hjj := once_at hnd h2 hx rfl
          rw [hjj, hj] at h1
          have h3 := Option.some.inj h1
          exact .inr (by rw [h3]; simp)
    · have e3 : (setBlock w1 it (.mapIter (some mb) since (seen.push e.born) clock)).rangeLeft mb it = (leftOf es (seen.push e.born)).size := by unfold World.rangeLeft; rw [hmb, hit]
      have e4 : w.rangeLeft mb it = (leftOf es seen).size := by unfold World.rangeLeft; rw [hb, hr]
      rw [e3, e4]
      exact left_shrinks es seen e hem
    · simp only [setBlock, Array.getElem?_setIfInBounds]
      rw [if_neg (fun e => hn (by rw [e])), hr1]
    · have := run_entry_at (P := Tryz.prog) V it mb since seen es clock e h2 h1 hme hst.2.1
      rw [this, e1, hev]
structure NX (w w' : World) (mb it : Nat) (l done : List En) (rd : Int) (r : Rm) (lv : Value) : Prop where
  mem : (rd, r, lv) ∈ l
  new : (rd, r, lv) ∉ done
  go : GO w' mb it l (done ++ [(rd, r, lv)])
  lt : w'.rangeLeft mb it < w.rangeLeft mb it
  gr : w.grownBy w' (some it)
  sz : w'.heap.size = w.heap.size
  ent : ∃ o1 o2, w'.heap[mb]? = some o1 ∧ w'.heap[it]? = some o2 ∧ ∀ V : World, V.heap[mb]? = some o1 → V.heap[it]? = some o2 → (Instr.entry (.pointer (some ⟨it, 0, none⟩))).run Tryz.prog V = .ok (.tuple #[.int .i64 rd, .agg (rmL r lv).toArray]) V
section
variable {ops : Array Oper} {rest : List Oper} {o : Oper} {a : Act} {Q : Exit → Act → World → Prop} {w : World} {mb it : Nat} {l done : List En}
theorem wpList_go_range (hg : o.guard = none) (m : Operand) (hop : o.op = Op.range 78 m) (hm : a.eval m = .map (some mb)) (h : MR w mb l)
    (hK : ∀ w', GO w' mb w.heap.size l [] → Below w.heap.size w w' → w'.heap.size = w.heap.size + 1 → wpList Tryz.prog ops Q rest (a.put o.dst (.pointer (some ⟨w.heap.size, 0, none⟩))) w') : wpList Tryz.prog ops Q (o :: rest) a w := by
  refine wpList_plain hg fun K' hK' => ?_
  obtain ⟨w', hrun, r1, r2, r3⟩ := go_start h
  unfold Oper.wp
  simp [execOp, hop, hm, hrun, Result.andThen]
  exact hK' _ _ (hK w' r1 r2 r3)
theorem wpList_go_next (hg : o.guard = none) (m : Operand) (hop : o.op = Op.next m false) (hm : a.eval m = .pointer (some ⟨it, 0, none⟩)) (h : GO w mb it l done)
    (hD : AllIn l done → wpList Tryz.prog ops Q rest (a.put o.dst (.tuple #[.bool false])) w)
    (hM : ∀ (rd : Int) (r : Rm) (lv : Value) (w' : World), NX w w' mb it l done rd r lv → wpList Tryz.prog ops Q rest (a.put o.dst (.tuple #[.bool true, .int .i64 rd, .agg (rmL r lv).toArray])) w') : wpList Tryz.prog ops Q (o :: rest) a w := by
  refine wpList_plain hg fun K' hK' => ?_
  unfold Oper.wp
  rcases go_next h o.type with ⟨h0, hrun⟩ | ⟨x, w', h1, h2, hrun, h3, h4, h5, h6, h7⟩
  · simp [execOp, hop, hm, hrun, Result.andThen]
    exact hK' _ _ (hD h0)
  · simp [execOp, hop, hm, hrun, Result.andThen]
    exact hK' _ _ (hM x.1 x.2.1 x.2.2 w' ⟨h1, h2, h3, h4, h5, h6, h7⟩)
end
theorem GO.keep {w w' : World} {mb it : Nat} {l done : List En} (h : GO w mb it l done) (h1 : w'.heap[mb]? = w.heap[mb]?) (h2 : w'.heap[it]? = w.heap[it]?) : GO w' mb it l done := by
  obtain ⟨es, clock, since, seen, c0, q1, q2, q3, q4, q5⟩ := h
  exact ⟨es, clock, since, seen, c0, h1.trans q1, q2, q3, h2.trans q4, q5⟩
theorem GO.below {w w' : World} {mb it : Nat} {l done : List En} (h : GO w mb it l done) (hb : Below w.heap.size w w') : GO w' mb it l done := by
  have h' := h
  obtain ⟨es, clock, since, seen, c0, q1, q2, q3, q4, q5⟩ := h'
  exact h.keep (hb.block _ (PC.row_lt q1)) (hb.block _ (PC.row_lt q4))
theorem GO.left {w w' : World} {mb it : Nat} {l done : List En} (h : GO w mb it l done) (hb : Below w.heap.size w w') : w'.rangeLeft mb it = w.rangeLeft mb it := by
  obtain ⟨es, clock, since, seen, c0, q1, q2, q3, q4, q5⟩ := h
  unfold World.rangeLeft
  rw [hb.block _ (PC.row_lt q1), hb.block _ (PC.row_lt q4)]
def FD (l : List En) (i rd : Int) (b : Bool) : Prop := (b = true ∧ ∃ x ∈ l, x.1 = rd ∧ (x.2.1.inst : Int) = i) ∨ (b = false ∧ rd = 0 ∧ ∀ x ∈ l, (x.2.1.inst : Int) ≠ i)
def FEnd (X : World) (l : List En) (i : Int) (e : Ending) (Y : World) : Prop := ∃ rd b, e = .returned (.tuple #[.int .i64 rd, .bool b]) ∧ FD l i rd b ∧ Below X.heap.size X Y
section
variable {c : Cx} {tn last : Nat} {L R : Lg} {I : Nat → Prop} {X Y : World} {l : List En}
set_option maxHeartbeats 4000000 in
set_option maxRecDepth 100000 in
theorem find_any (h : JP c tn L R I X l last) (i : Int) : Calls Tryz.prog 15 #[.pointer (some ⟨c.xb, 0, none⟩), .int .u64 i] X fun e Y => FEnd X l i e Y := by
  have hz := fun W => zero_rm W
  obtain ⟨ZL, hZL⟩ : ∃ L, L = rmL zR (.slice none 0 0) := ⟨_, rfl⟩
  rw [← hZL] at hz
  have HZS : Hid (ZL.toArray.size = 103) := by show _ = _; rw [hZL]; simpa using rmL_len zR_ok _
  clear hZL
  have HLO : Hid _ := h.listO
  have HMR : Hid (∀ Y, Below X.heap.size X Y → MR Y c.mb l) := fun Y hb => (h.step hb).px.map
  have HOK : Hid (∀ x ∈ l, x.2.1.ok ∧ HR X x.2.2 x.2.1.log) := fun x hx => ⟨h.px.ok x hx, h.px.hr hx⟩
  clear h
  go_enter Tryz.func15, Tryz.ntmps15
  go_wp2_with fail
  refine Calls.mono HLO.out ?_
  rintro e w1 ⟨rfl, hb1⟩
  have hmr := HMR.out w1 hb1
  have HB1 : Hid (Below X.heap.size X w1) := hb1
  clear hb1 HLO HMR
  go_wp2_with (at_range; refine wpList_go_range rfl _ rfl rfl hmr ?_; intro w2 hgo hb2 hs2)
  go_frame
  have HB2 : Hid (Below X.heap.size X w2) := HB1.out.trans (hb2.mono HB1.out.size)
  have hit : X.heap.size ≤ w1.heap.size := HB1.out.size
  generalize w1.heap.size = it at *
  clear hmr hb2 hs2 HB1
  go_wp2
  go_loopw [4] (fun _ wr => ∃ done, GO wr c.mb it l done ∧ Below X.heap.size X wr ∧ ∀ x ∈ done, (x.2.1.inst : Int) ≠ i) (fun _ wr => wr.rangeLeft c.mb it)
  case atStart => exact ⟨[], hgo, HB2.out, fun x hx => (List.not_mem_nil hx).elim⟩
  case round =>
    clear hgo HB2
    obtain ⟨done, hgo, hb, hne⟩ := hrel
    generalize wr = W at *
    have HNE : Hid (∀ x ∈ done, (x.2.1.inst : Int) ≠ i) := hne
    have HB : Hid (Below X.heap.size X W) := hb
    have HGO : Hid (GO W c.mb it l done) := hgo
    clear hne hb hgo
    go_wp2_with (at_next; refine wpList_go_next rfl _ rfl rfl HGO.out ?_ ?_)
    · intro hall
      have HALL : Hid _ := hall
      clear hall
      go_wp2
      go_ret2
      exact ⟨0, false, rfl, .inr ⟨rfl, rfl, fun x hx => HNE.out x (HALL.out x hx)⟩, HB.out⟩
    · intro rd r lv W1 hnx
      obtain ⟨o1, o2, hm1, hm2, hen⟩ := hnx.ent
      have hb1 : Below X.heap.size X W1 := HB.out.grown hnx.gr HB.out.size (fun k e => by cases e; exact hit)
      obtain ⟨hok, hhr⟩ := HOK.out _ hnx.mem
      have HB1 : Hid (Below X.heap.size X W1) := hb1
      have HGO1 : Hid (GO W1 c.mb it l (done ++ [(rd, r, lv)])) := hnx.go
      have HX : Hid ((rd, r, lv) ∈ l) := hnx.mem
      have HLT : Hid (W1.rangeLeft c.mb it < W.rangeLeft c.mb it) := hnx.lt
      have hen1 := hen W1 hm1 hm2
      have HNN : Hid ((rmL r lv).length = 103) := rmL_len hok _
      have HN1 : Hid ((rmL r lv).toArray.all (·.oneCell') = true) := rmL_onea r hhr
      have HN0 : Hid ((rmL r lv)[0]? = some (.int .u64 (r.inst : Int))) := by show _ = _; rw [rmL_0]; rfl
      obtain ⟨NL, hNL⟩ : ∃ NL, NL = rmL r lv := ⟨_, rfl⟩
      rw [← hNL] at HNN HN1 hen1 HN0 ⊢
      have HNS : Hid (NL.toArray.size = 103) := by show _ = _; simpa using HNN.out
      have HNI : Hid ((Tryz.prog.info? 47).map (·.size) = some NL.toArray.size) := info103a _ HNS.out
      have HZM : Hid (ZL.toArray.size = NL.toArray.size) := HZS.out.trans HNS.out.symm
      obtain ⟨ins, hin⟩ : ∃ ins : Int, ins = (r.inst : Int) := ⟨_, rfl⟩
      rw [← hin] at HN0
      have HIN : Hid (ins = (r.inst : Int)) := hin
      obtain ⟨V4, hV4⟩ : ∃ V, V = (W1.alloc (.cells ZL.toArray 47 (0, 0))).setRow W1.heap.size NL.toArray := ⟨_, rfl⟩
      have HRA : Hid ((W1.alloc (.cells ZL.toArray 47 (0, 0))).heap[W1.heap.size]? = some (.cells ZL.toArray 47 (0, 0))) := heap_alloc_new _ _
      have HBS : Hid (Below W1.heap.size W1 V4) := by rw [hV4]; exact below_setRow ((Below.refl _ _).alloc (Nat.le_refl _) _) (Nat.le_refl _) _
      have hc0 : V4.cell? ⟨W1.heap.size, 0, none⟩ = some (.int .u64 ins) := by rw [hV4, cell_of_row _ _ 0 _ _ _ (setRow_heap _ _ _ _ _ _ HRA.out), List.getElem?_toArray]; exact HN0.out
      have HBE : Hid (Below X.heap.size X V4) := HB1.out.trans (HBS.out.mono HB1.out.size)
      clear hnx hm1 hm2 hen hok hhr hb1 hNL hin HGO HB
      go_wp2_with (refine wpList_store_row rfl 47 _ _ rfl W1.heap.size NL.toArray rfl rfl 47 ZL.toArray HRA.out HNI.out HZM.out HN1.out ?_; rw [← hV4]; clear hen1 hV4; by_cases hi : ins = i)
      · go_ret2
        exact ⟨rd, true, rfl, .inl ⟨rfl, _, HX.out, rfl, by rw [← HIN.out]; exact hi⟩, HBE.out⟩
      · go_roundw
        case rel => exact ⟨done ++ [(rd, r, lv)], HGO1.out.below HBS.out, HBE.out, fun y hy => by
          rcases List.mem_append.1 hy with hy | hy
          · exact HNE.out y hy
          · rw [List.mem_singleton.1 hy, ← HIN.out]; exact hi⟩
        case measure =>
          have := HLT.out
          have h2 := HGO1.out.left HBS.out
          show World.rangeLeft _ _ _ < World.rangeLeft _ _ _
          omega
end
end Go.Proofs.YtekbppfocnbhbaaGreat.XC

namespace Go.Proofs.YtekbppfocnbhbaaGreat.R5
open scoped Classical
open Go.RowKit

theorem calls_marks {f : FuncId} {fn : Func} {c : Code} {args : Array Value} {w : World} {R : Ending → World → Prop} (hf : Tryz.prog.funcs[f]? = some fn) (hb : fn.body = some c)
    (h : c.wp Tryz.prog (bodyPostM Fence.wide 9 Tryz.prog fn R) { tmps := args ++ Array.replicate (fn.ntmps - args.size) undef, defers := [] } w) : Calls Tryz.prog f args w R :=
  callsIn_wide.1 (callsIn_of_wp_marks (F := Fence.wide) (n := 9) hf hb trivial (wpIn_wide.2 h))
theorem marks_ret {fn : Func} {R : Ending → World → Prop} {tmps : Array Value} {v : Value} : ∀ (Ds : List Nat) (w : World), (∀ D ∈ Ds, w.heap[D]? = some (.deferred (some []))) → Ds.Nodup →
    (∀ w', w'.heap.size = w.heap.size → w'.os = w.os → w'.tape = w.tape → w'.output = w.output → (∀ k, k ∉ Ds → w'.heap[k]? = w.heap[k]?) → (results fn tmps).run Tryz.prog w' = .ok v w' ∧ R (.returned v) w') →
    LeavesInM Fence.wide 9 Tryz.prog fn tmps R (Ds.map fun D => { target := .collected D, args := #[] }) .returning w
  | [], w, _, _, h => by
    obtain ⟨h1, h2⟩ := h w rfl rfl rfl rfl (fun _ _ => rfl)
    exact ⟨v, h1, h2⟩
  | D :: Ds, w, hD, hn, h => by
    have h0 := hD D (by simp)
    obtain ⟨hn1, hn2⟩ := List.nodup_cons.1 hn
    refine ⟨by simp, .inl ⟨D, _, rfl, run_takeDeferred h0, ?_⟩⟩
    refine marks_ret Ds _ (fun E hE => ?_) hn2 (fun w' h1 h2 h3 h4 h5 => h w' (by rw [h1]; simp) h2 h3 h4 (fun k hk => ?_))
    · have hne : E ≠ D := fun e => hn1 (e ▸ hE)
      rw [World.putObj_heap_other hne]; exact hD E (by simp [hE])
    · simp only [List.mem_cons, not_or] at hk
      rw [h5 k hk.2, World.putObj_heap_other hk.1]
theorem results_bool {fn : Func} {p : Tmp} (h : fn.results = #[.cell p 4]) (tmps : Array Value) (w : World) (g : Nat) (b : Bool) (hp : tmps.getD p undef = .pointer (some ⟨g, 0, none⟩)) (hc : w.cell? ⟨g, 0, none⟩ = some (.bool b)) :
    (results fn tmps).run Tryz.prog w = .ok (.bool b) w := by
  have hp' : tmps[p]?.getD undef = .pointer (some ⟨g, 0, none⟩) := by simpa using hp
  have ha : (isAgg 4).run Tryz.prog w = .ok false w := by kernel_rfl
  have hl : (load ⟨g, 0, none⟩).run Tryz.prog w = .ok (.bool b) w := by go_simp
  simp [results, h, hp', asAddr, loadVar, ha, hl, hc]
end Go.Proofs.YtekbppfocnbhbaaGreat.R5

namespace Go.Proofs.YtekbppfocnbhbaaGreat.XC
open Go.RowKit Go.Maps Go.Sort Go.Shelf

section
variable {pv : Value} {X : World}
theorem sortsA (m : Nat) : AnyZI.SortsIn Tryz.prog Tryz.sortedA_ren Fence.wide m :=
  ⟨fun blk off cap ss W hH hblk hsz => callsIn_wide.2 (AnyM.slices_Sort_int Tryz.sortA blk off cap ss W hH hblk hsz),
   fun p cap W => callsIn_wide.2 (AnyM.slices_Sort_int_none Tryz.sortA p cap W)⟩
theorem keys_any (mb : Option Nat) (W : World) : Calls Tryz.prog 61 #[.map mb] W fun e w' => e = .returned (.func (.func 89) #[] #[.pointer (some ⟨W.heap.size, 0, none⟩)]) ∧ w' = W.alloc (.cells #[.map mb] 78) :=
  callsIn_wide.1 (AnyZI.keys_in Tryz.keysA Fence.wide 5 trivial rfl mb W)
end
end Go.Proofs.YtekbppfocnbhbaaGreat.XC

namespace Go.Proofs.YtekbppfocnbhbaaGreat.XC
open Go.RowKit
open Go.WideElems (Fit rd rg)

def trR : Value → Option (DataW Unit × List MemPlace) := fun _ => some (.nil, [])
theorem tr_rd {e : MapEntry} {i : Int} (hi : iOk i) (h : e.key = .int .i64 i) : rd Tryz.prog 3 trR e = some (.int .i64 i, .nil) := by
  unfold Go.WideElems.rd
  rw [h, key_i hi]
  rfl
theorem MR.owns {w : World} {mb : Nat} {l : List En} (h : MR w mb l) (hl : l.length ≤ maxLen) : ∃ D : DataW Unit, w.ownsMap Tryz.prog 3 trR mb l.length D ∧ (intKeys D).Perm (l.map (·.1)) ∧ Maps.size D = l.length := by
  obtain ⟨es, clock, hb, he, hs⟩ := h.ex
  have hlen := MR.lenes he
  have hlen' : es.size = l.length := by simpa using hlen
  refine ⟨.map ((es.toList.map (rg Tryz.prog 3 trR)).foldr DataW.insert []), ⟨es, clock, hb, ⟨by omega, hs, fun e hx => ?_⟩, by omega, rfl⟩, ?_, ?_⟩
  · obtain ⟨x, hx, e1, e2⟩ := MR.mem he hx
    exact ⟨_, tr_rd (h.iok x hx) e1⟩
  · unfold intKeys
    refine (List.Perm.map _ (Go.WideShapes.sorted_perm _)).trans ?_
    rw [List.map_map]
    refine List.Perm.of_eq (List.ext_getElem? fun j => ?_)
    rw [List.getElem?_map, List.getElem?_map]
    cases hj : es.toList[j]? with
    | none =>
      have : l[j]? = none := by rw [List.getElem?_eq_none_iff] at hj ⊢; omega
      rw [this]; rfl
    | some e =>
      obtain ⟨x, hx, e1, e2⟩ := MR.at he hj
      rw [hx]
      simp only [Option.map_some, Function.comp]
      rw [Go.WideElems.rg_of (tr_rd (h.iok x (List.mem_of_getElem? hx)) e1)]
      rfl
  · show ((es.toList.map (rg Tryz.prog 3 trR)).foldr DataW.insert []).length = _
    rw [(Go.WideShapes.sorted_perm _).length_eq]; simpa using hlen
set_option maxRecDepth 100000 in
theorem cloneI_any {mb : Nat} {es : Array MapEntry} {clock : Nat} (w : World) (hb : w.heap[mb]? = some (.map es clock)) :
    Calls Tryz.prog 59 #[.map (some mb)] w fun e w' => e = .returned (.map (some w.heap.size)) ∧ w' = w.alloc (.map es clock) := by
  have hq := fun w => run_eql_map_nil_sl (P := Tryz.prog) w 78 _ _ (some mb) Tryz.underlying78
  go_enter Tryz.func59, Tryz.ntmps59
  go_wp2
  rw [run_callFunc_extern Tryz.func86 (by kernel_rfl) (by kernel_rfl) (by kernel_rfl) (e := Extern.MapsClone.clone) (by kernel_rfl), run_maps_clone_sl w 78 hb]
  simp only [Result.andThen]
  rw [Oper.upon_value]
  go_wp2
  rw [run_typeAssert_map_sl _ 78 _ _ _ _ Tryz.underlying78]
  simp only [Result.andThen]
  rw [Oper.upon_value]
  go_wp2
  go_ret
  exact ⟨rfl, rfl⟩
def SortEnd (w : World) (l : List En) (e : Ending) (w' : World) : Prop := ∃ v ss, e = .returned v ∧ List.Perm ss (l.map (·.1)) ∧ w'.ownsRow w.heap.size 3 1 v ss.length ((ss.mergeSort (fun x y : Int => decide (x ≤ y))).map encZ) ∧ Below w.heap.size w w'
theorem sorted_any {w : World} {b : Nat} {l : List En} (h : MR w b l) (hl : l.length ≤ 1000000) (q : Nat) (hq : q = w.heap.size) :
    Calls Tryz.prog 60 #[.func (.func 89) #[] #[.pointer (some ⟨q, 0, none⟩)]] (w.alloc (.cells #[.map (some b)] 78)) fun e w' => SortEnd w l e w' := by
  subst hq
  have hlt := h.lt
  have h' : MR (w.alloc (.cells #[.map (some b)] 78)) b l := h.keep (heap_alloc_old _ _ hlt)
  obtain ⟨D, hown, hperm, hsz⟩ := h'.owns (by unfold maxLen; omega)
  have hseq : SeqGives Fence.wide 2 Tryz.prog 89 #[.pointer (some ⟨w.heap.size, 0, none⟩)] encZ (fun ss => ss.Perm (intKeys D)) (Maps.size D) (w.alloc (.cells #[.map (some b)] 78)) :=
    AnyZI.keys_gives (ρ := Tryz.keysA_ren) { Tryz.keysA with } Fence.wide _ trivial rfl (by omega) w.heap.size b l.length D _ (by simp) (by simp) hown
  have cS := AnyZI.sorted_in Tryz.sortedA Fence.wide 5 trivial trivial trivial trivial rfl (by omega) (sortsA _) (enters_of Tryz.func88 (by kernel_rfl) rfl) 89 #[.pointer (some ⟨w.heap.size, 0, none⟩)] trivial (enters_of Tryz.func89 (by kernel_rfl) rfl) _ (Maps.size D) (by rw [hsz]; unfold maxLen; omega) (by rw [hsz]; omega) _ hseq
  change CallsIn _ _ Tryz.prog 60 _ _ _ at cS
  refine Calls.mono (callsIn_wide.1 cS) ?_
  rintro e w' ⟨v, ss, rfl, hss, hrow, hnil, hb⟩
  have hb2 : Below w.heap.size w w' := ((Below.refl _ w).alloc (Nat.le_refl _) _).trans (hb.mono (by simp))
  exact ⟨v, ss, rfl, hss.trans hperm, R5.own_lower hrow (by simp), hb2⟩
structure AS (X W : World) (kb nb nw cap : Nat) (p : Option Addr) (l : List En) (ks : List Int) : Prop where
  bel : Below X.heap.size X W
  kc : W.heap[kb]? = some (.cells #[.slice p ks.length cap] 123 (0, 0))
  nc : W.heap[nb]? = some (.cells #[.map (some nw)] 78 (0, 0))
  kr : ∀ (j : Nat) (z : Int), ks[j]? = some z → ∃ g, p = some ⟨g, 0, none⟩ ∧ X.heap.size ≤ g ∧ W.cell? ⟨g, j, none⟩ = some (.int .i64 z)
  mr : MR W nw l
  lo : X.heap.size ≤ kb ∧ X.heap.size ≤ nb ∧ X.heap.size ≤ nw
def KF (kb nb nw : Nat) (p : Option Addr) (k : Nat) : Prop := k = kb ∨ k = nb ∨ k = nw ∨ p = some ⟨k, 0, none⟩
theorem AS.keep {X W V : World} {kb nb nw cap : Nat} {p : Option Addr} {l : List En} {ks : List Int} (h : AS X W kb nb nw cap p l ks) (hb : Below X.heap.size X V) (hk : ∀ k, KF kb nb nw p k → V.heap[k]? = W.heap[k]?) : AS X V kb nb nw cap p l ks :=
  ⟨hb, (hk kb (.inl rfl)).trans h.kc, (hk nb (.inr (.inl rfl))).trans h.nc, fun j z hz => by
    obtain ⟨g, h1, h2, h3⟩ := h.kr j z hz
    exact ⟨g, h1, h2, (World.cell?_of_block (a := ⟨g, j, none⟩) (hk g (.inr (.inr (.inr h1))))).trans h3⟩, h.mr.keep (hk nw (.inr (.inr (.inl rfl)))), h.lo⟩
theorem cell_lt {w : World} {b o : Nat} {v : Value} (h : w.cell? ⟨b, o, none⟩ = some v) : b < w.heap.size := by
  cases hb : w.heap[b]? with
  | none => simp [World.cell?, hb] at h
  | some o => exact PC.row_lt hb
theorem AS.below {X W V : World} {kb nb nw cap : Nat} {p : Option Addr} {l : List En} {ks : List Int} (h : AS X W kb nb nw cap p l ks) (hb : Below W.heap.size W V) : AS X V kb nb nw cap p l ks := by
  refine ⟨h.bel.trans (hb.mono h.bel.size), (hb.block _ (PC.row_lt h.kc)).trans h.kc, (hb.block _ (PC.row_lt h.nc)).trans h.nc, fun j z hz => ?_, h.mr.keep (hb.block _ h.mr.lt), h.lo⟩
  obtain ⟨g, h1, h2, h3⟩ := h.kr j z hz
  exact ⟨g, h1, h2, (hb.cell (cell_lt h3)).trans h3⟩
def AllEnd (X : World) (l : List En) (e : Ending) (Y : World) : Prop := ∃ kb nb nw cap p ks, e = .returned (.func (.func 62) #[] #[.pointer (some ⟨kb, 0, none⟩), .pointer (some ⟨nb, 0, none⟩)]) ∧ AS X Y kb nb nw cap p l ks ∧ List.Perm ks (l.map (·.1)) ∧ ks.Pairwise (· ≤ ·)
theorem as_mk {X w1 V1 V2 w5 Y : World} {es : Array MapEntry} {clock : Nat} {l : List En} {v : Value} {ss : List Int} (hb1 : Below X.heap.size X w1) (hV1 : V1 = w1.alloc (.map es clock)) (hV2 : V2 = V1.alloc (.cells #[.map (some w1.heap.size)] 78 (0, 0))) (hm : MR V2 w1.heap.size l)
    (hss : List.Perm ss (l.map (·.1))) (hrow : w5.ownsRow V2.heap.size 3 1 v ss.length ((ss.mergeSort (fun x y : Int => decide (x ≤ y))).map encZ)) (hb5 : Below V2.heap.size V2 w5) (hY : Y = w5.alloc (.cells #[v] 123 (0, 0))) :
    ∃ kb nb nw cap p ks, kb = w5.heap.size ∧ nb = w1.heap.size + 1 ∧ AS X Y kb nb nw cap p l ks ∧ List.Perm ks (l.map (·.1)) ∧ ks.Pairwise (· ≤ ·) := by
  have hbV1 : Below w1.heap.size w1 V1 := by rw [hV1]; exact (Below.refl _ _).alloc (Nat.le_refl _) _
  have hs1 : V1.heap.size = w1.heap.size + 1 := by rw [hV1]; simp
  have hbV2 : Below w1.heap.size w1 V2 := by rw [hV2]; exact hbV1.alloc (by omega) _
  have hs2 : V2.heap.size = w1.heap.size + 2 := by rw [hV2]; simp [hs1]
  have hb5' : Below w1.heap.size w1 w5 := hbV2.trans (hb5.mono (by omega))
  have hs5 := hb5.size
  have hbY5 : Below w5.heap.size w5 Y := by rw [hY]; exact (Below.refl _ _).alloc (Nat.le_refl _) _
  have hbY : Below w1.heap.size w1 Y := hb5'.trans (hbY5.mono (by omega))
  have hx1 := hb1.size
  have hks : (ss.mergeSort (fun x y : Int => decide (x ≤ y))).length = ss.length := List.length_mergeSort _
  have hnb : V2.heap[w1.heap.size + 1]? = some (.cells #[.map (some w1.heap.size)] 78 (0, 0)) := by rw [hV2, ← hs1]; exact heap_alloc_new _ _
  obtain ⟨p, cap, hv⟩ : ∃ p cap, v = .slice p ss.length cap := by
    rcases hrow.2 with ⟨h1, h2⟩ | ⟨g, cap, cur, hv, _⟩
    · exact ⟨none, 0, by rw [h1, h2]⟩
    · exact ⟨_, cap, hv⟩
  refine ⟨_, _, w1.heap.size, cap, p, ss.mergeSort (fun x y : Int => decide (x ≤ y)), rfl, rfl, ⟨hb1.trans (hbY.mono hx1), ?_, ?_, fun j z hz => ?_, hm.keep ((hbY5.block _ (by omega)).trans (hb5.block _ (by omega))), by omega, by omega, by omega⟩, (List.mergeSort_perm _ _).trans hss, ?_⟩
  · rw [hks, ← hv, hY]; exact heap_alloc_new _ _
  · exact (hbY5.block _ (by omega)).trans ((hb5.block _ (by omega)).trans hnb)
  · have hne : ss ≠ [] := fun e => by subst e; simp at hz
    rcases hrow.2 with ⟨h1, h2⟩ | ⟨g, cap', cur, hv', _⟩
    · exact absurd (List.eq_nil_of_length_eq_zero h2) hne
    · have hp : p = some ⟨g, 0, none⟩ := by rw [hv] at hv'; injection hv'
      have hob : v.ownBlock = some g := by rw [hv']; rfl
      have h3 : ((ss.mergeSort (fun x y : Int => decide (x ≤ y))).map encZ)[j]? = some (encZ z) := by rw [List.getElem?_map, hz]; rfl
      have h4 := World.ownsRow.cells hrow (g := g) hob j _ h3
      rw [PC.add_none, Nat.zero_add] at h4
      have h5 := World.ownsRow.lt hrow g hob
      exact ⟨g, hp, by omega, (hbY5.cell (p := ⟨g, j, none⟩) h5.2).trans h4⟩
  · have := List.pairwise_mergeSort (le := fun x y : Int => decide (x ≤ y)) (fun a b c h1 h2 => by simp only [decide_eq_true_eq] at h1 h2 ⊢; omega) (fun a b => by simp only [Bool.or_eq_true, decide_eq_true_eq]; omega) ss
    exact this.imp (fun h => by simpa using h)
section
variable {c : Cx} {tn last : Nat} {L R : Lg} {I : Nat → Prop} {X Y : World} {l : List En}
set_option maxHeartbeats 4000000 in
set_option maxRecDepth 100000 in
theorem all_any (h : JP c tn L R I X l last) (hl : l.length ≤ 1000000) : Calls Tryz.prog 21 #[.pointer (some ⟨c.xb, 0, none⟩)] X fun e Y => AllEnd X l e Y := by
  have HLO : Hid _ := h.listO
  have HMR : Hid (∀ Y, Below X.heap.size X Y → MR Y c.mb l) := fun Y hb => (h.step hb).px.map
  clear h
  go_enter Tryz.func21, Tryz.ntmps21
  go_wp2_with fail
  refine Calls.mono HLO.out ?_
  rintro e w1 ⟨rfl, hb1⟩
  have hmr := HMR.out w1 hb1
  obtain ⟨es, clock, hmb, hes, hst⟩ := hmr.ex
  obtain ⟨V1, hV1⟩ : ∃ V, V = w1.alloc (.map es clock) := ⟨_, rfl⟩
  obtain ⟨V2, hV2⟩ : ∃ V, V = V1.alloc (.cells #[.map (some w1.heap.size)] 78 (0, 0)) := ⟨_, rfl⟩
  have hs1 : V1.heap.size = w1.heap.size + 1 := by rw [hV1]; simp
  have hs2 : V2.heap.size = w1.heap.size + 2 := by rw [hV2]; simp [hs1]
  have hnw : V2.heap[w1.heap.size]? = some (.map es clock) := by rw [hV2, heap_alloc_old _ _ (by omega), hV1]; exact heap_alloc_new _ _
  have HM2 : Hid (MR V2 w1.heap.size l) := ⟨⟨es, clock, hnw, hes, hst⟩, hmr.iok, hmr.once⟩
  have HB1 : Hid (Below X.heap.size X w1) := hb1
  have HCL : Hid _ := cloneI_any w1 hmb
  have HSO : Hid (∀ q, q = V2.heap.size → ∀ P : Ending → World → Prop, (∀ e w', SortEnd V2 l e w' → P e w') → Calls Tryz.prog 60 #[.func (.func 89) #[] #[.pointer (some ⟨q, 0, none⟩)]] (V2.alloc (.cells #[.map (some w1.heap.size)] 78)) P) := fun q hq P hP => (sorted_any HM2.out hl q hq).mono hP
  have HV1 : Hid _ := hV1
  have HV2 : Hid _ := hV2
  have HS1 : Hid _ := hs1
  have HS2 : Hid _ := hs2
  clear hb1 hmr hmb hes hst hnw hV1 hV2 hs1 hs2 HLO HMR
  go_wp2_with fail
  refine Calls.mono HCL.out ?_
  rintro e w2 ⟨rfl, hw2⟩
  rw [← HV1.out] at hw2
  rw [hw2]
  clear hw2 w2 HCL
  have hs1 := HS1.out
  go_wp2_with fail
  rw [← HV2.out]
  refine Calls.mono (keys_any (some w1.heap.size) V2) ?_
  rintro e w3 ⟨rfl, hw3⟩
  rw [hw3]
  clear hw3 w3
  have hs2 := HS2.out
  go_wp2_with fail
  refine HSO.out _ (by first | rfl | omega) _ ?_
  rintro e w5 ⟨v, ss, rfl, hss, hrow, hb5⟩
  obtain ⟨p0, cap0, hv⟩ : ∃ p cap, v = .slice p ss.length cap := by
    rcases hrow.2 with ⟨h1, h2⟩ | ⟨g, cap, cur, hv, _⟩
    · exact ⟨none, 0, by rw [h1, h2]⟩
    · exact ⟨_, cap, hv⟩
  subst hv
  obtain ⟨kb, nb, nw, cap, p, ks, hkb, hnb, hA⟩ := as_mk HB1.out HV1.out HV2.out HM2.out hss hrow hb5 rfl
  subst hkb hnb
  have HA : Hid _ := hA
  clear hss hrow hb5 hA HSO
  go_wp2
  go_ret
  exact ⟨_, _, nw, cap, p, ks, rfl, HA.out⟩
end
end Go.Proofs.YtekbppfocnbhbaaGreat.XC
