/- Contract of the program's Ask. -/
import Derived.Test.YtbmgfllilcdgcaaQF
import Derived.Test.YtbmgfllilcdgcaaG9
import Derived.Laws.ResultCell
set_option linter.unusedVariables false
set_option linter.unusedSimpArgs false
namespace Go.Proofs.Ytbmgfllilcdgcaa.R5
open scoped Classical
open Go.RowKit

theorem results_dig2 {fn : Func} {p u : Tmp} (h : fn.results = #[.cell p 23, .tmp u]) (tmps : Array Value) (w : World) (g : Nat) (t : TypeId) (cs : Array Value) (fr : Nat × Nat) (x : Value)
    (hp : tmps.getD p undef = .pointer (some ⟨g, 0, none⟩)) (hx : tmps.getD u undef = x) (hg : w.heap[g]? = some (.cells cs t fr)) (hi : (Try.prog.info? 23).map (·.size) = some cs.size) :
    (results fn tmps).run Try.prog w = .ok (.tuple #[.agg cs, x]) w := by
  rw [results_cell_tmp h, hp, hx]
  simp [asAddr, run_loadVar_row w g t 23 cs fr _ hg Try.underlying23 rfl hi]
/-- A question that Ask answers. -/
def askB (q : Qn) : Bool := decide (1 ≤ q.kind ∧ q.kind ≤ 3 ∧ 1 ≤ q.dom ∧ q.dom ≤ 16)
/-- A refusal, or an answer. -/
def errV (n : Int) : Value := .tuple #[dV (List.replicate 32 0), .int .i64 n]
def okV (A : List UInt8) : Value := .tuple #[dV A, .int .i64 0]
/-- The three blocks of Ask at its beginning. -/
theorem w2_facts (w : World) (QL ZL : List Value) : Below w.heap.size w ((w.alloc (.cells QL.toArray 33 (0, 0))).alloc (.cells ZL.toArray 23 (0, 0))) ∧
    ((w.alloc (.cells QL.toArray 33 (0, 0))).alloc (.cells ZL.toArray 23 (0, 0))).heap[w.heap.size]? = some (.cells QL.toArray 33 (0, 0)) ∧
    ((w.alloc (.cells QL.toArray 33 (0, 0))).alloc (.cells ZL.toArray 23 (0, 0))).heap[w.heap.size + 1]? = some (.cells ZL.toArray 23 (0, 0)) :=
  ⟨((Below.refl _ _).alloc (Nat.le_refl _) _).alloc (by simp) _, alloc2_first _ _ _, heap_at _ _ _ (by simp)⟩

/-- Not there, or a zero one. -/
theorem pask_none (pv : Value) (QL : List Value) (w : World) (hn : ∀ X, Below w.heap.size w X → Calls Try.prog 24 #[pv] X fun e w' => e = .returned (.bool true) ∧ w' = X) :
    Calls Try.prog 9 #[pv, .agg QL.toArray] w fun e w' => e = .returned (errV 1) ∧ Below w.heap.size w w' := by
  have hzv := fun W => zero_dig W
  have hbd := fun W => build_dig W
  obtain ⟨ZL, hZL⟩ : ∃ L, L = (List.replicate 32 (0 : UInt8)).map B8 := ⟨_, rfl⟩
  have HZV : Hid (dV (List.replicate 32 0) = .agg ZL.toArray) := by show _ = _; rw [hZL]; rfl
  rw [← hZL] at hzv hbd
  have HZS : Hid (ZL.toArray.size = 32) := by show _ = _; rw [hZL]; simp
  have HZ1 : Hid (ZL.toArray.all (·.oneCell') = true) := by show _ = _; rw [hZL]; exact B8_onea _
  clear hZL
  obtain ⟨hb, hr0, hr1⟩ := w2_facts w QL ZL
  have hnn := hn _ hb
  have HNN : Hid _ := hnn
  have HR1 : Hid _ := hr1
  have HB0 : Hid _ := hb
  clear hn hnn hr0 hr1 hb
  go_enter Try.func9, Try.ntmps9
  go_wp2_with (first
    | (go_at_call 24; refine Calls.mono HNN.out ?_; rintro e w1 ⟨rfl, rfl⟩)
    | (refine wpList_store_row rfl 23 _ _ rfl (w.heap.size + 1) ZL.toArray rfl rfl 23 ZL.toArray HR1.out (info32a _ HZS.out) rfl HZ1.out ?_))
  refine bodyPost_ret (v := .tuple #[.agg ZL.toArray, .int .i64 1]) ?_ rfl ⟨by unfold errV; rw [HZV.out], below_setRow HB0.out (by omega) _⟩
  exact results_dig2 Try.results9 _ _ (w.heap.size + 1) 23 _ (0, 0) _ rfl rfl (setRow_heap _ _ _ _ _ _ HR1.out) (info32a _ HZS.out)

set_option maxHeartbeats 4000000 in
set_option maxRecDepth 100000 in
theorem pask_bad (og mb : Nat) (dq : Value) (q : Qn) (w : World) (hc : w.cell? ⟨og, 35, none⟩ = some (.map (some mb))) (hqk : q.key.length = 32) (hbad : askB q = false) :
    Calls Try.prog 9 #[.pointer (some ⟨og, 0, none⟩), .agg (qL q dq).toArray] w fun e w' => e = .returned (errV 2) ∧ Below w.heap.size w w' := by
  have hzv := fun W => zero_dig W
  have hbd := fun W => build_dig W
  obtain ⟨ZL, hZL⟩ : ∃ L, L = (List.replicate 32 (0 : UInt8)).map B8 := ⟨_, rfl⟩
  have HZV : Hid (dV (List.replicate 32 0) = .agg ZL.toArray) := by show _ = _; rw [hZL]; rfl
  rw [← hZL] at hzv hbd
  have HZS : Hid (ZL.toArray.size = 32) := by show _ = _; rw [hZL]; simp
  have HZ1 : Hid (ZL.toArray.all (·.oneCell') = true) := by show _ = _; rw [hZL]; exact B8_onea _
  clear hZL
  obtain ⟨hb, hr0, hr1⟩ := w2_facts w (qL q dq) ZL
  obtain ⟨a0, a1, a2, a3⟩ := q_facts hqk hr0
  have HNN : Hid _ := none_no og mb _ ((hb.cell (block_lt hc)).trans hc)
  have HDM : Hid (Calls Try.prog 25 #[.int .i64 q.dom] ((w.alloc (.cells (qL q dq).toArray 33 (0, 0))).alloc (.cells ZL.toArray 23 (0, 0))) fun e w' => e = .returned (.bool (domB q.dom)) ∧ w' = ((w.alloc (.cells (qL q dq).toArray 33 (0, 0))).alloc (.cells ZL.toArray 23 (0, 0)))) := dom_any q.dom _
  obtain ⟨QL, hQL⟩ : ∃ L, L = qL q dq := ⟨_, rfl⟩
  rw [← hQL] at hb hr0 hr1 a0 a1 a2 a3 HNN HDM ⊢
  have HR1 : Hid _ := hr1
  have HR0 : Hid _ := hr0
  have HB0 : Hid _ := hb
  have HC : Hid _ := hc
  have HDT : 1 ≤ q.kind → q.kind ≤ 3 → domB q.dom = false := fun h1 h2 => by unfold askB at hbad; unfold domB; simp_all
  clear hr0 hr1 hb a1 a3 hc hbad hQL
  generalize q.kind = K at *
  generalize domB q.dom = DB at *
  by_cases h1 : K < 1
  · have HDF : Hid (DB = DB) := rfl
    clear HDT
    go_enter Try.func9, Try.ntmps9
    go_wp2_with (first
      | (go_at_call 24; refine Calls.mono HNN.out ?_; rintro e w1 ⟨rfl, rfl⟩)
      | (go_at_call 25; refine Calls.mono HDM.out ?_; rintro e w1 ⟨rfl, rfl⟩; rw [HDF.out])
      | (refine wpList_store_row rfl 23 _ _ rfl (w.heap.size + 1) ZL.toArray rfl rfl 23 ZL.toArray HR1.out (info32a _ HZS.out) rfl HZ1.out ?_))
    refine bodyPost_ret (v := .tuple #[.agg ZL.toArray, .int .i64 2]) ?_ rfl ⟨by unfold errV; rw [HZV.out], below_setRow HB0.out (by omega) _⟩
    exact results_dig2 Try.results9 _ _ (w.heap.size + 1) 23 _ (0, 0) _ rfl rfl (setRow_heap _ _ _ _ _ _ HR1.out) (info32a _ HZS.out)
  · by_cases h3 : 3 < K
    · have HDF : Hid (DB = DB) := rfl
      clear HDT
      go_enter Try.func9, Try.ntmps9
      go_wp2_with (first
        | (go_at_call 24; refine Calls.mono HNN.out ?_; rintro e w1 ⟨rfl, rfl⟩)
        | (go_at_call 25; refine Calls.mono HDM.out ?_; rintro e w1 ⟨rfl, rfl⟩; rw [HDF.out])
        | (refine wpList_store_row rfl 23 _ _ rfl (w.heap.size + 1) ZL.toArray rfl rfl 23 ZL.toArray HR1.out (info32a _ HZS.out) rfl HZ1.out ?_))
      refine bodyPost_ret (v := .tuple #[.agg ZL.toArray, .int .i64 2]) ?_ rfl ⟨by unfold errV; rw [HZV.out], below_setRow HB0.out (by omega) _⟩
      exact results_dig2 Try.results9 _ _ (w.heap.size + 1) 23 _ (0, 0) _ rfl rfl (setRow_heap _ _ _ _ _ _ HR1.out) (info32a _ HZS.out)
    · have HDF : Hid (DB = false) := HDT (by omega) (by omega)
      clear HDT
      go_enter Try.func9, Try.ntmps9
      go_wp2_with (first
        | (go_at_call 24; refine Calls.mono HNN.out ?_; rintro e w1 ⟨rfl, rfl⟩)
        | (go_at_call 25; refine Calls.mono HDM.out ?_; rintro e w1 ⟨rfl, rfl⟩; rw [HDF.out])
        | (refine wpList_store_row rfl 23 _ _ rfl (w.heap.size + 1) ZL.toArray rfl rfl 23 ZL.toArray HR1.out (info32a _ HZS.out) rfl HZ1.out ?_))
      refine bodyPost_ret (v := .tuple #[.agg ZL.toArray, .int .i64 2]) ?_ rfl ⟨by unfold errV; rw [HZV.out], below_setRow HB0.out (by omega) _⟩
      exact results_dig2 Try.results9 _ _ (w.heap.size + 1) 23 _ (0, 0) _ rfl rfl (setRow_heap _ _ _ _ _ _ HR1.out) (info32a _ HZS.out)
end Go.Proofs.Ytbmgfllilcdgcaa.R5
