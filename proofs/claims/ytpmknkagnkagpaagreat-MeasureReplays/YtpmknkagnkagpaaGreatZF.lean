/- measure: the map of closures that measurers makes. -/
import Derived.Test.YtpmknkagnkagpaaGreatZE
import Derived.Maps.Keyed
import Derived.Maps.Own
import Derived.ChangeMaps
import Derived.MapViews
import Derived.Carry
import Derived.Laws.EntriesVeiled
set_option linter.unusedVariables false
set_option linter.unusedSimpArgs false
namespace Go.Proofs.YtpmknkagnkagpaaGreat.ZC
open Go.RowKit
open Go.ChangeMaps (setBlock heap_setBlock_same heap_setBlock_other)

def iOk (x : Int) : Prop := (Lit.int .i64 x).wf = true
theorem lawI : Maps.Keyed Tryz.prog 25 := Maps.int_keyed Tryz.underlying25
theorem key_i {x : Int} (h : iOk x) : keyOf Tryz.prog 25 (.int .i64 x) = some (.int .i64 x) := Maps.keyOf_int_mk Tryz.underlying25 h
def itm (x : Int × Value) : Value × Value := (.int .i64 x.1, x.2)
structure MF (w : World) (mp : Nat) (l : List (Int × Value)) : Prop where
  ex : ∃ es clock, w.heap[mp]? = some (.map es clock) ∧ (es.toList.map fun e => (e.key, e.val)) = l.map itm
  iok : ∀ x ∈ l, iOk x.1
theorem MF.keep {w w' : World} {mp : Nat} {l : List (Int × Value)} (h : MF w mp l) (e : w'.heap[mp]? = w.heap[mp]?) : MF w' mp l := by
  obtain ⟨es, c, h1, h2⟩ := h.ex; exact ⟨⟨es, c, e.trans h1, h2⟩, h.iok⟩
theorem MF.lt {w : World} {mp : Nat} {l : List (Int × Value)} (h : MF w mp l) : mp < w.heap.size := by
  obtain ⟨es, c, h1, _⟩ := h.ex; exact PC.row_lt h1
theorem mf_new {w : World} {mp : Nat} {l : List (Int × Value)} (h : MF w mp l) {k : Int} (hk : iOk k) (hno : ∀ x ∈ l, x.1 ≠ k) (v : Value) :
    ∃ w', (Instr.mapUpdate 87 (.map (some mp)) (.int .i64 k) v).run Tryz.prog w = .ok () w' ∧ MF w' mp (l ++ [(k, v)]) ∧ w.grownBy w' (some mp) := by
  obtain ⟨es, clock, h1, h2⟩ := h.ex
  have hmem : ∀ e ∈ es.toList, ∃ x ∈ l, e.key = .int .i64 x.1 := fun e he => by
    have : (e.key, e.val) ∈ l.map itm := by rw [← h2]; exact List.mem_map.2 ⟨e, he, rfl⟩
    obtain ⟨x, hx, hxe⟩ := List.mem_map.1 this
    exact ⟨x, hx, by have := congrArg Prod.fst hxe; exact this.symm⟩
  rcases lawI.find w (key_i hk) es.toList (fun e he => by obtain ⟨x, hx, e1⟩ := hmem e he; rw [e1]; exact ⟨_, key_i (h.iok x hx)⟩) with ⟨hr, hn⟩ | ⟨j, e, hr, hj, he⟩
  · refine ⟨setBlock w mp (.map (es.push ⟨.int .i64 k, v, clock⟩) (clock + 1)), ?_, ⟨⟨_, _, heap_setBlock_same h1 _, ?_⟩, ?_⟩, ⟨rfl, rfl, rfl, by simp [setBlock], fun i _ hi => heap_setBlock_other h1 _ (fun e => hi (by rw [e]))⟩⟩
    · simp [Instr.mapUpdate, run_underlying Tryz.underlying87, MapKept.run_getObj_map h1, lawI.check w false (key_i hk), hr, MapKept.run_setObj_map _ h1, Result.andThen, setBlock]
    · rw [Array.toList_push, List.map_append, List.map_append, h2]; rfl
    · intro x hx
      rcases List.mem_append.1 hx with hx | hx
      · exact h.iok x hx
      · obtain rfl : x = _ := by simpa using hx
        exact hk
  · exfalso
    obtain ⟨x, hx, e1⟩ := hmem e (List.mem_of_getElem? hj)
    exact hno x hx (by rw [e1] at he; simpa using he)
theorem mf_get {w : World} {mp : Nat} {l : List (Int × Value)} (h : MF w mp l) (hone : ∀ x ∈ l, ∀ y ∈ l, x.1 = y.1 → x = y) {x : Int × Value} (hx : x ∈ l) :
    (Instr.lookup 87 (.map (some mp)) (.int .i64 x.1) false).run Tryz.prog w = .ok x.2 w := by
  obtain ⟨es, clock, h1, h2⟩ := h.ex
  have hmem : ∀ e ∈ es.toList, ∃ x ∈ l, e.key = .int .i64 x.1 ∧ e.val = x.2 := fun e he => by
    have : (e.key, e.val) ∈ l.map itm := by rw [← h2]; exact List.mem_map.2 ⟨e, he, rfl⟩
    obtain ⟨x, hx, hxe⟩ := List.mem_map.1 this
    exact ⟨x, hx, by have := congrArg Prod.fst hxe; exact this.symm, by have := congrArg Prod.snd hxe; exact this.symm⟩
  have hk := h.iok x hx
  rcases lawI.find w (key_i hk) es.toList (fun e he => by obtain ⟨x, hx, e1, _⟩ := hmem e he; rw [e1]; exact ⟨_, key_i (h.iok x hx)⟩) with ⟨hr, hn⟩ | ⟨j, e, hr, hj, he⟩
  · exfalso
    have h3 : itm x ∈ es.toList.map fun e => (e.key, e.val) := by rw [h2]; exact List.mem_map.2 ⟨x, hx, rfl⟩
    obtain ⟨y, hy, hye⟩ := List.mem_map.1 h3
    exact hn y hy (by have := congrArg Prod.fst hye; exact this)
  · obtain ⟨y, hy, e1, e2⟩ := hmem e (List.mem_of_getElem? hj)
    have hxy : y = x := hone y hy x hx (by rw [e1] at he; simpa using he)
    subst hxy
    rw [e2] at hr
    simp [Instr.lookup, run_underlying Tryz.underlying87, MapKept.run_getObj_map h1, lawI.check w _ (key_i hk), hr, Result.andThen]
def clo (f b : Nat) : Value := .func (.func f) #[] #[.pointer (some ⟨b, 0, none⟩)]
def mzL (b2 : Nat) : List (Int × Value) := [(1, clo 48 b2), (2, clo 49 b2), (3, clo 51 b2)]
structure MZ (og b1 b2 mp : Nat) (X : World) : Prop where
  c1 : X.heap[b1]? = some (.cells #[.pointer (some ⟨og, 0, none⟩)] 35 (0, 0))
  c2 : X.heap[b2]? = some (.cells #[clo 46 b1] 100 (0, 0))
  m : MF X mp (mzL b2)
theorem MZ.keep {og b1 b2 mp : Nat} {X Y : World} (h : MZ og b1 b2 mp X) (hk : ∀ k, k = b1 ∨ k = b2 ∨ k = mp → k < X.heap.size → Y.heap[k]? = X.heap[k]?) : MZ og b1 b2 mp Y :=
  ⟨(hk b1 (.inl rfl) (PC.row_lt h.c1)).trans h.c1, (hk b2 (.inr (.inl rfl)) (PC.row_lt h.c2)).trans h.c2, h.m.keep (hk mp (.inr (.inr rfl)) h.m.lt)⟩
theorem mz_get {og b1 b2 mp : Nat} {X : World} (h : MZ og b1 b2 mp X) {x : Int × Value} (hx : x ∈ mzL b2) : (Instr.lookup 87 (.map (some mp)) (.int .i64 x.1) false).run Tryz.prog X = .ok x.2 X := by
  refine mf_get h.m (fun a ha b hb e => ?_) hx
  unfold mzL at ha hb
  simp only [List.mem_cons, List.not_mem_nil, or_false] at ha hb
  rcases ha with rfl | rfl | rfl <;> rcases hb with rfl | rfl | rfl <;> first | rfl | (exfalso; simp at e)
def MzEnd (og : Nat) (w : World) (e : Ending) (w' : World) : Prop := ∃ b1 b2 mp, e = .returned (.map (some mp)) ∧ MZ og b1 b2 mp w' ∧ w.heap.size ≤ b1 ∧ w.heap.size ≤ b2 ∧ w.heap.size ≤ mp ∧ Below w.heap.size w w'
set_option maxHeartbeats 2000000 in
set_option maxRecDepth 100000 in
theorem measurers_any (og : Nat) (w : World) : Calls Tryz.prog 37 #[.pointer (some ⟨og, 0, none⟩)] w fun e w' => MzEnd og w e w' := by
  have hmm := @run_makeMap Tryz.prog
  obtain ⟨W0, hW0⟩ : ∃ W0, W0 = ((w.alloc (.cells #[.pointer (some ⟨og, 0, none⟩)] 35 (0, 0))).alloc (.cells #[clo 46 w.heap.size] 100 (0, 0))).alloc (.map #[] 0) := ⟨_, rfl⟩
  obtain ⟨hb0, h0, h1⟩ := alloc2 w #[.pointer (some ⟨og, 0, none⟩)] #[clo 46 w.heap.size] 35 100
  have hs0 : W0.heap.size = w.heap.size + 3 := by rw [hW0]; simp
  have hB0 : Below w.heap.size w W0 := by rw [hW0]; exact hb0.alloc (by simp; omega) _
  have hr0 : W0.heap[w.heap.size]? = some (.cells #[.pointer (some ⟨og, 0, none⟩)] 35 (0, 0)) := by rw [hW0]; exact (heap_alloc_old _ _ (by simp; omega)).trans h0
  have hr1 : W0.heap[w.heap.size + 1]? = some (.cells #[clo 46 w.heap.size] 100 (0, 0)) := by rw [hW0]; exact (heap_alloc_old _ _ (by simp)).trans h1
  have hm0 : MF W0 (w.heap.size + 1 + 1) [] := ⟨⟨#[], 0, by rw [hW0]; exact PC.heap_at _ _ _ (by simp), rfl⟩, fun x hx => by cases hx⟩
  obtain ⟨w1, e1, hm1, hg1⟩ := mf_new hm0 (k := 1) (by unfold iOk; decide) (fun x hx => by cases hx) (clo 48 (w.heap.size + 1))
  obtain ⟨w2, e2, hm2, hg2⟩ := mf_new hm1 (k := 2) (by unfold iOk; decide) (fun x hx => by simp at hx; rw [hx]; show (1 : Int) ≠ 2; decide) (clo 49 (w.heap.size + 1))
  obtain ⟨w3, e3, hm3, hg3⟩ := mf_new hm2 (k := 3) (by unfold iOk; decide) (fun x hx => by simp at hx; rcases hx with rfl | rfl; (show (1 : Int) ≠ 3; decide); (show (2 : Int) ≠ 3; decide)) (clo 51 (w.heap.size + 1))
  have hk : ∀ k, k < w.heap.size + 2 → w3.heap[k]? = W0.heap[k]? := fun k hk => by
    rw [hg3.block k (by have := hg1.size; have := hg2.size; omega) (by simp; omega), hg2.block k (by have := hg1.size; omega) (by simp; omega), hg1.block k (by omega) (by simp; omega)]
  have HE : Hid (MzEnd og w (.returned (.map (some (w.heap.size + 1 + 1)))) w3) := by
    refine ⟨w.heap.size, w.heap.size + 1, w.heap.size + 1 + 1, rfl, ⟨(hk _ (by omega)).trans hr0, (hk _ (by omega)).trans hr1, hm3⟩, by omega, by omega, by omega, ?_⟩
    exact ((hB0.grown hg1 (by omega) (fun k e => by cases e; omega)).grown hg2 (by have := hg1.size; omega) (fun k e => by cases e; omega)).grown hg3 (by have := hg1.size; have := hg2.size; omega) (fun k e => by cases e; omega)
  rw [hW0] at e1
  clear hm0 hm1 hm2 hm3 hg1 hg2 hg3 hk hr0 hr1 hB0 hs0 hb0 h0 h1 hW0
  unfold clo at e1 e2 e3
  go_enter Tryz.func37, Tryz.ntmps37
  go_wp2
  go_ret
  exact HE.out
end Go.Proofs.YtpmknkagnkagpaaGreat.ZC
