/- Contracts of the program's Ideal, Used, and of Stream where it refuses. -/
import Derived.Test.YtbmgfllilcdgcaaQM
set_option linter.unusedVariables false
set_option linter.unusedSimpArgs false
namespace Go.Proofs.Ytbmgfllilcdgcaa.R5
open Go.RowKit

set_option maxHeartbeats 1000000 in
set_option maxRecDepth 100000 in
theorem ideal_any (og mb : Nat) (i : Bool) (w : World) (hc : w.cell? ⟨og, 35, none⟩ = some (.map (some mb))) (h0 : w.cell? ⟨og, 0, none⟩ = some (.bool i)) :
    Calls Try.prog 19 #[.pointer (some ⟨og, 0, none⟩)] w fun e w' => e = .returned (.bool i) ∧ w' = w := by
  have HNN : Hid _ := none_no og mb w hc
  clear hc
  go_enter Try.func19, Try.ntmps19
  go_wp2_with (go_at_call 24; refine Calls.mono HNN.out ?_; rintro e w1 ⟨rfl, rfl⟩)
  go_ret
  exact ⟨rfl, rfl⟩
set_option maxHeartbeats 1000000 in
set_option maxRecDepth 100000 in
theorem ideal_none (pz : Value) (w : World) (hn : Calls Try.prog 24 #[pz] w fun e w' => e = .returned (.bool true) ∧ w' = w) :
    Calls Try.prog 19 #[pz] w fun e w' => e = .returned (.bool false) ∧ w' = w := by
  have HNN : Hid _ := hn
  clear hn
  go_enter Try.func19, Try.ntmps19
  go_wp2_with (go_at_call 24; refine Calls.mono HNN.out ?_; rintro e w1 ⟨rfl, rfl⟩)
  go_ret
  exact ⟨rfl, rfl⟩
set_option maxHeartbeats 1000000 in
set_option maxRecDepth 100000 in
theorem used_not (pz : Value) (w : World) (hn : Calls Try.prog 19 #[pz] w fun e w' => e = .returned (.bool false) ∧ w' = w) :
    Calls Try.prog 20 #[pz] w fun e w' => e = .returned (.int .i64 0) ∧ w' = w := by
  have HNN : Hid _ := hn
  clear hn
  go_enter Try.func20, Try.ntmps20
  go_wp2_with (go_at_call 19; refine Calls.mono HNN.out ?_; rintro e w1 ⟨rfl, rfl⟩)
  go_ret
  exact ⟨rfl, rfl⟩
set_option maxHeartbeats 1000000 in
set_option maxRecDepth 100000 in
theorem used_any {B og mb : Nat} {S : Nat → Prop} {w : World} {o : Pra} {dv ov : Value} (ho : PO B og mb S w o dv ov) (hid : o.ideal = true) :
    Calls Try.prog 20 #[.pointer (some ⟨og, 0, none⟩)] w fun e w' => e = .returned (.int .i64 o.log.length) ∧ w' = w := by
  obtain ⟨c0, c33, c34, hc, cf⟩ := ho.cells
  obtain ⟨p, cap, hov⟩ := ho.ordV
  rw [hid] at c0
  rw [hov] at c34
  have HNN : Hid _ := ideal_any og mb true w hc c0
  clear hc c33 cf hov ho c0
  go_enter Try.func20, Try.ntmps20
  go_wp2_with (go_at_call 19; refine Calls.mono HNN.out ?_; rintro e w1 ⟨rfl, rfl⟩)
  go_ret
  exact ⟨rfl, rfl⟩
/-- A stream that is refused. -/
def errS (n : Int) : Value := .tuple #[.slice none 0 0, .int .i64 n]
set_option maxHeartbeats 1000000 in
set_option maxRecDepth 100000 in
theorem pstream_none (pz : Value) (QL : List Value) (n : Int) (w : World) (hn : ∀ X, Below w.heap.size w X → Calls Try.prog 24 #[pz] X fun e w' => e = .returned (.bool true) ∧ w' = X) :
    Calls Try.prog 17 #[pz, .agg QL.toArray, .int .i64 n] w fun e w' => e = .returned (errS 1) ∧ Below w.heap.size w w' := by
  have hb : Below w.heap.size w (w.alloc (.cells QL.toArray 33 (0, 0))) := (Below.refl _ _).alloc (Nat.le_refl _) _
  have hnn := hn _ hb
  have HNN : Hid _ := hnn
  clear hn hnn
  go_enter Try.func17, Try.ntmps17
  go_wp2_with (go_at_call 24; refine Calls.mono HNN.out ?_; rintro e w1 ⟨rfl, rfl⟩)
  go_ret2
  exact ⟨rfl, hb⟩
/-- A stream that may be. -/
def strB (q : Qn) (n : Int) : Bool := decide (q.kind = 4 ∧ 1 ≤ q.dom ∧ q.dom ≤ 16 ∧ 0 ≤ n ∧ n ≤ 1024)
set_option maxHeartbeats 2000000 in
set_option maxRecDepth 100000 in
theorem pstream_bad (og mb : Nat) (dq : Value) (q : Qn) (n : Int) (w : World) (hc : w.cell? ⟨og, 35, none⟩ = some (.map (some mb))) (hqk : q.key.length = 32) (hbad : strB q n = false) :
    Calls Try.prog 17 #[.pointer (some ⟨og, 0, none⟩), .agg (qL q dq).toArray, .int .i64 n] w fun e w' => e = .returned (errS 2) ∧ Below w.heap.size w w' := by
  have hb : Below w.heap.size w (w.alloc (.cells (qL q dq).toArray 33 (0, 0))) := (Below.refl _ _).alloc (Nat.le_refl _) _
  obtain ⟨a0, a1, a2, a3⟩ := q_facts hqk (heap_alloc_new w (.cells (qL q dq).toArray 33 (0, 0)))
  have HNN : Hid _ := none_no og mb _ ((hb.cell (block_lt hc)).trans hc)
  have HDM : Hid (Calls Try.prog 25 #[.int .i64 q.dom] (w.alloc (.cells (qL q dq).toArray 33 (0, 0))) fun e w' => e = .returned (.bool (domB q.dom)) ∧ w' = (w.alloc (.cells (qL q dq).toArray 33 (0, 0)))) := dom_any q.dom _
  have HB0 : Hid _ := hb
  have HDT : q.kind = 4 → domB q.dom = true → 0 ≤ n → ¬ n ≤ 1024 := fun h1 h2 h3 h4 => by unfold strB at hbad; unfold domB at h2; simp_all
  generalize (qL q dq).toArray = QA at *
  generalize domB q.dom = DB at *
  generalize q.kind = K at *
  clear hb a1 a3 hc hbad
  by_cases h1 : K = 4
  · subst h1
    by_cases hDB : DB = true
    · have HDF : Hid (DB = true) := hDB
      have HDT' : Hid _ := HDT rfl hDB
      clear hDB HDT
      by_cases hn : n < 0
      · skip
        go_enter Try.func17, Try.ntmps17
        go_wp2_with (first
          | (go_at_call 24; refine Calls.mono HNN.out ?_; rintro e w1 ⟨rfl, rfl⟩)
          | (go_at_call 25; refine Calls.mono HDM.out ?_; rintro e w1 ⟨rfl, rfl⟩; rw [HDF.out]))
        go_ret2
        exact ⟨rfl, HB0.out⟩
      · have hn2 : 1024 < n := by have := HDT'.out (by omega); omega
        go_enter Try.func17, Try.ntmps17
        go_wp2_with (first
          | (go_at_call 24; refine Calls.mono HNN.out ?_; rintro e w1 ⟨rfl, rfl⟩)
          | (go_at_call 25; refine Calls.mono HDM.out ?_; rintro e w1 ⟨rfl, rfl⟩; rw [HDF.out]))
        go_ret2
        exact ⟨rfl, HB0.out⟩
    · have HDF : Hid (DB = false) := by show DB = false; simpa using hDB
      clear HDT hDB
      go_enter Try.func17, Try.ntmps17
      go_wp2_with (first
        | (go_at_call 24; refine Calls.mono HNN.out ?_; rintro e w1 ⟨rfl, rfl⟩)
        | (go_at_call 25; refine Calls.mono HDM.out ?_; rintro e w1 ⟨rfl, rfl⟩; rw [HDF.out]))
      go_ret2
      exact ⟨rfl, HB0.out⟩
  · have hk : (K != 4) = true := by simpa using h1
    have HDF : Hid (DB = DB) := rfl
    clear HDT h1
    go_enter Try.func17, Try.ntmps17
    go_wp2_with (first
      | (go_at_call 24; refine Calls.mono HNN.out ?_; rintro e w1 ⟨rfl, rfl⟩)
      | (go_at_call 25; refine Calls.mono HDM.out ?_; rintro e w1 ⟨rfl, rfl⟩; rw [HDF.out]))
    go_ret2
    exact ⟨rfl, HB0.out⟩
end Go.Proofs.Ytbmgfllilcdgcaa.R5
