/- Contract of the program's Stream, in ideal mode. -/
import Derived.Test.YtefhjjjjbkkedaaGreatSC
import Derived.Test.YtefhjjjjbkkedaaGreatWd
set_option linter.unusedVariables false
set_option linter.unusedSimpArgs false
namespace Go.Proofs.YtefhjjjjbkkedaaGreat.R5.PS
open scoped Classical
open Go.RowKit

/-- How Stream ends, where it answers. -/
def SOk (B og mb : Nat) (S : Nat → Prop) (w : World) (o : Pra) (dv : Value) (q : Qn) (n : Nat) (e : Ending) (w' : World) : Prop :=
  ∃ v, e = .returned (.tuple #[v, .int .i64 0]) ∧ (∀ j, v.ownBlock = some j → w.heap.size ≤ j) ∧ HB w' v ((str q o ((n + 31) / 32)).1.take n) ∧ Fr S w w' ∧ ∃ ov', PO B og mb (fun k => S k ∨ (w.heap.size ≤ k ∧ k < w'.heap.size)) w' (str q o ((n + 31) / 32)).2 dv ov'
set_option maxHeartbeats 2000000 in
set_option maxRecDepth 100000 in
theorem pstream_ideal (B og mb : Nat) (S : Nat → Prop) (dq dv ov : Value) (o : Pra) (q : Qn) (n : Nat) (w : World) (hid : o.ideal = true) (hB : B ≤ w.heap.size) (hll : o.log.length < 900000) (ho : PO B og mb S w o dv ov) (hq : kOk q) (hql : q.data.length ≤ 1000000) (hdq : HB w dq q.data) (hqo : q.data ≠ [] → ∀ j, dq.ownBlock = some j → ¬ S j) (hok : strB q n = true) :
    Calls Tryz.prog 18 #[.pointer (some ⟨og, 0, none⟩), .agg (qL q dq).toArray, .int .i64 (n : Int)] w fun e w' => SOk B og mb S w o dv q n e w' := by
  have hok' : q.kind = 4 ∧ 1 ≤ q.dom ∧ q.dom ≤ 16 ∧ (0 : Int) ≤ n ∧ (n : Int) ≤ 1024 := by unfold strB at hok; simpa using hok
  obtain ⟨k4, d1, d2, n0, n1⟩ := hok'
  have hn : n ≤ 1024 := by omega
  have hqk := hq.key
  have hog := row_lt ho.row
  have hc := ho.cells.2.2.2.1
  have hci := ho.cells.1
  rw [hid] at hci
  have hans := fun W (hb : Below w.heap.size w W) => dstream_any B og mb S dq dv ov o q n W (Nat.le_trans hB hb.size) hll (ho.below hb) hq hql hn (hdq.below hb) hqo
  have hmy : mayQ q = true := by unfold mayQ; rw [k4]; simp [d1, d2]
  have hb : Below w.heap.size w (w.alloc (.cells (qL q dq).toArray 39 (0, 0))) := (Below.refl _ _).alloc (Nat.le_refl _) _
  have HNN : Hid _ := none_no og mb _ ((hb.cell (block_lt hc)).trans hc)
  have hiq := isq_any dq q (w.alloc (.cells (qL q dq).toArray 39 (0, 0))) hqk
  have hkc := fun W (h : Aft1 w W (qL q dq)) => (q_facts hqk h.r0).1
  have HQI : Hid _ := info35 (qL q dq) (qL_len q dq hqk)
  have HUQ : Hid _ := Tryz.underlying39
  have hr0 := heap_alloc_new w (.cells (qL q dq).toArray 39 (0, 0))
  obtain ⟨QL, hQL⟩ : ∃ L, L = qL q dq := ⟨_, rfl⟩
  rw [← hQL] at hb hr0 HNN hiq hkc HQI ⊢
  have HRQ : Hid _ := rangeAt_row hr0
  rw [hmy] at hiq
  rw [k4] at hkc
  rw [← hQL] at hans
  have HIQ : Hid _ := hiq
  have HO : Hid _ := ho
  have HCI : Hid _ := hci
  clear hr0 ho hq hdq hqo hok hb k4 hiq hQL hmy hc hci hid
  go_enter Tryz.func18, Tryz.ntmps18
  go_wp2_with (first
    | (go_at_call 25; refine Calls.mono HNN.out ?_; rintro e w1 ⟨rfl, rfl⟩)
    | (refine wpList_load_mid rfl 39 _ rfl w.heap.size 0 rfl QL _ HRQ.out HUQ.out rfl HQI.out ?_)
    | (go_at_call 30; fail))
  refine Calls.mono HIQ.out ?_
  rintro e w1 ⟨rfl, hq1⟩
  have hA := aft1_of hq1
  have a0 := hkc w1 hA
  have HA : Hid _ := hA
  clear hq1 hA
  have h0 : w1.cell? ⟨og, 0, none⟩ = some (.bool true) := (HA.out.below.cell (show (⟨og, 0, none⟩ : Addr).block < w.heap.size from hog)).trans HCI.out
  have HCALL : Hid _ := hans w1 HA.out.below
  have HRQ1 : Hid _ := rangeAt_row HA.out.r0
  clear hans hkc
  go_wp2_with (first
    | (refine wpList_load_mid rfl 39 _ rfl w.heap.size 0 rfl QL _ HRQ1.out HUQ.out rfl HQI.out ?_)
    | (go_at_call 39; fail))
  refine Calls.mono HCALL.out ?_
  rintro e w3 ⟨v, rfl, hvo, h1, h2, ov', h3⟩
  go_wp2
  go_ret2
  have hs1 := HA.out.below.size
  have hs2 := h2.size
  refine ⟨v, rfl, fun j e => by have := hvo j e; omega, h1, (Fr.ofBelow HA.out.below).trans h2 (fun _ h => .inl h), ov', h3.more (fun j h => h.imp id (fun h => ⟨by omega, h.2⟩)) (fun j h => .inr (fun e => h.elim (HO.out.dro j e).1 (fun h => by have := (HO.out.dro j e).2; omega))) (fun j h => h.elim (fun h => ⟨HO.out.low j h, by have := HO.out.top j h; omega⟩) (fun h => ⟨by omega, h.2⟩))⟩
end Go.Proofs.YtefhjjjjbkkedaaGreat.R5.PS
