/- Contract of the program's Stream of 128 bytes, in concrete mode; in either mode. -/
import Derived.Test.YtbmmibmfjhehhaaGreatBP
set_option linter.unusedVariables false
set_option linter.unusedSimpArgs false
namespace Go.Proofs.YtbmmibmfjhehhaaGreat.R5.PS
open scoped Classical
open Go.RowKit

theorem pans_strm (B og mb qb : Nat) (S : Nat → Prop) (dq dv ov : Value) (o : Pra) (q : Qn) (D : List UInt8) (w : World) (hB : B ≤ w.heap.size) (hll : o.log.length < 1000000) (ho : PO B og mb S w o dv ov) (hq : kOk q) (hdq : HB w dq q.data) (hDl : D.length = 32)
    (hfr : ∀ X, Below w.heap.size w X → Calls Tryz.prog 52 #[.pointer (some ⟨qb, 0, none⟩)] X fun e w' => e = .returned (.agg (D.map B8).toArray) ∧ Below X.heap.size X w') :
    Calls Tryz.prog 51 #[.pointer (some ⟨og, 0, none⟩), .agg (qL q dq).toArray, .func (.func 52) #[] #[.pointer (some ⟨qb, 0, none⟩)]] w fun e w' => PAns B og mb S w (pAsk o q D).2 dv (pAsk o q D).1 e w' := by
  cases h : fndA q o.log with
  | some A => rw [pAsk_some h]; exact panswer_found B og mb S dq dv ov o q A _ w hB ho hq hdq h
  | none => rw [pAsk_none h]; exact panswer_strm B og mb qb S dq dv ov o q D w hB hll ho hq hdq h hDl hfr
def SOc (B og mb : Nat) (S : Nat → Prop) (w : World) (o : Pra) (dv : Value) (q : Qn) (e : Ending) (w' : World) : Prop :=
  ∃ v, e = .returned (.tuple #[v, .int .i64 0]) ∧ (∀ j, v.ownBlock = some j → w.heap.size ≤ j) ∧ HB w' v (BC.cst q) ∧ Fr S w w' ∧ ∃ ov', PO B og mb (fun k => S k ∨ (w.heap.size ≤ k ∧ k < w'.heap.size)) w' (pAsk o q (BC.bg (BC.cst q))).2 dv ov'
theorem zero_sl (w : World) : (zeroValue 64).run Tryz.prog w = .ok (.slice none 0 0) w := by kernel_rfl
set_option maxHeartbeats 2000000 in
set_option maxRecDepth 100000 in
theorem pstream_conc (B og mb : Nat) (S : Nat → Prop) (dq dv ov : Value) (o : Pra) (q : Qn) (w : World) (hid : o.ideal = false) (hB : B ≤ w.heap.size) (hll : o.log.length < 900000) (ho : PO B og mb S w o dv ov) (hq : kOk q) (hql : q.data.length ≤ 1000000) (hdq : HB w dq q.data) (hok : strB q 128 = true) :
    Calls Tryz.prog 38 #[.pointer (some ⟨og, 0, none⟩), .agg (qL q dq).toArray, .int .i64 128] w fun e w' => SOc B og mb S w o dv q e w' := by
  have hok' : q.kind = 4 ∧ 1 ≤ q.dom ∧ q.dom ≤ 16 := by unfold strB at hok; have := of_decide_eq_true hok; exact ⟨this.1, this.2.1, this.2.2.1⟩
  obtain ⟨k4, d1, d2⟩ := hok'
  have hqk := hq.key
  have hog := row_lt ho.row
  have hc := ho.cells.2.2.2.1
  have hci := ho.cells.1
  rw [hid] at hci
  have hcs := fun W (hb : Below w.heap.size w W) => BC.cstream_any dq q W hqk hql (hdq.below hb)
  have hans := fun W g8 v (hb : Below w.heap.size w W) (hcl : W.cell? ⟨g8, 0, none⟩ = some v) (hv : HB W v (BC.cst q)) => pans_strm B og mb g8 S dq dv ov o q (BC.bg (BC.cst q)) W (Nat.le_trans hB hb.size) (by omega) (ho.below hb) hq (hdq.below hb) (BC.bg_len (BC.cst_len hqk)) (fun X hX => BC.strm1_any g8 v (BC.cst q) X ((hX.cell (block_lt hcl)).trans hcl) (hv.below hX) (BC.cst_len hqk))
  have hmy : mayQ q = true := by unfold mayQ; rw [k4]; simp [d1, d2]
  have hb : Below w.heap.size w (w.alloc (.cells (qL q dq).toArray 66 (0, 0))) := (Below.refl _ _).alloc (Nat.le_refl _) _
  have HNN : Hid _ := none_no og mb _ ((hb.cell (block_lt hc)).trans hc)
  have hiq := isq_any dq q (w.alloc (.cells (qL q dq).toArray 66 (0, 0))) hqk
  have hkc := fun W (h : Aft1 w W (qL q dq)) => (q_facts hqk h.r0).1
  have HQI : Hid _ := info35 (qL q dq) (qL_len q dq hqk)
  have HUQ : Hid _ := Tryz.underlying66
  have hr0 := heap_alloc_new w (.cells (qL q dq).toArray 66 (0, 0))
  obtain ⟨QL, hQL⟩ : ∃ L, L = qL q dq := ⟨_, rfl⟩
  rw [← hQL] at hb hr0 HNN hiq hkc HQI ⊢
  have HRQ : Hid _ := rangeAt_row hr0
  rw [hmy] at hiq
  rw [k4] at hkc
  rw [← hQL] at hans hcs
  have HIQ : Hid _ := hiq
  have HO : Hid _ := ho
  have HCI : Hid _ := hci
  have HCS : Hid (∀ W, Below w.heap.size w W → Calls Tryz.prog 50 #[.agg QL.toArray, .int .i64 128] W fun e w' => ∃ v, e = .returned v ∧ FB W.heap.size w' v (BC.cst q) ∧ Below W.heap.size W w') := hcs
  have HANS : Hid (∀ W g8 v, Below w.heap.size w W → W.cell? ⟨g8, 0, none⟩ = some v → HB W v (BC.cst q) → Calls Tryz.prog 51 #[.pointer (some ⟨og, 0, none⟩), .agg QL.toArray, .func (.func 52) #[] #[.pointer (some ⟨g8, 0, none⟩)]] W fun e w' => PAns B og mb S W (pAsk o q (BC.bg (BC.cst q))).2 dv (pAsk o q (BC.bg (BC.cst q))).1 e w') := hans
  have hz := fun W => zero_sl W
  clear hr0 ho hq hdq hok hb k4 hiq hQL hmy hc hci hid hcs hans
  go_enter Tryz.func38, Tryz.ntmps38
  go_wp2_with (first
    | (go_at_call 22; refine Calls.mono HNN.out ?_; rintro e w1 ⟨rfl, rfl⟩)
    | (refine wpList_load_mid rfl 66 _ rfl w.heap.size 0 rfl QL _ HRQ.out HUQ.out rfl HQI.out ?_)
    | (go_at_call 48; fail))
  refine Calls.mono HIQ.out ?_
  rintro e w1 ⟨rfl, hq1⟩
  have hA := aft1_of hq1
  have a0 := hkc w1 hA
  have HA : Hid _ := hA
  clear hq1 hA
  have h0 : w1.cell? ⟨og, 0, none⟩ = some (.bool false) := (HA.out.below.cell (show (⟨og, 0, none⟩ : Addr).block < w.heap.size from hog)).trans HCI.out
  have HRQ1 : Hid _ := rangeAt_row HA.out.r0
  clear hkc
  go_wp2_with (refine wpList_load_mid rfl 66 _ rfl w.heap.size 0 rfl QL _ HRQ1.out HUQ.out rfl HQI.out ?_)
  refine Calls.mono (HCS.out w1 HA.out.below) ?_
  rintro e w2 ⟨v, rfl, hf, hb⟩
  have HT1 : Hid (BC.RS w [(w.heap.size, 66, QL)] w1) := ⟨HA.out.below, fun r hr => by rw [List.mem_singleton] at hr; subst hr; exact Nat.le_refl _, by simp, fun r hr => by rw [List.mem_singleton] at hr; subst hr; exact HA.out.r0⟩
  have hs1 := HA.out.below.size
  obtain ⟨pv, cv, hve, _⟩ := hb_cells hf.hb
  rw [BC.cst_len hqk] at hve
  subst hve
  have HT4 : Hid (BC.RS w [(w2.heap.size, 64, [.slice pv 128 cv]), (w.heap.size, 66, QL)] (w2.alloc (.cells #[.slice pv 128 cv] 64 (0, 0)))) := (HT1.out.step hb).alloc w2.heap.size rfl 64 [.slice pv 128 cv]
  have hb3 : Below w2.heap.size w2 (w2.alloc (.cells #[.slice pv 128 cv] 64 (0, 0))) := (Below.refl _ _).alloc (Nat.le_refl _) _
  have HHB : Hid (HB (w2.alloc (.cells #[.slice pv 128 cv] 64 (0, 0))) (.slice pv 128 cv) (BC.cst q)) := hf.hb.below hb3
  have HOW : Hid (∀ j, (Value.slice pv 128 cv).ownBlock = some j → w.heap.size ≤ j) := fun j e => by have := (World.ownsRow.lt hf j e).1; omega
  clear hf hb HT1 HA h0 HRQ1 hb3
  go_upto_region 8 with fail
  generalize w2.alloc (.cells #[.slice pv 128 cv] 64 (0, 0)) = X3 at *
  generalize w2.heap.size = g8 at *
  have HRW : Hid (X3.rangeAt w.heap.size 0 QL) := rangeAt_row (HT4.out.at 1 rfl)
  go_wp2_with (refine wpList_load_mid rfl 66 (.tmp 4) rfl w.heap.size 0 rfl QL _ HRW.out HUQ.out rfl HQI.out ?_)
  refine Calls.mono (HANS.out X3 g8 _ HT4.out.bel (HT4.out.cell 0 rfl 0 rfl) HHB.out) ?_
  rintro e w4 ⟨rfl, hfr, ov', hpo⟩
  have hs3 := HT4.out.bel.size
  have hS0 : ∀ k, S k → k < w.heap.size := HO.out.top
  have hg8 := HT4.out.lowAt 0 rfl
  have hc8 : w4.cell? ⟨g8, 0, none⟩ = some (.slice pv 128 cv) := (World.cell?_of_block (a := ⟨g8, 0, none⟩) (hfr.block g8 (row_lt (HT4.out.at 0 rfl)) (fun h => by have := hS0 _ h; omega))).trans (HT4.out.cell 0 rfl 0 rfl)
  have HEND : Hid (SOc B og mb S w o dv q (.returned (.tuple #[.slice pv 128 cv, .int .i64 0])) w4) :=
    ⟨_, rfl, HOW.out, hb_keep HHB.out (fun j e hl => hfr.block j hl (fun h => by have := hS0 _ h; have := HOW.out j e; omega)), (Fr.ofBelow HT4.out.bel).trans hfr (fun _ h => .inl h), ov', hpo.more (fun j h => h.imp id (fun h => ⟨by omega, h.2⟩)) (fun j h => .inr (fun e => h.elim (HO.out.dro j e).1 (fun h => by have := (HO.out.dro j e).2; omega))) (fun j h => h.elim (fun h => ⟨HO.out.low j h, by have := hfr.size; have := HO.out.top j h; omega⟩) (fun h => ⟨by omega, h.2⟩))⟩
  clear hfr hpo HT4 HHB HOW HANS hS0
  go_wp2
  go_ret2
  exact HEND.out
end Go.Proofs.YtbmmibmfjhehhaaGreat.R5.PS
