/- Contract of the program's Ask, where it answers. -/
import Derived.Test.YtekbppfocnbhbaaGreatQG
set_option linter.unusedVariables false
set_option linter.unusedSimpArgs false
namespace Go.Proofs.YtekbppfocnbhbaaGreat.R5
open scoped Classical
open Go.RowKit

/-- What the oracle answers, a new answer being f, and what it knows then. -/
def pAsk (o : Pra) (q : Qn) (f : List UInt8) : List UInt8 × Pra :=
  match fndA q o.log with
  | some A => (A, o)
  | none => (f, { o with log := o.log ++ [(q, f)] })
theorem pAsk_some {o : Pra} {q : Qn} {f A : List UInt8} (h : fndA q o.log = some A) : pAsk o q f = (A, o) := by unfold pAsk; rw [h]
theorem pAsk_none {o : Pra} {q : Qn} {f : List UInt8} (h : fndA q o.log = none) : pAsk o q f = (f, { o with log := o.log ++ [(q, f)] }) := by unfold pAsk; rw [h]
theorem pAsk_len {o : Pra} {q : Qn} {f : List UInt8} (hl : lOk o.log) (hf : f.length = 32) : (pAsk o q f).1.length = 32 := by
  cases h : fndA q o.log with
  | some A => rw [pAsk_some h]; exact (hl.all _ (fndA_some h)).2
  | none => rw [pAsk_none h]; exact hf
theorem panswer_ideal (B og mb : Nat) (S : Nat → Prop) (dq dv ov : Value) (o : Pra) (q : Qn) (w : World) (hB : B ≤ w.heap.size) (hll : o.log.length < 1000000) (ho : PO B og mb S w o dv ov) (hq : kOk q) (hdq : HB w dq q.data) :
    Calls Tryz.prog 94 #[.pointer (some ⟨og, 0, none⟩), .agg (qL q dq).toArray, .func (.func 95) #[.pointer (some ⟨og, 0, none⟩)] #[]] w fun e w' => PAns B og mb S w (pAsk o q (drawD o.draws o.log.length)).2 dv (pAsk o q (drawD o.draws o.log.length)).1 e w' := by
  cases h : fndA q o.log with
  | some A => rw [pAsk_some h]; exact panswer_found B og mb S dq dv ov o q A _ w hB ho hq hdq h
  | none => rw [pAsk_none h]; exact panswer_draw B og mb S dq dv ov o q w hB hll ho hq hdq h
theorem panswer_conc (B og mb qb : Nat) (S : Nat → Prop) (dq dv ov : Value) (o : Pra) (q : Qn) (D : List UInt8) (w : World) (hB : B ≤ w.heap.size) (hll : o.log.length < 1000000) (ho : PO B og mb S w o dv ov) (hq : kOk q) (hdq : HB w dq q.data) (hDl : D.length = 32)
    (hfr : ∀ X, Below w.heap.size w X → Calls Tryz.prog 96 #[.pointer (some ⟨qb, 0, none⟩)] X fun e w' => e = .returned (.agg (D.map B8).toArray) ∧ Below X.heap.size X w') :
    Calls Tryz.prog 94 #[.pointer (some ⟨og, 0, none⟩), .agg (qL q dq).toArray, .func (.func 96) #[] #[.pointer (some ⟨qb, 0, none⟩)]] w fun e w' => PAns B og mb S w (pAsk o q D).2 dv (pAsk o q D).1 e w' := by
  cases h : fndA q o.log with
  | some A => rw [pAsk_some h]; exact panswer_found B og mb S dq dv ov o q A _ w hB ho hq hdq h
  | none => rw [pAsk_none h]; exact panswer_comp B og mb qb S dq dv ov o q D w hB hll ho hq hdq h hDl hfr
/-- How Ask ends. -/
def PAsk (B og mb : Nat) (S : Nat → Prop) (w : World) (r : List UInt8 × Pra) (dv : Value) (e : Ending) (w' : World) : Prop :=
  e = .returned (okV r.1) ∧ Fr S w w' ∧ ∃ ov', PO B og mb (fun k => S k ∨ (w.heap.size ≤ k ∧ k < w'.heap.size)) w' r.2 dv ov'
/-- What is left behind the answer: the store of it into a block of its own. -/
theorem pask_end {B og mb : Nat} {S : Nat → Prop} {w w2 w3 : World} {o o' : Pra} {dv ov : Value} {A : List UInt8} {e : Ending} {b : Nat} (ho : PO B og mb S w o dv ov) (hB : B ≤ w.heap.size) (hb2 : Below w.heap.size w w2) (hb : w.heap.size ≤ b) (hb' : b < w2.heap.size) (h : PAns B og mb S w2 o' dv A e w3) (N : Array Value) :
    Fr S w (w3.setRow b N) ∧ ∃ ov', PO B og mb (fun k => S k ∨ (w.heap.size ≤ k ∧ k < (w3.setRow b N).heap.size)) (w3.setRow b N) o' dv ov' := by
  obtain ⟨_, hfr, ov', hp⟩ := h
  have hs : (w3.setRow b N).heap.size = w3.heap.size := by simp
  have hs2 := hb2.size
  have hs3 := hfr.size
  refine ⟨((Fr.ofBelow hb2).trans hfr (fun k h => .inl h)).setRow _ _ (.inr hb), ov', ?_⟩
  refine PO.more (hp.keep (Nat.le_of_eq hs.symm) (fun k hk h => setRow_other _ _ _ _ ?_)) (fun k h => h.imp id (fun h => ⟨by omega, by rw [hs]; exact h.2⟩)) (fun k h => ?_) (fun k h => ?_)
  · rcases h with (h | h) | h
    · have := ho.top k h; omega
    · omega
    · have := (ho.dro k h).2; omega
  · rcases h with h | h
    · exact .inl (.inl h)
    · exact .inr (fun e => by have := (ho.dro k e).2; omega)
  · rw [hs]
    rcases h with h | h
    · exact ⟨ho.low k h, by have := ho.top k h; omega⟩
    · exact ⟨by omega, by rw [hs] at h; exact h.2⟩

set_option maxHeartbeats 4000000 in
set_option maxRecDepth 100000 in
theorem pask_ideal (B og mb : Nat) (S : Nat → Prop) (dq dv ov : Value) (o : Pra) (q : Qn) (w : World) (hid : o.ideal = true) (hB : B ≤ w.heap.size) (hll : o.log.length < 1000000) (ho : PO B og mb S w o dv ov) (hq : kOk q) (hdq : HB w dq q.data) (hok : askB q = true) :
    Calls Tryz.prog 79 #[.pointer (some ⟨og, 0, none⟩), .agg (qL q dq).toArray] w fun e w' => PAsk B og mb S w (pAsk o q (drawD o.draws o.log.length)) dv e w' := by
  have hqk := hq.key
  have HAL : Hid _ := pAsk_len (q := q) ho.ok (drawD_len o.draws o.log.length ho.draws.1)
  have hans := fun W (hb : Below w.heap.size w W) => panswer_ideal B og mb S dq dv ov o q W (Nat.le_trans hB hb.size) hll (ho.below hb) hq (hdq.below hb)
  generalize pAsk o q (drawD o.draws o.log.length) = r at *
  obtain ⟨A, o'⟩ := r
  unfold PAsk
  simp only at hans HAL ⊢
  have hog := row_lt ho.row
  obtain ⟨c0, c33, c34, hc, cf⟩ := ho.cells
  have hzv := fun W => zero_dig W
  have hbd := fun W => build_dig W
  obtain ⟨ZL, hZL⟩ : ∃ L, L = (List.replicate 32 (0 : UInt8)).map B8 := ⟨_, rfl⟩
  have HZV : Hid (dV (List.replicate 32 0) = .agg ZL.toArray) := by show _ = _; rw [hZL]; rfl
  rw [← hZL] at hzv hbd
  have HZS : Hid (ZL.toArray.size = 32) := by show _ = _; rw [hZL]; simp
  have HZ1 : Hid (ZL.toArray.all (·.oneCell') = true) := by show _ = _; rw [hZL]; exact B8_onea _
  clear hZL
  obtain ⟨hb, hr0, hr1⟩ := w2_facts w (qL q dq) ZL
  have HNN : Hid _ := none_no og mb _ ((hb.cell (block_lt hc)).trans hc)
  have hiq := isq_any dq q ((w.alloc (.cells (qL q dq).toArray 138 (0, 0))).alloc (.cells ZL.toArray 33 (0, 0))) hqk
  have hkc := fun W (h : Aft w W (qL q dq) ZL) => (q_facts hqk h.r0).1
  have HQI : Hid _ := info35 (qL q dq) (qL_len q dq hqk)
  have HUQ : Hid _ := Tryz.underlying138
  obtain ⟨QL, hQL⟩ : ∃ L, L = qL q dq := ⟨_, rfl⟩
  rw [← hQL] at hb hr0 hr1 HNN hiq hkc HQI ⊢
  have HRQ : Hid _ := rangeAt_row hr0
  have h0 : ∀ W, Aft w W QL ZL → W.cell? ⟨og, 0, none⟩ = some (.bool true) := fun W h => ((h.below.cell (show (⟨og, 0, none⟩ : Addr).block < w.heap.size from hog)).trans c0).trans (by rw [hid])
  have hm : mayQ q = true ∧ (q.kind == 4) = false := by unfold askB at hok; simpa using hok
  rw [hm.1] at hiq
  have hk4 := hm.2
  have HIQ : Hid _ := hiq
  rw [← hQL] at hans
  have HO : Hid _ := ho
  clear hr0 hr1 hb hc hok hQL ho c0 c33 c34 cf hdq hm hiq
  go_enter Tryz.func79, Tryz.ntmps79
  go_wp2_with (first
    | (go_at_call 56; refine Calls.mono HNN.out ?_; rintro e w1 ⟨rfl, rfl⟩)
    | (refine wpList_load_mid rfl 138 _ rfl w.heap.size 0 rfl QL _ HRQ.out HUQ.out rfl HQI.out ?_)
    | (go_at_call 93; fail))
  refine Calls.mono HIQ.out ?_
  rintro e w1 ⟨rfl, hq1⟩
  have hA := aft_of hq1
  have a0 := hkc w1 hA
  have HA : Hid _ := hA
  clear hq1 hA
  have h0' := h0 w1 HA.out
  have HCALL : Hid _ := hans w1 HA.out.below
  have HRQ1 : Hid _ := rangeAt_row HA.out.r0
  clear hans h0 hkc
  go_wp2_with (first
    | (refine wpList_load_mid rfl 138 _ rfl w.heap.size 0 rfl QL _ HRQ1.out HUQ.out rfl HQI.out ?_)
    | (go_at_call 94; fail))
  refine Calls.mono HCALL.out ?_
  rintro e3 w3 hE
  have hPE : PAns B og mb S w1 o' dv A e3 w3 := hE
  obtain ⟨he, hfr, _⟩ := hE
  subst he
  have hA : (A.map B8).toArray.size = 32 := by simpa using HAL.out
  have hr3 : w3.heap[w.heap.size + 1]? = some (.cells ZL.toArray 33 (0, 0)) := (hfr.block _ (row_lt HA.out.r1) (fun h => by have := HO.out.top _ h; omega)).trans HA.out.r1
  have hend := pask_end HO.out hB HA.out.below (show w.heap.size ≤ w.heap.size + 1 by omega) (row_lt HA.out.r1) hPE (A.map B8).toArray
  have HEND : Hid _ := hend
  have HR3 : Hid _ := hr3
  have HAS : Hid _ := hA
  have HA1 : Hid _ := B8_onea A
  have HOK : Hid (okV A = .tuple #[.agg (A.map B8).toArray, .int .i64 0]) := rfl
  clear hPE hfr hr3 hend hA
  unfold dV
  generalize (A.map B8).toArray = AA at *
  go_wp2_with (refine wpList_store_row rfl 33 _ _ rfl (w.heap.size + 1) AA rfl rfl 33 ZL.toArray HR3.out (info32a _ HAS.out) (HZS.out.trans HAS.out.symm) HA1.out ?_)
  refine bodyPost_ret (v := .tuple #[.agg AA, .int .i64 0]) ?_ rfl ⟨by rw [HOK.out], HEND.out⟩
  exact results_dig2 Tryz.results79 _ _ (w.heap.size + 1) 33 _ (0, 0) _ rfl rfl (setRow_heap _ _ _ _ _ _ HR3.out) (info32a _ HAS.out)
end Go.Proofs.YtekbppfocnbhbaaGreat.R5
