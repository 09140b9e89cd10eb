import Derived.Test.YtekbppfocnbhbaaGreatQF
import Derived.Test.YtekbppfocnbhbaaGreatQB
import Derived.Laws.ResultCell
set_option linter.unusedVariables false
set_option linter.unusedSimpArgs false
set_option maxHeartbeats 16000000
set_option maxRecDepth 100000
namespace Go.Proofs.YtekbppfocnbhbaaGreat.R5
open scoped Classical
open Go.RowKit
theorem results_dig2 {fn : Func} {p u : Tmp} (h : fn.results = #[.cell p 33, .tmp u]) (tmps : Array Value) (w : World) (g : Nat) (t : TypeId) (cs : Array Value) (fr : Nat × Nat) (x : Value)
    (hp : tmps.getD p undef = .pointer (some ⟨g, 0, none⟩)) (hx : tmps.getD u undef = x) (hg : w.heap[g]? = some (.cells cs t fr)) (hi : (Tryz.prog.info? 33).map (·.size) = some cs.size) :
    (results fn tmps).run Tryz.prog w = .ok (.tuple #[.agg cs, x]) w := by
  rw [results_cell_tmp h, hp, hx]
  simp [asAddr, run_loadVar_row w g t 33 cs fr _ hg Tryz.underlying33 rfl hi]
theorem isq_any (dv : Value) (q : Qn) (w : World) (hk : q.key.length = 32) : Calls Tryz.prog 93 #[.agg (qL q dv).toArray] w fun e w' => e = .returned (.bool (mayQ q)) ∧ Below w.heap.size w w' := by
  have HB0 : Hid (Below w.heap.size w (w.alloc (.cells (qL q dv).toArray 138 (0, 0)))) := (Below.refl _ _).alloc (Nat.le_refl _) _
  obtain ⟨a0, a1, a2, a3⟩ := q_facts hk (heap_at w (.cells (qL q dv).toArray 138 (0, 0)) _ rfl)
  have hq := fun W => eql_digest W q.key (List.replicate 32 0) hk (by simp)
  obtain ⟨kd, ky, dm, da⟩ := q
  simp only at *
  have HI1 : Hid _ := info32 (ky.map B8) (by simpa using hk)
  have HA1 : Hid _ := a1
  have hbd := fun W => build_dig W
  obtain ⟨ZA, hZA⟩ : ∃ A, A = ((List.replicate 32 (0 : UInt8)).map B8).toArray := ⟨_, rfl⟩
  rw [← hZA] at hbd hq
  generalize (qL ⟨kd, ky, dm, da⟩ dv).toArray = PA at *
  clear a1 hZA a3
  by_cases h1 : kd < 1
  · have HE : Hid (mayQ ⟨kd, ky, dm, da⟩ = false) := by show _ = _; unfold mayQ; simp; omega
    clear hbd
    go_enter Tryz.func93, Tryz.ntmps93
    go_wp2
    go_ret
    exact ⟨by rw [HE.out]; rfl, HB0.out⟩
  · by_cases h2 : 4 < kd
    · have HE : Hid (mayQ ⟨kd, ky, dm, da⟩ = false) := by show _ = _; unfold mayQ; simp; omega
      clear hbd
      go_enter Tryz.func93, Tryz.ntmps93
      go_wp2
      go_ret
      exact ⟨by rw [HE.out]; rfl, HB0.out⟩
    · by_cases h3 : dm < 1
      · have HE : Hid (mayQ ⟨kd, ky, dm, da⟩ = false) := by show _ = _; unfold mayQ; simp; omega
        clear hbd
        go_enter Tryz.func93, Tryz.ntmps93
        go_wp2
        go_ret
        exact ⟨by rw [HE.out]; rfl, HB0.out⟩
      · by_cases h4 : 16 < dm
        · have HE : Hid (mayQ ⟨kd, ky, dm, da⟩ = false) := by show _ = _; unfold mayQ; simp; omega
          clear hbd
          go_enter Tryz.func93, Tryz.ntmps93
          go_wp2
          go_ret
          exact ⟨by rw [HE.out]; rfl, HB0.out⟩
        · by_cases h5 : kd = 1
          · have HE : Hid (mayQ ⟨kd, ky, dm, da⟩ = (ky == List.replicate 32 0)) := by
              show _ = _
              unfold mayQ
              simp only
              rw [Bool.eq_iff_iff]
              simp only [decide_eq_true_eq, beq_iff_eq]
              constructor
              · intro h; exact h.2.2.2.2 h5
              · intro h; exact ⟨by omega, by omega, by omega, by omega, fun _ => h⟩
            rw [h5] at a0
            have HQ0 : Hid (∀ W, (Op.equalIn 10000 33 (.agg (ky.map B8).toArray) (.agg ((List.replicate 32 (0 : UInt8)).map B8).toArray)).run Tryz.prog W = .ok (ky == List.replicate 32 0) W) := fun W => (run_equalIn_bytes W 9998 33 5 32 Tryz.underlying33 Tryz.underlying5 size_u8 ky (List.replicate 32 0) hk (by simp))
            generalize (ky == List.replicate 32 0) = R at *
            clear hk hq hbd
            clear h5 h1 h2
            go_enter Tryz.func93, Tryz.ntmps93
            go_wp2_with (first
              | (refine load_mid_g (by rfl) 33 _ rfl w.heap.size 1 rfl (ky.map B8) _ HA1.out Tryz.underlying33 rfl HI1.out ?_))
            refine upon_eq (r' := .ok (Next.value (.bool R)) _) (congrArg (fun r => Result.andThen (Result.andThen r (fun b w' => Result.ok (Value.bool b) w')) (fun a w' => Result.ok (Next.value a) w')) (HQ0.out (w.alloc (.cells PA 138 (0, 0))))) ?_
            go_wp2
            go_ret
            exact ⟨by rw [HE.out]; rfl, HB0.out⟩
          · have g5 : (kd == 1) = false := by simp [h5]
            have g6 : (kd != 1) = true := by simp [h5]
            have HE : Hid (mayQ ⟨kd, ky, dm, da⟩ = true) := by
              show _ = _
              unfold mayQ
              simp only [decide_eq_true_eq]
              exact ⟨by omega, by omega, by omega, by omega, fun h => absurd h h5⟩
            clear h5
            go_enter Tryz.func93, Tryz.ntmps93
            go_wp2
            go_ret
            exact ⟨by rw [HE.out]; rfl, HB0.out⟩
def askB (q : Qn) : Bool := mayQ q && !(q.kind == 4)
def errV (n : Int) : Value := .tuple #[dV (List.replicate 32 0), .int .i64 n]
def okV (A : List UInt8) : Value := .tuple #[dV A, .int .i64 0]
theorem w2_facts (w : World) (QL ZL : List Value) : Below w.heap.size w ((w.alloc (.cells QL.toArray 138 (0, 0))).alloc (.cells ZL.toArray 33 (0, 0))) ∧
    ((w.alloc (.cells QL.toArray 138 (0, 0))).alloc (.cells ZL.toArray 33 (0, 0))).heap[w.heap.size]? = some (.cells QL.toArray 138 (0, 0)) ∧
    ((w.alloc (.cells QL.toArray 138 (0, 0))).alloc (.cells ZL.toArray 33 (0, 0))).heap[w.heap.size + 1]? = some (.cells ZL.toArray 33 (0, 0)) :=
  ⟨((Below.refl _ _).alloc (Nat.le_refl _) _).alloc (by simp) _, alloc2_first _ _ _, heap_at _ _ _ (by simp)⟩
theorem pask_none (pv : Value) (QL : List Value) (w : World) (hn : ∀ X, Below w.heap.size w X → Calls Tryz.prog 56 #[pv] X fun e w' => e = .returned (.bool true) ∧ w' = X) :
    Calls Tryz.prog 79 #[pv, .agg QL.toArray] w fun e w' => e = .returned (errV 1) ∧ Below w.heap.size w w' := by
  have hzv := fun W => zero_dig W
  have hbd := fun W => build_dig W
  obtain ⟨ZL, hZL⟩ : ∃ L, L = (List.replicate 32 (0 : UInt8)).map B8 := ⟨_, rfl⟩
  have HZV : Hid (dV (List.replicate 32 0) = .agg ZL.toArray) := by show _ = _; rw [hZL]; rfl
  rw [← hZL] at hzv hbd
  have HZS : Hid (ZL.toArray.size = 32) := by show _ = _; rw [hZL]; simp
  have HZ1 : Hid (ZL.toArray.all (·.oneCell') = true) := by show _ = _; rw [hZL]; exact B8_onea _
  clear hZL
  obtain ⟨hb, hr0, hr1⟩ := w2_facts w QL ZL
  have hnn := hn _ hb
  have HNN : Hid _ := hnn
  have HR1 : Hid _ := hr1
  have HB0 : Hid _ := hb
  clear hn hnn hr0 hr1 hb
  go_enter Tryz.func79, Tryz.ntmps79
  go_wp2_with (first
    | (go_at_call 56; refine Calls.mono HNN.out ?_; rintro e w1 ⟨rfl, rfl⟩)
    | (refine wpList_store_row rfl 33 _ _ rfl (w.heap.size + 1) ZL.toArray rfl rfl 33 ZL.toArray HR1.out (info32a _ HZS.out) rfl HZ1.out ?_))
  refine bodyPost_ret (v := .tuple #[.agg ZL.toArray, .int .i64 1]) ?_ rfl ⟨by unfold errV; rw [HZV.out], below_setRow HB0.out (by omega) _⟩
  exact results_dig2 Tryz.results79 _ _ (w.heap.size + 1) 33 _ (0, 0) _ rfl rfl (setRow_heap _ _ _ _ _ _ HR1.out) (info32a _ HZS.out)
structure Aft (w W : World) (QL ZL : List Value) : Prop where
  below : Below w.heap.size w W
  r0 : W.heap[w.heap.size]? = some (.cells QL.toArray 138 (0, 0))
  r1 : W.heap[w.heap.size + 1]? = some (.cells ZL.toArray 33 (0, 0))
theorem aft_of {w w1 : World} {QL ZL : List Value} (h : Below ((w.alloc (.cells QL.toArray 138 (0, 0))).alloc (.cells ZL.toArray 33 (0, 0))).heap.size ((w.alloc (.cells QL.toArray 138 (0, 0))).alloc (.cells ZL.toArray 33 (0, 0))) w1) : Aft w w1 QL ZL := by
  obtain ⟨hb, hr0, hr1⟩ := w2_facts w QL ZL
  exact ⟨hb.trans (h.mono hb.size), (h.block _ (row_lt hr0)).trans hr0, (h.block _ (row_lt hr1)).trans hr1⟩
theorem pask_bad (og mb : Nat) (dq : Value) (q : Qn) (w : World) (hc : w.cell? ⟨og, 35, none⟩ = some (.map (some mb))) (hqk : q.key.length = 32) (hbad : askB q = false) :
    Calls Tryz.prog 79 #[.pointer (some ⟨og, 0, none⟩), .agg (qL q dq).toArray] w fun e w' => e = .returned (errV 2) ∧ Below w.heap.size w w' := by
  have hzv := fun W => zero_dig W
  have hbd := fun W => build_dig W
  obtain ⟨ZL, hZL⟩ : ∃ L, L = (List.replicate 32 (0 : UInt8)).map B8 := ⟨_, rfl⟩
  have HZV : Hid (dV (List.replicate 32 0) = .agg ZL.toArray) := by show _ = _; rw [hZL]; rfl
  rw [← hZL] at hzv hbd
  have HZS : Hid (ZL.toArray.size = 32) := by show _ = _; rw [hZL]; simp
  have HZ1 : Hid (ZL.toArray.all (·.oneCell') = true) := by show _ = _; rw [hZL]; exact B8_onea _
  clear hZL
  obtain ⟨hb, hr0, hr1⟩ := w2_facts w (qL q dq) ZL
  have HNN : Hid _ := none_no og mb _ ((hb.cell (block_lt hc)).trans hc)
  have hiq := isq_any dq q ((w.alloc (.cells (qL q dq).toArray 138 (0, 0))).alloc (.cells ZL.toArray 33 (0, 0))) hqk
  have hkc := fun W (h : Aft w W (qL q dq) ZL) => (q_facts hqk h.r0).1
  have HQI : Hid _ := info35 (qL q dq) (qL_len q dq hqk)
  have HUQ : Hid _ := Tryz.underlying138
  obtain ⟨QL, hQL⟩ : ∃ L, L = qL q dq := ⟨_, rfl⟩
  rw [← hQL] at hb hr0 hr1 HNN hiq hkc HQI ⊢
  have HRQ : Hid _ := rangeAt_row hr0
  have HBD : Hid (mayQ q = true → (q.kind == 4) = true) := fun h => by unfold askB at hbad; rw [h] at hbad; simpa using hbad
  clear hr0 hr1 hb hc hbad hQL
  generalize mayQ q = MB at *
  cases MB with
  | false =>
    have HIQ : Hid _ := hiq
    clear hiq HBD
    go_enter Tryz.func79, Tryz.ntmps79
    go_wp2_with (first
      | (go_at_call 56; refine Calls.mono HNN.out ?_; rintro e w1 ⟨rfl, rfl⟩)
      | (refine wpList_load_mid rfl 138 _ rfl w.heap.size 0 rfl QL _ HRQ.out HUQ.out rfl HQI.out ?_)
      | (go_at_call 93; fail))
    refine Calls.mono HIQ.out ?_
    rintro e w1 ⟨rfl, hq1⟩
    have hA := aft_of hq1
    have a0 := hkc w1 hA
    have HA : Hid _ := hA
    clear hq1 hA
    clear hkc a0
    go_wp2_with (refine wpList_store_row rfl 33 _ _ rfl (w.heap.size + 1) ZL.toArray rfl rfl 33 ZL.toArray HA.out.r1 (info32a _ HZS.out) rfl HZ1.out ?_)
    refine bodyPost_ret (v := .tuple #[.agg ZL.toArray, .int .i64 2]) ?_ rfl ⟨by unfold errV; rw [HZV.out], below_setRow HA.out.below (by omega) _⟩
    exact results_dig2 Tryz.results79 _ _ (w.heap.size + 1) 33 _ (0, 0) _ rfl rfl (setRow_heap _ _ _ _ _ _ HA.out.r1) (info32a _ HZS.out)
  | true =>
    have HIQ : Hid _ := hiq
    have hk4 : q.kind = 4 := by simpa using HBD.out rfl
    rw [hk4] at hkc
    clear hiq HBD hk4
    go_enter Tryz.func79, Tryz.ntmps79
    go_wp2_with (first
      | (go_at_call 56; refine Calls.mono HNN.out ?_; rintro e w1 ⟨rfl, rfl⟩)
      | (refine wpList_load_mid rfl 138 _ rfl w.heap.size 0 rfl QL _ HRQ.out HUQ.out rfl HQI.out ?_)
      | (go_at_call 93; fail))
    refine Calls.mono HIQ.out ?_
    rintro e w1 ⟨rfl, hq1⟩
    have hA := aft_of hq1
    have a0 := hkc w1 hA
    have HA : Hid _ := hA
    clear hq1 hA
    clear hkc
    go_wp2_with (refine wpList_store_row rfl 33 _ _ rfl (w.heap.size + 1) ZL.toArray rfl rfl 33 ZL.toArray HA.out.r1 (info32a _ HZS.out) rfl HZ1.out ?_)
    refine bodyPost_ret (v := .tuple #[.agg ZL.toArray, .int .i64 2]) ?_ rfl ⟨by unfold errV; rw [HZV.out], below_setRow HA.out.below (by omega) _⟩
    exact results_dig2 Tryz.results79 _ _ (w.heap.size + 1) 33 _ (0, 0) _ rfl rfl (setRow_heap _ _ _ _ _ _ HA.out.r1) (info32a _ HZS.out)
def pAsk (o : Pra) (q : Qn) (f : List UInt8) : List UInt8 × Pra :=
  match fndA q o.log with
  | some A => (A, o)
  | none => (f, { o with log := o.log ++ [(q, f)] })
theorem pAsk_some {o : Pra} {q : Qn} {f A : List UInt8} (h : fndA q o.log = some A) : pAsk o q f = (A, o) := by unfold pAsk; rw [h]
theorem pAsk_none {o : Pra} {q : Qn} {f : List UInt8} (h : fndA q o.log = none) : pAsk o q f = (f, { o with log := o.log ++ [(q, f)] }) := by unfold pAsk; rw [h]
theorem pAsk_len {o : Pra} {q : Qn} {f : List UInt8} (hl : lOk o.log) (hf : f.length = 32) : (pAsk o q f).1.length = 32 := by
  cases h : fndA q o.log with
  | some A => rw [pAsk_some h]; exact (hl.all _ (fndA_some h)).2
  | none => rw [pAsk_none h]; exact hf
theorem panswer_ideal (B og mb : Nat) (S : Nat → Prop) (dq dv ov : Value) (o : Pra) (q : Qn) (w : World) (hB : B ≤ w.heap.size) (hll : o.log.length < 1000000) (ho : PO B og mb S w o dv ov) (hq : kOk q) (hdq : HB w dq q.data) :
    Calls Tryz.prog 94 #[.pointer (some ⟨og, 0, none⟩), .agg (qL q dq).toArray, .func (.func 95) #[.pointer (some ⟨og, 0, none⟩)] #[]] w fun e w' => PAns B og mb S w (pAsk o q (drawD o.draws o.log.length)).2 dv (pAsk o q (drawD o.draws o.log.length)).1 e w' := by
  cases h : fndA q o.log with
  | some A => rw [pAsk_some h]; exact panswer_found B og mb S dq dv ov o q A _ w hB ho hq hdq h
  | none => rw [pAsk_none h]; exact panswer_draw B og mb S dq dv ov o q w hB hll ho hq hdq h
def PAsk (B og mb : Nat) (S : Nat → Prop) (w : World) (r : List UInt8 × Pra) (dv : Value) (e : Ending) (w' : World) : Prop :=
  e = .returned (okV r.1) ∧ Fr S w w' ∧ ∃ ov', PO B og mb (fun k => S k ∨ (w.heap.size ≤ k ∧ k < w'.heap.size)) w' r.2 dv ov'
theorem pask_end {B og mb : Nat} {S : Nat → Prop} {w w2 w3 : World} {o o' : Pra} {dv ov : Value} {A : List UInt8} {e : Ending} {b : Nat} (ho : PO B og mb S w o dv ov) (hB : B ≤ w.heap.size) (hb2 : Below w.heap.size w w2) (hb : w.heap.size ≤ b) (hb' : b < w2.heap.size) (h : PAns B og mb S w2 o' dv A e w3) (N : Array Value) :
    Fr S w (w3.setRow b N) ∧ ∃ ov', PO B og mb (fun k => S k ∨ (w.heap.size ≤ k ∧ k < (w3.setRow b N).heap.size)) (w3.setRow b N) o' dv ov' := by
  obtain ⟨_, hfr, ov', hp⟩ := h
  have hs : (w3.setRow b N).heap.size = w3.heap.size := by simp
  have hs2 := hb2.size
  have hs3 := hfr.size
  refine ⟨((Fr.ofBelow hb2).trans hfr (fun k h => .inl h)).setRow _ _ (.inr hb), ov', ?_⟩
  refine PO.more (hp.keep (Nat.le_of_eq hs.symm) (fun k hk h => setRow_other _ _ _ _ ?_)) (fun k h => h.imp id (fun h => ⟨by omega, by rw [hs]; exact h.2⟩)) (fun k h => ?_) (fun k h => ?_)
  · rcases h with (h | h) | h
    · have := ho.top k h; omega
    · omega
    · have := (ho.dro k h).2; omega
  · rcases h with h | h
    · exact .inl (.inl h)
    · exact .inr (fun e => by have := (ho.dro k e).2; omega)
  · rw [hs]
    rcases h with h | h
    · exact ⟨ho.low k h, by have := ho.top k h; omega⟩
    · exact ⟨by omega, by rw [hs] at h; exact h.2⟩
theorem pask_ideal (B og mb : Nat) (S : Nat → Prop) (dq dv ov : Value) (o : Pra) (q : Qn) (w : World) (hid : o.ideal = true) (hB : B ≤ w.heap.size) (hll : o.log.length < 1000000) (ho : PO B og mb S w o dv ov) (hq : kOk q) (hdq : HB w dq q.data) (hok : askB q = true) :
    Calls Tryz.prog 79 #[.pointer (some ⟨og, 0, none⟩), .agg (qL q dq).toArray] w fun e w' => PAsk B og mb S w (pAsk o q (drawD o.draws o.log.length)) dv e w' := by
  have hqk := hq.key
  have HAL : Hid _ := pAsk_len (q := q) ho.ok (drawD_len o.draws o.log.length ho.draws.1)
  have hans := fun W (hb : Below w.heap.size w W) => panswer_ideal B og mb S dq dv ov o q W (Nat.le_trans hB hb.size) hll (ho.below hb) hq (hdq.below hb)
  generalize pAsk o q (drawD o.draws o.log.length) = r at *
  obtain ⟨A, o'⟩ := r
  unfold PAsk
  simp only at hans HAL ⊢
  have hog := row_lt ho.row
  obtain ⟨c0, c33, c34, hc, cf⟩ := ho.cells
  have hzv := fun W => zero_dig W
  have hbd := fun W => build_dig W
  obtain ⟨ZL, hZL⟩ : ∃ L, L = (List.replicate 32 (0 : UInt8)).map B8 := ⟨_, rfl⟩
  have HZV : Hid (dV (List.replicate 32 0) = .agg ZL.toArray) := by show _ = _; rw [hZL]; rfl
  rw [← hZL] at hzv hbd
  have HZS : Hid (ZL.toArray.size = 32) := by show _ = _; rw [hZL]; simp
  have HZ1 : Hid (ZL.toArray.all (·.oneCell') = true) := by show _ = _; rw [hZL]; exact B8_onea _
  clear hZL
  obtain ⟨hb, hr0, hr1⟩ := w2_facts w (qL q dq) ZL
  have HNN : Hid _ := none_no og mb _ ((hb.cell (block_lt hc)).trans hc)
  have hiq := isq_any dq q ((w.alloc (.cells (qL q dq).toArray 138 (0, 0))).alloc (.cells ZL.toArray 33 (0, 0))) hqk
  have hkc := fun W (h : Aft w W (qL q dq) ZL) => (q_facts hqk h.r0).1
  have HQI : Hid _ := info35 (qL q dq) (qL_len q dq hqk)
  have HUQ : Hid _ := Tryz.underlying138
  obtain ⟨QL, hQL⟩ : ∃ L, L = qL q dq := ⟨_, rfl⟩
  rw [← hQL] at hb hr0 hr1 HNN hiq hkc HQI ⊢
  have HRQ : Hid _ := rangeAt_row hr0
  have h0 : ∀ W, Aft w W QL ZL → W.cell? ⟨og, 0, none⟩ = some (.bool true) := fun W h => ((h.below.cell (show (⟨og, 0, none⟩ : Addr).block < w.heap.size from hog)).trans c0).trans (by rw [hid])
  have hm : mayQ q = true ∧ (q.kind == 4) = false := by unfold askB at hok; simpa using hok
  rw [hm.1] at hiq
  have hk4 := hm.2
  have HIQ : Hid _ := hiq
  rw [← hQL] at hans
  have HO : Hid _ := ho
  clear hr0 hr1 hb hc hok hQL ho c0 c33 c34 cf hdq hm hiq
  go_enter Tryz.func79, Tryz.ntmps79
  go_wp2_with (first
    | (go_at_call 56; refine Calls.mono HNN.out ?_; rintro e w1 ⟨rfl, rfl⟩)
    | (refine wpList_load_mid rfl 138 _ rfl w.heap.size 0 rfl QL _ HRQ.out HUQ.out rfl HQI.out ?_)
    | (go_at_call 93; fail))
  refine Calls.mono HIQ.out ?_
  rintro e w1 ⟨rfl, hq1⟩
  have hA := aft_of hq1
  have a0 := hkc w1 hA
  have HA : Hid _ := hA
  clear hq1 hA
  have h0' := h0 w1 HA.out
  have HCALL : Hid _ := hans w1 HA.out.below
  have HRQ1 : Hid _ := rangeAt_row HA.out.r0
  clear hans h0 hkc
  go_wp2_with (first
    | (refine wpList_load_mid rfl 138 _ rfl w.heap.size 0 rfl QL _ HRQ1.out HUQ.out rfl HQI.out ?_)
    | (go_at_call 94; fail))
  refine Calls.mono HCALL.out ?_
  rintro e3 w3 hE
  have hPE : PAns B og mb S w1 o' dv A e3 w3 := hE
  obtain ⟨he, hfr, _⟩ := hE
  subst he
  have hA : (A.map B8).toArray.size = 32 := by simpa using HAL.out
  have hr3 : w3.heap[w.heap.size + 1]? = some (.cells ZL.toArray 33 (0, 0)) := (hfr.block _ (row_lt HA.out.r1) (fun h => by have := HO.out.top _ h; omega)).trans HA.out.r1
  have hend := pask_end HO.out hB HA.out.below (show w.heap.size ≤ w.heap.size + 1 by omega) (row_lt HA.out.r1) hPE (A.map B8).toArray
  have HEND : Hid _ := hend
  have HR3 : Hid _ := hr3
  have HAS : Hid _ := hA
  have HA1 : Hid _ := B8_onea A
  have HOK : Hid (okV A = .tuple #[.agg (A.map B8).toArray, .int .i64 0]) := rfl
  clear hPE hfr hr3 hend hA
  unfold dV
  generalize (A.map B8).toArray = AA at *
  go_wp2_with (refine wpList_store_row rfl 33 _ _ rfl (w.heap.size + 1) AA rfl rfl 33 ZL.toArray HR3.out (info32a _ HAS.out) (HZS.out.trans HAS.out.symm) HA1.out ?_)
  refine bodyPost_ret (v := .tuple #[.agg AA, .int .i64 0]) ?_ rfl ⟨by rw [HOK.out], HEND.out⟩
  exact results_dig2 Tryz.results79 _ _ (w.heap.size + 1) 33 _ (0, 0) _ rfl rfl (setRow_heap _ _ _ _ _ _ HR3.out) (info32a _ HAS.out)
theorem flat_take (ls : List (List UInt8)) (k : Nat) (h : k < ls.length) : (ls.take (k + 1)).flatten = (ls.take k).flatten ++ ls.getD k [] := by
  rw [List.take_succ_eq_append_getElem h, List.flatten_append]
  simp [List.getD, List.getElem?_eq_getElem h]
theorem flat_le (ls : List (List UInt8)) (k : Nat) : (ls.take k).flatten.length ≤ ls.flatten.length := by
  have h : (ls.take k ++ ls.drop k).flatten = ls.flatten := by rw [List.take_append_drop]
  rw [← h, List.flatten_append, List.length_append]; omega
def HP (w : World) (v : Value) (ls : List (List UInt8)) : Prop := ∃ p cap, v = .slice p ls.length cap ∧ ∀ i, i < ls.length → ∃ g u, p = some ⟨g, 0, none⟩ ∧ w.cell? ⟨g, i, none⟩ = some u ∧ HB w u (ls.getD i [])
theorem hp_below {w w' : World} {v : Value} {ls : List (List UInt8)} (h : HP w v ls) (hb : Below w.heap.size w w') : HP w' v ls := by
  obtain ⟨p, cap, h1, h2⟩ := h
  refine ⟨p, cap, h1, fun i hi => ?_⟩
  obtain ⟨g, u, e, hc, hu⟩ := h2 i hi
  exact ⟨g, u, e, (hb.cell (block_lt hc)).trans hc, hu.below hb⟩
theorem pjoin_any (pv : Value) (ls : List (List UInt8)) (w : World) (hl : ls.length ≤ 1048576) (hr : ls.flatten.length ≤ 1099511627776) (hc : HP w pv ls) :
    Calls Tryz.prog 80 #[pv] w fun e w' => ∃ v, e = .returned v ∧ FB w.heap.size w' v ls.flatten ∧ Below w.heap.size w w' := by
  obtain ⟨p, cap, rfl, hc⟩ := hc
  have HC : Hid _ := hc
  clear hc
  go_enter Tryz.func80, Tryz.ntmps80
  go_wp2
  go_loopw [3, 8] (fun v i wr => ∃ k : Nat, k ≤ ls.length ∧ i = .int .i64 k ∧ FB w.heap.size wr v (ls.take k).flatten ∧ Below w.heap.size w wr) (fun _ i _ => ls.length - (intOf i).toNat)
  case atStart => exact ⟨0, Nat.zero_le _, rfl, World.ownsRow_nil _ _ _ _, Below.refl _ _⟩
  case round =>
    obtain ⟨k, hk, rfl, hown, hbel⟩ := hrel
    have hsz := hbel.size
    by_cases hlt : k < ls.length
    · obtain ⟨g, u, hpg, hu, hbu⟩ := HC.out k hlt
      have hu' : wr.cell? ⟨g, k, none⟩ = some u := (hbel.cell (block_lt hu)).trans hu
      have hbu' := hbu.below hbel
      have hft := flat_take ls k hlt
      have hle := flat_le ls (k + 1)
      rw [hft, List.length_append] at hle
      have HFT : Hid _ := hft
      have HBU : Hid _ := hbu'
      have HOW : Hid (FB w.heap.size wr u3 (ls.take k).flatten) := hown
      subst hpg
      clear hft hbu hu hbu'
      generalize ls.getD k [] = l at *
      generalize (ls.take k).flatten = pl at *
      go_wp2_with (at_builtin; refine wpList_appHB rfl (.tmp 12) (.tmp 13) rfl w.heap.size u3 u pl l rfl rfl HOW.out HBU.out (by omega) hsz ?_; intro v1 w1 hown1 hgr1; have hb1 : Below w.heap.size w w1 := hbel.grown hgr1 hsz (fun j hj => (HOW.out.lt j hj).1))
      go_roundw
      case rel => exact ⟨k + 1, by omega, by go_num, by rw [HFT.out]; exact hown1, hb1⟩
      case measure => simp [intOf]; omega
    · have hke : k = ls.length := by omega
      subst hke
      rw [List.take_length] at hown
      go_wp2
      go_ret
      exact ⟨_, rfl, hown, hbel⟩
theorem build_q3 (w : World) (a b : Int) (p : Option Addr) (n c : Nat) : (Instr.build 138 #[(0, .int .i64 a), (2, .int .i64 b), (3, .slice p n c)]).run Tryz.prog w = .ok (.agg (.int .i64 a :: ((List.replicate 32 (0 : UInt8)).map B8 ++ [.int .i64 b, .slice p n c])).toArray) w := by
  show _ = _
  kernel_rfl
theorem build_q4 (w : World) (a b : Int) (DL : List Value) (h2 : DL.length = 32) (p : Option Addr) (n c : Nat) : (Instr.build 138 #[(0, .int .i64 a), (1, .agg DL.toArray), (2, .int .i64 b), (3, .slice p n c)]).run Tryz.prog w = .ok (.agg (.int .i64 a :: (DL ++ [.int .i64 b, .slice p n c])).toArray) w := by
  iterate 32 (obtain ⟨_, _, e, g⟩ := cons_of h2; clear h2; subst e; have h2 := g; clear g)
  obtain rfl := List.eq_nil_of_length_eq_zero h2
  show _ = _
  kernel_rfl
theorem pend {B og mb : Nat} {S : Nat → Prop} {w w2 w3 : World} {o o' : Pra} {dv ov : Value} {b : Nat} (ho : PO B og mb S w o dv ov) (hB : B ≤ w.heap.size) (hb2 : Below w.heap.size w w2) (hb : w.heap.size ≤ b) (hb' : b < w2.heap.size) (hfr : Fr S w2 w3) (h : ∃ ov', PO B og mb (fun k => S k ∨ (w2.heap.size ≤ k ∧ k < w3.heap.size)) w3 o' dv ov') (N : Array Value) :
    Fr S w (w3.setRow b N) ∧ ∃ ov', PO B og mb (fun k => S k ∨ (w.heap.size ≤ k ∧ k < (w3.setRow b N).heap.size)) (w3.setRow b N) o' dv ov' := by
  obtain ⟨ov', hp⟩ := h
  exact pask_end ho hB hb2 hb hb' (A := []) (e := .returned (dV [])) ⟨rfl, hfr, ov', hp⟩ N
theorem pdig_gen (pz pv : Value) (d : Int) (ls : List (List UInt8)) (w : World) (R : World → Value → World → Prop) (hp : HP w pv ls) (hl : ls.length ≤ 1048576) (hr : ls.flatten.length ≤ 1099511627776)
    (hA : ∀ W v, Below w.heap.size w W → HB W v ls.flatten → Calls Tryz.prog 79 #[pz, .agg (qL ⟨1, List.replicate 32 0, d, ls.flatten⟩ v).toArray] W fun e w' => ∃ A n, A.length = 32 ∧ e = .returned (.tuple #[dV A, .int .i64 n]) ∧ R W (.tuple #[dV A, .int .i64 n]) w' ∧ (w.heap.size < W.heap.size → w'.heap[w.heap.size]? = W.heap[w.heap.size]?)) :
    Calls Tryz.prog 78 #[pz, .int .i64 d, pv] w fun e w' => ∃ W v w3 N, e = .returned v ∧ Below w.heap.size w W ∧ w.heap.size < W.heap.size ∧ R W v w3 ∧ w' = w3.setRow w.heap.size N := by
  have hzv := fun W => zero_dig W
  obtain ⟨ZL, hZL⟩ : ∃ L, L = (List.replicate 32 (0 : UInt8)).map B8 := ⟨_, rfl⟩
  rw [← hZL] at hzv
  have HZS : Hid (ZL.toArray.size = 32) := by show _ = _; rw [hZL]; simp
  have HZ1 : Hid (ZL.toArray.all (·.oneCell') = true) := by show _ = _; rw [hZL]; exact B8_onea _
  have HZL : Hid _ := hZL
  clear hZL
  have hb1 : Below w.heap.size w (w.alloc (.cells ZL.toArray 33 (0, 0))) := (Below.refl _ _).alloc (Nat.le_refl _) _
  have HR1 : Hid ((w.alloc (.cells ZL.toArray 33 (0, 0))).heap[w.heap.size]? = some (.cells ZL.toArray 33 (0, 0))) := heap_at _ _ _ rfl
  have HB1 : Hid _ := hb1
  have HJ : Hid (Calls Tryz.prog 80 #[pv] (w.alloc (.cells ZL.toArray 33 (0, 0))) fun e w' => ∃ v, e = .returned v ∧ FB (w.alloc (.cells ZL.toArray 33 (0, 0))).heap.size w' v ls.flatten ∧ Below (w.alloc (.cells ZL.toArray 33 (0, 0))).heap.size (w.alloc (.cells ZL.toArray 33 (0, 0))) w') := pjoin_any pv ls _ hl hr (hp_below hp hb1)
  have HA : Hid (∀ W v, Below w.heap.size w W → HB W v ls.flatten → Calls Tryz.prog 79 #[pz, .agg (qL ⟨1, List.replicate 32 0, d, ls.flatten⟩ v).toArray] W fun e w' => ∃ A n, A.length = 32 ∧ e = .returned (.tuple #[dV A, .int .i64 n]) ∧ R W (.tuple #[dV A, .int .i64 n]) w' ∧ (w.heap.size < W.heap.size → w'.heap[w.heap.size]? = W.heap[w.heap.size]?)) := hA
  clear hA hp hb1 hr
  generalize ls.flatten = l at *
  go_enter Tryz.func78, Tryz.ntmps78
  go_wp2_with fail
  refine Calls.mono HJ.out ?_
  rintro e w2 ⟨v2, rfl, hf2, hb2⟩
  obtain ⟨p2, c2, hv2, _, _⟩ := hb_cells hf2.hb
  subst hv2
  have hh2 := hf2.hb
  have HB2 : Hid (Below w.heap.size w w2) := HB1.out.trans (hb2.mono (by simp))
  have HR2 : Hid (w2.heap[w.heap.size]? = some (.cells ZL.toArray 33 (0, 0))) := (hb2.block _ (by simp)).trans HR1.out
  have hA2 := HA.out w2 _ HB2.out hh2
  clear hf2 hb2
  have hbk := fun W => build_q3 W 1 d p2 l.length c2
  have hqq : Value.int .i64 1 :: ((List.replicate 32 (0 : UInt8)).map B8 ++ [.int .i64 d, .slice p2 l.length c2]) = qL ⟨1, List.replicate 32 0, d, l⟩ (.slice p2 l.length c2) := rfl
  rw [hqq] at hbk
  generalize qL ⟨1, List.replicate 32 0, d, l⟩ (.slice p2 l.length c2) = QB at *
  clear hqq hh2
  have HBK : Hid _ := hbk
  have HA2 : Hid _ := hA2
  clear hbk hA2
  go_wp2_with (refine wpList_build rfl 138 _ rfl _ _ (by simp; exact ⟨rfl, rfl, rfl⟩) (HBK.out _) ?_)
  refine Calls.mono HA2.out ?_
  rintro e w3 ⟨A, n, hAl, rfl, hR, hk⟩
  have hs2 := row_lt HR2.out
  have HR3 : Hid (w3.heap[w.heap.size]? = some (.cells ZL.toArray 33 (0, 0))) := (hk hs2).trans HR2.out
  have hA : (A.map B8).toArray.size = 32 := by simpa using hAl
  have HAS : Hid _ := hA
  have HA1 : Hid _ := B8_onea A
  have HRR : Hid _ := hR
  clear hk hA hAl hR HA2
  unfold dV at *
  generalize (A.map B8).toArray = AA at *
  go_wp2_with (refine wpList_store_row rfl 33 _ _ rfl w.heap.size AA rfl rfl 33 ZL.toArray HR3.out (info32a _ HAS.out) (HZS.out.trans HAS.out.symm) HA1.out ?_)
  refine bodyPost_ret (v := .tuple #[.agg AA, .int .i64 n]) ?_ rfl ⟨w2, _, w3, AA, rfl, HB2.out, hs2, HRR.out, rfl⟩
  exact results_dig2 Tryz.results78 _ _ w.heap.size 33 _ (0, 0) _ rfl rfl (setRow_heap _ _ _ _ _ _ HR3.out) (info32a _ HAS.out)
end Go.Proofs.YtekbppfocnbhbaaGreat.R5
