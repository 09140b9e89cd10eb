import Derived.Test.YtekbppfocnbhbaaGreatI9
import Derived.Test.YtekbppfocnbhbaaGreatQM
set_option linter.unusedVariables false
set_option linter.unusedSimpArgs false
set_option maxHeartbeats 16000000
set_option maxRecDepth 100000
namespace Go.Proofs.YtekbppfocnbhbaaGreat.R5
open scoped Classical
open Go.RowKit
def askO (o : Ora) (q : Qn) : List UInt8 × Ora :=
  match fndA q o.log with
  | some A => (A, o)
  | none => (drawD o.draws o.used, { o with used := o.used + 1, log := o.log ++ [(q, drawD o.draws o.used)] })
theorem askO_some {o : Ora} {q : Qn} {A : List UInt8} (h : fndA q o.log = some A) : askO o q = (A, o) := by unfold askO; rw [h]
theorem askO_none {o : Ora} {q : Qn} (h : fndA q o.log = none) : askO o q = (drawD o.draws o.used, { o with used := o.used + 1, log := o.log ++ [(q, drawD o.draws o.used)] }) := by unfold askO; rw [h]
theorem askO_len {o : Ora} {q : Qn} (hl : logOk o.log) (hd : ∀ d ∈ o.draws, d.length = 32) : (askO o q).1.length = 32 := by
  cases h : fndA q o.log with
  | some A => rw [askO_some h]; exact (hl _ (fndA_some h)).2
  | none => rw [askO_none h]; exact drawD_len _ _ hd
def AskEnd (B og : Nat) (S : Nat → Prop) (w : World) (o : Ora) (dv : Value) (t : TypeId) (q : Qn) (e : Ending) (w' : World) : Prop :=
  e = .returned (.agg ((askO o q).1.map B8).toArray) ∧ Fr S w w' ∧ ∃ lv' lds', OR B og (fun k => S k ∨ (w.heap.size ≤ k ∧ k < w'.heap.size)) w' (askO o q).2 dv lv' lds' t
theorem answer_any (B og : Nat) (S : Nat → Prop) (dq dv lv : Value) (o : Ora) (lds : List Value) (t : TypeId) (q : Qn) (C : List UInt8) (w : World) (hC : C.length = 32) (hid : o.ideal = true) (hll : o.log.length < 1000000) (hu : o.used < 1000000) (hql : q.data.length ≤ 1099511627776) (hB : B ≤ w.heap.size)
    (ho : OR B og S w o dv lv lds t) (hqk : q.key.length = 32) (hdq : HB w dq q.data) (hqo : q.data ≠ [] → dq.ownBlock ≠ some og) :
    Calls Tryz.prog 102 #[.pointer (some ⟨og, 0, none⟩), .agg (qL q dq).toArray, .agg (C.map B8).toArray] w fun e w' => AskEnd B og S w o dv t q e w' := by
  cases h : fndA q o.log with
  | some A =>
    have hc35 : w.cell? ⟨og, 35, none⟩ = some lv := by rw [cell_of_row _ _ 35 _ _ _ ho.row]; exact oL_35 _ _ _ _ _ ho.ml
    refine (answer_found og B lv _ o.log lds q C A w hC (by omega) hc35 ho.log ⟨hqk, dq, rfl, hdq⟩ h).mono ?_
    rintro e w' ⟨rfl, hb⟩
    unfold AskEnd
    rw [askO_some h]
    exact ⟨rfl, Fr.ofBelow hb, lv, lds, (ho.keep hb.size (fun k hk _ => hb.block k hk)).more (fun k hk => .inl hk) (fun k hk => hk.elim (fun hk => ⟨ho.low k hk, Nat.lt_of_lt_of_le (ho.top k hk) hb.size⟩) (fun hk => ⟨by omega, hk.2⟩))⟩
  | none =>
    refine (answer_new B og S dq dv lv o lds t q C w hC hid hll hu hql hB ho hqk hdq hqo h).mono ?_
    rintro e w' hE
    unfold AskEnd
    rw [askO_none h]
    exact hE
theorem ask_any (B og : Nat) (S : Nat → Prop) (dq dv lv : Value) (o : Ora) (lds : List Value) (t : TypeId) (q : Qn) (w : World) (hid : o.ideal = true) (hll : o.log.length < 1000000) (hu : o.used < 1000000) (hql : q.data.length ≤ 1099511627776) (hB : B ≤ w.heap.size)
    (ho : OR B og S w o dv lv lds t) (hqk : q.key.length = 32) (hdq : HB w dq q.data) (hqo : q.data ≠ [] → dq.ownBlock ≠ some og) :
    Calls Tryz.prog 82 #[.pointer (some ⟨og, 0, none⟩), .agg (qL q dq).toArray] w fun e w' => AskEnd B og S w o dv t q e w' := by
  have hAl := askO_len (q := q) ho.log.1 ho.draws.1
  have hQi := info35 (qL q dq) (qL_len q dq hqk)
  have hog := row_lt ho.row
  have hzv := fun W => zero_dig W
  have hcall := fun w1 (hb : Below w.heap.size w w1) => answer_any B og S dq dv lv o lds t q (List.replicate 32 0) w1 (by simp) hid hll hu hql (Nat.le_trans hB hb.size) (ho.keep hb.size (fun k hk _ => hb.block k hk)) hqk (hdq.below hb) hqo
  obtain ⟨ZL, hZL⟩ : ∃ A, A = (List.replicate 32 (0 : UInt8)).map B8 := ⟨_, rfl⟩
  rw [← hZL] at hzv hcall
  have HZS : Hid (ZL.toArray.size = 32) := by show _ = _; rw [hZL]; simp
  have HZI : Hid _ := info32 ZL (by rw [hZL]; simp)
  obtain ⟨QL, hQL⟩ : ∃ L, L = qL q dq := ⟨_, rfl⟩
  rw [← hQL] at hcall hQi ⊢
  obtain ⟨w1, hw1⟩ : ∃ w1, w1 = ((w.alloc (.cells QL.toArray 138 (0, 0))).alloc (.cells ZL.toArray 33 (0, 0))).alloc (.cells ZL.toArray 33 (0, 0)) := ⟨_, rfl⟩
  obtain ⟨hb1, hs1, hr0, hr1, hr2⟩ := w3_facts w QL ZL.toArray ZL.toArray w1 hw1
  have hc0 : w1.cell? ⟨og, 0, none⟩ = some (.bool true) := by rw [cell_of_row _ _ 0 _ _ _ ((hb1.block _ hog).trans ho.row), ← hid]; exact oL_0 _ _ _ _ _
  have hcl := hcall w1 hb1
  obtain ⟨AL, hAL⟩ : ∃ L, L = (askO o q).1.map B8 := ⟨_, rfl⟩
  have hAn : AL.length = 32 := by rw [hAL, List.length_map]; exact hAl
  have HAS : Hid (AL.toArray.size = 32) := by show _ = _; simpa using hAn
  have HA1 : Hid (AL.toArray.all (·.oneCell') = true) := by show _ = _; rw [hAL]; exact B8_onea _
  have HRQ : Hid (w1.rangeAt w.heap.size 0 QL) := rangeAt_row hr0
  have HRD : Hid (w1.rangeAt (w.heap.size + 1 + 1) 0 ZL) := rangeAt_row hr2
  have HR1 : Hid _ := hr1
  have HQI : Hid _ := hQi
  have HB1 : Hid _ := hb1
  have HS1 : Hid _ := hs1
  have HOR : Hid _ := ho
  have HAL : Hid _ := hAL
  have HUQ : Hid _ := Tryz.underlying138
  rw [hw1] at hc0 HRQ HRD hcl
  have HCL : Hid _ := hcl
  clear hcall hcl hZL hQL hb1 hs1 hr0 hr1 hr2 ho hdq hQi hAL hAn hAl
  go_enter Tryz.func82, Tryz.ntmps82
  go_wp2_with (first
    | (refine wpList_load_mid rfl 138 _ rfl w.heap.size 0 rfl QL _ HRQ.out HUQ.out rfl HQI.out ?_)
    | (refine wpList_load_mid rfl 33 _ rfl (w.heap.size + 1 + 1) 0 rfl ZL _ HRD.out Tryz.underlying33 rfl HZI.out ?_))
  refine Calls.mono HCL.out ?_
  rintro ex w2 ⟨rfl, hfr, lv', lds', hor⟩
  rw [← hw1] at hfr hor
  rw [← HAL.out]
  have hne : ¬ S (w.heap.size + 1) := fun h => by have := HOR.out.top _ h; omega
  have hr : w2.heap[w.heap.size + 1]? = some (.cells ZL.toArray 33 (0, 0)) := (hfr.block _ (by have := HS1.out; omega) hne).trans HR1.out
  have HR2 : Hid _ := hr
  have HEND : Hid (AskEnd B og S w o dv t q (.returned (.agg AL.toArray)) (w2.setRow (w.heap.size + 1) AL.toArray)) := by
    have hsz : (w2.setRow (w.heap.size + 1) AL.toArray).heap.size = w2.heap.size := by simp
    have hs2 := hfr.size
    have hs3 := HS1.out
    refine ⟨by rw [HAL.out], ((Fr.ofBelow HB1.out).trans hfr (fun k h => .inl h)).setRow _ _ (.inr (by omega)), lv', lds', (hor.keep (Nat.le_of_eq hsz.symm) (fun k hk hS => setRow_other _ _ _ _ ?_)).more (fun k hk => ?_) (fun k hk => ?_)⟩
    · rcases hS with (hS | hS) | hS
      · exact fun e => hne (e ▸ hS)
      · omega
      · omega
    · rcases hk with hk | hk
      · exact .inl hk
      · exact .inr ⟨by omega, by rw [hsz]; exact hk.2⟩
    · rw [hsz]
      rcases hk with hk | hk
      · exact ⟨HOR.out.low k hk, by have := HOR.out.top k hk; omega⟩
      · exact ⟨by omega, by rw [hsz] at hk; exact hk.2⟩
  clear hfr hor hr hne
  go_wp2_with (refine wpList_store_row rfl 33 _ _ rfl (w.heap.size + 1) AL.toArray rfl rfl 33 ZL.toArray HR2.out (info32a _ HAS.out) (HZS.out.trans HAS.out.symm) HA1.out ?_)
  refine bodyPost_ret (v := .agg AL.toArray) ?_ rfl HEND.out
  exact results_cell_row Tryz.results82 _ _ (w.heap.size + 1) 33 _ (0, 0) _ rfl (setRow_heap _ _ _ _ _ _ HR2.out) Tryz.underlying33 rfl (info32a _ HAS.out)
def nx (D : List (List UInt8)) (L : List (Qn × List UInt8)) (q : Qn) : List UInt8 × List (Qn × List UInt8) :=
  match fndA q L with
  | some A => (A, L)
  | none => (drawD D L.length, L ++ [(q, drawD D L.length)])
def pr (m : List UInt8) (D : List (List UInt8)) (L : List (Qn × List UInt8)) : Pra := ⟨true, m, D, L⟩
def rr (m : List UInt8) (D : List (List UInt8)) (L : List (Qn × List UInt8)) : Ora := ⟨true, m, D, L.length, L⟩
theorem pAsk_nx (m : List UInt8) (D : List (List UInt8)) (L : List (Qn × List UInt8)) (q : Qn) : pAsk (pr m D L) q (drawD D L.length) = ((nx D L q).1, pr m D (nx D L q).2) := by
  unfold pAsk nx pr
  show (match fndA q L with | some A => _ | none => _) = _
  cases fndA q L <;> rfl
theorem askO_nx (m : List UInt8) (D : List (List UInt8)) (L : List (Qn × List UInt8)) (q : Qn) : askO (rr m D L) q = ((nx D L q).1, rr m D (nx D L q).2) := by
  unfold askO nx rr
  show (match fndA q L with | some A => _ | none => _) = _
  cases fndA q L <;> simp
theorem nx_len (D : List (List UInt8)) (L : List (Qn × List UInt8)) (q : Qn) : (nx D L q).2.length ≤ L.length + 1 := by
  unfold nx
  cases fndA q L with
  | some A => exact Nat.le_succ _
  | none => simp
structure MM (w : World) (n tn og mb rg : Nat) (m : List UInt8) (D : List (List UInt8)) (L R : List (Qn × List UInt8)) (I : Nat → Prop) (K X : World) : Prop where
  ex : ∃ S dv ov T dr lv lds, PO w.heap.size og mb S X (pr m D L) dv ov ∧ OR w.heap.size rg T X (rr m D R) dr lv lds 94 ∧ (∀ k, S k → ¬ T k) ∧ (∀ k, dv.ownBlock = some k → ¬ T k ∧ k < n) ∧ (∀ k, I k → ¬ S k ∧ ¬ T k ∧ k < X.heap.size) ∧ (∀ k, T k → k < tn)
  bel : Below w.heap.size w X
  low : w.heap.size ≤ n ∧ n ≤ X.heap.size
  same : ∀ k, I k → X.heap[k]? = K.heap[k]?
section
variable {w K X : World} {n tn og mb rg : Nat} {m : List UInt8} {D : List (List UInt8)} {L R : List (Qn × List UInt8)} {I : Nat → Prop}
theorem MM.step {Y : World} (h : MM w n tn og mb rg m D L R I K X) (hb : Below X.heap.size X Y) : MM w n tn og mb rg m D L R I K Y := by
  obtain ⟨S, dv, ov, T, dr, lv, lds, h1, h2, h3, h4, h5, h6⟩ := h.ex
  exact ⟨⟨S, dv, ov, T, dr, lv, lds, h1.below hb, h2.keep hb.size (fun k hk _ => hb.block k hk), h3, h4, fun k hk => ⟨(h5 k hk).1, (h5 k hk).2.1, Nat.lt_of_lt_of_le (h5 k hk).2.2 hb.size⟩, h6⟩, h.bel.trans (hb.mono h.bel.size), ⟨h.low.1, Nat.le_trans h.low.2 hb.size⟩, fun k hk => (hb.block k (h5 k hk).2.2).trans (h.same k hk)⟩
theorem MM.upd {Y : World} (h : MM w n tn og mb rg m D L R I K X) (hf : Fr (fun k => n ≤ k ∧ I k) X Y) : MM w n tn og mb rg m D L R (fun k => I k ∨ (X.heap.size ≤ k ∧ k < Y.heap.size)) Y Y := by
  obtain ⟨S, dv, ov, T, dr, lv, lds, h1, h2, h3, h4, h5, h6⟩ := h.ex
  have hs := hf.size
  have hs0 := h.bel.size
  refine ⟨⟨S, dv, ov, T, dr, lv, lds, h1.keep hs (fun k hk hS => hf.block k hk (fun hI => ?_)), h2.keep hs (fun k hk hS => hf.block k hk (fun hI => ?_)), h3, h4, fun k hk => ?_, h6⟩, ⟨hf.os.trans h.bel.os, hf.tape.trans h.bel.tape, hf.output.trans h.bel.output, Nat.le_trans hs0 hs, fun k hk => (hf.block k (by omega) (fun hI => by have := h.low.1; omega)).trans (h.bel.block k hk)⟩, ⟨h.low.1, Nat.le_trans h.low.2 hs⟩, fun k _ => rfl⟩
  · rcases hS with hS | hS
    · exact (h5 k hI.2).1 hS
    · have := (h4 k hS).2; omega
  · rcases hS with hS | hS
    · exact (h5 k hI.2).2.1 hS
    · have := h.low.1; omega
  · rcases hk with hk | hk
    · exact ⟨(h5 k hk).1, (h5 k hk).2.1, Nat.lt_of_lt_of_le (h5 k hk).2.2 hs⟩
    · exact ⟨fun hS => by have := h1.top k hS; omega, fun hT => by have := h2.top k hT; omega, hk.2⟩
theorem MM.back {I' : Nat → Prop} {K' : World} (h : MM w n tn og mb rg m D L R I' K' X) (hI : ∀ k, I k → I' k ∧ K'.heap[k]? = K.heap[k]?) : MM w n tn og mb rg m D L R I K X := by
  obtain ⟨S, dv, ov, T, dr, lv, lds, h1, h2, h3, h4, h5, h6⟩ := h.ex
  exact ⟨⟨S, dv, ov, T, dr, lv, lds, h1, h2, h3, h4, fun k hk => h5 k (hI k hk).1, h6⟩, h.bel, h.low, fun k hk => (h.same k (hI k hk).1).trans (hI k hk).2⟩
theorem MM.ilt (h : MM w n tn og mb rg m D L R I K X) {k : Nat} (hk : I k) : k < X.heap.size := by
  obtain ⟨S, dv, ov, T, dr, lv, lds, h1, h2, h3, h4, h5, h6⟩ := h.ex
  exact (h5 k hk).2.2
theorem MM.left {Y : World} {L' : List (Qn × List UInt8)} {S T : Nat → Prop} {dv ov dr lv : Value} {lds : List Value} (h : MM w n tn og mb rg m D L R I K X) (h1 : PO w.heap.size og mb S X (pr m D L) dv ov) (h2 : OR w.heap.size rg T X (rr m D R) dr lv lds 94) (h3 : ∀ k, S k → ¬ T k) (h4 : ∀ k, dv.ownBlock = some k → ¬ T k ∧ k < n) (h5 : ∀ k, I k → ¬ S k ∧ ¬ T k ∧ k < X.heap.size) (h6 : ∀ k, T k → k < tn)
    (hf : Fr S X Y) (hp : ∃ ov', PO w.heap.size og mb (fun k => S k ∨ (X.heap.size ≤ k ∧ k < Y.heap.size)) Y (pr m D L') dv ov') : MM w n tn og mb rg m D L' R I K Y := by
  obtain ⟨ov', hp⟩ := hp
  have hs := hf.size
  have hs0 := h.bel.size
  refine ⟨⟨_, dv, ov', T, dr, lv, lds, hp, h2.keep hs (fun k hk hT => hf.block k hk (fun hS => hT.elim (h3 k hS) (fun hl => by have := h1.low k hS; omega))), fun k hS hT => hS.elim (fun hS => h3 k hS hT) (fun hg => by have := h2.top k hT; omega), h4, fun k hk => ⟨fun hS => hS.elim (h5 k hk).1 (fun hg => by have := (h5 k hk).2.2; omega), (h5 k hk).2.1, Nat.lt_of_lt_of_le (h5 k hk).2.2 hs⟩, h6⟩,
    ⟨hf.os.trans h.bel.os, hf.tape.trans h.bel.tape, hf.output.trans h.bel.output, Nat.le_trans hs0 hs, fun k hk => (hf.block k (by omega) (fun hS => by have := h1.low k hS; omega)).trans (h.bel.block k hk)⟩, ⟨h.low.1, Nat.le_trans h.low.2 hs⟩, fun k hk => (hf.block k (h5 k hk).2.2 (h5 k hk).1).trans (h.same k hk)⟩
theorem MM.right {Y : World} {R' : List (Qn × List UInt8)} {S T : Nat → Prop} {dv ov dr lv : Value} {lds : List Value} (h : MM w n tn og mb rg m D L R I K X) (h1 : PO w.heap.size og mb S X (pr m D L) dv ov) (h2 : OR w.heap.size rg T X (rr m D R) dr lv lds 94) (h3 : ∀ k, S k → ¬ T k) (h4 : ∀ k, dv.ownBlock = some k → ¬ T k ∧ k < n) (h5 : ∀ k, I k → ¬ S k ∧ ¬ T k ∧ k < X.heap.size) (h6 : ∀ k, T k → k < tn)
    (hf : Fr T X Y) (hp : ∃ lv' lds', OR w.heap.size rg (fun k => T k ∨ (X.heap.size ≤ k ∧ k < Y.heap.size)) Y (rr m D R') dr lv' lds' 94) : MM w n Y.heap.size og mb rg m D L R' I K Y := by
  obtain ⟨lv', lds', hp⟩ := hp
  have hs := hf.size
  have hs0 := h.bel.size
  refine ⟨⟨S, dv, ov, _, dr, lv', lds', h1.keep hs (fun k hk hS => hf.block k hk (fun hT => hS.elim (fun hS => h3 k hS hT) (fun e => (h4 k e).1 hT))), hp, fun k hS hT => hT.elim (h3 k hS) (fun hg => by have := h1.top k hS; omega), fun k e => ⟨fun hT => hT.elim (h4 k e).1 (fun hg => by have := (h1.dro k e).2; omega), (h4 k e).2⟩, fun k hk => ⟨(h5 k hk).1, fun hT => hT.elim (h5 k hk).2.1 (fun hg => by have := (h5 k hk).2.2; omega), Nat.lt_of_lt_of_le (h5 k hk).2.2 hs⟩, fun k hk => hp.top k hk⟩,
    ⟨hf.os.trans h.bel.os, hf.tape.trans h.bel.tape, hf.output.trans h.bel.output, Nat.le_trans hs0 hs, fun k hk => (hf.block k (by omega) (fun hS => by have := h2.low k hS; omega)).trans (h.bel.block k hk)⟩, ⟨h.low.1, Nat.le_trans h.low.2 hs⟩, fun k hk => (hf.block k (h5 k hk).2.2 (h5 k hk).2.1).trans (h.same k hk)⟩
theorem MM.alen (h : MM w n tn og mb rg m D L R I K X) (q : Qn) : (nx D L q).1.length = 32 := by
  obtain ⟨S, dv, ov, T, dr, lv, lds, h1, h2, h3, h4, h5, h6⟩ := h.ex
  have := pAsk_len (q := q) h1.ok (drawD_len D L.length h1.draws.1)
  rw [pAsk_nx] at this
  exact this
theorem MM.dig (h : MM w n tn og mb rg m D L R I K X) (hll : L.length < 1000000) (pv : Value) (d : Int) (ls : List (List UInt8)) (hq : kOk ⟨1, List.replicate 32 0, d, ls.flatten⟩) (hp : HP X pv ls) (hl : ls.length ≤ 1048576) (hr : ls.flatten.length ≤ 1099511627776) (hok : askB ⟨1, List.replicate 32 0, d, ls.flatten⟩ = true) :
    Calls Tryz.prog 78 #[.pointer (some ⟨og, 0, none⟩), .int .i64 d, pv] X fun e Y => e = .returned (okV (nx D L ⟨1, List.replicate 32 0, d, ls.flatten⟩).1) ∧ MM w n tn og mb rg m D (nx D L ⟨1, List.replicate 32 0, d, ls.flatten⟩).2 R I K Y := by
  obtain ⟨S, dv, ov, T, dr, lv, lds, h1, h2, h3, h4, h5, h6⟩ := h.ex
  refine (pdig_ok w.heap.size og mb S pv dv ov (pr m D L) d ls ((nx D L ⟨1, List.replicate 32 0, d, ls.flatten⟩).1, pr m D (nx D L ⟨1, List.replicate 32 0, d, ls.flatten⟩).2) X h.bel.size h1 hp hl hr (h.alen _) (fun W v hb hv => ?_)).mono ?_
  · refine (pask_ideal w.heap.size og mb S v dv ov (pr m D L) _ W rfl (Nat.le_trans h.bel.size hb.size) hll (h1.below hb) hq hv hok).mono ?_
    rintro e Y hE
    have hE' : PAsk w.heap.size og mb S W (pAsk (pr m D L) ⟨1, List.replicate 32 0, d, ls.flatten⟩ (drawD D L.length)) dv e Y := hE
    rw [pAsk_nx] at hE'
    exact hE'
  · rintro e Y ⟨rfl, hf, hp⟩
    exact ⟨rfl, h.left h1 h2 h3 h4 h5 h6 hf hp⟩
theorem MM.key (h : MM w n tn og mb rg m D L R I K X) (hll : L.length < 1000000) (pv : Value) (d : Int) (ls : List (List UInt8)) (hq : kOk ⟨3, m, d, ls.flatten⟩) (hp : HP X pv ls) (hl : ls.length ≤ 1048576) (hr : ls.flatten.length ≤ 1099511627776) (hok : askB ⟨3, m, d, ls.flatten⟩ = true) :
    Calls Tryz.prog 48 #[.pointer (some ⟨og, 0, none⟩), .int .i64 d, pv] X fun e Y => e = .returned (okV (nx D L ⟨3, m, d, ls.flatten⟩).1) ∧ MM w n tn og mb rg m D (nx D L ⟨3, m, d, ls.flatten⟩).2 R I K Y := by
  obtain ⟨S, dv, ov, T, dr, lv, lds, h1, h2, h3, h4, h5, h6⟩ := h.ex
  refine (pkey_ok w.heap.size og mb S pv dv ov (pr m D L) d ls ((nx D L ⟨3, m, d, ls.flatten⟩).1, pr m D (nx D L ⟨3, m, d, ls.flatten⟩).2) X h.bel.size h1 hp hl hr (h.alen _) rfl (fun W v hb hv => ?_)).mono ?_
  · refine (pask_ideal w.heap.size og mb S v dv ov (pr m D L) _ W rfl (Nat.le_trans h.bel.size hb.size) hll (h1.below hb) hq hv hok).mono ?_
    rintro e Y hE
    have hE' : PAsk w.heap.size og mb S W (pAsk (pr m D L) ⟨3, m, d, ls.flatten⟩ (drawD D L.length)) dv e Y := hE
    rw [pAsk_nx] at hE'
    exact hE'
  · rintro e Y ⟨rfl, hf, hp⟩
    exact ⟨rfl, h.left h1 h2 h3 h4 h5 h6 hf hp⟩
theorem MM.retn (h : MM w n tn og mb rg m D L R I K X) : MM w n X.heap.size og mb rg m D L R I K X := by
  obtain ⟨S, dv, ov, T, dr, lv, lds, h1, h2, h3, h4, h5, h6⟩ := h.ex
  exact ⟨⟨S, dv, ov, T, dr, lv, lds, h1, h2, h3, h4, h5, h2.top⟩, h.bel, h.low, h.same⟩
theorem MM.ml (h : MM w n tn og mb rg m D L R I K X) : m.length = 32 := by
  obtain ⟨S, dv, ov, T, dr, lv, lds, h1, h2, h3, h4, h5, h6⟩ := h.ex
  exact h1.ml
theorem MM.rask (h : MM w n tn og mb rg m D L R I K X) (hll : R.length < 1000000) (dq : Value) (q : Qn) (hqk : q.key.length = 32) (hql : q.data.length ≤ 1099511627776) (hdq : HB X dq q.data) (hI : ∀ k, dq.ownBlock = some k → I k) :
    Calls Tryz.prog 82 #[.pointer (some ⟨rg, 0, none⟩), .agg (qL q dq).toArray] X fun e Y => e = .returned (.agg ((nx D R q).1.map B8).toArray) ∧ MM w n Y.heap.size og mb rg m D L (nx D R q).2 I K Y := by
  obtain ⟨S, dv, ov, T, dr, lv, lds, h1, h2, h3, h4, h5, h6⟩ := h.ex
  refine (ask_any w.heap.size rg T dq dr lv (rr m D R) lds _ q X rfl hll hll hql h.bel.size h2 hqk hdq (fun hne e => (h5 _ (hI _ e)).2.1 h2.sog)).mono ?_
  rintro e Y ⟨rfl, hf, hp⟩
  rw [askO_nx] at hp ⊢
  exact ⟨rfl, h.right h1 h2 h3 h4 h5 h6 hf hp⟩
theorem MM.fix (h : MM w n tn og mb rg m D L R I K X) : MM w n tn og mb rg m D L R I X X := ⟨h.ex, h.bel, h.low, fun _ _ => rfl⟩
theorem MM.go {Y : World} {J : Nat → Prop} (h : MM w n tn og mb rg m D L R I K X) (hf : Fr (fun k => n ≤ k ∧ I k) X Y) (hJ : ∀ k, J k → I k ∨ (X.heap.size ≤ k ∧ k < Y.heap.size)) : MM w n tn og mb rg m D L R J Y Y := by
  have h1 := h.upd hf
  exact h1.back (fun k hk => ⟨hJ k hk, rfl⟩)
end
end Go.Proofs.YtekbppfocnbhbaaGreat.R5
