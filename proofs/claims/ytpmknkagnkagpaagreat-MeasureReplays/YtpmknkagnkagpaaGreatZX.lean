/- The document's oracle, asked in either mode; its Digest. -/
import Derived.Test.YtpmknkagnkagpaaGreatZW
import Derived.Test.YtpmknkagnkagpaaGreatZG
set_option linter.unusedVariables false
set_option linter.unusedSimpArgs false
namespace Go.Proofs.YtpmknkagnkagpaaGreat.R5
open scoped Classical
open Go.RowKit

def askC (o : Ora) (q : Qn) (C : List UInt8) : List UInt8 × Ora :=
  match fndA q o.log with
  | some A => (A, o)
  | none => (C, { o with log := o.log ++ [(q, C)] })
theorem askC_some {o : Ora} {q : Qn} {A C : List UInt8} (h : fndA q o.log = some A) : askC o q C = (A, o) := by unfold askC; rw [h]
theorem askC_none {o : Ora} {q : Qn} {C : List UInt8} (h : fndA q o.log = none) : askC o q C = (C, { o with log := o.log ++ [(q, C)] }) := by unfold askC; rw [h]
theorem askC_len {o : Ora} {q : Qn} {C : List UInt8} (hl : logOk o.log) (hC : C.length = 32) : (askC o q C).1.length = 32 := by
  cases h : fndA q o.log with
  | some A => rw [askC_some h]; exact (hl _ (fndA_some h)).2
  | none => rw [askC_none h]; exact hC
def QEnd (B og : Nat) (S : Nat → Prop) (w : World) (r : List UInt8 × Ora) (dv : Value) (t : TypeId) (e : Ending) (w' : World) : Prop :=
  e = .returned (.agg (r.1.map B8).toArray) ∧ Fr S w w' ∧ ∃ lv' lds', OR B og (fun k => S k ∨ (w.heap.size ≤ k ∧ k < w'.heap.size)) w' r.2 dv lv' lds' t
theorem answer_anyC (B og : Nat) (S : Nat → Prop) (dq dv lv : Value) (o : Ora) (lds : List Value) (t : TypeId) (q : Qn) (C : List UInt8) (w : World) (hC : C.length = 32) (hid : o.ideal = false) (hll : o.log.length < 1000000) (hu : o.used < 1000000) (hql : q.data.length ≤ 1099511627776) (hB : B ≤ w.heap.size)
    (ho : OR B og S w o dv lv lds t) (hqk : q.key.length = 32) (hdq : HB w dq q.data) (hqo : q.data ≠ [] → dq.ownBlock ≠ some og) :
    Calls Tryz.prog 73 #[.pointer (some ⟨og, 0, none⟩), .agg (qL q dq).toArray, .agg (C.map B8).toArray] w fun e w' => QEnd B og S w (askC o q C) dv t e w' := by
  cases h : fndA q o.log with
  | some A =>
    have hc35 : w.cell? ⟨og, 35, none⟩ = some lv := by rw [cell_of_row _ _ 35 _ _ _ ho.row]; exact oL_35 _ _ _ _ _ ho.ml
    refine (answer_found og B lv _ o.log lds q C A w hC (by omega) hc35 ho.log ⟨hqk, dq, rfl, hdq⟩ h).mono ?_
    rintro e w' ⟨rfl, hb⟩
    rw [askC_some h]
    exact ⟨rfl, Fr.ofBelow hb, lv, lds, (ho.keep hb.size (fun k hk _ => hb.block k hk)).more (fun k hk => .inl hk) (fun k hk => hk.elim (fun hk => ⟨ho.low k hk, Nat.lt_of_lt_of_le (ho.top k hk) hb.size⟩) (fun hk => ⟨by omega, hk.2⟩))⟩
  | none =>
    refine (answer_newC B og S dq dv lv o lds t q C w hC hid hll hu hql hB ho hqk hdq hqo h).mono ?_
    rintro e w' hE
    rw [askC_none h]
    exact hE
theorem rfin {B og : Nat} {S : Nat → Prop} {w w2 w3 w4 : World} {o o' : Ora} {dv lv : Value} {lds : List Value} {t : TypeId} (ho : OR B og S w o dv lv lds t) (hB : B ≤ w.heap.size) (hb2 : Below w.heap.size w w2) (hfr : Fr S w2 w3) (h : ∃ lv' lds', OR B og (fun k => S k ∨ (w2.heap.size ≤ k ∧ k < w3.heap.size)) w3 o' dv lv' lds' t) (h4 : Fr (fun k => w.heap.size ≤ k ∧ k < w2.heap.size) w3 w4) :
    Fr S w w4 ∧ ∃ lv' lds', OR B og (fun k => S k ∨ (w.heap.size ≤ k ∧ k < w4.heap.size)) w4 o' dv lv' lds' t := by
  obtain ⟨lv', lds', hp⟩ := h
  have hs2 := hb2.size
  have hs3 := hfr.size
  have hs4 := h4.size
  refine ⟨((Fr.ofBelow hb2).trans hfr (fun k h => .inl h)).trans h4 (fun k h => .inr h.1), lv', lds', ?_⟩
  refine (hp.keep hs4 (fun k hk h => h4.block k hk (fun hx => ?_))).more (fun k h => h.imp id (fun h => ⟨by omega, by omega⟩)) (fun k h => ?_)
  · rcases h with (h | h) | h
    · have := ho.top k h; omega
    · omega
    · omega
  · rcases h with h | h
    · exact ⟨ho.low k h, by have := ho.top k h; omega⟩
    · exact ⟨by omega, h.2⟩
set_option maxHeartbeats 4000000 in
set_option maxRecDepth 100000 in
theorem ask_conc (B og : Nat) (S : Nat → Prop) (dq dv lv : Value) (o : Ora) (lds : List Value) (t : TypeId) (q : Qn) (w : World) (hid : o.ideal = false) (hll : o.log.length < 1000000) (hu : o.used < 1000000) (hql : q.data.length ≤ 4294000000) (hB : B ≤ w.heap.size)
    (ho : OR B og S w o dv lv lds t) (hk1 : q.kind = 1) (hqk : q.key.length = 32) (hdq : HB w dq q.data) (hqo : q.data ≠ [] → dq.ownBlock ≠ some og) :
    Calls Tryz.prog 58 #[.pointer (some ⟨og, 0, none⟩), .agg (qL q dq).toArray] w fun e w' => QEnd B og S w (askC o q (compD q)) dv t e w' := by
  have hAl := askC_len (q := q) ho.log.1 (compD_len q)
  have hQi := info35 (qL q dq) (qL_len q dq hqk)
  have hog := row_lt ho.row
  have hzv := fun W => zero_dig W
  have hcomp : compD q = shaL (textQ q) := by unfold compD; rw [if_pos hk1]
  have hTL := textQ_len q hqk
  have hcall := fun w1 (hb : Below w.heap.size w w1) => answer_anyC B og S dq dv lv o lds t q (compD q) w1 (compD_len q) hid hll hu (by omega) (Nat.le_trans hB hb.size) (ho.keep hb.size (fun k hk _ => hb.block k hk)) hqk (hdq.below hb) hqo
  have HTX : Hid (∀ X, Below w.heap.size w X → Calls Tryz.prog 71 #[.agg (qL q dq).toArray] X fun e w' => ∃ u, e = .returned u ∧ FB X.heap.size w' u (textQ q) ∧ Below X.heap.size X w') := fun X hX => rtext_any _ q X (by omega) ⟨hqk, dq, rfl, hdq.below hX⟩
  have HSUM : Hid (∀ X u, HB X u (textQ q) → Calls Tryz.prog 70 #[u] X fun e w' => e = .returned (.agg ((compD q).map B8).toArray) ∧ Below X.heap.size X w') := fun X u h => by rw [hcomp]; exact refSum_any u (textQ q) X (by omega) h
  have hCl := compD_len q
  obtain ⟨ZL, hZL⟩ : ∃ A, A = (List.replicate 32 (0 : UInt8)).map B8 := ⟨_, rfl⟩
  rw [← hZL] at hzv
  have HZS : Hid (ZL.toArray.size = 32) := by show _ = _; rw [hZL]; simp
  have a0 : (qL q dq)[0]? = some (.int .i64 q.kind) := rfl
  obtain ⟨QL, hQL⟩ : ∃ L, L = qL q dq := ⟨_, rfl⟩
  rw [← hQL] at hcall hQi HTX a0 ⊢
  obtain ⟨w1, hw1⟩ : ∃ w1, w1 = ((w.alloc (.cells QL.toArray 80 (0, 0))).alloc (.cells ZL.toArray 24 (0, 0))).alloc (.cells ZL.toArray 24 (0, 0)) := ⟨_, rfl⟩
  obtain ⟨hb1, hs1, hr0, hr1, hr2⟩ := w3_facts w QL ZL.toArray ZL.toArray w1 hw1
  have hc0 : w1.cell? ⟨og, 0, none⟩ = some (.bool false) := by rw [cell_of_row _ _ 0 _ _ _ ((hb1.block _ hog).trans ho.row), ← hid]; exact oL_0 _ _ _ _ _
  have hck : w1.cell? ⟨w.heap.size, 0, none⟩ = some (.int .i64 q.kind) := by have := rangeAt_row hr0 0 _ a0; rwa [Nat.zero_add] at this
  have hk1' : (q.kind == 1) = true := by rw [hk1]; rfl
  obtain ⟨CL, hCL⟩ : ∃ L, L = (compD q).map B8 := ⟨_, rfl⟩
  have HCS : Hid (CL.toArray.size = 32) := by show _ = _; rw [hCL]; simpa using hCl
  have HCI : Hid _ := info32 CL (by rw [hCL]; simpa using hCl)
  have HC1 : Hid (CL.toArray.all (·.oneCell') = true) := by show _ = _; rw [hCL]; exact B8_onea _
  rw [← hCL] at hcall HSUM
  have HCALL : Hid (∀ (W : World), Below w.heap.size w W → Calls Tryz.prog 73 #[.pointer (some ⟨og, 0, none⟩), .agg QL.toArray, .agg CL.toArray] W fun e w' => QEnd B og S W (askC o q (compD q)) dv t e w') := hcall
  generalize askC o q (compD q) = R at *
  obtain ⟨AL, hAL⟩ : ∃ L, L = R.1.map B8 := ⟨_, rfl⟩
  have hAn : AL.length = 32 := by rw [hAL, List.length_map]; exact hAl
  have HAS : Hid (AL.toArray.size = 32) := by show _ = _; simpa using hAn
  have HA1 : Hid (AL.toArray.all (·.oneCell') = true) := by show _ = _; rw [hAL]; exact B8_onea _
  have HRQ : Hid (w1.rangeAt w.heap.size 0 QL) := rangeAt_row hr0
  have HR0 : Hid (w1.heap[w.heap.size]? = some (.cells QL.toArray 80 (0, 0))) := hr0
  have HR1 : Hid (w1.heap[w.heap.size + 1]? = some (.cells ZL.toArray 24 (0, 0))) := hr1
  have HR2 : Hid (w1.heap[w.heap.size + 1 + 1]? = some (.cells ZL.toArray 24 (0, 0))) := hr2
  have HQI : Hid _ := hQi
  have HB1 : Hid (Below w.heap.size w w1) := hb1
  have HS1 : Hid (w1.heap.size = w.heap.size + 3) := hs1
  have HOR : Hid (OR B og S w o dv lv lds t) := ho
  have HAL : Hid (AL = R.1.map B8) := hAL
  have HUQ : Hid _ := Tryz.underlying80
  have HW1 : Hid (w1 = ((w.alloc (.cells QL.toArray 80 (0, 0))).alloc (.cells ZL.toArray 24 (0, 0))).alloc (.cells ZL.toArray 24 (0, 0))) := hw1
  have HTX1 : Hid (Calls Tryz.prog 71 #[.agg QL.toArray] w1 fun e w' => ∃ u, e = .returned u ∧ FB w1.heap.size w' u (textQ q) ∧ Below w1.heap.size w1 w') := HTX.out w1 hb1
  rw [hw1] at hc0 hck HRQ HTX1
  clear hcall hZL hQL hb1 hs1 hr0 hr1 hr2 ho hdq hQi hAL hAn hAl hCL hCl hcomp hTL hk1 hw1 a0
  generalize textQ q = TX at *
  go_enter Tryz.func58, Tryz.ntmps58
  go_wp2_with (first
    | (refine wpList_load_mid rfl 80 _ rfl w.heap.size 0 rfl QL _ HRQ.out HUQ.out rfl HQI.out ?_)
    | (go_at_call 71; fail))
  refine Calls.mono HTX1.out ?_
  rintro ex w2 ⟨u, rfl, hf2, hb2⟩
  rw [← HW1.out] at hf2 hb2
  have hh2 := hf2.hb
  have HB2 : Hid (Below w1.heap.size w1 w2) := hb2
  clear hf2 hb2
  go_wp2_with fail
  refine Calls.mono (HSUM.out w2 u hh2) ?_
  rintro ex w3 ⟨rfl, hb3⟩
  have hb3' : Below w1.heap.size w1 w3 := HB2.out.trans (hb3.mono HB2.out.size)
  have hs3 := hb3'.size
  have hs1' := HS1.out
  have HZ3 : Hid (w3.heap[w.heap.size + 1 + 1]? = some (.cells ZL.toArray 24 (0, 0))) := (hb3'.block _ (by omega)).trans HR2.out
  have hrq : (w3.setRow (w.heap.size + 1 + 1) CL.toArray).heap[w.heap.size]? = some (.cells QL.toArray 80 (0, 0)) := (setRow_other _ _ _ _ (by omega)).trans ((hb3'.block _ (by omega)).trans HR0.out)
  have hr1 : (w3.setRow (w.heap.size + 1 + 1) CL.toArray).heap[w.heap.size + 1]? = some (.cells ZL.toArray 24 (0, 0)) := (setRow_other _ _ _ _ (by omega)).trans ((hb3'.block _ (by omega)).trans HR1.out)
  have HQ4 : Hid ((w3.setRow (w.heap.size + 1 + 1) CL.toArray).rangeAt w.heap.size 0 QL) := rangeAt_row hrq
  have HD4 : Hid ((w3.setRow (w.heap.size + 1 + 1) CL.toArray).rangeAt (w.heap.size + 1 + 1) 0 CL) := rangeAt_row (setRow_heap _ _ _ _ _ _ HZ3.out)
  have HR4 : Hid ((w3.setRow (w.heap.size + 1 + 1) CL.toArray).heap[w.heap.size + 1]? = some (.cells ZL.toArray 24 (0, 0))) := hr1
  have HB4 : Hid (Below w.heap.size w (w3.setRow (w.heap.size + 1 + 1) CL.toArray)) := below_setRow (HB1.out.trans (hb3'.mono HB1.out.size)) (by omega) _
  have HS4 : Hid (w.heap.size + 3 ≤ (w3.setRow (w.heap.size + 1 + 1) CL.toArray).heap.size) := by show _ ≤ _; simp; omega
  clear hb3 hb3' hs3 hs1' hrq hr1 hh2 HSUM HTX HTX1 HB2 HS1
  go_wp2_with (first
    | (refine wpList_store_row rfl 24 _ _ rfl (w.heap.size + 1 + 1) CL.toArray rfl rfl 24 ZL.toArray HZ3.out (info32a _ HCS.out) (HZS.out.trans HCS.out.symm) HC1.out ?_)
    | (refine wpList_load_mid rfl 80 _ rfl w.heap.size 0 rfl QL _ HQ4.out HUQ.out rfl HQI.out ?_)
    | (refine wpList_load_mid rfl 24 _ rfl (w.heap.size + 1 + 1) 0 rfl CL _ HD4.out Tryz.underlying24 rfl HCI.out ?_)
    | (go_at_call 73; fail))
  refine Calls.mono (HCALL.out _ HB4.out) ?_
  rintro ex w5 ⟨he, hfr, hor⟩
  rw [← HAL.out] at he
  subst he
  have hs4 := HS4.out
  have hr5 : w5.heap[w.heap.size + 1]? = some (.cells ZL.toArray 24 (0, 0)) := (hfr.block _ (by omega) (fun h => by have := HOR.out.top _ h; omega)).trans HR4.out
  have HR5 : Hid (w5.heap[w.heap.size + 1]? = some (.cells ZL.toArray 24 (0, 0))) := hr5
  have HEND : Hid (QEnd B og S w R dv t (.returned (.agg AL.toArray)) (w5.setRow (w.heap.size + 1) AL.toArray)) := ⟨by rw [HAL.out], rfin HOR.out hB HB4.out hfr hor ((Fr.refl _ _).setRow _ _ (.inl ⟨by omega, by omega⟩))⟩
  clear hfr hor hr5 hs4
  go_wp2_with (refine wpList_store_row rfl 24 _ _ rfl (w.heap.size + 1) AL.toArray rfl rfl 24 ZL.toArray HR5.out (info32a _ HAS.out) (HZS.out.trans HAS.out.symm) HA1.out ?_)
  refine bodyPost_ret (v := .agg AL.toArray) ?_ rfl HEND.out
  exact results_cell_row Tryz.results58 _ _ (w.heap.size + 1) 24 _ (0, 0) _ rfl (setRow_heap _ _ _ _ _ _ HR5.out) Tryz.underlying24 rfl (info32a _ HAS.out)
def rNx (o : Ora) (q : Qn) : List UInt8 × Ora := if o.ideal then askO o q else askC o q (compD q)
theorem rNx_len {B og : Nat} {S : Nat → Prop} {w : World} {o : Ora} {dv lv : Value} {lds : List Value} {t : TypeId} (ho : OR B og S w o dv lv lds t) (q : Qn) : (rNx o q).1.length = 32 := by
  unfold rNx
  split
  · exact askO_len ho.log.1 ho.draws.1
  · exact askC_len ho.log.1 (compD_len q)
theorem rask_any (B og : Nat) (S : Nat → Prop) (dq dv lv : Value) (o : Ora) (lds : List Value) (t : TypeId) (q : Qn) (w : World) (hll : o.log.length < 1000000) (hu : o.used < 1000000) (hql : q.data.length ≤ 4294000000) (hB : B ≤ w.heap.size)
    (ho : OR B og S w o dv lv lds t) (hk1 : q.kind = 1) (hqk : q.key.length = 32) (hdq : HB w dq q.data) (hqo : q.data ≠ [] → dq.ownBlock ≠ some og) :
    Calls Tryz.prog 58 #[.pointer (some ⟨og, 0, none⟩), .agg (qL q dq).toArray] w fun e w' => QEnd B og S w (rNx o q) dv t e w' := by
  cases hid : o.ideal with
  | true =>
    have e : rNx o q = askO o q := by unfold rNx; rw [if_pos hid]
    rw [e]
    exact ask_any B og S dq dv lv o lds t q w hid hll hu (by omega) hB ho hqk hdq hqo
  | false =>
    have e : rNx o q = askC o q (compD q) := by unfold rNx; rw [if_neg (by rw [hid]; decide)]
    rw [e]
    exact ask_conc B og S dq dv lv o lds t q w hid hll hu hql hB ho hk1 hqk hdq hqo
set_option maxHeartbeats 2000000 in
set_option maxRecDepth 100000 in
theorem rdigG (B og : Nat) (S : Nat → Prop) (v dv lv : Value) (o : Ora) (lds : List Value) (t : TypeId) (d : Int) (l : List UInt8) (w : World) (hll : o.log.length < 1000000) (hu : o.used < 1000000) (hql : l.length ≤ 4294000000) (hB : B ≤ w.heap.size)
    (ho : OR B og S w o dv lv lds t) (hd : HB w v l) (hqo : l ≠ [] → v.ownBlock ≠ some og) :
    Calls Tryz.prog 42 #[.pointer (some ⟨og, 0, none⟩), .int .i64 d, v] w fun e w' => QEnd B og S w (rNx o ⟨1, List.replicate 32 0, d, l⟩) dv t e w' := by
  have hAl := rNx_len ho ⟨1, List.replicate 32 0, d, l⟩
  have hzv := fun W => zero_dig W
  obtain ⟨ZL, hZL⟩ : ∃ L, L = (List.replicate 32 (0 : UInt8)).map B8 := ⟨_, rfl⟩
  rw [← hZL] at hzv
  have HZS : Hid (ZL.toArray.size = 32) := by show _ = _; rw [hZL]; simp
  obtain ⟨p2, c2, hv2, _, _⟩ := hb_cells hd
  subst hv2
  obtain ⟨X1, hX1⟩ : ∃ X1, X1 = w.alloc (.cells ZL.toArray 24 (0, 0)) := ⟨_, rfl⟩
  have hb1 : Below w.heap.size w X1 := by rw [hX1]; exact (Below.refl _ _).alloc (Nat.le_refl _) _
  have hz1 : X1.heap.size = w.heap.size + 1 := by rw [hX1]; simp
  have hr1 : X1.heap[w.heap.size]? = some (.cells ZL.toArray 24 (0, 0)) := by rw [hX1]; exact heap_at _ _ _ rfl
  have HASK : Hid (Calls Tryz.prog 58 #[.pointer (some ⟨og, 0, none⟩), .agg (qL ⟨1, List.replicate 32 0, d, l⟩ (.slice p2 l.length c2)).toArray] X1 fun e w' => QEnd B og S X1 (rNx o ⟨1, List.replicate 32 0, d, l⟩) dv t e w') := rask_any B og S (.slice p2 l.length c2) dv lv o lds t ⟨1, List.replicate 32 0, d, l⟩ X1 hll hu hql (by omega) (ho.keep hb1.size (fun k hk _ => hb1.block k hk)) rfl (by simp) (hd.below hb1) hqo
  have hbk := fun W => build_q3 W 1 d p2 l.length c2
  have hqq : Value.int .i64 1 :: ((List.replicate 32 (0 : UInt8)).map B8 ++ [.int .i64 d, .slice p2 l.length c2]) = qL ⟨1, List.replicate 32 0, d, l⟩ (.slice p2 l.length c2) := rfl
  rw [hqq] at hbk
  have HOR : Hid (OR B og S w o dv lv lds t) := ho
  have HB1 : Hid (Below w.heap.size w X1) := hb1
  have HR1 : Hid (X1.heap[w.heap.size]? = some (.cells ZL.toArray 24 (0, 0))) := hr1
  have HX1 : Hid (X1 = w.alloc (.cells ZL.toArray 24 (0, 0))) := hX1
  rw [hX1] at HASK
  generalize qL ⟨1, List.replicate 32 0, d, l⟩ (.slice p2 l.length c2) = QB at *
  generalize rNx o ⟨1, List.replicate 32 0, d, l⟩ = R at *
  have HBK : Hid _ := hbk
  have HAL : Hid (R.1.length = 32) := hAl
  clear hbk hqq hr1 hb1 hz1 hd hAl hZL hX1 ho
  go_enter Tryz.func42, Tryz.ntmps42
  go_wp2_with (refine wpList_build rfl 80 _ rfl _ _ (by simp; exact ⟨rfl, rfl, rfl⟩) (HBK.out _) ?_)
  refine Calls.mono HASK.out ?_
  rintro e Y2 ⟨rfl, hfr, hor⟩
  rw [← HX1.out] at hfr hor
  have hl1 := row_lt HR1.out
  have hr2 : Y2.heap[w.heap.size]? = some (.cells ZL.toArray 24 (0, 0)) := (hfr.block _ hl1 (fun h => by have := HOR.out.top _ h; omega)).trans HR1.out
  have HR2 : Hid (Y2.heap[w.heap.size]? = some (.cells ZL.toArray 24 (0, 0))) := hr2
  have HEND : Hid (QEnd B og S w R dv t (.returned (.agg (R.1.map B8).toArray)) (Y2.setRow w.heap.size (R.1.map B8).toArray)) := ⟨rfl, rfin HOR.out hB HB1.out hfr hor ((Fr.refl _ _).setRow _ _ (.inl ⟨Nat.le_refl _, hl1⟩))⟩
  have HAS : Hid ((R.1.map B8).toArray.size = 32) := by show _ = _; simpa using HAL.out
  have HA1 : Hid _ := B8_onea R.1
  clear hfr hor hr2 hl1 HASK
  go_wp2_with (refine wpList_store_row rfl 24 _ _ rfl w.heap.size (R.1.map B8).toArray rfl rfl 24 ZL.toArray HR2.out (info32a _ HAS.out) (HZS.out.trans HAS.out.symm) HA1.out ?_)
  refine bodyPost_ret (v := .agg (R.1.map B8).toArray) ?_ rfl HEND.out
  exact results_cell_row Tryz.results42 _ _ w.heap.size 24 _ (0, 0) _ rfl (setRow_heap _ _ _ _ _ _ HR2.out) Tryz.underlying24 rfl (info32a _ HAS.out)
end Go.Proofs.YtpmknkagnkagpaaGreat.R5
