/- Contract of ref 5's answer and Ask, in ideal mode. -/
import Derived.Test.YtbmmibmfjhehhaaGreatI9
set_option linter.unusedVariables false
set_option linter.unusedSimpArgs false
namespace Go.Proofs.YtbmmibmfjhehhaaGreat.R5
open scoped Classical
open Go.RowKit

def askO (o : Ora) (q : Qn) : List UInt8 × Ora :=
  match fndA q o.log with
  | some A => (A, o)
  | none => (drawD o.draws o.used, { o with used := o.used + 1, log := o.log ++ [(q, drawD o.draws o.used)] })
theorem askO_some {o : Ora} {q : Qn} {A : List UInt8} (h : fndA q o.log = some A) : askO o q = (A, o) := by unfold askO; rw [h]
theorem askO_none {o : Ora} {q : Qn} (h : fndA q o.log = none) : askO o q = (drawD o.draws o.used, { o with used := o.used + 1, log := o.log ++ [(q, drawD o.draws o.used)] }) := by unfold askO; rw [h]
theorem askO_len {o : Ora} {q : Qn} (hl : logOk o.log) (hd : ∀ d ∈ o.draws, d.length = 32) : (askO o q).1.length = 32 := by
  cases h : fndA q o.log with
  | some A => rw [askO_some h]; exact (hl _ (fndA_some h)).2
  | none => rw [askO_none h]; exact drawD_len _ _ hd
def AskEnd (B og : Nat) (S : Nat → Prop) (w : World) (o : Ora) (dv : Value) (t : TypeId) (q : Qn) (e : Ending) (w' : World) : Prop :=
  e = .returned (.agg ((askO o q).1.map B8).toArray) ∧ Fr S w w' ∧ ∃ lv' lds', OR B og (fun k => S k ∨ (w.heap.size ≤ k ∧ k < w'.heap.size)) w' (askO o q).2 dv lv' lds' t

theorem answer_any (B og : Nat) (S : Nat → Prop) (dq dv lv : Value) (o : Ora) (lds : List Value) (t : TypeId) (q : Qn) (C : List UInt8) (w : World) (hC : C.length = 32) (hid : o.ideal = true) (hll : o.log.length < 1000000) (hu : o.used < 1000000) (hql : q.data.length ≤ 1099511627776) (hB : B ≤ w.heap.size)
    (ho : OR B og S w o dv lv lds t) (hqk : q.key.length = 32) (hdq : HB w dq q.data) (hqo : q.data ≠ [] → dq.ownBlock ≠ some og) :
    Calls Tryz.prog 40 #[.pointer (some ⟨og, 0, none⟩), .agg (qL q dq).toArray, .agg (C.map B8).toArray] w fun e w' => AskEnd B og S w o dv t q e w' := by
  cases h : fndA q o.log with
  | some A =>
    have hc35 : w.cell? ⟨og, 35, none⟩ = some lv := by rw [cell_of_row _ _ 35 _ _ _ ho.row]; exact oL_35 _ _ _ _ _ ho.ml
    refine (answer_found og B lv _ o.log lds q C A w hC (by omega) hc35 ho.log ⟨hqk, dq, rfl, hdq⟩ h).mono ?_
    rintro e w' ⟨rfl, hb⟩
    unfold AskEnd
    rw [askO_some h]
    exact ⟨rfl, Fr.ofBelow hb, lv, lds, (ho.keep hb.size (fun k hk _ => hb.block k hk)).more (fun k hk => .inl hk) (fun k hk => hk.elim (fun hk => ⟨ho.low k hk, Nat.lt_of_lt_of_le (ho.top k hk) hb.size⟩) (fun hk => ⟨by omega, hk.2⟩))⟩
  | none =>
    refine (answer_new B og S dq dv lv o lds t q C w hC hid hll hu hql hB ho hqk hdq hqo h).mono ?_
    rintro e w' hE
    unfold AskEnd
    rw [askO_none h]
    exact hE

set_option maxHeartbeats 4000000 in
set_option maxRecDepth 100000 in
theorem ask_any (B og : Nat) (S : Nat → Prop) (dq dv lv : Value) (o : Ora) (lds : List Value) (t : TypeId) (q : Qn) (w : World) (hid : o.ideal = true) (hll : o.log.length < 1000000) (hu : o.used < 1000000) (hql : q.data.length ≤ 1099511627776) (hB : B ≤ w.heap.size)
    (ho : OR B og S w o dv lv lds t) (hqk : q.key.length = 32) (hdq : HB w dq q.data) (hqo : q.data ≠ [] → dq.ownBlock ≠ some og) :
    Calls Tryz.prog 47 #[.pointer (some ⟨og, 0, none⟩), .agg (qL q dq).toArray] w fun e w' => AskEnd B og S w o dv t q e w' := by
  have hAl := askO_len (q := q) ho.log.1 ho.draws.1
  have hQi := info35 (qL q dq) (qL_len q dq hqk)
  have hog := row_lt ho.row
  have hzv := fun W => zero_dig W
  have hcall := fun w1 (hb : Below w.heap.size w w1) => answer_any B og S dq dv lv o lds t q (List.replicate 32 0) w1 (by simp) hid hll hu hql (Nat.le_trans hB hb.size) (ho.keep hb.size (fun k hk _ => hb.block k hk)) hqk (hdq.below hb) hqo
  obtain ⟨ZL, hZL⟩ : ∃ A, A = (List.replicate 32 (0 : UInt8)).map B8 := ⟨_, rfl⟩
  rw [← hZL] at hzv hcall
  have HZS : Hid (ZL.toArray.size = 32) := by show _ = _; rw [hZL]; simp
  have HZI : Hid _ := info32 ZL (by rw [hZL]; simp)
  obtain ⟨QL, hQL⟩ : ∃ L, L = qL q dq := ⟨_, rfl⟩
  rw [← hQL] at hcall hQi ⊢
  obtain ⟨w1, hw1⟩ : ∃ w1, w1 = ((w.alloc (.cells QL.toArray 66 (0, 0))).alloc (.cells ZL.toArray 23 (0, 0))).alloc (.cells ZL.toArray 23 (0, 0)) := ⟨_, rfl⟩
  obtain ⟨hb1, hs1, hr0, hr1, hr2⟩ := w3_facts w QL ZL.toArray ZL.toArray w1 hw1
  have hc0 : w1.cell? ⟨og, 0, none⟩ = some (.bool true) := by rw [cell_of_row _ _ 0 _ _ _ ((hb1.block _ hog).trans ho.row), ← hid]; exact oL_0 _ _ _ _ _
  have hcl := hcall w1 hb1
  obtain ⟨AL, hAL⟩ : ∃ L, L = (askO o q).1.map B8 := ⟨_, rfl⟩
  have hAn : AL.length = 32 := by rw [hAL, List.length_map]; exact hAl
  have HAS : Hid (AL.toArray.size = 32) := by show _ = _; simpa using hAn
  have HA1 : Hid (AL.toArray.all (·.oneCell') = true) := by show _ = _; rw [hAL]; exact B8_onea _
  have HRQ : Hid (w1.rangeAt w.heap.size 0 QL) := rangeAt_row hr0
  have HRD : Hid (w1.rangeAt (w.heap.size + 1 + 1) 0 ZL) := rangeAt_row hr2
  have HR1 : Hid _ := hr1
  have HQI : Hid _ := hQi
  have HB1 : Hid _ := hb1
  have HS1 : Hid _ := hs1
  have HOR : Hid _ := ho
  have HAL : Hid _ := hAL
  have HUQ : Hid _ := Tryz.underlying66
  rw [hw1] at hc0 HRQ HRD hcl
  have HCL : Hid _ := hcl
  clear hcall hcl hZL hQL hb1 hs1 hr0 hr1 hr2 ho hdq hQi hAL hAn hAl
  go_enter Tryz.func47, Tryz.ntmps47
  go_wp2_with (first
    | (refine wpList_load_mid rfl 66 _ rfl w.heap.size 0 rfl QL _ HRQ.out HUQ.out rfl HQI.out ?_)
    | (refine wpList_load_mid rfl 23 _ rfl (w.heap.size + 1 + 1) 0 rfl ZL _ HRD.out Tryz.underlying23 rfl HZI.out ?_))
  refine Calls.mono HCL.out ?_
  rintro ex w2 ⟨rfl, hfr, lv', lds', hor⟩
  rw [← hw1] at hfr hor
  rw [← HAL.out]
  have hne : ¬ S (w.heap.size + 1) := fun h => by have := HOR.out.top _ h; omega
  have hr : w2.heap[w.heap.size + 1]? = some (.cells ZL.toArray 23 (0, 0)) := (hfr.block _ (by have := HS1.out; omega) hne).trans HR1.out
  have HR2 : Hid _ := hr
  have HEND : Hid (AskEnd B og S w o dv t q (.returned (.agg AL.toArray)) (w2.setRow (w.heap.size + 1) AL.toArray)) := by
    have hsz : (w2.setRow (w.heap.size + 1) AL.toArray).heap.size = w2.heap.size := by simp
    have hs2 := hfr.size
    have hs3 := HS1.out
    refine ⟨by rw [HAL.out], ((Fr.ofBelow HB1.out).trans hfr (fun k h => .inl h)).setRow _ _ (.inr (by omega)), lv', lds', (hor.keep (Nat.le_of_eq hsz.symm) (fun k hk hS => setRow_other _ _ _ _ ?_)).more (fun k hk => ?_) (fun k hk => ?_)⟩
    · rcases hS with (hS | hS) | hS
      · exact fun e => hne (e ▸ hS)
      · omega
      · omega
    · rcases hk with hk | hk
      · exact .inl hk
      · exact .inr ⟨by omega, by rw [hsz]; exact hk.2⟩
    · rw [hsz]
      rcases hk with hk | hk
      · exact ⟨HOR.out.low k hk, by have := HOR.out.top k hk; omega⟩
      · exact ⟨by omega, by rw [hsz] at hk; exact hk.2⟩
  clear hfr hor hr hne
  go_wp2_with (refine wpList_store_row rfl 23 _ _ rfl (w.heap.size + 1) AL.toArray rfl rfl 23 ZL.toArray HR2.out (info32a _ HAS.out) (HZS.out.trans HAS.out.symm) HA1.out ?_)
  refine bodyPost_ret (v := .agg AL.toArray) ?_ rfl HEND.out
  exact results_cell_row Tryz.results47 _ _ (w.heap.size + 1) 23 _ (0, 0) _ rfl (setRow_heap _ _ _ _ _ _ HR2.out) Tryz.underlying23 rfl (info32a _ HAS.out)

end Go.Proofs.YtbmmibmfjhehhaaGreat.R5
