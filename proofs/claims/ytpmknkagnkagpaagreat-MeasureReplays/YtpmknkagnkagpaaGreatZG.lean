/- measure: the oracle, asked for a digest in either mode; the closure that asks it. -/
import Derived.Test.YtpmknkagnkagpaaGreatWt
import Derived.Test.YtpmknkagnkagpaaGreatZF
set_option linter.unusedVariables false
set_option linter.unusedSimpArgs false
namespace Go.Proofs.YtpmknkagnkagpaaGreat.ZC
open Go.RowKit

abbrev Lg := List (R5.Qn × List UInt8)
def Z0 : List UInt8 := List.replicate 32 0
def frs (o : R5.Pra) (q : R5.Qn) : List UInt8 := if o.ideal then R5.drawD o.draws o.log.length else R5.compD q
def nxP (o : R5.Pra) (q : R5.Qn) : List UInt8 × R5.Pra := R5.pAsk o q (frs o q)
theorem frs_id {o : R5.Pra} (h : o.ideal = true) (q : R5.Qn) : frs o q = R5.drawD o.draws o.log.length := by unfold frs; rw [if_pos h]
theorem frs_co {o : R5.Pra} (h : o.ideal = false) (q : R5.Qn) : frs o q = R5.compD q := by unfold frs; rw [if_neg (by rw [h]; decide)]
theorem nxP_id {o : R5.Pra} (h : o.ideal = true) (q : R5.Qn) : nxP o q = R5.pAsk o q (R5.drawD o.draws o.log.length) := by unfold nxP; rw [frs_id h]
theorem nxP_co {o : R5.Pra} (h : o.ideal = false) (q : R5.Qn) : nxP o q = R5.pAsk o q (R5.compD q) := by unfold nxP; rw [frs_co h]
section
variable {B og mb : Nat} {S : Nat → Prop} {w w2 w3 w4 : World} {o o' : R5.Pra} {dv ov : Value}
theorem nxP_len (ho : R5.PO B og mb S w o dv ov) (q : R5.Qn) : (nxP o q).1.length = 32 := R5.pAsk_len ho.ok (by unfold frs; split; exact R5.drawD_len _ _ ho.draws.1; exact R5.compD_len q)
theorem wf_d {d : Int} (hd : 1 ≤ d ∧ d ≤ 16) : (Lit.int .i64 d).wf = true := by have := hd.1; have := hd.2; simp [Lit.wf, IntKind.min, IntKind.max, IntKind.signed, IntKind.bits]; omega
theorem askB_d {d : Int} {data : List UInt8} (hd : 1 ≤ d ∧ d ≤ 16) : R5.askB ⟨1, Z0, d, data⟩ = true := by
  unfold R5.askB R5.mayQ Z0
  simp [hd.1, hd.2]
theorem pdigG (pv : Value) (d : Int) (ls : List (List UInt8)) (hB : B ≤ w.heap.size) (hll : o.log.length < 1000000) (ho : R5.PO B og mb S w o dv ov) (hp : R5.HP w pv ls) (hl : ls.length ≤ 1048576) (hfl : ls.flatten.length ≤ 100000) (hd : 1 ≤ d ∧ d ≤ 16) :
    Calls Tryz.prog 47 #[.pointer (some ⟨og, 0, none⟩), .int .i64 d, pv] w fun e w' => R5.PAsk B og mb S w (nxP o ⟨1, Z0, d, ls.flatten⟩) dv e w' := by
  have hq : R5.kOk ⟨1, Z0, d, ls.flatten⟩ := ⟨by simp [Z0], rfl, wf_d hd, by show ls.flatten.length ≤ _; omega⟩
  refine R5.pdig_ok B og mb S pv dv ov o d ls _ w hB ho hp hl (by omega) (nxP_len ho _) (fun W v hb hv => ?_)
  show Calls Tryz.prog 41 #[.pointer (some ⟨og, 0, none⟩), .agg (R5.qL ⟨1, Z0, d, ls.flatten⟩ v).toArray] W _
  generalize hqq : (⟨1, Z0, d, ls.flatten⟩ : R5.Qn) = q at *
  have hok : R5.askB q = true := by rw [← hqq]; exact askB_d hd
  have hqd : q.data = ls.flatten := by rw [← hqq]
  rw [← hqd] at hv hfl
  cases hid : o.ideal with
  | true => rw [nxP_id hid]; exact R5.pask_ideal B og mb S v dv ov o _ W hid (Nat.le_trans hB hb.size) hll (ho.below hb) hq hv hok
  | false => rw [nxP_co hid]; exact R5.pask_conc B og mb S v dv ov o _ W hid (Nat.le_trans hB hb.size) hll (ho.below hb) hq (by omega) hv hok
def PR (B og mb : Nat) (S : Nat → Prop) (w : World) (o' : R5.Pra) (dv v : Value) (e : Ending) (w' : World) : Prop :=
  e = .returned v ∧ R5.Fr S w w' ∧ ∃ ov', R5.PO B og mb (fun k => S k ∨ (w.heap.size ≤ k ∧ k < w'.heap.size)) w' o' dv ov'
theorem pfin (ho : R5.PO B og mb S w o dv ov) (hB : B ≤ w.heap.size) (hb2 : Below w.heap.size w w2) (hfr : R5.Fr S w2 w3) (h : ∃ ov', R5.PO B og mb (fun k => S k ∨ (w2.heap.size ≤ k ∧ k < w3.heap.size)) w3 o' dv ov') (h4 : R5.Fr (fun k => w.heap.size ≤ k ∧ k < w2.heap.size) w3 w4) :
    R5.Fr S w w4 ∧ ∃ ov', R5.PO B og mb (fun k => S k ∨ (w.heap.size ≤ k ∧ k < w4.heap.size)) w4 o' dv ov' := by
  obtain ⟨ov', hp⟩ := h
  have hs2 := hb2.size
  have hs3 := hfr.size
  have hs4 := h4.size
  refine ⟨((R5.Fr.ofBelow hb2).trans hfr (fun k h => .inl h)).trans h4 (fun k h => .inr h.1), ov', ?_⟩
  refine R5.PO.more (hp.keep hs4 (fun k hk h => h4.block k hk (fun hx => ?_))) (fun k h => h.imp id (fun h => ⟨by omega, by omega⟩)) (fun k h => ?_) (fun k h => ?_)
  · rcases h with (h | h) | h
    · have := ho.top k h; omega
    · omega
    · have := (ho.dro k h).2; omega
  · rcases h with h | h
    · exact .inl (.inl h)
    · exact .inr (fun e => by have := (ho.dro k e).2; omega)
  · rcases h with h | h
    · exact ⟨ho.low k h, by have := ho.top k h; omega⟩
    · exact ⟨by omega, h.2⟩
theorem PR.ahead {v : Value} {e : Ending} (ho : R5.PO B og mb S w o dv ov) (hB : B ≤ w.heap.size) (hb2 : Below w.heap.size w w2) (h : PR B og mb S w2 o' dv v e w3) : PR B og mb S w o' dv v e w3 := by
  obtain ⟨h1, h2, h3⟩ := h
  obtain ⟨h4, h5⟩ := pfin ho hB hb2 h2 h3 (R5.Fr.refl _ _)
  exact ⟨h1, h4, h5⟩
end
set_option maxHeartbeats 2000000 in
set_option maxRecDepth 100000 in
theorem dcl_any (B og mb b1 : Nat) (S : Nat → Prop) (pv dv ov : Value) (o : R5.Pra) (d : Int) (ls : List (List UInt8)) (w : World) (hB : B ≤ w.heap.size) (hll : o.log.length < 1000000) (ho : R5.PO B og mb S w o dv ov) (hp : R5.HP w pv ls) (hl : ls.length ≤ 1048576) (hfl : ls.flatten.length ≤ 100000) (hd : 1 ≤ d ∧ d ≤ 16)
    (h1 : w.heap[b1]? = some (.cells #[.pointer (some ⟨og, 0, none⟩)] 35 (0, 0))) :
    Calls Tryz.prog 46 #[.int .i64 d, pv, .pointer (some ⟨b1, 0, none⟩)] w fun e w' => PR B og mb S w (nxP o ⟨1, Z0, d, ls.flatten⟩).2 dv (R5.dV (nxP o ⟨1, Z0, d, ls.flatten⟩).1) e w' := by
  have hAl := nxP_len ho ⟨1, Z0, d, ls.flatten⟩
  have hz := fun W => R5.zero_dig W
  obtain ⟨ZL, hZL⟩ : ∃ L, L = (List.replicate 32 (0 : UInt8)).map B8 := ⟨_, rfl⟩
  rw [← hZL] at hz
  have HZS : Hid (ZL.toArray.size = 32) := by show _ = _; rw [hZL]; simp
  have HZ1 : Hid (ZL.toArray.all (·.oneCell') = true) := by show _ = _; rw [hZL]; exact R5.B8_onea _
  clear hZL
  obtain ⟨W1, hW1⟩ : ∃ W1, W1 = w.alloc (.cells ZL.toArray 24 (0, 0)) := ⟨_, rfl⟩
  have hb1 : Below w.heap.size w W1 := by rw [hW1]; exact (Below.refl _ _).alloc (Nat.le_refl _) _
  have hs1 : W1.heap.size = w.heap.size + 1 := by rw [hW1]; simp
  have hr1 : W1.heap[w.heap.size]? = some (.cells ZL.toArray 24 (0, 0)) := by rw [hW1]; exact heap_alloc_new _ _
  have hc : W1.cell? ⟨b1, 0, none⟩ = some (.pointer (some ⟨og, 0, none⟩)) := by rw [cell_of_row _ _ 0 _ _ _ ((hb1.block _ (PC.row_lt h1)).trans h1)]; rfl
  have HD : Hid (Calls Tryz.prog 47 #[.pointer (some ⟨og, 0, none⟩), .int .i64 d, pv] W1 fun e w' => R5.PAsk B og mb S W1 (nxP o ⟨1, Z0, d, ls.flatten⟩) dv e w') := pdigG pv d ls (by omega) hll (ho.below hb1) (R5.hp_below hp hb1) hl hfl hd
  have HO : Hid (R5.PO B og mb S w o dv ov) := ho
  have HB1 : Hid (Below w.heap.size w W1) := hb1
  have HR1 : Hid (W1.heap[w.heap.size]? = some (.cells ZL.toArray 24 (0, 0))) := hr1
  have HS1 : Hid (W1.heap.size = w.heap.size + 1) := hs1
  generalize nxP o ⟨1, Z0, d, ls.flatten⟩ = R at *
  obtain ⟨A, o'⟩ := R
  simp only at hAl ⊢
  have HAS : Hid ((A.map B8).toArray.size = 32) := by show _ = _; simpa using hAl
  have HAI : Hid _ := R5.info32 (A.map B8) (by simpa using hAl)
  have HA1 : Hid _ := R5.B8_onea A
  have HAV : Hid (R5.dV A = .agg (A.map B8).toArray) := rfl
  have HOK : Hid (R5.okV A = .tuple #[.agg (A.map B8).toArray, .int .i64 0]) := rfl
  rw [HAV.out]
  generalize A.map B8 = AL at *
  rw [hW1] at hc HD
  clear hb1 hs1 hr1 ho hp h1 hAl HAV
  go_enter Tryz.func46, Tryz.ntmps46
  go_wp2_with fail
  refine Calls.mono HD.out ?_
  rintro e w3 ⟨he, hfr, hpo⟩
  simp only at he hpo
  rw [HOK.out] at he
  subst he
  rw [← hW1] at hfr hpo
  have hs3 := hfr.size
  have hr3 : w3.heap[w.heap.size]? = some (.cells ZL.toArray 24 (0, 0)) := (hfr.block _ (by have := HS1.out; omega) (fun h => by have := HO.out.top _ h; omega)).trans HR1.out
  have hw3 : w.heap.size < w3.heap.size := PC.row_lt hr3
  have HZA : Hid ((w3.alloc (.cells ZL.toArray 24 (0, 0))).heap[w3.heap.size]? = some (.cells ZL.toArray 24 (0, 0))) := heap_alloc_new _ _
  have HZR : Hid (((w3.alloc (.cells ZL.toArray 24 (0, 0))).setRow w3.heap.size AL.toArray).rangeAt w3.heap.size 0 AL) := PC.rangeAt_row (setRow_heap _ _ _ _ _ _ HZA.out)
  have HR4 : Hid (((w3.alloc (.cells ZL.toArray 24 (0, 0))).setRow w3.heap.size AL.toArray).heap[w.heap.size]? = some (.cells ZL.toArray 24 (0, 0))) := (setRow_other _ _ _ _ (by omega)).trans ((heap_alloc_old _ _ hw3).trans hr3)
  have HF4 : Hid (R5.Fr (fun k => w.heap.size ≤ k ∧ k < W1.heap.size) w3 (((w3.alloc (.cells ZL.toArray 24 (0, 0))).setRow w3.heap.size AL.toArray).setRow w.heap.size AL.toArray)) := ((R5.Fr.ofBelow ((Below.refl _ w3).alloc (Nat.le_refl _) _)).setRow _ _ (.inr (Nat.le_refl _))).setRow _ _ (.inl ⟨Nat.le_refl _, by have := HS1.out; omega⟩)
  have HEND : Hid (PR B og mb S w o' dv (.agg AL.toArray) (.returned (.agg AL.toArray)) (((w3.alloc (.cells ZL.toArray 24 (0, 0))).setRow w3.heap.size AL.toArray).setRow w.heap.size AL.toArray)) := ⟨rfl, (pfin HO.out hB HB1.out hfr hpo HF4.out)⟩
  have HSS : Hid (ZL.toArray.size = AL.toArray.size) := HZS.out.trans HAS.out.symm
  clear hfr hpo hr3 hs3 HD hc hW1
  go_wp2_with (first
    | (refine wpList_store_row rfl 24 _ _ rfl w3.heap.size AL.toArray rfl rfl 24 ZL.toArray HZA.out (R5.info32a _ HAS.out) HSS.out HA1.out ?_)
    | (refine wpList_load_mid rfl 24 _ rfl w3.heap.size 0 rfl AL _ HZR.out Tryz.underlying24 rfl HAI.out ?_)
    | (refine wpList_store_row rfl 24 _ _ rfl w.heap.size AL.toArray rfl rfl 24 ZL.toArray HR4.out (R5.info32a _ HAS.out) HSS.out HA1.out ?_))
  refine bodyPost_ret (v := .agg AL.toArray) ?_ rfl HEND.out
  exact results_cell_row Tryz.results46 _ _ w.heap.size 24 _ (0, 0) _ rfl (setRow_heap _ _ _ _ _ _ HR4.out) Tryz.underlying24 rfl (R5.info32a _ HAS.out)
end Go.Proofs.YtpmknkagnkagpaaGreat.ZC
