/- tree: the oracle, asked for a digest in either mode; what asks it. -/
import Derived.Test.YtnijjoankahddaaGreatDI
import Derived.Test.YtnijjoankahddaaGreatWt
set_option linter.unusedVariables false
set_option linter.unusedSimpArgs false
namespace Go.Proofs.YtnijjoankahddaaGreat.DC
open Go.RowKit

abbrev Lg := List (R5.Qn × List UInt8)
def Z0 : List UInt8 := List.replicate 32 0
/-- A new answer, in either mode; what the oracle answers, and what it knows then. -/
def frs (o : R5.Pra) (q : R5.Qn) : List UInt8 := if o.ideal then R5.drawD o.draws o.log.length else R5.compD q
def nxP (o : R5.Pra) (q : R5.Qn) : List UInt8 × R5.Pra := R5.pAsk o q (frs o q)
theorem frs_id {o : R5.Pra} (h : o.ideal = true) (q : R5.Qn) : frs o q = R5.drawD o.draws o.log.length := by unfold frs; rw [if_pos h]
theorem frs_co {o : R5.Pra} (h : o.ideal = false) (q : R5.Qn) : frs o q = R5.compD q := by unfold frs; rw [if_neg (by rw [h]; decide)]
theorem nxP_id {o : R5.Pra} (h : o.ideal = true) (q : R5.Qn) : nxP o q = R5.pAsk o q (R5.drawD o.draws o.log.length) := by unfold nxP; rw [frs_id h]
theorem nxP_co {o : R5.Pra} (h : o.ideal = false) (q : R5.Qn) : nxP o q = R5.pAsk o q (R5.compD q) := by unfold nxP; rw [frs_co h]
section
variable {B og mb : Nat} {S : Nat → Prop} {w w2 w3 w4 : World} {o o' : R5.Pra} {dv ov : Value}
theorem nxP_len (ho : R5.PO B og mb S w o dv ov) (q : R5.Qn) : (nxP o q).1.length = 32 := R5.pAsk_len ho.ok (by unfold frs; split; exact R5.drawD_len _ _ ho.draws.1; exact R5.compD_len q)
theorem wf_d {d : Int} (hd : 1 ≤ d ∧ d ≤ 16) : (Lit.int .i64 d).wf = true := by have := hd.1; have := hd.2; simp [Lit.wf, IntKind.min, IntKind.max, IntKind.signed, IntKind.bits]; omega
theorem askB_d {d : Int} {data : List UInt8} (hd : 1 ≤ d ∧ d ≤ 16) : R5.askB ⟨1, Z0, d, data⟩ = true := by
  unfold R5.askB R5.mayQ Z0
  simp [hd.1, hd.2]
theorem pdigG (pv : Value) (d : Int) (ls : List (List UInt8)) (hB : B ≤ w.heap.size) (hll : o.log.length < 1000000) (ho : R5.PO B og mb S w o dv ov) (hp : R5.HP w pv ls) (hl : ls.length ≤ 1048576) (hfl : ls.flatten.length ≤ 100000) (hd : 1 ≤ d ∧ d ≤ 16) :
    Calls Tryz.prog 79 #[.pointer (some ⟨og, 0, none⟩), .int .i64 d, pv] w fun e w' => R5.PAsk B og mb S w (nxP o ⟨1, Z0, d, ls.flatten⟩) dv e w' := by
  have hq : R5.kOk ⟨1, Z0, d, ls.flatten⟩ := ⟨by simp [Z0], rfl, wf_d hd, by show ls.flatten.length ≤ _; omega⟩
  refine R5.pdig_ok B og mb S pv dv ov o d ls _ w hB ho hp hl (by omega) (nxP_len ho _) (fun W v hb hv => ?_)
  show Calls Tryz.prog 62 #[.pointer (some ⟨og, 0, none⟩), .agg (R5.qL ⟨1, Z0, d, ls.flatten⟩ v).toArray] W _
  generalize hqq : (⟨1, Z0, d, ls.flatten⟩ : R5.Qn) = q at *
  have hok : R5.askB q = true := by rw [← hqq]; exact askB_d hd
  have hqd : q.data = ls.flatten := by rw [← hqq]
  rw [← hqd] at hv hfl
  cases hid : o.ideal with
  | true => rw [nxP_id hid]; exact R5.pask_ideal B og mb S v dv ov o _ W hid (Nat.le_trans hB hb.size) hll (ho.below hb) hq hv hok
  | false => rw [nxP_co hid]; exact R5.pask_conc B og mb S v dv ov o _ W hid (Nat.le_trans hB hb.size) hll (ho.below hb) hq (by omega) hv hok
/-- How a call ends that has asked. -/
def PR (B og mb : Nat) (S : Nat → Prop) (w : World) (o' : R5.Pra) (dv v : Value) (e : Ending) (w' : World) : Prop :=
  e = .returned v ∧ R5.Fr S w w' ∧ ∃ ov', R5.PO B og mb (fun k => S k ∨ (w.heap.size ≤ k ∧ k < w'.heap.size)) w' o' dv ov'
/-- What is left behind a call that has asked: blocks that were made ahead of it, or are new, may be written. -/
theorem pfin (ho : R5.PO B og mb S w o dv ov) (hB : B ≤ w.heap.size) (hb2 : Below w.heap.size w w2) (hfr : R5.Fr S w2 w3) (h : ∃ ov', R5.PO B og mb (fun k => S k ∨ (w2.heap.size ≤ k ∧ k < w3.heap.size)) w3 o' dv ov') (h4 : R5.Fr (fun k => w.heap.size ≤ k ∧ k < w2.heap.size) w3 w4) :
    R5.Fr S w w4 ∧ ∃ ov', R5.PO B og mb (fun k => S k ∨ (w.heap.size ≤ k ∧ k < w4.heap.size)) w4 o' dv ov' := by
  obtain ⟨ov', hp⟩ := h
  have hs2 := hb2.size
  have hs3 := hfr.size
  have hs4 := h4.size
  refine ⟨((R5.Fr.ofBelow hb2).trans hfr (fun k h => .inl h)).trans h4 (fun k h => .inr h.1), ov', ?_⟩
  refine R5.PO.more (hp.keep hs4 (fun k hk h => h4.block k hk (fun hx => ?_))) (fun k h => h.imp id (fun h => ⟨by omega, by omega⟩)) (fun k h => ?_) (fun k h => ?_)
  · rcases h with (h | h) | h
    · have := ho.top k h; omega
    · omega
    · have := (ho.dro k h).2; omega
  · rcases h with h | h
    · exact .inl (.inl h)
    · exact .inr (fun e => by have := (ho.dro k e).2; omega)
  · rcases h with h | h
    · exact ⟨ho.low k h, by have := ho.top k h; omega⟩
    · exact ⟨by omega, h.2⟩
theorem PR.ahead {v : Value} {e : Ending} (ho : R5.PO B og mb S w o dv ov) (hB : B ≤ w.heap.size) (hb2 : Below w.heap.size w w2) (h : PR B og mb S w2 o' dv v e w3) : PR B og mb S w o' dv v e w3 := by
  obtain ⟨h1, h2, h3⟩ := h
  obtain ⟨h4, h5⟩ := pfin ho hB hb2 h2 h3 (R5.Fr.refl _ _)
  exact ⟨h1, h4, h5⟩
end

theorem hp_two (X : World) (a b : Value) (la lb : List UInt8) (ha : HB X a la) (hb : HB X b lb) : R5.HP (X.alloc (.cells #[a, b] 83 (0, 0))) (.slice (some ⟨X.heap.size, 0, none⟩) 2 2) [la, lb] := by
  have hbel : Below X.heap.size X (X.alloc (.cells #[a, b] 83 (0, 0))) := (Below.refl _ _).alloc (Nat.le_refl _) _
  refine ⟨_, 2, rfl, fun i hi => ?_⟩
  have : i = 0 ∨ i = 1 := by simp at hi; omega
  rcases this with rfl | rfl
  · exact ⟨_, a, rfl, by rw [cell_of_row _ _ 0 _ _ _ (heap_alloc_new _ _)]; rfl, ha.below hbel⟩
  · exact ⟨_, b, rfl, by rw [cell_of_row _ _ 1 _ _ _ (heap_alloc_new _ _)]; rfl, hb.below hbel⟩
set_option maxHeartbeats 2000000 in
set_option maxRecDepth 100000 in
theorem asked_any (B og mb : Nat) (S : Nat → Prop) (pv dv ov : Value) (o : R5.Pra) (d : Int) (n : Nat) (ls : List (List UInt8)) (w : World) (r : List UInt8 × R5.Pra) (hB : B ≤ w.heap.size) (hll : o.log.length < 1000000) (ho : R5.PO B og mb S w o dv ov) (hn : n < 9223372036854775808) (hp : R5.HP w pv ls) (hl : ls.length ≤ 100) (hfl : ls.flatten.length ≤ 10000) (hd : 1 ≤ d ∧ d ≤ 16)
    (hr : nxP o ⟨1, Z0, d, W1.le 8 n ++ ls.flatten⟩ = r) :
    Calls Tryz.prog 63 #[.pointer (some ⟨og, 0, none⟩), .int .i64 d, .int .i64 (n : Int), pv] w fun e w' => PR B og mb S w r.2 dv (R5.dV r.1) e w' := by
  have hAl := nxP_len ho ⟨1, Z0, d, W1.le 8 n ++ ls.flatten⟩
  rw [hr] at hAl
  have hz := fun W => R5.zero_dig W
  obtain ⟨ZL, hZL⟩ : ∃ L, L = (List.replicate 32 (0 : UInt8)).map B8 := ⟨_, rfl⟩
  rw [← hZL] at hz
  have HZS : Hid (ZL.toArray.size = 32) := by show _ = _; rw [hZL]; simp
  have HZ1 : Hid (ZL.toArray.all (·.oneCell') = true) := by show _ = _; rw [hZL]; exact R5.B8_onea _
  clear hZL
  have hu : IntKind.u64.wrap (n : Int) = (n : Int) := by rw [W1.wrap_u64]; omega
  obtain ⟨W1', hW1⟩ : ∃ W1', W1' = w.alloc (.cells ZL.toArray 23 (0, 0)) := ⟨_, rfl⟩
  have hb1 : Below w.heap.size w W1' := by rw [hW1]; exact (Below.refl _ _).alloc (Nat.le_refl _) _
  have hr1 : W1'.heap[w.heap.size]? = some (.cells ZL.toArray 23 (0, 0)) := by rw [hW1]; exact heap_alloc_new _ _
  have HPUT : Hid (Calls Tryz.prog 78 #[.int .u64 (n : Int), .int .i64 8] W1' fun e w' => e = .returned (.tuple #[.slice (some ⟨W1'.heap.size, 0, none⟩) 8 8, .int .i64 0]) ∧ FB W1'.heap.size w' (.slice (some ⟨W1'.heap.size, 0, none⟩) 8 8) (W1.le 8 n) ∧ Below W1'.heap.size W1' w') := put_ok n 8 W1' (by decide) (by decide) (by omega) (by omega)
  have HO : Hid (R5.PO B og mb S w o dv ov) := ho
  have HHP : Hid (R5.HP w pv ls) := hp
  have HB1 : Hid (Below w.heap.size w W1') := hb1
  have HR1 : Hid (W1'.heap[w.heap.size]? = some (.cells ZL.toArray 23 (0, 0))) := hr1
  have HW1 : Hid (W1' = w.alloc (.cells ZL.toArray 23 (0, 0))) := hW1
  have HAS : Hid ((r.1.map B8).toArray.size = 32) := by show _ = _; simpa using hAl
  have HAI : Hid _ := R5.info32 (r.1.map B8) (by simpa using hAl)
  have HA1 : Hid _ := R5.B8_onea r.1
  have HJN : Hid (∀ W, Below w.heap.size w W → Calls Tryz.prog 80 #[pv] W fun e w' => ∃ v, e = .returned v ∧ FB W.heap.size w' v ls.flatten ∧ Below W.heap.size W w') := fun W hW => R5.pjoin_any pv ls W (by omega) (by omega) (R5.hp_below hp hW)
  have HDG : Hid (∀ W v, Below w.heap.size w W → R5.HP W v [W1.le 8 n, ls.flatten] → Calls Tryz.prog 79 #[.pointer (some ⟨og, 0, none⟩), .int .i64 d, v] W fun e w' => R5.PAsk B og mb S W r dv e w') := fun W v hW hv => by
    have q := pdigG v d [W1.le 8 n, ls.flatten] (Nat.le_trans hB hW.size) hll (ho.below hW) hv (by simp) (by simp only [List.flatten_cons, List.flatten_nil, List.append_nil, List.length_append, W1.le_length]; omega) hd
    rw [show ([W1.le 8 n, ls.flatten] : List (List UInt8)).flatten = W1.le 8 n ++ ls.flatten by simp, hr] at q
    exact q
  have HOK : Hid (R5.okV r.1 = .tuple #[.agg (r.1.map B8).toArray, .int .i64 0]) := rfl
  have HDV : Hid (R5.dV r.1 = .agg (r.1.map B8).toArray) := rfl
  rw [HDV.out]
  generalize hRL : r.1.map B8 = AL at *
  have HRL : Hid (r.1.map B8 = AL) := hRL
  rw [hW1] at HPUT
  clear hb1 hr1 ho hp hAl hW1 hr HDV hRL
  generalize W1.le 8 n = LE at *
  generalize ls.flatten = FL at *
  go_enter Tryz.func63, Tryz.ntmps63
  go_wp2_with fail
  refine Calls.mono HPUT.out ?_
  rintro e W2 ⟨rfl, hf2, hb2⟩
  rw [← HW1.out] at hf2 hb2
  have HF2 : Hid (HB W2 (.slice (some ⟨W1'.heap.size, 0, none⟩) 8 8) LE) := hf2.hb
  have HB2 : Hid (Below w.heap.size w W2) := HB1.out.trans (hb2.mono HB1.out.size)
  have HR2 : Hid (W2.heap[w.heap.size]? = some (.cells ZL.toArray 23 (0, 0))) := (hb2.block _ (MC.row_lt HR1.out)).trans HR1.out
  clear hf2 hb2 HPUT HR1 HB1
  rw [← HW1.out]
  generalize W1'.heap.size = nb at *
  go_wp2_with fail
  refine Calls.mono (HJN.out W2 HB2.out) ?_
  rintro e W3 ⟨v3, rfl, hf3, hb3⟩
  obtain ⟨p3, c3, hv3, _, _⟩ := R5.hb_cells hf3.hb
  have HF3 : Hid (HB W3 v3 FL) := hf3.hb
  have HF2b : Hid (HB W3 (.slice (some ⟨nb, 0, none⟩) 8 8) LE) := HF2.out.below hb3
  have HB3 : Hid (Below w.heap.size w W3) := HB2.out.trans (hb3.mono HB2.out.size)
  have HR3 : Hid (W3.heap[w.heap.size]? = some (.cells ZL.toArray 23 (0, 0))) := (hb3.block _ (MC.row_lt HR2.out)).trans HR2.out
  subst hv3
  clear hf3 hb3 HF2 HB2 HR2 HJN
  go_wp2_with fail
  have hba : Below W3.heap.size W3 (W3.alloc (.cells #[.slice (some ⟨nb, 0, none⟩) 8 8, .slice p3 FL.length c3] 83 (0, 0))) := (Below.refl _ _).alloc (Nat.le_refl _) _
  have HB4 : Hid (Below w.heap.size w (W3.alloc (.cells #[.slice (some ⟨nb, 0, none⟩) 8 8, .slice p3 FL.length c3] 83 (0, 0)))) := HB3.out.trans (hba.mono HB3.out.size)
  have HR4 : Hid ((W3.alloc (.cells #[.slice (some ⟨nb, 0, none⟩) 8 8, .slice p3 FL.length c3] 83 (0, 0))).heap[w.heap.size]? = some (.cells ZL.toArray 23 (0, 0))) := (hba.block _ (MC.row_lt HR3.out)).trans HR3.out
  have HHP4 : Hid (R5.HP (W3.alloc (.cells #[.slice (some ⟨nb, 0, none⟩) 8 8, .slice p3 FL.length c3] 83 (0, 0))) (.slice (some ⟨W3.heap.size, 0, none⟩) 2 2) [LE, FL]) := hp_two W3 _ _ _ _ HF2b.out HF3.out
  refine Calls.mono (HDG.out _ _ HB4.out HHP4.out) ?_
  rintro e w3 ⟨he, hfr, hpo⟩
  rw [HOK.out] at he
  subst he
  clear hba HHP4 HDG HF2b HF3 HB3 HR3 HHP
  generalize W3.alloc (.cells #[.slice (some ⟨nb, 0, none⟩) 8 8, .slice p3 FL.length c3] 83 (0, 0)) = W4 at *
  generalize W3.heap.size = n4 at *
  have hs3 := hfr.size
  have hl4 := MC.row_lt HR4.out
  have hr3 : w3.heap[w.heap.size]? = some (.cells ZL.toArray 23 (0, 0)) := (hfr.block _ hl4 (fun h => by have := HO.out.top _ h; omega)).trans HR4.out
  have hw3 : w.heap.size < w3.heap.size := MC.row_lt hr3
  have HZA : Hid ((w3.alloc (.cells ZL.toArray 23 (0, 0))).heap[w3.heap.size]? = some (.cells ZL.toArray 23 (0, 0))) := heap_alloc_new _ _
  have HZR : Hid (((w3.alloc (.cells ZL.toArray 23 (0, 0))).setRow w3.heap.size AL.toArray).rangeAt w3.heap.size 0 AL) := MC.rangeAt_row (setRow_heap _ _ _ _ _ _ HZA.out)
  have HR5 : Hid (((w3.alloc (.cells ZL.toArray 23 (0, 0))).setRow w3.heap.size AL.toArray).heap[w.heap.size]? = some (.cells ZL.toArray 23 (0, 0))) := (setRow_other _ _ _ _ (by omega)).trans ((heap_alloc_old _ _ hw3).trans hr3)
  have HF4 : Hid (R5.Fr (fun k => w.heap.size ≤ k ∧ k < W4.heap.size) w3 (((w3.alloc (.cells ZL.toArray 23 (0, 0))).setRow w3.heap.size AL.toArray).setRow w.heap.size AL.toArray)) := ((R5.Fr.ofBelow ((Below.refl _ w3).alloc (Nat.le_refl _) _)).setRow _ _ (.inr (Nat.le_refl _))).setRow _ _ (.inl ⟨Nat.le_refl _, hl4⟩)
  have HEND : Hid (PR B og mb S w r.2 dv (.agg AL.toArray) (.returned (.agg AL.toArray)) (((w3.alloc (.cells ZL.toArray 23 (0, 0))).setRow w3.heap.size AL.toArray).setRow w.heap.size AL.toArray)) := ⟨rfl, (pfin HO.out hB HB4.out hfr hpo HF4.out)⟩
  have HSS : Hid (ZL.toArray.size = AL.toArray.size) := HZS.out.trans HAS.out.symm
  clear hfr hpo hr3 hs3 hw3 hl4
  go_wp2_with (first
    | (refine wpList_store_row rfl 23 _ _ rfl w3.heap.size AL.toArray rfl rfl 23 ZL.toArray HZA.out (R5.info32a _ HAS.out) HSS.out HA1.out ?_)
    | (refine wpList_load_mid rfl 23 _ rfl w3.heap.size 0 rfl AL _ HZR.out Tryz.underlying23 rfl HAI.out ?_)
    | (refine wpList_store_row rfl 23 _ _ rfl w.heap.size AL.toArray rfl rfl 23 ZL.toArray HR5.out (R5.info32a _ HAS.out) HSS.out HA1.out ?_))
  refine bodyPost_ret (v := .agg AL.toArray) ?_ rfl HEND.out
  exact results_cell_row Tryz.results63 _ _ w.heap.size 23 _ (0, 0) _ rfl (setRow_heap _ _ _ _ _ _ HR5.out) Tryz.underlying23 rfl (R5.info32a _ HAS.out)
end Go.Proofs.YtnijjoankahddaaGreat.DC
