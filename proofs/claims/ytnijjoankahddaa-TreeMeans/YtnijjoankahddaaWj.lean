/- Several texts in one. -/
import Derived.Test.YtnijjoankahddaaDI
import Derived.Test.YtnijjoankahddaaWt
set_option linter.unusedVariables false
set_option linter.unusedSimpArgs false
/- tree: the oracle, asked for a digest in either mode; what asks it. -/
namespace Go.Proofs.Ytnijjoankahddaa.DC
open Go.RowKit

abbrev Lg := List (R5.Qn × List UInt8)
def Z0 : List UInt8 := List.replicate 32 0
/-- A new answer, in either mode; what the oracle answers, and what it knows then. -/
def frs (o : R5.Pra) (q : R5.Qn) : List UInt8 := if o.ideal then R5.drawD o.draws o.log.length else R5.compD q
def nxP (o : R5.Pra) (q : R5.Qn) : List UInt8 × R5.Pra := R5.pAsk o q (frs o q)
theorem frs_id {o : R5.Pra} (h : o.ideal = true) (q : R5.Qn) : frs o q = R5.drawD o.draws o.log.length := by unfold frs; rw [if_pos h]
theorem frs_co {o : R5.Pra} (h : o.ideal = false) (q : R5.Qn) : frs o q = R5.compD q := by unfold frs; rw [if_neg (by rw [h]; decide)]
theorem nxP_id {o : R5.Pra} (h : o.ideal = true) (q : R5.Qn) : nxP o q = R5.pAsk o q (R5.drawD o.draws o.log.length) := by unfold nxP; rw [frs_id h]
theorem nxP_co {o : R5.Pra} (h : o.ideal = false) (q : R5.Qn) : nxP o q = R5.pAsk o q (R5.compD q) := by unfold nxP; rw [frs_co h]
section
variable {B og mb : Nat} {S : Nat → Prop} {w w2 w3 w4 : World} {o o' : R5.Pra} {dv ov : Value}
theorem nxP_len (ho : R5.PO B og mb S w o dv ov) (q : R5.Qn) : (nxP o q).1.length = 32 := R5.pAsk_len ho.ok (by unfold frs; split; exact R5.drawD_len _ _ ho.draws.1; exact R5.compD_len q)
theorem wf_d {d : Int} (hd : 1 ≤ d ∧ d ≤ 16) : (Lit.int .i64 d).wf = true := by have := hd.1; have := hd.2; simp [Lit.wf, IntKind.min, IntKind.max, IntKind.signed, IntKind.bits]; omega
theorem askB_d {d : Int} {data : List UInt8} (hd : 1 ≤ d ∧ d ≤ 16) : R5.askB ⟨1, Z0, d, data⟩ = true := by
  unfold R5.askB R5.mayQ Z0
  simp [hd.1, hd.2]
theorem pdigG (pv : Value) (d : Int) (ls : List (List UInt8)) (hB : B ≤ w.heap.size) (hll : o.log.length < 1000000) (ho : R5.PO B og mb S w o dv ov) (hp : R5.HP w pv ls) (hl : ls.length ≤ 1048576) (hfl : ls.flatten.length ≤ 100000) (hd : 1 ≤ d ∧ d ≤ 16) :
    Calls Try.prog 53 #[.pointer (some ⟨og, 0, none⟩), .int .i64 d, pv] w fun e w' => R5.PAsk B og mb S w (nxP o ⟨1, Z0, d, ls.flatten⟩) dv e w' := by
  have hq : R5.kOk ⟨1, Z0, d, ls.flatten⟩ := ⟨by simp [Z0], rfl, wf_d hd, by show ls.flatten.length ≤ _; omega⟩
  refine R5.pdig_ok B og mb S pv dv ov o d ls _ w hB ho hp hl (by omega) (nxP_len ho _) (fun W v hb hv => ?_)
  show Calls Try.prog 47 #[.pointer (some ⟨og, 0, none⟩), .agg (R5.qL ⟨1, Z0, d, ls.flatten⟩ v).toArray] W _
  generalize hqq : (⟨1, Z0, d, ls.flatten⟩ : R5.Qn) = q at *
  have hok : R5.askB q = true := by rw [← hqq]; exact askB_d hd
  have hqd : q.data = ls.flatten := by rw [← hqq]
  rw [← hqd] at hv hfl
  cases hid : o.ideal with
  | true => rw [nxP_id hid]; exact R5.pask_ideal B og mb S v dv ov o _ W hid (Nat.le_trans hB hb.size) hll (ho.below hb) hq hv hok
  | false => rw [nxP_co hid]; exact R5.pask_conc B og mb S v dv ov o _ W hid (Nat.le_trans hB hb.size) hll (ho.below hb) hq (by omega) hv hok
/-- How a call ends that has asked. -/
def PR (B og mb : Nat) (S : Nat → Prop) (w : World) (o' : R5.Pra) (dv v : Value) (e : Ending) (w' : World) : Prop :=
  e = .returned v ∧ R5.Fr S w w' ∧ ∃ ov', R5.PO B og mb (fun k => S k ∨ (w.heap.size ≤ k ∧ k < w'.heap.size)) w' o' dv ov'
/-- What is left behind a call that has asked: blocks that were made ahead of it, or are new, may be written. -/
theorem pfin (ho : R5.PO B og mb S w o dv ov) (hB : B ≤ w.heap.size) (hb2 : Below w.heap.size w w2) (hfr : R5.Fr S w2 w3) (h : ∃ ov', R5.PO B og mb (fun k => S k ∨ (w2.heap.size ≤ k ∧ k < w3.heap.size)) w3 o' dv ov') (h4 : R5.Fr (fun k => w.heap.size ≤ k ∧ k < w2.heap.size) w3 w4) :
    R5.Fr S w w4 ∧ ∃ ov', R5.PO B og mb (fun k => S k ∨ (w.heap.size ≤ k ∧ k < w4.heap.size)) w4 o' dv ov' := by
  obtain ⟨ov', hp⟩ := h
  have hs2 := hb2.size
  have hs3 := hfr.size
  have hs4 := h4.size
  refine ⟨((R5.Fr.ofBelow hb2).trans hfr (fun k h => .inl h)).trans h4 (fun k h => .inr h.1), ov', ?_⟩
  refine R5.PO.more (hp.keep hs4 (fun k hk h => h4.block k hk (fun hx => ?_))) (fun k h => h.imp id (fun h => ⟨by omega, by omega⟩)) (fun k h => ?_) (fun k h => ?_)
  · rcases h with (h | h) | h
    · have := ho.top k h; omega
    · omega
    · have := (ho.dro k h).2; omega
  · rcases h with h | h
    · exact .inl (.inl h)
    · exact .inr (fun e => by have := (ho.dro k e).2; omega)
  · rcases h with h | h
    · exact ⟨ho.low k h, by have := ho.top k h; omega⟩
    · exact ⟨by omega, h.2⟩
theorem PR.ahead {v : Value} {e : Ending} (ho : R5.PO B og mb S w o dv ov) (hB : B ≤ w.heap.size) (hb2 : Below w.heap.size w w2) (h : PR B og mb S w2 o' dv v e w3) : PR B og mb S w o' dv v e w3 := by
  obtain ⟨h1, h2, h3⟩ := h
  obtain ⟨h4, h5⟩ := pfin ho hB hb2 h2 h3 (R5.Fr.refl _ _)
  exact ⟨h1, h4, h5⟩
end

theorem hp_two (X : World) (a b : Value) (la lb : List UInt8) (ha : HB X a la) (hb : HB X b lb) : R5.HP (X.alloc (.cells #[a, b] 91 (0, 0))) (.slice (some ⟨X.heap.size, 0, none⟩) 2 2) [la, lb] := by
  have hbel : Below X.heap.size X (X.alloc (.cells #[a, b] 91 (0, 0))) := (Below.refl _ _).alloc (Nat.le_refl _) _
  refine ⟨_, 2, rfl, fun i hi => ?_⟩
  have : i = 0 ∨ i = 1 := by simp at hi; omega
  rcases this with rfl | rfl
  · exact ⟨_, a, rfl, by rw [cell_of_row _ _ 0 _ _ _ (heap_alloc_new _ _)]; rfl, ha.below hbel⟩
  · exact ⟨_, b, rfl, by rw [cell_of_row _ _ 1 _ _ _ (heap_alloc_new _ _)]; rfl, hb.below hbel⟩
set_option maxHeartbeats 2000000 in
set_option maxRecDepth 100000 in
theorem asked_any (B og mb : Nat) (S : Nat → Prop) (pv dv ov : Value) (o : R5.Pra) (d : Int) (n : Nat) (ls : List (List UInt8)) (w : World) (r : List UInt8 × R5.Pra) (hB : B ≤ w.heap.size) (hll : o.log.length < 1000000) (ho : R5.PO B og mb S w o dv ov) (hn : n < 9223372036854775808) (hp : R5.HP w pv ls) (hl : ls.length ≤ 100) (hfl : ls.flatten.length ≤ 10000) (hd : 1 ≤ d ∧ d ≤ 16)
    (hr : nxP o ⟨1, Z0, d, W1.le 8 n ++ ls.flatten⟩ = r) :
    Calls Try.prog 44 #[.pointer (some ⟨og, 0, none⟩), .int .i64 d, .int .i64 (n : Int), pv] w fun e w' => PR B og mb S w r.2 dv (R5.dV r.1) e w' := by
  have hAl := nxP_len ho ⟨1, Z0, d, W1.le 8 n ++ ls.flatten⟩
  rw [hr] at hAl
  have hz := fun W => R5.zero_dig W
  obtain ⟨ZL, hZL⟩ : ∃ L, L = (List.replicate 32 (0 : UInt8)).map B8 := ⟨_, rfl⟩
  rw [← hZL] at hz
  have HZS : Hid (ZL.toArray.size = 32) := by show _ = _; rw [hZL]; simp
  have HZ1 : Hid (ZL.toArray.all (·.oneCell') = true) := by show _ = _; rw [hZL]; exact R5.B8_onea _
  clear hZL
  have hu : IntKind.u64.wrap (n : Int) = (n : Int) := by rw [W1.wrap_u64]; omega
  obtain ⟨W1', hW1⟩ : ∃ W1', W1' = w.alloc (.cells ZL.toArray 23 (0, 0)) := ⟨_, rfl⟩
  have hb1 : Below w.heap.size w W1' := by rw [hW1]; exact (Below.refl _ _).alloc (Nat.le_refl _) _
  have hr1 : W1'.heap[w.heap.size]? = some (.cells ZL.toArray 23 (0, 0)) := by rw [hW1]; exact heap_alloc_new _ _
  have HPUT : Hid (Calls Try.prog 52 #[.int .u64 (n : Int), .int .i64 8] W1' fun e w' => e = .returned (.tuple #[.slice (some ⟨W1'.heap.size, 0, none⟩) 8 8, .int .i64 0]) ∧ FB W1'.heap.size w' (.slice (some ⟨W1'.heap.size, 0, none⟩) 8 8) (W1.le 8 n) ∧ Below W1'.heap.size W1' w') := put_ok n 8 W1' (by decide) (by decide) (by omega) (by omega)
  have HO : Hid (R5.PO B og mb S w o dv ov) := ho
  have HHP : Hid (R5.HP w pv ls) := hp
  have HB1 : Hid (Below w.heap.size w W1') := hb1
  have HR1 : Hid (W1'.heap[w.heap.size]? = some (.cells ZL.toArray 23 (0, 0))) := hr1
  have HW1 : Hid (W1' = w.alloc (.cells ZL.toArray 23 (0, 0))) := hW1
  have HAS : Hid ((r.1.map B8).toArray.size = 32) := by show _ = _; simpa using hAl
  have HAI : Hid _ := R5.info32 (r.1.map B8) (by simpa using hAl)
  have HA1 : Hid _ := R5.B8_onea r.1
  have HJN : Hid (∀ W, Below w.heap.size w W → Calls Try.prog 54 #[pv] W fun e w' => ∃ v, e = .returned v ∧ FB W.heap.size w' v ls.flatten ∧ Below W.heap.size W w') := fun W hW => R5.pjoin_any pv ls W (by omega) (by omega) (R5.hp_below hp hW)
  have HDG : Hid (∀ W v, Below w.heap.size w W → R5.HP W v [W1.le 8 n, ls.flatten] → Calls Try.prog 53 #[.pointer (some ⟨og, 0, none⟩), .int .i64 d, v] W fun e w' => R5.PAsk B og mb S W r dv e w') := fun W v hW hv => by
    have q := pdigG v d [W1.le 8 n, ls.flatten] (Nat.le_trans hB hW.size) hll (ho.below hW) hv (by simp) (by simp only [List.flatten_cons, List.flatten_nil, List.append_nil, List.length_append, W1.le_length]; omega) hd
    rw [show ([W1.le 8 n, ls.flatten] : List (List UInt8)).flatten = W1.le 8 n ++ ls.flatten by simp, hr] at q
    exact q
  have HOK : Hid (R5.okV r.1 = .tuple #[.agg (r.1.map B8).toArray, .int .i64 0]) := rfl
  have HDV : Hid (R5.dV r.1 = .agg (r.1.map B8).toArray) := rfl
  rw [HDV.out]
  generalize hRL : r.1.map B8 = AL at *
  have HRL : Hid (r.1.map B8 = AL) := hRL
  rw [hW1] at HPUT
  clear hb1 hr1 ho hp hAl hW1 hr HDV hRL
  generalize W1.le 8 n = LE at *
  generalize ls.flatten = FL at *
  go_enter Try.func44, Try.ntmps44
  go_wp2_with fail
  refine Calls.mono HPUT.out ?_
  rintro e W2 ⟨rfl, hf2, hb2⟩
  rw [← HW1.out] at hf2 hb2
  have HF2 : Hid (HB W2 (.slice (some ⟨W1'.heap.size, 0, none⟩) 8 8) LE) := hf2.hb
  have HB2 : Hid (Below w.heap.size w W2) := HB1.out.trans (hb2.mono HB1.out.size)
  have HR2 : Hid (W2.heap[w.heap.size]? = some (.cells ZL.toArray 23 (0, 0))) := (hb2.block _ (MC.row_lt HR1.out)).trans HR1.out
  clear hf2 hb2 HPUT HR1 HB1
  rw [← HW1.out]
  generalize W1'.heap.size = nb at *
  go_wp2_with fail
  refine Calls.mono (HJN.out W2 HB2.out) ?_
  rintro e W3 ⟨v3, rfl, hf3, hb3⟩
  obtain ⟨p3, c3, hv3, _, _⟩ := R5.hb_cells hf3.hb
  have HF3 : Hid (HB W3 v3 FL) := hf3.hb
  have HF2b : Hid (HB W3 (.slice (some ⟨nb, 0, none⟩) 8 8) LE) := HF2.out.below hb3
  have HB3 : Hid (Below w.heap.size w W3) := HB2.out.trans (hb3.mono HB2.out.size)
  have HR3 : Hid (W3.heap[w.heap.size]? = some (.cells ZL.toArray 23 (0, 0))) := (hb3.block _ (MC.row_lt HR2.out)).trans HR2.out
  subst hv3
  clear hf3 hb3 HF2 HB2 HR2 HJN
  go_wp2_with fail
  have hba : Below W3.heap.size W3 (W3.alloc (.cells #[.slice (some ⟨nb, 0, none⟩) 8 8, .slice p3 FL.length c3] 91 (0, 0))) := (Below.refl _ _).alloc (Nat.le_refl _) _
  have HB4 : Hid (Below w.heap.size w (W3.alloc (.cells #[.slice (some ⟨nb, 0, none⟩) 8 8, .slice p3 FL.length c3] 91 (0, 0)))) := HB3.out.trans (hba.mono HB3.out.size)
  have HR4 : Hid ((W3.alloc (.cells #[.slice (some ⟨nb, 0, none⟩) 8 8, .slice p3 FL.length c3] 91 (0, 0))).heap[w.heap.size]? = some (.cells ZL.toArray 23 (0, 0))) := (hba.block _ (MC.row_lt HR3.out)).trans HR3.out
  have HHP4 : Hid (R5.HP (W3.alloc (.cells #[.slice (some ⟨nb, 0, none⟩) 8 8, .slice p3 FL.length c3] 91 (0, 0))) (.slice (some ⟨W3.heap.size, 0, none⟩) 2 2) [LE, FL]) := hp_two W3 _ _ _ _ HF2b.out HF3.out
  refine Calls.mono (HDG.out _ _ HB4.out HHP4.out) ?_
  rintro e w3 ⟨he, hfr, hpo⟩
  rw [HOK.out] at he
  subst he
  clear hba HHP4 HDG HF2b HF3 HB3 HR3 HHP
  generalize W3.alloc (.cells #[.slice (some ⟨nb, 0, none⟩) 8 8, .slice p3 FL.length c3] 91 (0, 0)) = W4 at *
  generalize W3.heap.size = n4 at *
  have hs3 := hfr.size
  have hl4 := MC.row_lt HR4.out
  have hr3 : w3.heap[w.heap.size]? = some (.cells ZL.toArray 23 (0, 0)) := (hfr.block _ hl4 (fun h => by have := HO.out.top _ h; omega)).trans HR4.out
  have hw3 : w.heap.size < w3.heap.size := MC.row_lt hr3
  have HZA : Hid ((w3.alloc (.cells ZL.toArray 23 (0, 0))).heap[w3.heap.size]? = some (.cells ZL.toArray 23 (0, 0))) := heap_alloc_new _ _
  have HZR : Hid (((w3.alloc (.cells ZL.toArray 23 (0, 0))).setRow w3.heap.size AL.toArray).rangeAt w3.heap.size 0 AL) := MC.rangeAt_row (setRow_heap _ _ _ _ _ _ HZA.out)
  have HR5 : Hid (((w3.alloc (.cells ZL.toArray 23 (0, 0))).setRow w3.heap.size AL.toArray).heap[w.heap.size]? = some (.cells ZL.toArray 23 (0, 0))) := (setRow_other _ _ _ _ (by omega)).trans ((heap_alloc_old _ _ hw3).trans hr3)
  have HF4 : Hid (R5.Fr (fun k => w.heap.size ≤ k ∧ k < W4.heap.size) w3 (((w3.alloc (.cells ZL.toArray 23 (0, 0))).setRow w3.heap.size AL.toArray).setRow w.heap.size AL.toArray)) := ((R5.Fr.ofBelow ((Below.refl _ w3).alloc (Nat.le_refl _) _)).setRow _ _ (.inr (Nat.le_refl _))).setRow _ _ (.inl ⟨Nat.le_refl _, hl4⟩)
  have HEND : Hid (PR B og mb S w r.2 dv (.agg AL.toArray) (.returned (.agg AL.toArray)) (((w3.alloc (.cells ZL.toArray 23 (0, 0))).setRow w3.heap.size AL.toArray).setRow w.heap.size AL.toArray)) := ⟨rfl, (pfin HO.out hB HB4.out hfr hpo HF4.out)⟩
  have HSS : Hid (ZL.toArray.size = AL.toArray.size) := HZS.out.trans HAS.out.symm
  clear hfr hpo hr3 hs3 hw3 hl4
  go_wp2_with (first
    | (refine wpList_store_row rfl 23 _ _ rfl w3.heap.size AL.toArray rfl rfl 23 ZL.toArray HZA.out (R5.info32a _ HAS.out) HSS.out HA1.out ?_)
    | (refine wpList_load_mid rfl 23 _ rfl w3.heap.size 0 rfl AL _ HZR.out Try.underlying23 rfl HAI.out ?_)
    | (refine wpList_store_row rfl 23 _ _ rfl w.heap.size AL.toArray rfl rfl 23 ZL.toArray HR5.out (R5.info32a _ HAS.out) HSS.out HA1.out ?_))
  refine bodyPost_ret (v := .agg AL.toArray) ?_ rfl HEND.out
  exact results_cell_row Try.results44 _ _ w.heap.size 23 _ (0, 0) _ rfl (setRow_heap _ _ _ _ _ _ HR5.out) Try.underlying23 rfl (R5.info32a _ HAS.out)
end Go.Proofs.Ytnijjoankahddaa.DC

/- tree: noneOf, nodeOf, None, Node of the program, where they may be. -/
namespace Go.Proofs.Ytnijjoankahddaa.DC
open Go.RowKit

def qNone (p : Nat) : R5.Qn := ⟨1, Z0, 6, W1.le 8 p⟩
def qNode (i : Nat) (a b : List UInt8) : R5.Qn := ⟨1, Z0, 5, W1.le 8 i ++ (a ++ b)⟩
/-- What a call that asked leaves, where own blocks made ahead of it are written behind it. -/
theorem pr_end {B og mb : Nat} {S : Nat → Prop} {w w2 w3 w4 : World} {o o' : R5.Pra} {dv ov v v' : Value} {e : Ending} (ho : R5.PO B og mb S w o dv ov) (hB : B ≤ w.heap.size) (hb2 : Below w.heap.size w w2) (h : PR B og mb S w2 o' dv v e w3) (h4 : R5.Fr (fun k => w.heap.size ≤ k ∧ k < w2.heap.size) w3 w4) : PR B og mb S w o' dv v' (.returned v') w4 := by
  obtain ⟨_, h2, h3⟩ := h
  exact ⟨rfl, pfin ho hB hb2 h2 h3 h4⟩
theorem pr_row {B og mb : Nat} {S : Nat → Prop} {w w2 w3 : World} {o o' : R5.Pra} {dv ov v : Value} {e : Ending} {k : Nat} {obj : Obj} (ho : R5.PO B og mb S w o dv ov) (hk : w.heap.size ≤ k) (hr : w2.heap[k]? = some obj) (h : PR B og mb S w2 o' dv v e w3) : w3.heap[k]? = some obj :=
  (h.2.1.block _ (MC.row_lt hr) (fun hS => by have := ho.top _ hS; omega)).trans hr
set_option maxHeartbeats 2000000 in
set_option maxRecDepth 100000 in
theorem noneOf_any (B og mb : Nat) (S : Nat → Prop) (dv ov : Value) (o : R5.Pra) (p : Nat) (w : World) (r : List UInt8 × R5.Pra) (hp : p < 128) (hB : B ≤ w.heap.size) (hll : o.log.length < 1000000) (ho : R5.PO B og mb S w o dv ov) (hr : nxP o (qNone p) = r) :
    Calls Try.prog 30 #[.pointer (some ⟨og, 0, none⟩), .int .i64 (p : Int)] w fun e w' => PR B og mb S w r.2 dv (R5.dV r.1) e w' := by
  have hAl := nxP_len ho (qNone p)
  rw [hr] at hAl
  have hz := fun W => R5.zero_dig W
  obtain ⟨ZL, hZL⟩ : ∃ L, L = (List.replicate 32 (0 : UInt8)).map B8 := ⟨_, rfl⟩
  rw [← hZL] at hz
  have HZS : Hid (ZL.toArray.size = 32) := by show _ = _; rw [hZL]; simp
  have HZ1 : Hid (ZL.toArray.all (·.oneCell') = true) := by show _ = _; rw [hZL]; exact R5.B8_onea _
  clear hZL
  obtain ⟨X0, hE0⟩ : ∃ X, X = w.alloc (.cells ZL.toArray 23 (0, 0)) := ⟨_, rfl⟩
  have hX0 : Below w.heap.size w X0 := by rw [hE0]; exact ((Below.refl _ _).alloc (Nat.le_refl _) _)
  have hR0 : X0.heap[w.heap.size]? = some (.cells ZL.toArray 23 (0, 0)) := by rw [hE0]; exact MC.heap_at _ _ _ (by simp)
  have HO : Hid (R5.PO B og mb S w o dv ov) := ho
  have HAS : Hid ((r.1.map B8).toArray.size = 32) := by show _ = _; simpa using hAl
  have HA1 : Hid _ := R5.B8_onea r.1
  have HDV : Hid (R5.dV r.1 = .agg (r.1.map B8).toArray) := rfl
  have HC : Hid (Calls Try.prog 44 #[.pointer (some ⟨og, 0, none⟩), .int .i64 6, .int .i64 (p : Int), .slice none 0 0] X0 fun e w' => PR B og mb S X0 r.2 dv (R5.dV r.1) e w') := asked_any B og mb S _ dv ov o 6 p [] X0 r (Nat.le_trans hB hX0.size) hll (ho.below hX0) (by omega) (R5.hp_nil X0) (by simp) (by simp) (by decide) (by simpa [qNone] using hr)
  rw [HDV.out] at HC ⊢
  have HBX : Hid (Below w.heap.size w X0) := hX0
  have HRX : Hid (X0.heap[w.heap.size]? = some (.cells ZL.toArray 23 (0, 0))) := hR0
  have HE0 : Hid (X0 = w.alloc (.cells ZL.toArray 23 (0, 0))) := hE0
  generalize r.1.map B8 = AL at *
  rw [hE0] at HC
  clear hX0 hR0 hE0 ho hAl hr HDV
  go_enter Try.func30, Try.ntmps30
  go_wp2_with fail
  refine Calls.mono HC.out ?_
  rw [← HE0.out]
  rintro e w3 hP
  have he : e = .returned (.agg AL.toArray) := hP.1
  subst he
  have HR3 : Hid (w3.heap[w.heap.size]? = some (.cells ZL.toArray 23 (0, 0))) := pr_row HO.out (by omega) HRX.out hP
  have HEND : Hid (PR B og mb S w r.2 dv (.agg AL.toArray) (.returned (.agg AL.toArray)) (w3.setRow (w.heap.size) AL.toArray)) := pr_end HO.out hB HBX.out hP ((R5.Fr.refl _ _).setRow _ _ (.inl ⟨by omega, MC.row_lt HRX.out⟩))
  clear hP
  go_wp2_with (refine wpList_store_row rfl 23 _ _ rfl (w.heap.size) AL.toArray rfl rfl 23 ZL.toArray HR3.out (R5.info32a _ HAS.out) (HZS.out.trans HAS.out.symm) HA1.out ?_)
  refine bodyPost_ret (v := (.agg AL.toArray)) ?_ rfl HEND.out
  exact results_cell_row Try.results30 _ _ (w.heap.size) 23 _ (0, 0) _ rfl (setRow_heap _ _ _ _ _ _ HR3.out) Try.underlying23 rfl (R5.info32a _ HAS.out)
set_option maxHeartbeats 2000000 in
set_option maxRecDepth 100000 in
theorem nodeOf_any (B og mb : Nat) (S : Nat → Prop) (dv ov : Value) (o : R5.Pra) (i : Nat) (a b : List UInt8) (w : World) (r : List UInt8 × R5.Pra) (hi : i < 256) (ha : a.length = 32) (hb : b.length = 32) (hB : B ≤ w.heap.size) (hll : o.log.length < 1000000) (ho : R5.PO B og mb S w o dv ov) (hr : nxP o (qNode i a b) = r) :
    Calls Try.prog 32 #[.pointer (some ⟨og, 0, none⟩), .int .i64 (i : Int), .agg (a.map B8).toArray, .agg (b.map B8).toArray] w fun e w' => PR B og mb S w r.2 dv (R5.dV r.1) e w' := by
  have hAl := nxP_len ho (qNode i a b)
  rw [hr] at hAl
  have hz := fun W => R5.zero_dig W
  obtain ⟨ZL, hZL⟩ : ∃ L, L = (List.replicate 32 (0 : UInt8)).map B8 := ⟨_, rfl⟩
  rw [← hZL] at hz
  have HZS : Hid (ZL.toArray.size = 32) := by show _ = _; rw [hZL]; simp
  have HZ1 : Hid (ZL.toArray.all (·.oneCell') = true) := by show _ = _; rw [hZL]; exact R5.B8_onea _
  clear hZL
  obtain ⟨X0, hE0⟩ : ∃ X, X = (((w.alloc (.cells (a.map B8).toArray 23 (0, 0))).alloc (.cells (b.map B8).toArray 23 (0, 0))).alloc (.cells ZL.toArray 23 (0, 0))).drew := ⟨_, rfl⟩
  have hX0 : Below w.heap.size w X0 := by rw [hE0]; exact ((((Below.refl _ _).alloc (Nat.le_refl _) _).alloc (by simp) _).alloc (by simp; omega) _).drew
  have hR0 : X0.heap[w.heap.size + 1 + 1]? = some (.cells ZL.toArray 23 (0, 0)) := by rw [hE0]; exact MC.heap_at _ _ _ (by simp)
  have HO : Hid (R5.PO B og mb S w o dv ov) := ho
  have HAS : Hid ((r.1.map B8).toArray.size = 32) := by show _ = _; simpa using hAl
  have HA1 : Hid _ := R5.B8_onea r.1
  have HDV : Hid (R5.dV r.1 = .agg (r.1.map B8).toArray) := rfl
  have hra : X0.heap[w.heap.size]? = some (.cells (a.map B8).toArray 23 (0, 0)) := by rw [hE0]; exact (heap_alloc_old _ _ (by simp; omega)).trans ((heap_alloc_old _ _ (by simp)).trans (heap_alloc_new _ _))
  have hrb : X0.heap[w.heap.size + 1]? = some (.cells (b.map B8).toArray 23 (0, 0)) := by rw [hE0]; exact (heap_alloc_old _ _ (by simp)).trans (MC.heap_at _ _ _ (by simp))
  have hha : HB X0 (.slice (some ⟨w.heap.size, 0, none⟩) 32 32) a := MC.hb_range ha.symm (by omega) (by decide) (MC.rangeAt_row hra)
  have hhb : HB X0 (.slice (some ⟨w.heap.size + 1, 0, none⟩) 32 32) b := MC.hb_range hb.symm (by omega) (by decide) (MC.rangeAt_row hrb)
  obtain ⟨X1, hE1⟩ : ∃ X, X = X0.alloc (.cells #[.slice (some ⟨w.heap.size, 0, none⟩) 32 32, .slice (some ⟨w.heap.size + 1, 0, none⟩) 32 32] 91 (0, 0)) := ⟨_, rfl⟩
  have hX1 : Below X0.heap.size X0 X1 := by rw [hE1]; exact (Below.refl _ _).alloc (Nat.le_refl _) _
  have hHP : R5.HP X1 (.slice (some ⟨X0.heap.size, 0, none⟩) 2 2) [a, b] := by rw [hE1]; exact hp_two X0 _ _ _ _ hha hhb
  have hs0 : X0.heap.size = w.heap.size + 1 + 1 + 1 := by rw [hE0]; simp
  have hX01 : Below w.heap.size w X1 := hX0.trans (hX1.mono hX0.size)
  have HC : Hid (Calls Try.prog 44 #[.pointer (some ⟨og, 0, none⟩), .int .i64 5, .int .i64 (i : Int), .slice (some ⟨X0.heap.size, 0, none⟩) 2 2] X1 fun e w' => PR B og mb S X1 r.2 dv (R5.dV r.1) e w') := asked_any B og mb S _ dv ov o 5 i [a, b] X1 r (Nat.le_trans hB hX01.size) hll (ho.below hX01) (by omega) hHP (by simp) (by simp; omega) (by decide) (by simpa [qNode] using hr)
  rw [HDV.out] at HC ⊢
  have HBX : Hid (Below w.heap.size w X1) := hX01
  have HRX : Hid (X1.heap[w.heap.size + 1 + 1]? = some (.cells ZL.toArray 23 (0, 0))) := (hX1.block _ (MC.row_lt hR0)).trans hR0
  have HE0 : Hid (X0 = (((w.alloc (.cells (a.map B8).toArray 23 (0, 0))).alloc (.cells (b.map B8).toArray 23 (0, 0))).alloc (.cells ZL.toArray 23 (0, 0))).drew) := hE0
  generalize r.1.map B8 = AL at *
  have HE1 : Hid (X1 = X0.alloc (.cells #[.slice (some ⟨w.heap.size, 0, none⟩) 32 32, .slice (some ⟨w.heap.size + 1, 0, none⟩) 32 32] 91 (0, 0))) := hE1
  rw [HE1.out] at HC
  have hsa := fun W => R5.sliceDig W w.heap.size 0
  have hsb := fun W => R5.sliceDig W (w.heap.size + 1) 0
  generalize (a.map B8).toArray = AA at *
  generalize (b.map B8).toArray = BB at *
  clear hX0 hR0 hE0 ho hAl hr HDV hra hrb hha hhb hE1 hX1 hHP hs0 hX01
  go_enter Try.func32, Try.ntmps32
  go_wp2_with fail
  refine wp_region_held_drew (S := fun _ => True) (by kernel_rfl) trivial (fun hHeld => ?_)
  rw [← HE0.out]
  refine wpAnyH_take (i := 0) (oi := { dst := some 9, op := Go.Op.move (Go.Operand.tmp 0), type := 34, pos := _, after := #[], guard := none }) (v := .pointer (some ⟨og, 0, none⟩)) rfl (by kernel_rfl) (by kernel_rfl) (by kernel_rfl) (fun _ _ _ h => h) (Or.inl ⟨by rfl, fun w' hw' => ?_⟩) hHeld ?_
  · first | (go_simp; done) | (go_simp; rfl)
  try simp only [Act.put, List.setIfInBounds_toArray, List.set_cons_zero, List.set_cons_succ]
  refine wpAnyH_take (i := 1) (oi := { dst := some 10, op := Go.Op.move (Go.Operand.tmp 1), type := 3, pos := _, after := #[], guard := none }) (v := .int .i64 (i : Int)) rfl (by kernel_rfl) (by kernel_rfl) (by kernel_rfl) (fun _ _ _ h => h) (Or.inl ⟨by rfl, fun w' hw' => ?_⟩) hHeld ?_
  · first | (go_simp; done) | (go_simp; rfl)
  try simp only [Act.put, List.setIfInBounds_toArray, List.set_cons_zero, List.set_cons_succ]
  refine wpAnyH_take (i := 2) (oi := { dst := some 11, op := Go.Op.slice 23 (Go.Operand.tmp 6) none none none, type := 91, pos := _, after := #[], guard := none }) (v := .slice (some ⟨w.heap.size, 0, none⟩) 32 32) rfl (by kernel_rfl) (by kernel_rfl) (by kernel_rfl) (fun _ _ _ h => h) (Or.inl ⟨by rfl, fun w' hw' => ?_⟩) hHeld ?_
  · first | (go_simp; done) | (go_simp; rfl)
  try simp only [Act.put, List.setIfInBounds_toArray, List.set_cons_zero, List.set_cons_succ]
  refine wpAnyH_take (i := 3) (oi := { dst := some 12, op := Go.Op.slice 23 (Go.Operand.tmp 7) none none none, type := 91, pos := _, after := #[], guard := none }) (v := .slice (some ⟨w.heap.size + 1, 0, none⟩) 32 32) rfl (by kernel_rfl) (by kernel_rfl) (by kernel_rfl) (fun _ _ _ h => h) (Or.inl ⟨by rfl, fun w' hw' => ?_⟩) hHeld ?_
  · first | (go_simp; done) | (go_simp; rfl)
  try simp only [Act.put, List.setIfInBounds_toArray, List.set_cons_zero, List.set_cons_succ]
  refine wpAnyH_ready (rs := [4]) (by kernel_rfl) (by simp) ?_
  refine AllReadyH.cons (o := { dst := some 13, op := Go.Op.buildSlice 107 2 #[(0, Go.Operand.tmp 11), (1, Go.Operand.tmp 12)], type := 107, pos := _, after := #[{ on := 2, ground := Go.Ground.data }, { on := 3, ground := Go.Ground.data }], guard := none }) rfl (fun K hK => ?_) AllReadyH.nil
  rw [if_pos (by rfl)]
  go_wp2_with fail
  refine hK.out _ _ trivial (fun _ => ?_)
  clear hK K
  try simp only [Act.put, List.setIfInBounds_toArray, List.set_cons_zero, List.set_cons_succ]
  refine wpAnyH_ready (rs := [5]) (by kernel_rfl) (by simp) ?_
  refine AllReadyH.cons (o := { dst := some 14, op := Go.Op.call { callee := Go.Callee.value (Go.Operand.func 44), args := #[Go.Operand.tmp 9, Go.Operand.const (Go.Value.int Go.IntKind.i64 5), Go.Operand.tmp 10, Go.Operand.tmp 13], argTypes := #[34, 96, 3, 107] }, type := 23, pos := _, after := #[{ on := 0, ground := Go.Ground.data }, { on := 1, ground := Go.Ground.data }, { on := 4, ground := Go.Ground.data }], guard := none }) rfl (fun K hK => ?_) AllReadyH.nil
  rw [if_pos (by rfl)]
  go_wp2_with fail
  refine Calls.mono HC.out ?_
  rw [← HE1.out]
  rintro e w3 hP
  have he : e = .returned (.agg AL.toArray) := hP.1
  subst he
  have HR3 : Hid (w3.heap[w.heap.size + 1 + 1]? = some (.cells ZL.toArray 23 (0, 0))) := pr_row HO.out (by omega) HRX.out hP
  have HEND : Hid (PR B og mb S w r.2 dv (.agg AL.toArray) (.returned (.agg AL.toArray)) (w3.setRow (w.heap.size + 1 + 1) AL.toArray)) := pr_end HO.out hB HBX.out hP ((R5.Fr.refl _ _).setRow _ _ (.inl ⟨by omega, MC.row_lt HRX.out⟩))
  clear hP
  refine hK.out _ _ trivial (fun _ => ?_)
  clear hK K
  try simp only [Act.put, List.setIfInBounds_toArray, List.set_cons_zero, List.set_cons_succ]
  refine wpAnyH_ready (rs := [6]) (by kernel_rfl) (by simp) ?_
  refine AllReadyH.cons (o := { dst := none, op := Go.Op.store 23 (Go.Operand.tmp 8) (Go.Operand.tmp 14), type := 0, pos := _, after := #[{ on := 5, ground := Go.Ground.data }, { on := 5, ground := Go.Ground.chain }, { on := 0, ground := Go.Ground.phase }, { on := 1, ground := Go.Ground.phase }, { on := 2, ground := Go.Ground.phase }, { on := 3, ground := Go.Ground.phase }, { on := 4, ground := Go.Ground.phase }, { on := 5, ground := Go.Ground.phase }], guard := none }) rfl (fun K hK => ?_) AllReadyH.nil
  rw [if_pos (by rfl)]
  refine wp_store_row 23 _ _ rfl (w.heap.size + 1 + 1) AL.toArray rfl rfl 23 ZL.toArray HR3.out (R5.info32a _ HAS.out) (HZS.out.trans HAS.out.symm) HA1.out ?_
  refine hK.out _ _ trivial (fun _ => ?_)
  clear hK K
  try simp only [Act.put, List.setIfInBounds_toArray, List.set_cons_zero, List.set_cons_succ]
  refine wpAnyH_done (by kernel_rfl) ?_ _
  go_wp2
  refine bodyPost_ret (v := (.agg AL.toArray)) ?_ rfl HEND.out
  exact results_cell_row Try.results32 _ _ (w.heap.size + 1 + 1) 23 _ (0, 0) _ rfl (setRow_heap _ _ _ _ _ _ HR3.out) Try.underlying23 rfl (R5.info32a _ HAS.out)
set_option maxHeartbeats 2000000 in
set_option maxRecDepth 100000 in
theorem none_ok (B og mb : Nat) (S : Nat → Prop) (dv ov : Value) (o : R5.Pra) (p : Nat) (w : World) (r : List UInt8 × R5.Pra) (hp : p < 128) (hB : B ≤ w.heap.size) (hll : o.log.length < 1000000) (ho : R5.PO B og mb S w o dv ov) (hr : nxP o (qNone p) = r) :
    Calls Try.prog 12 #[.pointer (some ⟨og, 0, none⟩), .int .i64 (p : Int)] w fun e w' => PR B og mb S w r.2 dv (R5.okV r.1) e w' := by
  have hAl := nxP_len ho (qNone p)
  rw [hr] at hAl
  have hz := fun W => R5.zero_dig W
  obtain ⟨ZL, hZL⟩ : ∃ L, L = (List.replicate 32 (0 : UInt8)).map B8 := ⟨_, rfl⟩
  rw [← hZL] at hz
  have HZS : Hid (ZL.toArray.size = 32) := by show _ = _; rw [hZL]; simp
  have HZ1 : Hid (ZL.toArray.all (·.oneCell') = true) := by show _ = _; rw [hZL]; exact R5.B8_onea _
  clear hZL
  obtain ⟨X0, hE0⟩ : ∃ X, X = w.alloc (.cells ZL.toArray 23 (0, 0)) := ⟨_, rfl⟩
  have hX0 : Below w.heap.size w X0 := by rw [hE0]; exact ((Below.refl _ _).alloc (Nat.le_refl _) _)
  have hR0 : X0.heap[w.heap.size]? = some (.cells ZL.toArray 23 (0, 0)) := by rw [hE0]; exact MC.heap_at _ _ _ (by simp)
  have HO : Hid (R5.PO B og mb S w o dv ov) := ho
  have HAS : Hid ((r.1.map B8).toArray.size = 32) := by show _ = _; simpa using hAl
  have HA1 : Hid _ := R5.B8_onea r.1
  have HDV : Hid (R5.dV r.1 = .agg (r.1.map B8).toArray) := rfl
  have HOK : Hid (R5.okV r.1 = .tuple #[.agg (r.1.map B8).toArray, .int .i64 0]) := rfl
  have HN : Hid (Calls Try.prog 34 #[.pointer (some ⟨og, 0, none⟩)] X0 fun e w' => e = .returned (.bool false) ∧ Below X0.heap.size X0 w') := noOracle_no og mb X0 ((hX0.cell (block_lt ho.cells.2.2.2.1)).trans ho.cells.2.2.2.1)
  have HPG : Hid (∀ W, Calls Try.prog 35 #[.int .i64 (p : Int)] W fun e w' => e = .returned (.bool true) ∧ w' = W) := fun W => by have q := isPage_any (p : Int) W; rw [show mayP (p : Int) = true from decide_eq_true (by omega)] at q; exact q
  have HC : Hid (∀ W, Below w.heap.size w W → Calls Try.prog 30 #[.pointer (some ⟨og, 0, none⟩), .int .i64 (p : Int)] W fun e w' => PR B og mb S W r.2 dv (R5.dV r.1) e w') := fun W hW => noneOf_any B og mb S dv ov o p W r hp (Nat.le_trans hB hW.size) hll (ho.below hW) hr
  rw [HDV.out] at HC
  rw [HOK.out]
  have HX0 : Hid (Below w.heap.size w X0) := hX0
  have HR0 : Hid (X0.heap[w.heap.size]? = some (.cells ZL.toArray 23 (0, 0))) := hR0
  have HE0 : Hid (X0 = w.alloc (.cells ZL.toArray 23 (0, 0))) := hE0
  generalize r.1.map B8 = AL at *
  rw [hE0] at HN
  clear hX0 hR0 hE0 ho hAl hr HDV HOK
  go_enter Try.func12, Try.ntmps12
  go_wp2_with fail
  refine Calls.mono HN.out ?_
  rintro e X1 ⟨rfl, hb1⟩
  rw [← HE0.out] at hb1
  have HBX : Hid (Below w.heap.size w X1) := HX0.out.trans (hb1.mono HX0.out.size)
  have HRX : Hid (X1.heap[w.heap.size]? = some (.cells ZL.toArray 23 (0, 0))) := (hb1.block _ (MC.row_lt HR0.out)).trans HR0.out
  clear hb1 HN HX0 HR0
  go_wp2_with fail
  refine Calls.mono (HPG.out X1) ?_
  rintro e X2 ⟨rfl, h2⟩
  rw [h2]
  clear h2 X2
  go_wp2_with fail
  refine Calls.mono (HC.out X1 HBX.out) ?_
  rintro e w3 hP
  have he : e = .returned (.agg AL.toArray) := hP.1
  subst he
  have HR3 : Hid (w3.heap[w.heap.size]? = some (.cells ZL.toArray 23 (0, 0))) := pr_row HO.out (by omega) HRX.out hP
  have HEND : Hid (PR B og mb S w r.2 dv (.tuple #[.agg AL.toArray, .int .i64 0]) (.returned (.tuple #[.agg AL.toArray, .int .i64 0])) (w3.setRow (w.heap.size) AL.toArray)) := pr_end HO.out hB HBX.out hP ((R5.Fr.refl _ _).setRow _ _ (.inl ⟨by omega, MC.row_lt HRX.out⟩))
  clear hP
  go_wp2_with (refine wpList_store_row rfl 23 _ _ rfl (w.heap.size) AL.toArray rfl rfl 23 ZL.toArray HR3.out (R5.info32a _ HAS.out) (HZS.out.trans HAS.out.symm) HA1.out ?_)
  refine bodyPost_ret (v := (.tuple #[.agg AL.toArray, .int .i64 0])) ?_ rfl HEND.out
  exact R5.results_dig2 Try.results12 _ _ (w.heap.size) 23 _ (0, 0) _ rfl rfl (setRow_heap _ _ _ _ _ _ HR3.out) (R5.info32a _ HAS.out)
set_option maxHeartbeats 2000000 in
set_option maxRecDepth 100000 in
theorem node_ok (B og mb : Nat) (S : Nat → Prop) (dv ov : Value) (o : R5.Pra) (i : Nat) (a b : List UInt8) (w : World) (r : List UInt8 × R5.Pra) (h1 : 1 ≤ i) (hi : i < 128) (ha : a.length = 32) (hb : b.length = 32) (hB : B ≤ w.heap.size) (hll : o.log.length < 1000000) (ho : R5.PO B og mb S w o dv ov) (hr : nxP o (qNode i a b) = r) :
    Calls Try.prog 19 #[.pointer (some ⟨og, 0, none⟩), .int .i64 (i : Int), .agg (a.map B8).toArray, .agg (b.map B8).toArray] w fun e w' => PR B og mb S w r.2 dv (R5.okV r.1) e w' := by
  have hAl := nxP_len ho (qNode i a b)
  rw [hr] at hAl
  have hz := fun W => R5.zero_dig W
  obtain ⟨ZL, hZL⟩ : ∃ L, L = (List.replicate 32 (0 : UInt8)).map B8 := ⟨_, rfl⟩
  rw [← hZL] at hz
  have HZS : Hid (ZL.toArray.size = 32) := by show _ = _; rw [hZL]; simp
  have HZ1 : Hid (ZL.toArray.all (·.oneCell') = true) := by show _ = _; rw [hZL]; exact R5.B8_onea _
  clear hZL
  obtain ⟨X0, hE0⟩ : ∃ X, X = ((w.alloc (.cells (a.map B8).toArray 23 (0, 0))).alloc (.cells (b.map B8).toArray 23 (0, 0))).alloc (.cells ZL.toArray 23 (0, 0)) := ⟨_, rfl⟩
  have hX0 : Below w.heap.size w X0 := by rw [hE0]; exact (((Below.refl _ _).alloc (Nat.le_refl _) _).alloc (by simp) _).alloc (by simp; omega) _
  have hR0 : X0.heap[w.heap.size + 1 + 1]? = some (.cells ZL.toArray 23 (0, 0)) := by rw [hE0]; exact MC.heap_at _ _ _ (by simp)
  have HO : Hid (R5.PO B og mb S w o dv ov) := ho
  have HAS : Hid ((r.1.map B8).toArray.size = 32) := by show _ = _; simpa using hAl
  have HA1 : Hid _ := R5.B8_onea r.1
  have HDV : Hid (R5.dV r.1 = .agg (r.1.map B8).toArray) := rfl
  have hra : X0.heap[w.heap.size]? = some (.cells (a.map B8).toArray 23 (0, 0)) := by rw [hE0]; exact (heap_alloc_old _ _ (by simp; omega)).trans ((heap_alloc_old _ _ (by simp)).trans (heap_alloc_new _ _))
  have hrb : X0.heap[w.heap.size + 1]? = some (.cells (b.map B8).toArray 23 (0, 0)) := by rw [hE0]; exact (heap_alloc_old _ _ (by simp)).trans (MC.heap_at _ _ _ (by simp))
  have HOK : Hid (R5.okV r.1 = .tuple #[.agg (r.1.map B8).toArray, .int .i64 0]) := rfl
  have HN : Hid (Calls Try.prog 34 #[.pointer (some ⟨og, 0, none⟩)] X0 fun e w' => e = .returned (.bool false) ∧ Below X0.heap.size X0 w') := noOracle_no og mb X0 ((hX0.cell (block_lt ho.cells.2.2.2.1)).trans ho.cells.2.2.2.1)
  have HC : Hid (∀ W, Below w.heap.size w W → Calls Try.prog 32 #[.pointer (some ⟨og, 0, none⟩), .int .i64 (i : Int), .agg (a.map B8).toArray, .agg (b.map B8).toArray] W fun e w' => PR B og mb S W r.2 dv (R5.dV r.1) e w') := fun W hW => nodeOf_any B og mb S dv ov o i a b W r (by omega) ha hb (Nat.le_trans hB hW.size) hll (ho.below hW) hr
  rw [HDV.out] at HC
  rw [HOK.out]
  have HX0 : Hid (Below w.heap.size w X0) := hX0
  have HR0 : Hid (X0.heap[w.heap.size + 1 + 1]? = some (.cells ZL.toArray 23 (0, 0))) := hR0
  have HRA : Hid (X0.rangeAt w.heap.size 0 (a.map B8)) := MC.rangeAt_row hra
  have HRB : Hid (X0.rangeAt (w.heap.size + 1) 0 (b.map B8)) := MC.rangeAt_row hrb
  have HAI : Hid _ := R5.info32 (a.map B8) (by simpa using ha)
  have HBI : Hid _ := R5.info32 (b.map B8) (by simpa using hb)
  have HE0 : Hid (X0 = ((w.alloc (.cells (a.map B8).toArray 23 (0, 0))).alloc (.cells (b.map B8).toArray 23 (0, 0))).alloc (.cells ZL.toArray 23 (0, 0))) := hE0
  have hi1 : ¬ (i : Int) < 1 := by omega
  have hi2 : ¬ (128 : Int) ≤ (i : Int) := by omega
  generalize r.1.map B8 = AL at *
  generalize a.map B8 = LA at *
  generalize b.map B8 = LB at *
  rw [hE0] at HN
  clear hX0 hR0 hE0 ho hAl hr HDV HOK hra hrb ha hb h1 hi
  go_enter Try.func19, Try.ntmps19
  go_wp2_with fail
  refine Calls.mono HN.out ?_
  rintro e X1 ⟨rfl, hb1⟩
  rw [← HE0.out] at hb1
  have HBX : Hid (Below w.heap.size w X1) := HX0.out.trans (hb1.mono HX0.out.size)
  have HRX : Hid (X1.heap[w.heap.size + 1 + 1]? = some (.cells ZL.toArray 23 (0, 0))) := (hb1.block _ (MC.row_lt HR0.out)).trans HR0.out
  have HRA1 : Hid (X1.rangeAt w.heap.size 0 LA) := MC.rangeAt_below HRA.out hb1
  have HRB1 : Hid (X1.rangeAt (w.heap.size + 1) 0 LB) := MC.rangeAt_below HRB.out hb1
  clear hb1 HN HX0 HR0 HRA HRB
  go_wp2_with (first
    | (refine wpList_load_mid rfl 23 (.tmp 6) rfl w.heap.size 0 rfl LA _ HRA1.out Try.underlying23 rfl HAI.out ?_)
    | (refine wpList_load_mid rfl 23 (.tmp 7) rfl (w.heap.size + 1) 0 rfl LB _ HRB1.out Try.underlying23 rfl HBI.out ?_))
  refine Calls.mono (HC.out X1 HBX.out) ?_
  rintro e w3 hP
  have he : e = .returned (.agg AL.toArray) := hP.1
  subst he
  have HR3 : Hid (w3.heap[w.heap.size + 1 + 1]? = some (.cells ZL.toArray 23 (0, 0))) := pr_row HO.out (by omega) HRX.out hP
  have HEND : Hid (PR B og mb S w r.2 dv (.tuple #[.agg AL.toArray, .int .i64 0]) (.returned (.tuple #[.agg AL.toArray, .int .i64 0])) (w3.setRow (w.heap.size + 1 + 1) AL.toArray)) := pr_end HO.out hB HBX.out hP ((R5.Fr.refl _ _).setRow _ _ (.inl ⟨by omega, MC.row_lt HRX.out⟩))
  clear hP
  go_wp2_with (refine wpList_store_row rfl 23 _ _ rfl (w.heap.size + 1 + 1) AL.toArray rfl rfl 23 ZL.toArray HR3.out (R5.info32a _ HAS.out) (HZS.out.trans HAS.out.symm) HA1.out ?_)
  refine bodyPost_ret (v := (.tuple #[.agg AL.toArray, .int .i64 0])) ?_ rfl HEND.out
  exact R5.results_dig2 Try.results19 _ _ (w.heap.size + 1 + 1) 23 _ (0, 0) _ rfl rfl (setRow_heap _ _ _ _ _ _ HR3.out) (R5.info32a _ HAS.out)
end Go.Proofs.Ytnijjoankahddaa.DC
