/- blob: the oracle in either mode; is there one. -/
import Derived.Test.YtbmmibmfjhehhaaGreatWt
import Derived.Test.YtbmmibmfjhehhaaGreatWr
set_option linter.unusedVariables false
set_option linter.unusedSimpArgs false
namespace Go.Proofs.YtbmmibmfjhehhaaGreat.BC
open Go.RowKit

abbrev Lg := List (R5.Qn × List UInt8)
def frs (o : R5.Pra) (q : R5.Qn) : List UInt8 := if o.ideal then R5.drawD o.draws o.log.length else R5.compD q
def nxP (o : R5.Pra) (q : R5.Qn) : List UInt8 × R5.Pra := R5.pAsk o q (frs o q)
theorem frs_id {o : R5.Pra} (h : o.ideal = true) (q : R5.Qn) : frs o q = R5.drawD o.draws o.log.length := by unfold frs; rw [if_pos h]
theorem nxP_id {o : R5.Pra} (h : o.ideal = true) (q : R5.Qn) : nxP o q = R5.pAsk o q (R5.drawD o.draws o.log.length) := by unfold nxP; rw [frs_id h]
section
variable {B og mb : Nat} {S : Nat → Prop} {w w2 w3 w4 : World} {o o' : R5.Pra} {dv ov : Value}
def PR (B og mb : Nat) (S : Nat → Prop) (w : World) (o' : R5.Pra) (dv v : Value) (e : Ending) (w' : World) : Prop :=
  e = .returned v ∧ R5.Fr S w w' ∧ ∃ ov', R5.PO B og mb (fun k => S k ∨ (w.heap.size ≤ k ∧ k < w'.heap.size)) w' o' dv ov'
theorem pfin (ho : R5.PO B og mb S w o dv ov) (hB : B ≤ w.heap.size) (hb2 : Below w.heap.size w w2) (hfr : R5.Fr S w2 w3) (h : ∃ ov', R5.PO B og mb (fun k => S k ∨ (w2.heap.size ≤ k ∧ k < w3.heap.size)) w3 o' dv ov') (h4 : R5.Fr (fun k => w.heap.size ≤ k ∧ k < w2.heap.size) w3 w4) :
    R5.Fr S w w4 ∧ ∃ ov', R5.PO B og mb (fun k => S k ∨ (w.heap.size ≤ k ∧ k < w4.heap.size)) w4 o' dv ov' := by
  obtain ⟨ov', hp⟩ := h
  have hs2 := hb2.size
  have hs3 := hfr.size
  have hs4 := h4.size
  refine ⟨((R5.Fr.ofBelow hb2).trans hfr (fun k h => .inl h)).trans h4 (fun k h => .inr h.1), ov', ?_⟩
  refine R5.PO.more (hp.keep hs4 (fun k hk h => h4.block k hk (fun hx => ?_))) (fun k h => h.imp id (fun h => ⟨by omega, by omega⟩)) (fun k h => ?_) (fun k h => ?_)
  · rcases h with (h | h) | h
    · have := ho.top k h; omega
    · omega
    · have := (ho.dro k h).2; omega
  · rcases h with h | h
    · exact .inl (.inl h)
    · exact .inr (fun e => by have := (ho.dro k e).2; omega)
  · rcases h with h | h
    · exact ⟨ho.low k h, by have := ho.top k h; omega⟩
    · exact ⟨by omega, h.2⟩
theorem PR.ahead {v : Value} {e : Ending} (ho : R5.PO B og mb S w o dv ov) (hB : B ≤ w.heap.size) (hb2 : Below w.heap.size w w2) (h : PR B og mb S w2 o' dv v e w3) : PR B og mb S w o' dv v e w3 := by
  obtain ⟨h1, h2, h3⟩ := h
  obtain ⟨h4, h5⟩ := pfin ho hB hb2 h2 h3 (R5.Fr.refl _ _)
  exact ⟨h1, h4, h5⟩
end

theorem pr_end {B og mb : Nat} {S : Nat → Prop} {w w2 w3 w4 : World} {o o' : R5.Pra} {dv ov v v' : Value} {e : Ending} (ho : R5.PO B og mb S w o dv ov) (hB : B ≤ w.heap.size) (hb2 : Below w.heap.size w w2) (h : PR B og mb S w2 o' dv v e w3) (h4 : R5.Fr (fun k => w.heap.size ≤ k ∧ k < w2.heap.size) w3 w4) : PR B og mb S w o' dv v' (.returned v') w4 := by
  obtain ⟨_, h2, h3⟩ := h
  exact ⟨rfl, pfin ho hB hb2 h2 h3 h4⟩
theorem pr_row {B og mb : Nat} {S : Nat → Prop} {w w2 w3 : World} {o o' : R5.Pra} {dv ov v : Value} {e : Ending} {k : Nat} {obj : Obj} (ho : R5.PO B og mb S w o dv ov) (hk : w.heap.size ≤ k) (hr : w2.heap[k]? = some obj) (h : PR B og mb S w2 o' dv v e w3) : w3.heap[k]? = some obj :=
  (h.2.1.block _ (R5.row_lt hr) (fun hS => by have := ho.top _ hS; omega)).trans hr
def q0 : R5.Qn := ⟨0, List.replicate 32 0, 0, []⟩
theorem build_q0 (w : World) : (Instr.build 66 #[]).run Tryz.prog w = .ok (.agg (R5.qL q0 (.slice none 0 0)).toArray) w := by kernel_rfl
set_option maxHeartbeats 1000000 in
set_option maxRecDepth 100000 in
theorem noOracle_of (pv : Value) (c : Int) (w : World) (hA : Calls Tryz.prog 46 #[pv, .agg (R5.qL q0 (.slice none 0 0)).toArray] w fun e w' => e = .returned (R5.errV c) ∧ Below w.heap.size w w') :
    Calls Tryz.prog 62 #[pv] w fun e w' => e = .returned (.bool (c == 1)) ∧ Below w.heap.size w w' := by
  have hz := fun W => R5.zero_dig W
  obtain ⟨ZL, hZL⟩ : ∃ L, L = (List.replicate 32 (0 : UInt8)).map B8 := ⟨_, rfl⟩
  rw [← hZL] at hz
  have HZS : Hid (ZL.toArray.size = 32) := by show _ = _; rw [hZL]; simp
  have HZ1 : Hid (ZL.toArray.all (·.oneCell') = true) := by show _ = _; rw [hZL]; exact R5.B8_onea _
  have HBD : Hid (∀ W : World, (Instr.build 23 #[]).run Tryz.prog W = .ok (.agg ZL.toArray) W) := fun W => by rw [hZL]; exact R5.build_dig W
  have HEV : Hid (∀ c, R5.errV c = .tuple #[.agg ZL.toArray, .int .i64 c]) := fun c => by rw [hZL]; rfl
  have HBQ : Hid (∀ W : World, (Instr.build 66 #[]).run Tryz.prog W = .ok (.agg (R5.qL q0 (.slice none 0 0)).toArray) W) := build_q0
  rw [HEV.out] at hA
  generalize (R5.qL q0 (.slice none 0 0)).toArray = QA at *
  have HA : Hid (Calls Tryz.prog 46 #[pv, .agg QA] w fun e w' => e = .returned (.tuple #[.agg ZL.toArray, .int .i64 c]) ∧ Below w.heap.size w w') := hA
  clear hZL hA
  go_enter Tryz.func62, Tryz.ntmps62
  go_wp2_with (refine R5.wpList_build rfl 66 #[] rfl #[] (.agg QA) (by simp) (HBQ.out _) ?_)
  refine Calls.mono HA.out ?_
  rintro e w1 ⟨rfl, b1⟩
  have HB1 : Hid (Below w.heap.size w w1) := b1
  have HS1 : Hid (w.heap.size ≤ w1.heap.size) := b1.size
  have HR : Hid ((w1.alloc (.cells ZL.toArray 23 (0, 0))).heap[w1.heap.size]? = some (.cells ZL.toArray 23 (0, 0))) := heap_alloc_new _ _
  clear b1
  go_wp2_with (refine wpList_store_row rfl 23 _ _ rfl w1.heap.size ZL.toArray rfl rfl 23 ZL.toArray HR.out (R5.info32a _ HZS.out) rfl HZ1.out ?_)
  go_ret
  exact ⟨rfl, below_setRow (HB1.out.alloc HS1.out _) HS1.out _⟩
theorem noOracle_no (og mb : Nat) (w : World) (hc : w.cell? ⟨og, 35, none⟩ = some (.map (some mb))) : Calls Tryz.prog 62 #[.pointer (some ⟨og, 0, none⟩)] w fun e w' => e = .returned (.bool false) ∧ Below w.heap.size w w' :=
  noOracle_of _ 2 w (R5.pask_bad og mb _ q0 w hc (by simp [q0]) (by decide))
theorem noOracle_nil (w : World) : Calls Tryz.prog 62 #[.pointer none] w fun e w' => e = .returned (.bool true) ∧ Below w.heap.size w w' :=
  noOracle_of _ 1 w (R5.pask_none _ _ w (fun X _ => R5.none_nil X))
end Go.Proofs.YtbmmibmfjhehhaaGreat.BC
