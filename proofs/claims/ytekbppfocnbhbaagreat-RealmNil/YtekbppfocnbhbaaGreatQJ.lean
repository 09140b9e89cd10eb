/- Contracts of the program's Digest and Key. -/
import Derived.Test.YtekbppfocnbhbaaGreatQI
set_option linter.unusedVariables false
set_option linter.unusedSimpArgs false
namespace Go.Proofs.YtekbppfocnbhbaaGreat.R5
open scoped Classical
open Go.RowKit

set_option maxHeartbeats 4000000 in
set_option maxRecDepth 100000 in
theorem build_q3 (w : World) (a b : Int) (p : Option Addr) (n c : Nat) : (Instr.build 138 #[(0, .int .i64 a), (2, .int .i64 b), (3, .slice p n c)]).run Tryz.prog w = .ok (.agg (.int .i64 a :: ((List.replicate 32 (0 : UInt8)).map B8 ++ [.int .i64 b, .slice p n c])).toArray) w := by
  show _ = _
  kernel_rfl
set_option maxHeartbeats 4000000 in
set_option maxRecDepth 100000 in
theorem build_q4 (w : World) (a b : Int) (DL : List Value) (h2 : DL.length = 32) (p : Option Addr) (n c : Nat) : (Instr.build 138 #[(0, .int .i64 a), (1, .agg DL.toArray), (2, .int .i64 b), (3, .slice p n c)]).run Tryz.prog w = .ok (.agg (.int .i64 a :: (DL ++ [.int .i64 b, .slice p n c])).toArray) w := by
  iterate 32 (obtain ⟨_, _, e, g⟩ := cons_of h2; clear h2; subst e; have h2 := g; clear g)
  obtain rfl := List.eq_nil_of_length_eq_zero h2
  show _ = _
  kernel_rfl
/-- A store into a block of the call's own, behind what was done by another call. -/
theorem pend {B og mb : Nat} {S : Nat → Prop} {w w2 w3 : World} {o o' : Pra} {dv ov : Value} {b : Nat} (ho : PO B og mb S w o dv ov) (hB : B ≤ w.heap.size) (hb2 : Below w.heap.size w w2) (hb : w.heap.size ≤ b) (hb' : b < w2.heap.size) (hfr : Fr S w2 w3) (h : ∃ ov', PO B og mb (fun k => S k ∨ (w2.heap.size ≤ k ∧ k < w3.heap.size)) w3 o' dv ov') (N : Array Value) :
    Fr S w (w3.setRow b N) ∧ ∃ ov', PO B og mb (fun k => S k ∨ (w.heap.size ≤ k ∧ k < (w3.setRow b N).heap.size)) (w3.setRow b N) o' dv ov' := by
  obtain ⟨ov', hp⟩ := h
  exact pask_end ho hB hb2 hb hb' (A := []) (e := .returned (dV [])) ⟨rfl, hfr, ov', hp⟩ N

set_option maxHeartbeats 4000000 in
set_option maxRecDepth 100000 in
theorem pdig_gen (pz pv : Value) (d : Int) (ls : List (List UInt8)) (w : World) (R : World → Value → World → Prop) (hp : HP w pv ls) (hl : ls.length ≤ 1048576) (hr : ls.flatten.length ≤ 1099511627776)
    (hA : ∀ W v, Below w.heap.size w W → HB W v ls.flatten → Calls Tryz.prog 79 #[pz, .agg (qL ⟨1, List.replicate 32 0, d, ls.flatten⟩ v).toArray] W fun e w' => ∃ A n, A.length = 32 ∧ e = .returned (.tuple #[dV A, .int .i64 n]) ∧ R W (.tuple #[dV A, .int .i64 n]) w' ∧ (w.heap.size < W.heap.size → w'.heap[w.heap.size]? = W.heap[w.heap.size]?)) :
    Calls Tryz.prog 78 #[pz, .int .i64 d, pv] w fun e w' => ∃ W v w3 N, e = .returned v ∧ Below w.heap.size w W ∧ w.heap.size < W.heap.size ∧ R W v w3 ∧ w' = w3.setRow w.heap.size N := by
  have hzv := fun W => zero_dig W
  obtain ⟨ZL, hZL⟩ : ∃ L, L = (List.replicate 32 (0 : UInt8)).map B8 := ⟨_, rfl⟩
  rw [← hZL] at hzv
  have HZS : Hid (ZL.toArray.size = 32) := by show _ = _; rw [hZL]; simp
  have HZ1 : Hid (ZL.toArray.all (·.oneCell') = true) := by show _ = _; rw [hZL]; exact B8_onea _
  have HZL : Hid _ := hZL
  clear hZL
  have hb1 : Below w.heap.size w (w.alloc (.cells ZL.toArray 33 (0, 0))) := (Below.refl _ _).alloc (Nat.le_refl _) _
  have HR1 : Hid ((w.alloc (.cells ZL.toArray 33 (0, 0))).heap[w.heap.size]? = some (.cells ZL.toArray 33 (0, 0))) := heap_at _ _ _ rfl
  have HB1 : Hid _ := hb1
  have HJ : Hid (Calls Tryz.prog 80 #[pv] (w.alloc (.cells ZL.toArray 33 (0, 0))) fun e w' => ∃ v, e = .returned v ∧ FB (w.alloc (.cells ZL.toArray 33 (0, 0))).heap.size w' v ls.flatten ∧ Below (w.alloc (.cells ZL.toArray 33 (0, 0))).heap.size (w.alloc (.cells ZL.toArray 33 (0, 0))) w') := pjoin_any pv ls _ hl hr (hp_below hp hb1)
  have HA : Hid (∀ W v, Below w.heap.size w W → HB W v ls.flatten → Calls Tryz.prog 79 #[pz, .agg (qL ⟨1, List.replicate 32 0, d, ls.flatten⟩ v).toArray] W fun e w' => ∃ A n, A.length = 32 ∧ e = .returned (.tuple #[dV A, .int .i64 n]) ∧ R W (.tuple #[dV A, .int .i64 n]) w' ∧ (w.heap.size < W.heap.size → w'.heap[w.heap.size]? = W.heap[w.heap.size]?)) := hA
  clear hA hp hb1 hr
  generalize ls.flatten = l at *
  go_enter Tryz.func78, Tryz.ntmps78
  go_wp2_with fail
  refine Calls.mono HJ.out ?_
  rintro e w2 ⟨v2, rfl, hf2, hb2⟩
  obtain ⟨p2, c2, hv2, _, _⟩ := hb_cells hf2.hb
  subst hv2
  have hh2 := hf2.hb
  have HB2 : Hid (Below w.heap.size w w2) := HB1.out.trans (hb2.mono (by simp))
  have HR2 : Hid (w2.heap[w.heap.size]? = some (.cells ZL.toArray 33 (0, 0))) := (hb2.block _ (by simp)).trans HR1.out
  have hA2 := HA.out w2 _ HB2.out hh2
  clear hf2 hb2
  have hbk := fun W => build_q3 W 1 d p2 l.length c2
  have hqq : Value.int .i64 1 :: ((List.replicate 32 (0 : UInt8)).map B8 ++ [.int .i64 d, .slice p2 l.length c2]) = qL ⟨1, List.replicate 32 0, d, l⟩ (.slice p2 l.length c2) := rfl
  rw [hqq] at hbk
  generalize qL ⟨1, List.replicate 32 0, d, l⟩ (.slice p2 l.length c2) = QB at *
  clear hqq hh2
  have HBK : Hid _ := hbk
  have HA2 : Hid _ := hA2
  clear hbk hA2
  go_wp2_with (refine wpList_build rfl 138 _ rfl _ _ (by simp; exact ⟨rfl, rfl, rfl⟩) (HBK.out _) ?_)
  refine Calls.mono HA2.out ?_
  rintro e w3 ⟨A, n, hAl, rfl, hR, hk⟩
  have hs2 := row_lt HR2.out
  have HR3 : Hid (w3.heap[w.heap.size]? = some (.cells ZL.toArray 33 (0, 0))) := (hk hs2).trans HR2.out
  have hA : (A.map B8).toArray.size = 32 := by simpa using hAl
  have HAS : Hid _ := hA
  have HA1 : Hid _ := B8_onea A
  have HRR : Hid _ := hR
  clear hk hA hAl hR HA2
  unfold dV at *
  generalize (A.map B8).toArray = AA at *
  go_wp2_with (refine wpList_store_row rfl 33 _ _ rfl w.heap.size AA rfl rfl 33 ZL.toArray HR3.out (info32a _ HAS.out) (HZS.out.trans HAS.out.symm) HA1.out ?_)
  refine bodyPost_ret (v := .tuple #[.agg AA, .int .i64 n]) ?_ rfl ⟨w2, _, w3, AA, rfl, HB2.out, hs2, HRR.out, rfl⟩
  exact results_dig2 Tryz.results78 _ _ w.heap.size 33 _ (0, 0) _ rfl rfl (setRow_heap _ _ _ _ _ _ HR3.out) (info32a _ HAS.out)
end Go.Proofs.YtekbppfocnbhbaaGreat.R5
