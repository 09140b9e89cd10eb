/- Several texts in one. -/
import Derived.Test.YtefhjjjjbkkedaaGreatQI
import Derived.Lib.LazyBuf
set_option linter.unusedVariables false
set_option linter.unusedSimpArgs false
/- Contracts of the program's Digest and Key. -/
namespace Go.Proofs.YtefhjjjjbkkedaaGreat.R5
open scoped Classical
open Go.RowKit

set_option maxHeartbeats 4000000 in
set_option maxRecDepth 100000 in
theorem build_q3 (w : World) (a b : Int) (p : Option Addr) (n c : Nat) : (Instr.build 39 #[(0, .int .i64 a), (2, .int .i64 b), (3, .slice p n c)]).run Tryz.prog w = .ok (.agg (.int .i64 a :: ((List.replicate 32 (0 : UInt8)).map B8 ++ [.int .i64 b, .slice p n c])).toArray) w := by
  show _ = _
  kernel_rfl
set_option maxHeartbeats 4000000 in
set_option maxRecDepth 100000 in
theorem build_q4 (w : World) (a b : Int) (DL : List Value) (h2 : DL.length = 32) (p : Option Addr) (n c : Nat) : (Instr.build 39 #[(0, .int .i64 a), (1, .agg DL.toArray), (2, .int .i64 b), (3, .slice p n c)]).run Tryz.prog w = .ok (.agg (.int .i64 a :: (DL ++ [.int .i64 b, .slice p n c])).toArray) w := by
  iterate 32 (obtain ⟨_, _, e, g⟩ := cons_of h2; clear h2; subst e; have h2 := g; clear g)
  obtain rfl := List.eq_nil_of_length_eq_zero h2
  show _ = _
  kernel_rfl
/-- A store into a block of the call's own, behind what was done by another call. -/
theorem pend {B og mb : Nat} {S : Nat → Prop} {w w2 w3 : World} {o o' : Pra} {dv ov : Value} {b : Nat} (ho : PO B og mb S w o dv ov) (hB : B ≤ w.heap.size) (hb2 : Below w.heap.size w w2) (hb : w.heap.size ≤ b) (hb' : b < w2.heap.size) (hfr : Fr S w2 w3) (h : ∃ ov', PO B og mb (fun k => S k ∨ (w2.heap.size ≤ k ∧ k < w3.heap.size)) w3 o' dv ov') (N : Array Value) :
    Fr S w (w3.setRow b N) ∧ ∃ ov', PO B og mb (fun k => S k ∨ (w.heap.size ≤ k ∧ k < (w3.setRow b N).heap.size)) (w3.setRow b N) o' dv ov' := by
  obtain ⟨ov', hp⟩ := h
  exact pask_end ho hB hb2 hb hb' (A := []) (e := .returned (dV [])) ⟨rfl, hfr, ov', hp⟩ N

set_option maxHeartbeats 4000000 in
set_option maxRecDepth 100000 in
theorem pdig_gen (pz pv : Value) (d : Int) (ls : List (List UInt8)) (w : World) (R : World → Value → World → Prop) (hp : HP w pv ls) (hl : ls.length ≤ 1048576) (hr : ls.flatten.length ≤ 1099511627776)
    (hA : ∀ W v, Below w.heap.size w W → HB W v ls.flatten → Calls Tryz.prog 13 #[pz, .agg (qL ⟨1, List.replicate 32 0, d, ls.flatten⟩ v).toArray] W fun e w' => ∃ A n, A.length = 32 ∧ e = .returned (.tuple #[dV A, .int .i64 n]) ∧ R W (.tuple #[dV A, .int .i64 n]) w' ∧ (w.heap.size < W.heap.size → w'.heap[w.heap.size]? = W.heap[w.heap.size]?)) :
    Calls Tryz.prog 17 #[pz, .int .i64 d, pv] w fun e w' => ∃ W v w3 N, e = .returned v ∧ Below w.heap.size w W ∧ w.heap.size < W.heap.size ∧ R W v w3 ∧ w' = w3.setRow w.heap.size N := by
  have hzv := fun W => zero_dig W
  obtain ⟨ZL, hZL⟩ : ∃ L, L = (List.replicate 32 (0 : UInt8)).map B8 := ⟨_, rfl⟩
  rw [← hZL] at hzv
  have HZS : Hid (ZL.toArray.size = 32) := by show _ = _; rw [hZL]; simp
  have HZ1 : Hid (ZL.toArray.all (·.oneCell') = true) := by show _ = _; rw [hZL]; exact B8_onea _
  have HZL : Hid _ := hZL
  clear hZL
  have hb1 : Below w.heap.size w (w.alloc (.cells ZL.toArray 29 (0, 0))) := (Below.refl _ _).alloc (Nat.le_refl _) _
  have HR1 : Hid ((w.alloc (.cells ZL.toArray 29 (0, 0))).heap[w.heap.size]? = some (.cells ZL.toArray 29 (0, 0))) := heap_at _ _ _ rfl
  have HB1 : Hid _ := hb1
  have HJ : Hid (Calls Tryz.prog 38 #[pv] (w.alloc (.cells ZL.toArray 29 (0, 0))) fun e w' => ∃ v, e = .returned v ∧ FB (w.alloc (.cells ZL.toArray 29 (0, 0))).heap.size w' v ls.flatten ∧ Below (w.alloc (.cells ZL.toArray 29 (0, 0))).heap.size (w.alloc (.cells ZL.toArray 29 (0, 0))) w') := pjoin_any pv ls _ hl hr (hp_below hp hb1)
  have HA : Hid (∀ W v, Below w.heap.size w W → HB W v ls.flatten → Calls Tryz.prog 13 #[pz, .agg (qL ⟨1, List.replicate 32 0, d, ls.flatten⟩ v).toArray] W fun e w' => ∃ A n, A.length = 32 ∧ e = .returned (.tuple #[dV A, .int .i64 n]) ∧ R W (.tuple #[dV A, .int .i64 n]) w' ∧ (w.heap.size < W.heap.size → w'.heap[w.heap.size]? = W.heap[w.heap.size]?)) := hA
  clear hA hp hb1 hr
  generalize ls.flatten = l at *
  go_enter Tryz.func17, Tryz.ntmps17
  go_wp2_with fail
  refine Calls.mono HJ.out ?_
  rintro e w2 ⟨v2, rfl, hf2, hb2⟩
  obtain ⟨p2, c2, hv2, _, _⟩ := hb_cells hf2.hb
  subst hv2
  have hh2 := hf2.hb
  have HB2 : Hid (Below w.heap.size w w2) := HB1.out.trans (hb2.mono (by simp))
  have HR2 : Hid (w2.heap[w.heap.size]? = some (.cells ZL.toArray 29 (0, 0))) := (hb2.block _ (by simp)).trans HR1.out
  have hA2 := HA.out w2 _ HB2.out hh2
  clear hf2 hb2
  have hbk := fun W => build_q3 W 1 d p2 l.length c2
  have hqq : Value.int .i64 1 :: ((List.replicate 32 (0 : UInt8)).map B8 ++ [.int .i64 d, .slice p2 l.length c2]) = qL ⟨1, List.replicate 32 0, d, l⟩ (.slice p2 l.length c2) := rfl
  rw [hqq] at hbk
  generalize qL ⟨1, List.replicate 32 0, d, l⟩ (.slice p2 l.length c2) = QB at *
  clear hqq hh2
  have HBK : Hid _ := hbk
  have HA2 : Hid _ := hA2
  clear hbk hA2
  go_wp2_with (refine wpList_build rfl 39 _ rfl _ _ (by simp; exact ⟨rfl, rfl, rfl⟩) (HBK.out _) ?_)
  refine Calls.mono HA2.out ?_
  rintro e w3 ⟨A, n, hAl, rfl, hR, hk⟩
  have hs2 := row_lt HR2.out
  have HR3 : Hid (w3.heap[w.heap.size]? = some (.cells ZL.toArray 29 (0, 0))) := (hk hs2).trans HR2.out
  have hA : (A.map B8).toArray.size = 32 := by simpa using hAl
  have HAS : Hid _ := hA
  have HA1 : Hid _ := B8_onea A
  have HRR : Hid _ := hR
  clear hk hA hAl hR HA2
  unfold dV at *
  generalize (A.map B8).toArray = AA at *
  go_wp2_with (refine wpList_store_row rfl 29 _ _ rfl w.heap.size AA rfl rfl 29 ZL.toArray HR3.out (info32a _ HAS.out) (HZS.out.trans HAS.out.symm) HA1.out ?_)
  refine bodyPost_ret (v := .tuple #[.agg AA, .int .i64 n]) ?_ rfl ⟨w2, _, w3, AA, rfl, HB2.out, hs2, HRR.out, rfl⟩
  exact results_dig2 Tryz.results17 _ _ w.heap.size 29 _ (0, 0) _ rfl rfl (setRow_heap _ _ _ _ _ _ HR3.out) (info32a _ HAS.out)
end Go.Proofs.YtefhjjjjbkkedaaGreat.R5

/- Contracts of the program's Digest and Key, put together. -/
namespace Go.Proofs.YtefhjjjjbkkedaaGreat.R5
open scoped Classical
open Go.RowKit

/-- Digest, where Ask answers. -/
theorem pdig_ok (B og mb : Nat) (S : Nat → Prop) (pv dv ov : Value) (o : Pra) (d : Int) (ls : List (List UInt8)) (r : List UInt8 × Pra) (w : World) (hB : B ≤ w.heap.size) (ho : PO B og mb S w o dv ov) (hp : HP w pv ls) (hl : ls.length ≤ 1048576) (hr : ls.flatten.length ≤ 1099511627776) (hrl : r.1.length = 32)
    (hA : ∀ W v, Below w.heap.size w W → HB W v ls.flatten → Calls Tryz.prog 13 #[.pointer (some ⟨og, 0, none⟩), .agg (qL ⟨1, List.replicate 32 0, d, ls.flatten⟩ v).toArray] W fun e w' => PAsk B og mb S W r dv e w') :
    Calls Tryz.prog 17 #[.pointer (some ⟨og, 0, none⟩), .int .i64 d, pv] w fun e w' => PAsk B og mb S w r dv e w' := by
  refine (pdig_gen (.pointer (some ⟨og, 0, none⟩)) pv d ls w (fun W v w3 => v = okV r.1 ∧ Fr S W w3 ∧ ∃ ov', PO B og mb (fun k => S k ∨ (W.heap.size ≤ k ∧ k < w3.heap.size)) w3 r.2 dv ov') hp hl hr (fun W v hb hv => (hA W v hb hv).mono ?_)).mono ?_
  · rintro e w' ⟨rfl, hfr, hpo⟩
    exact ⟨r.1, 0, hrl, rfl, ⟨rfl, hfr, hpo⟩, fun hs => hfr.block _ hs (fun h => by have := ho.top _ h; omega)⟩
  · rintro e w' ⟨W, v, w3, N, rfl, hb, hs, ⟨rfl, hfr, hpo⟩, rfl⟩
    obtain ⟨h1, h2⟩ := pend ho hB hb (Nat.le_refl _) hs hfr hpo N
    exact ⟨rfl, h1, h2⟩
/-- .. where Ask refuses. -/
theorem pdig_err (pz pv : Value) (d : Int) (ls : List (List UInt8)) (n : Int) (w : World) (hp : HP w pv ls) (hl : ls.length ≤ 1048576) (hr : ls.flatten.length ≤ 1099511627776)
    (hA : ∀ W v, Below w.heap.size w W → HB W v ls.flatten → Calls Tryz.prog 13 #[pz, .agg (qL ⟨1, List.replicate 32 0, d, ls.flatten⟩ v).toArray] W fun e w' => e = .returned (errV n) ∧ Below W.heap.size W w') :
    Calls Tryz.prog 17 #[pz, .int .i64 d, pv] w fun e w' => e = .returned (errV n) ∧ Below w.heap.size w w' := by
  refine (pdig_gen pz pv d ls w (fun W v w3 => v = errV n ∧ Below W.heap.size W w3) hp hl hr (fun W v hb hv => (hA W v hb hv).mono ?_)).mono ?_
  · rintro e w' ⟨rfl, hb'⟩
    exact ⟨List.replicate 32 0, n, by simp, rfl, ⟨rfl, hb'⟩, fun hs => hb'.block _ hs⟩
  · rintro e w' ⟨W, v, w3, N, rfl, hb, hs, ⟨rfl, hb3⟩, rfl⟩
    exact ⟨rfl, below_setRow (hb.trans (hb3.mono hb.size)) (Nat.le_refl _) _⟩

set_option maxHeartbeats 4000000 in
set_option maxRecDepth 100000 in
theorem pkey_none (pz pv : Value) (d : Int) (w : World) (hn : ∀ X, Below w.heap.size w X → Calls Tryz.prog 25 #[pz] X fun e w' => e = .returned (.bool true) ∧ w' = X) :
    Calls Tryz.prog 24 #[pz, .int .i64 d, pv] w fun e w' => e = .returned (errV 1) ∧ Below w.heap.size w w' := by
  have hzv := fun W => zero_dig W
  have hbd := fun W => build_dig W
  obtain ⟨ZL, hZL⟩ : ∃ L, L = (List.replicate 32 (0 : UInt8)).map B8 := ⟨_, rfl⟩
  have HZV : Hid (dV (List.replicate 32 0) = .agg ZL.toArray) := by show _ = _; rw [hZL]; rfl
  rw [← hZL] at hzv hbd
  have HZS : Hid (ZL.toArray.size = 32) := by show _ = _; rw [hZL]; simp
  have HZ1 : Hid (ZL.toArray.all (·.oneCell') = true) := by show _ = _; rw [hZL]; exact B8_onea _
  clear hZL
  have hb1 : Below w.heap.size w (w.alloc (.cells ZL.toArray 29 (0, 0))) := (Below.refl _ _).alloc (Nat.le_refl _) _
  have HR1 : Hid ((w.alloc (.cells ZL.toArray 29 (0, 0))).heap[w.heap.size]? = some (.cells ZL.toArray 29 (0, 0))) := heap_at _ _ _ rfl
  have HB1 : Hid _ := hb1
  have hnn := hn _ hb1
  have HNN : Hid _ := hnn
  clear hn hnn hb1
  go_enter Tryz.func24, Tryz.ntmps24
  go_wp2_with (first
    | (go_at_call 25; refine Calls.mono HNN.out ?_; rintro e w1 ⟨rfl, rfl⟩)
    | (refine wpList_store_row rfl 29 _ _ rfl w.heap.size ZL.toArray rfl rfl 29 ZL.toArray HR1.out (info32a _ HZS.out) rfl HZ1.out ?_))
  refine bodyPost_ret (v := .tuple #[.agg ZL.toArray, .int .i64 1]) ?_ rfl ⟨by unfold errV; rw [HZV.out], below_setRow HB1.out (by omega) _⟩
  exact results_dig2 Tryz.results24 _ _ w.heap.size 29 _ (0, 0) _ rfl rfl (setRow_heap _ _ _ _ _ _ HR1.out) (info32a _ HZS.out)
/-- While Key runs. -/
structure SKy (og b : Nat) (ML : List Value) (X : World) : Prop where
  m : X.rangeAt og 1 ML
  z : ∃ Z, Z.size = 32 ∧ X.heap[b]? = some (.cells Z 29 (0, 0))
theorem exec_build4 (ev : Operand → Value) (o : Oper) (t : TypeId) (parts : Array (Nat × Operand)) (vals : Array (Nat × Value)) (v : Value) (w : World) (ho : o.op = .build t parts) (hp : (parts.map fun (i, x) => (i, ev x)) = vals) (h : (Instr.build t vals).run Tryz.prog w = .ok v w) :
    (execOp ev o).run Tryz.prog w = .ok (.value v) w := exec_build ev o t parts vals v w ho hp h
set_option maxHeartbeats 4000000 in
set_option maxRecDepth 100000 in
theorem pkey_gen (og mb : Nat) (pv : Value) (m : List UInt8) (d : Int) (ls : List (List UInt8)) (w : World) (R : World → Value → World → Prop) (hc : w.cell? ⟨og, 35, none⟩ = some (.map (some mb))) (hm : w.rangeAt og 1 (m.map B8)) (hml : m.length = 32) (hp : HP w pv ls) (hl : ls.length ≤ 1048576) (hr : ls.flatten.length ≤ 1099511627776)
    (hA : ∀ W v, Below w.heap.size w W → HB W v ls.flatten → Calls Tryz.prog 13 #[.pointer (some ⟨og, 0, none⟩), .agg (qL ⟨3, m, d, ls.flatten⟩ v).toArray] W fun e w' => ∃ A n, A.length = 32 ∧ e = .returned (.tuple #[dV A, .int .i64 n]) ∧ R W (.tuple #[dV A, .int .i64 n]) w' ∧ (w.heap.size < W.heap.size → w'.heap[w.heap.size]? = W.heap[w.heap.size]?) ∧ w'.rangeAt og 1 (m.map B8)) :
    Calls Tryz.prog 24 #[.pointer (some ⟨og, 0, none⟩), .int .i64 d, pv] w fun e w' => ∃ W v w3 N, e = .returned v ∧ Below w.heap.size w W ∧ w.heap.size < W.heap.size ∧ R W v w3 ∧ w' = w3.setRow w.heap.size N := by
  have hzv := fun W => zero_dig W
  have hbd := fun W => build_dig W
  obtain ⟨ZL, hZL⟩ : ∃ L, L = (List.replicate 32 (0 : UInt8)).map B8 := ⟨_, rfl⟩
  have HZV : Hid (dV (List.replicate 32 0) = .agg ZL.toArray) := by show _ = _; rw [hZL]; rfl
  rw [← hZL] at hzv hbd
  have HZS : Hid (ZL.toArray.size = 32) := by show _ = _; rw [hZL]; simp
  have HZ1 : Hid (ZL.toArray.all (·.oneCell') = true) := by show _ = _; rw [hZL]; exact B8_onea _
  clear hZL
  have hb1 : Below w.heap.size w (w.alloc (.cells ZL.toArray 29 (0, 0))) := (Below.refl _ _).alloc (Nat.le_refl _) _
  have HR1 : Hid ((w.alloc (.cells ZL.toArray 29 (0, 0))).heap[w.heap.size]? = some (.cells ZL.toArray 29 (0, 0))) := heap_at _ _ _ rfl
  have HB1 : Hid _ := hb1
  have hog := block_lt hc
  simp only at hog
  have HJ : Hid (∀ X, Below w.heap.size w X → Calls Tryz.prog 38 #[pv] X fun e w' => ∃ v, e = .returned v ∧ FB X.heap.size w' v ls.flatten ∧ Below X.heap.size X w') := fun X hb => pjoin_any pv ls _ hl hr (hp_below hp hb)
  have HA : Hid (∀ W v, Below w.heap.size w W → HB W v ls.flatten → Calls Tryz.prog 13 #[.pointer (some ⟨og, 0, none⟩), .agg (qL ⟨3, m, d, ls.flatten⟩ v).toArray] W fun e w' => ∃ A n, A.length = 32 ∧ e = .returned (.tuple #[dV A, .int .i64 n]) ∧ R W (.tuple #[dV A, .int .i64 n]) w' ∧ (w.heap.size < W.heap.size → w'.heap[w.heap.size]? = W.heap[w.heap.size]?) ∧ w'.rangeAt og 1 (m.map B8)) := hA
  have HNN : Hid _ := none_no og mb _ ((hb1.cell (show (⟨og, 35, none⟩ : Addr).block < w.heap.size from hog)).trans hc)
  have HML : Hid ((m.map B8).length = 32) := by show _ = _; simpa using hml
  have HMI : Hid _ := info32 (m.map B8) HML.out
  have HSK : Hid (SKy og w.heap.size (m.map B8) (w.alloc (.cells ZL.toArray 29 (0, 0))).drew) := ⟨rangeAt_below hm (hb1.drew), _, HZS.out, HR1.out⟩
  have HBD : Hid (Below w.heap.size w (w.alloc (.cells ZL.toArray 29 (0, 0))).drew) := hb1.drew
  have HSD : Hid (w.heap.size < (w.alloc (.cells ZL.toArray 29 (0, 0))).drew.heap.size) := by show _ < _; exact row_lt HR1.out
  clear hA hp hb1 hr hc hm
  generalize ls.flatten = l at *
  go_enter Tryz.func24, Tryz.ntmps24
  go_wp2_with (go_at_call 25; refine Calls.mono HNN.out ?_; rintro e w1 ⟨rfl, rfl⟩)
  refine wp_region_held_drew (S := SKy og w.heap.size (m.map B8)) (by kernel_rfl) HSK.out (fun hHeld => ?_)
  generalize (w.alloc (.cells ZL.toArray 29 (0, 0))).drew = W1 at *
  refine wpAnyH_take (i := 0) (oi := { dst := some 11, op := Go.Op.move (Go.Operand.tmp 0), type := 26, pos := _, after := #[], guard := none }) (v := .pointer (some ⟨og, 0, none⟩)) rfl (by kernel_rfl) (by kernel_rfl) (by kernel_rfl) (fun _ _ _ h => h) (Or.inl ⟨by rfl, fun w' hw' => ?_⟩) hHeld ?_
  · first | (go_simp; done) | (go_simp; rfl)
  try simp only [Act.put, List.setIfInBounds_toArray, List.set_cons_zero, List.set_cons_succ]
  refine wpAnyH_take (i := 1) (oi := { dst := some 12, op := Go.Op.move (Go.Operand.tmp 0), type := 26, pos := _, after := #[], guard := none }) (v := .pointer (some ⟨og, 0, none⟩)) rfl (by kernel_rfl) (by kernel_rfl) (by kernel_rfl) (fun _ _ _ h => h) (Or.inl ⟨by rfl, fun w' hw' => ?_⟩) hHeld ?_
  · first | (go_simp; done) | (go_simp; rfl)
  try simp only [Act.put, List.setIfInBounds_toArray, List.set_cons_zero, List.set_cons_succ]
  refine wpAnyH_take (i := 2) (oi := { dst := some 13, op := Go.Op.nilCheck (Go.Operand.tmp 12), type := 0, pos := _, after := #[{ on := 1, ground := Go.Ground.data }], guard := none }) (v := .pointer (some ⟨og, 0, none⟩)) rfl (by kernel_rfl) (by kernel_rfl) (by kernel_rfl) (fun _ _ _ h => h) (Or.inl ⟨by rfl, fun w' hw' => ?_⟩) hHeld ?_
  · first | (go_simp; done) | (go_simp; rfl)
  try simp only [Act.put, List.setIfInBounds_toArray, List.set_cons_zero, List.set_cons_succ]
  refine wpAnyH_take (i := 3) (oi := { dst := some 14, op := Go.Op.fieldAddr 67 (Go.Operand.tmp 13) 1, type := 0, pos := _, after := #[{ on := 2, ground := Go.Ground.data }], guard := none }) (v := .pointer (some ⟨og, 1, none⟩)) rfl (by kernel_rfl) (by kernel_rfl) (by kernel_rfl) (fun _ _ _ h => h) (Or.inl ⟨by rfl, fun w' hw' => ?_⟩) hHeld ?_
  · first | (go_simp; done) | (go_simp; rfl)
  try simp only [Act.put, List.setIfInBounds_toArray, List.set_cons_zero, List.set_cons_succ]
  refine wpAnyH_take (i := 4) (oi := { dst := some 15, op := Go.Op.load 29 (Go.Operand.tmp 14), type := 29, pos := _, after := #[{ on := 3, ground := Go.Ground.data }], guard := none }) rfl (by kernel_rfl) (by kernel_rfl) (by kernel_rfl) (fun _ _ _ h => h) (yieldsIf_load_mid (by rfl) 29 (.tmp 14) rfl (og) (1) rfl (m.map B8) _ (fun _ h => h.m) Tryz.underlying29 rfl HMI.out) hHeld ?_
  try simp only [Act.put, List.setIfInBounds_toArray, List.set_cons_zero, List.set_cons_succ]
  refine wpAnyH_take (i := 5) (oi := { dst := some 16, op := Go.Op.move (Go.Operand.tmp 1), type := 36, pos := _, after := #[], guard := none }) (v := .int .i64 d) rfl (by kernel_rfl) (by kernel_rfl) (by kernel_rfl) (fun _ _ _ h => h) (Or.inl ⟨by rfl, fun w' hw' => ?_⟩) hHeld ?_
  · first | (go_simp; done) | (go_simp; rfl)
  try simp only [Act.put, List.setIfInBounds_toArray, List.set_cons_zero, List.set_cons_succ]
  refine wpAnyH_take (i := 6) (oi := { dst := some 17, op := Go.Op.move (Go.Operand.tmp 2), type := 83, pos := _, after := #[], guard := none }) (v := pv) rfl (by kernel_rfl) (by kernel_rfl) (by kernel_rfl) (fun _ _ _ h => h) (Or.inl ⟨by rfl, fun w' hw' => ?_⟩) hHeld ?_
  · first | (go_simp; done) | (go_simp; rfl)
  try simp only [Act.put, List.setIfInBounds_toArray, List.set_cons_zero, List.set_cons_succ]
  refine wpAnyH_ready (rs := [7]) (by kernel_rfl) (by simp) ?_
  refine AllReadyH.cons (o := { dst := some 18, op := Go.Op.call { callee := Go.Callee.value (Go.Operand.func 38), args := #[Go.Operand.tmp 17], argTypes := #[83] }, type := 37, pos := _, after := #[{ on := 6, ground := Go.Ground.data }], guard := none }) rfl (fun K hK => ?_) AllReadyH.nil
  rw [if_pos (by rfl)]
  go_wp2_with fail
  refine Calls.mono (HJ.out W1 HBD.out) ?_
  rintro e w2 ⟨v2, rfl, hf2, hb2⟩
  obtain ⟨p2, c2, hv2, _, _⟩ := hb_cells hf2.hb
  subst hv2
  have hh2 := hf2.hb
  have hs1 := HSD.out
  have HB2 : Hid (Below w.heap.size w w2) := HBD.out.trans (hb2.mono (by omega))
  have hHeld2 : SKy og w.heap.size (m.map B8) w2 := (by obtain ⟨Z, hz1, hz2⟩ := hHeld.z; exact ⟨rangeAt_below hHeld.m hb2, Z, hz1, (hb2.block _ hs1).trans hz2⟩)
  have hA2 := HA.out w2 _ HB2.out hh2
  have hbk := fun W => build_q4 W 3 d (m.map B8) HML.out p2 l.length c2
  have hqq : Value.int .i64 3 :: (m.map B8 ++ [.int .i64 d, .slice p2 l.length c2]) = qL ⟨3, m, d, l⟩ (.slice p2 l.length c2) := rfl
  rw [hqq] at hbk
  generalize qL ⟨3, m, d, l⟩ (.slice p2 l.length c2) = QB at *
  have HBK : Hid _ := hbk
  have HA2 : Hid _ := hA2
  clear hqq hh2 hbk hA2 hf2 hb2 hHeld
  refine hK.out _ _ hHeld2 (fun _ => ?_)
  clear hK K
  try simp only [Act.put, List.setIfInBounds_toArray, List.set_cons_zero, List.set_cons_succ]
  have hHeld := hHeld2
  refine wpAnyH_take (i := 8) (oi := { dst := some 19, op := Go.Op.build 39 #[(0, Go.Operand.const (Go.Value.int Go.IntKind.i64 3)), (1, Go.Operand.tmp 15), (2, Go.Operand.tmp 16), (3, Go.Operand.tmp 18)], type := 39, pos := _, after := #[{ on := 4, ground := Go.Ground.data }, { on := 5, ground := Go.Ground.data }, { on := 7, ground := Go.Ground.data }], guard := none }) (v := .agg QB.toArray) rfl (by kernel_rfl) (by kernel_rfl) (by kernel_rfl) (fun _ _ _ h => h) (Or.inl ⟨by rfl, fun w' hw' => ?_⟩) hHeld ?_
  · exact exec_build _ _ 39 _ _ _ w' rfl (by simp; exact ⟨rfl, rfl, rfl, rfl⟩) (HBK.out w')
  try simp only [Act.put, List.setIfInBounds_toArray, List.set_cons_zero, List.set_cons_succ]
  refine wpAnyH_ready (rs := [9]) (by kernel_rfl) (by simp) ?_
  refine AllReadyH.cons (o := { dst := some 20, op := Go.Op.call { callee := Go.Callee.value (Go.Operand.func 13), args := #[Go.Operand.tmp 11, Go.Operand.tmp 19], argTypes := #[26, 39] }, type := 49, pos := _, after := #[{ on := 0, ground := Go.Ground.data }, { on := 8, ground := Go.Ground.data }, { on := 7, ground := Go.Ground.chain }], guard := none }) rfl (fun K hK => ?_) AllReadyH.nil
  rw [if_pos (by rfl)]
  go_wp2_with fail
  refine Calls.mono HA2.out ?_
  rintro e w3 ⟨A, n, hAl, rfl, hR, hk, hmm⟩
  have hs2 : w.heap.size < w2.heap.size := by obtain ⟨Z, hz1, hz2⟩ := hHeld2.z; exact row_lt hz2
  have hHeld3 : SKy og w.heap.size (m.map B8) w3 := (by obtain ⟨Z, hz1, hz2⟩ := hHeld2.z; exact ⟨hmm, Z, hz1, (hk hs2).trans hz2⟩)
  have hA : (A.map B8).toArray.size = 32 := by simpa using hAl
  have HAS : Hid _ := hA
  have HA1 : Hid _ := B8_onea A
  have HRR : Hid _ := hR
  clear hk hA hAl hR HA2 hmm hHeld
  unfold dV at *
  generalize (A.map B8).toArray = AA at *
  refine hK.out _ _ hHeld3 (fun _ => ?_)
  clear hK K
  try simp only [Act.put, List.setIfInBounds_toArray, List.set_cons_zero, List.set_cons_succ]
  have hHeld := hHeld3
  refine wpAnyH_take (i := 10) (oi := { dst := some 21, op := Go.Op.extract (Go.Operand.tmp 20) 0, type := 29, pos := _, after := #[{ on := 9, ground := Go.Ground.data }], guard := none }) (v := .agg AA) rfl (by kernel_rfl) (by kernel_rfl) (by kernel_rfl) (fun _ _ _ h => h) (Or.inl ⟨by rfl, fun w' hw' => ?_⟩) hHeld ?_
  · first | (go_simp; done) | (go_simp; rfl)
  try simp only [Act.put, List.setIfInBounds_toArray, List.set_cons_zero, List.set_cons_succ]
  refine wpAnyH_take (i := 11) (oi := { dst := some 22, op := Go.Op.extract (Go.Operand.tmp 20) 1, type := 48, pos := _, after := #[{ on := 9, ground := Go.Ground.data }], guard := none }) (v := .int .i64 n) rfl (by kernel_rfl) (by kernel_rfl) (by kernel_rfl) (fun _ _ _ h => h) (Or.inl ⟨by rfl, fun w' hw' => ?_⟩) hHeld ?_
  · first | (go_simp; done) | (go_simp; rfl)
  try simp only [Act.put, List.setIfInBounds_toArray, List.set_cons_zero, List.set_cons_succ]
  refine wpAnyH_ready (rs := [12]) (by kernel_rfl) (by simp) ?_
  refine AllReadyH.cons (o := { dst := none, op := Go.Op.store 29 (Go.Operand.tmp 6) (Go.Operand.tmp 21), type := 0, pos := _, after := #[{ on := 10, ground := Go.Ground.data }, { on := 9, ground := Go.Ground.chain }, { on := 0, ground := Go.Ground.phase }, { on := 1, ground := Go.Ground.phase }, { on := 2, ground := Go.Ground.phase }, { on := 3, ground := Go.Ground.phase }, { on := 4, ground := Go.Ground.phase }, { on := 5, ground := Go.Ground.phase }, { on := 6, ground := Go.Ground.phase }, { on := 7, ground := Go.Ground.phase }, { on := 8, ground := Go.Ground.phase }, { on := 9, ground := Go.Ground.phase }, { on := 10, ground := Go.Ground.phase }, { on := 11, ground := Go.Ground.phase }], guard := none }) rfl (fun K hK => ?_) AllReadyH.nil
  rw [if_pos (by rfl)]
  obtain ⟨Z3, hz3, hr3⟩ := hHeld3.z
  refine wp_store_row 29 _ _ rfl w.heap.size AA rfl rfl 29 _ hr3 (info32a _ HAS.out) (hz3.trans HAS.out.symm) HA1.out ?_
  have hr4 := setRow_heap _ _ _ AA _ _ hr3
  have hogn : og ≠ w.heap.size := by omega
  have hHeld4 : SKy og w.heap.size (m.map B8) (w3.setRow w.heap.size AA) := ⟨fun j v hv => (World.cell?_of_block (a := ⟨og, 1 + j, none⟩) (setRow_other _ _ _ _ hogn)).trans (hHeld3.m j v hv), AA, HAS.out, hr4⟩
  refine hK.out _ _ hHeld4 (fun _ => ?_)
  clear hK K
  try simp only [Act.put, List.setIfInBounds_toArray, List.set_cons_zero, List.set_cons_succ]
  have hHeld := hHeld4
  refine wpAnyH_ready (rs := [13]) (by kernel_rfl) (by simp) ?_
  refine AllReadyH.cons (o := { dst := some 7, op := Go.Op.assign (Go.Operand.tmp 22), type := 48, pos := _, after := #[{ on := 11, ground := Go.Ground.data }, { on := 12, ground := Go.Ground.chain }, { on := 0, ground := Go.Ground.phase }, { on := 1, ground := Go.Ground.phase }, { on := 2, ground := Go.Ground.phase }, { on := 3, ground := Go.Ground.phase }, { on := 4, ground := Go.Ground.phase }, { on := 5, ground := Go.Ground.phase }, { on := 6, ground := Go.Ground.phase }, { on := 7, ground := Go.Ground.phase }, { on := 8, ground := Go.Ground.phase }, { on := 9, ground := Go.Ground.phase }, { on := 10, ground := Go.Ground.phase }, { on := 11, ground := Go.Ground.phase }, { on := 12, ground := Go.Ground.phase }], guard := none }) rfl (fun K hK => ?_) AllReadyH.nil
  rw [if_pos (by rfl)]
  go_wp2_with fail
  refine hK.out _ _ hHeld4 (fun _ => ?_)
  clear hK K
  try simp only [Act.put, List.setIfInBounds_toArray, List.set_cons_zero, List.set_cons_succ]
  refine wpAnyH_done (by kernel_rfl) ?_ _
  have HR4 : Hid _ := hr4
  clear hHeld hHeld2 hHeld3 hHeld4 hr3 hz3 hr4
  go_wp2
  refine bodyPost_ret (v := .tuple #[.agg AA, .int .i64 n]) ?_ rfl ⟨w2, _, w3, AA, rfl, HB2.out, hs2, HRR.out, rfl⟩
  exact results_dig2 Tryz.results24 _ _ w.heap.size 29 _ (0, 0) _ rfl rfl HR4.out (info32a _ HAS.out)
/-- Key, where Ask answers. -/
theorem pkey_ok (B og mb : Nat) (S : Nat → Prop) (pv dv ov : Value) (o : Pra) (d : Int) (ls : List (List UInt8)) (r : List UInt8 × Pra) (w : World) (hB : B ≤ w.heap.size) (ho : PO B og mb S w o dv ov) (hp : HP w pv ls) (hl : ls.length ≤ 1048576) (hr : ls.flatten.length ≤ 1099511627776) (hrl : r.1.length = 32) (hmm : r.2.master = o.master)
    (hA : ∀ W v, Below w.heap.size w W → HB W v ls.flatten → Calls Tryz.prog 13 #[.pointer (some ⟨og, 0, none⟩), .agg (qL ⟨3, o.master, d, ls.flatten⟩ v).toArray] W fun e w' => PAsk B og mb S W r dv e w') :
    Calls Tryz.prog 24 #[.pointer (some ⟨og, 0, none⟩), .int .i64 d, pv] w fun e w' => PAsk B og mb S w r dv e w' := by
  refine (pkey_gen og mb pv o.master d ls w (fun W v w3 => v = okV r.1 ∧ Fr S W w3 ∧ ∃ ov', PO B og mb (fun k => S k ∨ (W.heap.size ≤ k ∧ k < w3.heap.size)) w3 r.2 dv ov') ho.cells.2.2.2.1 ho.master ho.ml hp hl hr (fun W v hb hv => (hA W v hb hv).mono ?_)).mono ?_
  · rintro e w' ⟨rfl, hfr, hpo⟩
    refine ⟨r.1, 0, hrl, rfl, ⟨rfl, hfr, hpo⟩, fun hs => hfr.block _ hs (fun h => by have := ho.top _ h; omega), ?_⟩
    obtain ⟨ov', hpo⟩ := hpo
    rw [← hmm]; exact hpo.master
  · rintro e w' ⟨W, v, w3, N, rfl, hb, hs, ⟨rfl, hfr, hpo⟩, rfl⟩
    obtain ⟨h1, h2⟩ := pend ho hB hb (Nat.le_refl _) hs hfr hpo N
    exact ⟨rfl, h1, h2⟩
/-- .. where Ask refuses. -/
theorem pkey_err (og mb : Nat) (pv : Value) (m : List UInt8) (d : Int) (ls : List (List UInt8)) (n : Int) (w : World) (hc : w.cell? ⟨og, 35, none⟩ = some (.map (some mb))) (hm : w.rangeAt og 1 (m.map B8)) (hml : m.length = 32) (hp : HP w pv ls) (hl : ls.length ≤ 1048576) (hr : ls.flatten.length ≤ 1099511627776)
    (hA : ∀ W v, Below w.heap.size w W → HB W v ls.flatten → Calls Tryz.prog 13 #[.pointer (some ⟨og, 0, none⟩), .agg (qL ⟨3, m, d, ls.flatten⟩ v).toArray] W fun e w' => e = .returned (errV n) ∧ Below W.heap.size W w') :
    Calls Tryz.prog 24 #[.pointer (some ⟨og, 0, none⟩), .int .i64 d, pv] w fun e w' => e = .returned (errV n) ∧ Below w.heap.size w w' := by
  refine (pkey_gen og mb pv m d ls w (fun W v w3 => v = errV n ∧ Below W.heap.size W w3) hc hm hml hp hl hr (fun W v hb hv => (hA W v hb hv).mono ?_)).mono ?_
  · rintro e w' ⟨rfl, hb'⟩
    exact ⟨List.replicate 32 0, n, by simp, rfl, ⟨rfl, hb'⟩, fun hs => hb'.block _ hs, rangeAt_below hm (hb.trans (hb'.mono hb.size))⟩
  · rintro e w' ⟨W, v, w3, N, rfl, hb, hs, ⟨rfl, hb3⟩, rfl⟩
    exact ⟨rfl, below_setRow (hb.trans (hb3.mono hb.size)) (Nat.le_refl _) _⟩
end Go.Proofs.YtefhjjjjbkkedaaGreat.R5

/- Contracts of slices.Clone at digests, and the program's New. -/
namespace Go.Proofs.YtefhjjjjbkkedaaGreat.R5
open scoped Classical
open Go.RowKit

def dC (ds : List (List UInt8)) : List Value := ds.flatMap fun d => d.map B8
theorem dC_len : ∀ (ds : List (List UInt8)), (∀ d ∈ ds, d.length = 32) → (dC ds).length = ds.length * 32
  | [], _ => rfl
  | d :: ds, h => by
    unfold dC
    rw [List.flatMap_cons, List.length_append, List.length_map, h d (by simp)]
    have := dC_len ds (fun x hx => h x (by simp [hx]))
    unfold dC at this
    rw [this, List.length_cons]; omega
theorem dC_at : ∀ (ds : List (List UInt8)), (∀ d ∈ ds, d.length = 32) → ∀ i, i < ds.length → ∀ j, j < 32 → (dC ds)[i * 32 + j]? = ((ds.getD i []).map B8)[j]?
  | [], _, i, hi, _, _ => by simp at hi
  | d :: ds, h, i, hi, j, hj => by
    have hd : (d.map B8).length = 32 := by simpa using h d (by simp)
    unfold dC
    rw [List.flatMap_cons]
    cases i with
    | zero => rw [Nat.zero_mul, Nat.zero_add, List.getElem?_append_left (by omega)]; rfl
    | succ i =>
      rw [List.getElem?_append_right (by rw [hd]; omega), hd, show (i + 1) * 32 + j - 32 = i * 32 + j by omega]
      have := dC_at ds (fun x hx => h x (by simp [hx])) i (by simpa using hi) j hj
      unfold dC at this
      rw [this]; rfl
theorem dC_one (ds : List (List UInt8)) : ∀ u ∈ dC ds, u.oneCell' = true := by
  intro u hu
  obtain ⟨d, _, hd⟩ := List.mem_flatMap.1 hu
  exact B8_one d u hd
/-- Digests in own memory are digests. -/
theorem hds_own {B : Nat} {w : World} {v : Value} {ds : List (List UInt8)} (hl : ∀ d ∈ ds, d.length = 32) (h : w.ownsRow B 29 32 v ds.length (dC ds)) : HDs w v ds := by
  refine ⟨hl, ?_⟩
  rcases h.2 with ⟨e1, e2⟩ | ⟨g, cap, cur, e1, e2, e3, e4, e5, e6, e7⟩
  · exact ⟨none, 0, by rw [e1, e2], fun i hi => by omega⟩
  · refine ⟨_, cap, e1, fun i hi => ⟨g, 0, rfl, fun j u hu => ?_⟩⟩
    have hdl : (ds.getD i []).length = 32 := by
      rw [List.getD, List.getElem?_eq_getElem hi]
      exact hl _ (List.getElem_mem hi)
    have hj : j < 32 := by have := (List.getElem?_eq_some_iff.1 hu).1; rw [List.length_map, hdl] at this; exact this
    rw [cell_of_row _ _ _ _ _ _ e3]
    have h1 := dC_at ds hl i hi j hj
    rw [← e7] at h1
    rw [List.getElem?_take, if_pos (by omega)] at h1
    rw [← Array.getElem?_toList, Nat.zero_add, h1]
    exact hu
theorem infoDg : (Tryz.prog.info? 29).map (fun i => (i.zero, i.size, i.bytes)) = some (some (dV (List.replicate 32 0)), 32, 32) := by kernel_rfl
/-- The cells of a slice of digests. -/
theorem hds_news {w : World} {a : Addr} {n cap : Nat} {ds : List (List UInt8)} (h : HDs w (.slice (some a) n cap) ds) : n = ds.length ∧ ∀ j u, (dC ds)[j]? = some u → w.cell? (a.add j) = some u := by
  obtain ⟨hl, p, c, e, hr⟩ := h
  simp only [Value.slice.injEq] at e
  refine ⟨e.2.1, fun j u hu => ?_⟩
  have hj : j < ds.length * 32 := by have := (List.getElem?_eq_some_iff.1 hu).1; rwa [dC_len ds hl] at this
  obtain ⟨b, o, e1, hr⟩ := hr (j / 32) (by omega)
  have h1 := dC_at ds hl (j / 32) (by omega) (j % 32) (by omega)
  rw [show j / 32 * 32 + j % 32 = j by omega, hu] at h1
  have h2 := hr (j % 32) u h1.symm
  have ha : a = ⟨b, o, none⟩ := by rw [e1] at e; simpa using e.1
  rw [ha, add_none, show o + j = o + j / 32 * 32 + j % 32 by omega]
  exact h2

set_option maxHeartbeats 4000000 in
set_option maxRecDepth 100000 in
theorem cloneD_any (p : Option Addr) (n cap : Nat) (ds : List (List UInt8)) (w : World) (hpc : p = none → cap = 0) (hl : ds.length ≤ 1099511627776) (h : HDs w (.slice p n cap) ds) :
    Calls Tryz.prog 19 #[.slice p n cap] w fun e w' => ∃ v, e = .returned v ∧ w'.ownsRow w.heap.size 29 32 v ds.length (dC ds) ∧ Below w.heap.size w w' := by
  have qT : ∀ (w : World) (r : Option Addr) (n c : Nat), (binOp .eql 22 (.slice r n c) (.slice none 0 0)).run Tryz.prog w = .ok (.bool r.isNone) w := fun w r n c => Lib.run_eql_slice_nil w _ _ r n c 0 0 Tryz.underlying22
  cases p with
  | none =>
    obtain ⟨hl, p, c, e, hr⟩ := h
    have hds : ds = [] := by
      cases ds with
      | nil => rfl
      | cons d ds => obtain ⟨b, o, e1, _⟩ := hr 0 (by simp); simp [e1] at e
    subst hds
    clear hr hl
    go_enter Tryz.func19, Tryz.ntmps19
    go_wp2
    go_ret
    exact ⟨_, rfl, World.ownsRow_nil _ _ _ _, Below.refl _ _⟩
  | some a =>
    obtain ⟨hn, hnews⟩ := hds_news h
    subst hn
    have HN : Hid _ := hnews
    have HL : Hid _ := dC_len ds h.1
    have HO1 : Hid _ := dC_one ds
    clear hnews h
    obtain ⟨i0, hi, hz0, hz1, hz2⟩ := info_parts infoDg
    go_enter Tryz.func19, Tryz.ntmps19
    have HOE : Hid ((w.alloc (.cells #[] 29 (0, 0))).ownsRow w.heap.size 29 32 (.slice (some ⟨w.heap.size, 0, none⟩) 0 0) 0 []) := ⟨rfl, .inr ⟨w.heap.size, 0, #[], rfl, Nat.le_refl _, heap_alloc_new _ _, Nat.le_refl _, by unfold maxLen; omega, rfl, rfl⟩⟩
    have HN' : Hid (∀ j u, (dC ds)[j]? = some u → (w.alloc (.cells #[] 29 (0, 0))).cell? (a.add j) = some u) := fun j u hu => (Below.cell ((Below.refl _ w).alloc (Nat.le_refl _) _) (block_lt (HN.out j u hu))).trans (HN.out j u hu)
    go_wp2_with (at_builtin; refine wpList_append_own _ rfl (.tmp 5) (.tmp 6) 22 rfl w.heap.size 29 i0 (dV (List.replicate 32 0)) 32 32 Tryz.underlying22 hi hz0 hz1 hz2 rfl (by decide) (.slice (some ⟨w.heap.size, 0, none⟩) 0 0) 0 [] rfl HOE.out a ds.length cap (dC ds) rfl HL.out HN'.out HO1.out (by unfold maxLen; omega) (by omega) (by simp) ?_; intro v1 w1 hown1 hgr1 hn1)
    go_ret
    rw [List.nil_append, Nat.zero_add] at hown1
    exact ⟨_, rfl, hown1, ((Below.refl _ w).alloc (Nat.le_refl _) _).grown hgr1 (by simp) (fun k e => by have e' : w.heap.size = k := (by simpa [Value.ownBlock] using e); omega)⟩
end Go.Proofs.YtefhjjjjbkkedaaGreat.R5

/- Contract of the program's New. -/
namespace Go.Proofs.YtefhjjjjbkkedaaGreat.R5
open scoped Classical
open Go.RowKit

set_option maxHeartbeats 4000000 in
set_option maxRecDepth 100000 in
theorem build_po (w : World) (i : Bool) (DL : List Value) (h2 : DL.length = 32) (p : Option Addr) (n c mb : Nat) : (Instr.build 67 #[(0, .bool i), (1, .agg DL.toArray), (2, .slice p n c), (4, .map (some mb))]).run Tryz.prog w = .ok (.agg (.bool i :: (DL ++ [.slice p n c, .slice none 0 0, .map (some mb)])).toArray) w := by
  iterate 32 (obtain ⟨_, _, e, g⟩ := cons_of h2; clear h2; subst e; have h2 := g; clear g)
  obtain rfl := List.eq_nil_of_length_eq_zero h2
  show _ = _
  kernel_rfl
/-- How New ends. -/
def PNew (w : World) (i : Bool) (m : List UInt8) (ds : List (List UInt8)) (e : Ending) (w' : World) : Prop :=
  ∃ og mb dv, e = .returned (.pointer (some ⟨og, 0, none⟩)) ∧ PO w.heap.size og mb (fun k => k = og ∨ k = mb) w' ⟨i, m, ds, []⟩ dv (.slice none 0 0) ∧ Below w.heap.size w w' ∧ ∀ k, dv.ownBlock = some k → w.heap.size ≤ k
theorem po_new {w W : World} {i : Bool} {m : List UInt8} {ds : List (List UInt8)} {dv : Value} {mb : Nat} (hml : m.length = 32) (hd : W.ownsRow w.heap.size 29 32 dv ds.length (dC ds)) (hdl : ∀ d ∈ ds, d.length = 32) (hm : W.heap[mb]? = some (.map #[] 0)) (hmb : w.heap.size ≤ mb) (hb : Below w.heap.size w W) :
    PO w.heap.size W.heap.size mb (fun k => k = W.heap.size ∨ k = mb) (W.alloc (.cells (pL i m dv (.slice none 0 0) mb).toArray 67 (0, 0))) ⟨i, m, ds, []⟩ dv (.slice none 0 0) := by
  have hmW := row_lt hm
  refine ⟨hml, heap_alloc_new _ _, hds_own hdl (hd.alloc _), fun k e => ?_, ⟨fun x hx => by simp at hx, by simp⟩, World.ownsRow_nil _ _ _ _, ⟨#[], 0, (heap_alloc_old _ _ hmW).trans hm, by simp⟩, .inl rfl, .inr rfl, fun k e => by simp [Value.ownBlock] at e, fun k h => ?_, fun k h => ?_⟩
  · have hk := hd.lt k e
    refine ⟨fun h => h.elim (fun h => by omega) (fun h => ?_), by simp; omega⟩
    subst h
    rcases hd.2 with ⟨e1, _⟩ | ⟨g, cap, cur, e1, _, e3, _⟩
    · rw [e1] at e; cases e
    · rw [e1] at e
      have e' : g = k := by simpa [Value.ownBlock] using e
      rw [e', hm] at e3
      cases e3
  · rcases h with h | h
    · have := hb.size; omega
    · omega
  · rcases h with h | h <;> simp <;> omega
theorem own_lower {B B' : Nat} {e : TypeId} {s : Nat} {v : Value} {n : Nat} {xs : List Value} {w : World} (h : w.ownsRow B e s v n xs) (hB : B' ≤ B) : w.ownsRow B' e s v n xs := by
  refine ⟨h.1, h.2.imp id ?_⟩
  rintro ⟨g, cap, cur, e1, e2, e3⟩
  exact ⟨g, cap, cur, e1, Nat.le_trans hB e2, e3⟩
/-- While New runs. -/
structure SNw (w : World) (ML : List Value) (X : World) : Prop where
  b : Below w.heap.size w X
  m : X.heap[w.heap.size]? = some (.cells ML.toArray 29 (0, 0))

set_option maxHeartbeats 4000000 in
set_option maxRecDepth 100000 in
theorem pnew_any (i : Bool) (m : List UInt8) (p : Option Addr) (n cap : Nat) (ds : List (List UInt8)) (w : World) (hml : m.length = 32) (hpc : p = none → cap = 0) (hl : ds.length ≤ 1099511627776) (h : HDs w (.slice p n cap) ds) :
    Calls Tryz.prog 7 #[.bool i, .agg (m.map B8).toArray, .slice p n cap] w fun e w' => PNew w i m ds e w' := by
  have hdl := h.1
  have hcl := fun W (hb : Below w.heap.size w W) => cloneD_any p n cap ds W hpc hl (hds_below h hb)
  have HCL : Hid (∀ W, Below w.heap.size w W → Calls Tryz.prog 19 #[.slice p n cap] W fun e w' => ∃ v, e = .returned v ∧ w'.ownsRow W.heap.size 29 32 v ds.length (dC ds) ∧ Below W.heap.size W w') := hcl
  have HML : Hid ((m.map B8).length = 32) := by show _ = _; simpa using hml
  have HMI : Hid _ := info32 (m.map B8) HML.out
  have hb1 : Below w.heap.size w (w.alloc (.cells (m.map B8).toArray 29 (0, 0))).drew := ((Below.refl _ _).alloc (Nat.le_refl _) _).drew
  have HS : Hid (SNw w (m.map B8) (w.alloc (.cells (m.map B8).toArray 29 (0, 0))).drew) := ⟨hb1, heap_at _ _ _ rfl⟩
  have hmm := @run_makeMap Tryz.prog
  clear hcl h hb1
  go_enter Tryz.func7, Tryz.ntmps7
  go_wp2
  refine wp_region_held_drew (S := SNw w (m.map B8)) (by kernel_rfl) HS.out (fun hHeld => ?_)
  generalize (w.alloc (.cells (m.map B8).toArray 29 (0, 0))).drew = W1 at *
  refine wpAnyH_take (i := 0) (oi := { dst := some 7, op := Go.Op.move (Go.Operand.tmp 0), type := 4, pos := _, after := #[], guard := none }) (v := .bool i) rfl (by kernel_rfl) (by kernel_rfl) (by kernel_rfl) (fun _ _ _ h => h) (Or.inl ⟨by rfl, fun w' hw' => ?_⟩) hHeld ?_
  · first | (go_simp; done) | (go_simp; rfl)
  try simp only [Act.put, List.setIfInBounds_toArray, List.set_cons_zero, List.set_cons_succ]
  refine wpAnyH_take (i := 1) (oi := { dst := some 8, op := Go.Op.load 29 (Go.Operand.tmp 4), type := 29, pos := _, after := #[], guard := none }) rfl (by kernel_rfl) (by kernel_rfl) (by kernel_rfl) (fun _ _ _ h => h) (yieldsIf_load_mid (by rfl) 29 (.tmp 4) rfl (w.heap.size) (0) rfl (m.map B8) _ (fun _ h => rangeAt_row h.m) Tryz.underlying29 rfl HMI.out) hHeld ?_
  try simp only [Act.put, List.setIfInBounds_toArray, List.set_cons_zero, List.set_cons_succ]
  refine wpAnyH_take (i := 2) (oi := { dst := some 9, op := Go.Op.move (Go.Operand.tmp 2), type := 22, pos := _, after := #[], guard := none }) (v := .slice p n cap) rfl (by kernel_rfl) (by kernel_rfl) (by kernel_rfl) (fun _ _ _ h => h) (Or.inl ⟨by rfl, fun w' hw' => ?_⟩) hHeld ?_
  · first | (go_simp; done) | (go_simp; rfl)
  try simp only [Act.put, List.setIfInBounds_toArray, List.set_cons_zero, List.set_cons_succ]
  have hs1 := hHeld.b.size
  have hm1 := row_lt hHeld.m
  refine wpAnyH_ready (rs := [3, 4]) (by kernel_rfl) (by simp) ?_
  refine AllReadyH.cons (o := { dst := some 10, op := Go.Op.call { callee := Go.Callee.value (Go.Operand.func 19), args := #[Go.Operand.tmp 9], argTypes := #[22] }, type := 22, pos := _, after := #[{ on := 2, ground := Go.Ground.data }], guard := none }) rfl (fun K hK => ?_) (AllReadyH.cons (o := { dst := some 11, op := Go.Op.makeMap 64 none, type := 64, pos := _, after := #[], guard := none }) rfl (fun K hK => ?_) AllReadyH.nil)
  all_goals rw [if_pos (by rfl)]
  · go_wp2_with fail
    refine Calls.mono (HCL.out W1 hHeld.b) ?_
    rintro e w2 ⟨v3, rfl, hv3, hb2⟩
    have hs2 := hb2.size
    have hHeld2 : SNw w (m.map B8) w2 := ⟨hHeld.b.trans (hb2.mono (by omega)), (hb2.block _ hm1).trans hHeld.m⟩
    clear hHeld
    refine hK.out _ _ hHeld2 (fun _ => ?_)
    clear hK K
    try simp only [Act.put, List.setIfInBounds_toArray, List.set_cons_zero, List.set_cons_succ]
    have hHeld := hHeld2
    refine wpAnyH_ready (rs := [4]) (by kernel_rfl) (by simp) ?_
    refine AllReadyH.cons (o := { dst := some 11, op := Go.Op.makeMap 64 none, type := 64, pos := _, after := #[], guard := none }) rfl (fun K hK => ?_) AllReadyH.nil
    rw [if_pos (by rfl)]
    go_wp2_with fail
    have hHeld3 : SNw w (m.map B8) (w2.alloc (.map #[] 0)) := ⟨hHeld2.b.alloc (by omega) _, (heap_alloc_old _ _ (by omega)).trans hHeld2.m⟩
    refine hK.out _ _ hHeld3 (fun _ => ?_)
    clear hK K
    try simp only [Act.put, List.setIfInBounds_toArray, List.set_cons_zero, List.set_cons_succ]
    have HV3 : Hid ((w2.alloc (.map #[] 0)).ownsRow w.heap.size 29 32 v3 ds.length (dC ds)) := own_lower (hv3.alloc _) (by omega)
    obtain ⟨mb, hmb⟩ : ∃ mb, mb = w2.heap.size := ⟨_, rfl⟩
    have HMB : Hid ((w2.alloc (.map #[] 0)).heap[mb]? = some (.map #[] 0)) := by rw [hmb]; exact heap_alloc_new _ _
    rw [← hmb]
    have hmbl : w.heap.size ≤ mb := by omega
    have hHeld := hHeld3
    clear hHeld2 hHeld3 hv3 hb2 hmb
    generalize w2.alloc (.map #[] 0) = U at *
    obtain ⟨p3, c3, hv3⟩ : ∃ p c, v3 = .slice p ds.length c := by
      rcases HV3.out.2 with ⟨e1, e2⟩ | ⟨g, cap, cur, e1, _⟩
      · exact ⟨none, 0, by rw [e1, e2]⟩
      · exact ⟨_, cap, e1⟩
    subst hv3
    have HBK : Hid _ := fun W => build_po W i (m.map B8) HML.out p3 ds.length c3 mb
    have HPL : Hid (Value.bool i :: (m.map B8 ++ [.slice p3 ds.length c3, .slice none 0 0, .map (some mb)]) = pL i m (.slice p3 ds.length c3) (.slice none 0 0) mb) := rfl
    rw [HPL.out] at HBK
    have hPO := po_new (i := i) hml HV3.out hdl HMB.out (by omega) hHeld.b
    have HPO : Hid _ := hPO
    clear HPL hPO
    generalize pL i m (.slice p3 ds.length c3) (.slice none 0 0) mb = PL at *
    refine wpAnyH_take (i := 5) (oi := { dst := some 12, op := Go.Op.build 67 #[(0, Go.Operand.tmp 7), (1, Go.Operand.tmp 8), (2, Go.Operand.tmp 10), (4, Go.Operand.tmp 11)], type := 67, pos := _, after := #[{ on := 0, ground := Go.Ground.data }, { on := 1, ground := Go.Ground.data }, { on := 3, ground := Go.Ground.data }, { on := 4, ground := Go.Ground.data }], guard := none }) (v := .agg PL.toArray) rfl (by kernel_rfl) (by kernel_rfl) (by kernel_rfl) (fun _ _ _ h => h) (Or.inl ⟨by rfl, fun w' hw' => ?_⟩) hHeld ?_
    · exact exec_build _ _ 67 _ _ _ w' rfl (by simp; exact ⟨rfl, rfl, rfl, rfl⟩) (HBK.out w')
    try simp only [Act.put, List.setIfInBounds_toArray, List.set_cons_zero, List.set_cons_succ]
    refine wpAnyH_ready (rs := [6]) (by kernel_rfl) (by simp) ?_
    refine AllReadyH.cons (o := { dst := some 13, op := Go.Op.box 67 (Go.Operand.tmp 12), type := 26, pos := _, after := #[{ on := 5, ground := Go.Ground.data }], guard := none }) rfl (fun K hK => ?_) AllReadyH.nil
    rw [if_pos (by rfl)]
    go_wp2_with fail
    have hHeldZ : SNw w (m.map B8) (U.alloc (.cells PL.toArray 67 (0, 0))) := ⟨hHeld.b.alloc (by have := hHeld.b.size; omega) _, (heap_alloc_old _ _ (row_lt hHeld.m)).trans hHeld.m⟩
    refine hK.out _ _ hHeldZ (fun _ => ?_)
    clear hK K
    try simp only [Act.put, List.setIfInBounds_toArray, List.set_cons_zero, List.set_cons_succ]
    have hHeld := hHeldZ
    refine wpAnyH_ready (rs := [7]) (by kernel_rfl) (by simp) ?_
    refine AllReadyH.cons (o := { dst := some 6, op := Go.Op.assign (Go.Operand.tmp 13), type := 26, pos := _, after := #[{ on := 6, ground := Go.Ground.data }, { on := 3, ground := Go.Ground.chain }, { on := 0, ground := Go.Ground.phase }, { on := 1, ground := Go.Ground.phase }, { on := 2, ground := Go.Ground.phase }, { on := 3, ground := Go.Ground.phase }, { on := 4, ground := Go.Ground.phase }, { on := 5, ground := Go.Ground.phase }, { on := 6, ground := Go.Ground.phase }], guard := none }) rfl (fun K hK => ?_) AllReadyH.nil
    rw [if_pos (by rfl)]
    go_wp2_with fail
    refine hK.out _ _ hHeldZ (fun _ => ?_)
    clear hK K
    try simp only [Act.put, List.setIfInBounds_toArray, List.set_cons_zero, List.set_cons_succ]
    refine wpAnyH_done (by kernel_rfl) ?_ _
    have HBZ : Hid _ := hHeldZ.b
    clear hHeld hHeldZ
    go_wp2
    go_ret
    exact ⟨_, mb, _, rfl, HPO.out, HBZ.out, fun k e => (HV3.out.lt k e).1⟩
  · go_wp2_with fail
    have hHeld2 : SNw w (m.map B8) (W1.alloc (.map #[] 0)) := ⟨hHeld.b.alloc (by omega) _, (heap_alloc_old _ _ hm1).trans hHeld.m⟩
    have HMW : Hid ((W1.alloc (.map #[] 0)).heap[W1.heap.size]? = some (.map #[] 0)) := heap_alloc_new _ _
    have hs3 : (W1.alloc (.map #[] 0)).heap.size = W1.heap.size + 1 := by simp
    clear hHeld
    refine hK.out _ _ hHeld2 (fun _ => ?_)
    clear hK K
    try simp only [Act.put, List.setIfInBounds_toArray, List.set_cons_zero, List.set_cons_succ]
    have hHeld := hHeld2
    refine wpAnyH_ready (rs := [3]) (by kernel_rfl) (by simp) ?_
    refine AllReadyH.cons (o := { dst := some 10, op := Go.Op.call { callee := Go.Callee.value (Go.Operand.func 19), args := #[Go.Operand.tmp 9], argTypes := #[22] }, type := 22, pos := _, after := #[{ on := 2, ground := Go.Ground.data }], guard := none }) rfl (fun K hK => ?_) AllReadyH.nil
    rw [if_pos (by rfl)]
    go_wp2_with fail
    refine Calls.mono (HCL.out _ hHeld2.b) ?_
    rintro e U ⟨v3, rfl, hv3, hb2⟩
    have hs2 := hb2.size
    obtain ⟨mb, hmb⟩ : ∃ mb, mb = W1.heap.size := ⟨_, rfl⟩
    have hHeld3 : SNw w (m.map B8) U := ⟨hHeld2.b.trans (hb2.mono (by omega)), (hb2.block _ (by omega)).trans hHeld2.m⟩
    have HV3 : Hid (U.ownsRow w.heap.size 29 32 v3 ds.length (dC ds)) := own_lower hv3 (by omega)
    have HMB : Hid (U.heap[mb]? = some (.map #[] 0)) := by rw [hmb]; exact (hb2.block _ (by omega)).trans HMW.out
    rw [← hmb]
    have hmbl : w.heap.size ≤ mb := by omega
    clear hHeld
    refine hK.out _ _ hHeld3 (fun _ => ?_)
    clear hK K
    try simp only [Act.put, List.setIfInBounds_toArray, List.set_cons_zero, List.set_cons_succ]
    have hHeld := hHeld3
    clear hHeld2 hHeld3 hv3 hb2 hmb HMW hs3 hs2
    obtain ⟨p3, c3, hv3⟩ : ∃ p c, v3 = .slice p ds.length c := by
      rcases HV3.out.2 with ⟨e1, e2⟩ | ⟨g, cap, cur, e1, _⟩
      · exact ⟨none, 0, by rw [e1, e2]⟩
      · exact ⟨_, cap, e1⟩
    subst hv3
    have HBK : Hid _ := fun W => build_po W i (m.map B8) HML.out p3 ds.length c3 mb
    have HPL : Hid (Value.bool i :: (m.map B8 ++ [.slice p3 ds.length c3, .slice none 0 0, .map (some mb)]) = pL i m (.slice p3 ds.length c3) (.slice none 0 0) mb) := rfl
    rw [HPL.out] at HBK
    have hPO := po_new (i := i) hml HV3.out hdl HMB.out (by omega) hHeld.b
    have HPO : Hid _ := hPO
    clear HPL hPO
    generalize pL i m (.slice p3 ds.length c3) (.slice none 0 0) mb = PL at *
    refine wpAnyH_take (i := 5) (oi := { dst := some 12, op := Go.Op.build 67 #[(0, Go.Operand.tmp 7), (1, Go.Operand.tmp 8), (2, Go.Operand.tmp 10), (4, Go.Operand.tmp 11)], type := 67, pos := _, after := #[{ on := 0, ground := Go.Ground.data }, { on := 1, ground := Go.Ground.data }, { on := 3, ground := Go.Ground.data }, { on := 4, ground := Go.Ground.data }], guard := none }) (v := .agg PL.toArray) rfl (by kernel_rfl) (by kernel_rfl) (by kernel_rfl) (fun _ _ _ h => h) (Or.inl ⟨by rfl, fun w' hw' => ?_⟩) hHeld ?_
    · exact exec_build _ _ 67 _ _ _ w' rfl (by simp; exact ⟨rfl, rfl, rfl, rfl⟩) (HBK.out w')
    try simp only [Act.put, List.setIfInBounds_toArray, List.set_cons_zero, List.set_cons_succ]
    refine wpAnyH_ready (rs := [6]) (by kernel_rfl) (by simp) ?_
    refine AllReadyH.cons (o := { dst := some 13, op := Go.Op.box 67 (Go.Operand.tmp 12), type := 26, pos := _, after := #[{ on := 5, ground := Go.Ground.data }], guard := none }) rfl (fun K hK => ?_) AllReadyH.nil
    rw [if_pos (by rfl)]
    go_wp2_with fail
    have hHeldZ : SNw w (m.map B8) (U.alloc (.cells PL.toArray 67 (0, 0))) := ⟨hHeld.b.alloc (by have := hHeld.b.size; omega) _, (heap_alloc_old _ _ (row_lt hHeld.m)).trans hHeld.m⟩
    refine hK.out _ _ hHeldZ (fun _ => ?_)
    clear hK K
    try simp only [Act.put, List.setIfInBounds_toArray, List.set_cons_zero, List.set_cons_succ]
    have hHeld := hHeldZ
    refine wpAnyH_ready (rs := [7]) (by kernel_rfl) (by simp) ?_
    refine AllReadyH.cons (o := { dst := some 6, op := Go.Op.assign (Go.Operand.tmp 13), type := 26, pos := _, after := #[{ on := 6, ground := Go.Ground.data }, { on := 3, ground := Go.Ground.chain }, { on := 0, ground := Go.Ground.phase }, { on := 1, ground := Go.Ground.phase }, { on := 2, ground := Go.Ground.phase }, { on := 3, ground := Go.Ground.phase }, { on := 4, ground := Go.Ground.phase }, { on := 5, ground := Go.Ground.phase }, { on := 6, ground := Go.Ground.phase }], guard := none }) rfl (fun K hK => ?_) AllReadyH.nil
    rw [if_pos (by rfl)]
    go_wp2_with fail
    refine hK.out _ _ hHeldZ (fun _ => ?_)
    clear hK K
    try simp only [Act.put, List.setIfInBounds_toArray, List.set_cons_zero, List.set_cons_succ]
    refine wpAnyH_done (by kernel_rfl) ?_ _
    have HBZ : Hid _ := hHeldZ.b
    clear hHeld hHeldZ
    go_wp2
    go_ret
    exact ⟨_, mb, _, rfl, HPO.out, HBZ.out, fun k e => (HV3.out.lt k e).1⟩
end Go.Proofs.YtefhjjjjbkkedaaGreat.R5

/- Contracts of the program's Ideal, Used, and of Stream where it refuses. -/
namespace Go.Proofs.YtefhjjjjbkkedaaGreat.R5
open scoped Classical
open Go.RowKit

set_option maxHeartbeats 1000000 in
set_option maxRecDepth 100000 in
theorem ideal_any (og mb : Nat) (i : Bool) (w : World) (hc : w.cell? ⟨og, 35, none⟩ = some (.map (some mb))) (h0 : w.cell? ⟨og, 0, none⟩ = some (.bool i)) :
    Calls Tryz.prog 29 #[.pointer (some ⟨og, 0, none⟩)] w fun e w' => e = .returned (.bool i) ∧ w' = w := by
  have HNN : Hid _ := none_no og mb w hc
  clear hc
  go_enter Tryz.func29, Tryz.ntmps29
  go_wp2_with (go_at_call 25; refine Calls.mono HNN.out ?_; rintro e w1 ⟨rfl, rfl⟩)
  go_ret
  exact ⟨rfl, rfl⟩
set_option maxHeartbeats 1000000 in
set_option maxRecDepth 100000 in
theorem ideal_none (pz : Value) (w : World) (hn : Calls Tryz.prog 25 #[pz] w fun e w' => e = .returned (.bool true) ∧ w' = w) :
    Calls Tryz.prog 29 #[pz] w fun e w' => e = .returned (.bool false) ∧ w' = w := by
  have HNN : Hid _ := hn
  clear hn
  go_enter Tryz.func29, Tryz.ntmps29
  go_wp2_with (go_at_call 25; refine Calls.mono HNN.out ?_; rintro e w1 ⟨rfl, rfl⟩)
  go_ret
  exact ⟨rfl, rfl⟩
set_option maxHeartbeats 1000000 in
set_option maxRecDepth 100000 in
theorem used_not (pz : Value) (w : World) (hn : Calls Tryz.prog 29 #[pz] w fun e w' => e = .returned (.bool false) ∧ w' = w) :
    Calls Tryz.prog 11 #[pz] w fun e w' => e = .returned (.int .i64 0) ∧ w' = w := by
  have HNN : Hid _ := hn
  clear hn
  go_enter Tryz.func11, Tryz.ntmps11
  go_wp2_with (go_at_call 29; refine Calls.mono HNN.out ?_; rintro e w1 ⟨rfl, rfl⟩)
  go_ret
  exact ⟨rfl, rfl⟩
set_option maxHeartbeats 1000000 in
set_option maxRecDepth 100000 in
theorem used_any {B og mb : Nat} {S : Nat → Prop} {w : World} {o : Pra} {dv ov : Value} (ho : PO B og mb S w o dv ov) (hid : o.ideal = true) :
    Calls Tryz.prog 11 #[.pointer (some ⟨og, 0, none⟩)] w fun e w' => e = .returned (.int .i64 o.log.length) ∧ w' = w := by
  obtain ⟨c0, c33, c34, hc, cf⟩ := ho.cells
  obtain ⟨p, cap, hov⟩ := ho.ordV
  rw [hid] at c0
  rw [hov] at c34
  have HNN : Hid _ := ideal_any og mb true w hc c0
  clear hc c33 cf hov ho c0
  go_enter Tryz.func11, Tryz.ntmps11
  go_wp2_with (go_at_call 29; refine Calls.mono HNN.out ?_; rintro e w1 ⟨rfl, rfl⟩)
  go_ret
  exact ⟨rfl, rfl⟩
/-- A stream that is refused. -/
def errS (n : Int) : Value := .tuple #[.slice none 0 0, .int .i64 n]
set_option maxHeartbeats 1000000 in
set_option maxRecDepth 100000 in
theorem pstream_none (pz : Value) (QL : List Value) (n : Int) (w : World) (hn : ∀ X, Below w.heap.size w X → Calls Tryz.prog 25 #[pz] X fun e w' => e = .returned (.bool true) ∧ w' = X) :
    Calls Tryz.prog 18 #[pz, .agg QL.toArray, .int .i64 n] w fun e w' => e = .returned (errS 1) ∧ Below w.heap.size w w' := by
  have hb : Below w.heap.size w (w.alloc (.cells QL.toArray 39 (0, 0))) := (Below.refl _ _).alloc (Nat.le_refl _) _
  have hnn := hn _ hb
  have HNN : Hid _ := hnn
  clear hn hnn
  go_enter Tryz.func18, Tryz.ntmps18
  go_wp2_with (go_at_call 25; refine Calls.mono HNN.out ?_; rintro e w1 ⟨rfl, rfl⟩)
  go_ret2
  exact ⟨rfl, hb⟩
/-- A stream that may be. -/
def strB (q : Qn) (n : Int) : Bool := decide (q.kind = 4 ∧ 1 ≤ q.dom ∧ q.dom ≤ 16 ∧ 0 ≤ n ∧ n ≤ 1024)
/-- What isQuestion leaves, in Stream. -/
structure Aft1 (w W : World) (QL : List Value) : Prop where
  below : Below w.heap.size w W
  r0 : W.heap[w.heap.size]? = some (.cells QL.toArray 39 (0, 0))
theorem aft1_of {w w1 : World} {QL : List Value} (h : Below (w.alloc (.cells QL.toArray 39 (0, 0))).heap.size (w.alloc (.cells QL.toArray 39 (0, 0))) w1) : Aft1 w w1 QL := by
  have hb : Below w.heap.size w (w.alloc (.cells QL.toArray 39 (0, 0))) := (Below.refl _ _).alloc (Nat.le_refl _) _
  have hr0 := heap_alloc_new w (.cells QL.toArray 39 (0, 0))
  exact ⟨hb.trans (h.mono hb.size), (h.block _ (row_lt hr0)).trans hr0⟩
set_option maxHeartbeats 2000000 in
set_option maxRecDepth 100000 in
theorem pstream_bad (og mb : Nat) (dq : Value) (q : Qn) (n : Int) (w : World) (hc : w.cell? ⟨og, 35, none⟩ = some (.map (some mb))) (hqk : q.key.length = 32) (hbad : strB q n = false) :
    Calls Tryz.prog 18 #[.pointer (some ⟨og, 0, none⟩), .agg (qL q dq).toArray, .int .i64 n] w fun e w' => e = .returned (errS 2) ∧ Below w.heap.size w w' := by
  have hb : Below w.heap.size w (w.alloc (.cells (qL q dq).toArray 39 (0, 0))) := (Below.refl _ _).alloc (Nat.le_refl _) _
  have HNN : Hid _ := none_no og mb _ ((hb.cell (block_lt hc)).trans hc)
  have hiq := isq_any dq q (w.alloc (.cells (qL q dq).toArray 39 (0, 0))) hqk
  have hkc := fun W (h : Aft1 w W (qL q dq)) => (q_facts hqk h.r0).1
  have HQI : Hid _ := info35 (qL q dq) (qL_len q dq hqk)
  have HUQ : Hid _ := Tryz.underlying39
  have hr0 := heap_alloc_new w (.cells (qL q dq).toArray 39 (0, 0))
  obtain ⟨QL, hQL⟩ : ∃ L, L = qL q dq := ⟨_, rfl⟩
  rw [← hQL] at hb hr0 HNN hiq hkc HQI ⊢
  have HRQ : Hid _ := rangeAt_row hr0
  have HDT : mayQ q = true → q.kind = 4 → 0 ≤ n → ¬ n ≤ 1024 := fun h1 h2 h3 h4 => by
    have h1' : 1 ≤ q.kind ∧ q.kind ≤ 4 ∧ 1 ≤ q.dom ∧ q.dom ≤ 16 ∧ (q.kind = 1 → q.key = List.replicate 32 0) := by unfold mayQ at h1; exact of_decide_eq_true h1
    unfold strB at hbad
    exact absurd (⟨h2, h1'.2.2.1, h1'.2.2.2.1, h3, h4⟩ : q.kind = 4 ∧ 1 ≤ q.dom ∧ q.dom ≤ 16 ∧ 0 ≤ n ∧ n ≤ 1024) (by simpa using hbad)
  generalize mayQ q = MB at *
  generalize q.kind = K at *
  clear hb hr0 hc hbad hQL
  cases MB with
  | false =>
    clear HDT
    have HIQ : Hid _ := hiq
    clear hiq
    go_enter Tryz.func18, Tryz.ntmps18
    go_wp2_with (first
      | (go_at_call 25; refine Calls.mono HNN.out ?_; rintro e w1 ⟨rfl, rfl⟩)
      | (refine wpList_load_mid rfl 39 _ rfl w.heap.size 0 rfl QL _ HRQ.out HUQ.out rfl HQI.out ?_)
      | (go_at_call 30; fail))
    refine Calls.mono HIQ.out ?_
    rintro e w1 ⟨rfl, hq1⟩
    have hA := aft1_of hq1
    have a0 := hkc w1 hA
    have HA : Hid _ := hA
    clear hq1 hA
    go_wp2
    go_ret2
    exact ⟨rfl, HA.out.below⟩
  | true =>
    by_cases h1 : K = 4
    · subst h1
      have HDT' : Hid _ := HDT rfl rfl
      clear HDT
      by_cases hn : n < 0
      · skip
        have HIQ : Hid _ := hiq
        clear hiq
        go_enter Tryz.func18, Tryz.ntmps18
        go_wp2_with (first
          | (go_at_call 25; refine Calls.mono HNN.out ?_; rintro e w1 ⟨rfl, rfl⟩)
          | (refine wpList_load_mid rfl 39 _ rfl w.heap.size 0 rfl QL _ HRQ.out HUQ.out rfl HQI.out ?_)
          | (go_at_call 30; fail))
        refine Calls.mono HIQ.out ?_
        rintro e w1 ⟨rfl, hq1⟩
        have hA := aft1_of hq1
        have a0 := hkc w1 hA
        have HA : Hid _ := hA
        clear hq1 hA
        go_wp2
        go_ret2
        exact ⟨rfl, HA.out.below⟩
      · have hn2 : 1024 < n := by have := HDT'.out (by omega); omega
        have HIQ : Hid _ := hiq
        clear hiq
        go_enter Tryz.func18, Tryz.ntmps18
        go_wp2_with (first
          | (go_at_call 25; refine Calls.mono HNN.out ?_; rintro e w1 ⟨rfl, rfl⟩)
          | (refine wpList_load_mid rfl 39 _ rfl w.heap.size 0 rfl QL _ HRQ.out HUQ.out rfl HQI.out ?_)
          | (go_at_call 30; fail))
        refine Calls.mono HIQ.out ?_
        rintro e w1 ⟨rfl, hq1⟩
        have hA := aft1_of hq1
        have a0 := hkc w1 hA
        have HA : Hid _ := hA
        clear hq1 hA
        go_wp2
        go_ret2
        exact ⟨rfl, HA.out.below⟩
    · have hk : (K != 4) = true := by simpa using h1
      clear HDT h1
      have HIQ : Hid _ := hiq
      clear hiq
      go_enter Tryz.func18, Tryz.ntmps18
      go_wp2_with (first
        | (go_at_call 25; refine Calls.mono HNN.out ?_; rintro e w1 ⟨rfl, rfl⟩)
        | (refine wpList_load_mid rfl 39 _ rfl w.heap.size 0 rfl QL _ HRQ.out HUQ.out rfl HQI.out ?_)
        | (go_at_call 30; fail))
      refine Calls.mono HIQ.out ?_
      rintro e w1 ⟨rfl, hq1⟩
      have hA := aft1_of hq1
      have a0 := hkc w1 hA
      have HA : Hid _ := hA
      clear hq1 hA
      go_wp2
      go_ret2
      exact ⟨rfl, HA.out.below⟩
end Go.Proofs.YtefhjjjjbkkedaaGreat.R5

/- What the statements know: the chapter's rows. -/
namespace Go.Proofs.YtefhjjjjbkkedaaGreat.R5
open scoped Classical
open Go.RowKit

theorem PO.lower {B B' og mb : Nat} {S : Nat → Prop} {w : World} {o : Pra} {dv ov : Value} (h : PO B og mb S w o dv ov) (hB : B' ≤ B) : PO B' og mb S w o dv ov :=
  ⟨h.ml, h.row, h.draws, h.dro, h.ok, own_lower h.order hB, h.map, h.sog, h.smb, h.sov, fun k hk => Nat.le_trans hB (h.low k hk), h.top⟩
/-- An oracle in memory, and rows of the caller's own beside it. -/
structure KN (w : World) (og mb : Nat) (o : Pra) (rows : List (Nat × List UInt8)) (X : World) : Prop where
  ex : ∃ S dv ov, PO w.heap.size og mb S X o dv ov ∧ Below w.heap.size w X ∧ ∀ r ∈ rows, X.heap[r.1]? = some (.cells (r.2.map B8).toArray 29 (0, 0)) ∧ ¬ S r.1
section
variable {w X : World} {og mb : Nat} {o : Pra} {rows : List (Nat × List UInt8)}
theorem KN.bel (h : KN w og mb o rows X) : Below w.heap.size w X := by obtain ⟨_, _, _, _, h, _⟩ := h.ex; exact h
theorem KN.row (h : KN w og mb o rows X) {r : Nat × List UInt8} (hr : r ∈ rows) : X.rangeAt r.1 0 (r.2.map B8) := by obtain ⟨_, _, _, _, _, h⟩ := h.ex; exact rangeAt_row (h r hr).1
theorem KN.mapCell (h : KN w og mb o rows X) : X.cell? ⟨og, 35, none⟩ = some (.map (some mb)) := by obtain ⟨_, _, _, h, _, _⟩ := h.ex; exact h.cells.2.2.2.1
theorem KN.step {Y : World} (h : KN w og mb o rows X) (hb : Below X.heap.size X Y) : KN w og mb o rows Y := by
  obtain ⟨S, dv, ov, h1, h2, h3⟩ := h.ex
  exact .mk ⟨S, dv, ov, h1.below hb, h2.trans (hb.mono h2.size), fun r hr => ⟨(hb.block _ (row_lt (h3 r hr).1)).trans (h3 r hr).1, (h3 r hr).2⟩⟩
theorem KN.alloc (h : KN w og mb o rows X) (ob : Obj) : KN w og mb o rows (X.alloc ob) := h.step ((Below.refl _ _).alloc (Nat.le_refl _) _)
theorem KN.newrow {ZL : List Value} (h : KN w og mb o rows X) (A : List UInt8) : KN w og mb o ((X.heap.size, A) :: rows) ((X.alloc (.cells ZL.toArray 29 (0, 0))).setRow X.heap.size (A.map B8).toArray) := by
  have hb : Below X.heap.size X ((X.alloc (.cells ZL.toArray 29 (0, 0))).setRow X.heap.size (A.map B8).toArray) := below_setRow ((Below.refl _ _).alloc (Nat.le_refl _) _) (Nat.le_refl _) _
  obtain ⟨S, dv, ov, h1, h2, h3⟩ := h.ex
  refine .mk ⟨S, dv, ov, h1.below hb, h2.trans (hb.mono h2.size), fun r hr => ?_⟩
  rcases List.mem_cons.1 hr with rfl | hr
  · exact ⟨setRow_heap _ _ _ _ _ _ (heap_alloc_new _ _), fun h => by have := h1.top _ h; simp at this⟩
  · exact ⟨(hb.block _ (row_lt (h3 r hr).1)).trans (h3 r hr).1, (h3 r hr).2⟩
theorem KN.ofNew {Y : World} {i : Bool} {m : List UInt8} {ds : List (List UInt8)} {dv : Value} (hb : Below w.heap.size w X) (hp : PO X.heap.size og mb (fun k => k = og ∨ k = mb) Y ⟨i, m, ds, []⟩ dv (.slice none 0 0)) (hY : Below X.heap.size X Y)
    (hr : ∀ r ∈ rows, X.heap[r.1]? = some (.cells (r.2.map B8).toArray 29 (0, 0))) : KN w og mb ⟨i, m, ds, []⟩ rows Y := by
  refine .mk ⟨_, dv, _, hp.lower hb.size, hb.trans (hY.mono hb.size), fun r hr' => ?_⟩
  have hl := row_lt (hr r hr')
  exact ⟨(hY.block _ hl).trans (hr r hr'), fun h => by have := hp.low _ h; omega⟩
/-- Behind a call that has asked. -/
theorem KN.asked {Y : World} {S : Nat → Prop} {dv : Value} {o' : Pra} (hp : ∀ k, S k → w.heap.size ≤ k) (h2 : Below w.heap.size w X) (h3 : ∀ r ∈ rows, X.heap[r.1]? = some (.cells (r.2.map B8).toArray 29 (0, 0)) ∧ ¬ S r.1) (hf : Fr S X Y)
    (hq : ∃ ov', PO w.heap.size og mb (fun k => S k ∨ (X.heap.size ≤ k ∧ k < Y.heap.size)) Y o' dv ov') : KN w og mb o' rows Y := by
  obtain ⟨ov', hq⟩ := hq
  have hs2 := h2.size
  refine .mk ⟨_, dv, ov', hq, ⟨hf.os.trans h2.os, hf.tape.trans h2.tape, hf.output.trans h2.output, Nat.le_trans h2.size hf.size, fun k hk => (hf.block k (by omega) (fun h => by have := hp k h; omega)).trans (h2.block k hk)⟩, fun r hr => ?_⟩
  have hl := row_lt (h3 r hr).1
  exact ⟨(hf.block _ hl (h3 r hr).2).trans (h3 r hr).1, fun h => h.elim (h3 r hr).2 (fun h => by omega)⟩
theorem KN.dig (h : KN w og mb o rows X) (hid : o.ideal = true) (hll : o.log.length < 1000000) (d : Int) (hd : 1 ≤ d ∧ d ≤ 16) (pv : Value) (l : List UInt8) (hll2 : l.length ≤ 1000000) (hp : HP X pv [l]) :
    Calls Tryz.prog 17 #[.pointer (some ⟨og, 0, none⟩), .int .i64 d, pv] X fun e Y => e = .returned (okV (pAsk o ⟨1, List.replicate 32 0, d, l⟩ (drawD o.draws o.log.length)).1) ∧ KN w og mb (pAsk o ⟨1, List.replicate 32 0, d, l⟩ (drawD o.draws o.log.length)).2 rows Y := by
  obtain ⟨S, dv, ov, h1, h2, h3⟩ := h.ex
  have hfl : [l].flatten = l := by simp
  have hq : kOk ⟨1, List.replicate 32 0, d, l⟩ := ⟨by simp, rfl, by have := hd.1; have := hd.2; simp [Lit.wf, IntKind.min, IntKind.max, IntKind.signed, IntKind.bits]; omega, by show l.length ≤ _; omega⟩
  have hok : askB ⟨1, List.replicate 32 0, d, l⟩ = true := by unfold askB mayQ; simp; omega
  refine (pdig_ok w.heap.size og mb S pv dv ov o d [l] (pAsk o ⟨1, List.replicate 32 0, d, l⟩ (drawD o.draws o.log.length)) X h2.size h1 hp (by simp) (by rw [hfl]; omega) (pAsk_len h1.ok (drawD_len _ _ h1.draws.1)) (fun W v hb hv => ?_)).mono ?_
  · rw [hfl] at hv ⊢
    exact pask_ideal w.heap.size og mb S v dv ov o _ W hid (Nat.le_trans h2.size hb.size) hll (h1.below hb) hq hv hok
  · rintro e Y ⟨rfl, hf, hq⟩
    exact ⟨rfl, KN.asked h1.low h2 h3 hf hq⟩
theorem KN.ask_bad (h : KN w og mb o rows X) (dq : Value) (q : Qn) (hqk : q.key.length = 32) (hbad : askB q = false) :
    Calls Tryz.prog 13 #[.pointer (some ⟨og, 0, none⟩), .agg (qL q dq).toArray] X fun e Y => e = .returned (errV 2) ∧ KN w og mb o rows Y :=
  (pask_bad og mb dq q X h.mapCell hqk hbad).mono fun e Y ⟨he, hb⟩ => ⟨he, h.step hb⟩
theorem KN.stream_bad (h : KN w og mb o rows X) (dq : Value) (q : Qn) (n : Int) (hqk : q.key.length = 32) (hbad : strB q n = false) :
    Calls Tryz.prog 18 #[.pointer (some ⟨og, 0, none⟩), .agg (qL q dq).toArray, .int .i64 n] X fun e Y => e = .returned (errS 2) ∧ KN w og mb o rows Y :=
  (pstream_bad og mb dq q n X h.mapCell hqk hbad).mono fun e Y ⟨he, hb⟩ => ⟨he, h.step hb⟩
theorem KN.used (h : KN w og mb o rows X) (hid : o.ideal = true) :
    Calls Tryz.prog 11 #[.pointer (some ⟨og, 0, none⟩)] X fun e Y => e = .returned (.int .i64 o.log.length) ∧ Y = X := by
  obtain ⟨S, dv, ov, h1, h2, h3⟩ := h.ex
  exact used_any h1 hid
end
end Go.Proofs.YtefhjjjjbkkedaaGreat.R5
