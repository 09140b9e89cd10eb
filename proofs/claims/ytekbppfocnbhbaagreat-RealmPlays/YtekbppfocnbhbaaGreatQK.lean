/- Contracts of the program's Digest and Key, put together. -/
import Derived.Test.YtekbppfocnbhbaaGreatQJ
set_option linter.unusedVariables false
set_option linter.unusedSimpArgs false
namespace Go.Proofs.YtekbppfocnbhbaaGreat.R5
open scoped Classical
open Go.RowKit

theorem pdig_ok (B og mb : Nat) (S : Nat → Prop) (pv dv ov : Value) (o : Pra) (d : Int) (ls : List (List UInt8)) (r : List UInt8 × Pra) (w : World) (hB : B ≤ w.heap.size) (ho : PO B og mb S w o dv ov) (hp : HP w pv ls) (hl : ls.length ≤ 1048576) (hr : ls.flatten.length ≤ 1099511627776) (hrl : r.1.length = 32)
    (hA : ∀ W v, Below w.heap.size w W → HB W v ls.flatten → Calls Tryz.prog 79 #[.pointer (some ⟨og, 0, none⟩), .agg (qL ⟨1, List.replicate 32 0, d, ls.flatten⟩ v).toArray] W fun e w' => PAsk B og mb S W r dv e w') :
    Calls Tryz.prog 78 #[.pointer (some ⟨og, 0, none⟩), .int .i64 d, pv] w fun e w' => PAsk B og mb S w r dv e w' := by
  refine (pdig_gen (.pointer (some ⟨og, 0, none⟩)) pv d ls w (fun W v w3 => v = okV r.1 ∧ Fr S W w3 ∧ ∃ ov', PO B og mb (fun k => S k ∨ (W.heap.size ≤ k ∧ k < w3.heap.size)) w3 r.2 dv ov') hp hl hr (fun W v hb hv => (hA W v hb hv).mono ?_)).mono ?_
  · rintro e w' ⟨rfl, hfr, hpo⟩
    exact ⟨r.1, 0, hrl, rfl, ⟨rfl, hfr, hpo⟩, fun hs => hfr.block _ hs (fun h => by have := ho.top _ h; omega)⟩
  · rintro e w' ⟨W, v, w3, N, rfl, hb, hs, ⟨rfl, hfr, hpo⟩, rfl⟩
    obtain ⟨h1, h2⟩ := pend ho hB hb (Nat.le_refl _) hs hfr hpo N
    exact ⟨rfl, h1, h2⟩
structure SKy (og b : Nat) (ML : List Value) (X : World) : Prop where
  m : X.rangeAt og 1 ML
  z : ∃ Z, Z.size = 32 ∧ X.heap[b]? = some (.cells Z 33 (0, 0))
set_option maxHeartbeats 4000000 in
set_option maxRecDepth 100000 in
theorem pkey_gen (og mb : Nat) (pv : Value) (m : List UInt8) (d : Int) (ls : List (List UInt8)) (w : World) (R : World → Value → World → Prop) (hc : w.cell? ⟨og, 35, none⟩ = some (.map (some mb))) (hm : w.rangeAt og 1 (m.map B8)) (hml : m.length = 32) (hp : HP w pv ls) (hl : ls.length ≤ 1048576) (hr : ls.flatten.length ≤ 1099511627776)
    (hA : ∀ W v, Below w.heap.size w W → HB W v ls.flatten → Calls Tryz.prog 79 #[.pointer (some ⟨og, 0, none⟩), .agg (qL ⟨3, m, d, ls.flatten⟩ v).toArray] W fun e w' => ∃ A n, A.length = 32 ∧ e = .returned (.tuple #[dV A, .int .i64 n]) ∧ R W (.tuple #[dV A, .int .i64 n]) w' ∧ (w.heap.size < W.heap.size → w'.heap[w.heap.size]? = W.heap[w.heap.size]?) ∧ w'.rangeAt og 1 (m.map B8)) :
    Calls Tryz.prog 48 #[.pointer (some ⟨og, 0, none⟩), .int .i64 d, pv] w fun e w' => ∃ W v w3 N, e = .returned v ∧ Below w.heap.size w W ∧ w.heap.size < W.heap.size ∧ R W v w3 ∧ w' = w3.setRow w.heap.size N := by
  have hzv := fun W => zero_dig W
  have hbd := fun W => build_dig W
  obtain ⟨ZL, hZL⟩ : ∃ L, L = (List.replicate 32 (0 : UInt8)).map B8 := ⟨_, rfl⟩
  have HZV : Hid (dV (List.replicate 32 0) = .agg ZL.toArray) := by show _ = _; rw [hZL]; rfl
  rw [← hZL] at hzv hbd
  have HZS : Hid (ZL.toArray.size = 32) := by show _ = _; rw [hZL]; simp
  have HZ1 : Hid (ZL.toArray.all (·.oneCell') = true) := by show _ = _; rw [hZL]; exact B8_onea _
  clear hZL
  have hb1 : Below w.heap.size w (w.alloc (.cells ZL.toArray 33 (0, 0))) := (Below.refl _ _).alloc (Nat.le_refl _) _
  have HR1 : Hid ((w.alloc (.cells ZL.toArray 33 (0, 0))).heap[w.heap.size]? = some (.cells ZL.toArray 33 (0, 0))) := heap_at _ _ _ rfl
  have HB1 : Hid _ := hb1
  have hog := block_lt hc
  simp only at hog
  have HJ : Hid (∀ X, Below w.heap.size w X → Calls Tryz.prog 80 #[pv] X fun e w' => ∃ v, e = .returned v ∧ FB X.heap.size w' v ls.flatten ∧ Below X.heap.size X w') := fun X hb => pjoin_any pv ls _ hl hr (hp_below hp hb)
  have HA : Hid (∀ W v, Below w.heap.size w W → HB W v ls.flatten → Calls Tryz.prog 79 #[.pointer (some ⟨og, 0, none⟩), .agg (qL ⟨3, m, d, ls.flatten⟩ v).toArray] W fun e w' => ∃ A n, A.length = 32 ∧ e = .returned (.tuple #[dV A, .int .i64 n]) ∧ R W (.tuple #[dV A, .int .i64 n]) w' ∧ (w.heap.size < W.heap.size → w'.heap[w.heap.size]? = W.heap[w.heap.size]?) ∧ w'.rangeAt og 1 (m.map B8)) := hA
  have HNN : Hid _ := none_no og mb _ ((hb1.cell (show (⟨og, 35, none⟩ : Addr).block < w.heap.size from hog)).trans hc)
  have HML : Hid ((m.map B8).length = 32) := by show _ = _; simpa using hml
  have HMI : Hid _ := info32 (m.map B8) HML.out
  have HSK : Hid (SKy og w.heap.size (m.map B8) (w.alloc (.cells ZL.toArray 33 (0, 0))).drew) := ⟨rangeAt_below hm (hb1.drew), _, HZS.out, HR1.out⟩
  have HBD : Hid (Below w.heap.size w (w.alloc (.cells ZL.toArray 33 (0, 0))).drew) := hb1.drew
  have HSD : Hid (w.heap.size < (w.alloc (.cells ZL.toArray 33 (0, 0))).drew.heap.size) := by show _ < _; exact row_lt HR1.out
  clear hA hp hb1 hr hc hm
  generalize ls.flatten = l at *
  go_enter Tryz.func48, Tryz.ntmps48
  go_wp2_with (go_at_call 56; refine Calls.mono HNN.out ?_; rintro e w1 ⟨rfl, rfl⟩)
  refine wp_region_held_drew (S := SKy og w.heap.size (m.map B8)) (by kernel_rfl) HSK.out (fun hHeld => ?_)
  generalize (w.alloc (.cells ZL.toArray 33 (0, 0))).drew = W1 at *
  refine wpAnyH_take (i := 0) (oi := ⟨some 11, .move (.tmp 0), 25, _, #[], none⟩) (v := .pointer (some ⟨og, 0, none⟩)) rfl (by kernel_rfl) (by kernel_rfl) (by kernel_rfl) (fun _ _ _ h => h) (Or.inl ⟨by rfl, fun w' hw' => ?_⟩) hHeld ?_
  · first | (go_simp; done) | (go_simp; rfl)
  try simp only [Act.put, qT, q0, qS]
  refine wpAnyH_take (i := 1) (oi := ⟨some 12, .move (.tmp 0), 25, _, #[], none⟩) (v := .pointer (some ⟨og, 0, none⟩)) rfl (by kernel_rfl) (by kernel_rfl) (by kernel_rfl) (fun _ _ _ h => h) (Or.inl ⟨by rfl, fun w' hw' => ?_⟩) hHeld ?_
  · first | (go_simp; done) | (go_simp; rfl)
  try simp only [Act.put, qT, q0, qS]
  refine wpAnyH_take (i := 2) (oi := ⟨some 13, .nilCheck (.tmp 12), 0, _, #[⟨1, .data⟩], none⟩) (v := .pointer (some ⟨og, 0, none⟩)) rfl (by kernel_rfl) (by kernel_rfl) (by kernel_rfl) (fun _ _ _ h => h) (Or.inl ⟨by rfl, fun w' hw' => ?_⟩) hHeld ?_
  · first | (go_simp; done) | (go_simp; rfl)
  try simp only [Act.put, qT, q0, qS]
  refine wpAnyH_take (i := 3) (oi := ⟨some 14, .fieldAddr 116 (.tmp 13) 1, 0, _, #[⟨2, .data⟩], none⟩) (v := .pointer (some ⟨og, 1, none⟩)) rfl (by kernel_rfl) (by kernel_rfl) (by kernel_rfl) (fun _ _ _ h => h) (Or.inl ⟨by rfl, fun w' hw' => ?_⟩) hHeld ?_
  · first | (go_simp; done) | (go_simp; rfl)
  try simp only [Act.put, qT, q0, qS]
  refine wpAnyH_take (i := 4) (oi := ⟨some 15, .load 33 (.tmp 14), 33, _, #[⟨3, .data⟩], none⟩) rfl (by kernel_rfl) (by kernel_rfl) (by kernel_rfl) (fun _ _ _ h => h) (yieldsIf_load_mid (by rfl) 33 (.tmp 14) rfl (og) (1) rfl (m.map B8) _ (fun _ h => h.m) Tryz.underlying33 rfl HMI.out) hHeld ?_
  try simp only [Act.put, qT, q0, qS]
  refine wpAnyH_take (i := 5) (oi := ⟨some 16, .move (.tmp 1), 105, _, #[], none⟩) (v := .int .i64 d) rfl (by kernel_rfl) (by kernel_rfl) (by kernel_rfl) (fun _ _ _ h => h) (Or.inl ⟨by rfl, fun w' hw' => ?_⟩) hHeld ?_
  · first | (go_simp; done) | (go_simp; rfl)
  try simp only [Act.put, qT, q0, qS]
  refine wpAnyH_take (i := 6) (oi := ⟨some 17, .move (.tmp 2), 144, _, #[], none⟩) (v := pv) rfl (by kernel_rfl) (by kernel_rfl) (by kernel_rfl) (fun _ _ _ h => h) (Or.inl ⟨by rfl, fun w' hw' => ?_⟩) hHeld ?_
  · first | (go_simp; done) | (go_simp; rfl)
  try simp only [Act.put, qT, q0, qS]
  refine wpAnyH_ready (rs := [7]) (by kernel_rfl) (by simp) ?_
  refine AllReadyH.cons (o := { dst := some 18, op := .call { callee := Go.Callee.value (.func 80), args := #[.tmp 17], argTypes := #[144] }, type := 106, pos := _, after := #[⟨6, .data⟩], guard := none }) rfl (fun K hK => ?_) AllReadyH.nil
  rw [if_pos (by rfl)]
  go_wp2_with fail
  refine Calls.mono (HJ.out W1 HBD.out) ?_
  rintro e w2 ⟨v2, rfl, hf2, hb2⟩
  obtain ⟨p2, c2, hv2, _, _⟩ := hb_cells hf2.hb
  subst hv2
  have hh2 := hf2.hb
  have hs1 := HSD.out
  have HB2 : Hid (Below w.heap.size w w2) := HBD.out.trans (hb2.mono (by omega))
  have hHeld2 : SKy og w.heap.size (m.map B8) w2 := (by obtain ⟨Z, hz1, hz2⟩ := hHeld.z; exact ⟨rangeAt_below hHeld.m hb2, Z, hz1, (hb2.block _ hs1).trans hz2⟩)
  have hA2 := HA.out w2 _ HB2.out hh2
  have hbk := fun W => build_q4 W 3 d (m.map B8) HML.out p2 l.length c2
  have hqq : Value.int .i64 3 :: (m.map B8 ++ [.int .i64 d, .slice p2 l.length c2]) = qL ⟨3, m, d, l⟩ (.slice p2 l.length c2) := rfl
  rw [hqq] at hbk
  generalize qL ⟨3, m, d, l⟩ (.slice p2 l.length c2) = QB at *
  have HBK : Hid _ := hbk
  have HA2 : Hid _ := hA2
  clear hqq hh2 hbk hA2 hf2 hb2 hHeld
  refine hK.out _ _ hHeld2 (fun _ => ?_)
  clear hK K
  try simp only [Act.put, qT, q0, qS]
  have hHeld := hHeld2
  refine wpAnyH_take (i := 8) (oi := ⟨some 19, .build 138 #[(0, .const (Go.Value.int Go.IntKind.i64 3)), (1, .tmp 15), (2, .tmp 16), (3, .tmp 18)], 138, _, #[⟨4, .data⟩, ⟨5, .data⟩, ⟨7, .data⟩], none⟩) (v := .agg QB.toArray) rfl (by kernel_rfl) (by kernel_rfl) (by kernel_rfl) (fun _ _ _ h => h) (Or.inl ⟨by rfl, fun w' hw' => ?_⟩) hHeld ?_
  · exact exec_build _ _ 138 _ _ _ w' rfl (by simp; exact ⟨rfl, rfl, rfl, rfl⟩) (HBK.out w')
  try simp only [Act.put, qT, q0, qS]
  refine wpAnyH_ready (rs := [9]) (by kernel_rfl) (by simp) ?_
  refine AllReadyH.cons (o := { dst := some 20, op := .call { callee := Go.Callee.value (.func 79), args := #[.tmp 11, .tmp 19], argTypes := #[25, 138] }, type := 107, pos := _, after := #[⟨0, .data⟩, ⟨8, .data⟩, ⟨7, .chain⟩], guard := none }) rfl (fun K hK => ?_) AllReadyH.nil
  rw [if_pos (by rfl)]
  go_wp2_with fail
  refine Calls.mono HA2.out ?_
  rintro e w3 ⟨A, n, hAl, rfl, hR, hk, hmm⟩
  have hs2 : w.heap.size < w2.heap.size := by obtain ⟨Z, hz1, hz2⟩ := hHeld2.z; exact row_lt hz2
  have hHeld3 : SKy og w.heap.size (m.map B8) w3 := (by obtain ⟨Z, hz1, hz2⟩ := hHeld2.z; exact ⟨hmm, Z, hz1, (hk hs2).trans hz2⟩)
  have hA : (A.map B8).toArray.size = 32 := by simpa using hAl
  have HAS : Hid _ := hA
  have HA1 : Hid _ := B8_onea A
  have HRR : Hid _ := hR
  clear hk hA hAl hR HA2 hmm hHeld
  unfold dV at *
  generalize (A.map B8).toArray = AA at *
  refine hK.out _ _ hHeld3 (fun _ => ?_)
  clear hK K
  try simp only [Act.put, qT, q0, qS]
  have hHeld := hHeld3
  refine wpAnyH_take (i := 10) (oi := ⟨some 21, .extract (.tmp 20) 0, 33, _, #[⟨9, .data⟩], none⟩) (v := .agg AA) rfl (by kernel_rfl) (by kernel_rfl) (by kernel_rfl) (fun _ _ _ h => h) (Or.inl ⟨by rfl, fun w' hw' => ?_⟩) hHeld ?_
  · first | (go_simp; done) | (go_simp; rfl)
  try simp only [Act.put, qT, q0, qS]
  refine wpAnyH_take (i := 11) (oi := ⟨some 22, .extract (.tmp 20) 1, 48, _, #[⟨9, .data⟩], none⟩) (v := .int .i64 n) rfl (by kernel_rfl) (by kernel_rfl) (by kernel_rfl) (fun _ _ _ h => h) (Or.inl ⟨by rfl, fun w' hw' => ?_⟩) hHeld ?_
  · first | (go_simp; done) | (go_simp; rfl)
  try simp only [Act.put, qT, q0, qS]
  refine wpAnyH_ready (rs := [12]) (by kernel_rfl) (by simp) ?_
  refine AllReadyH.cons (o := ⟨none, .store 33 (.tmp 6) (.tmp 21), 0, _, #[⟨10, .data⟩, ⟨9, .chain⟩, ⟨0, .phase⟩, ⟨1, .phase⟩, ⟨2, .phase⟩, ⟨3, .phase⟩, ⟨4, .phase⟩, ⟨5, .phase⟩, ⟨6, .phase⟩, ⟨7, .phase⟩, ⟨8, .phase⟩, ⟨9, .phase⟩, ⟨10, .phase⟩, ⟨11, .phase⟩], none⟩) rfl (fun K hK => ?_) AllReadyH.nil
  rw [if_pos (by rfl)]
  obtain ⟨Z3, hz3, hr3⟩ := hHeld3.z
  refine wp_store_row 33 _ _ rfl w.heap.size AA rfl rfl 33 _ hr3 (info32a _ HAS.out) (hz3.trans HAS.out.symm) HA1.out ?_
  have hr4 := setRow_heap _ _ _ AA _ _ hr3
  have hogn : og ≠ w.heap.size := by omega
  have hHeld4 : SKy og w.heap.size (m.map B8) (w3.setRow w.heap.size AA) := ⟨fun j v hv => (World.cell?_of_block (a := ⟨og, 1 + j, none⟩) (setRow_other _ _ _ _ hogn)).trans (hHeld3.m j v hv), AA, HAS.out, hr4⟩
  refine hK.out _ _ hHeld4 (fun _ => ?_)
  clear hK K
  try simp only [Act.put, qT, q0, qS]
  have hHeld := hHeld4
  refine wpAnyH_ready (rs := [13]) (by kernel_rfl) (by simp) ?_
  refine AllReadyH.cons (o := ⟨some 7, .assign (.tmp 22), 48, _, #[⟨11, .data⟩, ⟨12, .chain⟩, ⟨0, .phase⟩, ⟨1, .phase⟩, ⟨2, .phase⟩, ⟨3, .phase⟩, ⟨4, .phase⟩, ⟨5, .phase⟩, ⟨6, .phase⟩, ⟨7, .phase⟩, ⟨8, .phase⟩, ⟨9, .phase⟩, ⟨10, .phase⟩, ⟨11, .phase⟩, ⟨12, .phase⟩], none⟩) rfl (fun K hK => ?_) AllReadyH.nil
  rw [if_pos (by rfl)]
  go_wp2_with fail
  refine hK.out _ _ hHeld4 (fun _ => ?_)
  clear hK K
  try simp only [Act.put, qT, q0, qS]
  refine wpAnyH_done (by kernel_rfl) ?_ _
  have HR4 : Hid _ := hr4
  clear hHeld hHeld2 hHeld3 hHeld4 hr3 hz3 hr4
  go_wp2
  refine bodyPost_ret (v := .tuple #[.agg AA, .int .i64 n]) ?_ rfl ⟨w2, _, w3, AA, rfl, HB2.out, hs2, HRR.out, rfl⟩
  exact results_dig2 Tryz.results48 _ _ w.heap.size 33 _ (0, 0) _ rfl rfl HR4.out (info32a _ HAS.out)
theorem pkey_ok (B og mb : Nat) (S : Nat → Prop) (pv dv ov : Value) (o : Pra) (d : Int) (ls : List (List UInt8)) (r : List UInt8 × Pra) (w : World) (hB : B ≤ w.heap.size) (ho : PO B og mb S w o dv ov) (hp : HP w pv ls) (hl : ls.length ≤ 1048576) (hr : ls.flatten.length ≤ 1099511627776) (hrl : r.1.length = 32) (hmm : r.2.master = o.master)
    (hA : ∀ W v, Below w.heap.size w W → HB W v ls.flatten → Calls Tryz.prog 79 #[.pointer (some ⟨og, 0, none⟩), .agg (qL ⟨3, o.master, d, ls.flatten⟩ v).toArray] W fun e w' => PAsk B og mb S W r dv e w') :
    Calls Tryz.prog 48 #[.pointer (some ⟨og, 0, none⟩), .int .i64 d, pv] w fun e w' => PAsk B og mb S w r dv e w' := by
  refine (pkey_gen og mb pv o.master d ls w (fun W v w3 => v = okV r.1 ∧ Fr S W w3 ∧ ∃ ov', PO B og mb (fun k => S k ∨ (W.heap.size ≤ k ∧ k < w3.heap.size)) w3 r.2 dv ov') ho.cells.2.2.2.1 ho.master ho.ml hp hl hr (fun W v hb hv => (hA W v hb hv).mono ?_)).mono ?_
  · rintro e w' ⟨rfl, hfr, hpo⟩
    refine ⟨r.1, 0, hrl, rfl, ⟨rfl, hfr, hpo⟩, fun hs => hfr.block _ hs (fun h => by have := ho.top _ h; omega), ?_⟩
    obtain ⟨ov', hpo⟩ := hpo
    rw [← hmm]; exact hpo.master
  · rintro e w' ⟨W, v, w3, N, rfl, hb, hs, ⟨rfl, hfr, hpo⟩, rfl⟩
    obtain ⟨h1, h2⟩ := pend ho hB hb (Nat.le_refl _) hs hfr hpo N
    exact ⟨rfl, h1, h2⟩
end Go.Proofs.YtekbppfocnbhbaaGreat.R5
