import Derived.Test.YtekbppfocnbhbaaGreatQJ
import Derived.Lib.LazyBuf
set_option linter.unusedVariables false
set_option linter.unusedSimpArgs false
set_option maxHeartbeats 16000000
set_option maxRecDepth 100000
namespace Go.Proofs.YtekbppfocnbhbaaGreat.R5
open scoped Classical
open Go.RowKit
theorem pdig_ok (B og mb : Nat) (S : Nat → Prop) (pv dv ov : Value) (o : Pra) (d : Int) (ls : List (List UInt8)) (r : List UInt8 × Pra) (w : World) (hB : B ≤ w.heap.size) (ho : PO B og mb S w o dv ov) (hp : HP w pv ls) (hl : ls.length ≤ 1048576) (hr : ls.flatten.length ≤ 1099511627776) (hrl : r.1.length = 32)
    (hA : ∀ W v, Below w.heap.size w W → HB W v ls.flatten → Calls Tryz.prog 79 #[.pointer (some ⟨og, 0, none⟩), .agg (qL ⟨1, List.replicate 32 0, d, ls.flatten⟩ v).toArray] W fun e w' => PAsk B og mb S W r dv e w') :
    Calls Tryz.prog 78 #[.pointer (some ⟨og, 0, none⟩), .int .i64 d, pv] w fun e w' => PAsk B og mb S w r dv e w' := by
  refine (pdig_gen (.pointer (some ⟨og, 0, none⟩)) pv d ls w (fun W v w3 => v = okV r.1 ∧ Fr S W w3 ∧ ∃ ov', PO B og mb (fun k => S k ∨ (W.heap.size ≤ k ∧ k < w3.heap.size)) w3 r.2 dv ov') hp hl hr (fun W v hb hv => (hA W v hb hv).mono ?_)).mono ?_
  · rintro e w' ⟨rfl, hfr, hpo⟩
    exact ⟨r.1, 0, hrl, rfl, ⟨rfl, hfr, hpo⟩, fun hs => hfr.block _ hs (fun h => by have := ho.top _ h; omega)⟩
  · rintro e w' ⟨W, v, w3, N, rfl, hb, hs, ⟨rfl, hfr, hpo⟩, rfl⟩
    obtain ⟨h1, h2⟩ := pend ho hB hb (Nat.le_refl _) hs hfr hpo N
    exact ⟨rfl, h1, h2⟩
structure SKy (og b : Nat) (ML : List Value) (X : World) : Prop where
  m : X.rangeAt og 1 ML
  z : ∃ Z, Z.size = 32 ∧ X.heap[b]? = some (.cells Z 33 (0, 0))
theorem pkey_gen (og mb : Nat) (pv : Value) (m : List UInt8) (d : Int) (ls : List (List UInt8)) (w : World) (R : World → Value → World → Prop) (hc : w.cell? ⟨og, 35, none⟩ = some (.map (some mb))) (hm : w.rangeAt og 1 (m.map B8)) (hml : m.length = 32) (hp : HP w pv ls) (hl : ls.length ≤ 1048576) (hr : ls.flatten.length ≤ 1099511627776)
    (hA : ∀ W v, Below w.heap.size w W → HB W v ls.flatten → Calls Tryz.prog 79 #[.pointer (some ⟨og, 0, none⟩), .agg (qL ⟨3, m, d, ls.flatten⟩ v).toArray] W fun e w' => ∃ A n, A.length = 32 ∧ e = .returned (.tuple #[dV A, .int .i64 n]) ∧ R W (.tuple #[dV A, .int .i64 n]) w' ∧ (w.heap.size < W.heap.size → w'.heap[w.heap.size]? = W.heap[w.heap.size]?) ∧ w'.rangeAt og 1 (m.map B8)) :
    Calls Tryz.prog 48 #[.pointer (some ⟨og, 0, none⟩), .int .i64 d, pv] w fun e w' => ∃ W v w3 N, e = .returned v ∧ Below w.heap.size w W ∧ w.heap.size < W.heap.size ∧ R W v w3 ∧ w' = w3.setRow w.heap.size N := by
  have hzv := fun W => zero_dig W
  have hbd := fun W => build_dig W
  obtain ⟨ZL, hZL⟩ : ∃ L, L = (List.replicate 32 (0 : UInt8)).map B8 := ⟨_, rfl⟩
  have HZV : Hid (dV (List.replicate 32 0) = .agg ZL.toArray) := by show _ = _; rw [hZL]; rfl
  rw [← hZL] at hzv hbd
  have HZS : Hid (ZL.toArray.size = 32) := by show _ = _; rw [hZL]; simp
  have HZ1 : Hid (ZL.toArray.all (·.oneCell') = true) := by show _ = _; rw [hZL]; exact B8_onea _
  clear hZL
  have hb1 : Below w.heap.size w (w.alloc (.cells ZL.toArray 33 (0, 0))) := (Below.refl _ _).alloc (Nat.le_refl _) _
  have HR1 : Hid ((w.alloc (.cells ZL.toArray 33 (0, 0))).heap[w.heap.size]? = some (.cells ZL.toArray 33 (0, 0))) := heap_at _ _ _ rfl
  have HB1 : Hid _ := hb1
  have hog := block_lt hc
  simp only at hog
  have HJ : Hid (∀ X, Below w.heap.size w X → Calls Tryz.prog 80 #[pv] X fun e w' => ∃ v, e = .returned v ∧ FB X.heap.size w' v ls.flatten ∧ Below X.heap.size X w') := fun X hb => pjoin_any pv ls _ hl hr (hp_below hp hb)
  have HA : Hid (∀ W v, Below w.heap.size w W → HB W v ls.flatten → Calls Tryz.prog 79 #[.pointer (some ⟨og, 0, none⟩), .agg (qL ⟨3, m, d, ls.flatten⟩ v).toArray] W fun e w' => ∃ A n, A.length = 32 ∧ e = .returned (.tuple #[dV A, .int .i64 n]) ∧ R W (.tuple #[dV A, .int .i64 n]) w' ∧ (w.heap.size < W.heap.size → w'.heap[w.heap.size]? = W.heap[w.heap.size]?) ∧ w'.rangeAt og 1 (m.map B8)) := hA
  have HNN : Hid _ := none_no og mb _ ((hb1.cell (show (⟨og, 35, none⟩ : Addr).block < w.heap.size from hog)).trans hc)
  have HML : Hid ((m.map B8).length = 32) := by show _ = _; simpa using hml
  have HMI : Hid _ := info32 (m.map B8) HML.out
  have HSK : Hid (SKy og w.heap.size (m.map B8) (w.alloc (.cells ZL.toArray 33 (0, 0))).drew) := ⟨rangeAt_below hm (hb1.drew), _, HZS.out, HR1.out⟩
  have HBD : Hid (Below w.heap.size w (w.alloc (.cells ZL.toArray 33 (0, 0))).drew) := hb1.drew
  have HSD : Hid (w.heap.size < (w.alloc (.cells ZL.toArray 33 (0, 0))).drew.heap.size) := by show _ < _; exact row_lt HR1.out
  clear hA hp hb1 hr hc hm
  generalize ls.flatten = l at *
  go_enter Tryz.func48, Tryz.ntmps48
  go_wp2_with (go_at_call 56; refine Calls.mono HNN.out ?_; rintro e w1 ⟨rfl, rfl⟩)
  refine wp_region_held_drew (S := SKy og w.heap.size (m.map B8)) (by kernel_rfl) HSK.out (fun hHeld => ?_)
  generalize (w.alloc (.cells ZL.toArray 33 (0, 0))).drew = W1 at *
  refine qzI 0 ⟨some 11, .move (.tmp 0), 25, _, #[], none⟩ (.pointer (some ⟨og, 0, none⟩)) rfl (by kernel_rfl) (fun _ _ _ h => h) (by rfl) (fun w' hw' => ?_) hHeld ?_
  · go_simp <;> rfl
  try simp only [Act.put, qT, q0, qS]
  refine qzI 1 ⟨some 12, .move (.tmp 0), 25, _, #[], none⟩ (.pointer (some ⟨og, 0, none⟩)) rfl (by kernel_rfl) (fun _ _ _ h => h) (by rfl) (fun w' hw' => ?_) hHeld ?_
  · go_simp <;> rfl
  try simp only [Act.put, qT, q0, qS]
  refine qzI 2 ⟨some 13, .nilCheck (.tmp 12), 0, _, #[⟨1, .data⟩], none⟩ (.pointer (some ⟨og, 0, none⟩)) rfl (by kernel_rfl) (fun _ _ _ h => h) (by rfl) (fun w' hw' => ?_) hHeld ?_
  · go_simp <;> rfl
  try simp only [Act.put, qT, q0, qS]
  refine qzI 3 ⟨some 14, .fieldAddr 116 (.tmp 13) 1, 0, _, #[⟨2, .data⟩], none⟩ (.pointer (some ⟨og, 1, none⟩)) rfl (by kernel_rfl) (fun _ _ _ h => h) (by rfl) (fun w' hw' => ?_) hHeld ?_
  · go_simp <;> rfl
  try simp only [Act.put, qT, q0, qS]
  refine qzK 4 ⟨some 15, .load 33 (.tmp 14), 33, _, #[⟨3, .data⟩], none⟩ _ rfl (by kernel_rfl) (fun _ _ _ h => h) (yieldsIf_load_mid (by rfl) 33 (.tmp 14) rfl (og) (1) rfl (m.map B8) _ (fun _ h => h.m) Tryz.underlying33 rfl HMI.out) hHeld ?_
  try simp only [Act.put, qT, q0, qS]
  refine qzI 5 ⟨some 16, .move (.tmp 1), 105, _, #[], none⟩ (.int .i64 d) rfl (by kernel_rfl) (fun _ _ _ h => h) (by rfl) (fun w' hw' => ?_) hHeld ?_
  · go_simp <;> rfl
  try simp only [Act.put, qT, q0, qS]
  refine qzI 6 ⟨some 17, .move (.tmp 2), 144, _, #[], none⟩ (pv) rfl (by kernel_rfl) (fun _ _ _ h => h) (by rfl) (fun w' hw' => ?_) hHeld ?_
  · go_simp <;> rfl
  try simp only [Act.put, qT, q0, qS]
  refine qzR 7 ⟨some 18, .call ⟨.value (.func 80), #[.tmp 17], #[144]⟩, 106, _, #[⟨6, .data⟩], none⟩ (by kernel_rfl) rfl (by rfl) (fun K hK => ?_)
  go_wp2_with fail
  refine Calls.mono (HJ.out W1 HBD.out) ?_
  rintro e w2 ⟨v2, rfl, hf2, hb2⟩
  obtain ⟨p2, c2, hv2, _, _⟩ := hb_cells hf2.hb
  subst hv2
  have hh2 := hf2.hb
  have hs1 := HSD.out
  have HB2 : Hid (Below w.heap.size w w2) := HBD.out.trans (hb2.mono (by omega))
  have hHeld2 : SKy og w.heap.size (m.map B8) w2 := (by obtain ⟨Z, hz1, hz2⟩ := hHeld.z; exact ⟨rangeAt_below hHeld.m hb2, Z, hz1, (hb2.block _ hs1).trans hz2⟩)
  have hA2 := HA.out w2 _ HB2.out hh2
  have hbk := fun W => build_q4 W 3 d (m.map B8) HML.out p2 l.length c2
  have hqq : Value.int .i64 3 :: (m.map B8 ++ [.int .i64 d, .slice p2 l.length c2]) = qL ⟨3, m, d, l⟩ (.slice p2 l.length c2) := rfl
  rw [hqq] at hbk
  generalize qL ⟨3, m, d, l⟩ (.slice p2 l.length c2) = QB at *
  have HBK : Hid _ := hbk
  have HA2 : Hid _ := hA2
  clear hqq hh2 hbk hA2 hf2 hb2 hHeld
  refine hK.out _ _ hHeld2 (fun _ => ?_)
  clear hK K
  try simp only [Act.put, qT, q0, qS]
  have hHeld := hHeld2
  refine qzI 8 ⟨some 19, .build 138 #[(0, .const (Go.Value.int Go.IntKind.i64 3)), (1, .tmp 15), (2, .tmp 16), (3, .tmp 18)], 138, _, #[⟨4, .data⟩, ⟨5, .data⟩, ⟨7, .data⟩], none⟩ (.agg QB.toArray) rfl (by kernel_rfl) (fun _ _ _ h => h) (by rfl) (fun w' hw' => ?_) hHeld ?_
  · exact exec_build _ _ 138 _ _ _ w' rfl (by simp; exact ⟨rfl, rfl, rfl, rfl⟩) (HBK.out w')
  try simp only [Act.put, qT, q0, qS]
  refine qzR 9 ⟨some 20, .call ⟨.value (.func 79), #[.tmp 11, .tmp 19], #[25, 138]⟩, 107, _, #[⟨0, .data⟩, ⟨8, .data⟩, ⟨7, .chain⟩], none⟩ (by kernel_rfl) rfl (by rfl) (fun K hK => ?_)
  go_wp2_with fail
  refine Calls.mono HA2.out ?_
  rintro e w3 ⟨A, n, hAl, rfl, hR, hk, hmm⟩
  have hs2 : w.heap.size < w2.heap.size := by obtain ⟨Z, hz1, hz2⟩ := hHeld2.z; exact row_lt hz2
  have hHeld3 : SKy og w.heap.size (m.map B8) w3 := (by obtain ⟨Z, hz1, hz2⟩ := hHeld2.z; exact ⟨hmm, Z, hz1, (hk hs2).trans hz2⟩)
  have hA : (A.map B8).toArray.size = 32 := by simpa using hAl
  have HAS : Hid _ := hA
  have HA1 : Hid _ := B8_onea A
  have HRR : Hid _ := hR
  clear hk hA hAl hR HA2 hmm hHeld
  unfold dV at *
  generalize (A.map B8).toArray = AA at *
  refine hK.out _ _ hHeld3 (fun _ => ?_)
  clear hK K
  try simp only [Act.put, qT, q0, qS]
  have hHeld := hHeld3
  refine qzI 10 ⟨some 21, .extract (.tmp 20) 0, 33, _, #[⟨9, .data⟩], none⟩ (.agg AA) rfl (by kernel_rfl) (fun _ _ _ h => h) (by rfl) (fun w' hw' => ?_) hHeld ?_
  · go_simp <;> rfl
  try simp only [Act.put, qT, q0, qS]
  refine qzI 11 ⟨some 22, .extract (.tmp 20) 1, 48, _, #[⟨9, .data⟩], none⟩ (.int .i64 n) rfl (by kernel_rfl) (fun _ _ _ h => h) (by rfl) (fun w' hw' => ?_) hHeld ?_
  · go_simp <;> rfl
  try simp only [Act.put, qT, q0, qS]
  refine qzR 12 ⟨none, .store 33 (.tmp 6) (.tmp 21), 0, _, #[⟨10, .data⟩, ⟨9, .chain⟩, ⟨0, .phase⟩, ⟨1, .phase⟩, ⟨2, .phase⟩, ⟨3, .phase⟩, ⟨4, .phase⟩, ⟨5, .phase⟩, ⟨6, .phase⟩, ⟨7, .phase⟩, ⟨8, .phase⟩, ⟨9, .phase⟩, ⟨10, .phase⟩, ⟨11, .phase⟩], none⟩ (by kernel_rfl) rfl (by rfl) (fun K hK => ?_)
  obtain ⟨Z3, hz3, hr3⟩ := hHeld3.z
  refine wp_store_row 33 _ _ rfl w.heap.size AA rfl rfl 33 _ hr3 (info32a _ HAS.out) (hz3.trans HAS.out.symm) HA1.out ?_
  have hr4 := setRow_heap _ _ _ AA _ _ hr3
  have hogn : og ≠ w.heap.size := by omega
  have hHeld4 : SKy og w.heap.size (m.map B8) (w3.setRow w.heap.size AA) := ⟨fun j v hv => (World.cell?_of_block (a := ⟨og, 1 + j, none⟩) (setRow_other _ _ _ _ hogn)).trans (hHeld3.m j v hv), AA, HAS.out, hr4⟩
  refine hK.out _ _ hHeld4 (fun _ => ?_)
  clear hK K
  try simp only [Act.put, qT, q0, qS]
  have hHeld := hHeld4
  refine qzR 13 ⟨some 7, .assign (.tmp 22), 48, _, #[⟨11, .data⟩, ⟨12, .chain⟩, ⟨0, .phase⟩, ⟨1, .phase⟩, ⟨2, .phase⟩, ⟨3, .phase⟩, ⟨4, .phase⟩, ⟨5, .phase⟩, ⟨6, .phase⟩, ⟨7, .phase⟩, ⟨8, .phase⟩, ⟨9, .phase⟩, ⟨10, .phase⟩, ⟨11, .phase⟩, ⟨12, .phase⟩], none⟩ (by kernel_rfl) rfl (by rfl) (fun K hK => ?_)
  go_wp2_with fail
  refine hK.out _ _ hHeld4 (fun _ => ?_)
  clear hK K
  try simp only [Act.put, qT, q0, qS]
  refine wpAnyH_done (by kernel_rfl) ?_ _
  have HR4 : Hid _ := hr4
  clear hHeld hHeld2 hHeld3 hHeld4 hr3 hz3 hr4
  go_wp2
  refine bodyPost_ret (v := .tuple #[.agg AA, .int .i64 n]) ?_ rfl ⟨w2, _, w3, AA, rfl, HB2.out, hs2, HRR.out, rfl⟩
  exact results_dig2 Tryz.results48 _ _ w.heap.size 33 _ (0, 0) _ rfl rfl HR4.out (info32a _ HAS.out)
theorem pkey_ok (B og mb : Nat) (S : Nat → Prop) (pv dv ov : Value) (o : Pra) (d : Int) (ls : List (List UInt8)) (r : List UInt8 × Pra) (w : World) (hB : B ≤ w.heap.size) (ho : PO B og mb S w o dv ov) (hp : HP w pv ls) (hl : ls.length ≤ 1048576) (hr : ls.flatten.length ≤ 1099511627776) (hrl : r.1.length = 32) (hmm : r.2.master = o.master)
    (hA : ∀ W v, Below w.heap.size w W → HB W v ls.flatten → Calls Tryz.prog 79 #[.pointer (some ⟨og, 0, none⟩), .agg (qL ⟨3, o.master, d, ls.flatten⟩ v).toArray] W fun e w' => PAsk B og mb S W r dv e w') :
    Calls Tryz.prog 48 #[.pointer (some ⟨og, 0, none⟩), .int .i64 d, pv] w fun e w' => PAsk B og mb S w r dv e w' := by
  refine (pkey_gen og mb pv o.master d ls w (fun W v w3 => v = okV r.1 ∧ Fr S W w3 ∧ ∃ ov', PO B og mb (fun k => S k ∨ (W.heap.size ≤ k ∧ k < w3.heap.size)) w3 r.2 dv ov') ho.cells.2.2.2.1 ho.master ho.ml hp hl hr (fun W v hb hv => (hA W v hb hv).mono ?_)).mono ?_
  · rintro e w' ⟨rfl, hfr, hpo⟩
    refine ⟨r.1, 0, hrl, rfl, ⟨rfl, hfr, hpo⟩, fun hs => hfr.block _ hs (fun h => by have := ho.top _ h; omega), ?_⟩
    obtain ⟨ov', hpo⟩ := hpo
    rw [← hmm]; exact hpo.master
  · rintro e w' ⟨W, v, w3, N, rfl, hb, hs, ⟨rfl, hfr, hpo⟩, rfl⟩
    obtain ⟨h1, h2⟩ := pend ho hB hb (Nat.le_refl _) hs hfr hpo N
    exact ⟨rfl, h1, h2⟩
def dC (ds : List (List UInt8)) : List Value := ds.flatMap fun d => d.map B8
theorem dC_len : ∀ (ds : List (List UInt8)), (∀ d ∈ ds, d.length = 32) → (dC ds).length = ds.length * 32
  | [], _ => rfl
  | d :: ds, h => by
    unfold dC
    rw [List.flatMap_cons, List.length_append, List.length_map, h d (by simp)]
    have := dC_len ds (fun x hx => h x (by simp [hx]))
    unfold dC at this
    rw [this, List.length_cons]; omega
theorem dC_at : ∀ (ds : List (List UInt8)), (∀ d ∈ ds, d.length = 32) → ∀ i, i < ds.length → ∀ j, j < 32 → (dC ds)[i * 32 + j]? = ((ds.getD i []).map B8)[j]?
  | [], _, i, hi, _, _ => by simp at hi
  | d :: ds, h, i, hi, j, hj => by
    have hd : (d.map B8).length = 32 := by simpa using h d (by simp)
    unfold dC
    rw [List.flatMap_cons]
    cases i with
    | zero => rw [Nat.zero_mul, Nat.zero_add, List.getElem?_append_left (by omega)]; rfl
    | succ i =>
      rw [List.getElem?_append_right (by rw [hd]; omega), hd, show (i + 1) * 32 + j - 32 = i * 32 + j by omega]
      have := dC_at ds (fun x hx => h x (by simp [hx])) i (by simpa using hi) j hj
      unfold dC at this
      rw [this]; rfl
theorem dC_one (ds : List (List UInt8)) : ∀ u ∈ dC ds, u.oneCell' = true := by
  intro u hu
  obtain ⟨d, _, hd⟩ := List.mem_flatMap.1 hu
  exact B8_one d u hd
theorem hds_own {B : Nat} {w : World} {v : Value} {ds : List (List UInt8)} (hl : ∀ d ∈ ds, d.length = 32) (h : w.ownsRow B 33 32 v ds.length (dC ds)) : HDs w v ds := by
  refine ⟨hl, ?_⟩
  rcases h.2 with ⟨e1, e2⟩ | ⟨g, cap, cur, e1, e2, e3, e4, e5, e6, e7⟩
  · exact ⟨none, 0, by rw [e1, e2], fun i hi => by omega⟩
  · refine ⟨_, cap, e1, fun i hi => ⟨g, 0, rfl, fun j u hu => ?_⟩⟩
    have hdl : (ds.getD i []).length = 32 := by
      rw [List.getD, List.getElem?_eq_getElem hi]
      exact hl _ (List.getElem_mem hi)
    have hj : j < 32 := by have := (List.getElem?_eq_some_iff.1 hu).1; rw [List.length_map, hdl] at this; exact this
    rw [cell_of_row _ _ _ _ _ _ e3]
    have h1 := dC_at ds hl i hi j hj
    rw [← e7] at h1
    rw [List.getElem?_take, if_pos (by omega)] at h1
    rw [← Array.getElem?_toList, Nat.zero_add, h1]
    exact hu
theorem infoDg : (Tryz.prog.info? 33).map (fun i => (i.zero, i.size, i.bytes)) = some (some (dV (List.replicate 32 0)), 32, 32) := by kernel_rfl
theorem hds_news {w : World} {a : Addr} {n cap : Nat} {ds : List (List UInt8)} (h : HDs w (.slice (some a) n cap) ds) : n = ds.length ∧ ∀ j u, (dC ds)[j]? = some u → w.cell? (a.add j) = some u := by
  obtain ⟨hl, p, c, e, hr⟩ := h
  simp only [Value.slice.injEq] at e
  refine ⟨e.2.1, fun j u hu => ?_⟩
  have hj : j < ds.length * 32 := by have := (List.getElem?_eq_some_iff.1 hu).1; rwa [dC_len ds hl] at this
  obtain ⟨b, o, e1, hr⟩ := hr (j / 32) (by omega)
  have h1 := dC_at ds hl (j / 32) (by omega) (j % 32) (by omega)
  rw [show j / 32 * 32 + j % 32 = j by omega, hu] at h1
  have h2 := hr (j % 32) u h1.symm
  have ha : a = ⟨b, o, none⟩ := by rw [e1] at e; simpa using e.1
  rw [ha, add_none, show o + j = o + j / 32 * 32 + j % 32 by omega]
  exact h2
theorem cloneD_any (p : Option Addr) (n cap : Nat) (ds : List (List UInt8)) (w : World) (hpc : p = none → cap = 0) (hl : ds.length ≤ 1099511627776) (h : HDs w (.slice p n cap) ds) :
    Calls Tryz.prog 72 #[.slice p n cap] w fun e w' => ∃ v, e = .returned v ∧ w'.ownsRow w.heap.size 33 32 v ds.length (dC ds) ∧ Below w.heap.size w w' := by
  have qT : ∀ (w : World) (r : Option Addr) (n c : Nat), (binOp .eql 22 (.slice r n c) (.slice none 0 0)).run Tryz.prog w = .ok (.bool r.isNone) w := fun w r n c => Lib.run_eql_slice_nil w _ _ r n c 0 0 Tryz.underlying22
  cases p with
  | none =>
    obtain ⟨hl, p, c, e, hr⟩ := h
    have hds : ds = [] := by
      cases ds with
      | nil => rfl
      | cons d ds => obtain ⟨b, o, e1, _⟩ := hr 0 (by simp); simp [e1] at e
    subst hds
    clear hr hl
    go_enter Tryz.func72, Tryz.ntmps72
    go_wp2
    go_ret
    exact ⟨_, rfl, World.ownsRow_nil _ _ _ _, Below.refl _ _⟩
  | some a =>
    obtain ⟨hn, hnews⟩ := hds_news h
    subst hn
    have HN : Hid _ := hnews
    have HL : Hid _ := dC_len ds h.1
    have HO1 : Hid _ := dC_one ds
    clear hnews h
    obtain ⟨i0, hi, hz0, hz1, hz2⟩ := info_parts infoDg
    go_enter Tryz.func72, Tryz.ntmps72
    have HOE : Hid ((w.alloc (.cells #[] 33 (0, 0))).ownsRow w.heap.size 33 32 (.slice (some ⟨w.heap.size, 0, none⟩) 0 0) 0 []) := ⟨rfl, .inr ⟨w.heap.size, 0, #[], rfl, Nat.le_refl _, heap_alloc_new _ _, Nat.le_refl _, by unfold maxLen; omega, rfl, rfl⟩⟩
    have HN' : Hid (∀ j u, (dC ds)[j]? = some u → (w.alloc (.cells #[] 33 (0, 0))).cell? (a.add j) = some u) := fun j u hu => (Below.cell ((Below.refl _ w).alloc (Nat.le_refl _) _) (block_lt (HN.out j u hu))).trans (HN.out j u hu)
    go_wp2_with (at_builtin; refine wpList_append_own _ rfl (.tmp 5) (.tmp 6) 22 rfl w.heap.size 33 i0 (dV (List.replicate 32 0)) 32 32 Tryz.underlying22 hi hz0 hz1 hz2 rfl (by decide) (.slice (some ⟨w.heap.size, 0, none⟩) 0 0) 0 [] rfl HOE.out a ds.length cap (dC ds) rfl HL.out HN'.out HO1.out (by unfold maxLen; omega) (by omega) (by simp) ?_; intro v1 w1 hown1 hgr1 hn1)
    go_ret
    rw [List.nil_append, Nat.zero_add] at hown1
    exact ⟨_, rfl, hown1, ((Below.refl _ w).alloc (Nat.le_refl _) _).grown hgr1 (by simp) (fun k e => by have e' : w.heap.size = k := (by simpa [Value.ownBlock] using e); omega)⟩
theorem build_po (w : World) (i : Bool) (DL : List Value) (h2 : DL.length = 32) (p : Option Addr) (n c mb : Nat) : (Instr.build 116 #[(0, .bool i), (1, .agg DL.toArray), (2, .slice p n c), (4, .map (some mb))]).run Tryz.prog w = .ok (.agg (.bool i :: (DL ++ [.slice p n c, .slice none 0 0, .map (some mb)])).toArray) w := by
  iterate 32 (obtain ⟨_, _, e, g⟩ := cons_of h2; clear h2; subst e; have h2 := g; clear g)
  obtain rfl := List.eq_nil_of_length_eq_zero h2
  show _ = _
  kernel_rfl
def PNew (w : World) (i : Bool) (m : List UInt8) (ds : List (List UInt8)) (e : Ending) (w' : World) : Prop :=
  ∃ og mb dv, e = .returned (.pointer (some ⟨og, 0, none⟩)) ∧ PO w.heap.size og mb (fun k => k = og ∨ k = mb) w' ⟨i, m, ds, []⟩ dv (.slice none 0 0) ∧ Below w.heap.size w w' ∧ ∀ k, dv.ownBlock = some k → w.heap.size ≤ k
theorem po_new {w W : World} {i : Bool} {m : List UInt8} {ds : List (List UInt8)} {dv : Value} {mb : Nat} (hml : m.length = 32) (hd : W.ownsRow w.heap.size 33 32 dv ds.length (dC ds)) (hdl : ∀ d ∈ ds, d.length = 32) (hm : W.heap[mb]? = some (.map #[] 0)) (hmb : w.heap.size ≤ mb) (hb : Below w.heap.size w W) :
    PO w.heap.size W.heap.size mb (fun k => k = W.heap.size ∨ k = mb) (W.alloc (.cells (pL i m dv (.slice none 0 0) mb).toArray 116 (0, 0))) ⟨i, m, ds, []⟩ dv (.slice none 0 0) := by
  have hmW := row_lt hm
  refine ⟨hml, heap_alloc_new _ _, hds_own hdl (hd.alloc _), fun k e => ?_, ⟨fun x hx => by simp at hx, by simp⟩, World.ownsRow_nil _ _ _ _, ⟨#[], 0, (heap_alloc_old _ _ hmW).trans hm, by simp⟩, .inl rfl, .inr rfl, fun k e => by simp [Value.ownBlock] at e, fun k h => ?_, fun k h => ?_⟩
  · have hk := hd.lt k e
    refine ⟨fun h => h.elim (fun h => by omega) (fun h => ?_), by simp; omega⟩
    subst h
    rcases hd.2 with ⟨e1, _⟩ | ⟨g, cap, cur, e1, _, e3, _⟩
    · rw [e1] at e; cases e
    · rw [e1] at e
      have e' : g = k := by simpa [Value.ownBlock] using e
      rw [e', hm] at e3
      cases e3
  · rcases h with h | h
    · have := hb.size; omega
    · omega
  · rcases h with h | h <;> simp <;> omega
theorem own_lower {B B' : Nat} {e : TypeId} {s : Nat} {v : Value} {n : Nat} {xs : List Value} {w : World} (h : w.ownsRow B e s v n xs) (hB : B' ≤ B) : w.ownsRow B' e s v n xs := by
  refine ⟨h.1, h.2.imp id ?_⟩
  rintro ⟨g, cap, cur, e1, e2, e3⟩
  exact ⟨g, cap, cur, e1, Nat.le_trans hB e2, e3⟩
structure SNw (w : World) (ML : List Value) (X : World) : Prop where
  b : Below w.heap.size w X
  m : X.heap[w.heap.size]? = some (.cells ML.toArray 33 (0, 0))
theorem pnew_any (i : Bool) (m : List UInt8) (p : Option Addr) (n cap : Nat) (ds : List (List UInt8)) (w : World) (hml : m.length = 32) (hpc : p = none → cap = 0) (hl : ds.length ≤ 1099511627776) (h : HDs w (.slice p n cap) ds) :
    Calls Tryz.prog 32 #[.bool i, .agg (m.map B8).toArray, .slice p n cap] w fun e w' => PNew w i m ds e w' := by
  have hdl := h.1
  have hcl := fun W (hb : Below w.heap.size w W) => cloneD_any p n cap ds W hpc hl (hds_below h hb)
  have HCL : Hid (∀ W, Below w.heap.size w W → Calls Tryz.prog 72 #[.slice p n cap] W fun e w' => ∃ v, e = .returned v ∧ w'.ownsRow W.heap.size 33 32 v ds.length (dC ds) ∧ Below W.heap.size W w') := hcl
  have HML : Hid ((m.map B8).length = 32) := by show _ = _; simpa using hml
  have HMI : Hid _ := info32 (m.map B8) HML.out
  have hb1 : Below w.heap.size w (w.alloc (.cells (m.map B8).toArray 33 (0, 0))).drew := ((Below.refl _ _).alloc (Nat.le_refl _) _).drew
  have HS : Hid (SNw w (m.map B8) (w.alloc (.cells (m.map B8).toArray 33 (0, 0))).drew) := ⟨hb1, heap_at _ _ _ rfl⟩
  have hmm := @run_makeMap Tryz.prog
  clear hcl h hb1
  go_enter Tryz.func32, Tryz.ntmps32
  go_wp2
  refine wp_region_held_drew (S := SNw w (m.map B8)) (by kernel_rfl) HS.out (fun hHeld => ?_)
  generalize (w.alloc (.cells (m.map B8).toArray 33 (0, 0))).drew = W1 at *
  refine qzI 0 ⟨some 7, .move (.tmp 0), 4, _, #[], none⟩ (.bool i) rfl (by kernel_rfl) (fun _ _ _ h => h) (by rfl) (fun w' hw' => ?_) hHeld ?_
  · go_simp <;> rfl
  try simp only [Act.put, qT, q0, qS]
  refine qzK 1 ⟨some 8, .load 33 (.tmp 4), 33, _, #[], none⟩ _ rfl (by kernel_rfl) (fun _ _ _ h => h) (yieldsIf_load_mid (by rfl) 33 (.tmp 4) rfl (w.heap.size) (0) rfl (m.map B8) _ (fun _ h => rangeAt_row h.m) Tryz.underlying33 rfl HMI.out) hHeld ?_
  try simp only [Act.put, qT, q0, qS]
  refine qzI 2 ⟨some 9, .move (.tmp 2), 22, _, #[], none⟩ (.slice p n cap) rfl (by kernel_rfl) (fun _ _ _ h => h) (by rfl) (fun w' hw' => ?_) hHeld ?_
  · go_simp <;> rfl
  try simp only [Act.put, qT, q0, qS]
  have hs1 := hHeld.b.size
  have hm1 := row_lt hHeld.m
  refine wpAnyH_ready (rs := [3, 4]) (by kernel_rfl) (by simp) ?_
  refine AllReadyH.cons (o := ⟨some 10, .call ⟨.value (.func 72), #[.tmp 9], #[22]⟩, 22, _, #[⟨2, .data⟩], none⟩) rfl (fun K hK => ?_) (AllReadyH.cons (o := ⟨some 11, .makeMap 114 none, 114, _, #[], none⟩) rfl (fun K hK => ?_) AllReadyH.nil)
  all_goals rw [if_pos (by rfl)]
  · go_wp2_with fail
    refine Calls.mono (HCL.out W1 hHeld.b) ?_
    rintro e w2 ⟨v3, rfl, hv3, hb2⟩
    have hs2 := hb2.size
    have hHeld2 : SNw w (m.map B8) w2 := ⟨hHeld.b.trans (hb2.mono (by omega)), (hb2.block _ hm1).trans hHeld.m⟩
    clear hHeld
    refine hK.out _ _ hHeld2 (fun _ => ?_)
    clear hK K
    try simp only [Act.put, qT, q0, qS]
    have hHeld := hHeld2
    refine qzR 4 ⟨some 11, .makeMap 114 none, 114, _, #[], none⟩ (by kernel_rfl) rfl (by rfl) (fun K hK => ?_)
    go_wp2_with fail
    have hHeld3 : SNw w (m.map B8) (w2.alloc (.map #[] 0)) := ⟨hHeld2.b.alloc (by omega) _, (heap_alloc_old _ _ (by omega)).trans hHeld2.m⟩
    refine hK.out _ _ hHeld3 (fun _ => ?_)
    clear hK K
    try simp only [Act.put, qT, q0, qS]
    have HV3 : Hid ((w2.alloc (.map #[] 0)).ownsRow w.heap.size 33 32 v3 ds.length (dC ds)) := own_lower (hv3.alloc _) (by omega)
    obtain ⟨mb, hmb⟩ : ∃ mb, mb = w2.heap.size := ⟨_, rfl⟩
    have HMB : Hid ((w2.alloc (.map #[] 0)).heap[mb]? = some (.map #[] 0)) := by rw [hmb]; exact heap_alloc_new _ _
    rw [← hmb]
    have hmbl : w.heap.size ≤ mb := by omega
    have hHeld := hHeld3
    clear hHeld2 hHeld3 hv3 hb2 hmb
    generalize w2.alloc (.map #[] 0) = U at *
    obtain ⟨p3, c3, hv3⟩ : ∃ p c, v3 = .slice p ds.length c := by
      rcases HV3.out.2 with ⟨e1, e2⟩ | ⟨g, cap, cur, e1, _⟩
      · exact ⟨none, 0, by rw [e1, e2]⟩
      · exact ⟨_, cap, e1⟩
    subst hv3
    have HBK : Hid _ := fun W => build_po W i (m.map B8) HML.out p3 ds.length c3 mb
    have HPL : Hid (Value.bool i :: (m.map B8 ++ [.slice p3 ds.length c3, .slice none 0 0, .map (some mb)]) = pL i m (.slice p3 ds.length c3) (.slice none 0 0) mb) := rfl
    rw [HPL.out] at HBK
    have hPO := po_new (i := i) hml HV3.out hdl HMB.out (by omega) hHeld.b
    have HPO : Hid _ := hPO
    clear HPL hPO
    generalize pL i m (.slice p3 ds.length c3) (.slice none 0 0) mb = PL at *
    refine qzI 5 ⟨some 12, .build 116 #[(0, .tmp 7), (1, .tmp 8), (2, .tmp 10), (4, .tmp 11)], 116, _, #[⟨0, .data⟩, ⟨1, .data⟩, ⟨3, .data⟩, ⟨4, .data⟩], none⟩ (.agg PL.toArray) rfl (by kernel_rfl) (fun _ _ _ h => h) (by rfl) (fun w' hw' => ?_) hHeld ?_
    · exact exec_build _ _ 116 _ _ _ w' rfl (by simp; exact ⟨rfl, rfl, rfl, rfl⟩) (HBK.out w')
    try simp only [Act.put, qT, q0, qS]
    refine qzR 6 ⟨some 13, .box 116 (.tmp 12), 25, _, #[⟨5, .data⟩], none⟩ (by kernel_rfl) rfl (by rfl) (fun K hK => ?_)
    go_wp2_with fail
    have hHeldZ : SNw w (m.map B8) (U.alloc (.cells PL.toArray 116 (0, 0))) := ⟨hHeld.b.alloc (by have := hHeld.b.size; omega) _, (heap_alloc_old _ _ (row_lt hHeld.m)).trans hHeld.m⟩
    refine hK.out _ _ hHeldZ (fun _ => ?_)
    clear hK K
    try simp only [Act.put, qT, q0, qS]
    have hHeld := hHeldZ
    refine qzR 7 ⟨some 6, .assign (.tmp 13), 25, _, #[⟨6, .data⟩, ⟨3, .chain⟩, ⟨0, .phase⟩, ⟨1, .phase⟩, ⟨2, .phase⟩, ⟨3, .phase⟩, ⟨4, .phase⟩, ⟨5, .phase⟩, ⟨6, .phase⟩], none⟩ (by kernel_rfl) rfl (by rfl) (fun K hK => ?_)
    go_wp2_with fail
    refine hK.out _ _ hHeldZ (fun _ => ?_)
    clear hK K
    try simp only [Act.put, qT, q0, qS]
    refine wpAnyH_done (by kernel_rfl) ?_ _
    have HBZ : Hid _ := hHeldZ.b
    clear hHeld hHeldZ
    go_wp2
    go_ret
    exact ⟨_, mb, _, rfl, HPO.out, HBZ.out, fun k e => (HV3.out.lt k e).1⟩
  · go_wp2_with fail
    have hHeld2 : SNw w (m.map B8) (W1.alloc (.map #[] 0)) := ⟨hHeld.b.alloc (by omega) _, (heap_alloc_old _ _ hm1).trans hHeld.m⟩
    have HMW : Hid ((W1.alloc (.map #[] 0)).heap[W1.heap.size]? = some (.map #[] 0)) := heap_alloc_new _ _
    have hs3 : (W1.alloc (.map #[] 0)).heap.size = W1.heap.size + 1 := by simp
    clear hHeld
    refine hK.out _ _ hHeld2 (fun _ => ?_)
    clear hK K
    try simp only [Act.put, qT, q0, qS]
    have hHeld := hHeld2
    refine qzR 3 ⟨some 10, .call ⟨.value (.func 72), #[.tmp 9], #[22]⟩, 22, _, #[⟨2, .data⟩], none⟩ (by kernel_rfl) rfl (by rfl) (fun K hK => ?_)
    go_wp2_with fail
    refine Calls.mono (HCL.out _ hHeld2.b) ?_
    rintro e U ⟨v3, rfl, hv3, hb2⟩
    have hs2 := hb2.size
    obtain ⟨mb, hmb⟩ : ∃ mb, mb = W1.heap.size := ⟨_, rfl⟩
    have hHeld3 : SNw w (m.map B8) U := ⟨hHeld2.b.trans (hb2.mono (by omega)), (hb2.block _ (by omega)).trans hHeld2.m⟩
    have HV3 : Hid (U.ownsRow w.heap.size 33 32 v3 ds.length (dC ds)) := own_lower hv3 (by omega)
    have HMB : Hid (U.heap[mb]? = some (.map #[] 0)) := by rw [hmb]; exact (hb2.block _ (by omega)).trans HMW.out
    rw [← hmb]
    have hmbl : w.heap.size ≤ mb := by omega
    clear hHeld
    refine hK.out _ _ hHeld3 (fun _ => ?_)
    clear hK K
    try simp only [Act.put, qT, q0, qS]
    have hHeld := hHeld3
    clear hHeld2 hHeld3 hv3 hb2 hmb HMW hs3 hs2
    obtain ⟨p3, c3, hv3⟩ : ∃ p c, v3 = .slice p ds.length c := by
      rcases HV3.out.2 with ⟨e1, e2⟩ | ⟨g, cap, cur, e1, _⟩
      · exact ⟨none, 0, by rw [e1, e2]⟩
      · exact ⟨_, cap, e1⟩
    subst hv3
    have HBK : Hid _ := fun W => build_po W i (m.map B8) HML.out p3 ds.length c3 mb
    have HPL : Hid (Value.bool i :: (m.map B8 ++ [.slice p3 ds.length c3, .slice none 0 0, .map (some mb)]) = pL i m (.slice p3 ds.length c3) (.slice none 0 0) mb) := rfl
    rw [HPL.out] at HBK
    have hPO := po_new (i := i) hml HV3.out hdl HMB.out (by omega) hHeld.b
    have HPO : Hid _ := hPO
    clear HPL hPO
    generalize pL i m (.slice p3 ds.length c3) (.slice none 0 0) mb = PL at *
    refine qzI 5 ⟨some 12, .build 116 #[(0, .tmp 7), (1, .tmp 8), (2, .tmp 10), (4, .tmp 11)], 116, _, #[⟨0, .data⟩, ⟨1, .data⟩, ⟨3, .data⟩, ⟨4, .data⟩], none⟩ (.agg PL.toArray) rfl (by kernel_rfl) (fun _ _ _ h => h) (by rfl) (fun w' hw' => ?_) hHeld ?_
    · exact exec_build _ _ 116 _ _ _ w' rfl (by simp; exact ⟨rfl, rfl, rfl, rfl⟩) (HBK.out w')
    try simp only [Act.put, qT, q0, qS]
    refine qzR 6 ⟨some 13, .box 116 (.tmp 12), 25, _, #[⟨5, .data⟩], none⟩ (by kernel_rfl) rfl (by rfl) (fun K hK => ?_)
    go_wp2_with fail
    have hHeldZ : SNw w (m.map B8) (U.alloc (.cells PL.toArray 116 (0, 0))) := ⟨hHeld.b.alloc (by have := hHeld.b.size; omega) _, (heap_alloc_old _ _ (row_lt hHeld.m)).trans hHeld.m⟩
    refine hK.out _ _ hHeldZ (fun _ => ?_)
    clear hK K
    try simp only [Act.put, qT, q0, qS]
    have hHeld := hHeldZ
    refine qzR 7 ⟨some 6, .assign (.tmp 13), 25, _, #[⟨6, .data⟩, ⟨3, .chain⟩, ⟨0, .phase⟩, ⟨1, .phase⟩, ⟨2, .phase⟩, ⟨3, .phase⟩, ⟨4, .phase⟩, ⟨5, .phase⟩, ⟨6, .phase⟩], none⟩ (by kernel_rfl) rfl (by rfl) (fun K hK => ?_)
    go_wp2_with fail
    refine hK.out _ _ hHeldZ (fun _ => ?_)
    clear hK K
    try simp only [Act.put, qT, q0, qS]
    refine wpAnyH_done (by kernel_rfl) ?_ _
    have HBZ : Hid _ := hHeldZ.b
    clear hHeld hHeldZ
    go_wp2
    go_ret
    exact ⟨_, mb, _, rfl, HPO.out, HBZ.out, fun k e => (HV3.out.lt k e).1⟩
end Go.Proofs.YtekbppfocnbhbaaGreat.R5
