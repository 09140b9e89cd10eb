/- blob: Seal and Open, over any Stream. -/
import Derived.Test.YtbmmibmfjhehhaaGreatBE
set_option linter.unusedVariables false
set_option linter.unusedSimpArgs false
namespace Go.Proofs.YtbmmibmfjhehhaaGreat.BC
open Go.RowKit

theorem results_gr2 {fn : Func} {p u : Tmp} (h : fn.results = #[.cell p 29, .tmp u]) (tmps : Array Value) (w : World) (g : Nat) (t : TypeId) (cs : Array Value) (fr : Nat × Nat) (x : Value)
    (hp : tmps.getD p undef = .pointer (some ⟨g, 0, none⟩)) (hx : tmps.getD u undef = x) (hg : w.heap[g]? = some (.cells cs t fr)) (hi : (Tryz.prog.info? 29).map (·.size) = some cs.size) :
    (results fn tmps).run Tryz.prog w = .ok (.tuple #[.agg cs, x]) w := by
  rw [results_cell_tmp h, hp, hx]
  simp [asAddr, run_loadVar_row w g t 29 cs fr _ hg Tryz.underlying29 rfl hi]
def StT (B og mb : Nat) (S : Nat → Prop) (r : List UInt8 × R5.Pra) (dv : Value) (a : Value) (n : Int) (W w' : World) : Prop :=
  n = 0 ∧ (∀ j, a.ownBlock = some j → W.heap.size ≤ j) ∧ HB w' a r.1 ∧ R5.Fr S W w' ∧ ∃ ov', R5.PO B og mb (fun k => S k ∨ (W.heap.size ≤ k ∧ k < w'.heap.size)) w' r.2 dv ov'
def gz (c : Int) : Value := .tuple #[.agg (Z128.map B8).toArray, .int .i64 c]
def gok (l : List UInt8) : Value := .tuple #[.agg (l.map B8).toArray, .int .i64 0]
set_option maxHeartbeats 1000000 in
set_option maxRecDepth 100000 in
theorem masked_no (q : Option Addr) (KL PL : List Value) (pg c x : Int) (w : World) (hx : x ≠ 0) (hF : ∀ W, Below w.heap.size w W → Calls Tryz.prog 44 #[.pointer q, .int .i64 pg, .int .u64 c] W fun e w' => e = .returned (.int .i64 x) ∧ Below W.heap.size W w') :
    Calls Tryz.prog 21 #[.pointer q, .agg KL.toArray, .int .i64 pg, .int .u64 c, .agg PL.toArray] w fun e w' => e = .returned (gz x) ∧ Below w.heap.size w w' := by
  have hzg := fun W => zero_gr W
  have hbg := fun W => build_gr W
  obtain ⟨ZL, hZL⟩ : ∃ L, L = Z128.map B8 := ⟨_, rfl⟩
  rw [← hZL] at hzg hbg
  have HZN : Hid (ZL.length = 128) := by rw [hZL]; simp [Hid, z128_len]
  have HZ1 : Hid (ZL.toArray.all (·.oneCell') = true) := by show _ = _; rw [hZL]; exact B8_onea _
  have HGZ : Hid (gz x = .tuple #[.agg ZL.toArray, .int .i64 x]) := by show _ = _; rw [hZL]; rfl
  have HBG : Hid (∀ W : World, (Instr.build 29 #[]).run Tryz.prog W = .ok (.agg ZL.toArray) W) := hbg
  have hx2 : (x == 0) = false := by rw [beq_eq_false_iff_ne]; exact hx
  have HA : Hid (∀ W fv, Below w.heap.size w W → Calls Tryz.prog 35 #[.pointer q, .int .i64 pg, .int .u64 c, fv] W fun e w' => e = .returned (.tuple #[.slice none 0 0, .int .i64 x]) ∧ Below W.heap.size W w') := fun W fv hW => askedB_no (.pointer q) fv pg c x W hx (hF W hW)
  have HT0 : Hid _ := (((((RS.start w).alloc w.heap.size rfl 31 [.pointer q]).alloc (w.heap.size + 1) (by simp) 23 KL).alloc (w.heap.size + 1 + 1) (by simp) 29 PL).alloc (w.heap.size + 1 + 1 + 1) (by simp) 29 ZL)
  rw [HGZ.out]
  clear hZL hbg hx hF HGZ
  go_enter Tryz.func21, Tryz.ntmps21
  go_upto_region 1 with fail
  generalize World.alloc _ _ = X0 at *
  have hco := HT0.out.cell 3 rfl 0 rfl
  go_wp2_with fail
  refine Calls.mono (HA.out _ _ HT0.out.bel) ?_
  rintro e X1 ⟨rfl, hb⟩
  have HT1 : Hid _ := HT0.out.step hb
  clear hb HT0 hco HA
  go_wp2_with (first
    | (refine R5.wpList_build rfl 29 #[] rfl #[] (.agg ZL.toArray) (by simp) (HBG.out _) ?_)
    | (refine R5.wpList_store_rowL rfl 29 _ _ rfl (w.heap.size + 1 + 1 + 1) ZL.toArray rfl rfl 29 ZL.toArray (HT1.out.at 0 rfl) (info128a ZL HZN.out) rfl HZ1.out ?_; intro X2 e2; have HT2 : Hid _ := HT1.out.put 0 rfl ZL; rw [← e2] at HT2; clear e2))
  refine bodyPost_ret (v := .tuple #[.agg ZL.toArray, .int .i64 x]) ?_ rfl ⟨rfl, HT2.out.bel⟩
  exact results_gr2 Tryz.results21 _ _ (w.heap.size + 1 + 1 + 1) 29 _ (0, 0) _ rfl rfl (HT2.out.at 0 rfl) (info128a ZL HZN.out)
set_option maxHeartbeats 4000000 in
set_option maxRecDepth 100000 in
theorem masked_ok (B og mb : Nat) (S : Nat → Prop) (key pl : List UInt8) (p c : Nat) (r : List UInt8 × R5.Pra) (dv ov : Value) (o : R5.Pra) (w : World) (hk : key.length = 32) (hpl : pl.length = 128) (hp : p < 128) (hc : c ≤ 4294967296) (hB : B ≤ w.heap.size) (ho : R5.PO B og mb S w o dv ov) (hr : r.1.length = 128)
    (hS : ∀ W dq, Below w.heap.size w W → HB W dq (W1.le 8 p ++ W1.le 8 c) → (∀ j, dq.ownBlock = some j → w.heap.size ≤ j) → Calls Tryz.prog 38 #[.pointer (some ⟨og, 0, none⟩), .agg (R5.qL ⟨4, key, 10, W1.le 8 p ++ W1.le 8 c⟩ dq).toArray, .int .i64 128] W fun e w' => Pass (StT B og mb S r dv) W e w') :
    Calls Tryz.prog 21 #[.pointer (some ⟨og, 0, none⟩), .agg (key.map B8).toArray, .int .i64 (p : Int), .int .u64 (c : Int), .agg (pl.map B8).toArray] w fun e w' => PR B og mb S w r.2 dv (gok (mx pl r.1)) e w' := by
  have hzg := fun W => zero_gr W
  have hbg := fun W => build_gr W
  obtain ⟨ZL, hZL⟩ : ∃ L, L = Z128.map B8 := ⟨_, rfl⟩
  rw [← hZL] at hzg hbg
  have HZN : Hid (ZL.length = 128) := by rw [hZL]; simp [Hid, z128_len]
  have HZ1 : Hid (ZL.toArray.all (·.oneCell') = true) := by show _ = _; rw [hZL]; exact B8_onea _
  have hm : mayB (p : Int) (c : Int) = true := decide_eq_true ⟨by omega, by omega, by omega⟩
  have HAS : Hid (∀ W b1 b2, Below w.heap.size w W → W.heap[b1]? = some (.cells (key.map B8).toArray 23 (0, 0)) → W.cell? ⟨b2, 0, none⟩ = some (.pointer (some ⟨og, 0, none⟩)) → Calls Tryz.prog 35 #[.pointer (some ⟨og, 0, none⟩), .int .i64 (p : Int), .int .u64 (c : Int), .func (.func 36) #[] #[.pointer (some ⟨b1, 0, none⟩), .pointer (some ⟨b2, 0, none⟩)]] W fun e w' => Pass (StT B og mb S r dv) W e w') := fun W b1 b2 hW h1 h2 => by
    refine askedB_ok _ _ p c b1 b2 W hp hc ?_ (fun W2 p1 c1 p2 c2 hW2 hv1 hv2 => ?_)
    · have q := fault_no og mb (p : Int) (c : Int) W ((hW.cell (block_lt ho.cells.2.2.2.1)).trans ho.cells.2.2.2.1)
      rw [hm] at q
      exact q
    · refine msk1_any _ key _ _ p1 p2 c1 c2 b1 b2 og W2 hk (W1.le_length 8 p) (W1.le_length 8 c) ((hW2.block _ (R5.row_lt h1)).trans h1) ((hW2.cell (block_lt h2)).trans h2) hv1 hv2 (fun W3 dq hW3 hd hown => ?_)
      have h12 := hW.size
      have h13 := hW2.size
      exact hS W3 dq (hW.trans ((hW2.trans (hW3.mono h13)).mono h12)) hd (fun j e => by have := hown j e; omega)
  have HML : Hid (((mx pl r.1).map B8).length = 128) := by show _ = _; rw [List.length_map]; exact mx_len _ _ hpl hr
  have HM1 : Hid _ := B8_onea (mx pl r.1)
  have HMX : Hid (∀ W, Calls Tryz.prog 20 #[.agg (pl.map B8).toArray, .agg (r.1.map B8).toArray] W fun e w' => e = .returned (.agg ((mx pl r.1).map B8).toArray) ∧ Below W.heap.size W w') := fun W => pmix_any pl r.1 W hpl hr
  have HOK : Hid (gok (mx pl r.1) = .tuple #[.agg ((mx pl r.1).map B8).toArray, .int .i64 0]) := rfl
  have HPN : Hid ((pl.map B8).length = 128) := by show _ = _; simpa using hpl
  have HSN : Hid ((r.1.map B8).length = 128) := by show _ = _; simpa using hr
  have HRL : Hid (r.1.length = 128) := hr
  have HO : Hid (R5.PO B og mb S w o dv ov) := ho
  have HT0 : Hid _ := (((((RS.start w).alloc w.heap.size rfl 31 [.pointer (some ⟨og, 0, none⟩)]).alloc (w.heap.size + 1) (by simp) 23 (key.map B8)).alloc (w.heap.size + 1 + 1) (by simp) 29 (pl.map B8)).alloc (w.heap.size + 1 + 1 + 1) (by simp) 29 ZL)
  have HSM : Hid (∀ a n W w', StT B og mb S r dv a n W w' → ∃ g o9 cap, n = 0 ∧ a = .slice (some ⟨g, o9, none⟩) 128 cap ∧ 128 ≤ cap ∧ W.heap.size ≤ g ∧ w'.rangeAt g o9 (r.1.map B8) ∧ R5.Fr S W w' ∧ ∃ ov', R5.PO B og mb (fun k => S k ∨ (W.heap.size ≤ k ∧ k < w'.heap.size)) w' r.2 dv ov') := fun a n W w' h => by
    obtain ⟨h1, h2, h3, h4, h5⟩ := h
    rcases h3 with ⟨h3, _⟩ | ⟨g, o9, cap, e, hcap, _, hcl⟩
    · rw [h3] at hr; simp at hr
    · subst e
      refine ⟨g, o9, cap, h1, by rw [hr], by omega, h2 g rfl, fun j v hv => ?_, h4, h5⟩
      have hj := (List.getElem?_eq_some_iff.1 hv).1
      rw [List.length_map] at hj
      rw [hcl j hj]
      have : r.1[j]? = some r.1[j] := List.getElem?_eq_getElem hj
      rw [List.getElem?_map, this] at hv
      simp only [Option.map_some, Option.some.injEq] at hv
      rw [← hv]
      simp [B8, List.getD, this]
  clear hm hS hp hc ho hr hk hpl hZL hbg
  rw [HOK.out]
  generalize (mx pl r.1).map B8 = ML at *
  generalize r.1.map B8 = SL at *
  generalize pl.map B8 = PL at *
  generalize key.map B8 = KL at *
  go_enter Tryz.func21, Tryz.ntmps21
  go_upto_region 1 with fail
  generalize World.alloc _ _ = X0 at *
  have hco := HT0.out.cell 3 rfl 0 rfl
  go_wp2_with fail
  refine Calls.mono (HAS.out _ _ _ HT0.out.bel (HT0.out.at 2 rfl) hco) ?_
  intro e X3 hP
  obtain ⟨W, a, n, hW, rfl, hT⟩ := hP
  obtain ⟨g, o9, cap, rfl, rfl, hcap, hg, hrg, hfr, hpo⟩ := HSM.out a n W X3 hT
  have hTW := HT0.out.step hW
  have hs1 := hTW.bel.size
  have hS0 : ∀ k, S k → k < w.heap.size := HO.out.top
  have hrp : X3.heap[w.heap.size + 1 + 1]? = some (.cells PL.toArray 29 (0, 0)) := (hfr.block _ (R5.row_lt (hTW.at 1 rfl)) (fun h => by have := hS0 _ h; omega)).trans (hTW.at 1 rfl)
  have hrz : X3.heap[w.heap.size + 1 + 1 + 1]? = some (.cells ZL.toArray 29 (0, 0)) := (hfr.block _ (R5.row_lt (hTW.at 0 rfl)) (fun h => by have := hS0 _ h; omega)).trans (hTW.at 0 rfl)
  have hlt := R5.row_lt (hTW.at 0 rfl)
  have HLT : Hid (w.heap.size + 1 + 1 + 1 < W.heap.size) := hlt
  have HRP : Hid (X3.heap[w.heap.size + 1 + 1]? = some (.cells PL.toArray 29 (0, 0))) := hrp
  have HRZ : Hid (X3.heap[w.heap.size + 1 + 1 + 1]? = some (.cells ZL.toArray 29 (0, 0))) := hrz
  have HRG : Hid (X3.rangeAt g o9 SL) := hrg
  have HG : Hid (W.heap.size ≤ g) := hg
  have HEND : Hid (∀ Y, R5.Fr (fun k => w.heap.size ≤ k ∧ k < W.heap.size) X3 Y → PR B og mb S w r.2 dv (.tuple #[.agg ML.toArray, .int .i64 0]) (.returned (.tuple #[.agg ML.toArray, .int .i64 0])) Y) := fun Y hY => ⟨rfl, pfin HO.out hB hTW.bel hfr hpo hY⟩
  clear hT hrp hrz hrg hg hfr hpo hTW hs1 hS0 hlt hW hco HAS HSM HT0 hB
  go_upto_region 4 with fail
  refine wp_region_held_drew (S := fun X => X.heap[w.heap.size + 1 + 1]? = some (.cells PL.toArray 29 (0, 0)) ∧ X.rangeAt g o9 SL) (by kernel_rfl) ⟨HRP.out, HRG.out⟩ (fun hHeld => ?_)
  refine wpAnyH_take (i := 0) (oi := ⟨some 26, .load 29 (.tmp 9), 29, _, #[], none⟩) rfl (by kernel_rfl) (by kernel_rfl) (by kernel_rfl) (fun _ _ _ h => h) (yieldsIf_load_mid (by rfl) 29 (.tmp 9) rfl (w.heap.size + 1 + 1) (0) rfl (PL) _ (fun _ h => rangeAt_row h.1) Tryz.underlying29 rfl (info128 PL HPN.out)) hHeld ?_
  try simp only [Act.put, qT, q0, qS]
  refine wpAnyH_take (i := 1) (oi := ⟨some 27, .move (.tmp 12), 64, _, #[], none⟩) (v := .slice (some ⟨g, o9, none⟩) 128 cap) rfl (by kernel_rfl) (by kernel_rfl) (by kernel_rfl) (fun _ _ _ h => h) (Or.inl ⟨by rfl, fun w' hw' => ?_⟩) hHeld ?_
  · first | (go_simp; done) | (go_simp; rfl)
  try simp only [Act.put, qT, q0, qS]
  refine wpAnyH_take (i := 2) (oi := ⟨some 28, .sliceToArrayPointer 29 (.tmp 27), 0, _, #[⟨1, .data⟩], none⟩) (v := .pointer (some ⟨g, o9, none⟩)) rfl (by kernel_rfl) (by kernel_rfl) (by kernel_rfl) (fun _ _ _ h => h) (Or.inl ⟨by rfl, fun w' hw' => ?_⟩) hHeld ?_
  · first | (go_simp; done) | (go_simp; rfl)
  try simp only [Act.put, qT, q0, qS]
  refine wpAnyH_take (i := 3) (oi := ⟨some 29, .load 29 (.tmp 28), 29, _, #[⟨2, .data⟩], none⟩) rfl (by kernel_rfl) (by kernel_rfl) (by kernel_rfl) (fun _ _ _ h => h) (yieldsIf_load_mid (by rfl) 29 (.tmp 28) rfl (g) (o9) rfl (SL) _ (fun _ h => h.2) Tryz.underlying29 rfl (info128 SL HSN.out)) hHeld ?_
  try simp only [Act.put, qT, q0, qS]
  refine wpAnyH_ready (rs := [4]) (by kernel_rfl) (by simp) ?_
  refine AllReadyH.cons (o := { dst := some 30, op := .call { callee := Go.Callee.value (.func 20), args := #[.tmp 26, .tmp 29], argTypes := #[29, 29] }, type := 29, pos := _, after := #[⟨0, .data⟩, ⟨3, .data⟩], guard := none }) rfl (fun K hK => ?_) AllReadyH.nil
  rw [if_pos (by rfl)]
  go_wp2_with fail
  refine Calls.mono (HMX.out _) ?_
  rintro e X4 ⟨rfl, hb4⟩
  have hb4' : Below X3.heap.size X3 X4 := (Below.refl _ _).drew.trans hb4
  have hz4 : X4.heap[w.heap.size + 1 + 1 + 1]? = some (.cells ZL.toArray 29 (0, 0)) := (hb4'.block _ (R5.row_lt HRZ.out)).trans HRZ.out
  have hH4 : X4.heap[w.heap.size + 1 + 1]? = some (.cells PL.toArray 29 (0, 0)) ∧ X4.rangeAt g o9 SL := ⟨(hb4'.block _ (R5.row_lt HRP.out)).trans HRP.out, rangeAt_below HRG.out hb4'⟩
  refine hK.out _ _ hH4 (fun _ => ?_)
  clear hK K
  try simp only [Act.put, qT, q0, qS]
  refine wpAnyH_ready (rs := [5]) (by kernel_rfl) (by simp) ?_
  refine AllReadyH.cons (o := ⟨none, .store 29 (.tmp 10) (.tmp 30), 0, _, #[⟨4, .data⟩, ⟨4, .chain⟩, ⟨0, .phase⟩, ⟨1, .phase⟩, ⟨2, .phase⟩, ⟨3, .phase⟩, ⟨4, .phase⟩], none⟩) rfl (fun K hK => ?_) AllReadyH.nil
  rw [if_pos (by rfl)]
  refine wp_store_row 29 _ _ rfl (w.heap.size + 1 + 1 + 1) ML.toArray rfl rfl 29 ZL.toArray hz4 (info128a ML HML.out) (by simp [HML.out, HZN.out]) HM1.out ?_
  have hH5 : (X4.setRow (w.heap.size + 1 + 1 + 1) ML.toArray).heap[w.heap.size + 1 + 1]? = some (.cells PL.toArray 29 (0, 0)) ∧ (X4.setRow (w.heap.size + 1 + 1 + 1) ML.toArray).rangeAt g o9 SL := ⟨(setRow_other _ _ _ _ (by omega)).trans hH4.1, rangeAt_setRow hH4.2 (by have := HLT.out; have := HG.out; omega)⟩
  have HE : Hid (PR B og mb S w r.2 dv (.tuple #[.agg ML.toArray, .int .i64 0]) (.returned (.tuple #[.agg ML.toArray, .int .i64 0])) (X4.setRow (w.heap.size + 1 + 1 + 1) ML.toArray)) := HEND.out _ ((R5.Fr.ofBelow hb4').setRow _ _ (.inl ⟨by omega, HLT.out⟩))
  have HR5 : Hid ((X4.setRow (w.heap.size + 1 + 1 + 1) ML.toArray).heap[w.heap.size + 1 + 1 + 1]? = some (.cells ML.toArray 29 (0, 0))) := setRow_heap _ _ _ _ _ _ hz4
  refine hK.out _ _ hH5 (fun _ => ?_)
  clear hK K
  try simp only [Act.put, qT, q0, qS]
  clear hHeld
  have hHeld := hH5
  refine wpAnyH_take (i := 6) (oi := ⟨some 11, .assign (.const (Go.Value.int Go.IntKind.i64 0)), 35, _, #[⟨5, .chain⟩, ⟨0, .phase⟩, ⟨1, .phase⟩, ⟨2, .phase⟩, ⟨3, .phase⟩, ⟨4, .phase⟩, ⟨5, .phase⟩], none⟩) (v := .int .i64 0) rfl (by kernel_rfl) (by kernel_rfl) (by kernel_rfl) (fun _ _ _ h => h) (Or.inl ⟨by rfl, fun w' hw' => ?_⟩) hHeld ?_
  · first | (go_simp; done) | (go_simp; rfl)
  try simp only [Act.put, qT, q0, qS]
  refine wpAnyH_done (by kernel_rfl) ?_ _
  clear hHeld hH4 hH5 hz4 hb4 hb4'
  go_wp2_with fail
  refine bodyPost_ret (v := .tuple #[.agg ML.toArray, .int .i64 0]) ?_ rfl HE.out
  exact results_gr2 Tryz.results21 _ _ (w.heap.size + 1 + 1 + 1) 29 _ (0, 0) _ rfl rfl HR5.out (info128a ML HML.out)
end Go.Proofs.YtbmmibmfjhehhaaGreat.BC
