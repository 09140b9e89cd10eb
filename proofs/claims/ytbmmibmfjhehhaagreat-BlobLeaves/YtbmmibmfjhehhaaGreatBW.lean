/- blob: the document's None and Leaf; the logs. -/
import Derived.Test.YtbmmibmfjhehhaaGreatBS
import Derived.Test.YtbmmibmfjhehhaaGreatBV
set_option linter.unusedVariables false
set_option linter.unusedSimpArgs false
namespace Go.Proofs.YtbmmibmfjhehhaaGreat.BC
open Go.RowKit

theorem rmay_any (pg c : Int) (w : World) : Calls Tryz.prog 9 #[.int .i64 pg, .int .u64 c] w fun e w' => e = .returned (.bool (mayB pg c)) ∧ w' = w := by
  by_cases h1 : 0 ≤ pg
  · by_cases h2 : pg < 128
    · by_cases h3 : c ≤ 4294967296
      · have hv : mayB pg c = true := decide_eq_true ⟨h1, h2, h3⟩
        rw [hv]
        clear hv
        go_enter Tryz.func9, Tryz.ntmps9
        go_wp2
        go_ret
        exact ⟨rfl, rfl⟩
      · have hv : mayB pg c = false := decide_eq_false (fun h => h3 h.2.2)
        rw [hv]
        clear hv
        go_enter Tryz.func9, Tryz.ntmps9
        go_wp2
        go_ret
        exact ⟨rfl, rfl⟩
    · have hv : mayB pg c = false := decide_eq_false (fun h => h2 h.2.1)
      rw [hv]
      clear hv
      go_enter Tryz.func9, Tryz.ntmps9
      go_wp2
      go_ret
      exact ⟨rfl, rfl⟩
  · have hv : mayB pg c = false := decide_eq_false (fun h => h1 h.1)
    rw [hv]
    clear hv
    go_enter Tryz.func9, Tryz.ntmps9
    go_wp2
    go_ret
    exact ⟨rfl, rfl⟩
theorem mayB_nat {pg c : Int} (h : mayB pg c = true) (hc : 0 ≤ c) : ∃ p n : Nat, pg = (p : Int) ∧ c = (n : Int) ∧ p < 128 ∧ n ≤ 4294967296 := by
  have := of_decide_eq_true h
  exact ⟨pg.toNat, c.toNat, by omega, by omega, by omega, by omega⟩
theorem infoMo (L : List Value) (h : L.length = 34) : (Tryz.prog.info? 26).map (·.size) = some L.length := by rw [h]; kernel_rfl
theorem moL_len (c : Mo) (dv : Value) (h : c.m.length = 32) : (moL c dv).length = 34 := by unfold moL; simp [h]
end Go.Proofs.YtbmmibmfjhehhaaGreat.BC

namespace Go.Proofs.YtbmmibmfjhehhaaGreat.BC
open Go.RowKit

theorem wp_appHB {o : Oper} {a : Act} {K : Act → World → Prop} {Q : Exit → Act → World → Prop} {w : World} (s x : Operand) (ho : o.op = .call { callee := .builtin .append, args := #[s, x], argTypes := #[64, 64] })
    (base : Nat) (v u : Value) (l b : List UInt8) (hs : a.eval s = v) (hx : a.eval x = u) (hown : FB base w v l) (hb : HB w u b) (hl : l.length + b.length ≤ 2199023255552) (hbase : base ≤ w.heap.size)
    (h : ∀ v' w', FB base w' v' (l ++ b) → w.grownBy w' v.ownBlock → K (a.put o.dst v') w') : o.wp Tryz.prog a w K Q := by
  obtain ⟨i0, hi, hz0, hz1, hz2⟩ := info_parts Tryz.infoU8
  obtain ⟨p, cp, rfl, hpn, hpc⟩ := hb.cells
  cases p with
  | none =>
    obtain ⟨rfl, rfl⟩ := hpn rfl
    have hrun := run_append_owned_none (P := Tryz.prog) (w := w) base 64 o.type 5 i0 1 Tryz.underlying64 hi v _ _ hown
    have hx' : a.eval x = .slice none 0 0 := hx
    unfold Oper.wp
    simp [execOp, ho, resolve, invoke, builtin, hs, hx', hrun, Result.andThen]
    exact h v w (by rw [List.append_nil]; exact hown) ⟨rfl, rfl, rfl, Nat.le_refl _, fun _ _ _ => rfl⟩
  | some ad =>
    refine wp_append_own w s x 64 ho base 5 i0 (.int .u8 0) 1 1 Tryz.underlying64 hi hz0 hz1 hz2 rfl (by decide) v _ _ hs hown ad b.length cp (b.map B8) hx (by simp) (hpc ad rfl) (B8_one b) (by unfold maxLen; omega) (by omega) hbase ?_
    intro v' w' h1 h2 _
    refine h v' w' ?_ h2
    unfold FB
    rw [List.length_append, List.map_append]
    exact h1


set_option maxHeartbeats 1000000 in
set_option maxRecDepth 100000 in
theorem rboth_any (p c : Nat) (w : World) (hp : p < 128) (hc : c ≤ 4294967296) : Calls Tryz.prog 25 #[.int .i64 (p : Int), .int .u64 (c : Int)] w fun e w' => ∃ v, e = .returned v ∧ FB w.heap.size w' v (W1.le 8 p ++ W1.le 8 c) ∧ Below w.heap.size w w' := by
  have hu : IntKind.u64.wrap (p : Int) = (p : Int) := by rw [W1.wrap_u64]; omega
  have HP : Hid (∀ W, Calls Tryz.prog 33 #[.int .u64 (p : Int), .int .i64 8] W fun e w' => ∃ v, e = .returned v ∧ FB W.heap.size w' v (W1.le 8 p) ∧ Below W.heap.size W w') := fun W => DP.refPut_any p 8 W (by omega) (by decide)
  have HC : Hid (∀ W, Calls Tryz.prog 33 #[.int .u64 (c : Int), .int .i64 8] W fun e w' => ∃ v, e = .returned v ∧ FB W.heap.size w' v (W1.le 8 c) ∧ Below W.heap.size W w') := fun W => DP.refPut_any c 8 W (by omega) (by decide)
  have HLP : Hid ((W1.le 8 p).length = 8) := W1.le_length 8 p
  have HLC : Hid ((W1.le 8 c).length = 8) := W1.le_length 8 c
  clear hp hc
  generalize W1.le 8 p = lp at *
  generalize W1.le 8 c = lc at *
  go_enter Tryz.func25, Tryz.ntmps25
  go_wp2_with fail
  refine Calls.mono (HP.out _) ?_
  rintro e w1 ⟨v1, rfl, hf1, hb1⟩
  have HF1 : Hid (FB w.heap.size w1 v1 lp) := hf1
  have HB1 : Hid (Below w.heap.size w w1) := hb1
  clear hf1 hb1 HP
  go_wp2_with fail
  refine Calls.mono (HC.out _) ?_
  rintro e w2 ⟨v2, rfl, hf2, hb2⟩
  have HF2 : Hid (HB w2 v2 lc) := hf2.hb
  have HF1b : Hid (FB w.heap.size w2 v1 lp) := R5.fb_below HF1.out hb2
  have HB2 : Hid (Below w.heap.size w w2) := HB1.out.trans (hb2.mono HB1.out.size)
  have HS2 : Hid (w.heap.size ≤ w2.heap.size) := HB2.out.size
  clear hf2 hb2 HC HF1 HB1
  go_wp2_with (at_builtin; (refine DP.wpList_appHB rfl (.tmp 7) (.tmp 9) rfl w.heap.size v1 v2 lp lc rfl rfl HF1b.out HF2.out (by rw [HLP.out, HLC.out]; decide) HS2.out ?_; intro v3 w3 hf3 hg3; have HF3 : Hid (FB w.heap.size w3 v3 (lp ++ lc)) := hf3; have HB3 : Hid (Below w.heap.size w w3) := HB2.out.trans ⟨hg3.os, hg3.tape, hg3.output, hg3.size, fun j hj => hg3.block j (by have := HS2.out; omega) (fun e => by have := (DP.fb_ge HF1b.out j e.symm).1; omega)⟩; clear hf3 hg3))
  go_ret
  exact ⟨v3, rfl, HF3.out, HB3.out⟩
section
variable {B og : Nat} {S : Nat → Prop} {dv lv : Value} {o : R5.Ora} {lds : List Value} {t : TypeId}
theorem rdigS {w W : World} {r : List UInt8 × R5.Ora} (d : Int) (v : Value) (l : List UInt8) (hll : o.log.length < 1000000) (hu : o.used < 1000000) (hl : l.length ≤ 1000000) (hB : B ≤ w.heap.size) (ho : R5.OR B og S w o dv lv lds t) (hb : Below w.heap.size w W) (hv : HB W v l) (hvb : l ≠ [] → ∀ k, v.ownBlock = some k → w.heap.size ≤ k) (hr : R5.rNx o ⟨1, Z0, d, l⟩ = r) :
    Calls Tryz.prog 31 #[.pointer (some ⟨og, 0, none⟩), .int .i64 d, v] W fun e w' => R5.QEnd B og S W r dv t e w' := by
  rw [← hr]
  exact R5.rdigG B og S v dv lv o lds t d l W hll hu (by omega) (Nat.le_trans hB hb.size) (ho.keep hb.size (fun k hk _ => hb.block k hk)) hv (fun hne e => by have := hvb hne og e; have := ho.top og ho.sog; omega)
set_option maxHeartbeats 2000000 in
set_option maxRecDepth 100000 in
theorem rnone_any (p : Nat) (w : World) (r : List UInt8 × R5.Ora) (hp : p < 128) (hll : o.log.length < 1000000) (hu : o.used < 1000000) (hB : B ≤ w.heap.size) (ho : R5.OR B og S w o dv lv lds t) (hr : R5.rNx o (qNone p) = r) :
    Calls Tryz.prog 17 #[.pointer (some ⟨og, 0, none⟩), .int .i64 (p : Int)] w fun e w' => R5.QEnd B og S w r dv t e w' := by
  have hAl := R5.rNx_len ho (qNone p)
  rw [hr] at hAl
  have hz := fun W => R5.zero_dig W
  obtain ⟨ZL, hZL⟩ : ∃ L, L = (List.replicate 32 (0 : UInt8)).map B8 := ⟨_, rfl⟩
  rw [← hZL] at hz
  have HZS : Hid (ZL.toArray.size = 32) := by show _ = _; rw [hZL]; simp
  have HO : Hid (R5.OR B og S w o dv lv lds t) := ho
  have HAS : Hid ((r.1.map B8).toArray.size = 32) := by show _ = _; simpa using hAl
  have HA1 : Hid _ := R5.B8_onea r.1
  clear hZL
  have hwr : IntKind.u64.wrap (p : Int) = (p : Int) := by rw [W1.wrap_u64]; omega
  have HP : Hid (∀ W, Calls Tryz.prog 33 #[.int .u64 (p : Int), .int .i64 8] W fun e w' => ∃ v, e = .returned v ∧ FB W.heap.size w' v (W1.le 8 p) ∧ Below W.heap.size W w') := fun W => DP.refPut_any p 8 W (by omega) (by decide)
  have HDG : Hid (∀ W v, Below w.heap.size w W → HB W v (W1.le 8 p) → (∀ k, v.ownBlock = some k → w.heap.size ≤ k) → Calls Tryz.prog 31 #[.pointer (some ⟨og, 0, none⟩), .int .i64 6, v] W fun e w' => R5.QEnd B og S W r dv t e w') := fun W v hW hv hvb => rdigS 6 v _ hll hu (by simp [W1.le_length]) hB ho hW hv (fun _ => hvb) hr
  have HT0 : Hid _ := (RS.start w).alloc w.heap.size rfl 23 ZL
  clear ho hAl hr hp hll hu
  generalize W1.le 8 p = LE at *
  go_enter Tryz.func17, Tryz.ntmps17
  go_upto_region 1 with fail
  generalize World.alloc _ _ = X0 at *
  go_wp2_with fail
  refine Calls.mono (HP.out X0) ?_
  rintro e X1 ⟨v1, rfl, hf1, hb1⟩
  have HT1 : Hid _ := HT0.out.step hb1
  have hs0 := HT0.out.bel.size
  have HC : Hid (Calls Tryz.prog 31 #[.pointer (some ⟨og, 0, none⟩), .int .i64 6, v1] X1 fun e w' => R5.QEnd B og S X1 r dv t e w') := HDG.out X1 v1 HT1.out.bel hf1.hb (fun k hk => by have := (DP.fb_ge hf1 k hk).1; omega)
  clear hf1 hb1 hs0 HDG HP HT0
  go_wp2_with fail
  refine Calls.mono HC.out ?_
  rintro e w3 ⟨rfl, hfr, hor⟩
  have hl1 := R5.row_lt (HT1.out.at 0 rfl)
  have HR3 : Hid (w3.heap[w.heap.size]? = some (.cells ZL.toArray 23 (0, 0))) := (hfr.block _ hl1 (fun h => by have := HO.out.top _ h; omega)).trans (HT1.out.at 0 rfl)
  have HEND : Hid (R5.QEnd B og S w r dv t (.returned (.agg (r.1.map B8).toArray)) (w3.setRow (w.heap.size) (r.1.map B8).toArray)) := ⟨rfl, R5.rfin HO.out hB HT1.out.bel hfr hor ((R5.Fr.refl _ _).setRow _ _ (.inl ⟨by omega, hl1⟩))⟩
  clear hfr hor hl1
  go_wp2_with (refine wpList_store_row rfl 23 _ _ rfl w.heap.size (r.1.map B8).toArray rfl rfl 23 ZL.toArray HR3.out (R5.info32a _ HAS.out) (HZS.out.trans HAS.out.symm) HA1.out ?_)
  refine bodyPost_ret (v := .agg (r.1.map B8).toArray) ?_ rfl HEND.out
  exact results_cell_row Tryz.results17 _ _ w.heap.size 23 _ (0, 0) _ rfl (setRow_heap _ _ _ _ _ _ HR3.out) Tryz.underlying23 rfl (R5.info32a _ HAS.out)
set_option maxHeartbeats 2000000 in
set_option maxRecDepth 100000 in
theorem rleaf_any (p c : Nat) (g : List UInt8) (w : World) (r : List UInt8 × R5.Ora) (hg : g.length = 128) (hp : p < 128) (hc : c ≤ 4294967296) (hll : o.log.length < 1000000) (hu : o.used < 1000000) (hB : B ≤ w.heap.size) (ho : R5.OR B og S w o dv lv lds t) (hr : R5.rNx o (qLeaf p c g) = r) :
    Calls Tryz.prog 15 #[.pointer (some ⟨og, 0, none⟩), .int .i64 (p : Int), .int .u64 (c : Int), .agg (g.map B8).toArray] w fun e w' => R5.QEnd B og S w r dv t e w' := by
  have hAl := R5.rNx_len ho (qLeaf p c g)
  rw [hr] at hAl
  have hz := fun W => R5.zero_dig W
  obtain ⟨ZL, hZL⟩ : ∃ L, L = (List.replicate 32 (0 : UInt8)).map B8 := ⟨_, rfl⟩
  rw [← hZL] at hz
  have HZS : Hid (ZL.toArray.size = 32) := by show _ = _; rw [hZL]; simp
  have HO : Hid (R5.OR B og S w o dv lv lds t) := ho
  have HAS : Hid ((r.1.map B8).toArray.size = 32) := by show _ = _; simpa using hAl
  have HA1 : Hid _ := R5.B8_onea r.1
  clear hZL
  have HBO : Hid (∀ W, Calls Tryz.prog 25 #[.int .i64 (p : Int), .int .u64 (c : Int)] W fun e w' => ∃ v, e = .returned v ∧ FB W.heap.size w' v (W1.le 8 p ++ W1.le 8 c) ∧ Below W.heap.size W w') := fun W => rboth_any p c W hp hc
  have HDG : Hid (∀ W v, Below w.heap.size w W → HB W v ((W1.le 8 p ++ W1.le 8 c) ++ g) → (∀ k, v.ownBlock = some k → w.heap.size ≤ k) → Calls Tryz.prog 31 #[.pointer (some ⟨og, 0, none⟩), .int .i64 4, v] W fun e w' => R5.QEnd B og S W r dv t e w') := fun W v hW hv hvb => rdigS 4 v _ hll hu (by simp [W1.le_length, hg]) hB ho hW hv (fun _ => hvb) (by rw [List.append_assoc]; exact hr)
  have HT0 : Hid _ := ((RS.start w).alloc w.heap.size rfl 29 (g.map B8)).alloc (w.heap.size + 1) (by simp) 23 ZL
  have HGB : Hid (∀ X, RS w [(w.heap.size + 1, 23, ZL), (w.heap.size, 29, g.map B8)] X → HB X (.slice (some ⟨w.heap.size, 0, none⟩) 128 128) g) := fun X hX => hb_rows g (hX.at 1 rfl) hg
  have HLL : Hid ((W1.le 8 p ++ W1.le 8 c).length + g.length ≤ 2199023255552) := by show _ ≤ _; simp [W1.le_length, hg]
  have hsl := fun W => sliceGr W w.heap.size
  clear ho hAl hr hp hc hll hu hg
  generalize W1.le 8 p ++ W1.le 8 c = LE at *
  generalize g.map B8 = GL at *
  go_enter Tryz.func15, Tryz.ntmps15
  go_upto_region 1 with fail
  generalize World.alloc _ _ = X0 at *
  refine wp_region_held_drew (S := fun _ => True) (by kernel_rfl) trivial (fun hHeld => ?_)
  have HT1 : Hid _ := HT0.out.step (Below.refl _ _).drew
  clear HT0
  generalize World.drew _ = Y0 at *
  refine wpAnyH_take (i := 0) (oi := ⟨some 9, .move (.tmp 0), 32, _, #[], none⟩) (v := .pointer (some ⟨og, 0, none⟩)) rfl (by kernel_rfl) (by kernel_rfl) (by kernel_rfl) (fun _ _ _ h => h) (Or.inl ⟨by rfl, fun w' hw' => ?_⟩) hHeld ?_
  · first | (go_simp; done) | (go_simp; rfl)
  try simp only [Act.put, qT, q0, qS]
  refine wpAnyH_take (i := 1) (oi := ⟨some 10, .move (.tmp 1), 3, _, #[], none⟩) (v := .int .i64 (p : Int)) rfl (by kernel_rfl) (by kernel_rfl) (by kernel_rfl) (fun _ _ _ h => h) (Or.inl ⟨by rfl, fun w' hw' => ?_⟩) hHeld ?_
  · first | (go_simp; done) | (go_simp; rfl)
  try simp only [Act.put, qT, q0, qS]
  refine wpAnyH_take (i := 2) (oi := ⟨some 11, .move (.tmp 2), 27, _, #[], none⟩) (v := .int .u64 (c : Int)) rfl (by kernel_rfl) (by kernel_rfl) (by kernel_rfl) (fun _ _ _ h => h) (Or.inl ⟨by rfl, fun w' hw' => ?_⟩) hHeld ?_
  · first | (go_simp; done) | (go_simp; rfl)
  try simp only [Act.put, qT, q0, qS]
  refine wpAnyH_take (i := 4) (oi := ⟨some 13, .slice 29 (.tmp 7) none none none, 64, _, #[], none⟩) (v := .slice (some ⟨w.heap.size, 0, none⟩) 128 128) rfl (by kernel_rfl) (by kernel_rfl) (by kernel_rfl) (fun _ _ _ h => h) (Or.inl ⟨by rfl, fun w' hw' => ?_⟩) hHeld ?_
  · first | (go_simp; done) | (go_simp; rfl)
  try simp only [Act.put, qT, q0, qS]
  refine wpAnyH_ready (rs := [3]) (by kernel_rfl) (by simp) ?_
  refine AllReadyH.cons (o := { dst := some 12, op := .call { callee := Go.Callee.value (.func 25), args := #[.tmp 10, .tmp 11], argTypes := #[3, 27] }, type := 64, pos := _, after := #[⟨1, .data⟩, ⟨2, .data⟩], guard := none }) rfl (fun K hK => ?_) AllReadyH.nil
  rw [if_pos (by rfl)]
  go_wp2_with fail
  refine Calls.mono (HBO.out Y0) ?_
  rintro e Y1 ⟨v1, rfl, hf1, hb1⟩
  have HT2 : Hid _ := HT1.out.step hb1
  have hs1 := HT1.out.bel.size
  have hge := DP.fb_ge hf1
  have hsz := hb1.size
  refine hK.out _ _ trivial (fun _ => ?_)
  clear hK K
  try simp only [Act.put, qT, q0, qS]
  refine wpAnyH_ready (rs := [5]) (by kernel_rfl) (by simp) ?_
  refine AllReadyH.cons (o := { dst := some 14, op := .call { callee := Go.Callee.builtin Go.Builtin.append, args := #[.tmp 12, .tmp 13], argTypes := #[64, 64] }, type := 64, pos := _, after := #[⟨3, .data⟩, ⟨4, .data⟩, ⟨3, .chain⟩], guard := none }) rfl (fun K hK => ?_) AllReadyH.nil
  rw [if_pos (by rfl)]
  refine wp_appHB (.tmp 12) (.tmp 13) rfl Y0.heap.size v1 _ LE g rfl rfl hf1 (HGB.out _ HT2.out) HLL.out hsz ?_
  intro v2 Y2 hf2 hg2
  have hb2 : Below Y0.heap.size Y1 Y2 := ⟨hg2.os, hg2.tape, hg2.output, hg2.size, fun j hj => hg2.block j (by omega) (fun e => by have := (hge j e.symm).1; omega)⟩
  have HT3 : Hid _ := HT1.out.step (hb1.trans hb2)
  have HC : Hid (Calls Tryz.prog 31 #[.pointer (some ⟨og, 0, none⟩), .int .i64 4, v2] Y2 fun e w' => R5.QEnd B og S Y2 r dv t e w') := HDG.out Y2 v2 HT3.out.bel hf2.hb (fun k hk => by have := (DP.fb_ge hf2 k hk).1; omega)
  clear hf1 hf2 hg2 hb1 hb2 hge hsz HT1 HT2 HDG HBO HGB
  refine hK.out _ _ trivial (fun _ => ?_)
  clear hK K
  try simp only [Act.put, qT, q0, qS]
  refine wpAnyH_ready (rs := [6]) (by kernel_rfl) (by simp) ?_
  refine AllReadyH.cons (o := { dst := some 15, op := .call { callee := Go.Callee.value (.func 31), args := #[.tmp 9, .const (Go.Value.int Go.IntKind.i64 4), .tmp 14], argTypes := #[32, 61, 64] }, type := 23, pos := _, after := #[⟨0, .data⟩, ⟨5, .data⟩, ⟨5, .chain⟩], guard := none }) rfl (fun K hK => ?_) AllReadyH.nil
  rw [if_pos (by rfl)]
  go_wp2_with fail
  refine Calls.mono HC.out ?_
  rintro e w3 ⟨rfl, hfr, hor⟩
  have hl1 := R5.row_lt (HT3.out.at 0 rfl)
  have HR3 : Hid (w3.heap[w.heap.size + 1]? = some (.cells ZL.toArray 23 (0, 0))) := (hfr.block _ hl1 (fun h => by have := HO.out.top _ h; omega)).trans (HT3.out.at 0 rfl)
  have HEND : Hid (R5.QEnd B og S w r dv t (.returned (.agg (r.1.map B8).toArray)) (w3.setRow (w.heap.size + 1) (r.1.map B8).toArray)) := ⟨rfl, R5.rfin HO.out hB HT3.out.bel hfr hor ((R5.Fr.refl _ _).setRow _ _ (.inl ⟨by omega, hl1⟩))⟩
  clear hfr hor hl1
  refine hK.out _ _ trivial (fun _ => ?_)
  clear hK K
  try simp only [Act.put, qT, q0, qS]
  refine wpAnyH_ready (rs := [7]) (by kernel_rfl) (by simp) ?_
  refine AllReadyH.cons (o := ⟨none, .store 23 (.tmp 8) (.tmp 15), 0, _, #[⟨6, .data⟩, ⟨6, .chain⟩, ⟨0, .phase⟩, ⟨1, .phase⟩, ⟨2, .phase⟩, ⟨3, .phase⟩, ⟨4, .phase⟩, ⟨5, .phase⟩, ⟨6, .phase⟩], none⟩) rfl (fun K hK => ?_) AllReadyH.nil
  rw [if_pos (by rfl)]
  refine wp_store_row 23 _ _ rfl (w.heap.size + 1) (r.1.map B8).toArray rfl rfl 23 ZL.toArray HR3.out (R5.info32a _ HAS.out) (HZS.out.trans HAS.out.symm) HA1.out ?_
  refine hK.out _ _ trivial (fun _ => ?_)
  clear hK K
  try simp only [Act.put, qT, q0, qS]
  refine wpAnyH_done (by kernel_rfl) ?_ _
  go_wp2
  refine bodyPost_ret (v := .agg (r.1.map B8).toArray) ?_ rfl HEND.out
  exact results_cell_row Tryz.results15 _ _ (w.heap.size + 1) 23 _ (0, 0) _ rfl (setRow_heap _ _ _ _ _ _ HR3.out) Tryz.underlying23 rfl (R5.info32a _ HAS.out)
end
section
variable {w X Y : World} {og mb rg : Nat} {i : Bool} {m : List UInt8} {D : List (List UInt8)} {L L' R R' : Lg} {rows : Rws}
theorem TB.rnone (h : TB w og mb rg i m D L R rows X) (hll : R.length < 1000000) (p : Nat) (hp : p < 128) : Calls Tryz.prog 17 #[.pointer (some ⟨rg, 0, none⟩), .int .i64 (p : Int)] X fun e Y => e = .returned (.agg (((nx2 i D R (qNone p)).1).map B8).toArray) ∧ TB w og mb rg i m D L (nx2 i D R (qNone p)).2 rows Y :=
  h.rask fun T dr lv lds ho => rnone_any p X _ hp hll (Nat.lt_of_le_of_lt (rrG_used i m D R) hll) h.bel.size ho (rNx_nx2 i m D R _)
theorem TB.rleaf (h : TB w og mb rg i m D L R rows X) (hll : R.length < 1000000) (p c : Nat) (g : List UInt8) (hg : g.length = 128) (hp : p < 128) (hc : c ≤ 4294967296) : Calls Tryz.prog 15 #[.pointer (some ⟨rg, 0, none⟩), .int .i64 (p : Int), .int .u64 (c : Int), .agg (g.map B8).toArray] X fun e Y => e = .returned (.agg (((nx2 i D R (qLeaf p c g)).1).map B8).toArray) ∧ TB w og mb rg i m D L (nx2 i D R (qLeaf p c g)).2 rows Y :=
  h.rask fun T dr lv lds ho => rleaf_any p c g X _ hg hp hc hll (Nat.lt_of_le_of_lt (rrG_used i m D R) hll) h.bel.size ho (rNx_nx2 i m D R _)
theorem TB.log (h : TB w og mb rg i m D L R rows X) (hll : L.length < 1000000) :
    Calls Tryz.prog 11 #[.pointer (some ⟨og, 0, none⟩)] X fun e Y => ∃ v, e = .returned v ∧ R5.HLr Y v L ∧ Below X.heap.size X Y := by
  obtain ⟨S, dv, ov, T, dr, lv, lds, h1, h2, h3, h4, h5⟩ := h.ex
  refine (R5.plog_any h1 hll).mono ?_
  rintro e Y ⟨v, ds, rfl, hL, hb⟩
  exact ⟨v, rfl, R5.hlr_of hL.hlg, hb⟩
theorem TB.rlog (h : TB w og mb rg i m D L R rows X) : ∃ lv, X.cell? ⟨rg, 35, none⟩ = some lv ∧ R5.HLr X lv R := by
  obtain ⟨S, dv, ov, T, dr, lv, lds, h1, h2, h3, h4, h5⟩ := h.ex
  refine ⟨lv, ?_, R5.hlr_of h2.log⟩
  rw [cell_of_row _ _ 35 _ _ _ h2.row]; exact R5.oL_35 _ _ _ _ _ h2.ml
end
end Go.Proofs.YtbmmibmfjhehhaaGreat.BC
