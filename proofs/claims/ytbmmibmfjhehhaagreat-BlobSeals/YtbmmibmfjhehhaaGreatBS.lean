/- blob: streams by the log; Seal, Open, Leaf, None over both oracles; the statements' both. -/
import Derived.Test.YtbmmibmfjhehhaaGreatBR
set_option linter.unusedVariables false
set_option linter.unusedSimpArgs false
namespace Go.Proofs.YtbmmibmfjhehhaaGreat.BC
open Go.RowKit

def sxL (D : List (List UInt8)) (L : Lg) (q : R5.Qn) : Nat → List UInt8 × Lg
  | 0 => ([], L)
  | k + 1 => ((sxL D L q k).1 ++ (nx2 true D (sxL D L q k).2 (R5.PS.sQ q k)).1, (nx2 true D (sxL D L q k).2 (R5.PS.sQ q k)).2)
def ad2 (L : Lg) (q : R5.Qn) (f : List UInt8) : Lg := match R5.fndA q L with
  | some _ => L
  | none => L ++ [(q, f)]
def st2 (i : Bool) (D : List (List UInt8)) (L : Lg) (q : R5.Qn) : List UInt8 × Lg := if i then ((sxL D L q 4).1.take 128, (sxL D L q 4).2) else (cst q, ad2 L q (bg (cst q)))
theorem str_sx (m : List UInt8) (D : List (List UInt8)) (L : Lg) (q : R5.Qn) : ∀ k, R5.PS.str q (prG true m D L) k = ((sxL D L q k).1, prG true m D (sxL D L q k).2)
  | 0 => rfl
  | k + 1 => by
    have ih := str_sx m D L q k
    have hn := nxP_nx2 true m D (sxL D L q k).2 (R5.PS.sQ q k)
    rw [nxP_id rfl] at hn
    show ((R5.PS.str q (prG true m D L) k).1 ++ (R5.pAsk (R5.PS.str q (prG true m D L) k).2 (R5.PS.sQ q k) (R5.drawD (R5.PS.str q (prG true m D L) k).2.draws (R5.PS.str q (prG true m D L) k).2.log.length)).1, (R5.pAsk (R5.PS.str q (prG true m D L) k).2 (R5.PS.sQ q k) (R5.drawD (R5.PS.str q (prG true m D L) k).2.draws (R5.PS.str q (prG true m D L) k).2.log.length)).2) = _
    rw [ih]
    show ((sxL D L q k).1 ++ (R5.pAsk (prG true m D (sxL D L q k).2) (R5.PS.sQ q k) (R5.drawD (prG true m D (sxL D L q k).2).draws (prG true m D (sxL D L q k).2).log.length)).1, (R5.pAsk (prG true m D (sxL D L q k).2) (R5.PS.sQ q k) (R5.drawD (prG true m D (sxL D L q k).2).draws (prG true m D (sxL D L q k).2).log.length)).2) = _
    rw [hn]
    rfl
theorem sxL_len (D : List (List UInt8)) (L : Lg) (q : R5.Qn) : ∀ k, (sxL D L q k).2.length ≤ L.length + k
  | 0 => Nat.le_refl _
  | k + 1 => by
    have h1 := sxL_len D L q k
    have h2 := nx2_len true D (sxL D L q k).2 (R5.PS.sQ q k)
    show (nx2 true D (sxL D L q k).2 (R5.PS.sQ q k)).2.length ≤ _
    omega
theorem st2_co (D : List (List UInt8)) (L : Lg) (q : R5.Qn) : st2 false D L q = (cst q, ad2 L q (bg (cst q))) := by unfold st2; rw [if_neg (by decide)]
theorem st2_log (i : Bool) (D : List (List UInt8)) (L : Lg) (q : R5.Qn) : (st2 i D L q).2.length ≤ L.length + 4 := by
  unfold st2
  cases i with
  | true => rw [if_pos rfl]; exact sxL_len D L q 4
  | false =>
    rw [if_neg (by decide)]
    show (ad2 L q _).length ≤ _
    unfold ad2
    cases R5.fndA q L with
    | some A => show L.length ≤ _; omega
    | none => show (L ++ [_]).length ≤ _; rw [List.length_append, List.length_singleton]; omega
theorem sxL_ext (D : List (List UInt8)) (L : Lg) (q : R5.Qn) (k : Nat) : ∀ d, ∃ M, (sxL D L q (k + d)).2 = (sxL D L q k).2 ++ M
  | 0 => ⟨[], (List.append_nil _).symm⟩
  | d + 1 => by
    obtain ⟨M, h⟩ := sxL_ext D L q k d
    obtain ⟨M2, h2⟩ := nx2_ext true D (sxL D L q (k + d)).2 (R5.PS.sQ q (k + d))
    have e : (sxL D L q (k + (d + 1))).2 = (nx2 true D (sxL D L q (k + d)).2 (R5.PS.sQ q (k + d))).2 := rfl
    exact ⟨M ++ M2, by rw [e, h2, h, List.append_assoc]⟩
theorem sxL_again (D : List (List UInt8)) (L : Lg) (q : R5.Qn) : ∀ k, k ≤ 4 → sxL D (sxL D L q 4).2 q k = ((sxL D L q k).1, (sxL D L q 4).2)
  | 0, _ => rfl
  | k + 1, hk => by
    have ih := sxL_again D L q k (by omega)
    have hf := nx2_fnd true D (sxL D L q k).2 (R5.PS.sQ q k)
    obtain ⟨M, hM⟩ := sxL_ext D L q (k + 1) (3 - k)
    rw [show k + 1 + (3 - k) = 4 by omega] at hM
    have hg : R5.fndA (R5.PS.sQ q k) (sxL D L q 4).2 = some (nx2 true D (sxL D L q k).2 (R5.PS.sQ q k)).1 := by rw [hM]; exact fnd_app M hf
    show ((sxL D (sxL D L q 4).2 q k).1 ++ (nx2 true D (sxL D (sxL D L q 4).2 q k).2 (R5.PS.sQ q k)).1, (nx2 true D (sxL D (sxL D L q 4).2 q k).2 (R5.PS.sQ q k)).2) = _
    rw [ih]
    simp only
    rw [nx2_old hg]
    rfl
theorem st2_again (i : Bool) (D : List (List UInt8)) (L : Lg) (q : R5.Qn) : st2 i D (st2 i D L q).2 q = ((st2 i D L q).1, (st2 i D L q).2) := by
  cases i with
  | true =>
    unfold st2
    rw [if_pos rfl, if_pos rfl]
    simp only
    rw [sxL_again D L q 4 (Nat.le_refl _)]
  | false =>
    unfold st2
    rw [if_neg (by decide), if_neg (by decide)]
    simp only
    congr 1
    unfold ad2
    cases h : R5.fndA q L with
    | some A => simp only; rw [h]
    | none => simp only; rw [fnd_new h]
theorem sxL_one {D : List (List UInt8)} {L : Lg} (h : gL D L) (q : R5.Qn) : ∀ k, (sxL D L q k).1.length = 32 * k ∧ gL D (sxL D L q k).2
  | 0 => ⟨rfl, h⟩
  | k + 1 => by
    obtain ⟨h1, h2⟩ := sxL_one h q k
    refine ⟨?_, h2.ok.2⟩
    show ((sxL D L q k).1 ++ _).length = _
    rw [List.length_append, h1, h2.len]; omega
theorem st2_len {i : Bool} {D : List (List UInt8)} {L : Lg} (h : gL D L) {q : R5.Qn} (hk : q.key.length = 32) : (st2 i D L q).1.length = 128 ∧ gL D (st2 i D L q).2 := by
  cases i with
  | true =>
    unfold st2
    rw [if_pos rfl]
    obtain ⟨h1, h2⟩ := sxL_one h q 4
    exact ⟨by rw [List.length_take, h1]; decide, h2⟩
  | false =>
    rw [st2_co]
    have hl := cst_len (q := q) hk
    have hb := bg_len hl
    generalize bg (cst q) = f at *
    generalize cst q = c at *
    refine ⟨hl, h.1, fun e he => ?_⟩
    have he : e ∈ ad2 L q f := he
    unfold ad2 at he
    cases hf : R5.fndA q L with
    | some A => rw [hf] at he; exact h.2 e he
    | none =>
      rw [hf] at he
      rcases List.mem_append.1 he with he | he
      · exact h.2 e he
      · rw [List.mem_singleton.1 he]; exact hb
theorem pstr_any (B og mb : Nat) (S : Nat → Prop) (i : Bool) (m : List UInt8) (D : List (List UInt8)) (L : Lg) (key data : List UInt8) (dq dv ov : Value) (w W : World) (hk : key.length = 32) (hd : data.length ≤ 1000000) (hB : B ≤ w.heap.size) (hll : L.length < 900000) (ho : R5.PO B og mb S w (prG i m D L) dv ov) (hW : Below w.heap.size w W) (hdq : HB W dq data) (hown : ∀ j, dq.ownBlock = some j → w.heap.size ≤ j) :
    Calls Tryz.prog 38 #[.pointer (some ⟨og, 0, none⟩), .agg (R5.qL ⟨4, key, 10, data⟩ dq).toArray, .int .i64 128] W fun e w' => Pass (StT B og mb S ((st2 i D L ⟨4, key, 10, data⟩).1, prG i m D (st2 i D L ⟨4, key, 10, data⟩).2) dv) W e w' := by
  cases i with
  | true =>
    have q := pstr_I B og mb S key data dq dv ov (prG true m D L) w W rfl hk hd hB hll ho hW hdq hown
    unfold stI at q
    rw [str_sx] at q
    exact q
  | false =>
    obtain ⟨h1, h2⟩ := strQ_ok key data hk hd
    refine (R5.PS.pstream_conc B og mb S dq dv ov (prG false m D L) ⟨4, key, 10, data⟩ W rfl (Nat.le_trans hB hW.size) hll (ho.below hW) h1 hd hdq h2).mono ?_
    rintro e w' ⟨v, rfl, a1, a2, a3, a4⟩
    have e : ∀ f, (R5.pAsk (prG false m D L) ⟨4, key, 10, data⟩ f).2 = prG false m D (ad2 L ⟨4, key, 10, data⟩ f) := fun f => by
      unfold ad2 R5.pAsk
      simp only [prG]
      cases R5.fndA (⟨4, key, 10, data⟩ : R5.Qn) L <;> rfl
    rw [e] at a4
    rw [st2_co]
    generalize bg (cst ⟨4, key, 10, data⟩) = f at *
    generalize cst ⟨4, key, 10, data⟩ = c at *
    exact ⟨W, v, 0, Below.refl _ _, rfl, rfl, a1, a2, a3, a4⟩
section
variable {w X Y : World} {og mb rg : Nat} {i : Bool} {m : List UInt8} {D : List (List UInt8)} {L L' R R' : Lg} {rows : Rws}
theorem TB.hc (h : TB w og mb rg i m D L R rows X) (W : World) (hW : Below X.heap.size X W) : W.cell? ⟨og, 35, none⟩ = some (.map (some mb)) := (hW.cell (block_lt h.mc)).trans h.mc
theorem TB.pseal (h : TB w og mb rg i m D L R rows X) (hll : L.length < 900000) (key pl : List UInt8) (p c : Nat) (hg : gL D L) (hk : key.length = 32) (hpl : pl.length = 128) (hp : p < 128) (hc : c ≤ 4294967296) :
    Calls Tryz.prog 7 #[.pointer (some ⟨og, 0, none⟩), .agg (key.map B8).toArray, .int .i64 (p : Int), .int .u64 (c : Int), .agg (pl.map B8).toArray] X fun e Y => e = .returned (gok (mx pl (st2 i D L ⟨4, key, 10, W1.le 8 p ++ W1.le 8 c⟩).1)) ∧ TB w og mb rg i m D (st2 i D L ⟨4, key, 10, W1.le 8 p ++ W1.le 8 c⟩).2 R rows Y :=
  h.pask fun S dv ov ho => seal_ok w.heap.size og mb S key pl p c ((st2 i D L ⟨4, key, 10, W1.le 8 p ++ W1.le 8 c⟩).1, prG i m D (st2 i D L ⟨4, key, 10, W1.le 8 p ++ W1.le 8 c⟩).2) dv ov _ X hk hpl hp hc h.bel.size ho (st2_len hg hk).1
    (fun W dq hW hd hown => pstr_any w.heap.size og mb S i m D L key _ dq dv ov X W hk (by simp [W1.le_length]) h.bel.size hll ho hW hd hown)
theorem TB.pseal_no (h : TB w og mb rg i m D L R rows X) (key pl : List UInt8) (pg c : Int) (hk : key.length = 32) (hpl : pl.length = 128) (hm : mayB pg c = false) :
    Calls Tryz.prog 7 #[.pointer (some ⟨og, 0, none⟩), .agg (key.map B8).toArray, .int .i64 pg, .int .u64 c, .agg (pl.map B8).toArray] X fun e Y => e = .returned (gz 2) ∧ TB w og mb rg i m D L R rows Y :=
  (seal_no (some ⟨og, 0, none⟩) key pl pg c 2 X hk hpl (by decide) (fun W hW => by have q := fault_no og mb pg c W (h.hc W hW); rw [hm] at q; exact q)).mono fun e Y ⟨h1, h2⟩ => ⟨h1, h.step h2⟩
theorem TB.popen (h : TB w og mb rg i m D L R rows X) (hll : L.length < 900000) (key pl : List UInt8) (p c : Nat) (hg : gL D L) (hk : key.length = 32) (hpl : pl.length = 128) (hp : p < 128) (hc : c ≤ 4294967296) :
    Calls Tryz.prog 8 #[.pointer (some ⟨og, 0, none⟩), .agg (key.map B8).toArray, .int .i64 (p : Int), .int .u64 (c : Int), .agg (pl.map B8).toArray] X fun e Y => e = .returned (gok (mx pl (st2 i D L ⟨4, key, 10, W1.le 8 p ++ W1.le 8 c⟩).1)) ∧ TB w og mb rg i m D (st2 i D L ⟨4, key, 10, W1.le 8 p ++ W1.le 8 c⟩).2 R rows Y :=
  h.pask fun S dv ov ho => open_ok w.heap.size og mb S key pl p c ((st2 i D L ⟨4, key, 10, W1.le 8 p ++ W1.le 8 c⟩).1, prG i m D (st2 i D L ⟨4, key, 10, W1.le 8 p ++ W1.le 8 c⟩).2) dv ov _ X hk hpl hp hc h.bel.size ho (st2_len hg hk).1
    (fun W dq hW hd hown => pstr_any w.heap.size og mb S i m D L key _ dq dv ov X W hk (by simp [W1.le_length]) h.bel.size hll ho hW hd hown)
theorem TB.popen_no (h : TB w og mb rg i m D L R rows X) (key pl : List UInt8) (pg c : Int) (hk : key.length = 32) (hpl : pl.length = 128) (hm : mayB pg c = false) :
    Calls Tryz.prog 8 #[.pointer (some ⟨og, 0, none⟩), .agg (key.map B8).toArray, .int .i64 pg, .int .u64 c, .agg (pl.map B8).toArray] X fun e Y => e = .returned (gz 2) ∧ TB w og mb rg i m D L R rows Y :=
  (open_no (some ⟨og, 0, none⟩) key pl pg c 2 X hk hpl (by decide) (fun W hW => by have q := fault_no og mb pg c W (h.hc W hW); rw [hm] at q; exact q)).mono fun e Y ⟨h1, h2⟩ => ⟨h1, h.step h2⟩
end
structure MoC (b : Nat) (c : Mo) (dv : Value) (W : World) : Prop where
  c0 : W.cell? ⟨b, 0, none⟩ = some (.bool c.i)
  c33 : W.cell? ⟨b, 33, none⟩ = some dv
  m : W.rangeAt b 1 (c.m.map B8)
theorem MoC.of {b : Nat} {c : Mo} {dv : Value} {W : World} {t : TypeId} (hm : c.m.length = 32) (h : W.heap[b]? = some (.cells (moL c dv).toArray t (0, 0))) : MoC b c dv W := by
  have hc := fun k => cell_of_row W _ k _ _ _ h
  refine ⟨by rw [hc]; rfl, ?_, fun j v hv => ?_⟩
  · rw [hc, List.getElem?_toArray]
    unfold moL
    rw [show (33 : Nat) = 32 + 1 from rfl, List.getElem?_cons_succ, List.getElem?_append_right (by simp [hm])]
    simp [hm]
  · rw [hc, List.getElem?_toArray]
    have hj : j < c.m.length := by have := (List.getElem?_eq_some_iff.1 hv).1; simpa using this
    unfold moL
    rw [show 1 + j = j + 1 by omega, List.getElem?_cons_succ, List.getElem?_append_left (by simpa using hj)]
    exact hv
def BothEnd (w : World) (c : Mo) (rows : Rws) (e : Ending) (Y : World) : Prop :=
  ∃ og mb rg, e = .returned (.tuple #[.pointer (some ⟨og, 0, none⟩), .pointer (some ⟨rg, 0, none⟩)]) ∧ TB w og mb rg c.i c.m c.D [] [] rows Y
set_option maxHeartbeats 4000000 in
set_option maxRecDepth 100000 in
theorem both_any (w X : World) (c : Mo) (dv : Value) (rows : Rws) (hc : c.ok dv w) (hrows : RS w rows X) (hD : c.D.length ≤ 1000) :
    Calls Tryz.prog 6 #[.agg (moL c dv).toArray] X fun e Y => BothEnd w c ((X.heap.size, 26, moL c dv) :: rows) e Y := by
  obtain ⟨hm, hd, hdn⟩ := hc
  have HT0 : Hid _ := hrows.alloc X.heap.size rfl 26 (moL c dv)
  obtain ⟨hdl, pd, capd, hde, hdr⟩ := id hd
  have HCC : Hid (∀ W, RS w ((X.heap.size, 26, moL c dv) :: rows) W → MoC X.heap.size c dv W) := fun W hW => MoC.of hm (hW.at 0 rfl)
  have HNEW : Hid (∀ W, RS w ((X.heap.size, 26, moL c dv) :: rows) W → Calls Tryz.prog 18 #[.bool c.i, .agg (c.m.map B8).toArray, dv] W fun e w' => R5.PNew W c.i c.m c.D e w') := fun W hW => by
    rw [hde]
    exact R5.pnew_any c.i c.m pd c.D.length capd c.D W hm (hdn _ _ _ hde) (by omega) (by rw [← hde]; exact R5.hds_below hd hW.bel)
  have HMI : Hid _ := R5.info32 (c.m.map B8) (by simpa using hm)
  obtain ⟨OL, hOL⟩ : ∃ OL, OL = R5.oL c.i c.m dv 0 (.slice none 0 0) := ⟨_, rfl⟩
  have HBO : Hid (∀ W, (Instr.build 45 #[(0, .bool c.i), (1, .agg (c.m.map B8).toArray), (2, dv)]).run Tryz.prog W = .ok (.agg OL.toArray) W) := fun W => by rw [hOL, hde]; exact build_orG W c.i (c.m.map B8) (by simpa using hm) pd c.D.length capd
  have HSTART : Hid (∀ og mb rg x0 dvo V Y, R5.PO x0 og mb (fun k => k = og ∨ k = mb) V ⟨c.i, c.m, c.D, []⟩ dvo (.slice none 0 0) → (∀ k, dvo.ownBlock = some k → x0 ≤ k) → w.heap.size ≤ x0 → Below V.heap.size V Y → w.heap.size ≤ rg → (rg < x0 ∨ V.heap.size ≤ rg) → Y.heap[rg]? = some (.cells OL.toArray 45 (0, 0)) → RS w ((X.heap.size, 26, moL c dv) :: rows) Y → (∀ r ∈ ((X.heap.size, 26, moL c dv) :: rows), r.1 ≠ rg ∧ (r.1 < x0 ∨ V.heap.size ≤ r.1)) → x0 ≤ V.heap.size → TB w og mb rg c.i c.m c.D [] [] ((X.heap.size, 26, moL c dv) :: rows) Y) := fun og mb rg x0 dvo V Y a1 a2 a3 a4 a5 a6 a7 a8 a9 a10 => TB.start a1 a2 a3 a4 hd a5 a6 (by rw [← hOL]; exact a7) a8 a9 a10
  have hdi : ∃ q : Option Addr × Nat × Nat, dv = .slice q.1 q.2.1 q.2.2 := ⟨(pd, _, capd), hde⟩
  clear hOL hm hd hdn hdl hde hdr hD hrows
  obtain ⟨⟨pd2, nd2, cd2⟩, hde⟩ := hdi
  simp only at hde
  subst hde
  generalize hRR : ((X.heap.size, 26, moL c (.slice pd2 nd2 cd2)) :: rows) = RR at *
  have HRR : Hid (((X.heap.size, 26, moL c (.slice pd2 nd2 cd2)) :: rows) = RR) := hRR
  clear hRR
  go_enter Tryz.func6, Tryz.ntmps6
  go_upto_region 1 with fail
  generalize World.alloc _ _ = X0 at *
  have hT0 : RS w RR X0 := HT0.out
  clear HT0
  refine wp_region_held_drew (S := fun W => RS w RR W) (by kernel_rfl) (hT0.step (Below.refl _ _).drew) (fun hHeld => ?_)
  clear hT0
  generalize World.drew _ = V0 at *
  refine wpAnyH_take (i := 0) (oi := ⟨some 4, .fieldAddr 26 (.tmp 1) 0, 0, _, #[], none⟩) (v := .pointer (some ⟨X.heap.size, 0, none⟩)) rfl (by kernel_rfl) (by kernel_rfl) (by kernel_rfl) (fun _ _ _ h => h) (Or.inl ⟨by rfl, fun w' hw' => ?_⟩) hHeld ?_
  · first | (go_simp; done) | (go_simp; rfl)
  try simp only [Act.put, qT, q0, qS]
  refine wpAnyH_take (i := 1) (oi := ⟨some 5, .load 4 (.tmp 4), 4, _, #[⟨0, .data⟩], none⟩) (v := .bool c.i) rfl (by kernel_rfl) (by kernel_rfl) (by kernel_rfl) (fun _ _ _ h => h) (Or.inl ⟨by rfl, fun w' hw' => ?_⟩) hHeld ?_
  · have hcc := (HCC.out w' hw').c0; first | (go_simp; done) | (go_simp; rfl)
  try simp only [Act.put, qT, q0, qS]
  refine wpAnyH_take (i := 2) (oi := ⟨some 6, .fieldAddr 26 (.tmp 1) 1, 0, _, #[], none⟩) (v := .pointer (some ⟨X.heap.size, 1, none⟩)) rfl (by kernel_rfl) (by kernel_rfl) (by kernel_rfl) (fun _ _ _ h => h) (Or.inl ⟨by rfl, fun w' hw' => ?_⟩) hHeld ?_
  · first | (go_simp; done) | (go_simp; rfl)
  try simp only [Act.put, qT, q0, qS]
  refine wpAnyH_take (i := 3) (oi := ⟨some 7, .load 23 (.tmp 6), 23, _, #[⟨2, .data⟩], none⟩) rfl (by kernel_rfl) (by kernel_rfl) (by kernel_rfl) (fun _ _ _ h => h) (yieldsIf_load_mid (by rfl) 23 (.tmp 6) rfl (X.heap.size) (1) rfl (c.m.map B8) _ (fun _ h => (HCC.out _ h).m) Tryz.underlying23 rfl HMI.out) hHeld ?_
  try simp only [Act.put, qT, q0, qS]
  refine wpAnyH_take (i := 4) (oi := ⟨some 8, .fieldAddr 26 (.tmp 1) 2, 0, _, #[], none⟩) (v := .pointer (some ⟨X.heap.size, 33, none⟩)) rfl (by kernel_rfl) (by kernel_rfl) (by kernel_rfl) (fun _ _ _ h => h) (Or.inl ⟨by rfl, fun w' hw' => ?_⟩) hHeld ?_
  · first | (go_simp; done) | (go_simp; rfl)
  try simp only [Act.put, qT, q0, qS]
  refine wpAnyH_take (i := 5) (oi := ⟨some 9, .load 24 (.tmp 8), 24, _, #[⟨4, .data⟩], none⟩) (v := .slice pd2 nd2 cd2) rfl (by kernel_rfl) (by kernel_rfl) (by kernel_rfl) (fun _ _ _ h => h) (Or.inl ⟨by rfl, fun w' hw' => ?_⟩) hHeld ?_
  · have hcc := (HCC.out w' hw').c33; first | (go_simp; done) | (go_simp; rfl)
  try simp only [Act.put, qT, q0, qS]
  refine wpAnyH_take (i := 7) (oi := { dst := some 11, op := .fieldAddr 26 (.tmp 1) 0, type := 0, pos := _, after := #[{ on := 15, ground := .gcOnly Go.Departure.lateStores }], guard := none }) (v := .pointer (some ⟨X.heap.size, 0, none⟩)) rfl (by kernel_rfl) (by kernel_rfl) (by kernel_rfl) (fun _ _ _ h => h) (Or.inl ⟨by rfl, fun w' hw' => ?_⟩) hHeld ?_
  · first | (go_simp; done) | (go_simp; rfl)
  try simp only [Act.put, qT, q0, qS]
  refine wpAnyH_take (i := 8) (oi := { dst := some 12, op := .load 4 (.tmp 11), type := 4, pos := _, after := #[⟨7, .data⟩, { on := 15, ground := .gcOnly Go.Departure.lateStores }], guard := none }) (v := .bool c.i) rfl (by kernel_rfl) (by kernel_rfl) (by kernel_rfl) (fun _ _ _ h => h) (Or.inl ⟨by rfl, fun w' hw' => ?_⟩) hHeld ?_
  · have hcc := (HCC.out w' hw').c0; first | (go_simp; done) | (go_simp; rfl)
  try simp only [Act.put, qT, q0, qS]
  refine wpAnyH_take (i := 9) (oi := { dst := some 13, op := .fieldAddr 26 (.tmp 1) 1, type := 0, pos := _, after := #[{ on := 15, ground := .gcOnly Go.Departure.lateStores }], guard := none }) (v := .pointer (some ⟨X.heap.size, 1, none⟩)) rfl (by kernel_rfl) (by kernel_rfl) (by kernel_rfl) (fun _ _ _ h => h) (Or.inl ⟨by rfl, fun w' hw' => ?_⟩) hHeld ?_
  · first | (go_simp; done) | (go_simp; rfl)
  try simp only [Act.put, qT, q0, qS]
  refine wpAnyH_take (i := 10) (oi := { dst := some 14, op := .load 23 (.tmp 13), type := 23, pos := _, after := #[⟨9, .data⟩, { on := 15, ground := .gcOnly Go.Departure.lateStores }], guard := none }) rfl (by kernel_rfl) (by kernel_rfl) (by kernel_rfl) (fun _ _ _ h => h) (yieldsIf_load_mid (by rfl) 23 (.tmp 13) rfl (X.heap.size) (1) rfl (c.m.map B8) _ (fun _ h => (HCC.out _ h).m) Tryz.underlying23 rfl HMI.out) hHeld ?_
  try simp only [Act.put, qT, q0, qS]
  refine wpAnyH_take (i := 11) (oi := { dst := some 15, op := .fieldAddr 26 (.tmp 1) 2, type := 0, pos := _, after := #[{ on := 15, ground := .gcOnly Go.Departure.lateStores }], guard := none }) (v := .pointer (some ⟨X.heap.size, 33, none⟩)) rfl (by kernel_rfl) (by kernel_rfl) (by kernel_rfl) (fun _ _ _ h => h) (Or.inl ⟨by rfl, fun w' hw' => ?_⟩) hHeld ?_
  · first | (go_simp; done) | (go_simp; rfl)
  try simp only [Act.put, qT, q0, qS]
  refine wpAnyH_take (i := 12) (oi := { dst := some 16, op := .load 24 (.tmp 15), type := 24, pos := _, after := #[⟨11, .data⟩, { on := 15, ground := .gcOnly Go.Departure.lateStores }], guard := none }) (v := .slice pd2 nd2 cd2) rfl (by kernel_rfl) (by kernel_rfl) (by kernel_rfl) (fun _ _ _ h => h) (Or.inl ⟨by rfl, fun w' hw' => ?_⟩) hHeld ?_
  · have hcc := (HCC.out w' hw').c33; first | (go_simp; done) | (go_simp; rfl)
  try simp only [Act.put, qT, q0, qS]
  refine wpAnyH_take (i := 13) (oi := { dst := some 17, op := .build 45 #[(0, .tmp 12), (1, .tmp 14), (2, .tmp 16)], type := 45, pos := _, after := #[⟨8, .data⟩, ⟨10, .data⟩, ⟨12, .data⟩, { on := 15, ground := .gcOnly Go.Departure.lateStores }], guard := none }) (v := .agg OL.toArray) rfl (by kernel_rfl) (by kernel_rfl) (by kernel_rfl) (fun _ _ _ h => h) (Or.inl ⟨by rfl, fun w' hw' => ?_⟩) hHeld ?_
  · exact R5.exec_build _ _ 45 _ _ _ w' rfl (by simp; first | done | rfl | exact ⟨rfl, rfl, rfl⟩) (HBO.out w')
  try simp only [Act.put, qT, q0, qS]
  refine wpAnyH_ready (rs := [6, 14]) (by kernel_rfl) (by simp) ?_
  refine AllReadyH.cons (o := { dst := some 10, op := .call { callee := Go.Callee.value (.func 18), args := #[.tmp 5, .tmp 7, .tmp 9], argTypes := #[4, 23, 24] }, type := 31, pos := _, after := #[⟨1, .data⟩, ⟨3, .data⟩, ⟨5, .data⟩], guard := none }) rfl (fun K hK => ?_) (AllReadyH.cons (o := { dst := some 18, op := .box 45 (.tmp 17), type := 32, pos := _, after := #[⟨13, .data⟩, { on := 15, ground := .gcOnly Go.Departure.lateStores }], guard := none }) rfl (fun K hK => ?_) AllReadyH.nil)
  all_goals rw [if_pos (by rfl)]
  · go_wp2_with fail
    refine Calls.mono (HNEW.out V0 hHeld) ?_
    rintro e V1 ⟨og, mb, dvo, rfl, hpo, hbV, hdv⟩
    have hH1 := hHeld.step hbV
    have hlow : ∀ r ∈ RR, r.1 < V0.heap.size := fun r hr => R5.row_lt (hHeld.row r hr)
    have hVs := hHeld.bel.size
    refine hK.out _ _ hH1 (fun _ => ?_)
    clear hK K
    try simp only [Act.put, qT, q0, qS]
    clear hHeld
    have hHeld := hH1
    refine wpAnyH_take (i := 15) (oi := { dst := some 2, op := .assign (.tmp 10), type := 31, pos := _, after := #[⟨6, .data⟩, ⟨6, .chain⟩, ⟨0, .phase⟩, ⟨1, .phase⟩, ⟨2, .phase⟩, ⟨3, .phase⟩, ⟨4, .phase⟩, ⟨5, .phase⟩, ⟨6, .phase⟩, { on := 7, ground := .textOnly Go.Departure.lateStores }, { on := 8, ground := .textOnly Go.Departure.lateStores }, { on := 9, ground := .textOnly Go.Departure.lateStores }, { on := 10, ground := .textOnly Go.Departure.lateStores }, { on := 11, ground := .textOnly Go.Departure.lateStores }, { on := 12, ground := .textOnly Go.Departure.lateStores }, { on := 13, ground := .textOnly Go.Departure.lateStores }, { on := 14, ground := .textOnly Go.Departure.lateStores }], guard := none }) (v := .pointer (some ⟨og, 0, none⟩)) rfl (by kernel_rfl) (by kernel_rfl) (by kernel_rfl) (fun _ _ _ h => h) (Or.inl ⟨by rfl, fun w' hw' => ?_⟩) hHeld ?_
    · first | (go_simp; done) | (go_simp; rfl)
    try simp only [Act.put, qT, q0, qS]
    have hb2 : Below V1.heap.size V1 (V1.alloc (.cells OL.toArray 45 (0, 0))) := (Below.refl _ _).alloc (Nat.le_refl _) _
    have hH2 := hH1.step hb2
    have HTB : Hid (TB w og mb V1.heap.size c.i c.m c.D [] [] RR (V1.alloc (.cells OL.toArray 45 (0, 0)))) := HSTART.out og mb V1.heap.size V0.heap.size dvo V1 _ hpo hdv hVs hb2 hH1.bel.size (.inr (Nat.le_refl _)) (heap_alloc_new _ _) hH2 (fun r hr => ⟨by have := hlow r hr; have := hbV.size; omega, .inl (hlow r hr)⟩) hbV.size
    refine wpAnyH_ready (rs := [14]) (by kernel_rfl) (by simp) ?_
    refine AllReadyH.cons (o := { dst := some 18, op := .box 45 (.tmp 17), type := 32, pos := _, after := #[⟨13, .data⟩, { on := 15, ground := .gcOnly Go.Departure.lateStores }], guard := none }) rfl (fun K hK => ?_) AllReadyH.nil
    rw [if_pos (by rfl)]
    go_wp2_with fail
    refine hK.out _ _ hH2 (fun _ => ?_)
    clear hK K
    try simp only [Act.put, qT, q0, qS]
    clear hHeld hH1 hpo hbV hdv hb2
    have hHeld := hH2
    clear hH2
    generalize V1.heap.size = rg at *
    generalize V1.alloc (.cells OL.toArray 45 (0, 0)) = Y at *
    refine wpAnyH_take (i := 16) (oi := ⟨some 3, .assign (.tmp 18), 32, _, #[⟨14, .data⟩, ⟨15, .chain⟩, ⟨0, .phase⟩, ⟨1, .phase⟩, ⟨2, .phase⟩, ⟨3, .phase⟩, ⟨4, .phase⟩, ⟨5, .phase⟩, ⟨6, .phase⟩, ⟨7, .phase⟩, ⟨8, .phase⟩, ⟨9, .phase⟩, ⟨10, .phase⟩, ⟨11, .phase⟩, ⟨12, .phase⟩, ⟨13, .phase⟩, ⟨14, .phase⟩, ⟨15, .phase⟩], none⟩) (v := .pointer (some ⟨rg, 0, none⟩)) rfl (by kernel_rfl) (by kernel_rfl) (by kernel_rfl) (fun _ _ _ h => h) (Or.inl ⟨by rfl, fun w' hw' => ?_⟩) hHeld ?_
    · first | (go_simp; done) | (go_simp; rfl)
    try simp only [Act.put, qT, q0, qS]
    refine wpAnyH_done (by kernel_rfl) ?_ _
    clear hHeld
    go_wp2
    go_ret2
    exact ⟨og, mb, rg, rfl, HTB.out⟩
  · go_wp2_with fail
    have hb2 : Below V0.heap.size V0 (V0.alloc (.cells OL.toArray 45 (0, 0))) := (Below.refl _ _).alloc (Nat.le_refl _) _
    have hH1 := hHeld.step hb2
    have hlow : ∀ r ∈ RR, r.1 < V0.heap.size := fun r hr => R5.row_lt (hHeld.row r hr)
    have hrr : (V0.alloc (.cells OL.toArray 45 (0, 0))).heap[V0.heap.size]? = some (.cells OL.toArray 45 (0, 0)) := heap_alloc_new _ _
    refine hK.out _ _ hH1 (fun _ => ?_)
    clear hK K
    try simp only [Act.put, qT, q0, qS]
    generalize V0.alloc (.cells OL.toArray 45 (0, 0)) = V1 at *
    refine wpAnyH_ready (rs := [6]) (by kernel_rfl) (by simp) ?_
    refine AllReadyH.cons (o := { dst := some 10, op := .call { callee := Go.Callee.value (.func 18), args := #[.tmp 5, .tmp 7, .tmp 9], argTypes := #[4, 23, 24] }, type := 31, pos := _, after := #[⟨1, .data⟩, ⟨3, .data⟩, ⟨5, .data⟩], guard := none }) rfl (fun K hK => ?_) AllReadyH.nil
    rw [if_pos (by rfl)]
    go_wp2_with fail
    refine Calls.mono (HNEW.out V1 hH1) ?_
    rintro e V2 ⟨og, mb, dvo, rfl, hpo, hbV, hdv⟩
    have hH2 := hH1.step hbV
    have HTB : Hid (TB w og mb V0.heap.size c.i c.m c.D [] [] RR V2) := HSTART.out og mb V0.heap.size V1.heap.size dvo V2 V2 hpo hdv hH1.bel.size (Below.refl _ _) hHeld.bel.size (.inl (R5.row_lt hrr)) ((hbV.block _ (R5.row_lt hrr)).trans hrr) hH2 (fun r hr => ⟨by have := hlow r hr; omega, .inl (by have := hlow r hr; have := hb2.size; omega)⟩) hbV.size
    refine hK.out _ _ hH2 (fun _ => ?_)
    clear hK K
    try simp only [Act.put, qT, q0, qS]
    clear hHeld hH1 hpo hbV hdv hb2 hlow hrr
    have hHeld := hH2
    clear hH2
    generalize V0.heap.size = rg at *
    refine wpAnyH_take (i := 15) (oi := { dst := some 2, op := .assign (.tmp 10), type := 31, pos := _, after := #[⟨6, .data⟩, ⟨6, .chain⟩, ⟨0, .phase⟩, ⟨1, .phase⟩, ⟨2, .phase⟩, ⟨3, .phase⟩, ⟨4, .phase⟩, ⟨5, .phase⟩, ⟨6, .phase⟩, { on := 7, ground := .textOnly Go.Departure.lateStores }, { on := 8, ground := .textOnly Go.Departure.lateStores }, { on := 9, ground := .textOnly Go.Departure.lateStores }, { on := 10, ground := .textOnly Go.Departure.lateStores }, { on := 11, ground := .textOnly Go.Departure.lateStores }, { on := 12, ground := .textOnly Go.Departure.lateStores }, { on := 13, ground := .textOnly Go.Departure.lateStores }, { on := 14, ground := .textOnly Go.Departure.lateStores }], guard := none }) (v := .pointer (some ⟨og, 0, none⟩)) rfl (by kernel_rfl) (by kernel_rfl) (by kernel_rfl) (fun _ _ _ h => h) (Or.inl ⟨by rfl, fun w' hw' => ?_⟩) hHeld ?_
    · first | (go_simp; done) | (go_simp; rfl)
    try simp only [Act.put, qT, q0, qS]
    refine wpAnyH_take (i := 16) (oi := ⟨some 3, .assign (.tmp 18), 32, _, #[⟨14, .data⟩, ⟨15, .chain⟩, ⟨0, .phase⟩, ⟨1, .phase⟩, ⟨2, .phase⟩, ⟨3, .phase⟩, ⟨4, .phase⟩, ⟨5, .phase⟩, ⟨6, .phase⟩, ⟨7, .phase⟩, ⟨8, .phase⟩, ⟨9, .phase⟩, ⟨10, .phase⟩, ⟨11, .phase⟩, ⟨12, .phase⟩, ⟨13, .phase⟩, ⟨14, .phase⟩, ⟨15, .phase⟩], none⟩) (v := .pointer (some ⟨rg, 0, none⟩)) rfl (by kernel_rfl) (by kernel_rfl) (by kernel_rfl) (fun _ _ _ h => h) (Or.inl ⟨by rfl, fun w' hw' => ?_⟩) hHeld ?_
    · first | (go_simp; done) | (go_simp; rfl)
    try simp only [Act.put, qT, q0, qS]
    refine wpAnyH_done (by kernel_rfl) ?_ _
    clear hHeld
    go_wp2
    go_ret2
    exact ⟨og, mb, rg, rfl, HTB.out⟩
end Go.Proofs.YtbmmibmfjhehhaaGreat.BC
