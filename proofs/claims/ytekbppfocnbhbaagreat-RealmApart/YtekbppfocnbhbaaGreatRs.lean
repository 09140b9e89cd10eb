import Derived.Test.YtekbppfocnbhbaaGreatRk
import Derived.Test.YtekbppfocnbhbaaGreatYG
import Derived.Test.YtekbppfocnbhbaaGreatPM
import Derived.Test.YtekbppfocnbhbaaGreatXW
import Derived.Deep.CutRange
set_option linter.unusedVariables false
set_option linter.unusedSimpArgs false
set_option maxHeartbeats 16000000
set_option maxRecDepth 100000
namespace Go.Proofs.YtekbppfocnbhbaaGreat.XC
open Go.RowKit
section
variable {c : Cx} {rb tn last last' : Nat} {L R R' L' : Lg} {C C2 I J : Nat → Prop} {X Y Y' Z W : World} {rl rl' l l' : List En} {av av' : Value} {a : Ac} {s s' : Am} {k : Int} {N p q : Nat}
theorem do_cre1 (h : JA c rb s C X) (hB : Bd N s) (hN : N ≤ 1000) (ha : a.ok) (hk : a.kind = 1) :
    Calls Tryz.prog 10 #[.agg (prL c rb).toArray, .agg (acL a).toArray] X fun e Y => DoE c rb s a.kind C X e Y := by
  have hz := fun W => zero_rm W
  obtain ⟨ZL, hZL⟩ : ∃ L, L = rmL zR (.slice none 0 0) := ⟨_, rfl⟩
  rw [← hZL] at hz
  have HZN : Hid (ZL.length = 103) := by show _ = _; rw [hZL]; exact rmL_len zR_ok _
  have HZS : Hid (ZL.toArray.size = 103) := by show _ = _; simpa using HZN.out
  obtain ⟨X1, hX1⟩ : ∃ X1, X1 = (X.alloc (.cells (prL c rb).toArray 29 (0, 0))).alloc (.cells (acL a).toArray 43 (0, 0)) := ⟨_, rfl⟩
  have hb1 : Below X.heap.size X X1 := by rw [hX1]; exact ((Below.refl _ _).alloc (Nat.le_refl _) _).alloc (by simp) _
  have hs1 : X1.heap.size = X.heap.size + 1 + 1 := by rw [hX1]; simp
  have hsb : SB c rb X.heap.size (X.heap.size + 1) a X1 := ⟨by rw [hX1]; exact (heap_alloc_old _ _ (by simp)).trans (heap_alloc_new _ _), by rw [hX1]; exact R5.heap_at _ _ _ (by simp)⟩
  have HJ : Hid (JA c rb s (fun k => C k ∨ (X.heap.size ≤ k ∧ k < X1.heap.size)) X1) := h.new hb1
  have HFX : Hid (∀ k, C k → X1.heap[k]? = X.heap[k]?) := fun k hk => hb1.block k (h.lt hk)
  have HSB : Hid (∀ W, (∀ k, (C k ∨ (X.heap.size ≤ k ∧ k < X1.heap.size)) → W.heap[k]? = X1.heap[k]?) → SB c rb X.heap.size (X.heap.size + 1) a W) := fun W hW => hsb.keep (fun k hk => hW k (.inr (by omega)))
  have HAO : Hid a.ok := ha
  have HS1 : Hid (SB c rb X.heap.size (X.heap.size + 1) a X1) := hsb
  have HX1 : Hid _ := hX1
  have hk0 := hsb.k0
  have HTI : Hid _ := R5.info32 (a.tree.map B8) (by simpa using ha.t)
  have HGI : Hid _ := PC.info128 (a.g.map B8) (by simpa using ha.g)
  have HPI : Hid _ := PC.info33 (PC.rpL a.V a.nodes) (PC.rpL_len _ _ ha.V)
  have HRI : Hid _ := PC.info10 (PC.rcL a.pc a.rs a.run) (PC.rcL_len _ _ _ ha.rs)
  rw [hX1] at hk0
  clear h hb1 hs1 hsb hX1
  have HB : Hid (Bd N s) := hB
  have HN : Hid (N ≤ 1000) := hN
  have HRD : Hid (iOk a.rd) := ha.rd
  rw [hk] at hk0 ⊢
  clear hB hN ha hZL
  go_enter Tryz.func10, Tryz.ntmps10
  go_upto_region 3 with fail
  rw [← HX1.out]
  clear hk0 HX1
  obtain ⟨I, l, rl, av, tn, hjb⟩ := HJ.out
  have HCO : Hid _ := do_cre (root := a.root) hjb HB.out HN.out HRD.out a.V HAO.out.V a.nodes a.tree HAO.out.t
  clear hjb
  have hc1 := HS1.out.c1
  have hk1 := HS1.out.k1
  have hk2 := HS1.out.k2
  go_wp2_with (first
    | (refine wpList_load_mid rfl 36 (.tmp 24) rfl (X.heap.size + 1) 4 rfl (PC.rpL a.V a.nodes) _ (HS1.out.rp HAO.out) Tryz.underlying36 rfl HPI.out ?_)
    | (refine wpList_load_mid rfl 33 (.tmp 26) rfl (X.heap.size + 1) 37 rfl (a.tree.map B8) _ (HS1.out.rt HAO.out) Tryz.underlying33 rfl HTI.out ?_))
  refine Calls.mono HCO.out ?_
  rintro e W1 ⟨E, r, v', s', rfl, hok, hln, hhr, hAT, -, -, hfr, href⟩
  have HNN : Hid ((rmL r v').length = 103) := rmL_len hok _
  have HN1 : Hid ((rmL r v').toArray.all (·.oneCell') = true) := rmL_onea r hhr
  have HOK : Hid r.ok := hok
  have HLN : Hid (r.log.length < 1000000) := by show _ < _; omega
  obtain ⟨U, hU⟩ : ∃ U, U = (W1.alloc (.cells ZL.toArray 47 (0, 0))).setRow W1.heap.size (rmL r v').toArray := ⟨_, rfl⟩
  have hbU : Below W1.heap.size W1 U := by rw [hU]; exact below_setRow ((Below.refl _ _).alloc (Nat.le_refl _) _) (Nat.le_refl _) _
  have hszU : U.heap.size = W1.heap.size + 1 := by rw [hU]; simp
  have hrU : U.heap[W1.heap.size]? = some (.cells (rmL r v').toArray 47 (0, 0)) := by rw [hU]; exact setRow_heap _ _ _ _ _ _ (heap_alloc_new _ _)
  have hfU : ∀ k, (C k ∨ (X.heap.size ≤ k ∧ k < X1.heap.size)) → U.heap[k]? = X1.heap[k]? ∧ k < W1.heap.size := fun k hk => by
    have e1 := hfr k hk
    have hlt : k < W1.heap.size := by
      have h1 := HJ.out.lt hk
      cases hx : X1.heap[k]? with
      | none => rw [Array.getElem?_eq_none_iff] at hx; omega
      | some o => rw [hx] at e1; exact (Array.getElem?_eq_some_iff.1 e1).1
    exact ⟨(hbU.block k hlt).trans e1, hlt⟩
  have hSU := HSB.out U (fun k hk => (hfU k hk).1)
  have HSU : Hid _ := hSU
  have HFU : Hid _ := hfU
  have HRF : Hid _ := href U hbU
  have HRU : Hid _ := hrU
  have HSZ : Hid _ := hszU
  have HAT : Hid _ := hAT
  have HNR : Hid ((W1.alloc (.cells ZL.toArray 47 (0, 0))).heap[W1.heap.size]? = some (.cells ZL.toArray 47 (0, 0))) := heap_alloc_new _ _
  have HUU : Hid _ := hU
  obtain ⟨NL, hNL⟩ : ∃ NL, NL = rmL r v' := ⟨_, rfl⟩
  rw [← hNL] at HNN HN1 HRU HUU ⊢
  have HNL : Hid (NL = rmL r v') := hNL
  have HZN2 : Hid (ZL.toArray.size = NL.toArray.size) := by have := HZS.out; have := HNN.out; simp_all
  have HNI : Hid ((Tryz.prog.info? 47).map (·.size) = some NL.toArray.size) := info103a _ (by simpa using HNN.out)
  have HNJ : Hid _ := info103 NL HNN.out
  clear hok hln hhr hAT hfr href hbU hszU hrU hfU hU hNL hSU HCO hc1 hk1 hk2
  go_upto_region 4 with (refine wpList_store_row rfl 47 _ _ rfl W1.heap.size NL.toArray rfl rfl 47 ZL.toArray HNR.out HNI.out HZN2.out HN1.out ?_)
  rw [← HUU.out]
  clear HUU HNR
  have hc1 := HSU.out.c2
  have hk1 := HSU.out.k1
  have hk2 := HSU.out.k2
  go_wp2_with (first
    | (refine wpList_load_mid rfl 36 (.tmp 38) rfl (X.heap.size + 1) 4 rfl (PC.rpL a.V a.nodes) _ (HSU.out.rp HAO.out) Tryz.underlying36 rfl HPI.out ?_)
    | (refine wpList_load_mid rfl 33 (.tmp 40) rfl (X.heap.size + 1) 37 rfl (a.tree.map B8) _ (HSU.out.rt HAO.out) Tryz.underlying33 rfl HTI.out ?_))
  refine Calls.mono HRF.out ?_
  rintro e W2 ⟨lv2, rfl, hv1, hv2, hJA, hfr2⟩
  have HMN : Hid ((rmL r lv2).length = 103) := rmL_len HOK.out _
  have HM1 : Hid ((rmL r lv2).toArray.all (·.oneCell') = true) := rmL_onea r hv2
  obtain ⟨V2, hV2⟩ : ∃ V2, V2 = (W2.alloc (.cells ZL.toArray 47 (0, 0))).setRow W2.heap.size (rmL r lv2).toArray := ⟨_, rfl⟩
  have hbV : Below W2.heap.size W2 V2 := by rw [hV2]; exact below_setRow ((Below.refl _ _).alloc (Nat.le_refl _) _) (Nat.le_refl _) _
  have hrV : V2.heap[W2.heap.size]? = some (.cells (rmL r lv2).toArray 47 (0, 0)) := by rw [hV2]; exact setRow_heap _ _ _ _ _ _ (heap_alloc_new _ _)
  have hr1 : W2.heap[W1.heap.size]? = some (.cells NL.toArray 47 (0, 0)) := (hfr2 _ (.inr ⟨Nat.le_refl _, by have := HSZ.out; omega⟩)).trans HRU.out
  have hr1V : V2.heap[W1.heap.size]? = some (.cells NL.toArray 47 (0, 0)) := (hbV.block _ (PC.row_lt hr1)).trans hr1
  have HR1V : Hid (V2.rangeAt W1.heap.size 0 NL) := PC.rangeAt_row hr1V
  have HSM : Hid _ := same_eq r v' lv2 V2 HOK.out HLN.out (hv1.below hbV) (hv2.below hbV)
  have HEND : Hid (∀ V3, Below V2.heap.size V2 V3 → DoE c rb s 1 C X (.returned (.bool true)) V3) := fun V3 hb3 => by
    have hbE : Below W2.heap.size W2 V3 := hbV.trans (hb3.mono hbV.size)
    refine ⟨rfl, s', HAT.out, (hJA.below hbE).sub (fun k hk => .inl (.inl hk)), fun k hk => ?_⟩
    have e1 := hfr2 k (.inl (.inl hk))
    have e2 := HFU.out k (.inl hk)
    have hlt : k < W2.heap.size := hJA.lt (k := k) (.inl (.inl hk))
    rw [hbE.block k hlt, e1, e2.1]; exact HFX.out k hk
  have HNR2 : Hid ((W2.alloc (.cells ZL.toArray 47 (0, 0))).heap[W2.heap.size]? = some (.cells ZL.toArray 47 (0, 0))) := heap_alloc_new _ _
  have HVV : Hid _ := hV2
  obtain ⟨ML, hML⟩ : ∃ ML, ML = rmL r lv2 := ⟨_, rfl⟩
  rw [← hML] at HMN HM1 HVV hrV ⊢
  rw [← HNL.out, ← hML] at HSM
  have HRV : Hid (V2.rangeAt W2.heap.size 0 ML) := PC.rangeAt_row hrV
  have HZM : Hid (ZL.toArray.size = ML.toArray.size) := by have := HZS.out; have := HMN.out; simp_all
  have HMI : Hid ((Tryz.prog.info? 47).map (·.size) = some ML.toArray.size) := info103a _ (by simpa using HMN.out)
  have HMJ : Hid _ := info103 ML HMN.out
  clear hv1 hv2 hJA hfr2 hV2 hbV hrV hr1 hr1V hML hc1 hk1 hk2 HRF
  go_upto_region 5 with (refine wpList_store_row rfl 47 _ _ rfl W2.heap.size ML.toArray rfl rfl 47 ZL.toArray HNR2.out HMI.out HZM.out HM1.out ?_)
  rw [← HVV.out]
  clear HVV HNR2
  go_wp2_with (first
    | (refine load_mid_g (by first | rfl | simp) 47 (.tmp 5) rfl W1.heap.size 0 rfl NL _ HR1V.out Tryz.underlying47 rfl HNJ.out ?_)
    | (refine load_mid_g (by first | rfl | simp) 47 (.tmp 7) rfl W2.heap.size 0 rfl ML _ HRV.out Tryz.underlying47 rfl HMJ.out ?_))
  refine Calls.mono HSM.out ?_
  rintro e V3 ⟨rfl, hb3⟩
  have HE2 : Hid (DoE c rb s 1 C X (.returned (.bool true)) V3) := HEND.out V3 hb3
  clear hb3 HEND HSM
  go_wp2
  go_ret
  exact HE2.out
theorem do_any (h : JA c rb s C X) (hB : Bd N s) (hN : N ≤ 1000) (ha : a.ok) :
    Calls Tryz.prog 10 #[.agg (prL c rb).toArray, .agg (acL a).toArray] X fun e Y => DoE c rb s a.kind C X e Y := by
  by_cases hk : 1 ≤ a.kind ∧ a.kind ≤ 9
  · rcases (show a.kind = 1 ∨ a.kind = 2 ∨ a.kind = 3 ∨ a.kind = 4 ∨ a.kind = 5 ∨ a.kind = 6 ∨ a.kind = 7 ∨ a.kind = 8 ∨ a.kind = 9 by omega) with e | e | e | e | e | e | e | e | e
    · exact do_cre1 h hB hN ha e
    · exact do_data2 h hB hN ha e
    · exact do_add3 h hB hN ha e
    · exact do_drp4 h hB hN ha e
    · exact do_act5 h hB hN ha e
    · exact do_kil6 h hB hN ha e
    · exact do_nxt7 h hB hN ha e
    · exact do_str8 h hB hN ha e
    · exact do_del9 h hB hN ha e
  · exact do_other h ha hk
end
open Go.ChangeShapes Go.WideShapes Go.ChangeAt Go.RowKit
def HAc (w : World) (v : Value) (ls : List Ac) : Prop :=
  ∃ p cap, v = .slice p ls.length cap ∧ ∀ i a, ls[i]? = some a → a.ok ∧ ∃ g o, p = some ⟨g, o, none⟩ ∧ w.rangeAt g (o + i * 207) (acL a)
theorem HAc.below {w w' : World} {v : Value} {ls : List Ac} (h : HAc w v ls) (hb : Below w.heap.size w w') : HAc w' v ls := by
  obtain ⟨p, cap, e, h1⟩ := h
  refine ⟨p, cap, e, fun i a ha => ?_⟩
  obtain ⟨h3, g, o, e1, h2⟩ := h1 i a ha
  exact ⟨h3, g, o, e1, R5.rangeAt_below h2 hb⟩
section
variable {H : Type} {enc : TypeId × Value → H} {w : World} {base : Nat} {held : Bool}
theorem open_acc {cs : List Value} {fuel : Nat} {x : DataW H × List MemPlace} (h : DataW.trod enc Tryz.prog w base (fun _ => true) held fuel 43 cs = some x) :
    ∃ a, cs = acL a ∧ a.ok := by
  cases fuel with
  | zero => simp [DataW.trod] at h
  | succ m =>
    rw [DataW.trod_step] at h
    unfold DataW.trodStep at h
    simp only [Tryz.underlying43] at h
    have hcell : Tryz.prog.cellsOf 43 = 207 := by kernel_rfl
    have c0 : Tryz.prog.cellsOf 3 = 1 := by kernel_rfl
    have c1 : Tryz.prog.cellsOf 36 = 33 := by kernel_rfl
    have c2 : Tryz.prog.cellsOf 33 = 32 := by kernel_rfl
    have c3 : Tryz.prog.cellsOf 38 = 128 := by kernel_rfl
    have c4 : Tryz.prog.cellsOf 41 = 10 := by kernel_rfl
    by_cases hl : cs.length = Tryz.prog.cellsOf 43
    · rw [if_pos hl] at h
      rw [hcell] at hl
      simp only [Option.map_eq_some_iff, List.mapM_cons, List.mapM_nil, bind, Option.bind_eq_some_iff, pure, Option.some.injEq, c0, c1, c2, c3, c4] at h
      obtain ⟨ys, ⟨y0, h0, z0, ⟨y1, h1, z1, ⟨y2, h2, z2, ⟨y3, h3, z3, ⟨y4, h4, z4, ⟨y5, h5, z5, ⟨y6, h6, z6, ⟨y7, h7, _⟩, _⟩, _⟩, _⟩, _⟩, _⟩, _⟩, _⟩, _⟩ := h
      obtain ⟨k0, f0, _, w0⟩ := DataW.trod_int Tryz.underlying3 h0
      obtain ⟨k1, f1, _, w1⟩ := DataW.trod_int Tryz.underlying3 h1
      obtain ⟨k2, f2, _, w2⟩ := DataW.trod_int Tryz.underlying3 h2
      obtain ⟨k3, f3, _, w3⟩ := DataW.trod_int Tryz.underlying3 h3
      obtain ⟨V, n, f4, g4, g4n⟩ := PC.open_rp h4
      obtain ⟨l5, p5⟩ := PC.open_arr Tryz.underlying33 Tryz.underlying5 c2 (by kernel_rfl) h5
      obtain ⟨tr, f5⟩ := PC.cells_u8 _ p5
      obtain ⟨l6, p6⟩ := PC.open_arr Tryz.underlying38 Tryz.underlying5 c3 (by kernel_rfl) h6
      obtain ⟨gr, f6⟩ := PC.cells_u8 _ p6
      obtain ⟨pc, rs, rn, f7, g7, g8, g9⟩ := PC.open_rc h7
      have hs : cs = cs.take 1 ++ ((cs.drop 1).take 1 ++ ((cs.drop 2).take 1 ++ ((cs.drop 3).take 1 ++ ((cs.drop 4).take 33 ++ ((cs.drop 37).take 32 ++ ((cs.drop 69).take 128 ++ (cs.drop 197).take 10)))))) := by
        have e7 : (cs.drop 197).take 10 = cs.drop 197 := List.take_of_length_le (by simp [hl])
        have st : ∀ k n, cs.drop k = (cs.drop k).take n ++ cs.drop (k + n) := fun k n => by rw [← List.drop_drop, List.take_append_drop]
        rw [e7, ← st 69 128, ← st 37 32, ← st 4 33, ← st 3 1, ← st 2 1, ← st 1 1]
        exact (List.take_append_drop 1 cs).symm
      simp only [List.drop_zero] at f0
      refine ⟨⟨k0, k1, k2, k3, V, n, tr, gr, pc, rs, rn⟩, ?_, ⟨w1, g4, by rw [f5] at l5; simpa using l5, by rw [f6] at l6; simpa using l6, g7, g8, g9⟩⟩
      rw [hs, f0, f1, f2, f3, f4, f5, f6, f7]
      unfold acL
      simp
    · rw [if_neg hl] at h; cases h
theorem choose_nat {α : Type} {n : Nat} {p : Nat → α → Prop} (h : ∀ i, i < n → ∃ x, p i x) : ∃ l : List α, l.length = n ∧ ∀ i x, l[i]? = some x → p i x := by
  induction n with
  | zero => exact ⟨[], rfl, fun i x hx => by simp at hx⟩
  | succ n ih =>
    obtain ⟨l, h1, h2⟩ := ih (fun i hi => h i (by omega))
    obtain ⟨x, hx⟩ := h n (by omega)
    refine ⟨l ++ [x], by simp [h1], fun i y hy => ?_⟩
    rcases Nat.lt_or_ge i l.length with hi | hi
    · rw [List.getElem?_append_left hi] at hy; exact h2 i y hy
    · rw [List.getElem?_append_right hi] at hy
      have hi0 : i - l.length = 0 := by have := (List.getElem?_eq_some_iff.1 hy).1; simp at this; omega
      rw [hi0] at hy
      have e : x = y := by simpa using hy
      have e2 : i = n := by omega
      rw [← e, e2]; exact hx
theorem cells_range {W : World} {base : Nat} {g o : Nat} {n : Nat} {cs : List Value} (h : W.cells? base ⟨g, o, none⟩ n = some cs) : W.rangeAt g o cs := fun j v hv => by
  obtain ⟨_, h2, h3⟩ := World.cells?_some h
  have hj : j < n := by rw [← h2]; exact (List.getElem?_eq_some_iff.1 hv).1
  have := h3 j hj
  rw [PC.add_none] at this
  rw [this, hv]
theorem spot_none {W : World} {base : Nat} {g o : Nat} {sp : Option Nat} {k n : Nat} {cs : List Value} (hn : 0 < n) (h : W.cells? base ((⟨g, o, sp⟩ : Addr).add (0 * k)) n = some cs) : sp = none := by
  obtain ⟨_, h2, h3⟩ := World.cells?_some h
  have h0 := h3 0 hn
  have hl : 0 < cs.length := by omega
  rw [List.getElem?_eq_getElem hl] at h0
  have hs := World.cell?_spot h0
  cases sp with
  | none => rfl
  | some t =>
    exfalso
    simp [Addr.add] at hs
theorem open_acts {v : Value} {fuel : Nat} {x : DataW H × List MemPlace} (h : DataW.trod enc Tryz.prog w base (fun _ => true) held fuel 23 [v] = some x) : ∃ ls, HAc w v ls ∧ ls.length ≤ 9223372036854775807 := by
  have hcell : Tryz.prog.cellsOf 43 = 207 := by kernel_rfl
  rcases Go.Deep.open_slice Tryz.underlying23 h with ⟨hcs, _⟩ | ⟨a, len, cap, m, n, D, Pl, hcs, hb, hl, hm, hmm, _, hr⟩
  · simp only [List.cons.injEq, and_true] at hcs
    subst hcs
    exact ⟨[], ⟨none, 0, rfl, fun i a ha => by simp at ha⟩, by decide⟩
  · simp only [List.cons.injEq, and_true] at hcs
    subst hcs
    simp only [if_true] at hmm
    rw [hcell] at hr
    obtain ⟨g, o, sp⟩ := a
    have hsp : 0 < len → sp = none := fun h0 => by
      obtain ⟨cs', h1, _⟩ := hr 0 (by omega)
      exact spot_none (by omega) h1
    obtain ⟨ls, h1, h2⟩ := choose_nat (n := len) (p := fun i (a : Ac) => a.ok ∧ w.rangeAt g (o + i * 207) (acL a)) (fun i hi => by
      obtain ⟨cs', h1, h2⟩ := hr i (by omega)
      obtain ⟨a, e1, rest⟩ := open_acc h2
      have hs := hsp (by omega)
      subst hs
      rw [PC.add_none] at h1
      exact ⟨a, rest, by rw [← e1]; exact cells_range h1⟩)
    refine ⟨ls, ⟨some ⟨g, o, sp⟩, cap, by rw [h1], fun i a ha => ?_⟩, by unfold maxLen at hm; omega⟩
    have hi : i < len := by rw [← h1]; exact (List.getElem?_eq_some_iff.1 ha).1
    obtain ⟨h3, h4⟩ := h2 i a ha
    exact ⟨h3, g, o, by rw [hsp (by omega)], h4⟩
end
open Go.ChangeMaps (setBlock heap_setBlock_same heap_setBlock_other)
theorem ab_no' {l : List En} {sl : List (Int × Rm)} {rd : Int} (h : ab l = sl) : (∀ x ∈ sl, x.1 ≠ rd) ↔ NoRd l rd := by
  subst h
  constructor
  · intro h x hx e
    exact h (x.1, x.2.1) (List.mem_map.2 ⟨x, hx, rfl⟩) e
  · intro h x hx e
    obtain ⟨y, hy, rfl⟩ := List.mem_map.1 hx
    exact h y hy e
section
variable {c : Cx} {rb tn last last' : Nat} {L R R' L' : Lg} {C C2 I J : Nat → Prop} {X Y Y' Z W : World} {rl rl' l l' : List En} {av av' : Value} {a : Ac} {s s' : Am} {k : Int} {N : Nat} {rd : Int} {r r' : Rm} {sa sb : List (Int × Rm)}
theorem up_inst {k : Int} (h : UP c k r r' L L') : r'.inst = r.inst ∧ (k ≠ 7 → r'.ctr = r.ctr) := by
  cases h using UP.elim with
  | st => exact ⟨rfl, fun _ => rfl⟩
  | recs => exact ⟨rfl, fun _ => rfl⟩
  | ctr hk => exact ⟨rfl, fun h => absurd (by assumption) h⟩
  | tree => exact ⟨rfl, fun _ => rfl⟩
  | grow => exact ⟨rfl, fun _ => rfl⟩
end
section
variable {c : Cx} {rb tn last last' : Nat} {L R R' L' : Lg} {C C2 D I J : Nat → Prop} {X Y Y' Z W w : World} {rl rl' l l' : List En} {av av' : Value} {a : Ac} {s s' : Am} {k : Int} {N pb mb q g o : Nat} {rd : Int} {ks ks' : List Nat} {f f' : Nat → Nat}
theorem JA.low (h : JA c rb s C X) : c.n ≤ X.heap.size := by
  obtain ⟨I, l, rl, av, tn, h⟩ := h
  exact h.jr.jp.mm.low.2
structure SA (c : Cx) (rb pb g o : Nat) (AL : List Value) (W : World) : Prop where
  pr : W.heap[pb]? = some (.cells (prL c rb).toArray 29 (0, 0))
  ra : W.rangeAt g o AL
theorem bd_start : Bd 0 ⟨[], 0, []⟩ := ⟨Nat.le_refl _, Nat.le_refl _, Nat.le_refl _, fun x hx => (List.not_mem_nil hx).elim⟩
end
section
variable {c : Cx} {rb tn last last' : Nat} {L R R' L' : Lg} {C C2 D I J : Nat → Prop} {X Y Y' Z W w : World} {rl rl' l l' : List En} {av av' : Value} {a : Ac} {s s' : Am} {k : Int} {N pb q g o : Nat} {rd : Int} {r r' : Rm}
end
end Go.Proofs.YtekbppfocnbhbaaGreat.XC
