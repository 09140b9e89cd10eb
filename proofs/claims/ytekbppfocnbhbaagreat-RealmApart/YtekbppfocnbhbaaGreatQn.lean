import Derived.Test.YtekbppfocnbhbaaGreatQY
import Derived.Test.YtekbppfocnbhbaaGreatO9
import Derived.OwnWalk
import Derived.Test.YtekbppfocnbhbaaGreatQM
import Derived.Shelf.SlMaps.Clone
set_option linter.unusedVariables false
set_option linter.unusedSimpArgs false
set_option maxHeartbeats 16000000
set_option maxRecDepth 100000
namespace Go.Proofs.YtekbppfocnbhbaaGreat.R5
open scoped Classical
open Go.RowKit
structure LO (B : Nat) (w : World) (v : Value) (l : List (Qn × List UInt8)) (ds : List Value) : Prop where
  ok : lOk l
  len : ds.length = l.length
  own : w.ownsRow B 140 67 v l.length (lC l ds)
  dat : ∀ (i : Nat) (e : Qn × List UInt8) (d : Value), l[i]? = some e → ds[i]? = some d → ∃ b cap, d = .slice (some ⟨b, 0, none⟩) e.1.data.length cap ∧ B ≤ b ∧ b < w.heap.size ∧ v.ownBlock ≠ some b ∧ HBf w b d e.1.data
  apart : ∀ (i j : Nat) (d e : Value) (k : Nat), i < j → ds[i]? = some d → ds[j]? = some e → d.ownBlock = some k → e.ownBlock ≠ some k
theorem LO.hlg {B : Nat} {w : World} {v : Value} {l : List (Qn × List UInt8)} {ds : List Value} (h : LO B w v l ds) : HLg B w v l ds :=
  ⟨fun e he => ⟨(h.ok.all e he).1.key, (h.ok.all e he).2⟩, h.len, h.own, fun i e d he hd => by obtain ⟨_, _, _, _, _, _, h⟩ := h.dat i e d he hd; exact h.1⟩
theorem LO.nil (B : Nat) (w : World) (v : Value) (h : w.ownsRow B 140 67 v 0 []) : LO B w v [] [] :=
  ⟨⟨fun x hx => by simp at hx, by simp⟩, rfl, h, fun i e d he => by simp at he, fun i j d e k _ hd => by simp at hd⟩
theorem kC_at : ∀ (l : List (Qn × List UInt8)), (∀ e ∈ l, e.1.key.length = 32) → ∀ (i : Nat) (e : Qn × List UInt8), l[i]? = some e → ∀ j, j < 35 → (kC l)[i * 35 + j]? = (kL e.1)[j]?
  | [], _, i, e, h, _, _ => by simp at h
  | x :: l, h, i, e, he, j, hj => by
    have hx : (kL x.1).length = 35 := kL_len x.1 (h x (by simp))
    unfold kC
    rw [List.flatMap_cons]
    cases i with
    | zero =>
      simp only [List.getElem?_cons_zero, Option.some.injEq] at he
      subst he
      rw [Nat.zero_mul, Nat.zero_add, List.getElem?_append_left (by omega)]
    | succ i =>
      rw [List.getElem?_append_right (by rw [hx]; omega), hx, show (i + 1) * 35 + j - 35 = i * 35 + j by omega]
      simp only [List.getElem?_cons_succ] at he
      exact kC_at l (fun y hy => h y (by simp [hy])) i e he j hj
theorem PO.ordRow {B og mb : Nat} {S : Nat → Prop} {w : World} {o : Pra} {dv ov : Value} (h : PO B og mb S w o dv ov) {k : Nat} {e : Qn × List UInt8} (hk : o.log[k]? = some e) : ∃ g cap, ov = .slice (some ⟨g, 0, none⟩) o.log.length cap ∧ S g ∧ w.rangeAt g (k * 35) (kL e.1) := by
  have hkl : k < o.log.length := (List.getElem?_eq_some_iff.1 hk).1
  rcases h.order.2 with ⟨e1, e2⟩ | ⟨g, cap, cur, e1, e2, e3, e4, e5, e6, e7⟩
  · omega
  · refine ⟨g, cap, e1, (h.sov g (by rw [e1]; rfl)).1, fun j u hu => ?_⟩
    have hel := kL_len e.1 (h.ok.all e (List.mem_of_getElem? hk)).1.key
    have hj : j < 35 := by have := (List.getElem?_eq_some_iff.1 hu).1; omega
    have h1 := kC_at o.log (fun x hx => (h.ok.all x hx).1.key) k e hk j hj
    rw [← e7, List.getElem?_take, if_pos (by omega)] at h1
    rw [cell_of_row _ _ _ _ _ _ e3, ← Array.getElem?_toList, h1]
    exact hu
theorem fnd_at : ∀ {l : List (Qn × List UInt8)}, (l.map (·.1)).Nodup → ∀ {k : Nat} {e : Qn × List UInt8}, l[k]? = some e → fndA e.1 l = some e.2 := fun {l} hn {k} {e} he => by
  cases hf : fndA e.1 l with
  | none => exact absurd rfl (fndA_none hf e (List.mem_of_getElem? he))
  | some A => rw [nodup_snd hn (fndA_some hf) (List.mem_of_getElem? he)]
theorem bs_asked (w : World) (AL : List Value) (h : AL.length = 67) : (Instr.buildSlice 92 1 #[(0, .agg AL.toArray)]).run Tryz.prog w = .ok (.slice (some ⟨w.heap.size, 0, none⟩) 1 1) (w.alloc (.cells AL.toArray 140 (0, 0))) := by
  obtain ⟨i0, hi, hz0, hz1, hz2⟩ := info_parts infoAk
  exact run_buildSlice w 92 140 1 #[(0, .agg AL.toArray)] AL.toArray i0 (.agg zAk.toArray) Tryz.underlying92 hi hz0 (by rw [hz1]; decide) (by rw [hz1]; decide) (by rw [hz1]; exact fill_asked AL h)
theorem aL_one (x : Qn × List UInt8) (p : Option Addr) (n c : Nat) : ∀ u ∈ aL x (.slice p n c), u.oneCell' = true := by
  intro u hu
  unfold aL at hu
  rcases List.mem_append.1 hu with h | h
  · exact qL_one x.1 _ rfl u h
  · exact B8_one x.2 u h
theorem lOk.take {l : List (Qn × List UInt8)} (h : lOk l) (k : Nat) : lOk (l.take k) := by
  refine ⟨fun x hx => h.all x (List.mem_of_mem_take hx), ?_⟩
  rw [List.map_take]
  exact h.once.sublist (List.take_sublist _ _)
theorem LO.more {B : Nat} {w w1 Z : World} {v : Value} {l : List (Qn × List UInt8)} {ds : List Value} {x : Qn × List UInt8} {b cap g cap2 : Nat} (h : LO B w v l ds) (hB : B ≤ w.heap.size) (hok : lOk (l ++ [x])) (hb : w.heap.size ≤ b) (hb1 : b < w1.heap.size) (hw : Below w.heap.size w w1) (hd : HBf w1 b (.slice (some ⟨b, 0, none⟩) x.1.data.length cap) x.1.data)
    (hgr : w1.grownBy Z v.ownBlock) (hown : Z.ownsRow B 140 67 (.slice (some ⟨g, 0, none⟩) (l.length + 1) cap2) (l.length + 1) (lC l ds ++ aL x (.slice (some ⟨b, 0, none⟩) x.1.data.length cap))) (hg : v.ownBlock = some g ∨ w1.heap.size ≤ g) :
    LO B Z (.slice (some ⟨g, 0, none⟩) (l.length + 1) cap2) (l ++ [x]) (ds ++ [.slice (some ⟨b, 0, none⟩) x.1.data.length cap]) := by
  have hs1 := hw.size
  have hsZ := hgr.size
  have hvw : ∀ k, v.ownBlock = some k → k < w.heap.size := fun k e => (h.own.lt k e).2
  refine ⟨hok, by simp [h.len], ?_, fun i e d he hd' => ?_, fun i j d e k hij hi hj hdk hek => ?_⟩
  · rw [List.length_append, List.length_singleton, lC_snoc _ _ _ _ h.len]
    exact hown
  · rcases Nat.lt_or_ge i l.length with hi | hi
    · rw [List.getElem?_append_left hi] at he
      rw [List.getElem?_append_left (by rw [h.len]; exact hi)] at hd'
      obtain ⟨b', c', e1, h1, h2, h3, h4⟩ := h.dat i e d he hd'
      refine ⟨b', c', e1, h1, by omega, ?_, ?_⟩
      · intro hc
        have hgb : g = b' := by simpa [Value.ownBlock] using hc
        rcases hg with hg | hg
        · exact h3 (by rw [hg, hgb])
        · omega
      · exact hbf_keep (hbf_keep h4 (hw.block b' h2)) (hgr.block b' (by omega) (fun hk => h3 hk.symm))
    · rw [List.getElem?_append_right hi] at he
      rw [List.getElem?_append_right (by rw [h.len]; exact hi), h.len] at hd'
      have hil : i - l.length = 0 := by
        have := (List.getElem?_eq_some_iff.1 he).1
        simp at this; omega
      rw [hil] at he hd'
      simp only [List.getElem?_cons_zero, Option.some.injEq] at he hd'
      subst he hd'
      refine ⟨b, cap, rfl, by omega, by omega, ?_, hbf_keep hd (hgr.block b hb1 (fun hk => ?_))⟩
      · intro hc
        have hgb : g = b := by simpa [Value.ownBlock] using hc
        rcases hg with hg | hg
        · have := hvw g hg; omega
        · omega
      · have := hvw b hk.symm
        omega
  · have hjl : j < (ds ++ [Value.slice (some ⟨b, 0, none⟩) x.1.data.length cap]).length := (List.getElem?_eq_some_iff.1 hj).1
    rw [List.length_append, List.length_singleton, h.len] at hjl
    rw [List.getElem?_append_left (by rw [h.len]; omega)] at hi
    rcases Nat.lt_or_ge j ds.length with hjd | hjd
    · rw [List.getElem?_append_left hjd] at hj
      exact h.apart i j d e k hij hi hj hdk hek
    · rw [List.getElem?_append_right hjd, show j - ds.length = 0 by rw [h.len]; rw [h.len] at hjd; omega] at hj
      have he : Value.slice (some ⟨b, 0, none⟩) x.1.data.length cap = e := by simpa using hj
      rw [← he] at hek
      have hkb : b = k := by simpa [Value.ownBlock] using hek
      have hil : i < l.length := by rw [h.len] at hjd; omega
      obtain ⟨b', c', e1, _, h2, _⟩ := h.dat i l[i] d (List.getElem?_eq_getElem hil) hi
      rw [e1] at hdk
      have hkb' : b' = k := by simpa [Value.ownBlock] using hdk
      omega
def LogEnd (w : World) (l : List (Qn × List UInt8)) (e : Ending) (w' : World) : Prop := ∃ v ds, e = .returned v ∧ LO w.heap.size w' v l ds ∧ Below w.heap.size w w'
theorem wpListZ_bslice {ops : Array Oper} {rest : List Oper} {o : Oper} {a : Act} {Q : Exit → Act → World → Prop} {w w' : World} (hgd : o.guard = none) (t : TypeId) (n : Nat) (parts : Array (Nat × Operand)) (ho : o.op = .buildSlice t n parts) (vals : Array (Nat × Value)) (v : Value) (hp : (parts.map fun (i, x) => (i, a.eval x)) = vals)
    (hr : (Instr.buildSlice t n vals).run Tryz.prog w = .ok v w') (h : wpList Tryz.prog ops Q rest (a.put o.dst v) w') : wpList Tryz.prog ops Q (o :: rest) a w := by
  refine wpList_plain hgd fun K' hK' => ?_
  unfold Oper.wp execOp
  simp only [ho, Sem.run_bind, hp, hr, Result.andThen_ok]
  exact hK' _ _ h
theorem wpListZ_store {ops : Array Oper} {rest : List Oper} {o : Oper} {a : Act} {w : World} {Q : Exit → Act → World → Prop} (hgd : o.guard = none) (ty : TypeId) (x y : Operand) (ho : o.op = .store ty x y)
    (g : Nat) (cells : Array Value) (hx : a.eval x = .pointer (some ⟨g, 0, none⟩)) (hy : a.eval y = .agg cells)
    (t : TypeId) (old : Array Value) (hg : w.heap[g]? = some (.cells old t (0, 0))) (hi : (Tryz.prog.info? ty).map (·.size) = some cells.size)
    (hold : old.size = cells.size) (h1 : cells.all (·.oneCell') = true)
    (h : ∀ W', W' = w.setRow g cells → wpList Tryz.prog ops Q rest (a.put o.dst undef) W') : wpList Tryz.prog ops Q (o :: rest) a w :=
  wpList_store_row hgd ty x y ho g cells hx hy t old hg hi hold h1 (h _ rfl)
theorem plog_any {B og mb : Nat} {S : Nat → Prop} {w : World} {o : Pra} {dv ov : Value} (ho : PO B og mb S w o dv ov) (hll : o.log.length < 1000000) :
    Calls Tryz.prog 42 #[.pointer (some ⟨og, 0, none⟩)] w fun e w' => LogEnd w o.log e w' := by
  obtain ⟨c0, c33, c34, hc, cf⟩ := ho.cells
  obtain ⟨p, cap, hov⟩ := ho.ordV
  rw [hov] at c34
  have HNN : Hid _ := none_no og mb w hc
  have HO : Hid _ := ho
  have HOV : Hid _ := hov
  have hog := row_lt ho.row
  have hzk := fun W => zero_kq W
  obtain ⟨ZK, hZK⟩ : ∃ A, A = zKq := ⟨_, rfl⟩
  rw [← hZK] at hzk
  have HZK : Hid (ZK.size = 35) := by show _ = _; rw [hZK]; kernel_rfl
  obtain ⟨i0, hi, hz0, hz1, hz2⟩ := info_parts infoAk
  generalize hN : o.log.length = N at *
  have HN : Hid _ := hN
  have HC34 : Hid _ := c34
  clear c0 c33 hc cf ho hov hZK hN
  go_enter Tryz.func42, Tryz.ntmps42
  go_wp2_with (first
    | (go_at_call 56; refine Calls.mono HNN.out ?_; rintro e w1 ⟨rfl, hw1⟩; rw [hw1]; clear hw1 w1)
    | (refine wpList_make_own _ rfl _ _ 92 rfl w.heap.size 140 i0 (.agg zAk.toArray) 67 Tryz.underlying92 hi hz0 hz1 .i64 .i64 _ N rfl rfl rfl (by rw [hz2]; omega) (by unfold maxLen; omega) (Nat.le_refl _) ?_; intro w2 hown2 hgr2; have hc2 := hgr2.cell HC34.out (by simp); have HOW2 : Hid (w2.ownsRow w.heap.size 140 67 (.slice (some ⟨w.heap.size, 0, none⟩) 0 N) 0 []) := hown2; have HB2 : Hid (Below w.heap.size w w2) := (Below.refl _ w).grown hgr2 (Nat.le_refl _) (by simp); clear hgr2 hown2))
  go_loopw [3, 19] (fun v i wr => ∃ (k : Nat) (ds : List Value), k ≤ N ∧ i = .int .i64 k ∧ LO w.heap.size wr v (o.log.take k) ds ∧ Below w.heap.size w wr) (fun _ i _ => N - (intOf i).toNat)
  case atStart => exact ⟨0, [], Nat.zero_le _, rfl, by rw [List.take_zero]; exact LO.nil _ _ _ HOW2.out, HB2.out⟩
  case round =>
    obtain ⟨k, ds, hk, rfl, hlo, hb⟩ := hrel
    have HLO : Hid _ := hlo
    have HBR : Hid _ := hb
    clear hlo hb
    by_cases hlt : k < N
    · have hkI : (k : Int) < (N : Int) := by omega
      have hlt' : k < o.log.length := by rw [HN.out]; exact hlt
      obtain ⟨x, hx⟩ : ∃ x, o.log[k]? = some x := ⟨_, List.getElem?_eq_getElem hlt'⟩
      obtain ⟨g, cap', hov', hSg, hrg⟩ := HO.out.ordRow hx
      have hpg : p = some ⟨g, 0, none⟩ := by have := HOV.out.symm.trans hov'; simp at this; exact this.1
      have hkx := (HO.out.ok.all x (List.mem_of_getElem? hx))
      have HRG : Hid (wr.rangeAt g (k * 35) (kL x.1)) := rangeAt_below hrg HBR.out
      have HKI : Hid _ := info35k (kL x.1) (kL_len x.1 hkx.1.key)
      have HKS : Hid ((kL x.1).toArray.size = 35) := by show _ = _; rw [List.size_toArray]; exact kL_len x.1 hkx.1.key
      have HK1 : Hid _ := kL_onea x.1
      have HCALL : Hid (∀ X, Below w.heap.size w X → Calls Tryz.prog 76 #[.pointer (some ⟨og, 0, none⟩), .agg (kL x.1).toArray] X fun e w' => AskedEnd X x e w') := fun X hX => by
        have h1 := HO.out.below hX
        have h2 := asked_any og mb o.log x.1 x.2 X h1.cells.2.2.2.1 h1.ok h1.map hkx.1 (fnd_at h1.ok.once hx)
        exact h2
      have HTK : Hid (o.log.take (k + 1) = o.log.take k ++ [x]) := by
        show _ = _
        rw [List.take_succ_eq_append_getElem hlt']
        congr 1
        rw [List.getElem?_eq_getElem hlt'] at hx
        simpa using hx
      have HTL : Hid ((o.log.take k).length = k) := by show _ = _; rw [List.length_take]; omega
      have HXK : Hid _ := hkx
      have hsr := HBR.out.size
      subst hpg
      obtain ⟨KL, hKL⟩ : ∃ L, L = kL x.1 := ⟨_, rfl⟩
      rw [← hKL] at HRG HKI HKS HK1 HCALL
      have HNW : Hid ((wr.alloc (.cells ZK 120 (0, 0))).heap[wr.heap.size]? = some (.cells ZK 120 (0, 0))) := heap_alloc_new _ _
      clear hx hov' hrg hkx hKL hlt' hSg
      go_wp2_with (first
        | (refine wpList_load_mid rfl 120 (.tmp 21) rfl g (k * 35) rfl KL _ HRG.out Tryz.underlying120 rfl HKI.out ?_)
        | (refine wpListZ_store rfl 120 _ _ rfl wr.heap.size KL.toArray rfl rfl 120 ZK HNW.out (info35ka _ HKS.out) (HZK.out.trans HKS.out.symm) HK1.out ?_; intro X1 hX1; have HX1 : Hid (X1.rangeAt wr.heap.size 0 KL) := (by rw [hX1]; exact rangeAt_row (setRow_heap _ _ _ _ _ _ HNW.out)); have HBX : Hid (Below wr.heap.size wr X1) := (by rw [hX1]; exact below_setRow ((Below.refl _ _).alloc (Nat.le_refl _) _) (Nat.le_refl _) _); clear hX1)
        | (refine wpList_load_mid rfl 120 (.tmp 5) rfl wr.heap.size 0 rfl KL _ HX1.out Tryz.underlying120 rfl HKI.out ?_)
        | (go_at_call 76; fail))
      refine Calls.mono (HCALL.out X1 (HBR.out.trans (HBX.out.mono hsr))) ?_
      rintro e W3 ⟨b, cb, rfl, hb1, hb2, hd3, hbw3⟩
      have hAN : (aL x (.slice (some ⟨b, 0, none⟩) x.1.data.length cb)).length = 67 := aL_len x _ HXK.out.1.key HXK.out.2
      have HA1 : Hid _ := aL_one x (some ⟨b, 0, none⟩) x.1.data.length cb
      have HAN : Hid _ := hAN
      have HBS : Hid _ := fun W => bs_asked W (aL x (.slice (some ⟨b, 0, none⟩) x.1.data.length cb)) hAN
      have HSE : Hid (x = (x.1, x.2)) := rfl
      have hxs := HBX.out.size
      have hb03 : Below wr.heap.size wr W3 := HBX.out.trans (hbw3.mono hxs)
      have HBW3 : Hid _ := hb03
      have HD3 : Hid _ := hd3
      have hs3 := hb03.size
      have hbr : wr.heap.size ≤ b := by omega
      obtain ⟨AL, hAL⟩ : ∃ L, L = aL x (.slice (some ⟨b, 0, none⟩) x.1.data.length cb) := ⟨_, rfl⟩
      rw [← hAL] at HA1 HAN HBS ⊢
      have HAL : Hid _ := hAL
      have HOWN : Hid ((W3.alloc (.cells AL.toArray 140 (0, 0))).ownsRow w.heap.size 140 67 u3 k (lC (o.log.take k) ds)) := by
        have h := HLO.out.own
        rw [HTL.out] at h
        exact (own_keep h (fun j _ hj => HBW3.out.block j hj)).alloc _
      have HNEW : Hid (∀ j u, AL[j]? = some u → (W3.alloc (.cells AL.toArray 140 (0, 0))).cell? ((⟨W3.heap.size, 0, none⟩ : Addr).add j) = some u) := fun j u hu => by
        have h := rangeAt_row (heap_alloc_new W3 (.cells AL.toArray 140 (0, 0))) j u hu
        rw [add_none]; exact h
      clear hAL hAN hb03 hd3 hbw3
      go_wp2_with (first
        | (refine wpListZ_bslice rfl 92 1 _ rfl _ _ (by simp; first | done | rfl) (HBS.out _) ?_)
        | (at_builtin; go_loud (refine wpList_append_lies _ rfl (.tmp 23) (.tmp 27) 92 rfl w.heap.size 140 i0 (.agg zAk.toArray) 67 104 Tryz.underlying92 hi hz0 hz1 hz2 rfl (by decide) u3 k (lC (o.log.take k) ds) rfl HOWN.out ⟨W3.heap.size, 0, none⟩ 1 1 AL rfl HAN.out HNEW.out HA1.out (by decide) (by unfold maxLen; omega) (by omega) (by simp; omega) (W3.heap.size + 1) (by simp) ?_; intro g2 cap3 Z hown4 hgr4 hgl4 hgZ4; have HO4 : Hid (Z.ownsRow w.heap.size 140 67 (.slice (some ⟨g2, 0, none⟩) (k + 1) cap3) (k + 1) (lC (o.log.take k) ds ++ AL)) := hown4; have HG4 : Hid _ := hgr4; have HL4 : Hid _ := hgl4; clear hown4 hgr4 hgl4)))
      have HREL : Hid (LO w.heap.size Z (.slice (some ⟨g2, 0, none⟩) (k + 1) cap3) (o.log.take (k + 1)) (ds ++ [.slice (some ⟨b, 0, none⟩) x.1.data.length cb]) ∧ Below w.heap.size w Z) := by
        have hgr : W3.grownBy Z u3.ownBlock := (World.grownBy_alloc W3 _ _).trans HG4.out
        have hok : lOk (o.log.take k ++ [x]) := by rw [← HTK.out]; exact HO.out.ok.take _
        have hm := LO.more (Z := Z) (g := g2) (cap2 := cap3) HLO.out hsr hok hbr hb2 HBW3.out HD3.out hgr (by rw [HTL.out, ← HAL.out]; exact HO4.out) (HL4.out.imp id (fun h => by omega))
        rw [HTL.out] at hm
        rw [HTK.out]
        refine ⟨hm, ?_⟩
        have hB3 : Below w.heap.size w W3 := HBR.out.trans (HBW3.out.mono hsr)
        exact hB3.grown hgr hB3.size (fun j hj => (HLO.out.own.lt j hj).1)
      clear HO4 HG4 HL4 HNEW HOWN HAL HBS HA1 HAN HD3 HBW3
      go_roundw
      case rel => exact ⟨k + 1, _, by omega, by go_num, HREL.out.1, HREL.out.2⟩
      case measure => simp [intOf]; omega
    · have hke : k = N := by omega
      subst hke
      have hkI : ¬ (k : Int) < (k : Int) := by omega
      go_wp2
      go_ret
      refine ⟨_, ds, rfl, ?_, HBR.out⟩
      have := HLO.out
      rw [← HN.out, List.take_length] at this
      exact this
theorem kC_one (l : List (Qn × List UInt8)) : ∀ u ∈ kC l, u.oneCell' = true := by
  intro u hu
  obtain ⟨x, _, hx⟩ := List.mem_flatMap.1 hu
  have := kL_onea x.1
  rw [Array.all_eq_true_iff_forall_mem] at this
  exact this u (by simpa using hx)
theorem cloneQ_any {B : Nat} {ov : Value} {l : List (Qn × List UInt8)} {w : World} (h : w.ownsRow B 120 35 ov l.length (kC l)) (hl : l.length < 1000000) :
    Calls Tryz.prog 57 #[ov] w fun e w' => ∃ v, e = .returned v ∧ w'.ownsRow w.heap.size 120 35 v l.length (kC l) ∧ Below w.heap.size w w' := by
  have qT : ∀ (w : World) (r : Option Addr) (n c : Nat), (binOp .eql 113 (.slice r n c) (.slice none 0 0)).run Tryz.prog w = .ok (.bool r.isNone) w := fun w r n c => Lib.run_eql_slice_nil w _ _ r n c 0 0 Tryz.underlying113
  rcases h.2 with ⟨e1, e2⟩ | ⟨g, cap, cur, e1, e2, e3, e4, e5, e6, e7⟩
  · subst e1
    have hl0 : l = [] := List.eq_nil_of_length_eq_zero e2
    subst hl0
    clear h
    go_enter Tryz.func57, Tryz.ntmps57
    go_wp2
    go_ret
    exact ⟨_, rfl, World.ownsRow_nil _ _ _ _, Below.refl _ _⟩
  · subst e1
    have HL : Hid _ := h.1
    have HO1 : Hid _ := kC_one l
    obtain ⟨N, hN⟩ : ∃ N, N = l.length := ⟨_, rfl⟩
    have HN' : Hid (∀ j u, (kC l)[j]? = some u → (w.alloc (.cells #[] 120 (0, 0))).cell? ((⟨g, 0, none⟩ : Addr).add j) = some u) := fun j u hu => by
      have hj : j < l.length * 35 := by have := (List.getElem?_eq_some_iff.1 hu).1; rw [h.1] at this; exact this
      have hc : w.cell? ⟨g, 0 + j, none⟩ = some u := by
        rw [cell_of_row _ _ _ _ _ _ e3, ← Array.getElem?_toList, Nat.zero_add]
        rw [← e7, List.getElem?_take, if_pos hj] at hu
        exact hu
      rw [add_none]
      exact (Below.cell ((Below.refl _ w).alloc (Nat.le_refl _) _) (block_lt hc)).trans hc
    obtain ⟨i0, hi, hz0, hz1, hz2⟩ := info_parts infoKq
    have HOE : Hid ((w.alloc (.cells #[] 120 (0, 0))).ownsRow w.heap.size 120 35 (.slice (some ⟨w.heap.size, 0, none⟩) 0 0) 0 []) := ⟨rfl, .inr ⟨w.heap.size, 0, #[], rfl, Nat.le_refl _, heap_alloc_new _ _, Nat.le_refl _, by unfold maxLen; omega, rfl, rfl⟩⟩
    have hN6 : N < 1000000 := by rw [hN]; exact hl
    have HNN : Hid _ := hN
    rw [← hN] at HL ⊢
    clear h e2 e3 e4 e5 e6 e7 hN
    go_enter Tryz.func57, Tryz.ntmps57
    go_wp2_with (at_builtin; (refine wpList_append_own _ rfl (.tmp 5) (.tmp 6) 113 rfl w.heap.size 120 i0 (.agg zKq) 35 64 Tryz.underlying113 hi hz0 hz1 hz2 rfl (by decide) (.slice (some ⟨w.heap.size, 0, none⟩) 0 0) 0 [] rfl HOE.out ⟨g, 0, none⟩ N cap (kC l) rfl HL.out HN'.out HO1.out (by unfold maxLen; omega) (by omega) (by simp) ?_; intro v1 w1 hown1 hgr1 _))
    go_ret
    rw [List.nil_append, Nat.zero_add] at hown1
    exact ⟨_, rfl, hown1, ((Below.refl _ w).alloc (Nat.le_refl _) _).grown hgr1 (by simp) (fun k e => by have e' : w.heap.size = k := (by simpa [Value.ownBlock] using e); omega)⟩
theorem cloneM_any {mb : Nat} {es : Array MapEntry} {clock : Nat} (w : World) (hb : w.heap[mb]? = some (.map es clock)) :
    Calls Tryz.prog 58 #[.map (some mb)] w fun e w' => e = .returned (.map (some w.heap.size)) ∧ w' = w.alloc (.map es clock) := by
  have hq := fun w => run_eql_map_nil_sl (P := Tryz.prog) w 114 _ _ (some mb) Tryz.underlying114
  go_enter Tryz.func58, Tryz.ntmps58
  go_wp2
  rw [run_callFunc_extern Tryz.func86 (by kernel_rfl) (by kernel_rfl) (by kernel_rfl) (e := Extern.MapsClone.clone) (by kernel_rfl), run_maps_clone_sl w 114 hb]
  simp only [Result.andThen]
  rw [Oper.upon_value]
  go_wp2
  rw [run_typeAssert_map_sl _ 114 _ _ _ _ Tryz.underlying114]
  simp only [Result.andThen]
  rw [Oper.upon_value]
  go_wp2
  go_ret
  exact ⟨rfl, rfl⟩
theorem pL_set35 (i : Bool) (m : List UInt8) (dv ov : Value) (mb : Nat) (h : m.length = 32) (mb' : Nat) : (pL i m dv ov mb).toArray.setIfInBounds 35 (.map (some mb')) = (pL i m dv ov mb').toArray := by
  unfold pL
  rw [List.setIfInBounds_toArray, show (35 : Nat) = 34 + 1 from rfl, List.set_cons_succ, List.set_append_right _ _ (by simp [h])]
  simp [h]
def zO : List Value := Value.bool false :: ((List.replicate 32 (0 : UInt8)).map B8 ++ [.slice none 0 0, .slice none 0 0, .map none])
theorem zero_o (w : World) : (zeroValue 116).run Tryz.prog w = .ok (.agg zO.toArray) w := by kernel_rfl
theorem info36 (RS : List Value) (h : RS.length = 36) : (Tryz.prog.info? 116).map (·.size) = some RS.length := by rw [h]; kernel_rfl
theorem info36a (RS : Array Value) (h : RS.size = 36) : (Tryz.prog.info? 116).map (·.size) = some RS.size := by rw [h]; kernel_rfl
theorem wpList_store_rowQ {ops : Array Oper} {rest : List Oper} {o : Oper} {a : Act} {w : World} {Q : Exit → Act → World → Prop} (hgd : o.guard = none) (ty : TypeId) (x y : Operand) (ho : o.op = .store ty x y)
    (g : Nat) (cells : Array Value) (hx : a.eval x = .pointer (some ⟨g, 0, none⟩)) (hy : a.eval y = .agg cells)
    (t : TypeId) (old : Array Value) (hg : w.heap[g]? = some (.cells old t (0, 0))) (hi : (Tryz.prog.info? ty).map (·.size) = some cells.size)
    (hold : old.size = cells.size) (h1 : cells.all (·.oneCell') = true)
    (h : ∀ W', W' = w.setRow g cells → wpList Tryz.prog ops Q rest (a.put o.dst undef) W') : wpList Tryz.prog ops Q (o :: rest) a w :=
  wpList_store_row hgd ty x y ho g cells hx hy t old hg hi hold h1 (h _ rfl)
def CopyEnd (w : World) (o : Pra) (dv : Value) (e : Ending) (w' : World) : Prop :=
  ∃ og mb ov, e = .returned (.pointer (some ⟨og, 0, none⟩)) ∧ PO w.heap.size og mb (fun k => w.heap.size ≤ k ∧ k < w'.heap.size) w' o dv ov ∧ Below w.heap.size w w'
theorem po_copy {B og mb : Nat} {S : Nat → Prop} {w X Y : World} {o : Pra} {dv ov v : Value} {es : Array MapEntry} {clock : Nat} (h : PO B og mb S w o dv ov) (hes : (es.toList.map fun e => (e.key, e.val)).Perm (o.log.map fun x => (kV x.1, dV x.2))) (hwX : Below w.heap.size w X) (hsX : w.heap.size + 1 ≤ X.heap.size) (hv : X.ownsRow (w.heap.size + 1) 120 35 v o.log.length (kC o.log)) (hm : Y.heap[X.heap.size]? = some (.map es clock)) (hr : Y.heap[w.heap.size]? = some (.cells (pL o.ideal o.master dv v X.heap.size).toArray 116 (0, 0))) (hY : Below w.heap.size w Y) (hsY : X.heap.size < Y.heap.size) (hk : ∀ j, v.ownBlock = some j → Y.heap[j]? = X.heap[j]?) :
    PO w.heap.size w.heap.size X.heap.size (fun k => w.heap.size ≤ k ∧ k < Y.heap.size) Y o dv v := by
  have hd := fun k e => h.dro k e
  refine ⟨h.ml, hr, hds_below h.draws hY, fun k e => ⟨fun hg => by have := (hd k e).2; omega, by have := (hd k e).2; omega⟩, h.ok, ?_, ⟨es, clock, hm, hes⟩, ⟨Nat.le_refl _, by omega⟩, ⟨by omega, hsY⟩, fun k e => ?_, fun k hk => hk.1, fun k hk => hk.2⟩
  · exact own_lower (own_keep hv (fun j e hl => hk j e)) (by omega)
  · have := hv.lt k e
    exact ⟨⟨by omega, by omega⟩, by omega⟩
theorem pcopy_any {B og mb : Nat} {S : Nat → Prop} {w : World} {o : Pra} {dv ov : Value} (ho : PO B og mb S w o dv ov) (hll : o.log.length < 1000000) :
    Calls Tryz.prog 20 #[.pointer (some ⟨og, 0, none⟩)] w fun e w' => CopyEnd w o dv e w' := by
  obtain ⟨c0, c33, c34, hc, cf⟩ := ho.cells
  obtain ⟨es, clock, hmap, hes⟩ := ho.map
  have HNN : Hid _ := none_no og mb w hc
  have hz := fun W => zero_o W
  obtain ⟨ZA, hZA⟩ : ∃ A, A = zO.toArray := ⟨_, rfl⟩
  rw [← hZA] at hz
  have HZS : Hid (ZA.size = 36) := by show _ = _; rw [hZA]; rfl
  have HPN : Hid ((pL o.ideal o.master dv ov mb).length = 36) := pL_len _ _ _ _ _ ho.ml
  have HPI : Hid _ := info36 _ HPN.out
  have HROW : Hid _ := rangeAt_row ho.row
  have HO : Hid _ := ho
  have HES : Hid _ := hes
  obtain ⟨pd, cd, hdvf⟩ : ∃ p c, dv = .slice p o.draws.length c := by obtain ⟨_, p, c, e, _⟩ := ho.draws; exact ⟨p, c, e⟩
  obtain ⟨po, co, hovf⟩ := ho.ordV
  have HP1 : Hid ((pL o.ideal o.master dv ov mb).toArray.all (·.oneCell') = true) := by
    show _ = _
    rw [Array.all_eq_true_iff_forall_mem]
    intro x hx
    rw [List.mem_toArray] at hx
    unfold pL at hx
    rcases List.mem_cons.1 hx with rfl | hx
    · rfl
    · rcases List.mem_append.1 hx with hx | hx
      · exact B8_one _ x hx
      · simp only [List.mem_cons, List.not_mem_nil, or_false] at hx
        rcases hx with rfl | rfl | rfl
        · rw [hdvf]; rfl
        · rw [hovf]; rfl
        · rfl
  have HS34 : Hid (∀ v', (pL o.ideal o.master dv ov mb).toArray.setIfInBounds 34 v' = (pL o.ideal o.master dv v' mb).toArray) := fun v' => pL_set34 _ _ _ _ _ ho.ml v'
  have HS35 : Hid (∀ v' mb', (pL o.ideal o.master dv v' mb).toArray.setIfInBounds 35 (.map (some mb')) = (pL o.ideal o.master dv v' mb').toArray) := fun v' mb' => pL_set35 _ _ _ _ _ ho.ml mb'
  have HA34 : Hid ((pL o.ideal o.master dv ov mb).toArray[34]? = some ov) := pL_at o.ideal o.master dv ov mb ho.ml 1
  have HA35 : Hid (∀ v', (pL o.ideal o.master dv v' mb).toArray[35]? = some (.map (some mb))) := fun v' => pL_at o.ideal o.master dv v' mb ho.ml 2
  have hog := row_lt ho.row
  have hmb := ho.map.lt
  obtain ⟨PA, hPA⟩ : ∃ L, L = pL o.ideal o.master dv ov mb := ⟨_, rfl⟩
  rw [← hPA] at HPN HPI HROW HP1 HS34 HA34
  have HPS : Hid (PA.toArray.size = 36) := by show _ = _; simpa using HPN.out
  have HRW : Hid ((w.alloc (.cells ZA 116 (0, 0))).heap[w.heap.size]? = some (.cells ZA 116 (0, 0))) := heap_alloc_new _ _
  have HM : Hid _ := hmap
  rw [hovf] at c34
  have HC34 : Hid _ := c34
  have HC35 : Hid _ := hc
  clear hZA hPA ho hes hdvf c0 c33 cf hmap hc c34
  go_enter Tryz.func20, Tryz.ntmps20
  go_wp2_with (first
    | (go_at_call 56; refine Calls.mono HNN.out ?_; rintro e w1 ⟨rfl, hw1⟩; rw [hw1]; clear hw1 w1)
    | (refine wpList_load_mid rfl 116 _ rfl og 0 rfl PA _ HROW.out Tryz.underlying116 rfl HPI.out ?_)
    | (refine wpList_store_rowQ rfl 116 _ _ rfl w.heap.size PA.toArray rfl rfl 116 ZA HRW.out (info36a _ HPS.out) (HZS.out.trans HPS.out.symm) HP1.out ?_; intro X1 hX1; have HB1 : Hid (Below w.heap.size w X1) := (by rw [hX1]; exact below_setRow ((Below.refl _ _).alloc (Nat.le_refl _) _) (Nat.le_refl _) _); have HR1 : Hid (X1.heap[w.heap.size]? = some (.cells PA.toArray 116 (0, 0))) := (by rw [hX1]; exact setRow_heap _ _ _ _ _ _ HRW.out); have hs1 : X1.heap.size = w.heap.size + 1 := (by rw [hX1]; simp); have HSZ1 : Hid _ := hs1; have hc1 := (HB1.out.cell (show (⟨og, 34, none⟩ : Addr).block < w.heap.size from hog)).trans HC34.out; clear hX1 hs1)
    | (go_at_call 57; fail))
  have hown1 : X1.ownsRow B 120 35 (.slice po o.log.length co) o.log.length (kC o.log) := by
    have h := own_keep HO.out.order (fun j e hl => HB1.out.block j hl)
    rw [hovf] at h
    exact h
  refine Calls.mono (cloneQ_any hown1 hll) ?_
  rintro e X2 ⟨v2, rfl, hown2, hb2⟩
  rw [HSZ1.out] at hown2
  obtain ⟨p2, k2, hv2⟩ : ∃ p c, v2 = .slice p o.log.length c := by
    rcases hown2.2 with ⟨e1, e2⟩ | ⟨g, cap, cur, e1, _⟩
    · exact ⟨none, 0, by rw [e1, e2]⟩
    · exact ⟨_, cap, e1⟩
  subst hv2
  have hs2 := hb2.size
  have hsz := HSZ1.out
  have hwX2 : Below w.heap.size w X2 := HB1.out.trans (hb2.mono (by omega))
  have hr2 : X2.heap[w.heap.size]? = some (.cells PA.toArray 116 (0, 0)) := (hb2.block _ (by omega)).trans HR1.out
  have hc2 : X2.cell? ⟨w.heap.size, 34, none⟩ = some ov := by rw [cell_of_row _ _ 34 _ _ _ hr2]; exact HA34.out
  rw [hovf] at hc2
  have hf2 := frozen_of_row _ _ 34 _ _ hr2
  have HR3 : Hid ((X2.setCell ⟨w.heap.size, 34, none⟩ (.slice p2 o.log.length k2)).heap[w.heap.size]? = some (.cells (pL o.ideal o.master dv (.slice p2 o.log.length k2) mb).toArray 116 (0, 0))) := by show _ = _; rw [heap_setCell_same _ _ 34 _ _ _ hr2, HS34.out]
  have HB3 : Hid (Below w.heap.size w (X2.setCell ⟨w.heap.size, 34, none⟩ (.slice p2 o.log.length k2))) := hwX2.setCell (Nat.le_refl _) _
  have HK3 : Hid (∀ j, j ≠ w.heap.size → (X2.setCell ⟨w.heap.size, 34, none⟩ (.slice p2 o.log.length k2)).heap[j]? = X2.heap[j]?) := fun j hj => heap_setCell_other _ _ _ _ hj
  have HZ3 : Hid ((X2.setCell ⟨w.heap.size, 34, none⟩ (.slice p2 o.log.length k2)).heap.size = X2.heap.size) := by show _ = _; simp
  have HOWN : Hid (X2.ownsRow (w.heap.size + 1) 120 35 (.slice p2 o.log.length k2) o.log.length (kC o.log)) := hown2
  have HWX : Hid _ := hwX2
  have hc3 : (X2.setCell ⟨w.heap.size, 34, none⟩ (.slice p2 o.log.length k2)).cell? ⟨og, 35, none⟩ = some (.map (some mb)) := (HB3.out.cell (show (⟨og, 35, none⟩ : Addr).block < w.heap.size from hog)).trans HC35.out
  have HM3 : Hid ((X2.setCell ⟨w.heap.size, 34, none⟩ (.slice p2 o.log.length k2)).heap[mb]? = some (.map es clock)) := (HB3.out.block _ hmb).trans HM.out
  clear hown2 hwX2 hr2 hb2 hown1 hc1
  go_wp2_with (go_at_call 58; fail)
  generalize X2.setCell ⟨w.heap.size, 34, none⟩ (.slice p2 o.log.length k2) = X3 at *
  refine Calls.mono (cloneM_any X3 HM3.out) ?_
  rintro e X4 ⟨rfl, hX4⟩
  have hb4 : Below X3.heap.size X3 X4 := by rw [hX4]; exact (Below.refl _ _).alloc (Nat.le_refl _) _
  have hm4 : X4.heap[X3.heap.size]? = some (.map es clock) := by rw [hX4]; exact heap_alloc_new _ _
  have HZ4 : Hid (X4.heap.size = X3.heap.size + 1) := by show _ = _; rw [hX4]; simp
  have hr4 : X4.heap[w.heap.size]? = some (.cells (pL o.ideal o.master dv (.slice p2 o.log.length k2) mb).toArray 116 (0, 0)) := (hb4.block _ (row_lt HR3.out)).trans HR3.out
  have hc4 : X4.cell? ⟨w.heap.size, 35, none⟩ = some (.map (some mb)) := by rw [cell_of_row _ _ 35 _ _ _ hr4]; exact HA35.out _
  have hf4 := frozen_of_row _ _ 35 _ _ hr4
  have HE : Hid (CopyEnd w o dv (.returned (.pointer (some ⟨w.heap.size, 0, none⟩))) (X4.setCell ⟨w.heap.size, 35, none⟩ (.map (some X3.heap.size)))) := by
    have h3s := HZ3.out
    have hs4 := HZ4.out
    have hws := HWX.out.size
    have hwl : w.heap.size < X3.heap.size := row_lt HR3.out
    have hY : Below w.heap.size w (X4.setCell ⟨w.heap.size, 35, none⟩ (.map (some X3.heap.size))) := (HB3.out.trans (hb4.mono (by omega))).setCell (Nat.le_refl _) _
    refine ⟨w.heap.size, X3.heap.size, .slice p2 o.log.length k2, rfl, ?_, hY⟩
    rw [h3s] at hY hm4 ⊢
    refine po_copy (X := X2) (clock := clock) HO.out HES.out HWX.out (by omega) HOWN.out ?_ ?_ hY ?_ (fun j e => ?_)
    · rw [heap_setCell_other _ _ _ _ (by show X2.heap.size ≠ w.heap.size; omega)]; exact hm4
    · rw [heap_setCell_same _ _ 35 _ _ _ hr4, HS35.out]
    · simp; omega
    · have hj := HOWN.out.lt j e
      rw [heap_setCell_other _ _ _ _ (by show j ≠ w.heap.size; omega), hb4.block j (by omega), HK3.out j (by omega)]
  clear hX4 hr4 hm4 hb4
  go_wp2
  go_ret
  exact HE.out
end Go.Proofs.YtekbppfocnbhbaaGreat.R5
