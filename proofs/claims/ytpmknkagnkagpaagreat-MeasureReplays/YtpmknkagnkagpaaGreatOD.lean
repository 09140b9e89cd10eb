/- MeasureReplays. -/
import Derived.Test.YtpmknkagnkagpaaGreatOC
set_option linter.unusedVariables false
set_option linter.unusedSimpArgs false
namespace Go.Proofs.YtpmknkagnkagpaaGreat.ZC
open Go.RowKit

theorem size_rd (w : World) : (sizeOf 33).run Tryz.prog w = .ok 172 w := by kernel_rfl
theorem sliceTo (W : World) (p : Option Addr) (N cap k : Nat) (h : k ≤ cap) : (Instr.slice 51 (.slice p N cap) none (some (.int .i64 (k : Int))) none).run Tryz.prog W = .ok (.slice p k cap) W := by
  have hu : Tryz.prog.underlying 51 = some (.slice (Tryz.prog.elem 51)) := by kernel_rfl
  have he : Tryz.prog.elem 51 = 33 := by kernel_rfl
  rw [run_slice_h W 51 _ _ _ hu .i64 _ (by omega) (by omega), he, size_rd]
  cases p <;> simp [Result.andThen, sliced, Addr.add]
theorem open_cap {H : Type} {enc : TypeId × Value → H} {w : World} {base : Nat} {held : Bool} {a : Option Addr} {len cap : Nat} {fuel : Nat} {x : DataW H × List MemPlace} (h : DataW.trod enc Tryz.prog w base (fun _ => true) held fuel 51 [.slice a len cap] = some x) : len ≤ cap := by
  rcases Go.Deep.open_slice Tryz.underlying51 h with ⟨hcs, _⟩ | ⟨ad, len', cap', m, n, D, Pl, hcs, hb, hl, hm, hmm, _, hr⟩
  · simp only [List.cons.injEq, and_true, Value.slice.injEq] at hcs
    omega
  · simp only [List.cons.injEq, and_true, Value.slice.injEq] at hcs
    omega
theorem two_replay {w : World} {i : Bool} {m : List UInt8} {D : List (List UInt8)} {L : Lg} (hD : ∀ d ∈ D, d.length = 32) (hL : lL L) (v : Value) (l : List Rd) (hll : L.length + l.length < 100) (hv : HR w v l) : ∃ A e L', Two w i m D 14 19 [v] [v] (mayL l) A e L L' (Z0.map B8) ∧ lL L' ∧ L'.length ≤ L.length + l.length ∧ (mayL l = true → A = (rp2 i D L l).1.map B8 ∧ L' = (rp2 i D L l).2) := by
  cases hmay : mayL l with
  | true =>
    obtain ⟨h1, h2, h3⟩ := sk2_ok (i := i) hD hL (l := l) l.length (Nat.le_refl _)
    rw [sk2_all] at h1 h2 h3
    exact ⟨_, _, _, ⟨fun og mb rg rows X h => h.replay v l hv (by omega) hmay, fun _ og mb rg rows X h => h.rreplay v l hD hL hv (by omega) hmay, fun _ => rfl, fun h => Bool.noConfusion h, by simpa using h1, R5.B8_onea _, fun W => neq_d W _ h1, fun W => eqd_self W _ h1⟩, h2, h3, fun _ => ⟨rfl, rfl⟩⟩
  | false => exact ⟨_, _, L, ⟨fun og mb rg rows X h => h.replayBad v l hv (by omega) hmay, fun h => Bool.noConfusion h, fun h => Bool.noConfusion h, fun _ => ⟨rfl, rfl, rfl⟩, by simp, R5.B8_onea _, fun W => neq_d W _ (by simp), fun W => eqd_self W _ (by simp)⟩, hL, Nat.le_add_right _ _, fun h => Bool.noConfusion h⟩
theorem TW.newrow0 {w X : World} {og mb rg : Nat} {i : Bool} {m : List UInt8} {D : List (List UInt8)} {L R : Lg} {rows : Rws} (h : TW w og mb rg i m D L R rows X) (ZA : Array Value) (t : TypeId) : TW w og mb rg i m D L R ((X.heap.size, ZA, t) :: rows) (X.alloc (.cells ZA t (0, 0))) := by
  have hb : Below X.heap.size X (X.alloc (.cells ZA t (0, 0))) := (Below.refl _ _).alloc (Nat.le_refl _) _
  obtain ⟨S, dv, ov, T, dr, lv, lds, h1, h2, h3, h4, h5, h6⟩ := h.ex
  refine .mk ⟨S, dv, ov, T, dr, lv, lds, h1.below hb, h2.keep hb.size (fun k hk _ => hb.block k hk), h3, h4, h5.trans (hb.mono h5.size), fun r hr => ?_⟩
  rcases List.mem_cons.1 hr with rfl | hr
  · exact ⟨heap_alloc_new _ _, fun h => by have := h1.top _ h; simp at this, fun h => by have := h2.top _ h; simp at this⟩
  · exact ⟨(hb.block _ (PC.row_lt (h6 r hr).1)).trans (h6 r hr).1, (h6 r hr).2⟩
structure RB (w : World) (rows : Rws) (X : World) : Prop where
  r : RS rows X
  b : Below w.heap.size w X
theorem TW.rb {w X : World} {og mb rg : Nat} {i : Bool} {m : List UInt8} {D : List (List UInt8)} {L R : Lg} {rows : Rws} (h : TW w og mb rg i m D L R rows X) : RB w rows X := ⟨h.rs, h.bel⟩
theorem RB.put {w Y : World} {rows : Rws} (h : RB w rows Y) (xb : Nat) (A : Array Value) (hx : w.heap.size ≤ xb) (hn : ∀ r ∈ rows, r.1 ≠ xb) : RB w rows (Y.setRow xb A) := ⟨fun r hr => (setRow_other _ _ _ _ (hn r hr)).trans (h.r r hr), below_setRow h.b hx _⟩
set_option maxHeartbeats 4000000 in
set_option maxRecDepth 100000 in
theorem replays_walk (i : Bool) (m : List UInt8) (a2 : Option Addr) (len2 cap2 : Nat) (D : List (List UInt8)) (p3 : Option Addr) (n3 c3 : Nat) (l : List Rd) (p4 : Option Addr) (n4 c4 : Nat) (k : List Rd) (w : World) (hm : m.length = 32) (hD : D.length ≤ 9223372036854775807) (ha : a2 = none → cap2 = 0) (hd : R5.HDs w (.slice a2 len2 cap2) D) (hl : l.length ≤ 9223372036854775807) (hc3 : n3 ≤ c3) (hv1 : HR w (.slice p3 n3 c3) l) (hk : k.length ≤ 9223372036854775807) (hc4 : n4 ≤ c4) (hv2 : HR w (.slice p4 n4 c4) k) :
    Calls Tryz.prog 4 #[.bool i, .agg (m.map B8).toArray, .slice a2 len2 cap2, .slice p3 n3 c3, .slice p4 n4 c4] w fun e w' => e = .returned (.bool true) ∧ Below w.heap.size w w' := by
  obtain ⟨hdl, pd, capd, hde, hdr⟩ := id hd
  obtain ⟨rfl, rfl, rfl⟩ : a2 = pd ∧ len2 = D.length ∧ cap2 = capd := by simpa using hde
  obtain rfl : n3 = l.length := by obtain ⟨p, c, h, _⟩ := hv1; exact (Value.slice.inj h).2.1
  obtain rfl : n4 = k.length := by obtain ⟨p, c, h, _⟩ := hv2; exact (Value.slice.inj h).2.1
  have HKN : Hid (∀ W : World, Calls Tryz.prog 5 #[] W fun e w' => e = .returned (.bool true) ∧ Below W.heap.size W w') := known_any
  clear hde hdr
  by_cases h60 : 60 < D.length
  · have h60I : (60 : Int) < (D.length : Int) := by omega
    have HB0 : Hid (Below w.heap.size w (w.alloc (.cells (m.map B8).toArray 24 (0, 0)))) := (Below.refl _ _).alloc (Nat.le_refl _) _
    clear hdl hd hm hv1 hv2
    generalize (m.map B8).toArray = MA at *
    go_enter Tryz.func4, Tryz.ntmps4
    go_wp2_with fail
    refine Calls.mono (HKN.out _) ?_
    rintro e X1 ⟨rfl, hb1⟩
    have HB1 : Hid (Below w.heap.size w X1) := HB0.out.trans (hb1.mono HB0.out.size)
    clear hb1
    go_wp2
    go_ret
    exact ⟨rfl, HB1.out⟩
  have h60I : ¬ (60 : Int) < (D.length : Int) := by omega
  by_cases h30 : 30 < l.length
  · have h30I : (30 : Int) < (l.length : Int) := by omega
    have HB0 : Hid (Below w.heap.size w (w.alloc (.cells (m.map B8).toArray 24 (0, 0)))) := (Below.refl _ _).alloc (Nat.le_refl _) _
    clear hdl hd hm hv1 hv2
    generalize (m.map B8).toArray = MA at *
    go_enter Tryz.func4, Tryz.ntmps4
    go_wp2_with fail
    refine Calls.mono (HKN.out _) ?_
    rintro e X1 ⟨rfl, hb1⟩
    have HB1 : Hid (Below w.heap.size w X1) := HB0.out.trans (hb1.mono HB0.out.size)
    clear hb1
    go_wp2
    go_ret
    exact ⟨rfl, HB1.out⟩
  have h30I : ¬ (30 : Int) < (l.length : Int) := by omega
  by_cases h31 : 30 < k.length
  · have h31I : (30 : Int) < (k.length : Int) := by omega
    have HB0 : Hid (Below w.heap.size w (w.alloc (.cells (m.map B8).toArray 24 (0, 0)))) := (Below.refl _ _).alloc (Nat.le_refl _) _
    clear hdl hd hm hv1 hv2
    generalize (m.map B8).toArray = MA at *
    go_enter Tryz.func4, Tryz.ntmps4
    go_wp2_with fail
    refine Calls.mono (HKN.out _) ?_
    rintro e X1 ⟨rfl, hb1⟩
    have HB1 : Hid (Below w.heap.size w X1) := HB0.out.trans (hb1.mono HB0.out.size)
    clear hb1
    go_wp2
    go_ret
    exact ⟨rfl, HB1.out⟩
  have h31I : ¬ (30 : Int) < (k.length : Int) := by omega
  obtain ⟨X0, hX0⟩ : ∃ X, X = w.alloc (.cells (m.map B8).toArray 24 (0, 0)) := ⟨_, rfl⟩
  have hb0 : Below w.heap.size w X0 := by rw [hX0]; exact (Below.refl _ _).alloc (Nat.le_refl _) _
  have hr0 : X0.heap[w.heap.size]? = some (.cells (m.map B8).toArray 24 (0, 0)) := by rw [hX0]; exact heap_alloc_new _ _
  obtain ⟨RW, hRW⟩ : ∃ R : Rws, R = [(w.heap.size, (m.map B8).toArray, 24)] := ⟨_, rfl⟩
  have HBO : Hid (Calls Tryz.prog 6 #[.bool i, .agg (m.map B8).toArray, .slice a2 D.length cap2] X0 fun e Y => BoEnd w i m D RW e Y) := both_any w X0 i m a2 D.length cap2 D RW hm ha (by omega) hd hb0 (fun r hr => by rw [hRW] at hr; simp only [List.mem_cons, List.not_mem_nil, or_false] at hr; subst hr; exact hr0)
  have HL0 : Hid ((X0).rangeAt w.heap.size 0 (m.map B8)) := PC.rangeAt_row hr0
  have HMI : Hid _ := R5.info32 (m.map B8) (by simpa using hm)
  obtain ⟨ZL, hZL⟩ : ∃ L, L = Z0.map B8 := ⟨_, rfl⟩
  have hZL' : ZL = (List.replicate 32 (0 : UInt8)).map B8 := hZL
  have hz := fun W => R5.zero_dig W
  rw [← hZL'] at hz
  have HZS : Hid (ZL.toArray.size = 32) := by show _ = _; rw [hZL']; simp
  have HBD : Hid (∀ W : World, (Instr.build 24 #[]).run Tryz.prog W = .ok (.agg ZL.toArray) W) := fun W => by rw [hZL']; exact R5.build_dig W
  obtain ⟨A1, e1, L1, t1, l1, n1, hrp⟩ := two_replay (w := w) (i := i) (m := m) hdl (L := []) (fun e he => (List.not_mem_nil he).elim) (.slice p3 l.length c3) l (by simp; omega) hv1
  simp only [List.length_nil, Nat.zero_add] at n1
  rw [← hZL] at t1
  have HMA : Hid (∀ X, Below w.heap.size w X → Calls Tryz.prog 15 #[.slice p3 l.length c3] X fun e w' => e = .returned (.bool (mayL l)) ∧ Below X.heap.size X w') := fun X hX => mayall_any _ l X (hv1.below hX) (by omega)
  have HRA : Hid (∀ X, Below w.heap.size w X → Calls Tryz.prog 16 #[.slice p3 l.length c3] X fun e w' => e = .returned (.bool (mayL l)) ∧ Below X.heap.size X w') := fun X hX => rmayall_any _ l X (hv1.below hX) (by omega)
  have HPS : Hid (∀ X, Below w.heap.size w X → Calls Tryz.prog 17 #[.slice p3 l.length c3, .slice p4 k.length c4] X fun e w' => e = .returned (.bool (smeL l k)) ∧ Below X.heap.size X w') := fun X hX => psame_any _ _ l k X (by omega) (hv1.below hX) (hv2.below hX)
  have HRS : Hid (∀ X, Below w.heap.size w X → Calls Tryz.prog 18 #[.slice p3 l.length c3, .slice p4 k.length c4] X fun e w' => e = .returned (.bool (smeL l k)) ∧ Below X.heap.size X w') := fun X hX => rsame_any _ _ l k X (by omega) (hv1.below hX) (hv2.below hX)
  have HLAST : Hid (mayL l = true → ∃ (N : Nat) (r : Rd) (F : List UInt8), l.length = N + 1 ∧ F.length = 32 ∧ r.ok ∧ (∃ b o, p3 = some ⟨b, o, none⟩ ∧ w.rangeAt b (o + N * 172) (rdL r)) ∧ (0 < N →
      (∀ og mb rg rows X, TW w og mb rg i m D L1 L1 rows X → Calls Tryz.prog 14 #[.pointer (some ⟨og, 0, none⟩), .slice p3 N c3] X fun x Y => x = .returned (.tuple #[.agg (F.map B8).toArray, .int .i64 0]) ∧ TW w og mb rg i m D L1 L1 rows Y) ∧
      (∀ og mb rg rows X, TW w og mb rg i m D L1 L1 rows X → Calls Tryz.prog 7 #[.pointer (some ⟨og, 0, none⟩), .agg (F.map B8).toArray, .agg (rdL r).toArray] X fun x Y => x = .returned (.tuple #[.agg A1.toArray, .int .i64 0]) ∧ TW w og mb rg i m D L1 L1 rows Y))) := fun hmay => by
    obtain ⟨hA, hL⟩ := hrp hmay
    have hpos := ((mayL_iff l).1 hmay).1
    obtain ⟨N, hN⟩ : ∃ N, l.length = N + 1 := ⟨l.length - 1, by omega⟩
    obtain ⟨r, hr⟩ : ∃ r, l[N]? = some r := ⟨_, List.getElem?_eq_getElem (by omega)⟩
    obtain ⟨F, hF1, hF2⟩ := rp2_again i m D [] l N r hr hN
    rw [← hL] at hF1 hF2
    obtain ⟨hmr, hkr⟩ := mayL_at hmay hr
    obtain ⟨p', c', hpe, hrow⟩ := id hv1
    obtain ⟨hok, b, o, hp, hrg⟩ := hrow N r hr
    have hFl : F.length = 32 := by
      have := (sk2_ok (i := i) hdl l1 (l := l.take N) (l.take N).length (Nat.le_refl _)).1
      rw [sk2_all, hF1] at this
      exact this
    refine ⟨N, r, F, hN, hFl, hok, ⟨b, o, by rw [← hp]; exact (Value.slice.inj hpe).1, hrg⟩, fun hN0 => ⟨fun og mb rg rows X h => ?_, fun og mb rg rows X h => ?_⟩⟩
    · have hmt : mayL (l.take N) = true := by
        rw [mayL_iff]
        refine ⟨by rw [List.length_take]; omega, fun j hj => ?_⟩
        have hjN : j < N := by rw [List.length_take] at hj; omega
        have hg := ((mayL_iff l).1 hmay).2 j (by omega)
        unfold good at hg ⊢
        rw [List.getElem?_take, if_pos hjN]
        exact hg
      have h2 := h.replay (.slice p3 N c3) (l.take N) (hr_take hv1 N (by omega)) (by rw [List.length_take]; omega) hmt
      rw [hF1] at h2
      exact h2
    · have h2 := h.next (by omega) F hFl r hok hmr (fun e => by have := hkr.1 e; omega)
      rw [hF2] at h2
      rw [hA]
      exact h2
  have HT1 : Hid (Two w i m D 14 19 [.slice p3 l.length c3] [.slice p3 l.length c3] (mayL l) A1 e1 [] L1 ZL) := t1
  generalize mayL l = mk at *
  generalize smeL l k = sm at *
  have HN1 : Hid (L1.length < 1000000) := by show _ < _; omega
  have HX0 : Hid (X0 = w.alloc (.cells (m.map B8).toArray 24 (0, 0))) := hX0
  have HRW : Hid (RW = [(w.heap.size, (m.map B8).toArray, 24)]) := hRW
  have hbm : (mk != mk) = false := by simp
  have hbs : (sm != sm) = false := by simp
  rw [hX0] at HBO HL0
  clear hZL hZL' hdl hb0 hr0 hX0 hd hm hv1 hv2 hRW t1 l1 n1 hrp ha hD h60 hl hk h30 h31 hc4
  generalize m.map B8 = ML at *
  generalize l.length = ln at *
  go_enter Tryz.func4, Tryz.ntmps4
  go_wp2_with (first
    | (refine wpList_load_mid rfl 24 _ rfl w.heap.size 0 rfl ML _ HL0.out Tryz.underlying24 rfl HMI.out ?_)
    | (go_at_call 6; fail))
  refine Calls.mono HBO.out ?_
  rintro e X1 ⟨og, mb, rg, rfl, hT⟩
  have HTW : Hid (TW w og mb rg i m D [] [] RW X1) := hT
  clear hT HBO HL0 HX0
  go_wp2_with fail
  refine Calls.mono (HT1.out.p og mb rg _ X1 HTW.out) ?_
  rintro e X2 ⟨rfl, hT⟩
  have HTX : Hid (TW w og mb rg i m D L1 [] RW X2) := hT
  clear hT HTW
  have HTW : Hid (TW w og mb rg i m D L1 [] ((X2.heap.size, A1.toArray, 24) :: RW) ((X2.alloc (.cells ZL.toArray 24 (0, 0))).setRow X2.heap.size A1.toArray)) := HTX.out.newrow _ _ _
  have HZA : Hid ((X2.alloc (.cells ZL.toArray 24 (0, 0))).heap[X2.heap.size]? = some (.cells ZL.toArray 24 (0, 0))) := heap_alloc_new _ _
  have HAS : Hid (A1.toArray.size = 32) := by show _ = _; simpa using HT1.out.len
  have HA1 : Hid _ := HT1.out.one
  have HAI : Hid _ := R5.info32 A1 HT1.out.len
  go_wp2_with (refine wpList_store_row rfl 24 _ _ rfl X2.heap.size A1.toArray rfl rfl 24 ZL.toArray HZA.out (R5.info32a _ HAS.out) (HZS.out.trans HAS.out.symm) HA1.out ?_)
  generalize (X2.alloc (.cells ZL.toArray 24 (0, 0))).setRow X2.heap.size A1.toArray = X at *
  generalize X2.heap.size = db at *
  clear HZA HTX
  go_wp2_with fail
  refine Calls.mono (HMA.out X HTW.out.bel) ?_
  rintro e Y1 ⟨rfl, hb3⟩
  have HTN : Hid (TW w og mb rg i m D L1 [] ((db, A1.toArray, 24) :: RW) Y1) := HTW.out.step hb3
  clear HTW hb3
  have HTW : Hid _ := HTN.out
  clear HTN
  go_wp2_with fail
  refine Calls.mono (HRA.out Y1 HTW.out.bel) ?_
  rintro e Y2 ⟨rfl, hb3⟩
  have HTN : Hid (TW w og mb rg i m D L1 [] ((db, A1.toArray, 24) :: RW) Y2) := HTW.out.step hb3
  clear HTW hb3
  have HTW : Hid _ := HTN.out
  clear HTN
  go_wp2_with fail
  refine Calls.mono (HPS.out Y2 HTW.out.bel) ?_
  rintro e Y3 ⟨rfl, hb3⟩
  have HTN : Hid (TW w og mb rg i m D L1 [] ((db, A1.toArray, 24) :: RW) Y3) := HTW.out.step hb3
  clear HTW hb3
  have HTW : Hid _ := HTN.out
  clear HTN
  go_wp2_with fail
  refine Calls.mono (HRS.out Y3 HTW.out.bel) ?_
  rintro e Y4 ⟨rfl, hb3⟩
  have HTN : Hid (TW w og mb rg i m D L1 [] ((db, A1.toArray, 24) :: RW) Y4) := HTW.out.step hb3
  clear HTW hb3
  have HTW : Hid _ := HTN.out
  clear HTN
  go_wp2_with fail
  refine Calls.mono (HRA.out Y4 HTW.out.bel) ?_
  rintro e V ⟨rfl, hb3⟩
  have HTN : Hid (TW w og mb rg i m D L1 [] ((db, A1.toArray, 24) :: RW) V) := HTW.out.step hb3
  clear HTW hb3
  have HTW : Hid _ := HTN.out
  clear HTN
  cases mk with
  | false =>
    obtain ⟨he, hA, hL⟩ := HT1.out.n rfl
    have heq : ∀ W, (binOp .eql 24 (.agg A1.toArray) (.agg ZL.toArray)).run Tryz.prog W = .ok (.bool true) W := fun W => by
      have h := HT1.out.eq W
      rw [hA] at h ⊢
      exact h
    have HLA : Hid (V.rangeAt db 0 A1) := RS.at (t := 24) HTW.out.rs (by simp)
    subst he
    clear hA hL
    go_wp2_with (first
      | (refine R5.load_mid_g (by rfl) 24 _ rfl db 0 rfl A1 _ HLA.out Tryz.underlying24 rfl HAI.out ?_)
      | (refine build_g (by rfl) 24 _ rfl #[] (.agg ZL.toArray) (by simp) (HBD.out _) ?_)
      | (go_at_call 10; fail))
    refine Calls.mono (num_any 2 V) ?_
    rintro e w' ⟨rfl, rfl⟩
    go_wp2_with fail
    refine Calls.mono (HKN.out V) ?_
    rintro e F2 ⟨rfl, hbK⟩
    have HB2 : Hid (Below w.heap.size w F2) := HTW.out.bel.trans (hbK.mono HTW.out.bel.size)
    clear hbK
    go_wp2
    go_ret
    exact ⟨rfl, HB2.out⟩
  | true =>
    have he := HT1.out.y rfl
    subst he
    obtain ⟨N, r, F, hN, hFl, hok, ⟨b, o, hp, hrg⟩, hlast⟩ := HLAST.out rfl
    subst hN
    subst hp
    have hsl := fun W => sliceTo W (some ⟨b, o, none⟩) (N + 1) c3 N (by omega)
    have HFS : Hid ((F.map B8).toArray.size = 32) := by show _ = _; simpa using hFl
    have HF1 : Hid _ := R5.B8_onea F
    have HFI : Hid _ := R5.info32 (F.map B8) (by simpa using hFl)
    have HRI : Hid _ := info172 (rdL r) (rdL_len hok)
    have HRG : Hid (w.rangeAt b (o + N * 172) (rdL r)) := hrg
    obtain ⟨FL, hFL⟩ : ∃ A, A = F.map B8 := ⟨_, rfl⟩
    obtain ⟨RL, hRL⟩ : ∃ A, A = rdL r := ⟨_, rfl⟩
    rw [← hFL] at HFS HF1 HFI hlast
    rw [← hRL] at HRI HRG hlast
    have HLB : Hid (0 < N → (∀ og mb rg rows X, TW w og mb rg i m D L1 L1 rows X → Calls Tryz.prog 14 #[.pointer (some ⟨og, 0, none⟩), .slice (some ⟨b, o, none⟩) N c3] X fun x Y => x = .returned (.tuple #[.agg FL.toArray, .int .i64 0]) ∧ TW w og mb rg i m D L1 L1 rows Y) ∧
      (∀ og mb rg rows X, TW w og mb rg i m D L1 L1 rows X → Calls Tryz.prog 7 #[.pointer (some ⟨og, 0, none⟩), .agg FL.toArray, .agg RL.toArray] X fun x Y => x = .returned (.tuple #[.agg A1.toArray, .int .i64 0]) ∧ TW w og mb rg i m D L1 L1 rows Y)) := hlast
    have HTD : Hid (TW w og mb rg i m D L1 [] ((db, A1.toArray, 24) :: RW) V.drew) := HTW.out.step (Below.refl _ _).drew
    have HRD : Hid (RS ((db, A1.toArray, 24) :: RW) V.drew) := HTD.out.rs
    clear hFl hok hrg hlast hFL hRL HLAST HTW HMA HRA HPS HRS
    have hNI : (N : Int) < ((N + 1 : Nat) : Int) := by omega
    go_wp2
    refine wp_region_held_drew (S := RS ((db, A1.toArray, 24) :: RW)) (by kernel_rfl) HRD.out (fun hHeld => ?_)
    clear HRD
    generalize V.drew = U at *
    refine wpAnyH_take (i := 0) (oi := ⟨some 75, .load 24 (.tmp 13), 24, _, #[], none⟩) rfl (by kernel_rfl) (by kernel_rfl) (by kernel_rfl) (fun _ _ _ h => h) (yieldsIf_load_mid (by rfl) 24 (.tmp 13) rfl (db) (0) rfl (A1) _ (fun _ h => RS.at (t := 24) h (by simp)) Tryz.underlying24 rfl HAI.out) hHeld ?_
    try simp only [Act.put, qT, q0, qS]
    refine wpAnyH_take (i := 1) (oi := ⟨some 76, .move (.tmp 12), 36, _, #[], none⟩) (v := .pointer (some ⟨rg, 0, none⟩)) rfl (by kernel_rfl) (by kernel_rfl) (by kernel_rfl) (fun _ _ _ h => h) (Or.inl ⟨by rfl, fun w' hw' => ?_⟩) hHeld ?_
    · first | (go_simp; done) | (go_simp; rfl)
    try simp only [Act.put, qT, q0, qS]
    refine wpAnyH_take (i := 2) (oi := ⟨some 77, .move (.tmp 3), 51, _, #[], none⟩) (v := .slice (some ⟨b, o, none⟩) (N + 1) c3) rfl (by kernel_rfl) (by kernel_rfl) (by kernel_rfl) (fun _ _ _ h => h) (Or.inl ⟨by rfl, fun w' hw' => ?_⟩) hHeld ?_
    · first | (go_simp; done) | (go_simp; rfl)
    try simp only [Act.put, qT, q0, qS]
    refine wpAnyH_ready (rs := [3]) (by kernel_rfl) (by simp) ?_
    refine AllReadyH.cons (o := { dst := some 78, op := .call { callee := Go.Callee.value (.func 19), args := #[.tmp 76, .tmp 77], argTypes := #[36, 51] }, type := 24, pos := _, after := #[⟨1, .data⟩, ⟨2, .data⟩], guard := none }) rfl (fun K hK => ?_) AllReadyH.nil
    rw [if_pos (by rfl)]
    go_wp2_with fail
    refine Calls.mono (HT1.out.r rfl og mb rg _ U HTD.out) ?_
    rintro e G ⟨rfl, hT⟩
    have HTG : Hid _ := hT
    have hRG := hT.rs
    obtain ⟨lv, hcl, hlr⟩ := hT.rlog
    obtain ⟨pl, cl, rfl, _⟩ := id hlr
    have HLR : Hid (R5.HLr G (.slice pl L1.length cl) L1) := hlr
    clear hHeld hT hlr HTD
    refine hK.out _ _ hRG (fun _ => ?_)
    clear hK K
    try simp only [Act.put, qT, q0, qS]
    have hHeld := hRG
    have hne := HT1.out.ne
    refine wpAnyH_take (i := 4) (oi := ⟨some 79, .binOp .neq 24 (.tmp 75) (.tmp 78) 24, 4, _, #[⟨0, .data⟩, ⟨3, .data⟩], none⟩) (v := .bool false) rfl (by kernel_rfl) (by kernel_rfl) (by kernel_rfl) (fun _ _ _ h => h) (Or.inl ⟨by rfl, fun w' hw' => ?_⟩) hHeld ?_
    · first | (go_simp; done) | (go_simp; rfl)
    try simp only [Act.put, qT, q0, qS]
    refine wpAnyH_take (i := 5) (oi := ⟨some 80, .move (.tmp 79), 4, _, #[⟨4, .data⟩, ⟨3, .chain⟩], none⟩) (v := .bool false) rfl (by kernel_rfl) (by kernel_rfl) (by kernel_rfl) (fun _ _ _ h => h) (Or.inl ⟨by rfl, fun w' hw' => ?_⟩) hHeld ?_
    · first | (go_simp; done) | (go_simp; rfl)
    try simp only [Act.put, qT, q0, qS]
    refine wpAnyH_take (i := 6) (oi := ⟨some 81, .move (.tmp 14), 39, _, #[⟨5, .guard⟩], some (5, false)⟩) (v := .int .i64 0) rfl (by kernel_rfl) (by kernel_rfl) (by kernel_rfl) (fun _ _ _ h => h) (Or.inl ⟨by rfl, fun w' hw' => ?_⟩) hHeld ?_
    · first | (go_simp; done) | (go_simp; rfl)
    try simp only [Act.put, qT, q0, qS]
    refine wpAnyH_ready (rs := [7]) (by kernel_rfl) (by simp) ?_
    refine AllReadyH.cons (o := { dst := some 82, op := .call { callee := Go.Callee.value (.func 10), args := #[.tmp 81], argTypes := #[39] }, type := 3, pos := _, after := #[⟨6, .data⟩, ⟨5, .chain⟩, ⟨5, .guard⟩], guard := some (5, false) }) rfl (fun K hK => ?_) AllReadyH.nil
    rw [if_pos (by rfl)]
    go_wp2_with fail
    refine Calls.mono (num_any 0 G) ?_
    rintro e w' ⟨rfl, rfl⟩
    refine hK.out _ _ hHeld (fun _ => ?_)
    clear hK K
    try simp only [Act.put, qT, q0, qS]
    refine wpAnyH_take (i := 8) (oi := ⟨some 83, .binOp .neq 3 (.tmp 82) (.const (Go.Value.int Go.IntKind.i64 0)) 3, 4, _, #[⟨7, .data⟩, ⟨5, .guard⟩], some (5, false)⟩) (v := .bool false) rfl (by kernel_rfl) (by kernel_rfl) (by kernel_rfl) (fun _ _ _ h => h) (Or.inl ⟨by rfl, fun w' hw' => ?_⟩) hHeld ?_
    · first | (go_simp; done) | (go_simp; rfl)
    try simp only [Act.put, qT, q0, qS]
    refine wpAnyH_take (i := 9) (oi := ⟨some 84, .pick (.tmp 80) (.const (Go.Value.bool true)) (.tmp 83), 4, _, #[⟨5, .data⟩, ⟨8, .data⟩], none⟩) (v := .bool false) rfl (by kernel_rfl) (by kernel_rfl) (by kernel_rfl) (fun _ _ _ h => h) (Or.inl ⟨by rfl, fun w' hw' => ?_⟩) hHeld ?_
    · first | (go_simp; done) | (go_simp; rfl)
    try simp only [Act.put, qT, q0, qS]
    refine wpAnyH_take (i := 10) (oi := ⟨some 85, .move (.tmp 84), 4, _, #[⟨9, .data⟩, ⟨7, .chain⟩], none⟩) (v := .bool false) rfl (by kernel_rfl) (by kernel_rfl) (by kernel_rfl) (fun _ _ _ h => h) (Or.inl ⟨by rfl, fun w' hw' => ?_⟩) hHeld ?_
    · first | (go_simp; done) | (go_simp; rfl)
    try simp only [Act.put, qT, q0, qS]
    refine wpAnyH_take (i := 11) (oi := ⟨some 86, .move (.tmp 11), 35, _, #[⟨10, .guard⟩], some (10, false)⟩) (v := .pointer (some ⟨og, 0, none⟩)) rfl (by kernel_rfl) (by kernel_rfl) (by kernel_rfl) (fun _ _ _ h => h) (Or.inl ⟨by rfl, fun w' hw' => ?_⟩) hHeld ?_
    · first | (go_simp; done) | (go_simp; rfl)
    try simp only [Act.put, qT, q0, qS]
    refine wpAnyH_take (i := 13) (oi := ⟨some 88, .move (.tmp 12), 36, _, #[⟨10, .guard⟩], some (10, false)⟩) (v := .pointer (some ⟨rg, 0, none⟩)) rfl (by kernel_rfl) (by kernel_rfl) (by kernel_rfl) (fun _ _ _ h => h) (Or.inl ⟨by rfl, fun w' hw' => ?_⟩) hHeld ?_
    · first | (go_simp; done) | (go_simp; rfl)
    try simp only [Act.put, qT, q0, qS]
    refine wpAnyH_take (i := 14) (oi := ⟨some 89, .nilCheck (.tmp 88), 0, _, #[⟨13, .data⟩, ⟨10, .guard⟩], some (10, false)⟩) (v := .pointer (some ⟨rg, 0, none⟩)) rfl (by kernel_rfl) (by kernel_rfl) (by kernel_rfl) (fun _ _ _ h => h) (Or.inl ⟨by rfl, fun w' hw' => ?_⟩) hHeld ?_
    · first | (go_simp; done) | (go_simp; rfl)
    try simp only [Act.put, qT, q0, qS]
    refine wpAnyH_take (i := 15) (oi := ⟨some 90, .fieldAddr 49 (.tmp 89) 4, 0, _, #[⟨14, .data⟩, ⟨10, .guard⟩], some (10, false)⟩) (v := .pointer (some ⟨rg, 35, none⟩)) rfl (by kernel_rfl) (by kernel_rfl) (by kernel_rfl) (fun _ _ _ h => h) (Or.inl ⟨by rfl, fun w' hw' => ?_⟩) hHeld ?_
    · first | (go_simp; done) | (go_simp; rfl)
    try simp only [Act.put, qT, q0, qS]
    refine wpAnyH_ready (rs := [12, 16]) (by kernel_rfl) (by simp) ?_
    refine AllReadyH.cons (o := { dst := some 87, op := .call { callee := Go.Callee.value (.func 11), args := #[.tmp 86], argTypes := #[35] }, type := 44, pos := _, after := #[⟨11, .data⟩, ⟨10, .chain⟩, ⟨10, .guard⟩], guard := some (10, false) }) rfl (fun K hK => ?_) (AllReadyH.cons (o := ⟨some 91, .load 44 (.tmp 90), 44, _, #[⟨15, .data⟩, ⟨10, .guard⟩], some (10, false)⟩) rfl (fun K hK => ?_) AllReadyH.nil)
    all_goals rw [if_pos (by rfl)]
    · go_wp2_with fail
      refine Calls.mono (HTG.out.log HN1.out) ?_
      rintro e F1 ⟨vl, rfl, hv1, hbF⟩
      have HTF : Hid _ := HTG.out.step hbF
      have hRF := HTF.out.rs
      have hcl1 : F1.cell? ⟨rg, 35, none⟩ = some (.slice pl L1.length cl) := (hbF.cell (block_lt hcl)).trans hcl
      have HSL : Hid (Calls Tryz.prog 13 #[vl, .slice pl L1.length cl] F1 fun e w' => e = .returned (.bool true) ∧ Below F1.heap.size F1 w') := slog_same vl _ L1 F1 HN1.out hv1 (R5.hlr_below HLR.out hbF)
      clear hv1 hbF hHeld
      refine hK.out _ _ hRF (fun _ => ?_)
      clear hK K
      try simp only [Act.put, qT, q0, qS]
      have hHeld := hRF
      refine wpAnyH_ready (rs := [16]) (by kernel_rfl) (by simp) ?_
      refine AllReadyH.cons (o := ⟨some 91, .load 44 (.tmp 90), 44, _, #[⟨15, .data⟩, ⟨10, .guard⟩], some (10, false)⟩) rfl (fun K hK => ?_) AllReadyH.nil
      rw [if_pos (by rfl)]
      go_wp2_with fail
      refine hK.out _ _ hHeld (fun _ => ?_)
      clear hK K
      try simp only [Act.put, qT, q0, qS]
      refine wpAnyH_ready (rs := [17]) (by kernel_rfl) (by simp) ?_
      refine AllReadyH.cons (o := { dst := some 92, op := .call { callee := Go.Callee.value (.func 13), args := #[.tmp 87, .tmp 91], argTypes := #[44, 44] }, type := 4, pos := _, after := #[⟨12, .data⟩, ⟨16, .data⟩, ⟨12, .chain⟩, ⟨10, .guard⟩], guard := some (10, false) }) rfl (fun K hK => ?_) AllReadyH.nil
      rw [if_pos (by rfl)]
      go_wp2_with fail
      refine Calls.mono HSL.out ?_
      rintro e F2 ⟨rfl, hbG⟩
      have HT2 : Hid (TW w og mb rg i m D L1 L1 ((db, A1.toArray, 24) :: RW) F2) := HTF.out.step hbG
      have hR2 := HT2.out.rs
      clear hbG HSL hHeld
      refine hK.out _ _ hR2 (fun _ => ?_)
      clear hK K
      try simp only [Act.put, qT, q0, qS]
      have hHeld := hR2
      refine wpAnyH_take (i := 18) (oi := ⟨some 93, .unOp .not 4 (.tmp 92), 4, _, #[⟨17, .data⟩, ⟨10, .guard⟩], some (10, false)⟩) (v := .bool false) rfl (by kernel_rfl) (by kernel_rfl) (by kernel_rfl) (fun _ _ _ h => h) (Or.inl ⟨by rfl, fun w' hw' => ?_⟩) hHeld ?_
      · first | (go_simp; done) | (go_simp; rfl)
      try simp only [Act.put, qT, q0, qS]
      refine wpAnyH_take (i := 19) (oi := ⟨some 94, .pick (.tmp 85) (.const (Go.Value.bool true)) (.tmp 93), 4, _, #[⟨10, .data⟩, ⟨18, .data⟩], none⟩) (v := .bool false) rfl (by kernel_rfl) (by kernel_rfl) (by kernel_rfl) (fun _ _ _ h => h) (Or.inl ⟨by rfl, fun w' hw' => ?_⟩) hHeld ?_
      · first | (go_simp; done) | (go_simp; rfl)
      try simp only [Act.put, qT, q0, qS]
      refine wpAnyH_done (by kernel_rfl) ?_ _
      clear hHeld hR2 HTF hcl hcl1 hne
      by_cases hN0 : N = 0
      · subst hN0
        go_wp2_with fail
        refine Calls.mono (HKN.out F2) ?_
        rintro e Q2 ⟨rfl, hbK⟩
        have HB9 : Hid (Below w.heap.size w Q2) := HT2.out.bel.trans (hbK.mono HT2.out.bel.size)
        clear hbK
        go_wp2
        go_ret
        exact ⟨rfl, HB9.out⟩
      · have hNz : ((N : Int) == 0) = false := by rw [beq_eq_false_iff_ne]; omega
        obtain ⟨h1, h2⟩ := HLB.out (by omega)
        have HCP : Hid _ := h1 og mb rg _ F2 HT2.out
        have HNX : Hid (∀ og mb rg rows X, TW w og mb rg i m D L1 L1 rows X → Calls Tryz.prog 7 #[.pointer (some ⟨og, 0, none⟩), .agg FL.toArray, .agg RL.toArray] X fun x Y => x = .returned (.tuple #[.agg A1.toArray, .int .i64 0]) ∧ TW w og mb rg i m D L1 L1 rows Y) := h2
        clear h1 h2
        go_wp2_with fail
        refine Calls.mono HCP.out ?_
        rintro e F4 ⟨rfl, hT⟩
        have HT4 : Hid (TW w og mb rg i m D L1 L1 ((F4.heap.size, FL.toArray, 24) :: (db, A1.toArray, 24) :: RW) ((F4.alloc (.cells ZL.toArray 24 (0, 0))).setRow F4.heap.size FL.toArray).drew) := (hT.newrow _ _ _).step (Below.refl _ _).drew
        have HRB : Hid (RB w ((F4.heap.size, FL.toArray, 24) :: (db, A1.toArray, 24) :: RW) ((F4.alloc (.cells ZL.toArray 24 (0, 0))).setRow F4.heap.size FL.toArray).drew) := HT4.out.rb
        have HZ4 : Hid ((F4.alloc (.cells ZL.toArray 24 (0, 0))).heap[F4.heap.size]? = some (.cells ZL.toArray 24 (0, 0))) := heap_alloc_new _ _
        clear hT HCP HT2
        go_wp2_with (refine wpList_store_row rfl 24 _ _ rfl F4.heap.size FL.toArray rfl rfl 24 ZL.toArray HZ4.out (R5.info32a _ HFS.out) (HZS.out.trans HFS.out.symm) HF1.out ?_)
        refine wp_region_held_drew (S := RB w ((F4.heap.size, FL.toArray, 24) :: (db, A1.toArray, 24) :: RW)) (by kernel_rfl) HRB.out (fun hHeld => ?_)
        clear HZ4 HRB
        generalize ((F4.alloc (.cells ZL.toArray 24 (0, 0))).setRow F4.heap.size FL.toArray).drew = P at *
        generalize F4.heap.size = fb at *
        refine wpAnyH_take (i := 0) (oi := ⟨some 110, .move (.tmp 11), 35, _, #[], none⟩) (v := .pointer (some ⟨og, 0, none⟩)) rfl (by kernel_rfl) (by kernel_rfl) (by kernel_rfl) (fun _ _ _ h => h) (Or.inl ⟨by rfl, fun w' hw' => ?_⟩) hHeld ?_
        · first | (go_simp; done) | (go_simp; rfl)
        try simp only [Act.put, qT, q0, qS]
        refine wpAnyH_take (i := 1) (oi := ⟨some 111, .load 24 (.tmp 16), 24, _, #[], none⟩) rfl (by kernel_rfl) (by kernel_rfl) (by kernel_rfl) (fun _ _ _ h => h) (yieldsIf_load_mid (by rfl) 24 (.tmp 16) rfl (fb) (0) rfl (FL) _ (fun _ h => RS.at (t := 24) h.r (by simp)) Tryz.underlying24 rfl HFI.out) hHeld ?_
        try simp only [Act.put, qT, q0, qS]
        refine wpAnyH_take (i := 2) (oi := ⟨some 112, .move (.tmp 3), 51, _, #[], none⟩) (v := .slice (some ⟨b, o, none⟩) (N + 1) c3) rfl (by kernel_rfl) (by kernel_rfl) (by kernel_rfl) (fun _ _ _ h => h) (Or.inl ⟨by rfl, fun w' hw' => ?_⟩) hHeld ?_
        · first | (go_simp; done) | (go_simp; rfl)
        try simp only [Act.put, qT, q0, qS]
        refine wpAnyH_take (i := 3) (oi := ⟨some 113, .move (.tmp 15), 3, _, #[], none⟩) (v := .int .i64 (N : Int)) rfl (by kernel_rfl) (by kernel_rfl) (by kernel_rfl) (fun _ _ _ h => h) (Or.inl ⟨by rfl, fun w' hw' => ?_⟩) hHeld ?_
        · first | (go_simp; done) | (go_simp; rfl)
        try simp only [Act.put, qT, q0, qS]
        refine wpAnyH_take (i := 4) (oi := ⟨some 114, .indexAddr 51 (.tmp 112) (.tmp 113), 0, _, #[⟨2, .data⟩, ⟨3, .data⟩], none⟩) (v := .pointer (some ⟨b, o + N * 172, none⟩)) rfl (by kernel_rfl) (by kernel_rfl) (by kernel_rfl) (fun _ _ _ h => h) (Or.inl ⟨by rfl, fun w' hw' => ?_⟩) hHeld ?_
        · have hnn : ¬ ((N : Int) + 1 ≤ (N : Int)) := (by omega); first | (go_simp; done) | (go_simp; rfl) | (go_simp; intro h; exact absurd h hnn)
        try simp only [Act.put, qT, q0, qS]
        refine wpAnyH_take (i := 5) (oi := ⟨some 115, .load 33 (.tmp 114), 33, _, #[⟨4, .data⟩], none⟩) rfl (by kernel_rfl) (by kernel_rfl) (by kernel_rfl) (fun _ _ _ h => h) (yieldsIf_load_mid (by rfl) 33 (.tmp 114) rfl (b) (o + N * 172) rfl (RL) _ (fun _ h => PC.rangeAt_below HRG.out h.b) Tryz.underlying33 rfl HRI.out) hHeld ?_
        try simp only [Act.put, qT, q0, qS]
        refine wpAnyH_ready (rs := [6, 10]) (by kernel_rfl) (by simp) ?_
        refine AllReadyH.cons (o := { dst := some 116, op := .call { callee := Go.Callee.value (.func 7), args := #[.tmp 110, .tmp 111, .tmp 115], argTypes := #[35, 24, 33] }, type := 40, pos := _, after := #[⟨0, .data⟩, ⟨1, .data⟩, ⟨5, .data⟩], guard := none }) rfl (fun K hK => ?_) (AllReadyH.cons (o := ⟨some 18, .alloc 24, 0, _, #[], none⟩) rfl (fun K hK => ?_) AllReadyH.nil)
        all_goals rw [if_pos (by rfl)]
        · go_wp2_with fail
          refine Calls.mono (HNX.out og mb rg _ P HT4.out) ?_
          rintro e Y ⟨rfl, hT⟩
          have hB1 := hT.rb
          have hB2 : RB w ((fb, FL.toArray, 24) :: (db, A1.toArray, 24) :: RW) (Y.alloc (.cells ZL.toArray 24 (0, 0))) := (hT.step ((Below.refl _ _).alloc (Nat.le_refl _) _)).rb
          have hT3 := hT.newrow ZL.toArray A1.toArray 24
          have hB3 : RB w ((fb, FL.toArray, 24) :: (db, A1.toArray, 24) :: RW) ((Y.alloc (.cells ZL.toArray 24 (0, 0))).setRow Y.heap.size A1.toArray) := ⟨fun r hr => hT3.rs r (List.mem_cons_of_mem _ hr), hT3.bel⟩
          have hXA : ((Y.alloc (.cells ZL.toArray 24 (0, 0))).setRow Y.heap.size A1.toArray).rangeAt Y.heap.size 0 A1 := RS.at (t := 24) hT3.rs (by simp)
          clear hT hT3 hHeld
          refine hK.out _ _ hB1 (fun _ => ?_)
          clear hK K
          try simp only [Act.put, qT, q0, qS]
          have hHeld := hB1
          refine wpAnyH_take (i := 7) (oi := ⟨some 109, .move (.tmp 116), 40, _, #[⟨6, .data⟩], none⟩) (v := .tuple #[.agg A1.toArray, .int .i64 0]) rfl (by kernel_rfl) (by kernel_rfl) (by kernel_rfl) (fun _ _ _ h => h) (Or.inl ⟨by rfl, fun w' hw' => ?_⟩) hHeld ?_
          · first | (go_simp; done) | (go_simp; rfl)
          try simp only [Act.put, qT, q0, qS]
          refine wpAnyH_take (i := 8) (oi := ⟨some 117, .extract (.tmp 109) 0, 24, _, #[⟨7, .data⟩], none⟩) (v := .agg A1.toArray) rfl (by kernel_rfl) (by kernel_rfl) (by kernel_rfl) (fun _ _ _ h => h) (Or.inl ⟨by rfl, fun w' hw' => ?_⟩) hHeld ?_
          · first | (go_simp; done) | (go_simp; rfl)
          try simp only [Act.put, qT, q0, qS]
          refine wpAnyH_take (i := 9) (oi := { dst := some 118, op := .extract (.tmp 109) 1, type := 39, pos := _, after := #[⟨7, .data⟩, { on := 11, ground := .gcOnly Go.Departure.lateStores }], guard := none }) (v := .int .i64 0) rfl (by kernel_rfl) (by kernel_rfl) (by kernel_rfl) (fun _ _ _ h => h) (Or.inl ⟨by rfl, fun w' hw' => ?_⟩) hHeld ?_
          · first | (go_simp; done) | (go_simp; rfl)
          try simp only [Act.put, qT, q0, qS]
          refine wpAnyH_ready (rs := [10]) (by kernel_rfl) (by simp) ?_
          refine AllReadyH.cons (o := ⟨some 18, .alloc 24, 0, _, #[], none⟩) rfl (fun K hK => ?_) AllReadyH.nil
          rw [if_pos (by rfl)]
          go_wp2_with fail
          refine hK.out _ _ hB2 (fun _ => ?_)
          clear hK K
          try simp only [Act.put, qT, q0, qS]
          have hHeld := hB2
          refine wpAnyH_ready (rs := [11]) (by kernel_rfl) (by simp) ?_
          refine AllReadyH.cons (o := { dst := none, op := .store 24 (.tmp 18) (.tmp 117), type := 0, pos := _, after := #[⟨10, .data⟩, ⟨8, .data⟩, ⟨6, .chain⟩, ⟨0, .phase⟩, ⟨1, .phase⟩, ⟨2, .phase⟩, ⟨3, .phase⟩, ⟨4, .phase⟩, ⟨5, .phase⟩, ⟨6, .phase⟩, ⟨7, .phase⟩, ⟨8, .phase⟩, { on := 9, ground := .textOnly Go.Departure.lateStores }, ⟨10, .phase⟩], guard := none }) rfl (fun K hK => ?_) AllReadyH.nil
          rw [if_pos (by rfl)]
          refine wp_store_row 24 _ _ rfl Y.heap.size A1.toArray rfl rfl 24 ZL.toArray (heap_alloc_new _ _) (R5.info32a _ HAS.out) (HZS.out.trans HAS.out.symm) HA1.out ?_
          refine hK.out _ _ hB3 (fun _ => ?_)
          clear hK K
          try simp only [Act.put, qT, q0, qS]
          have hHeld := hB3
          refine wpAnyH_take (i := 12) (oi := ⟨some 19, .assign (.tmp 118), 39, _, #[⟨9, .data⟩, ⟨11, .chain⟩, ⟨0, .phase⟩, ⟨1, .phase⟩, ⟨2, .phase⟩, ⟨3, .phase⟩, ⟨4, .phase⟩, ⟨5, .phase⟩, ⟨6, .phase⟩, ⟨7, .phase⟩, ⟨8, .phase⟩, ⟨9, .phase⟩, ⟨10, .phase⟩, ⟨11, .phase⟩], none⟩) (v := .int .i64 0) rfl (by kernel_rfl) (by kernel_rfl) (by kernel_rfl) (fun _ _ _ h => h) (Or.inl ⟨by rfl, fun w' hw' => ?_⟩) hHeld ?_
          · first | (go_simp; done) | (go_simp; rfl)
          try simp only [Act.put, qT, q0, qS]
          refine wpAnyH_done (by kernel_rfl) ?_ _
          clear hHeld hB1 hB2
          have hQ := hB3
          clear hB3
          generalize (Y.alloc (.cells ZL.toArray 24 (0, 0))).setRow Y.heap.size A1.toArray = Q at *
          generalize Y.heap.size = xb at *
          have HBZ : Hid (Below w.heap.size w Q) := hQ.b
          have HXA : Hid (Q.rangeAt xb 0 A1) := hXA
          have HDA : Hid (Q.rangeAt db 0 A1) := RS.at (t := 24) hQ.r (by simp)
          clear hQ hXA
          go_wp2_with fail
          refine Calls.mono (num_any 0 Q) ?_
          rintro e w' ⟨rfl, rfl⟩
          go_wp2_with fail
          refine Calls.mono (num_any 0 Q) ?_
          rintro e w' ⟨rfl, rfl⟩
          have heq := HT1.out.eq
          go_wp2_with (first
            | (refine R5.load_mid_g (by rfl) 24 _ rfl xb 0 rfl A1 _ HXA.out Tryz.underlying24 rfl HAI.out ?_)
            | (refine R5.load_mid_g (by rfl) 24 _ rfl db 0 rfl A1 _ HDA.out Tryz.underlying24 rfl HAI.out ?_)
            | (go_at_call 5; fail))
          refine Calls.mono (HKN.out Q) ?_
          rintro e Q2 ⟨rfl, hbK⟩
          have HB9 : Hid (Below w.heap.size w Q2) := HBZ.out.trans (hbK.mono HBZ.out.size)
          clear hbK heq
          go_wp2
          go_ret
          exact ⟨rfl, HB9.out⟩
        · have hT1 := HT4.out.newrow0 ZL.toArray 24
          have hB1 : RB w ((fb, FL.toArray, 24) :: (db, A1.toArray, 24) :: RW) (P.alloc (.cells ZL.toArray 24 (0, 0))) := ⟨fun r hr => hT1.rs r (List.mem_cons_of_mem _ hr), hT1.bel⟩
          have HNE : Hid (∀ r ∈ (fb, FL.toArray, 24) :: (db, A1.toArray, 24) :: RW, r.1 ≠ P.heap.size) := fun r hr e => by have := PC.row_lt (HT4.out.rs r hr); omega
          have HLOW : Hid (w.heap.size ≤ P.heap.size) := HT4.out.bel.size
          have HTP : Hid _ := hT1
          clear hT1
          go_wp2_with fail
          clear hHeld
          refine hK.out _ _ hB1 (fun _ => ?_)
          clear hK K
          try simp only [Act.put, qT, q0, qS]
          have hHeld := hB1
          refine wpAnyH_ready (rs := [6]) (by kernel_rfl) (by simp) ?_
          refine AllReadyH.cons (o := { dst := some 116, op := .call { callee := Go.Callee.value (.func 7), args := #[.tmp 110, .tmp 111, .tmp 115], argTypes := #[35, 24, 33] }, type := 40, pos := _, after := #[⟨0, .data⟩, ⟨1, .data⟩, ⟨5, .data⟩], guard := none }) rfl (fun K hK => ?_) AllReadyH.nil
          rw [if_pos (by rfl)]
          go_wp2_with fail
          refine Calls.mono (HNX.out og mb rg _ _ HTP.out) ?_
          rintro e Y ⟨rfl, hT⟩
          have hB2 : RB w ((fb, FL.toArray, 24) :: (db, A1.toArray, 24) :: RW) Y := ⟨fun r hr => hT.rs r (List.mem_cons_of_mem _ hr), hT.bel⟩
          have hx0 : Y.heap[P.heap.size]? = some (.cells ZL.toArray 24 (0, 0)) := hT.rs _ (List.mem_cons_self)
          have hB3 := hB2.put P.heap.size A1.toArray HLOW.out HNE.out
          have hXA : (Y.setRow P.heap.size A1.toArray).rangeAt P.heap.size 0 A1 := PC.rangeAt_row (setRow_heap _ _ _ _ _ _ hx0)
          clear hT hHeld HTP
          refine hK.out _ _ hB2 (fun _ => ?_)
          clear hK K
          try simp only [Act.put, qT, q0, qS]
          have hHeld := hB2
          refine wpAnyH_take (i := 7) (oi := ⟨some 109, .move (.tmp 116), 40, _, #[⟨6, .data⟩], none⟩) (v := .tuple #[.agg A1.toArray, .int .i64 0]) rfl (by kernel_rfl) (by kernel_rfl) (by kernel_rfl) (fun _ _ _ h => h) (Or.inl ⟨by rfl, fun w' hw' => ?_⟩) hHeld ?_
          · first | (go_simp; done) | (go_simp; rfl)
          try simp only [Act.put, qT, q0, qS]
          refine wpAnyH_take (i := 8) (oi := ⟨some 117, .extract (.tmp 109) 0, 24, _, #[⟨7, .data⟩], none⟩) (v := .agg A1.toArray) rfl (by kernel_rfl) (by kernel_rfl) (by kernel_rfl) (fun _ _ _ h => h) (Or.inl ⟨by rfl, fun w' hw' => ?_⟩) hHeld ?_
          · first | (go_simp; done) | (go_simp; rfl)
          try simp only [Act.put, qT, q0, qS]
          refine wpAnyH_take (i := 9) (oi := { dst := some 118, op := .extract (.tmp 109) 1, type := 39, pos := _, after := #[⟨7, .data⟩, { on := 11, ground := .gcOnly Go.Departure.lateStores }], guard := none }) (v := .int .i64 0) rfl (by kernel_rfl) (by kernel_rfl) (by kernel_rfl) (fun _ _ _ h => h) (Or.inl ⟨by rfl, fun w' hw' => ?_⟩) hHeld ?_
          · first | (go_simp; done) | (go_simp; rfl)
          try simp only [Act.put, qT, q0, qS]
          refine wpAnyH_ready (rs := [11]) (by kernel_rfl) (by simp) ?_
          refine AllReadyH.cons (o := { dst := none, op := .store 24 (.tmp 18) (.tmp 117), type := 0, pos := _, after := #[⟨10, .data⟩, ⟨8, .data⟩, ⟨6, .chain⟩, ⟨0, .phase⟩, ⟨1, .phase⟩, ⟨2, .phase⟩, ⟨3, .phase⟩, ⟨4, .phase⟩, ⟨5, .phase⟩, ⟨6, .phase⟩, ⟨7, .phase⟩, ⟨8, .phase⟩, { on := 9, ground := .textOnly Go.Departure.lateStores }, ⟨10, .phase⟩], guard := none }) rfl (fun K hK => ?_) AllReadyH.nil
          rw [if_pos (by rfl)]
          refine wp_store_row 24 _ _ rfl P.heap.size A1.toArray rfl rfl 24 ZL.toArray hx0 (R5.info32a _ HAS.out) (HZS.out.trans HAS.out.symm) HA1.out ?_
          refine hK.out _ _ hB3 (fun _ => ?_)
          clear hK K
          try simp only [Act.put, qT, q0, qS]
          have hHeld := hB3
          refine wpAnyH_take (i := 12) (oi := ⟨some 19, .assign (.tmp 118), 39, _, #[⟨9, .data⟩, ⟨11, .chain⟩, ⟨0, .phase⟩, ⟨1, .phase⟩, ⟨2, .phase⟩, ⟨3, .phase⟩, ⟨4, .phase⟩, ⟨5, .phase⟩, ⟨6, .phase⟩, ⟨7, .phase⟩, ⟨8, .phase⟩, ⟨9, .phase⟩, ⟨10, .phase⟩, ⟨11, .phase⟩], none⟩) (v := .int .i64 0) rfl (by kernel_rfl) (by kernel_rfl) (by kernel_rfl) (fun _ _ _ h => h) (Or.inl ⟨by rfl, fun w' hw' => ?_⟩) hHeld ?_
          · first | (go_simp; done) | (go_simp; rfl)
          try simp only [Act.put, qT, q0, qS]
          refine wpAnyH_done (by kernel_rfl) ?_ _
          clear hHeld hB1 hB2 hx0
          have hQ := hB3
          clear hB3
          generalize P.heap.size = xb at *
          generalize Y.setRow xb A1.toArray = Q at *
          have HBZ : Hid (Below w.heap.size w Q) := hQ.b
          have HXA : Hid (Q.rangeAt xb 0 A1) := hXA
          have HDA : Hid (Q.rangeAt db 0 A1) := RS.at (t := 24) hQ.r (by simp)
          clear hQ hXA
          go_wp2_with fail
          refine Calls.mono (num_any 0 Q) ?_
          rintro e w' ⟨rfl, rfl⟩
          go_wp2_with fail
          refine Calls.mono (num_any 0 Q) ?_
          rintro e w' ⟨rfl, rfl⟩
          have heq := HT1.out.eq
          go_wp2_with (first
            | (refine R5.load_mid_g (by rfl) 24 _ rfl xb 0 rfl A1 _ HXA.out Tryz.underlying24 rfl HAI.out ?_)
            | (refine R5.load_mid_g (by rfl) 24 _ rfl db 0 rfl A1 _ HDA.out Tryz.underlying24 rfl HAI.out ?_)
            | (go_at_call 5; fail))
          refine Calls.mono (HKN.out Q) ?_
          rintro e Q2 ⟨rfl, hbK⟩
          have HB9 : Hid (Below w.heap.size w Q2) := HBZ.out.trans (hbK.mono HBZ.out.size)
          clear hbK heq
          go_wp2
          go_ret
          exact ⟨rfl, HB9.out⟩
    · go_wp2_with fail
      refine hK.out _ _ hHeld (fun _ => ?_)
      clear hK K
      try simp only [Act.put, qT, q0, qS]
      refine wpAnyH_ready (rs := [12]) (by kernel_rfl) (by simp) ?_
      refine AllReadyH.cons (o := { dst := some 87, op := .call { callee := Go.Callee.value (.func 11), args := #[.tmp 86], argTypes := #[35] }, type := 44, pos := _, after := #[⟨11, .data⟩, ⟨10, .chain⟩, ⟨10, .guard⟩], guard := some (10, false) }) rfl (fun K hK => ?_) AllReadyH.nil
      rw [if_pos (by rfl)]
      go_wp2_with fail
      refine Calls.mono (HTG.out.log HN1.out) ?_
      rintro e F1 ⟨vl, rfl, hv1, hbF⟩
      have HTF : Hid _ := HTG.out.step hbF
      have hRF := HTF.out.rs
      have hcl1 : F1.cell? ⟨rg, 35, none⟩ = some (.slice pl L1.length cl) := (hbF.cell (block_lt hcl)).trans hcl
      have HSL : Hid (Calls Tryz.prog 13 #[vl, .slice pl L1.length cl] F1 fun e w' => e = .returned (.bool true) ∧ Below F1.heap.size F1 w') := slog_same vl _ L1 F1 HN1.out hv1 (R5.hlr_below HLR.out hbF)
      clear hv1 hbF hHeld
      refine hK.out _ _ hRF (fun _ => ?_)
      clear hK K
      try simp only [Act.put, qT, q0, qS]
      have hHeld := hRF
      refine wpAnyH_ready (rs := [17]) (by kernel_rfl) (by simp) ?_
      refine AllReadyH.cons (o := { dst := some 92, op := .call { callee := Go.Callee.value (.func 13), args := #[.tmp 87, .tmp 91], argTypes := #[44, 44] }, type := 4, pos := _, after := #[⟨12, .data⟩, ⟨16, .data⟩, ⟨12, .chain⟩, ⟨10, .guard⟩], guard := some (10, false) }) rfl (fun K hK => ?_) AllReadyH.nil
      rw [if_pos (by rfl)]
      go_wp2_with fail
      refine Calls.mono HSL.out ?_
      rintro e F2 ⟨rfl, hbG⟩
      have HT2 : Hid (TW w og mb rg i m D L1 L1 ((db, A1.toArray, 24) :: RW) F2) := HTF.out.step hbG
      have hR2 := HT2.out.rs
      clear hbG HSL hHeld
      refine hK.out _ _ hR2 (fun _ => ?_)
      clear hK K
      try simp only [Act.put, qT, q0, qS]
      have hHeld := hR2
      refine wpAnyH_take (i := 18) (oi := ⟨some 93, .unOp .not 4 (.tmp 92), 4, _, #[⟨17, .data⟩, ⟨10, .guard⟩], some (10, false)⟩) (v := .bool false) rfl (by kernel_rfl) (by kernel_rfl) (by kernel_rfl) (fun _ _ _ h => h) (Or.inl ⟨by rfl, fun w' hw' => ?_⟩) hHeld ?_
      · first | (go_simp; done) | (go_simp; rfl)
      try simp only [Act.put, qT, q0, qS]
      refine wpAnyH_take (i := 19) (oi := ⟨some 94, .pick (.tmp 85) (.const (Go.Value.bool true)) (.tmp 93), 4, _, #[⟨10, .data⟩, ⟨18, .data⟩], none⟩) (v := .bool false) rfl (by kernel_rfl) (by kernel_rfl) (by kernel_rfl) (fun _ _ _ h => h) (Or.inl ⟨by rfl, fun w' hw' => ?_⟩) hHeld ?_
      · first | (go_simp; done) | (go_simp; rfl)
      try simp only [Act.put, qT, q0, qS]
      refine wpAnyH_done (by kernel_rfl) ?_ _
      clear hHeld hR2 HTF hcl hcl1 hne
      by_cases hN0 : N = 0
      · subst hN0
        go_wp2_with fail
        refine Calls.mono (HKN.out F2) ?_
        rintro e Q2 ⟨rfl, hbK⟩
        have HB9 : Hid (Below w.heap.size w Q2) := HT2.out.bel.trans (hbK.mono HT2.out.bel.size)
        clear hbK
        go_wp2
        go_ret
        exact ⟨rfl, HB9.out⟩
      · have hNz : ((N : Int) == 0) = false := by rw [beq_eq_false_iff_ne]; omega
        obtain ⟨h1, h2⟩ := HLB.out (by omega)
        have HCP : Hid _ := h1 og mb rg _ F2 HT2.out
        have HNX : Hid (∀ og mb rg rows X, TW w og mb rg i m D L1 L1 rows X → Calls Tryz.prog 7 #[.pointer (some ⟨og, 0, none⟩), .agg FL.toArray, .agg RL.toArray] X fun x Y => x = .returned (.tuple #[.agg A1.toArray, .int .i64 0]) ∧ TW w og mb rg i m D L1 L1 rows Y) := h2
        clear h1 h2
        go_wp2_with fail
        refine Calls.mono HCP.out ?_
        rintro e F4 ⟨rfl, hT⟩
        have HT4 : Hid (TW w og mb rg i m D L1 L1 ((F4.heap.size, FL.toArray, 24) :: (db, A1.toArray, 24) :: RW) ((F4.alloc (.cells ZL.toArray 24 (0, 0))).setRow F4.heap.size FL.toArray).drew) := (hT.newrow _ _ _).step (Below.refl _ _).drew
        have HRB : Hid (RB w ((F4.heap.size, FL.toArray, 24) :: (db, A1.toArray, 24) :: RW) ((F4.alloc (.cells ZL.toArray 24 (0, 0))).setRow F4.heap.size FL.toArray).drew) := HT4.out.rb
        have HZ4 : Hid ((F4.alloc (.cells ZL.toArray 24 (0, 0))).heap[F4.heap.size]? = some (.cells ZL.toArray 24 (0, 0))) := heap_alloc_new _ _
        clear hT HCP HT2
        go_wp2_with (refine wpList_store_row rfl 24 _ _ rfl F4.heap.size FL.toArray rfl rfl 24 ZL.toArray HZ4.out (R5.info32a _ HFS.out) (HZS.out.trans HFS.out.symm) HF1.out ?_)
        refine wp_region_held_drew (S := RB w ((F4.heap.size, FL.toArray, 24) :: (db, A1.toArray, 24) :: RW)) (by kernel_rfl) HRB.out (fun hHeld => ?_)
        clear HZ4 HRB
        generalize ((F4.alloc (.cells ZL.toArray 24 (0, 0))).setRow F4.heap.size FL.toArray).drew = P at *
        generalize F4.heap.size = fb at *
        refine wpAnyH_take (i := 0) (oi := ⟨some 110, .move (.tmp 11), 35, _, #[], none⟩) (v := .pointer (some ⟨og, 0, none⟩)) rfl (by kernel_rfl) (by kernel_rfl) (by kernel_rfl) (fun _ _ _ h => h) (Or.inl ⟨by rfl, fun w' hw' => ?_⟩) hHeld ?_
        · first | (go_simp; done) | (go_simp; rfl)
        try simp only [Act.put, qT, q0, qS]
        refine wpAnyH_take (i := 1) (oi := ⟨some 111, .load 24 (.tmp 16), 24, _, #[], none⟩) rfl (by kernel_rfl) (by kernel_rfl) (by kernel_rfl) (fun _ _ _ h => h) (yieldsIf_load_mid (by rfl) 24 (.tmp 16) rfl (fb) (0) rfl (FL) _ (fun _ h => RS.at (t := 24) h.r (by simp)) Tryz.underlying24 rfl HFI.out) hHeld ?_
        try simp only [Act.put, qT, q0, qS]
        refine wpAnyH_take (i := 2) (oi := ⟨some 112, .move (.tmp 3), 51, _, #[], none⟩) (v := .slice (some ⟨b, o, none⟩) (N + 1) c3) rfl (by kernel_rfl) (by kernel_rfl) (by kernel_rfl) (fun _ _ _ h => h) (Or.inl ⟨by rfl, fun w' hw' => ?_⟩) hHeld ?_
        · first | (go_simp; done) | (go_simp; rfl)
        try simp only [Act.put, qT, q0, qS]
        refine wpAnyH_take (i := 3) (oi := ⟨some 113, .move (.tmp 15), 3, _, #[], none⟩) (v := .int .i64 (N : Int)) rfl (by kernel_rfl) (by kernel_rfl) (by kernel_rfl) (fun _ _ _ h => h) (Or.inl ⟨by rfl, fun w' hw' => ?_⟩) hHeld ?_
        · first | (go_simp; done) | (go_simp; rfl)
        try simp only [Act.put, qT, q0, qS]
        refine wpAnyH_take (i := 4) (oi := ⟨some 114, .indexAddr 51 (.tmp 112) (.tmp 113), 0, _, #[⟨2, .data⟩, ⟨3, .data⟩], none⟩) (v := .pointer (some ⟨b, o + N * 172, none⟩)) rfl (by kernel_rfl) (by kernel_rfl) (by kernel_rfl) (fun _ _ _ h => h) (Or.inl ⟨by rfl, fun w' hw' => ?_⟩) hHeld ?_
        · have hnn : ¬ ((N : Int) + 1 ≤ (N : Int)) := (by omega); first | (go_simp; done) | (go_simp; rfl) | (go_simp; intro h; exact absurd h hnn)
        try simp only [Act.put, qT, q0, qS]
        refine wpAnyH_take (i := 5) (oi := ⟨some 115, .load 33 (.tmp 114), 33, _, #[⟨4, .data⟩], none⟩) rfl (by kernel_rfl) (by kernel_rfl) (by kernel_rfl) (fun _ _ _ h => h) (yieldsIf_load_mid (by rfl) 33 (.tmp 114) rfl (b) (o + N * 172) rfl (RL) _ (fun _ h => PC.rangeAt_below HRG.out h.b) Tryz.underlying33 rfl HRI.out) hHeld ?_
        try simp only [Act.put, qT, q0, qS]
        refine wpAnyH_ready (rs := [6, 10]) (by kernel_rfl) (by simp) ?_
        refine AllReadyH.cons (o := { dst := some 116, op := .call { callee := Go.Callee.value (.func 7), args := #[.tmp 110, .tmp 111, .tmp 115], argTypes := #[35, 24, 33] }, type := 40, pos := _, after := #[⟨0, .data⟩, ⟨1, .data⟩, ⟨5, .data⟩], guard := none }) rfl (fun K hK => ?_) (AllReadyH.cons (o := ⟨some 18, .alloc 24, 0, _, #[], none⟩) rfl (fun K hK => ?_) AllReadyH.nil)
        all_goals rw [if_pos (by rfl)]
        · go_wp2_with fail
          refine Calls.mono (HNX.out og mb rg _ P HT4.out) ?_
          rintro e Y ⟨rfl, hT⟩
          have hB1 := hT.rb
          have hB2 : RB w ((fb, FL.toArray, 24) :: (db, A1.toArray, 24) :: RW) (Y.alloc (.cells ZL.toArray 24 (0, 0))) := (hT.step ((Below.refl _ _).alloc (Nat.le_refl _) _)).rb
          have hT3 := hT.newrow ZL.toArray A1.toArray 24
          have hB3 : RB w ((fb, FL.toArray, 24) :: (db, A1.toArray, 24) :: RW) ((Y.alloc (.cells ZL.toArray 24 (0, 0))).setRow Y.heap.size A1.toArray) := ⟨fun r hr => hT3.rs r (List.mem_cons_of_mem _ hr), hT3.bel⟩
          have hXA : ((Y.alloc (.cells ZL.toArray 24 (0, 0))).setRow Y.heap.size A1.toArray).rangeAt Y.heap.size 0 A1 := RS.at (t := 24) hT3.rs (by simp)
          clear hT hT3 hHeld
          refine hK.out _ _ hB1 (fun _ => ?_)
          clear hK K
          try simp only [Act.put, qT, q0, qS]
          have hHeld := hB1
          refine wpAnyH_take (i := 7) (oi := ⟨some 109, .move (.tmp 116), 40, _, #[⟨6, .data⟩], none⟩) (v := .tuple #[.agg A1.toArray, .int .i64 0]) rfl (by kernel_rfl) (by kernel_rfl) (by kernel_rfl) (fun _ _ _ h => h) (Or.inl ⟨by rfl, fun w' hw' => ?_⟩) hHeld ?_
          · first | (go_simp; done) | (go_simp; rfl)
          try simp only [Act.put, qT, q0, qS]
          refine wpAnyH_take (i := 8) (oi := ⟨some 117, .extract (.tmp 109) 0, 24, _, #[⟨7, .data⟩], none⟩) (v := .agg A1.toArray) rfl (by kernel_rfl) (by kernel_rfl) (by kernel_rfl) (fun _ _ _ h => h) (Or.inl ⟨by rfl, fun w' hw' => ?_⟩) hHeld ?_
          · first | (go_simp; done) | (go_simp; rfl)
          try simp only [Act.put, qT, q0, qS]
          refine wpAnyH_take (i := 9) (oi := { dst := some 118, op := .extract (.tmp 109) 1, type := 39, pos := _, after := #[⟨7, .data⟩, { on := 11, ground := .gcOnly Go.Departure.lateStores }], guard := none }) (v := .int .i64 0) rfl (by kernel_rfl) (by kernel_rfl) (by kernel_rfl) (fun _ _ _ h => h) (Or.inl ⟨by rfl, fun w' hw' => ?_⟩) hHeld ?_
          · first | (go_simp; done) | (go_simp; rfl)
          try simp only [Act.put, qT, q0, qS]
          refine wpAnyH_ready (rs := [10]) (by kernel_rfl) (by simp) ?_
          refine AllReadyH.cons (o := ⟨some 18, .alloc 24, 0, _, #[], none⟩) rfl (fun K hK => ?_) AllReadyH.nil
          rw [if_pos (by rfl)]
          go_wp2_with fail
          refine hK.out _ _ hB2 (fun _ => ?_)
          clear hK K
          try simp only [Act.put, qT, q0, qS]
          have hHeld := hB2
          refine wpAnyH_ready (rs := [11]) (by kernel_rfl) (by simp) ?_
          refine AllReadyH.cons (o := { dst := none, op := .store 24 (.tmp 18) (.tmp 117), type := 0, pos := _, after := #[⟨10, .data⟩, ⟨8, .data⟩, ⟨6, .chain⟩, ⟨0, .phase⟩, ⟨1, .phase⟩, ⟨2, .phase⟩, ⟨3, .phase⟩, ⟨4, .phase⟩, ⟨5, .phase⟩, ⟨6, .phase⟩, ⟨7, .phase⟩, ⟨8, .phase⟩, { on := 9, ground := .textOnly Go.Departure.lateStores }, ⟨10, .phase⟩], guard := none }) rfl (fun K hK => ?_) AllReadyH.nil
          rw [if_pos (by rfl)]
          refine wp_store_row 24 _ _ rfl Y.heap.size A1.toArray rfl rfl 24 ZL.toArray (heap_alloc_new _ _) (R5.info32a _ HAS.out) (HZS.out.trans HAS.out.symm) HA1.out ?_
          refine hK.out _ _ hB3 (fun _ => ?_)
          clear hK K
          try simp only [Act.put, qT, q0, qS]
          have hHeld := hB3
          refine wpAnyH_take (i := 12) (oi := ⟨some 19, .assign (.tmp 118), 39, _, #[⟨9, .data⟩, ⟨11, .chain⟩, ⟨0, .phase⟩, ⟨1, .phase⟩, ⟨2, .phase⟩, ⟨3, .phase⟩, ⟨4, .phase⟩, ⟨5, .phase⟩, ⟨6, .phase⟩, ⟨7, .phase⟩, ⟨8, .phase⟩, ⟨9, .phase⟩, ⟨10, .phase⟩, ⟨11, .phase⟩], none⟩) (v := .int .i64 0) rfl (by kernel_rfl) (by kernel_rfl) (by kernel_rfl) (fun _ _ _ h => h) (Or.inl ⟨by rfl, fun w' hw' => ?_⟩) hHeld ?_
          · first | (go_simp; done) | (go_simp; rfl)
          try simp only [Act.put, qT, q0, qS]
          refine wpAnyH_done (by kernel_rfl) ?_ _
          clear hHeld hB1 hB2
          have hQ := hB3
          clear hB3
          generalize (Y.alloc (.cells ZL.toArray 24 (0, 0))).setRow Y.heap.size A1.toArray = Q at *
          generalize Y.heap.size = xb at *
          have HBZ : Hid (Below w.heap.size w Q) := hQ.b
          have HXA : Hid (Q.rangeAt xb 0 A1) := hXA
          have HDA : Hid (Q.rangeAt db 0 A1) := RS.at (t := 24) hQ.r (by simp)
          clear hQ hXA
          go_wp2_with fail
          refine Calls.mono (num_any 0 Q) ?_
          rintro e w' ⟨rfl, rfl⟩
          go_wp2_with fail
          refine Calls.mono (num_any 0 Q) ?_
          rintro e w' ⟨rfl, rfl⟩
          have heq := HT1.out.eq
          go_wp2_with (first
            | (refine R5.load_mid_g (by rfl) 24 _ rfl xb 0 rfl A1 _ HXA.out Tryz.underlying24 rfl HAI.out ?_)
            | (refine R5.load_mid_g (by rfl) 24 _ rfl db 0 rfl A1 _ HDA.out Tryz.underlying24 rfl HAI.out ?_)
            | (go_at_call 5; fail))
          refine Calls.mono (HKN.out Q) ?_
          rintro e Q2 ⟨rfl, hbK⟩
          have HB9 : Hid (Below w.heap.size w Q2) := HBZ.out.trans (hbK.mono HBZ.out.size)
          clear hbK heq
          go_wp2
          go_ret
          exact ⟨rfl, HB9.out⟩
        · have hT1 := HT4.out.newrow0 ZL.toArray 24
          have hB1 : RB w ((fb, FL.toArray, 24) :: (db, A1.toArray, 24) :: RW) (P.alloc (.cells ZL.toArray 24 (0, 0))) := ⟨fun r hr => hT1.rs r (List.mem_cons_of_mem _ hr), hT1.bel⟩
          have HNE : Hid (∀ r ∈ (fb, FL.toArray, 24) :: (db, A1.toArray, 24) :: RW, r.1 ≠ P.heap.size) := fun r hr e => by have := PC.row_lt (HT4.out.rs r hr); omega
          have HLOW : Hid (w.heap.size ≤ P.heap.size) := HT4.out.bel.size
          have HTP : Hid _ := hT1
          clear hT1
          go_wp2_with fail
          clear hHeld
          refine hK.out _ _ hB1 (fun _ => ?_)
          clear hK K
          try simp only [Act.put, qT, q0, qS]
          have hHeld := hB1
          refine wpAnyH_ready (rs := [6]) (by kernel_rfl) (by simp) ?_
          refine AllReadyH.cons (o := { dst := some 116, op := .call { callee := Go.Callee.value (.func 7), args := #[.tmp 110, .tmp 111, .tmp 115], argTypes := #[35, 24, 33] }, type := 40, pos := _, after := #[⟨0, .data⟩, ⟨1, .data⟩, ⟨5, .data⟩], guard := none }) rfl (fun K hK => ?_) AllReadyH.nil
          rw [if_pos (by rfl)]
          go_wp2_with fail
          refine Calls.mono (HNX.out og mb rg _ _ HTP.out) ?_
          rintro e Y ⟨rfl, hT⟩
          have hB2 : RB w ((fb, FL.toArray, 24) :: (db, A1.toArray, 24) :: RW) Y := ⟨fun r hr => hT.rs r (List.mem_cons_of_mem _ hr), hT.bel⟩
          have hx0 : Y.heap[P.heap.size]? = some (.cells ZL.toArray 24 (0, 0)) := hT.rs _ (List.mem_cons_self)
          have hB3 := hB2.put P.heap.size A1.toArray HLOW.out HNE.out
          have hXA : (Y.setRow P.heap.size A1.toArray).rangeAt P.heap.size 0 A1 := PC.rangeAt_row (setRow_heap _ _ _ _ _ _ hx0)
          clear hT hHeld HTP
          refine hK.out _ _ hB2 (fun _ => ?_)
          clear hK K
          try simp only [Act.put, qT, q0, qS]
          have hHeld := hB2
          refine wpAnyH_take (i := 7) (oi := ⟨some 109, .move (.tmp 116), 40, _, #[⟨6, .data⟩], none⟩) (v := .tuple #[.agg A1.toArray, .int .i64 0]) rfl (by kernel_rfl) (by kernel_rfl) (by kernel_rfl) (fun _ _ _ h => h) (Or.inl ⟨by rfl, fun w' hw' => ?_⟩) hHeld ?_
          · first | (go_simp; done) | (go_simp; rfl)
          try simp only [Act.put, qT, q0, qS]
          refine wpAnyH_take (i := 8) (oi := ⟨some 117, .extract (.tmp 109) 0, 24, _, #[⟨7, .data⟩], none⟩) (v := .agg A1.toArray) rfl (by kernel_rfl) (by kernel_rfl) (by kernel_rfl) (fun _ _ _ h => h) (Or.inl ⟨by rfl, fun w' hw' => ?_⟩) hHeld ?_
          · first | (go_simp; done) | (go_simp; rfl)
          try simp only [Act.put, qT, q0, qS]
          refine wpAnyH_take (i := 9) (oi := { dst := some 118, op := .extract (.tmp 109) 1, type := 39, pos := _, after := #[⟨7, .data⟩, { on := 11, ground := .gcOnly Go.Departure.lateStores }], guard := none }) (v := .int .i64 0) rfl (by kernel_rfl) (by kernel_rfl) (by kernel_rfl) (fun _ _ _ h => h) (Or.inl ⟨by rfl, fun w' hw' => ?_⟩) hHeld ?_
          · first | (go_simp; done) | (go_simp; rfl)
          try simp only [Act.put, qT, q0, qS]
          refine wpAnyH_ready (rs := [11]) (by kernel_rfl) (by simp) ?_
          refine AllReadyH.cons (o := { dst := none, op := .store 24 (.tmp 18) (.tmp 117), type := 0, pos := _, after := #[⟨10, .data⟩, ⟨8, .data⟩, ⟨6, .chain⟩, ⟨0, .phase⟩, ⟨1, .phase⟩, ⟨2, .phase⟩, ⟨3, .phase⟩, ⟨4, .phase⟩, ⟨5, .phase⟩, ⟨6, .phase⟩, ⟨7, .phase⟩, ⟨8, .phase⟩, { on := 9, ground := .textOnly Go.Departure.lateStores }, ⟨10, .phase⟩], guard := none }) rfl (fun K hK => ?_) AllReadyH.nil
          rw [if_pos (by rfl)]
          refine wp_store_row 24 _ _ rfl P.heap.size A1.toArray rfl rfl 24 ZL.toArray hx0 (R5.info32a _ HAS.out) (HZS.out.trans HAS.out.symm) HA1.out ?_
          refine hK.out _ _ hB3 (fun _ => ?_)
          clear hK K
          try simp only [Act.put, qT, q0, qS]
          have hHeld := hB3
          refine wpAnyH_take (i := 12) (oi := ⟨some 19, .assign (.tmp 118), 39, _, #[⟨9, .data⟩, ⟨11, .chain⟩, ⟨0, .phase⟩, ⟨1, .phase⟩, ⟨2, .phase⟩, ⟨3, .phase⟩, ⟨4, .phase⟩, ⟨5, .phase⟩, ⟨6, .phase⟩, ⟨7, .phase⟩, ⟨8, .phase⟩, ⟨9, .phase⟩, ⟨10, .phase⟩, ⟨11, .phase⟩], none⟩) (v := .int .i64 0) rfl (by kernel_rfl) (by kernel_rfl) (by kernel_rfl) (fun _ _ _ h => h) (Or.inl ⟨by rfl, fun w' hw' => ?_⟩) hHeld ?_
          · first | (go_simp; done) | (go_simp; rfl)
          try simp only [Act.put, qT, q0, qS]
          refine wpAnyH_done (by kernel_rfl) ?_ _
          clear hHeld hB1 hB2 hx0
          have hQ := hB3
          clear hB3
          generalize P.heap.size = xb at *
          generalize Y.setRow xb A1.toArray = Q at *
          have HBZ : Hid (Below w.heap.size w Q) := hQ.b
          have HXA : Hid (Q.rangeAt xb 0 A1) := hXA
          have HDA : Hid (Q.rangeAt db 0 A1) := RS.at (t := 24) hQ.r (by simp)
          clear hQ hXA
          go_wp2_with fail
          refine Calls.mono (num_any 0 Q) ?_
          rintro e w' ⟨rfl, rfl⟩
          go_wp2_with fail
          refine Calls.mono (num_any 0 Q) ?_
          rintro e w' ⟨rfl, rfl⟩
          have heq := HT1.out.eq
          go_wp2_with (first
            | (refine R5.load_mid_g (by rfl) 24 _ rfl xb 0 rfl A1 _ HXA.out Tryz.underlying24 rfl HAI.out ?_)
            | (refine R5.load_mid_g (by rfl) 24 _ rfl db 0 rfl A1 _ HDA.out Tryz.underlying24 rfl HAI.out ?_)
            | (go_at_call 5; fail))
          refine Calls.mono (HKN.out Q) ?_
          rintro e Q2 ⟨rfl, hbK⟩
          have HB9 : Hid (Below w.heap.size w Q2) := HBZ.out.trans (hbK.mono HBZ.out.size)
          clear hbK heq
          go_wp2
          go_ret
          exact ⟨rfl, HB9.out⟩
end Go.Proofs.YtpmknkagnkagpaaGreat.ZC
