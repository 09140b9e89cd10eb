/- BlobMeans: for any mode, key, pages, counters and granules the statement's function answers true. -/
import Derived.Test.YtbmmibmfjhehhaaBT
import Derived.Test.YtbmmibmfjhehhaaRows
import Derived.WalkKit
import Derived.ChangeOld
import Derived.ProofKit
import Derived.OpenShut
import Derived.Carry
set_option linter.unusedVariables false
set_option linter.unusedSimpArgs false
namespace Go.Proofs.Ytbmmibmfjhehhaa.blobMeans
open Go.ChangeShapes Go.WideShapes Go.ChangeAt Go.RowKit Go.Proofs.Ytbmmibmfjhehhaa.BC

abbrev rows0 (w : World) (ML KL GL HL : List Value) : Rws := [(w.heap.size + 1 + 1 + 1, 23, HL), (w.heap.size + 1 + 1, 23, GL), (w.heap.size + 1, 28, KL), (w.heap.size, 31, ML)]
set_option maxHeartbeats 8000000 in
set_option maxRecDepth 100000 in
theorem walk (c : Mo) (dv : Value) (key : List UInt8) (pg ct : Int) (g : List UInt8) (pg2 ct2 : Int) (hh : List UInt8) (w : World) (hc : c.ok dv w) (hk : key.length = 32) (wp : (Lit.int .i64 pg).wf = true) (wc : (Lit.int .u64 ct).wf = true) (hg : g.length = 128) (wp2 : (Lit.int .i64 pg2).wf = true) (wc2 : (Lit.int .u64 ct2).wf = true) (hh2 : hh.length = 128) :
    Calls Try.prog 4 #[.agg (moL c dv).toArray, .agg (key.map B8).toArray, .int .i64 pg, .int .u64 ct, .agg (g.map B8).toArray, .int .i64 pg2, .int .u64 ct2, .agg (hh.map B8).toArray] w fun e w' => e = .returned (.bool true) ∧ Below w.heap.size w w' := by
  have u1 : 0 ≤ ct := by simp [Lit.wf, IntKind.min, IntKind.max, IntKind.signed, IntKind.bits] at wc; omega
  have u2 : 0 ≤ ct2 := by simp [Lit.wf, IntKind.min, IntKind.max, IntKind.signed, IntKind.bits] at wc2; omega
  clear wp wc wp2 wc2
  have HKN : Hid (∀ W, Calls Try.prog 8 #[] W fun e w' => e = .returned (.bool true) ∧ Below W.heap.size W w') := known_any
  have hcm := hc.1
  have HT0 : Hid (RS w (rows0 w (moL c dv) (key.map B8) (g.map B8) (hh.map B8)) _) := ((((RS.start w).alloc w.heap.size rfl 31 (moL c dv)).alloc (w.heap.size + 1) (by simp) 28 (key.map B8)).alloc (w.heap.size + 1 + 1) (by simp) 23 (g.map B8)).alloc (w.heap.size + 1 + 1 + 1) (by simp) 23 (hh.map B8)
  have HCC : Hid (∀ W, RS w (rows0 w (moL c dv) (key.map B8) (g.map B8) (hh.map B8)) W → MoC w.heap.size c dv W) := fun W hW => MoC.of hcm (hW.at 3 rfl)
  obtain ⟨_, pd, capd, hde, _⟩ := id hc.2.1
  have HOK : Hid (c.ok dv w) := hc
  clear hc
  subst hde
  have HMI : Hid _ := infoMo (moL c (.slice pd c.D.length capd)) (moL_len c _ hcm)
  by_cases hA : 60 < c.D.length
  · have hAI : (60 : Int) < (c.D.length : Int) := by omega
    clear hA
    generalize moL c (.slice pd c.D.length capd) = MLL at *
    generalize g.map B8 = GL at *
    generalize hh.map B8 = HL at *
    generalize key.map B8 = KL at *
    go_enter Try.func4, Try.ntmps4
    go_upto_region 1 with fail
    generalize World.alloc _ _ = X0 at *
    go_wp2_with fail
    refine Calls.mono (HKN.out X0) ?_
    rintro e X1 ⟨rfl, hb⟩
    have HT1 : Hid _ := HT0.out.step hb
    clear hb HT0
    have k33 := (HCC.out X1 HT1.out).c33
    go_wp2
    go_ret
    exact ⟨rfl, HT1.out.bel⟩
  have hAI : ¬ (60 : Int) < (c.D.length : Int) := by omega
  cases hm1 : mayB pg ct with
  | false =>
    have HM1 : Hid (∀ W, Calls Try.prog 9 #[.int .i64 pg, .int .u64 ct] W fun e w' => e = .returned (.bool false) ∧ w' = W) := fun W => by have q := rmay_any pg ct W; rw [hm1] at q; exact q
    clear hA hm1
    generalize moL c (.slice pd c.D.length capd) = MLL at *
    generalize g.map B8 = GL at *
    generalize hh.map B8 = HL at *
    generalize key.map B8 = KL at *
    go_enter Try.func4, Try.ntmps4
    go_upto_region 1 with fail
    generalize World.alloc _ _ = X0 at *
    go_wp2_with fail
    refine Calls.mono (HKN.out X0) ?_
    rintro e X1 ⟨rfl, hb⟩
    have HT1 : Hid _ := HT0.out.step hb
    clear hb HT0
    have k33 := (HCC.out X1 HT1.out).c33
    go_wp2_with fail
    refine Calls.mono (HM1.out X1) ?_
    rintro e X2 ⟨rfl, h2⟩
    rw [h2]
    clear h2 X2
    go_wp2
    go_ret
    exact ⟨rfl, HT1.out.bel⟩
  | true =>
  have HM1 : Hid (∀ W, Calls Try.prog 9 #[.int .i64 pg, .int .u64 ct] W fun e w' => e = .returned (.bool true) ∧ w' = W) := fun W => by have q := rmay_any pg ct W; rw [hm1] at q; exact q
  cases hm2 : mayB pg2 ct2 with
  | false =>
    have HM2 : Hid (∀ W, Calls Try.prog 9 #[.int .i64 pg2, .int .u64 ct2] W fun e w' => e = .returned (.bool false) ∧ w' = W) := fun W => by have q := rmay_any pg2 ct2 W; rw [hm2] at q; exact q
    clear hA hm1 hm2
    generalize moL c (.slice pd c.D.length capd) = MLL at *
    generalize g.map B8 = GL at *
    generalize hh.map B8 = HL at *
    generalize key.map B8 = KL at *
    go_enter Try.func4, Try.ntmps4
    go_upto_region 1 with fail
    generalize World.alloc _ _ = X0 at *
    go_wp2_with fail
    refine Calls.mono (HKN.out X0) ?_
    rintro e X1 ⟨rfl, hb⟩
    have HT1 : Hid _ := HT0.out.step hb
    clear hb HT0
    have k33 := (HCC.out X1 HT1.out).c33
    go_wp2_with fail
    refine Calls.mono (HM1.out X1) ?_
    rintro e X2 ⟨rfl, h2⟩
    rw [h2]
    clear h2 X2
    go_wp2_with fail
    refine Calls.mono (HM2.out X1) ?_
    rintro e X2 ⟨rfl, h2⟩
    rw [h2]
    clear h2 X2
    go_wp2
    go_ret
    exact ⟨rfl, HT1.out.bel⟩
  | true =>
  have HM2 : Hid (∀ W, Calls Try.prog 9 #[.int .i64 pg2, .int .u64 ct2] W fun e w' => e = .returned (.bool true) ∧ w' = W) := fun W => by have q := rmay_any pg2 ct2 W; rw [hm2] at q; exact q
  obtain ⟨p, n, rfl, rfl, hp, hn⟩ := mayB_nat hm1 u1
  obtain ⟨p2, n2, rfl, rfl, hp2, hn2⟩ := mayB_nat hm2 u2
  have HNM : Hid (∀ n W, Calls Try.prog 15 #[.int .i64 n] W fun x w' => x = .returned (.int .i64 n) ∧ W = w') := num_any
  have HBOTH : Hid (∀ X rows, RS w rows X → Calls Try.prog 10 #[.agg (moL c (.slice pd c.D.length capd)).toArray] X fun e Y => BothEnd w c ((X.heap.size, 31, moL c (.slice pd c.D.length capd)) :: rows) e Y) := fun X rows hX => both_any w X c _ rows HOK.out hX (by omega)
  have HDS : Hid (∀ X, Below w.heap.size w X → Calls Try.prog 16 #[.slice pd c.D.length capd] X fun e w' => DsEnd c.D X e w') := fun X hX => distinct_any _ c.D X (by omega) (R5.hds_below HOK.out.2.1 hX)
  -- what is answered
  have hgl : gL c.D [] := gL.nil HOK.out.2.1.1
  obtain ⟨s, L1, hs⟩ : ∃ s L1, st2 c.i c.D [] ⟨4, key, 10, W1.le 8 p ++ W1.le 8 n⟩ = (s, L1) := ⟨_, _, rfl⟩
  have hst := st2_len (i := c.i) hgl (q := ⟨4, key, 10, W1.le 8 p ++ W1.le 8 n⟩) hk
  have hag := st2_again c.i c.D [] ⟨4, key, 10, W1.le 8 p ++ W1.le 8 n⟩
  have hll := st2_log c.i c.D [] ⟨4, key, 10, W1.le 8 p ++ W1.le 8 n⟩
  rw [hs] at hst hag hll
  simp only at hst hag hll
  obtain ⟨hsl, hg1⟩ := hst
  have hl1 : L1.length ≤ 4 := by simpa using hll
  obtain ⟨a, ha⟩ : ∃ a, a = mx g s := ⟨_, rfl⟩
  have hal : a.length = 128 := by rw [ha]; exact mx_len g s hg hsl
  have hback : mx a s = g := by rw [ha]; exact mx_back g s (hg.trans hsl.symm)
  obtain ⟨x, L3, h3⟩ : ∃ x L3, nx2 c.i c.D L1 (qLeaf p n a) = (x, L3) := ⟨_, _, rfl⟩
  obtain ⟨y, L4, h4⟩ : ∃ y L4, nx2 c.i c.D L3 (qLeaf p2 n2 hh) = (y, L4) := ⟨_, _, rfl⟩
  obtain ⟨z, L5, h5⟩ : ∃ z L5, nx2 c.i c.D L4 (qNone p2) = (z, L5) := ⟨_, _, rfl⟩
  have q3 := hg1.ok (i := c.i) (q := qLeaf p n a)
  rw [h3] at q3
  have q4 := q3.2.ok (i := c.i) (q := qLeaf p2 n2 hh)
  simp only at q4
  rw [h4] at q4
  have q5 := q4.2.ok (i := c.i) (q := qNone p2)
  simp only at q5
  rw [h5] at q5
  have l3 := nx2_len c.i c.D L1 (qLeaf p n a)
  have l4 := nx2_len c.i c.D L3 (qLeaf p2 n2 hh)
  rw [h3] at l3
  rw [h4] at l4
  simp only at q3 q4 q5 l3 l4
  have hxl : x.length = 32 := q3.1
  have hyl : y.length = 32 := q4.1
  have hzl : z.length = 32 := q5.1
  have HMEANS : Hid (c.i = true → dst c.D → (x == y) = (decide (p = p2) && decide (n = n2) && (a == hh)) ∧ (x == z) = false ∧ (y == z) = false) := fun hi hd => by
    rw [hi] at h3 h4 h5 hs
    refine means hd (L := L1) ?_ (by omega) hp hn hp2 hn2 h3 h4 h5
    have hq : ansOk c.D (st2 true c.D [] ⟨4, key, 10, W1.le 8 p ++ W1.le 8 n⟩).2 := by
      unfold st2
      rw [if_pos rfl]
      exact sxL_ans (fun i e he => by simp at he) _ 4
    rw [hs] at hq
    exact hq
  have HSEAL : Hid (∀ og mb rg rows X, TB w og mb rg c.i c.m c.D [] [] rows X → Calls Try.prog 11 #[.pointer (some ⟨og, 0, none⟩), .agg (key.map B8).toArray, .int .i64 (p : Int), .int .u64 (n : Int), .agg (g.map B8).toArray] X fun e Y => e = .returned (.tuple #[.agg (a.map B8).toArray, .int .i64 0]) ∧ TB w og mb rg c.i c.m c.D L1 [] rows Y) := fun og mb rg rows X hX => by
    have q := hX.pseal (by simp) key g p n hgl hk hg hp hn
    rw [hs, ← ha] at q
    exact q
  have HOPEN : Hid (∀ og mb rg rows X, TB w og mb rg c.i c.m c.D L1 [] rows X → Calls Try.prog 12 #[.pointer (some ⟨og, 0, none⟩), .agg (key.map B8).toArray, .int .i64 (p : Int), .int .u64 (n : Int), .agg (a.map B8).toArray] X fun e Y => e = .returned (.tuple #[.agg (g.map B8).toArray, .int .i64 0]) ∧ TB w og mb rg c.i c.m c.D L1 [] rows Y) := fun og mb rg rows X hX => by
    have q := hX.popen (by omega) key a p n hg1 hk hal hp hn
    rw [hag, hback] at q
    exact q
  have HLEAF1 : Hid (∀ og mb rg rows X, TB w og mb rg c.i c.m c.D L1 [] rows X → Calls Try.prog 13 #[.pointer (some ⟨og, 0, none⟩), .int .i64 (p : Int), .int .u64 (n : Int), .agg (a.map B8).toArray] X fun e Y => e = .returned (.tuple #[.agg (x.map B8).toArray, .int .i64 0]) ∧ TB w og mb rg c.i c.m c.D L3 [] rows Y) := fun og mb rg rows X hX => by
    have q := hX.pleaf (by omega) a p n hal hp hn
    rw [h3] at q
    exact q
  have HLEAF2 : Hid (∀ og mb rg rows X, TB w og mb rg c.i c.m c.D L3 [] rows X → Calls Try.prog 13 #[.pointer (some ⟨og, 0, none⟩), .int .i64 (p2 : Int), .int .u64 (n2 : Int), .agg (hh.map B8).toArray] X fun e Y => e = .returned (.tuple #[.agg (y.map B8).toArray, .int .i64 0]) ∧ TB w og mb rg c.i c.m c.D L4 [] rows Y) := fun og mb rg rows X hX => by
    have q := hX.pleaf (by omega) hh p2 n2 hh2 hp2 hn2
    rw [h4] at q
    exact q
  have HNONE : Hid (∀ og mb rg rows X, TB w og mb rg c.i c.m c.D L4 [] rows X → Calls Try.prog 14 #[.pointer (some ⟨og, 0, none⟩), .int .i64 (p2 : Int)] X fun e Y => e = .returned (.tuple #[.agg (z.map B8).toArray, .int .i64 0]) ∧ TB w og mb rg c.i c.m c.D L5 [] rows Y) := fun og mb rg rows X hX => by
    have q := hX.pnone (by omega) p2 hp2
    rw [h5] at q
    exact q
  have HGE : Hid (∀ W, (Op.equalIn 10000 23 (.agg (g.map B8).toArray) (.agg (g.map B8).toArray)).run Try.prog W = .ok true W) := fun W => eq_gr W g g hg hg true (beq_self_eq_true _)
  have HAH : Hid (∀ W, (Op.equalIn 10000 23 (.agg (a.map B8).toArray) (.agg (hh.map B8).toArray)).run Try.prog W = .ok (a == hh) W) := fun W => eq_gr W a hh hal hh2 _ rfl
  have HXY : Hid (∀ W, (Op.equalIn 10000 28 (.agg (x.map B8).toArray) (.agg (y.map B8).toArray)).run Try.prog W = .ok (x == y) W) := fun W => eq_dig W x y hxl hyl _ rfl
  have HXZ0 : Hid (∀ W, (Op.equalIn 10000 28 (.agg (x.map B8).toArray) (.agg (z.map B8).toArray)).run Try.prog W = .ok (x == z) W) := fun W => eq_dig W x z hxl hzl _ rfl
  have HYZ0 : Hid (∀ W, (Op.equalIn 10000 28 (.agg (y.map B8).toArray) (.agg (z.map B8).toArray)).run Try.prog W = .ok (y == z) W) := fun W => eq_dig W y z hyl hzl _ rfl
  have HAN : Hid ((a.map B8).length = 128) := by show _ = _; simpa using hal
  have HA1 : Hid _ := B8_onea a
  have HGN : Hid ((g.map B8).length = 128) := by show _ = _; simpa using hg
  have HG1 : Hid _ := B8_onea g
  have HHN : Hid ((hh.map B8).length = 128) := by show _ = _; simpa using hh2
  have HKL : Hid ((key.map B8).length = 32) := by show _ = _; simpa using hk
  have HXN : Hid ((x.map B8).length = 32) := by show _ = _; simpa using hxl
  have HYN : Hid ((y.map B8).length = 32) := by show _ = _; simpa using hyl
  have HZN : Hid ((z.map B8).length = 32) := by show _ = _; simpa using hzl
  have HX1 : Hid _ := B8_onea x
  have HY1 : Hid _ := B8_onea y
  have HZ1 : Hid _ := B8_onea z
  have hzg := fun W => zero_gr W
  have hzd := fun W => R5.zero_dig W
  obtain ⟨ZG, hZG⟩ : ∃ L, L = Z128.map B8 := ⟨_, rfl⟩
  obtain ⟨ZD, hZD⟩ : ∃ L, L = (List.replicate 32 (0 : UInt8)).map B8 := ⟨_, rfl⟩
  rw [← hZG] at hzg
  rw [← hZD] at hzd
  have HZGN : Hid (ZG.length = 128) := by show _ = _; rw [hZG]; simp [z128_len]
  have HZDN : Hid (ZD.length = 32) := by show _ = _; rw [hZD]; simp
  clear hZG hZD hA hm1 hm2 hp hn hp2 hn2 hgl hs hag hll hsl hg1 hl1 ha hal hback h3 h4 h5 q3 q4 q5 l3 l4 hxl hyl hzl hk hg hh2 hcm
  generalize moL c (.slice pd c.D.length capd) = MLL at *
  generalize g.map B8 = GL at *
  generalize hh.map B8 = HL at *
  generalize key.map B8 = KL at *
  generalize a.map B8 = AL at *
  generalize x.map B8 = XL at *
  generalize y.map B8 = YL at *
  generalize z.map B8 = ZZ at *
  generalize hXYb : (x == y) = bxy at *
  generalize hXZb : (x == z) = bxz at *
  generalize hYZb : (y == z) = byz at *
  generalize hAHb : (a == hh) = bah at *
  clear hXYb hXZb hYZb hAHb
  go_enter Try.func4, Try.ntmps4
  go_upto_region 1 with fail
  generalize World.alloc _ _ = X0 at *
  go_wp2_with fail
  refine Calls.mono (HKN.out X0) ?_
  rintro e X1 ⟨rfl, hb⟩
  have HT1 : Hid _ := HT0.out.step hb
  clear hb HT0
  have k33 := (HCC.out X1 HT1.out).c33
  go_wp2_with fail
  refine Calls.mono (HM1.out X1) ?_
  rintro e X2 ⟨rfl, h2⟩
  rw [h2]
  clear h2 X2
  go_wp2_with fail
  refine Calls.mono (HM2.out X1) ?_
  rintro e X2 ⟨rfl, h2⟩
  rw [h2]
  clear h2 X2
  clear k33
  go_wp2_with (refine wpList_load_mid rfl 31 (.tmp 8) rfl w.heap.size 0 rfl MLL _ (rangeAt_row (HT1.out.at 3 rfl)) Try.underlying31 rfl HMI.out ?_)
  refine Calls.mono (HBOTH.out X1 _ HT1.out) ?_
  rintro e X2 ⟨og, mb, rg, rfl, hTB⟩
  have HT2 : Hid (TB w og mb rg c.i c.m c.D [] [] (rows0 w MLL KL GL HL) X2) := hTB.drop
  clear hTB HT1
  go_wp2_with (first
    | (refine wpList_load_mid rfl 28 (.tmp 9) rfl (w.heap.size + 1) 0 rfl KL _ (rangeAt_row (HT2.out.rs.at 2 rfl)) Try.underlying28 rfl (R5.info32 KL HKL.out) ?_)
    | (refine wpList_load_mid rfl 23 (.tmp 12) rfl (w.heap.size + 1 + 1) 0 rfl GL _ (rangeAt_row (HT2.out.rs.at 1 rfl)) Try.underlying23 rfl (info128 GL HGN.out) ?_))
  refine Calls.mono (HSEAL.out _ _ _ _ _ HT2.out) ?_
  rintro e X3 ⟨rfl, hTB⟩
  have HT3 : Hid _ := hTB.alloc X3.heap.size rfl 23 ZG
  clear hTB HT2
  go_upto_region 7 with (refine R5.wpList_store_rowL rfl 23 _ _ rfl X3.heap.size AL.toArray rfl rfl 23 ZG.toArray (HT3.out.rs.at 0 rfl) (info128a AL HAN.out) (by simp [HAN.out, HZGN.out]) HA1.out ?_; intro X4 e4; have HT4 : Hid _ := HT3.out.put 0 rfl AL; rw [← e4] at HT4; clear e4)
  have HT5 : Hid (TB w og mb rg c.i c.m c.D L1 [] ((X3.heap.size, 23, AL) :: rows0 w MLL KL GL HL) X4) := HT4.out
  clear HT3 HT4
  generalize X3.heap.size = n19 at *
  go_wp2_with (first
    | (refine wpList_load_mid rfl 28 (.tmp 9) rfl (w.heap.size + 1) 0 rfl KL _ (rangeAt_row (HT5.out.rs.at 3 rfl)) Try.underlying28 rfl (R5.info32 KL HKL.out) ?_)
    | (refine wpList_load_mid rfl 23 (.tmp 19) rfl n19 0 rfl AL _ (rangeAt_row (HT5.out.rs.at 0 rfl)) Try.underlying23 rfl (info128 AL HAN.out) ?_))
  refine Calls.mono (HOPEN.out _ _ _ _ _ HT5.out) ?_
  rintro e X6 ⟨rfl, hTB⟩
  have HT6 : Hid _ := hTB.alloc X6.heap.size rfl 23 ZG
  clear hTB HT5
  go_upto_region 8 with (refine R5.wpList_store_rowL rfl 23 _ _ rfl X6.heap.size GL.toArray rfl rfl 23 ZG.toArray (HT6.out.rs.at 0 rfl) (info128a GL HGN.out) (by simp [HGN.out, HZGN.out]) HG1.out ?_; intro X7 e7; have HT7 : Hid _ := HT6.out.put 0 rfl GL; rw [← e7] at HT7; clear e7)
  have HT8 : Hid (TB w og mb rg c.i c.m c.D L1 [] ((X6.heap.size, 23, GL) :: (n19, 23, AL) :: rows0 w MLL KL GL HL) X7) := HT7.out
  clear HT6 HT7
  generalize X6.heap.size = n21 at *
  go_wp2_with (refine wpList_load_mid rfl 23 (.tmp 19) rfl n19 0 rfl AL _ (rangeAt_row (HT8.out.rs.at 1 rfl)) Try.underlying23 rfl (info128 AL HAN.out) ?_)
  refine Calls.mono (HLEAF1.out _ _ _ _ _ HT8.out) ?_
  rintro e X8 ⟨rfl, hTB⟩
  have HT9 : Hid _ := hTB.alloc X8.heap.size rfl 28 ZD
  clear hTB HT8
  go_upto_region 9 with (refine R5.wpList_store_rowL rfl 28 _ _ rfl X8.heap.size XL.toArray rfl rfl 28 ZD.toArray (HT9.out.rs.at 0 rfl) (R5.info32a _ (by simp [HXN.out])) (by simp [HXN.out, HZDN.out]) HX1.out ?_; intro X9 e9; have HTA : Hid _ := HT9.out.put 0 rfl XL; rw [← e9] at HTA; clear e9)
  have HTB : Hid (TB w og mb rg c.i c.m c.D L3 [] ((X8.heap.size, 28, XL) :: (n21, 23, GL) :: (n19, 23, AL) :: rows0 w MLL KL GL HL) X9) := HTA.out
  clear HT9 HTA
  generalize X8.heap.size = n23 at *
  go_wp2_with (refine wpList_load_mid rfl 23 (.tmp 15) rfl (w.heap.size + 1 + 1 + 1) 0 rfl HL _ (rangeAt_row (HTB.out.rs.at 3 rfl)) Try.underlying23 rfl (info128 HL HHN.out) ?_)
  refine Calls.mono (HLEAF2.out _ _ _ _ _ HTB.out) ?_
  rintro e XA ⟨rfl, hTB⟩
  have HTC : Hid _ := hTB.alloc XA.heap.size rfl 28 ZD
  clear hTB HTB
  go_upto_region 10 with (refine R5.wpList_store_rowL rfl 28 _ _ rfl XA.heap.size YL.toArray rfl rfl 28 ZD.toArray (HTC.out.rs.at 0 rfl) (R5.info32a _ (by simp [HYN.out])) (by simp [HYN.out, HZDN.out]) HY1.out ?_; intro XB eB; have HTD : Hid _ := HTC.out.put 0 rfl YL; rw [← eB] at HTD; clear eB)
  have HTE : Hid (TB w og mb rg c.i c.m c.D L4 [] ((XA.heap.size, 28, YL) :: (n23, 28, XL) :: (n21, 23, GL) :: (n19, 23, AL) :: rows0 w MLL KL GL HL) XB) := HTD.out
  clear HTC HTD
  generalize XA.heap.size = n25 at *
  go_wp2_with fail
  refine Calls.mono (HNONE.out _ _ _ _ _ HTE.out) ?_
  rintro e XC ⟨rfl, hTB⟩
  have HTF : Hid _ := hTB.alloc XC.heap.size rfl 28 ZD
  clear hTB HTE
  go_upto_region 11 with (refine R5.wpList_store_rowL rfl 28 _ _ rfl XC.heap.size ZZ.toArray rfl rfl 28 ZD.toArray (HTF.out.rs.at 0 rfl) (R5.info32a _ (by simp [HZN.out])) (by simp [HZN.out, HZDN.out]) HZ1.out ?_; intro XD eD; have HTG : Hid _ := HTF.out.put 0 rfl ZZ; rw [← eD] at HTG; clear eD)
  have HTH : Hid (RS w ((XC.heap.size, 28, ZZ) :: (n25, 28, YL) :: (n23, 28, XL) :: (n21, 23, GL) :: (n19, 23, AL) :: rows0 w MLL KL GL HL) XD) := HTG.out.rs
  clear HTF HTG
  generalize XC.heap.size = n27 at *
  go_wp2_with fail
  refine Calls.mono (HNM.out 0 XD) ?_
  rintro e W1 ⟨rfl, rfl⟩
  go_wp2_with fail
  refine Calls.mono (HNM.out 0 XD) ?_
  rintro e W1 ⟨rfl, rfl⟩
  go_wp2_with fail
  refine Calls.mono (HNM.out 0 XD) ?_
  rintro e W1 ⟨rfl, rfl⟩
  go_wp2_with fail
  refine Calls.mono (HNM.out 0 XD) ?_
  rintro e W1 ⟨rfl, rfl⟩
  go_wp2_with fail
  refine Calls.mono (HNM.out 0 XD) ?_
  rintro e W1 ⟨rfl, rfl⟩
  have heq := HGE.out XD
  go_upto_region 13 with (first
    | (refine R5.load_mid_g (by rfl) 23 (.tmp 21) rfl n21 0 rfl GL _ (rangeAt_row (HTH.out.at 3 rfl)) Try.underlying23 rfl (info128 GL HGN.out) ?_)
    | (refine R5.load_mid_g (by rfl) 23 (.tmp 12) rfl (w.heap.size + 1 + 1) 0 rfl GL _ (rangeAt_row (HTH.out.at 6 rfl)) Try.underlying23 rfl (info128 GL HGN.out) ?_))
  clear heq
  have HCX : Hid (MoC w.heap.size c (.slice pd c.D.length capd) XD) := HCC.out XD (RS.tail (RS.tail (RS.tail (RS.tail (RS.tail HTH.out)))))
  have k0 := HCX.out.c0
  have k33 := HCX.out.c33
  have HEND : Hid (Below w.heap.size w XD) := HTH.out.bel
  generalize c.i = ci at *
  cases ci with
  | false =>
    clear HMEANS
    go_wp2
    go_ret
    exact ⟨rfl, HEND.out⟩
  | true =>
    go_wp2_with fail
    refine Calls.mono (HDS.out XD HEND.out) ?_
    rintro e XE ⟨b, rfl, hd, hbE⟩
    have HTI : Hid _ := HTH.out.step hbE
    have HEND : Hid (Below w.heap.size w XE) := HTI.out.bel
    cases b with
    | false =>
      clear hd HMEANS
      go_wp2
      go_ret
      exact ⟨rfl, HEND.out⟩
    | true =>
      obtain ⟨m1, m2, m3⟩ := HMEANS.out (by trivial) (hd (by trivial))
      subst m2 m3
      have HXZ : Hid (∀ W, (Op.equalIn 10000 28 (.agg XL.toArray) (.agg ZZ.toArray)).run Try.prog W = .ok false W) := HXZ0.out
      have HYZ : Hid (∀ W, (Op.equalIn 10000 28 (.agg YL.toArray) (.agg ZZ.toArray)).run Try.prog W = .ok false W) := HYZ0.out
      clear hd HMEANS HTH hbE k0 k33 HCX HXZ0 HYZ0
      go_upto_region 15 with fail
      refine wp_region_held_drew (S := fun X => RS w ((n27, 28, ZZ) :: (n25, 28, YL) :: (n23, 28, XL) :: (n21, 23, GL) :: (n19, 23, AL) :: rows0 w MLL KL GL HL) X) (by kernel_rfl) (HTI.out.step (Below.refl _ _).drew) (fun hHeld => ?_)
      have HEND : Hid (Below w.heap.size w XE.drew) := hHeld.bel
      generalize World.drew _ = Y0 at *
      by_cases e1 : p = p2
      · have e1b : ((p : Int) == (p2 : Int)) = true := by rw [e1]; simp
        by_cases e2 : n = n2
        · have e2b : ((n : Int) == (n2 : Int)) = true := by rw [e2]; simp
          rw [decide_eq_true e1, decide_eq_true e2] at m1
          simp only [Bool.true_and] at m1
          subst m1
          clear e1 e2
          refine wpAnyH_take (i := 0) (oi := { dst := some 121, op := Go.Op.load 28 (Go.Operand.tmp 23), type := 28, pos := _, after := #[], guard := none }) rfl (by kernel_rfl) (by kernel_rfl) (by kernel_rfl) (fun _ _ _ h => h) (yieldsIf_load_mid (by rfl) 28 (.tmp 23) rfl (n23) (0) rfl (XL) _ (fun _ h => rangeAt_row (h.at 2 rfl)) Try.underlying28 rfl (R5.info32 XL HXN.out)) hHeld ?_
          try simp only [Act.put, List.setIfInBounds_toArray, List.set_cons_zero, List.set_cons_succ]
          refine wpAnyH_take (i := 1) (oi := { dst := some 122, op := Go.Op.load 28 (Go.Operand.tmp 25), type := 28, pos := _, after := #[], guard := none }) rfl (by kernel_rfl) (by kernel_rfl) (by kernel_rfl) (fun _ _ _ h => h) (yieldsIf_load_mid (by rfl) 28 (.tmp 25) rfl (n25) (0) rfl (YL) _ (fun _ h => rangeAt_row (h.at 1 rfl)) Try.underlying28 rfl (R5.info32 YL HYN.out)) hHeld ?_
          try simp only [Act.put, List.setIfInBounds_toArray, List.set_cons_zero, List.set_cons_succ]
          refine wpAnyH_take (i := 2) (oi := { dst := some 123, op := Go.Op.binOp Go.BinOp.eql 28 (Go.Operand.tmp 121) (Go.Operand.tmp 122) 28, type := 4, pos := _, after := #[{ on := 0, ground := Go.Ground.data }, { on := 1, ground := Go.Ground.data }], guard := none }) (v := .bool bxy) rfl (by kernel_rfl) (by kernel_rfl) (by kernel_rfl) (fun _ _ _ h => h) (Or.inl ⟨by rfl, fun w' hw' => ?_⟩) hHeld ?_
          · exact run_eql rfl rfl rfl gD (HXY.out w')
          try simp only [Act.put, List.setIfInBounds_toArray, List.set_cons_zero, List.set_cons_succ]
          refine wpAnyH_take (i := 3) (oi := { dst := some 124, op := Go.Op.move (Go.Operand.tmp 2), type := 3, pos := _, after := #[], guard := none }) (v := .int .i64 (p : Int)) rfl (by kernel_rfl) (by kernel_rfl) (by kernel_rfl) (fun _ _ _ h => h) (Or.inl ⟨by rfl, fun w' hw' => ?_⟩) hHeld ?_
          · first | (go_simp; done) | (go_simp; rfl)
          try simp only [Act.put, List.setIfInBounds_toArray, List.set_cons_zero, List.set_cons_succ]
          refine wpAnyH_take (i := 4) (oi := { dst := some 125, op := Go.Op.move (Go.Operand.tmp 5), type := 3, pos := _, after := #[], guard := none }) (v := .int .i64 (p2 : Int)) rfl (by kernel_rfl) (by kernel_rfl) (by kernel_rfl) (fun _ _ _ h => h) (Or.inl ⟨by rfl, fun w' hw' => ?_⟩) hHeld ?_
          · first | (go_simp; done) | (go_simp; rfl)
          try simp only [Act.put, List.setIfInBounds_toArray, List.set_cons_zero, List.set_cons_succ]
          refine wpAnyH_take (i := 5) (oi := { dst := some 126, op := Go.Op.binOp Go.BinOp.eql 3 (Go.Operand.tmp 124) (Go.Operand.tmp 125) 3, type := 4, pos := _, after := #[{ on := 3, ground := Go.Ground.data }, { on := 4, ground := Go.Ground.data }], guard := none }) (v := .bool true) rfl (by kernel_rfl) (by kernel_rfl) (by kernel_rfl) (fun _ _ _ h => h) (Or.inl ⟨by rfl, fun w' hw' => ?_⟩) hHeld ?_
          · first | (go_simp; done) | (go_simp; rfl)
          try simp only [Act.put, List.setIfInBounds_toArray, List.set_cons_zero, List.set_cons_succ]
          refine wpAnyH_take (i := 6) (oi := { dst := some 127, op := Go.Op.move (Go.Operand.tmp 126), type := 4, pos := _, after := #[{ on := 5, ground := Go.Ground.data }], guard := none }) (v := .bool true) rfl (by kernel_rfl) (by kernel_rfl) (by kernel_rfl) (fun _ _ _ h => h) (Or.inl ⟨by rfl, fun w' hw' => ?_⟩) hHeld ?_
          · first | (go_simp; done) | (go_simp; rfl)
          try simp only [Act.put, List.setIfInBounds_toArray, List.set_cons_zero, List.set_cons_succ]
          refine wpAnyH_take (i := 7) (oi := { dst := some 128, op := Go.Op.move (Go.Operand.tmp 3), type := 32, pos := _, after := #[{ on := 6, ground := Go.Ground.guard }], guard := some (6, true) }) (v := .int .u64 (n : Int)) rfl (by kernel_rfl) (by kernel_rfl) (by kernel_rfl) (fun _ _ _ h => h) (Or.inl ⟨by rfl, fun w' hw' => ?_⟩) hHeld ?_
          · first | (go_simp; done) | (go_simp; rfl)
          try simp only [Act.put, List.setIfInBounds_toArray, List.set_cons_zero, List.set_cons_succ]
          refine wpAnyH_take (i := 8) (oi := { dst := some 129, op := Go.Op.move (Go.Operand.tmp 6), type := 32, pos := _, after := #[{ on := 6, ground := Go.Ground.guard }], guard := some (6, true) }) (v := .int .u64 (n2 : Int)) rfl (by kernel_rfl) (by kernel_rfl) (by kernel_rfl) (fun _ _ _ h => h) (Or.inl ⟨by rfl, fun w' hw' => ?_⟩) hHeld ?_
          · first | (go_simp; done) | (go_simp; rfl)
          try simp only [Act.put, List.setIfInBounds_toArray, List.set_cons_zero, List.set_cons_succ]
          refine wpAnyH_take (i := 9) (oi := { dst := some 130, op := Go.Op.binOp Go.BinOp.eql 32 (Go.Operand.tmp 128) (Go.Operand.tmp 129) 32, type := 4, pos := _, after := #[{ on := 7, ground := Go.Ground.data }, { on := 8, ground := Go.Ground.data }, { on := 6, ground := Go.Ground.guard }], guard := some (6, true) }) (v := .bool true) rfl (by kernel_rfl) (by kernel_rfl) (by kernel_rfl) (fun _ _ _ h => h) (Or.inl ⟨by rfl, fun w' hw' => ?_⟩) hHeld ?_
          · first | (go_simp; done) | (go_simp; rfl)
          try simp only [Act.put, List.setIfInBounds_toArray, List.set_cons_zero, List.set_cons_succ]
          refine wpAnyH_take (i := 10) (oi := { dst := some 131, op := Go.Op.pick (Go.Operand.tmp 127) (Go.Operand.tmp 130) (Go.Operand.const (Go.Value.bool false)), type := 4, pos := _, after := #[{ on := 6, ground := Go.Ground.data }, { on := 9, ground := Go.Ground.data }], guard := none }) (v := .bool true) rfl (by kernel_rfl) (by kernel_rfl) (by kernel_rfl) (fun _ _ _ h => h) (Or.inl ⟨by rfl, fun w' hw' => ?_⟩) hHeld ?_
          · first | (go_simp; done) | (go_simp; rfl)
          try simp only [Act.put, List.setIfInBounds_toArray, List.set_cons_zero, List.set_cons_succ]
          refine wpAnyH_take (i := 11) (oi := { dst := some 132, op := Go.Op.move (Go.Operand.tmp 131), type := 4, pos := _, after := #[{ on := 10, ground := Go.Ground.data }, { on := 6, ground := Go.Ground.chain }], guard := none }) (v := .bool true) rfl (by kernel_rfl) (by kernel_rfl) (by kernel_rfl) (fun _ _ _ h => h) (Or.inl ⟨by rfl, fun w' hw' => ?_⟩) hHeld ?_
          · first | (go_simp; done) | (go_simp; rfl)
          try simp only [Act.put, List.setIfInBounds_toArray, List.set_cons_zero, List.set_cons_succ]
          refine wpAnyH_take (i := 12) (oi := { dst := some 133, op := Go.Op.load 23 (Go.Operand.tmp 19), type := 23, pos := _, after := #[{ on := 11, ground := Go.Ground.guard }], guard := some (11, true) }) rfl (by kernel_rfl) (by kernel_rfl) (by kernel_rfl) (fun _ _ _ h => h) (yieldsIf_load_mid (by rfl) 23 (.tmp 19) rfl (n19) (0) rfl (AL) _ (fun _ h => rangeAt_row (h.at 4 rfl)) Try.underlying23 rfl (info128 AL HAN.out)) hHeld ?_
          try simp only [Act.put, List.setIfInBounds_toArray, List.set_cons_zero, List.set_cons_succ]
          refine wpAnyH_take (i := 13) (oi := { dst := some 134, op := Go.Op.load 23 (Go.Operand.tmp 15), type := 23, pos := _, after := #[{ on := 11, ground := Go.Ground.guard }], guard := some (11, true) }) rfl (by kernel_rfl) (by kernel_rfl) (by kernel_rfl) (fun _ _ _ h => h) (yieldsIf_load_mid (by rfl) 23 (.tmp 15) rfl (w.heap.size + 1 + 1 + 1) (0) rfl (HL) _ (fun _ h => rangeAt_row (h.at 5 rfl)) Try.underlying23 rfl (info128 HL HHN.out)) hHeld ?_
          try simp only [Act.put, List.setIfInBounds_toArray, List.set_cons_zero, List.set_cons_succ]
          refine wpAnyH_take (i := 14) (oi := { dst := some 135, op := Go.Op.binOp Go.BinOp.eql 23 (Go.Operand.tmp 133) (Go.Operand.tmp 134) 23, type := 4, pos := _, after := #[{ on := 12, ground := Go.Ground.data }, { on := 13, ground := Go.Ground.data }, { on := 11, ground := Go.Ground.guard }], guard := some (11, true) }) (v := .bool bxy) rfl (by kernel_rfl) (by kernel_rfl) (by kernel_rfl) (fun _ _ _ h => h) (Or.inl ⟨by rfl, fun w' hw' => ?_⟩) hHeld ?_
          · exact run_eql rfl rfl rfl gG (HAH.out w')
          try simp only [Act.put, List.setIfInBounds_toArray, List.set_cons_zero, List.set_cons_succ]
          refine wpAnyH_take (i := 15) (oi := { dst := some 136, op := Go.Op.pick (Go.Operand.tmp 132) (Go.Operand.tmp 135) (Go.Operand.const (Go.Value.bool false)), type := 4, pos := _, after := #[{ on := 11, ground := Go.Ground.data }, { on := 14, ground := Go.Ground.data }], guard := none }) (v := .bool bxy) rfl (by kernel_rfl) (by kernel_rfl) (by kernel_rfl) (fun _ _ _ h => h) (Or.inl ⟨by rfl, fun w' hw' => ?_⟩) hHeld ?_
          · first | (go_simp; done) | (go_simp; rfl)
          try simp only [Act.put, List.setIfInBounds_toArray, List.set_cons_zero, List.set_cons_succ]
          refine wpAnyH_take (i := 16) (oi := { dst := some 137, op := Go.Op.binOp Go.BinOp.eql 4 (Go.Operand.tmp 123) (Go.Operand.tmp 136) 4, type := 4, pos := _, after := #[{ on := 2, ground := Go.Ground.data }, { on := 15, ground := Go.Ground.data }], guard := none }) (v := .bool true) rfl (by kernel_rfl) (by kernel_rfl) (by kernel_rfl) (fun _ _ _ h => h) (Or.inl ⟨by rfl, fun w' hw' => ?_⟩) hHeld ?_
          · cases bxy <;> first | (go_simp; done) | (go_simp; rfl)
          try simp only [Act.put, List.setIfInBounds_toArray, List.set_cons_zero, List.set_cons_succ]
          refine wpAnyH_take (i := 17) (oi := { dst := some 138, op := Go.Op.move (Go.Operand.tmp 137), type := 4, pos := _, after := #[{ on := 16, ground := Go.Ground.data }, { on := 11, ground := Go.Ground.chain }], guard := none }) (v := .bool true) rfl (by kernel_rfl) (by kernel_rfl) (by kernel_rfl) (fun _ _ _ h => h) (Or.inl ⟨by rfl, fun w' hw' => ?_⟩) hHeld ?_
          · first | (go_simp; done) | (go_simp; rfl)
          try simp only [Act.put, List.setIfInBounds_toArray, List.set_cons_zero, List.set_cons_succ]
          refine wpAnyH_take (i := 18) (oi := { dst := some 139, op := Go.Op.load 28 (Go.Operand.tmp 23), type := 28, pos := _, after := #[{ on := 17, ground := Go.Ground.guard }], guard := some (17, true) }) rfl (by kernel_rfl) (by kernel_rfl) (by kernel_rfl) (fun _ _ _ h => h) (yieldsIf_load_mid (by rfl) 28 (.tmp 23) rfl (n23) (0) rfl (XL) _ (fun _ h => rangeAt_row (h.at 2 rfl)) Try.underlying28 rfl (R5.info32 XL HXN.out)) hHeld ?_
          try simp only [Act.put, List.setIfInBounds_toArray, List.set_cons_zero, List.set_cons_succ]
          refine wpAnyH_take (i := 19) (oi := { dst := some 140, op := Go.Op.load 28 (Go.Operand.tmp 27), type := 28, pos := _, after := #[{ on := 17, ground := Go.Ground.guard }], guard := some (17, true) }) rfl (by kernel_rfl) (by kernel_rfl) (by kernel_rfl) (fun _ _ _ h => h) (yieldsIf_load_mid (by rfl) 28 (.tmp 27) rfl (n27) (0) rfl (ZZ) _ (fun _ h => rangeAt_row (h.at 0 rfl)) Try.underlying28 rfl (R5.info32 ZZ HZN.out)) hHeld ?_
          try simp only [Act.put, List.setIfInBounds_toArray, List.set_cons_zero, List.set_cons_succ]
          refine wpAnyH_take (i := 20) (oi := { dst := some 141, op := Go.Op.binOp Go.BinOp.neq 28 (Go.Operand.tmp 139) (Go.Operand.tmp 140) 28, type := 4, pos := _, after := #[{ on := 18, ground := Go.Ground.data }, { on := 19, ground := Go.Ground.data }, { on := 17, ground := Go.Ground.guard }], guard := some (17, true) }) (v := .bool true) rfl (by kernel_rfl) (by kernel_rfl) (by kernel_rfl) (fun _ _ _ h => h) (Or.inl ⟨by rfl, fun w' hw' => ?_⟩) hHeld ?_
          · exact run_neq rfl rfl rfl gD (HXZ.out w')
          try simp only [Act.put, List.setIfInBounds_toArray, List.set_cons_zero, List.set_cons_succ]
          refine wpAnyH_take (i := 21) (oi := { dst := some 142, op := Go.Op.pick (Go.Operand.tmp 138) (Go.Operand.tmp 141) (Go.Operand.const (Go.Value.bool false)), type := 4, pos := _, after := #[{ on := 17, ground := Go.Ground.data }, { on := 20, ground := Go.Ground.data }], guard := none }) (v := .bool true) rfl (by kernel_rfl) (by kernel_rfl) (by kernel_rfl) (fun _ _ _ h => h) (Or.inl ⟨by rfl, fun w' hw' => ?_⟩) hHeld ?_
          · first | (go_simp; done) | (go_simp; rfl)
          try simp only [Act.put, List.setIfInBounds_toArray, List.set_cons_zero, List.set_cons_succ]
          refine wpAnyH_take (i := 22) (oi := { dst := some 143, op := Go.Op.move (Go.Operand.tmp 142), type := 4, pos := _, after := #[{ on := 21, ground := Go.Ground.data }, { on := 17, ground := Go.Ground.chain }], guard := none }) (v := .bool true) rfl (by kernel_rfl) (by kernel_rfl) (by kernel_rfl) (fun _ _ _ h => h) (Or.inl ⟨by rfl, fun w' hw' => ?_⟩) hHeld ?_
          · first | (go_simp; done) | (go_simp; rfl)
          try simp only [Act.put, List.setIfInBounds_toArray, List.set_cons_zero, List.set_cons_succ]
          refine wpAnyH_take (i := 23) (oi := { dst := some 144, op := Go.Op.load 28 (Go.Operand.tmp 25), type := 28, pos := _, after := #[{ on := 22, ground := Go.Ground.guard }], guard := some (22, true) }) rfl (by kernel_rfl) (by kernel_rfl) (by kernel_rfl) (fun _ _ _ h => h) (yieldsIf_load_mid (by rfl) 28 (.tmp 25) rfl (n25) (0) rfl (YL) _ (fun _ h => rangeAt_row (h.at 1 rfl)) Try.underlying28 rfl (R5.info32 YL HYN.out)) hHeld ?_
          try simp only [Act.put, List.setIfInBounds_toArray, List.set_cons_zero, List.set_cons_succ]
          refine wpAnyH_take (i := 24) (oi := { dst := some 145, op := Go.Op.load 28 (Go.Operand.tmp 27), type := 28, pos := _, after := #[{ on := 22, ground := Go.Ground.guard }], guard := some (22, true) }) rfl (by kernel_rfl) (by kernel_rfl) (by kernel_rfl) (fun _ _ _ h => h) (yieldsIf_load_mid (by rfl) 28 (.tmp 27) rfl (n27) (0) rfl (ZZ) _ (fun _ h => rangeAt_row (h.at 0 rfl)) Try.underlying28 rfl (R5.info32 ZZ HZN.out)) hHeld ?_
          try simp only [Act.put, List.setIfInBounds_toArray, List.set_cons_zero, List.set_cons_succ]
          refine wpAnyH_take (i := 25) (oi := { dst := some 146, op := Go.Op.binOp Go.BinOp.neq 28 (Go.Operand.tmp 144) (Go.Operand.tmp 145) 28, type := 4, pos := _, after := #[{ on := 23, ground := Go.Ground.data }, { on := 24, ground := Go.Ground.data }, { on := 22, ground := Go.Ground.guard }], guard := some (22, true) }) (v := .bool true) rfl (by kernel_rfl) (by kernel_rfl) (by kernel_rfl) (fun _ _ _ h => h) (Or.inl ⟨by rfl, fun w' hw' => ?_⟩) hHeld ?_
          · exact run_neq rfl rfl rfl gD (HYZ.out w')
          try simp only [Act.put, List.setIfInBounds_toArray, List.set_cons_zero, List.set_cons_succ]
          refine wpAnyH_take (i := 26) (oi := { dst := some 147, op := Go.Op.pick (Go.Operand.tmp 143) (Go.Operand.tmp 146) (Go.Operand.const (Go.Value.bool false)), type := 4, pos := _, after := #[{ on := 22, ground := Go.Ground.data }, { on := 25, ground := Go.Ground.data }], guard := none }) (v := .bool true) rfl (by kernel_rfl) (by kernel_rfl) (by kernel_rfl) (fun _ _ _ h => h) (Or.inl ⟨by rfl, fun w' hw' => ?_⟩) hHeld ?_
          · first | (go_simp; done) | (go_simp; rfl)
          try simp only [Act.put, List.setIfInBounds_toArray, List.set_cons_zero, List.set_cons_succ]
          refine wpAnyH_take (i := 27) (oi := { dst := some 16, op := Go.Op.assign (Go.Operand.tmp 147), type := 4, pos := _, after := #[{ on := 26, ground := Go.Ground.data }, { on := 22, ground := Go.Ground.chain }, { on := 0, ground := Go.Ground.phase }, { on := 1, ground := Go.Ground.phase }, { on := 2, ground := Go.Ground.phase }, { on := 3, ground := Go.Ground.phase }, { on := 4, ground := Go.Ground.phase }, { on := 5, ground := Go.Ground.phase }, { on := 6, ground := Go.Ground.phase }, { on := 7, ground := Go.Ground.phase }, { on := 8, ground := Go.Ground.phase }, { on := 9, ground := Go.Ground.phase }, { on := 10, ground := Go.Ground.phase }, { on := 11, ground := Go.Ground.phase }, { on := 12, ground := Go.Ground.phase }, { on := 13, ground := Go.Ground.phase }, { on := 14, ground := Go.Ground.phase }, { on := 15, ground := Go.Ground.phase }, { on := 16, ground := Go.Ground.phase }, { on := 17, ground := Go.Ground.phase }, { on := 18, ground := Go.Ground.phase }, { on := 19, ground := Go.Ground.phase }, { on := 20, ground := Go.Ground.phase }, { on := 21, ground := Go.Ground.phase }, { on := 22, ground := Go.Ground.phase }, { on := 23, ground := Go.Ground.phase }, { on := 24, ground := Go.Ground.phase }, { on := 25, ground := Go.Ground.phase }, { on := 26, ground := Go.Ground.phase }], guard := none }) (v := .bool true) rfl (by kernel_rfl) (by kernel_rfl) (by kernel_rfl) (fun _ _ _ h => h) (Or.inl ⟨by rfl, fun w' hw' => ?_⟩) hHeld ?_
          · first | (go_simp; done) | (go_simp; rfl)
          try simp only [Act.put, List.setIfInBounds_toArray, List.set_cons_zero, List.set_cons_succ]
          refine wpAnyH_done (by kernel_rfl) ?_ _
          clear hHeld
          go_wp2
          go_ret
          exact ⟨rfl, HEND.out⟩
        · have e2b : ((n : Int) == (n2 : Int)) = false := by rw [beq_eq_false_iff_ne]; omega
          rw [decide_eq_false e2] at m1
          simp only [Bool.and_false, Bool.false_and] at m1
          subst m1
          clear e1 e2
          refine wpAnyH_take (i := 0) (oi := { dst := some 121, op := Go.Op.load 28 (Go.Operand.tmp 23), type := 28, pos := _, after := #[], guard := none }) rfl (by kernel_rfl) (by kernel_rfl) (by kernel_rfl) (fun _ _ _ h => h) (yieldsIf_load_mid (by rfl) 28 (.tmp 23) rfl (n23) (0) rfl (XL) _ (fun _ h => rangeAt_row (h.at 2 rfl)) Try.underlying28 rfl (R5.info32 XL HXN.out)) hHeld ?_
          try simp only [Act.put, List.setIfInBounds_toArray, List.set_cons_zero, List.set_cons_succ]
          refine wpAnyH_take (i := 1) (oi := { dst := some 122, op := Go.Op.load 28 (Go.Operand.tmp 25), type := 28, pos := _, after := #[], guard := none }) rfl (by kernel_rfl) (by kernel_rfl) (by kernel_rfl) (fun _ _ _ h => h) (yieldsIf_load_mid (by rfl) 28 (.tmp 25) rfl (n25) (0) rfl (YL) _ (fun _ h => rangeAt_row (h.at 1 rfl)) Try.underlying28 rfl (R5.info32 YL HYN.out)) hHeld ?_
          try simp only [Act.put, List.setIfInBounds_toArray, List.set_cons_zero, List.set_cons_succ]
          refine wpAnyH_take (i := 2) (oi := { dst := some 123, op := Go.Op.binOp Go.BinOp.eql 28 (Go.Operand.tmp 121) (Go.Operand.tmp 122) 28, type := 4, pos := _, after := #[{ on := 0, ground := Go.Ground.data }, { on := 1, ground := Go.Ground.data }], guard := none }) (v := .bool false) rfl (by kernel_rfl) (by kernel_rfl) (by kernel_rfl) (fun _ _ _ h => h) (Or.inl ⟨by rfl, fun w' hw' => ?_⟩) hHeld ?_
          · exact run_eql rfl rfl rfl gD (HXY.out w')
          try simp only [Act.put, List.setIfInBounds_toArray, List.set_cons_zero, List.set_cons_succ]
          refine wpAnyH_take (i := 3) (oi := { dst := some 124, op := Go.Op.move (Go.Operand.tmp 2), type := 3, pos := _, after := #[], guard := none }) (v := .int .i64 (p : Int)) rfl (by kernel_rfl) (by kernel_rfl) (by kernel_rfl) (fun _ _ _ h => h) (Or.inl ⟨by rfl, fun w' hw' => ?_⟩) hHeld ?_
          · first | (go_simp; done) | (go_simp; rfl)
          try simp only [Act.put, List.setIfInBounds_toArray, List.set_cons_zero, List.set_cons_succ]
          refine wpAnyH_take (i := 4) (oi := { dst := some 125, op := Go.Op.move (Go.Operand.tmp 5), type := 3, pos := _, after := #[], guard := none }) (v := .int .i64 (p2 : Int)) rfl (by kernel_rfl) (by kernel_rfl) (by kernel_rfl) (fun _ _ _ h => h) (Or.inl ⟨by rfl, fun w' hw' => ?_⟩) hHeld ?_
          · first | (go_simp; done) | (go_simp; rfl)
          try simp only [Act.put, List.setIfInBounds_toArray, List.set_cons_zero, List.set_cons_succ]
          refine wpAnyH_take (i := 5) (oi := { dst := some 126, op := Go.Op.binOp Go.BinOp.eql 3 (Go.Operand.tmp 124) (Go.Operand.tmp 125) 3, type := 4, pos := _, after := #[{ on := 3, ground := Go.Ground.data }, { on := 4, ground := Go.Ground.data }], guard := none }) (v := .bool true) rfl (by kernel_rfl) (by kernel_rfl) (by kernel_rfl) (fun _ _ _ h => h) (Or.inl ⟨by rfl, fun w' hw' => ?_⟩) hHeld ?_
          · first | (go_simp; done) | (go_simp; rfl)
          try simp only [Act.put, List.setIfInBounds_toArray, List.set_cons_zero, List.set_cons_succ]
          refine wpAnyH_take (i := 6) (oi := { dst := some 127, op := Go.Op.move (Go.Operand.tmp 126), type := 4, pos := _, after := #[{ on := 5, ground := Go.Ground.data }], guard := none }) (v := .bool true) rfl (by kernel_rfl) (by kernel_rfl) (by kernel_rfl) (fun _ _ _ h => h) (Or.inl ⟨by rfl, fun w' hw' => ?_⟩) hHeld ?_
          · first | (go_simp; done) | (go_simp; rfl)
          try simp only [Act.put, List.setIfInBounds_toArray, List.set_cons_zero, List.set_cons_succ]
          refine wpAnyH_take (i := 7) (oi := { dst := some 128, op := Go.Op.move (Go.Operand.tmp 3), type := 32, pos := _, after := #[{ on := 6, ground := Go.Ground.guard }], guard := some (6, true) }) (v := .int .u64 (n : Int)) rfl (by kernel_rfl) (by kernel_rfl) (by kernel_rfl) (fun _ _ _ h => h) (Or.inl ⟨by rfl, fun w' hw' => ?_⟩) hHeld ?_
          · first | (go_simp; done) | (go_simp; rfl)
          try simp only [Act.put, List.setIfInBounds_toArray, List.set_cons_zero, List.set_cons_succ]
          refine wpAnyH_take (i := 8) (oi := { dst := some 129, op := Go.Op.move (Go.Operand.tmp 6), type := 32, pos := _, after := #[{ on := 6, ground := Go.Ground.guard }], guard := some (6, true) }) (v := .int .u64 (n2 : Int)) rfl (by kernel_rfl) (by kernel_rfl) (by kernel_rfl) (fun _ _ _ h => h) (Or.inl ⟨by rfl, fun w' hw' => ?_⟩) hHeld ?_
          · first | (go_simp; done) | (go_simp; rfl)
          try simp only [Act.put, List.setIfInBounds_toArray, List.set_cons_zero, List.set_cons_succ]
          refine wpAnyH_take (i := 9) (oi := { dst := some 130, op := Go.Op.binOp Go.BinOp.eql 32 (Go.Operand.tmp 128) (Go.Operand.tmp 129) 32, type := 4, pos := _, after := #[{ on := 7, ground := Go.Ground.data }, { on := 8, ground := Go.Ground.data }, { on := 6, ground := Go.Ground.guard }], guard := some (6, true) }) (v := .bool false) rfl (by kernel_rfl) (by kernel_rfl) (by kernel_rfl) (fun _ _ _ h => h) (Or.inl ⟨by rfl, fun w' hw' => ?_⟩) hHeld ?_
          · first | (go_simp; done) | (go_simp; rfl)
          try simp only [Act.put, List.setIfInBounds_toArray, List.set_cons_zero, List.set_cons_succ]
          refine wpAnyH_take (i := 10) (oi := { dst := some 131, op := Go.Op.pick (Go.Operand.tmp 127) (Go.Operand.tmp 130) (Go.Operand.const (Go.Value.bool false)), type := 4, pos := _, after := #[{ on := 6, ground := Go.Ground.data }, { on := 9, ground := Go.Ground.data }], guard := none }) (v := .bool false) rfl (by kernel_rfl) (by kernel_rfl) (by kernel_rfl) (fun _ _ _ h => h) (Or.inl ⟨by rfl, fun w' hw' => ?_⟩) hHeld ?_
          · first | (go_simp; done) | (go_simp; rfl)
          try simp only [Act.put, List.setIfInBounds_toArray, List.set_cons_zero, List.set_cons_succ]
          refine wpAnyH_take (i := 11) (oi := { dst := some 132, op := Go.Op.move (Go.Operand.tmp 131), type := 4, pos := _, after := #[{ on := 10, ground := Go.Ground.data }, { on := 6, ground := Go.Ground.chain }], guard := none }) (v := .bool false) rfl (by kernel_rfl) (by kernel_rfl) (by kernel_rfl) (fun _ _ _ h => h) (Or.inl ⟨by rfl, fun w' hw' => ?_⟩) hHeld ?_
          · first | (go_simp; done) | (go_simp; rfl)
          try simp only [Act.put, List.setIfInBounds_toArray, List.set_cons_zero, List.set_cons_succ]
          refine wpAnyH_take (i := 12) (oi := { dst := some 133, op := Go.Op.load 23 (Go.Operand.tmp 19), type := 23, pos := _, after := #[{ on := 11, ground := Go.Ground.guard }], guard := some (11, true) }) (v := undef) rfl (by kernel_rfl) (by kernel_rfl) (by kernel_rfl) (fun _ _ _ h => h) (Or.inr ⟨by rfl, rfl⟩) hHeld ?_
          try simp only [Act.put, List.setIfInBounds_toArray, List.set_cons_zero, List.set_cons_succ]
          refine wpAnyH_take (i := 13) (oi := { dst := some 134, op := Go.Op.load 23 (Go.Operand.tmp 15), type := 23, pos := _, after := #[{ on := 11, ground := Go.Ground.guard }], guard := some (11, true) }) (v := undef) rfl (by kernel_rfl) (by kernel_rfl) (by kernel_rfl) (fun _ _ _ h => h) (Or.inr ⟨by rfl, rfl⟩) hHeld ?_
          try simp only [Act.put, List.setIfInBounds_toArray, List.set_cons_zero, List.set_cons_succ]
          refine wpAnyH_take (i := 14) (oi := { dst := some 135, op := Go.Op.binOp Go.BinOp.eql 23 (Go.Operand.tmp 133) (Go.Operand.tmp 134) 23, type := 4, pos := _, after := #[{ on := 12, ground := Go.Ground.data }, { on := 13, ground := Go.Ground.data }, { on := 11, ground := Go.Ground.guard }], guard := some (11, true) }) (v := undef) rfl (by kernel_rfl) (by kernel_rfl) (by kernel_rfl) (fun _ _ _ h => h) (Or.inr ⟨by rfl, rfl⟩) hHeld ?_
          try simp only [Act.put, List.setIfInBounds_toArray, List.set_cons_zero, List.set_cons_succ]
          refine wpAnyH_take (i := 15) (oi := { dst := some 136, op := Go.Op.pick (Go.Operand.tmp 132) (Go.Operand.tmp 135) (Go.Operand.const (Go.Value.bool false)), type := 4, pos := _, after := #[{ on := 11, ground := Go.Ground.data }, { on := 14, ground := Go.Ground.data }], guard := none }) (v := .bool false) rfl (by kernel_rfl) (by kernel_rfl) (by kernel_rfl) (fun _ _ _ h => h) (Or.inl ⟨by rfl, fun w' hw' => ?_⟩) hHeld ?_
          · first | (go_simp; done) | (go_simp; rfl)
          try simp only [Act.put, List.setIfInBounds_toArray, List.set_cons_zero, List.set_cons_succ]
          refine wpAnyH_take (i := 16) (oi := { dst := some 137, op := Go.Op.binOp Go.BinOp.eql 4 (Go.Operand.tmp 123) (Go.Operand.tmp 136) 4, type := 4, pos := _, after := #[{ on := 2, ground := Go.Ground.data }, { on := 15, ground := Go.Ground.data }], guard := none }) (v := .bool true) rfl (by kernel_rfl) (by kernel_rfl) (by kernel_rfl) (fun _ _ _ h => h) (Or.inl ⟨by rfl, fun w' hw' => ?_⟩) hHeld ?_
          · first | (go_simp; done) | (go_simp; rfl)
          try simp only [Act.put, List.setIfInBounds_toArray, List.set_cons_zero, List.set_cons_succ]
          refine wpAnyH_take (i := 17) (oi := { dst := some 138, op := Go.Op.move (Go.Operand.tmp 137), type := 4, pos := _, after := #[{ on := 16, ground := Go.Ground.data }, { on := 11, ground := Go.Ground.chain }], guard := none }) (v := .bool true) rfl (by kernel_rfl) (by kernel_rfl) (by kernel_rfl) (fun _ _ _ h => h) (Or.inl ⟨by rfl, fun w' hw' => ?_⟩) hHeld ?_
          · first | (go_simp; done) | (go_simp; rfl)
          try simp only [Act.put, List.setIfInBounds_toArray, List.set_cons_zero, List.set_cons_succ]
          refine wpAnyH_take (i := 18) (oi := { dst := some 139, op := Go.Op.load 28 (Go.Operand.tmp 23), type := 28, pos := _, after := #[{ on := 17, ground := Go.Ground.guard }], guard := some (17, true) }) rfl (by kernel_rfl) (by kernel_rfl) (by kernel_rfl) (fun _ _ _ h => h) (yieldsIf_load_mid (by rfl) 28 (.tmp 23) rfl (n23) (0) rfl (XL) _ (fun _ h => rangeAt_row (h.at 2 rfl)) Try.underlying28 rfl (R5.info32 XL HXN.out)) hHeld ?_
          try simp only [Act.put, List.setIfInBounds_toArray, List.set_cons_zero, List.set_cons_succ]
          refine wpAnyH_take (i := 19) (oi := { dst := some 140, op := Go.Op.load 28 (Go.Operand.tmp 27), type := 28, pos := _, after := #[{ on := 17, ground := Go.Ground.guard }], guard := some (17, true) }) rfl (by kernel_rfl) (by kernel_rfl) (by kernel_rfl) (fun _ _ _ h => h) (yieldsIf_load_mid (by rfl) 28 (.tmp 27) rfl (n27) (0) rfl (ZZ) _ (fun _ h => rangeAt_row (h.at 0 rfl)) Try.underlying28 rfl (R5.info32 ZZ HZN.out)) hHeld ?_
          try simp only [Act.put, List.setIfInBounds_toArray, List.set_cons_zero, List.set_cons_succ]
          refine wpAnyH_take (i := 20) (oi := { dst := some 141, op := Go.Op.binOp Go.BinOp.neq 28 (Go.Operand.tmp 139) (Go.Operand.tmp 140) 28, type := 4, pos := _, after := #[{ on := 18, ground := Go.Ground.data }, { on := 19, ground := Go.Ground.data }, { on := 17, ground := Go.Ground.guard }], guard := some (17, true) }) (v := .bool true) rfl (by kernel_rfl) (by kernel_rfl) (by kernel_rfl) (fun _ _ _ h => h) (Or.inl ⟨by rfl, fun w' hw' => ?_⟩) hHeld ?_
          · exact run_neq rfl rfl rfl gD (HXZ.out w')
          try simp only [Act.put, List.setIfInBounds_toArray, List.set_cons_zero, List.set_cons_succ]
          refine wpAnyH_take (i := 21) (oi := { dst := some 142, op := Go.Op.pick (Go.Operand.tmp 138) (Go.Operand.tmp 141) (Go.Operand.const (Go.Value.bool false)), type := 4, pos := _, after := #[{ on := 17, ground := Go.Ground.data }, { on := 20, ground := Go.Ground.data }], guard := none }) (v := .bool true) rfl (by kernel_rfl) (by kernel_rfl) (by kernel_rfl) (fun _ _ _ h => h) (Or.inl ⟨by rfl, fun w' hw' => ?_⟩) hHeld ?_
          · first | (go_simp; done) | (go_simp; rfl)
          try simp only [Act.put, List.setIfInBounds_toArray, List.set_cons_zero, List.set_cons_succ]
          refine wpAnyH_take (i := 22) (oi := { dst := some 143, op := Go.Op.move (Go.Operand.tmp 142), type := 4, pos := _, after := #[{ on := 21, ground := Go.Ground.data }, { on := 17, ground := Go.Ground.chain }], guard := none }) (v := .bool true) rfl (by kernel_rfl) (by kernel_rfl) (by kernel_rfl) (fun _ _ _ h => h) (Or.inl ⟨by rfl, fun w' hw' => ?_⟩) hHeld ?_
          · first | (go_simp; done) | (go_simp; rfl)
          try simp only [Act.put, List.setIfInBounds_toArray, List.set_cons_zero, List.set_cons_succ]
          refine wpAnyH_take (i := 23) (oi := { dst := some 144, op := Go.Op.load 28 (Go.Operand.tmp 25), type := 28, pos := _, after := #[{ on := 22, ground := Go.Ground.guard }], guard := some (22, true) }) rfl (by kernel_rfl) (by kernel_rfl) (by kernel_rfl) (fun _ _ _ h => h) (yieldsIf_load_mid (by rfl) 28 (.tmp 25) rfl (n25) (0) rfl (YL) _ (fun _ h => rangeAt_row (h.at 1 rfl)) Try.underlying28 rfl (R5.info32 YL HYN.out)) hHeld ?_
          try simp only [Act.put, List.setIfInBounds_toArray, List.set_cons_zero, List.set_cons_succ]
          refine wpAnyH_take (i := 24) (oi := { dst := some 145, op := Go.Op.load 28 (Go.Operand.tmp 27), type := 28, pos := _, after := #[{ on := 22, ground := Go.Ground.guard }], guard := some (22, true) }) rfl (by kernel_rfl) (by kernel_rfl) (by kernel_rfl) (fun _ _ _ h => h) (yieldsIf_load_mid (by rfl) 28 (.tmp 27) rfl (n27) (0) rfl (ZZ) _ (fun _ h => rangeAt_row (h.at 0 rfl)) Try.underlying28 rfl (R5.info32 ZZ HZN.out)) hHeld ?_
          try simp only [Act.put, List.setIfInBounds_toArray, List.set_cons_zero, List.set_cons_succ]
          refine wpAnyH_take (i := 25) (oi := { dst := some 146, op := Go.Op.binOp Go.BinOp.neq 28 (Go.Operand.tmp 144) (Go.Operand.tmp 145) 28, type := 4, pos := _, after := #[{ on := 23, ground := Go.Ground.data }, { on := 24, ground := Go.Ground.data }, { on := 22, ground := Go.Ground.guard }], guard := some (22, true) }) (v := .bool true) rfl (by kernel_rfl) (by kernel_rfl) (by kernel_rfl) (fun _ _ _ h => h) (Or.inl ⟨by rfl, fun w' hw' => ?_⟩) hHeld ?_
          · exact run_neq rfl rfl rfl gD (HYZ.out w')
          try simp only [Act.put, List.setIfInBounds_toArray, List.set_cons_zero, List.set_cons_succ]
          refine wpAnyH_take (i := 26) (oi := { dst := some 147, op := Go.Op.pick (Go.Operand.tmp 143) (Go.Operand.tmp 146) (Go.Operand.const (Go.Value.bool false)), type := 4, pos := _, after := #[{ on := 22, ground := Go.Ground.data }, { on := 25, ground := Go.Ground.data }], guard := none }) (v := .bool true) rfl (by kernel_rfl) (by kernel_rfl) (by kernel_rfl) (fun _ _ _ h => h) (Or.inl ⟨by rfl, fun w' hw' => ?_⟩) hHeld ?_
          · first | (go_simp; done) | (go_simp; rfl)
          try simp only [Act.put, List.setIfInBounds_toArray, List.set_cons_zero, List.set_cons_succ]
          refine wpAnyH_take (i := 27) (oi := { dst := some 16, op := Go.Op.assign (Go.Operand.tmp 147), type := 4, pos := _, after := #[{ on := 26, ground := Go.Ground.data }, { on := 22, ground := Go.Ground.chain }, { on := 0, ground := Go.Ground.phase }, { on := 1, ground := Go.Ground.phase }, { on := 2, ground := Go.Ground.phase }, { on := 3, ground := Go.Ground.phase }, { on := 4, ground := Go.Ground.phase }, { on := 5, ground := Go.Ground.phase }, { on := 6, ground := Go.Ground.phase }, { on := 7, ground := Go.Ground.phase }, { on := 8, ground := Go.Ground.phase }, { on := 9, ground := Go.Ground.phase }, { on := 10, ground := Go.Ground.phase }, { on := 11, ground := Go.Ground.phase }, { on := 12, ground := Go.Ground.phase }, { on := 13, ground := Go.Ground.phase }, { on := 14, ground := Go.Ground.phase }, { on := 15, ground := Go.Ground.phase }, { on := 16, ground := Go.Ground.phase }, { on := 17, ground := Go.Ground.phase }, { on := 18, ground := Go.Ground.phase }, { on := 19, ground := Go.Ground.phase }, { on := 20, ground := Go.Ground.phase }, { on := 21, ground := Go.Ground.phase }, { on := 22, ground := Go.Ground.phase }, { on := 23, ground := Go.Ground.phase }, { on := 24, ground := Go.Ground.phase }, { on := 25, ground := Go.Ground.phase }, { on := 26, ground := Go.Ground.phase }], guard := none }) (v := .bool true) rfl (by kernel_rfl) (by kernel_rfl) (by kernel_rfl) (fun _ _ _ h => h) (Or.inl ⟨by rfl, fun w' hw' => ?_⟩) hHeld ?_
          · first | (go_simp; done) | (go_simp; rfl)
          try simp only [Act.put, List.setIfInBounds_toArray, List.set_cons_zero, List.set_cons_succ]
          refine wpAnyH_done (by kernel_rfl) ?_ _
          clear hHeld
          go_wp2
          go_ret
          exact ⟨rfl, HEND.out⟩
      · have e1b : ((p : Int) == (p2 : Int)) = false := by rw [beq_eq_false_iff_ne]; omega
        rw [decide_eq_false e1] at m1
        simp only [Bool.false_and] at m1
        subst m1
        clear e1
        refine wpAnyH_take (i := 0) (oi := { dst := some 121, op := Go.Op.load 28 (Go.Operand.tmp 23), type := 28, pos := _, after := #[], guard := none }) rfl (by kernel_rfl) (by kernel_rfl) (by kernel_rfl) (fun _ _ _ h => h) (yieldsIf_load_mid (by rfl) 28 (.tmp 23) rfl (n23) (0) rfl (XL) _ (fun _ h => rangeAt_row (h.at 2 rfl)) Try.underlying28 rfl (R5.info32 XL HXN.out)) hHeld ?_
        try simp only [Act.put, List.setIfInBounds_toArray, List.set_cons_zero, List.set_cons_succ]
        refine wpAnyH_take (i := 1) (oi := { dst := some 122, op := Go.Op.load 28 (Go.Operand.tmp 25), type := 28, pos := _, after := #[], guard := none }) rfl (by kernel_rfl) (by kernel_rfl) (by kernel_rfl) (fun _ _ _ h => h) (yieldsIf_load_mid (by rfl) 28 (.tmp 25) rfl (n25) (0) rfl (YL) _ (fun _ h => rangeAt_row (h.at 1 rfl)) Try.underlying28 rfl (R5.info32 YL HYN.out)) hHeld ?_
        try simp only [Act.put, List.setIfInBounds_toArray, List.set_cons_zero, List.set_cons_succ]
        refine wpAnyH_take (i := 2) (oi := { dst := some 123, op := Go.Op.binOp Go.BinOp.eql 28 (Go.Operand.tmp 121) (Go.Operand.tmp 122) 28, type := 4, pos := _, after := #[{ on := 0, ground := Go.Ground.data }, { on := 1, ground := Go.Ground.data }], guard := none }) (v := .bool false) rfl (by kernel_rfl) (by kernel_rfl) (by kernel_rfl) (fun _ _ _ h => h) (Or.inl ⟨by rfl, fun w' hw' => ?_⟩) hHeld ?_
        · exact run_eql rfl rfl rfl gD (HXY.out w')
        try simp only [Act.put, List.setIfInBounds_toArray, List.set_cons_zero, List.set_cons_succ]
        refine wpAnyH_take (i := 3) (oi := { dst := some 124, op := Go.Op.move (Go.Operand.tmp 2), type := 3, pos := _, after := #[], guard := none }) (v := .int .i64 (p : Int)) rfl (by kernel_rfl) (by kernel_rfl) (by kernel_rfl) (fun _ _ _ h => h) (Or.inl ⟨by rfl, fun w' hw' => ?_⟩) hHeld ?_
        · first | (go_simp; done) | (go_simp; rfl)
        try simp only [Act.put, List.setIfInBounds_toArray, List.set_cons_zero, List.set_cons_succ]
        refine wpAnyH_take (i := 4) (oi := { dst := some 125, op := Go.Op.move (Go.Operand.tmp 5), type := 3, pos := _, after := #[], guard := none }) (v := .int .i64 (p2 : Int)) rfl (by kernel_rfl) (by kernel_rfl) (by kernel_rfl) (fun _ _ _ h => h) (Or.inl ⟨by rfl, fun w' hw' => ?_⟩) hHeld ?_
        · first | (go_simp; done) | (go_simp; rfl)
        try simp only [Act.put, List.setIfInBounds_toArray, List.set_cons_zero, List.set_cons_succ]
        refine wpAnyH_take (i := 5) (oi := { dst := some 126, op := Go.Op.binOp Go.BinOp.eql 3 (Go.Operand.tmp 124) (Go.Operand.tmp 125) 3, type := 4, pos := _, after := #[{ on := 3, ground := Go.Ground.data }, { on := 4, ground := Go.Ground.data }], guard := none }) (v := .bool false) rfl (by kernel_rfl) (by kernel_rfl) (by kernel_rfl) (fun _ _ _ h => h) (Or.inl ⟨by rfl, fun w' hw' => ?_⟩) hHeld ?_
        · first | (go_simp; done) | (go_simp; rfl)
        try simp only [Act.put, List.setIfInBounds_toArray, List.set_cons_zero, List.set_cons_succ]
        refine wpAnyH_take (i := 6) (oi := { dst := some 127, op := Go.Op.move (Go.Operand.tmp 126), type := 4, pos := _, after := #[{ on := 5, ground := Go.Ground.data }], guard := none }) (v := .bool false) rfl (by kernel_rfl) (by kernel_rfl) (by kernel_rfl) (fun _ _ _ h => h) (Or.inl ⟨by rfl, fun w' hw' => ?_⟩) hHeld ?_
        · first | (go_simp; done) | (go_simp; rfl)
        try simp only [Act.put, List.setIfInBounds_toArray, List.set_cons_zero, List.set_cons_succ]
        refine wpAnyH_take (i := 7) (oi := { dst := some 128, op := Go.Op.move (Go.Operand.tmp 3), type := 32, pos := _, after := #[{ on := 6, ground := Go.Ground.guard }], guard := some (6, true) }) (v := undef) rfl (by kernel_rfl) (by kernel_rfl) (by kernel_rfl) (fun _ _ _ h => h) (Or.inr ⟨by rfl, rfl⟩) hHeld ?_
        try simp only [Act.put, List.setIfInBounds_toArray, List.set_cons_zero, List.set_cons_succ]
        refine wpAnyH_take (i := 8) (oi := { dst := some 129, op := Go.Op.move (Go.Operand.tmp 6), type := 32, pos := _, after := #[{ on := 6, ground := Go.Ground.guard }], guard := some (6, true) }) (v := undef) rfl (by kernel_rfl) (by kernel_rfl) (by kernel_rfl) (fun _ _ _ h => h) (Or.inr ⟨by rfl, rfl⟩) hHeld ?_
        try simp only [Act.put, List.setIfInBounds_toArray, List.set_cons_zero, List.set_cons_succ]
        refine wpAnyH_take (i := 9) (oi := { dst := some 130, op := Go.Op.binOp Go.BinOp.eql 32 (Go.Operand.tmp 128) (Go.Operand.tmp 129) 32, type := 4, pos := _, after := #[{ on := 7, ground := Go.Ground.data }, { on := 8, ground := Go.Ground.data }, { on := 6, ground := Go.Ground.guard }], guard := some (6, true) }) (v := undef) rfl (by kernel_rfl) (by kernel_rfl) (by kernel_rfl) (fun _ _ _ h => h) (Or.inr ⟨by rfl, rfl⟩) hHeld ?_
        try simp only [Act.put, List.setIfInBounds_toArray, List.set_cons_zero, List.set_cons_succ]
        refine wpAnyH_take (i := 10) (oi := { dst := some 131, op := Go.Op.pick (Go.Operand.tmp 127) (Go.Operand.tmp 130) (Go.Operand.const (Go.Value.bool false)), type := 4, pos := _, after := #[{ on := 6, ground := Go.Ground.data }, { on := 9, ground := Go.Ground.data }], guard := none }) (v := .bool false) rfl (by kernel_rfl) (by kernel_rfl) (by kernel_rfl) (fun _ _ _ h => h) (Or.inl ⟨by rfl, fun w' hw' => ?_⟩) hHeld ?_
        · first | (go_simp; done) | (go_simp; rfl)
        try simp only [Act.put, List.setIfInBounds_toArray, List.set_cons_zero, List.set_cons_succ]
        refine wpAnyH_take (i := 11) (oi := { dst := some 132, op := Go.Op.move (Go.Operand.tmp 131), type := 4, pos := _, after := #[{ on := 10, ground := Go.Ground.data }, { on := 6, ground := Go.Ground.chain }], guard := none }) (v := .bool false) rfl (by kernel_rfl) (by kernel_rfl) (by kernel_rfl) (fun _ _ _ h => h) (Or.inl ⟨by rfl, fun w' hw' => ?_⟩) hHeld ?_
        · first | (go_simp; done) | (go_simp; rfl)
        try simp only [Act.put, List.setIfInBounds_toArray, List.set_cons_zero, List.set_cons_succ]
        refine wpAnyH_take (i := 12) (oi := { dst := some 133, op := Go.Op.load 23 (Go.Operand.tmp 19), type := 23, pos := _, after := #[{ on := 11, ground := Go.Ground.guard }], guard := some (11, true) }) (v := undef) rfl (by kernel_rfl) (by kernel_rfl) (by kernel_rfl) (fun _ _ _ h => h) (Or.inr ⟨by rfl, rfl⟩) hHeld ?_
        try simp only [Act.put, List.setIfInBounds_toArray, List.set_cons_zero, List.set_cons_succ]
        refine wpAnyH_take (i := 13) (oi := { dst := some 134, op := Go.Op.load 23 (Go.Operand.tmp 15), type := 23, pos := _, after := #[{ on := 11, ground := Go.Ground.guard }], guard := some (11, true) }) (v := undef) rfl (by kernel_rfl) (by kernel_rfl) (by kernel_rfl) (fun _ _ _ h => h) (Or.inr ⟨by rfl, rfl⟩) hHeld ?_
        try simp only [Act.put, List.setIfInBounds_toArray, List.set_cons_zero, List.set_cons_succ]
        refine wpAnyH_take (i := 14) (oi := { dst := some 135, op := Go.Op.binOp Go.BinOp.eql 23 (Go.Operand.tmp 133) (Go.Operand.tmp 134) 23, type := 4, pos := _, after := #[{ on := 12, ground := Go.Ground.data }, { on := 13, ground := Go.Ground.data }, { on := 11, ground := Go.Ground.guard }], guard := some (11, true) }) (v := undef) rfl (by kernel_rfl) (by kernel_rfl) (by kernel_rfl) (fun _ _ _ h => h) (Or.inr ⟨by rfl, rfl⟩) hHeld ?_
        try simp only [Act.put, List.setIfInBounds_toArray, List.set_cons_zero, List.set_cons_succ]
        refine wpAnyH_take (i := 15) (oi := { dst := some 136, op := Go.Op.pick (Go.Operand.tmp 132) (Go.Operand.tmp 135) (Go.Operand.const (Go.Value.bool false)), type := 4, pos := _, after := #[{ on := 11, ground := Go.Ground.data }, { on := 14, ground := Go.Ground.data }], guard := none }) (v := .bool false) rfl (by kernel_rfl) (by kernel_rfl) (by kernel_rfl) (fun _ _ _ h => h) (Or.inl ⟨by rfl, fun w' hw' => ?_⟩) hHeld ?_
        · first | (go_simp; done) | (go_simp; rfl)
        try simp only [Act.put, List.setIfInBounds_toArray, List.set_cons_zero, List.set_cons_succ]
        refine wpAnyH_take (i := 16) (oi := { dst := some 137, op := Go.Op.binOp Go.BinOp.eql 4 (Go.Operand.tmp 123) (Go.Operand.tmp 136) 4, type := 4, pos := _, after := #[{ on := 2, ground := Go.Ground.data }, { on := 15, ground := Go.Ground.data }], guard := none }) (v := .bool true) rfl (by kernel_rfl) (by kernel_rfl) (by kernel_rfl) (fun _ _ _ h => h) (Or.inl ⟨by rfl, fun w' hw' => ?_⟩) hHeld ?_
        · first | (go_simp; done) | (go_simp; rfl)
        try simp only [Act.put, List.setIfInBounds_toArray, List.set_cons_zero, List.set_cons_succ]
        refine wpAnyH_take (i := 17) (oi := { dst := some 138, op := Go.Op.move (Go.Operand.tmp 137), type := 4, pos := _, after := #[{ on := 16, ground := Go.Ground.data }, { on := 11, ground := Go.Ground.chain }], guard := none }) (v := .bool true) rfl (by kernel_rfl) (by kernel_rfl) (by kernel_rfl) (fun _ _ _ h => h) (Or.inl ⟨by rfl, fun w' hw' => ?_⟩) hHeld ?_
        · first | (go_simp; done) | (go_simp; rfl)
        try simp only [Act.put, List.setIfInBounds_toArray, List.set_cons_zero, List.set_cons_succ]
        refine wpAnyH_take (i := 18) (oi := { dst := some 139, op := Go.Op.load 28 (Go.Operand.tmp 23), type := 28, pos := _, after := #[{ on := 17, ground := Go.Ground.guard }], guard := some (17, true) }) rfl (by kernel_rfl) (by kernel_rfl) (by kernel_rfl) (fun _ _ _ h => h) (yieldsIf_load_mid (by rfl) 28 (.tmp 23) rfl (n23) (0) rfl (XL) _ (fun _ h => rangeAt_row (h.at 2 rfl)) Try.underlying28 rfl (R5.info32 XL HXN.out)) hHeld ?_
        try simp only [Act.put, List.setIfInBounds_toArray, List.set_cons_zero, List.set_cons_succ]
        refine wpAnyH_take (i := 19) (oi := { dst := some 140, op := Go.Op.load 28 (Go.Operand.tmp 27), type := 28, pos := _, after := #[{ on := 17, ground := Go.Ground.guard }], guard := some (17, true) }) rfl (by kernel_rfl) (by kernel_rfl) (by kernel_rfl) (fun _ _ _ h => h) (yieldsIf_load_mid (by rfl) 28 (.tmp 27) rfl (n27) (0) rfl (ZZ) _ (fun _ h => rangeAt_row (h.at 0 rfl)) Try.underlying28 rfl (R5.info32 ZZ HZN.out)) hHeld ?_
        try simp only [Act.put, List.setIfInBounds_toArray, List.set_cons_zero, List.set_cons_succ]
        refine wpAnyH_take (i := 20) (oi := { dst := some 141, op := Go.Op.binOp Go.BinOp.neq 28 (Go.Operand.tmp 139) (Go.Operand.tmp 140) 28, type := 4, pos := _, after := #[{ on := 18, ground := Go.Ground.data }, { on := 19, ground := Go.Ground.data }, { on := 17, ground := Go.Ground.guard }], guard := some (17, true) }) (v := .bool true) rfl (by kernel_rfl) (by kernel_rfl) (by kernel_rfl) (fun _ _ _ h => h) (Or.inl ⟨by rfl, fun w' hw' => ?_⟩) hHeld ?_
        · exact run_neq rfl rfl rfl gD (HXZ.out w')
        try simp only [Act.put, List.setIfInBounds_toArray, List.set_cons_zero, List.set_cons_succ]
        refine wpAnyH_take (i := 21) (oi := { dst := some 142, op := Go.Op.pick (Go.Operand.tmp 138) (Go.Operand.tmp 141) (Go.Operand.const (Go.Value.bool false)), type := 4, pos := _, after := #[{ on := 17, ground := Go.Ground.data }, { on := 20, ground := Go.Ground.data }], guard := none }) (v := .bool true) rfl (by kernel_rfl) (by kernel_rfl) (by kernel_rfl) (fun _ _ _ h => h) (Or.inl ⟨by rfl, fun w' hw' => ?_⟩) hHeld ?_
        · first | (go_simp; done) | (go_simp; rfl)
        try simp only [Act.put, List.setIfInBounds_toArray, List.set_cons_zero, List.set_cons_succ]
        refine wpAnyH_take (i := 22) (oi := { dst := some 143, op := Go.Op.move (Go.Operand.tmp 142), type := 4, pos := _, after := #[{ on := 21, ground := Go.Ground.data }, { on := 17, ground := Go.Ground.chain }], guard := none }) (v := .bool true) rfl (by kernel_rfl) (by kernel_rfl) (by kernel_rfl) (fun _ _ _ h => h) (Or.inl ⟨by rfl, fun w' hw' => ?_⟩) hHeld ?_
        · first | (go_simp; done) | (go_simp; rfl)
        try simp only [Act.put, List.setIfInBounds_toArray, List.set_cons_zero, List.set_cons_succ]
        refine wpAnyH_take (i := 23) (oi := { dst := some 144, op := Go.Op.load 28 (Go.Operand.tmp 25), type := 28, pos := _, after := #[{ on := 22, ground := Go.Ground.guard }], guard := some (22, true) }) rfl (by kernel_rfl) (by kernel_rfl) (by kernel_rfl) (fun _ _ _ h => h) (yieldsIf_load_mid (by rfl) 28 (.tmp 25) rfl (n25) (0) rfl (YL) _ (fun _ h => rangeAt_row (h.at 1 rfl)) Try.underlying28 rfl (R5.info32 YL HYN.out)) hHeld ?_
        try simp only [Act.put, List.setIfInBounds_toArray, List.set_cons_zero, List.set_cons_succ]
        refine wpAnyH_take (i := 24) (oi := { dst := some 145, op := Go.Op.load 28 (Go.Operand.tmp 27), type := 28, pos := _, after := #[{ on := 22, ground := Go.Ground.guard }], guard := some (22, true) }) rfl (by kernel_rfl) (by kernel_rfl) (by kernel_rfl) (fun _ _ _ h => h) (yieldsIf_load_mid (by rfl) 28 (.tmp 27) rfl (n27) (0) rfl (ZZ) _ (fun _ h => rangeAt_row (h.at 0 rfl)) Try.underlying28 rfl (R5.info32 ZZ HZN.out)) hHeld ?_
        try simp only [Act.put, List.setIfInBounds_toArray, List.set_cons_zero, List.set_cons_succ]
        refine wpAnyH_take (i := 25) (oi := { dst := some 146, op := Go.Op.binOp Go.BinOp.neq 28 (Go.Operand.tmp 144) (Go.Operand.tmp 145) 28, type := 4, pos := _, after := #[{ on := 23, ground := Go.Ground.data }, { on := 24, ground := Go.Ground.data }, { on := 22, ground := Go.Ground.guard }], guard := some (22, true) }) (v := .bool true) rfl (by kernel_rfl) (by kernel_rfl) (by kernel_rfl) (fun _ _ _ h => h) (Or.inl ⟨by rfl, fun w' hw' => ?_⟩) hHeld ?_
        · exact run_neq rfl rfl rfl gD (HYZ.out w')
        try simp only [Act.put, List.setIfInBounds_toArray, List.set_cons_zero, List.set_cons_succ]
        refine wpAnyH_take (i := 26) (oi := { dst := some 147, op := Go.Op.pick (Go.Operand.tmp 143) (Go.Operand.tmp 146) (Go.Operand.const (Go.Value.bool false)), type := 4, pos := _, after := #[{ on := 22, ground := Go.Ground.data }, { on := 25, ground := Go.Ground.data }], guard := none }) (v := .bool true) rfl (by kernel_rfl) (by kernel_rfl) (by kernel_rfl) (fun _ _ _ h => h) (Or.inl ⟨by rfl, fun w' hw' => ?_⟩) hHeld ?_
        · first | (go_simp; done) | (go_simp; rfl)
        try simp only [Act.put, List.setIfInBounds_toArray, List.set_cons_zero, List.set_cons_succ]
        refine wpAnyH_take (i := 27) (oi := { dst := some 16, op := Go.Op.assign (Go.Operand.tmp 147), type := 4, pos := _, after := #[{ on := 26, ground := Go.Ground.data }, { on := 22, ground := Go.Ground.chain }, { on := 0, ground := Go.Ground.phase }, { on := 1, ground := Go.Ground.phase }, { on := 2, ground := Go.Ground.phase }, { on := 3, ground := Go.Ground.phase }, { on := 4, ground := Go.Ground.phase }, { on := 5, ground := Go.Ground.phase }, { on := 6, ground := Go.Ground.phase }, { on := 7, ground := Go.Ground.phase }, { on := 8, ground := Go.Ground.phase }, { on := 9, ground := Go.Ground.phase }, { on := 10, ground := Go.Ground.phase }, { on := 11, ground := Go.Ground.phase }, { on := 12, ground := Go.Ground.phase }, { on := 13, ground := Go.Ground.phase }, { on := 14, ground := Go.Ground.phase }, { on := 15, ground := Go.Ground.phase }, { on := 16, ground := Go.Ground.phase }, { on := 17, ground := Go.Ground.phase }, { on := 18, ground := Go.Ground.phase }, { on := 19, ground := Go.Ground.phase }, { on := 20, ground := Go.Ground.phase }, { on := 21, ground := Go.Ground.phase }, { on := 22, ground := Go.Ground.phase }, { on := 23, ground := Go.Ground.phase }, { on := 24, ground := Go.Ground.phase }, { on := 25, ground := Go.Ground.phase }, { on := 26, ground := Go.Ground.phase }], guard := none }) (v := .bool true) rfl (by kernel_rfl) (by kernel_rfl) (by kernel_rfl) (fun _ _ _ h => h) (Or.inl ⟨by rfl, fun w' hw' => ?_⟩) hHeld ?_
        · first | (go_simp; done) | (go_simp; rfl)
        try simp only [Act.put, List.setIfInBounds_toArray, List.set_cons_zero, List.set_cons_succ]
        refine wpAnyH_done (by kernel_rfl) ?_ _
        clear hHeld
        go_wp2
        go_ret
        exact ⟨rfl, HEND.out⟩
set_option maxRecDepth 100000 in
theorem lifted (os : Os) (started : os.Started) (H : Type) (enc : TypeId × Value → H) :
    ReturnsInHanded {} Try.checked os 4 .any (Rows.blobMeansSpec.pre6 enc Try.prog Try.f4 Rows.blobMeansRow.domain false) (Rows.blobMeansSpec.post enc Try.prog Try.f4 false true false false) := by
  refine returnsInHanded_of_change (C := Try.checked) own started (by kernel_rfl) Try.func4
    (ChangeSpec.witness6 (enc := enc) (C := Try.checked) false ⟨#[], #[.agg (#[.bool false] ++ Array.replicate 32 (.int .u8 0) ++ #[.slice none 0 0]), .agg (Array.replicate 32 (.int .u8 0)), .int .i64 0, .int .u64 0, .agg (Array.replicate 128 (.int .u8 0)), .int .i64 0, .int .u64 0, .agg (Array.replicate 128 (.int .u8 0))], []⟩ 8 (by kernel_rfl) (by kernel_rfl) (by kernel_rfl) (by kernel_rfl)) ?_
  intro W base args ds gs before hval0 hW hcnd _
  have hval : ∀ (j : Nat) t v, Try.f4.params[j]? = some t → args[j]? = some v → Value.okWide Try.prog W .any base t v := hval0
  have hW' := hW
  obtain ⟨p, q, hA0, hV, rfl, hfz, hnd⟩ := hW
  have hA : DataW.TrodAll enc Try.prog W 0 (fun _ => true) true Try.f4.params.toList args.toList ds p := hA0
  rw [Try.params4] at hA hval
  obtain ⟨v0, vs0, d0, ds0, p0, q0, hargs, rfl, rfl, h0, r0⟩ := trodAll_cons hA
  obtain ⟨v1, vs1, d1, ds1, p1, q1, rfl, rfl, rfl, h1, r1⟩ := trodAll_cons r0
  obtain ⟨v2, vs2, d2, ds2, p2, q2, rfl, rfl, rfl, h2, r2⟩ := trodAll_cons r1
  obtain ⟨v3, vs3, d3, ds3, p3, q3, rfl, rfl, rfl, h3, r3⟩ := trodAll_cons r2
  obtain ⟨v4, vs4, d4, ds4, p4, q4, rfl, rfl, rfl, h4, r4⟩ := trodAll_cons r3
  obtain ⟨v5, vs5, d5, ds5, p5, q5, rfl, rfl, rfl, h5, r5⟩ := trodAll_cons r4
  obtain ⟨v6, vs6, d6, ds6, p6, q6, rfl, rfl, rfl, h6, r6⟩ := trodAll_cons r5
  obtain ⟨v7, vs7, d7, ds7, p7, q7, rfl, rfl, rfl, h7, r7⟩ := trodAll_cons r6
  obtain ⟨rfl, rfl, rfl⟩ := trodAll_nil r7
  obtain rfl : args = #[v0, v1, v2, v3, v4, v5, v6, v7] := by cases args; simp_all
  obtain ⟨rfl, rfl⟩ := trodVars_none hV
  have k0 := h0
  have lt0 : ∀ x ∈ p0, x.block < W.heap.size := by obtain ⟨m, hm⟩ := k0; exact DataW.trod_lt m _ _ _ hm
  obtain ⟨xs0, rfl⟩ := BC.okWide_str Try.underlying31 (hval 0 31 v0 rfl rfl)
  obtain ⟨c0, dv0, rfl, hl0⟩ : ∃ c dv, xs0 = (BC.moL c dv).toArray ∧ BC.Mo.ok c dv W := by obtain ⟨fuel, hf⟩ := h0; obtain ⟨c, dv, e, h1⟩ := BC.open_mode hf; exact ⟨c, dv, by rw [← Array.toList_inj]; exact e, h1⟩
  have k1 := h1
  have lt1 : ∀ x ∈ p1, x.block < W.heap.size := by obtain ⟨m, hm⟩ := k1; exact DataW.trod_lt m _ _ _ hm
  obtain ⟨l1, rfl, hl1⟩ := open_octets Try.underlying28 (by kernel_rfl) (hval 1 28 v1 rfl rfl) h1
  obtain ⟨n2, rfl, rfl, rfl, w2⟩ := open_int Try.underlying3 (hval 2 3 v2 rfl rfl) h2
  obtain ⟨n3, rfl, rfl, rfl, w3⟩ := open_int Try.underlying32 (hval 3 32 v3 rfl rfl) h3
  have k4 := h4
  have lt4 : ∀ x ∈ p4, x.block < W.heap.size := by obtain ⟨m, hm⟩ := k4; exact DataW.trod_lt m _ _ _ hm
  obtain ⟨l4, rfl, hl4⟩ := open_octets Try.underlying23 (by kernel_rfl) (hval 4 23 v4 rfl rfl) h4
  obtain ⟨n5, rfl, rfl, rfl, w5⟩ := open_int Try.underlying3 (hval 5 3 v5 rfl rfl) h5
  obtain ⟨n6, rfl, rfl, rfl, w6⟩ := open_int Try.underlying32 (hval 6 32 v6 rfl rfl) h6
  have k7 := h7
  have lt7 : ∀ x ∈ p7, x.block < W.heap.size := by obtain ⟨m, hm⟩ := k7; exact DataW.trod_lt m _ _ _ hm
  obtain ⟨l7, rfl, hl7⟩ := open_octets Try.underlying23 (by kernel_rfl) (hval 7 23 v7 rfl rfl) h7
  clear hA0 hval0
  refine (walk c0 dv0 l1 n2 n3 l4 n5 n6 l7 W hl0 hl1 w2 w3 hl4 w5 w6 hl7).mono fun e W' ⟨he, bel⟩ => ?_
  subst he
  exact ⟨_, rfl, _, _, _, [], _, [], hW', trodAll_mk1 (shut_bool Try.underlying4 _), (trodAll_cons_mk (Below.trod laidOut (by kernel_rfl) (of_decide_eq_true (by kernel_rfl)) k0 bel lt0) (trodAll_cons_mk (Below.trod laidOut (by kernel_rfl) (of_decide_eq_true (by kernel_rfl)) k1 bel lt1) (trodAll_cons_mk (shut_int Try.underlying3 w2) (trodAll_cons_mk (shut_int Try.underlying32 w3) (trodAll_cons_mk (Below.trod laidOut (by kernel_rfl) (of_decide_eq_true (by kernel_rfl)) k4 bel lt4) (trodAll_cons_mk (shut_int Try.underlying3 w5) (trodAll_cons_mk (shut_int Try.underlying32 w6) (trodAll_cons_mk (Below.trod laidOut (by kernel_rfl) (of_decide_eq_true (by kernel_rfl)) k7 bel lt7) trodAll_mk0)))))))), rfl, bel.frame _, fun h => by cases h⟩

theorem over : Rows.blobMeansRow.holds Try.pinned (OpenSpec.ofChange Rows.blobMeansSpec) :=
  OpenClaim.holds_of_wide 4 Try.f4 rfl rfl rfl rfl rfl rfl rfl ⟨rfl, rfl, rfl, rfl, rfl⟩ rfl rfl rfl rfl rfl (by kernel_rfl) Try.func4 (by kernel_rfl)
    (of_decide_eq_true (by kernel_rfl)) (by unfold Func.isWrapper; first | (rw [if_pos (by decide +kernel)]; kernel_rfl) | (rw [if_neg (by decide +kernel)]; exact ⟨rfl, rfl⟩))
    (fun os started H enc _ => lifted os started H enc)

end Go.Proofs.Ytbmmibmfjhehhaa.blobMeans
namespace Go.Proofs.Ytbmmibmfjhehhaa
theorem blobMeans_holds : Rows.BlobMeansSaid := blobMeans.over
#print axioms blobMeans_holds
end Go.Proofs.Ytbmmibmfjhehhaa
