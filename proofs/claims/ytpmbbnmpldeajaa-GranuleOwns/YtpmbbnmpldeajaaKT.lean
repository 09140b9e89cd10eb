/- GranuleOwns: the walk. -/
import Derived.Test.YtpmbbnmpldeajaaKS
set_option linter.unusedVariables false
set_option linter.unusedSimpArgs false
namespace Go.Proofs.Ytpmbbnmpldeajaa.GC
open Go.RowKit

theorem sm_true {P : Nat → Prop} {k : Nat} {b : Bool} (h : true = true ↔ ∀ j, j < k → P j) (hb : b = true ↔ P k) : b = true ↔ ∀ j, j < k + 1 → P j := by
  rw [hb]
  constructor
  · intro hk j hj
    rcases Nat.lt_succ_iff_lt_or_eq.1 hj with h1 | rfl
    · exact h.1 rfl j h1
    · exact hk
  · intro hh; exact hh k (Nat.lt_succ_self k)
theorem sm_false {P : Nat → Prop} {k : Nat} (h : false = true ↔ ∀ j, j < k → P j) : false = true ↔ ∀ j, j < k + 1 → P j := by
  constructor
  · intro hh; cases hh
  · intro hh; exact h.2 (fun j hj => hh j (by omega))
set_option maxHeartbeats 8000000 in
set_option maxRecDepth 100000 in
theorem owns_walk (n : Nat) (v1 v2 : Value) (ls ms : List Ac) (s : Int) (o : Nat) (w : World) (h1 : 1 ≤ n) (h2 : n ≤ 20) (hl1 : ls.length ≤ 60) (hl2 : ms.length ≤ 60) (hA1 : HAc w v1 ls) (hA2 : HAc w v2 ms) :
    Calls Try.prog 5 #[.int .i64 (n : Int), v1, v2, .int .i64 s, .int .u64 (o : Int)] w fun e w' => e = .returned (.bool true) ∧ Below w.heap.size w w' := by
  obtain ⟨p1, c1, rfl, hls⟩ := hA1
  obtain ⟨p2, c2, rfl, hms⟩ := hA2
  have HLS : Hid _ := hls
  have HMS : Hid _ := hms
  obtain ⟨V0, hV0⟩ : ∃ V0, V0 = ((w.alloc (.cells #[.int .i64 (n : Int)] 3 (0, 0))).alloc (.cells #[.int .u64 (o : Int)] 32 (0, 0))).alloc (.cells #[.bool false] 4 (0, 0)) := ⟨_, rfl⟩
  have HC0 : Hid (C7 w V0 n o false) := by
    show C7 _ _ _ _ _
    rw [hV0]
    exact C7.new w n o
  have hs0 : V0.heap.size = w.heap.size + 3 := by rw [hV0]; simp
  obtain ⟨hg0, _, _, _⟩ := HC0.out.facts
  have HNW : Hid (Calls Try.prog 10 #[.int .i64 (n : Int)] V0 fun e w' => NewEnd V0 n e w') := new_ok n V0 (by omega) (by omega)
  obtain ⟨i0, hi, hz0, hz1, hz2⟩ := info_parts infoRow
  unfold rV at hz0
  obtain ⟨ZC, hZC⟩ : ∃ V, V = (rL ZR).toArray := ⟨_, rfl⟩
  rw [← hZC] at hz0
  have HZC : Hid _ := hZC
  clear hls hms hZC
  rw [hV0] at hg0
  refine calls_marks Try.func5 rfl ?_
  simp only [Try.ntmps5, List.size_toArray, List.length_cons, List.length_nil, Nat.reduceAdd, Nat.reduceSub, Array.replicate_succ, Array.replicate_zero, List.push_toArray, List.append_toArray, List.nil_append, List.cons_append]
  go_wp2_with fail
  rw [← hV0] at ⊢
  clear hV0 hg0
  refine Calls.mono HNW.out ?_
  rintro e W1 ⟨tb, gb, rfl, hP, htb, hgb, hb1⟩
  have HC1 : Hid _ := HC0.out.step hb1
  have HP : Hid _ := hP
  have hs1 := hb1.size
  obtain ⟨hg1, _, _, _⟩ := HC1.out.facts
  clear HNW hP hb1
  go_wp2_with (at_make; refine wpList_make_full _ rfl _ _ 28 rfl W1.heap.size 43 i0 (.agg ZC) 3 Try.underlying28 hi hz0 hz1 _ _ _ _ n rfl rfl (by omega) (by omega) ?b2 ?b3 (Nat.le_refl _) ?_)
  case b2 => rw [hz2]; omega
  case b3 => unfold maxLen; omega
  intro W2 hown0 hgrow0
  have hb2 : Below W1.heap.size W1 W2 := (Below.refl _ _).grown hgrow0 (Nat.le_refl _) (fun k h => by cases h)
  have hR : AR W2 W1.heap.size (List.replicate n ZR) := own_ar (by unfold rV; rw [← HZC.out]; exact hown0)
  have HC2 : Hid _ := HC1.out.step hb2
  have HJ0 : Hid (JM (w.heap.size + 3) W2 tb gb W1.heap.size n (runB (List.replicate n ZR) ls 0)) := by
    have hg := HP.out.row.lt
    have ht := row_lt HP.out.head
    have hs2 := hb2.size
    exact ⟨HP.out.below hb2, hR, by omega, by omega, by omega, by omega, by omega⟩
  generalize W1.heap.size = rb at *
  clear hown0 hgrow0 hb2 hR hg1 HP HC1 HC0 htb hgb
  go_wp2
  go_loopw [14] (fun i wr => ∃ k : Nat, k ≤ ls.length ∧ i = .int .i64 k ∧ JM (w.heap.size + 3) wr tb gb rb n (runB (List.replicate n ZR) ls k) ∧ C7 w wr n o false) (fun i _ => ls.length - (intOf i).toNat)
  case atStart => exact ⟨0, Nat.zero_le _, rfl, HJ0.out, HC2.out⟩
  case round =>
    clear HJ0 HC2
    obtain ⟨k, hk, rfl, hJ, hC⟩ := hrel
    generalize wr = W at *
    have HJ : Hid _ := hJ
    have HC : Hid _ := hC
    clear hJ hC
    by_cases hlt : k < ls.length
    · have hkI : (k : Int) < (ls.length : Int) := by omega
      -- one act: ls the list, (List.replicate n ZR) the rows at the start, HLS the acts' facts, Hm.zero n how often a granule was held at most at the start
      obtain ⟨ac, hac⟩ : ∃ ac, ls[k]? = some ac := ⟨_, List.getElem?_eq_getElem hlt⟩
      obtain ⟨ag, ao, rfl, hra, hok⟩ := HLS.out k ac hac
      have hra2 := rangeAt_below hra HC.out.bel
      have hdo := do_any (w.heap.size + 3) tb gb rb n (runB (List.replicate n ZR) ls k) ac W HJ.out hok (((Hm.zero n).run ls k hk).lt (by omega))
      rw [← runB_succ _ ls k ac hac] at hdo
      have HDO : Hid _ := hdo
      obtain ⟨AL, hAL⟩ : ∃ L, L = acL ac := ⟨_, rfl⟩
      rw [← hAL] at hra2 HDO
      have HRA : Hid _ := hra2
      have HAI : Hid _ := info5 AL (by rw [hAL]; rfl)
      clear hra hra2 hok hac hAL hdo
      go_wp2_with (refine wpList_load_mid rfl 34 _ rfl ag (ao + k * 5) rfl AL _ HRA.out Try.underlying34 rfl HAI.out ?_)
      refine Calls.mono HDO.out ?_
      rintro e W2 ⟨rfl, hJ2, hK2⟩
      have HC2 : Hid _ := HC.out.ks hK2 HJ.out.ge
      have HJ2 : Hid _ := hJ2
      clear hJ2 hK2 HDO HRA HAI
      go_wp2
      go_roundw
      case rel => exact ⟨k + 1, by omega, by go_num, HJ2.out, HC2.out⟩
      case measure => simp [intOf]; omega
    · have hke : k = ls.length := by omega
      subst hke
      have HHM : Hid (Hm 60 (runB (List.replicate n ZR) ls ls.length)) := fun r hr => by have := ((Hm.zero n).run ls ls.length (Nat.le_refl _)) r hr; omega
      clear hk hlt HLS
      generalize runB (List.replicate n ZR) ls ls.length = L at *
      obtain ⟨S0, hS0⟩ : ∃ S, S = W.heap.size := ⟨_, rfl⟩
      have HLT : Hid (∀ j, SJ gb rb j → j < S0) := by rw [hS0]; exact HJ.out.lts
      have HGE : Hid (∀ j, SJ gb rb j → w.heap.size + 3 ≤ j) := HJ.out.ge
      have hS0w : w.heap.size + 3 ≤ S0 := by rw [hS0]; exact HJ.out.low
      have HCP : Hid (∀ X, Below W.heap.size W X → Calls Try.prog 15 #[.pointer (some ⟨tb, 0, none⟩)] X fun e w' => CpEnd n L X e w') := fun X hX => copy_ok tb gb n n L X (HJ.out.below hX).pm.pr
      have HOF : Hid (∀ X, Below W.heap.size W X → Calls Try.prog 16 #[.pointer (some ⟨tb, 0, none⟩), .int .u64 (o : Int)] X fun e w' => OfEnd n o L X e w') := fun X hX => of_ok tb gb n n o L X (HJ.out.below hX).pm.pr
      have HOC : Hid (∀ X, Below W.heap.size W X → X.cell? ⟨w.heap.size + 1, 0, none⟩ = some (.int .u64 (o : Int))) := fun X hX => (HC.out.step hX).facts.2.1
      go_wp2_with fail
      refine wp_only ?_
      refine wp_region_held_drew (S := Below W.heap.size W) (by kernel_rfl) (below_drew _) (fun hHeld => ?_)
      generalize W.drew = V1 at *
      refine wpAnyH_take (i := 0) (oi := { dst := some 65, op := Go.Op.move (Go.Operand.tmp 11), type := 24, pos := _, after := #[], guard := none }) (v := .pointer (some ⟨tb, 0, none⟩)) rfl (by kernel_rfl) (by kernel_rfl) (by kernel_rfl) (fun _ _ _ h => h) (Or.inl ⟨by rfl, fun w' hw' => ?_⟩) hHeld ?_
      · first | (go_simp; done) | (go_simp; rfl)
      try simp only [Act.put, List.setIfInBounds_toArray, List.set_cons_zero, List.set_cons_succ]
      refine wpAnyH_take (i := 2) (oi := { dst := some 67, op := Go.Op.move (Go.Operand.tmp 11), type := 24, pos := _, after := #[], guard := none }) (v := .pointer (some ⟨tb, 0, none⟩)) rfl (by kernel_rfl) (by kernel_rfl) (by kernel_rfl) (fun _ _ _ h => h) (Or.inl ⟨by rfl, fun w' hw' => ?_⟩) hHeld ?_
      · first | (go_simp; done) | (go_simp; rfl)
      try simp only [Act.put, List.setIfInBounds_toArray, List.set_cons_zero, List.set_cons_succ]
      refine wpAnyH_take (i := 3) (oi := { dst := some 68, op := Go.Op.load 32 (Go.Operand.tmp 9), type := 32, pos := _, after := #[], guard := none }) (v := .int .u64 (o : Int)) rfl (by kernel_rfl) (by kernel_rfl) (by kernel_rfl) (fun _ _ _ h => h) (Or.inl ⟨by rfl, fun w' hw' => ?_⟩) hHeld ?_
      · have hcc := HOC.out _ hw'; first | (go_simp; done) | (go_simp; rfl)
      try simp only [Act.put, List.setIfInBounds_toArray, List.set_cons_zero, List.set_cons_succ]
      refine wpAnyH_ready (rs := [1]) (by kernel_rfl) (by simp) ?_
      refine AllReadyH.cons (o := { dst := some 66, op := Go.Op.call { callee := Go.Callee.value (Go.Operand.func 15), args := #[Go.Operand.tmp 65], argTypes := #[24] }, type := 24, pos := _, after := #[{ on := 0, ground := Go.Ground.data }], guard := none }) rfl (fun K hK => ?_) AllReadyH.nil
      rw [if_pos (by rfl)]
      go_wp2_with fail
      refine Calls.mono (HCP.out _ hHeld) ?_
      rintro e W3 ⟨mc, cp1, k1, rfl, hpr, hmc, hcp1, hb3⟩
      have hHeld2 : Below W.heap.size W W3 := hHeld.trans (hb3.mono hHeld.size)
      have hsH := hHeld.size
      refine hK.out _ _ hHeld2 (fun _ => ?_)
      clear hK K
      try simp only [Act.put, List.setIfInBounds_toArray, List.set_cons_zero, List.set_cons_succ]
      clear hHeld
      have hHeld := hHeld2
      refine wpAnyH_ready (rs := [4]) (by kernel_rfl) (by simp) ?_
      refine AllReadyH.cons (o := { dst := some 69, op := Go.Op.call { callee := Go.Callee.value (Go.Operand.func 16), args := #[Go.Operand.tmp 67, Go.Operand.tmp 68], argTypes := #[24, 32] }, type := 39, pos := _, after := #[{ on := 2, ground := Go.Ground.data }, { on := 3, ground := Go.Ground.data }, { on := 1, ground := Go.Ground.chain }], guard := none }) rfl (fun K hK => ?_) AllReadyH.nil
      rw [if_pos (by rfl)]
      go_wp2_with fail
      refine Calls.mono (HOF.out _ hHeld) ?_
      rintro e W4 ⟨fb, ob, cp2, k2, rfl, hoh, hfb, hob, hcp2, hb4⟩
      have hHeld4 : Below W.heap.size W W4 := hHeld.trans (hb4.mono hHeld.size)
      refine hK.out _ _ hHeld4 (fun _ => ?_)
      clear hK K
      try simp only [Act.put, List.setIfInBounds_toArray, List.set_cons_zero, List.set_cons_succ]
      clear hHeld
      have hHeld := hHeld4
      refine wpAnyH_take (i := 5) (oi := { dst := some 15, op := Go.Op.assign (Go.Operand.tmp 66), type := 24, pos := _, after := #[{ on := 1, ground := Go.Ground.data }, { on := 4, ground := Go.Ground.chain }, { on := 0, ground := Go.Ground.phase }, { on := 1, ground := Go.Ground.phase }, { on := 2, ground := Go.Ground.textOnly Go.Departure.lateStores }, { on := 3, ground := Go.Ground.textOnly Go.Departure.lateStores }, { on := 4, ground := Go.Ground.textOnly Go.Departure.lateStoresUnsure }], guard := none }) (v := .pointer (some ⟨mc, 0, none⟩)) rfl (by kernel_rfl) (by kernel_rfl) (by kernel_rfl) (fun _ _ _ h => h) (Or.inl ⟨by rfl, fun w' hw' => ?_⟩) hHeld ?_
      · first | (go_simp; done) | (go_simp; rfl)
      try simp only [Act.put, List.setIfInBounds_toArray, List.set_cons_zero, List.set_cons_succ]
      refine wpAnyH_take (i := 6) (oi := { dst := some 16, op := Go.Op.assign (Go.Operand.tmp 69), type := 39, pos := _, after := #[{ on := 4, ground := Go.Ground.data }, { on := 5, ground := Go.Ground.chain }, { on := 0, ground := Go.Ground.phase }, { on := 1, ground := Go.Ground.phase }, { on := 2, ground := Go.Ground.phase }, { on := 3, ground := Go.Ground.phase }, { on := 4, ground := Go.Ground.phase }, { on := 5, ground := Go.Ground.phase }], guard := none }) (v := oFun fb ob) rfl (by kernel_rfl) (by kernel_rfl) (by kernel_rfl) (fun _ _ _ h => h) (Or.inl ⟨by rfl, fun w' hw' => ?_⟩) hHeld ?_
      · first | (go_simp; done) | (go_simp; rfl)
      try simp only [Act.put, List.setIfInBounds_toArray, List.set_cons_zero, List.set_cons_succ]
      refine wpAnyH_done (by kernel_rfl) ?_ _
      have HJ4 : Hid _ := HJ.out.below hHeld4
      have HC4 : Hid _ := HC.out.step hHeld4
      have HPR4 : Hid _ := hpr.below hb4
      have HOH4 : Hid _ := hoh
      have hs4 : S0 ≤ W4.heap.size := by rw [hS0]; exact hHeld4.size
      have hs3 : S0 ≤ W3.heap.size := by rw [hS0]; exact hHeld2.size
      have hmcS : S0 ≤ mc := by rw [hS0]; omega
      have hcp1S : S0 ≤ cp1 := by rw [hS0]; omega
      clear hHeld hHeld2 hHeld4 hpr hoh hb3 hb4 HJ HC HCP HOF HOC hmc hcp1 hsH
      obtain ⟨XS, hXS⟩ : ∃ XS, XS = fl L := ⟨_, rfl⟩
      have HXL : Hid (XS.length = n * 3) := by show _ = _; rw [hXS, fl_len, HJ4.out.pm.len]
      have HO1 : Hid (∀ u ∈ XS, u.oneCell' = true) := by rw [hXS]; exact fl_one _
      have HNW : Hid (∀ j u, XS[j]? = some u → W4.cell? ((⟨rb, 0, none⟩ : Addr).add j) = some u) := fun j u hu => by
        rw [add_none]; rw [hXS] at hu; exact HJ4.out.rm.range j u hu
      have HAP : Hid (∀ v1 w1, w1.ownsRow W4.heap.size 43 3 v1 (0 + n) ([] ++ XS) → W4.grownBy w1 (Value.slice none 0 0).ownBlock → ∃ wb kw, v1 = .slice (some ⟨wb, 0, none⟩) n kw ∧ Hid (w1.rangeAt wb 0 (fl L)) ∧ W4.heap.size ≤ wb ∧ n ≤ kw ∧ kw ≤ maxLen ∧ Hid (Below W4.heap.size W4 w1)) := fun v1 w1 ho hg => by
        rw [List.nil_append, Nat.zero_add] at ho
        have hb : Below W4.heap.size W4 w1 := (Below.refl _ _).grown hg (Nat.le_refl _) (fun k e => by simp [Value.ownBlock] at e)
        rcases ho.2 with ⟨e1, e2⟩ | ⟨g, cp, cur, rfl, e2, e3, e4, e5, e6, e7⟩
        · omega
        · refine ⟨g, cp, rfl, fun j u hu => ?_, e2, e4, e5, hb⟩
          rw [Nat.zero_add, cell_of_row _ _ _ _ _ _ e3, ← Array.getElem?_toList]
          rw [← hXS] at hu
          have hj : j < n * 3 := by rw [← HXL.out]; exact (List.getElem?_eq_some_iff.1 hu).1
          rw [← e7, List.getElem?_take_of_lt hj] at hu
          exact hu
      have HOE : Hid (W4.ownsRow W4.heap.size 43 3 (.slice none 0 0) 0 []) := World.ownsRow_nil _ _ _ _
      have HSZ : Hid _ := hS0
      have HZ3 : Hid (ZC.size = 3) := by show _ = _; rw [HZC.out]; rfl
      have heqf := fun W b c => eq_nilf W b c
      clear hXS hS0
      go_wp2_with (first | (at_builtin; refine wpList_append_own _ rfl _ (.tmp 70) 28 rfl W4.heap.size 43 i0 (.agg ZC) 3 24 Try.underlying28 hi hz0 hz1 hz2 HZ3.out (by decide) (.slice none 0 0) 0 [] rfl HOE.out ⟨rb, 0, none⟩ n n XS rfl HXL.out HNW.out HO1.out (by unfold maxLen; omega) (by omega) (by simp) ?_; intro v1 w1 hown1 hgr1 hn1; obtain ⟨wb, kw, rfl, HRW, hwb, hkw, hkm, HBW⟩ := HAP.out v1 w1 hown1 hgr1; clear hown1 hgr1 HAP hn1) | fail)
      obtain ⟨W5, hW5⟩ : ∃ W5, W5 = w1.alloc (.cells #[.slice (some ⟨wb, 0, none⟩) n kw] 28 (0, 0)) := ⟨_, rfl⟩
      have hb5 : Below W4.heap.size W4 W5 := by rw [hW5]; exact HBW.out.alloc HBW.out.size _
      have hsw := HBW.out.size
      have HJ5 : Hid _ := HJ4.out.below hb5
      have HC5 : Hid _ := HC4.out.step hb5
      have HEX5 : Hid (EX W5 S0 mc cp1 k1 fb ob cp2 k2 w1.heap.size wb kw n o L) := by
        refine ⟨HPR4.out.below hb5, HOH4.out.below hb5, ?_, ?_, hmcS, hcp1S, by omega, by omega, by omega, by omega, by omega⟩
        · rw [hW5, cell_of_row _ _ 0 _ _ _ (heap_alloc_new _ _)]; rfl
        · rw [hW5]; exact rangeAt_below HRW.out ((Below.refl _ _).alloc (Nat.le_refl _) _)
      rw [← hW5]
      generalize w1.heap.size = ws at *
      have HSM : Hid (Calls Try.prog 17 #[.pointer (some ⟨mc, 0, none⟩), .pointer (some ⟨tb, 0, none⟩)] W5 fun e w' => e = .returned (.bool true) ∧ Below W5.heap.size W5 w') := by
        show Calls _ _ _ _ _
        have := same_ok mc cp1 k1 tb gb n n L L W5 HEX5.out.pr HJ5.out.pm.pr
        rw [lq_self] at this
        exact this
      clear hW5 hb5 HRW HBW HNW HO1 HXL HOE HJ4 HC4 HPR4 HOH4 hi hz0 hz1 hz2 hwb hsw HSZ hs3 hs4 hfb hob hcp2 hmcS hcp1S HZC HZ3
      refine Calls.mono HSM.out ?_
      rintro e W7 ⟨rfl, hb7⟩
      have HJ7 : Hid (JM (w.heap.size + 3) W7 tb gb rb n (runB L ms 0)) := HJ5.out.below hb7
      have HC7 : Hid _ := HC5.out.step hb7
      have HEX7 : Hid _ := HEX5.out.below hb7
      clear hb7 HJ5 HC5 HEX5 HSM heqf
      go_wp2
      go_loopw [18] (fun i wr => ∃ k : Nat, k ≤ ms.length ∧ i = .int .i64 k ∧ JM (w.heap.size + 3) wr tb gb rb n (runB L ms k) ∧ C7 w wr n o false ∧ EX wr S0 mc cp1 k1 fb ob cp2 k2 ws wb kw n o L) (fun i _ => ms.length - (intOf i).toNat)
      case atStart => exact ⟨0, Nat.zero_le _, rfl, HJ7.out, HC7.out, HEX7.out⟩
      case round =>
        clear HJ7 HC7 HEX7
        obtain ⟨k, hk, rfl, hJ, hC, hE⟩ := hrel
        generalize wr = W at *
        have HJ : Hid _ := hJ
        have HC : Hid _ := hC
        have HE : Hid _ := hE
        clear hJ hC hE
        by_cases hlt : k < ms.length
        · have hkI : (k : Int) < (ms.length : Int) := by omega
          -- one act: ms the list, L the rows at the start, HMS the acts' facts, HHM.out how often a granule was held at most at the start
          obtain ⟨ac, hac⟩ : ∃ ac, ms[k]? = some ac := ⟨_, List.getElem?_eq_getElem hlt⟩
          obtain ⟨ag, ao, rfl, hra, hok⟩ := HMS.out k ac hac
          have hra2 := rangeAt_below hra HC.out.bel
          have hdo := do_any (w.heap.size + 3) tb gb rb n (runB L ms k) ac W HJ.out hok (((HHM.out).run ms k hk).lt (by omega))
          rw [← runB_succ _ ms k ac hac] at hdo
          have HDO : Hid _ := hdo
          obtain ⟨AL, hAL⟩ : ∃ L, L = acL ac := ⟨_, rfl⟩
          rw [← hAL] at hra2 HDO
          have HRA : Hid _ := hra2
          have HAI : Hid _ := info5 AL (by rw [hAL]; rfl)
          clear hra hra2 hok hac hAL hdo
          go_wp2_with (refine wpList_load_mid rfl 34 _ rfl ag (ao + k * 5) rfl AL _ HRA.out Try.underlying34 rfl HAI.out ?_)
          refine Calls.mono HDO.out ?_
          rintro e W2 ⟨rfl, hJ2, hK2⟩
          have HC2 : Hid _ := HC.out.ks hK2 HJ.out.ge
          have HJ2 : Hid _ := hJ2
          have HE2 : Hid _ := HE.out.ks hK2 HLT.out
          clear hJ2 hK2 HDO HRA HAI
          go_wp2
          go_roundw
          case rel => exact ⟨k + 1, by omega, by go_num, HJ2.out, HC2.out, HE2.out⟩
          case measure => simp [intOf]; omega
        · have hke : k = ms.length := by omega
          subst hke
          clear hk hlt HMS HHM HLT HGE
          generalize runB L ms ms.length = M at *
          have HMl : Hid (M.length = n) := HJ.out.pm.len
          have HLl : Hid (L.length = n) := HE.out.pr.len
          go_wp2
          go_loopw [19, 20, 21] (fun c sm i wr => ∃ (k m : Nat) (SM : Bool), k ≤ n ∧ i = .int .i64 k ∧ c = .int .i64 m ∧ sm = .bool SM ∧ Hid (m = cnt s o (M.take k)) ∧ Hid (SM = true ↔ ∀ j, j < k → M[j]? = L[j]?) ∧ JM (w.heap.size + 3) wr tb gb rb n M ∧ C7 w wr n o false ∧ EX wr S0 mc cp1 k1 fb ob cp2 k2 ws wb kw n o L) (fun _ _ i _ => n - (intOf i).toNat)
          case atStart => exact ⟨0, 0, true, Nat.zero_le _, rfl, rfl, rfl, by show _ = _; simp [cnt], ⟨fun _ j hj => absurd hj (Nat.not_lt_zero _), fun _ => rfl⟩, HJ.out, HC.out, HE.out⟩
          case round =>
            clear HJ HC HE
            obtain ⟨k, m, SM, hk, rfl, rfl, rfl, HM, HSM, hJ, hC, hE⟩ := hrel
            generalize wr = W at *
            have HJ : Hid _ := hJ
            have HC : Hid _ := hC
            have HE : Hid _ := hE
            clear hJ hC hE
            obtain ⟨hgn, hgo, _, _⟩ := HC.out.facts
            by_cases hlt : k < n
            · have hkI : (k : Int) < (n : Int) := by omega
              have hml : m ≤ 4096 := by have := cnt_le s o M k; have := HM.out; omega
              obtain ⟨r, hr⟩ : ∃ r, M[k]? = some r := ⟨_, List.getElem?_eq_getElem (by rw [HMl.out]; exact hlt)⟩
              obtain ⟨q, hq⟩ : ∃ q, L[k]? = some q := ⟨_, List.getElem?_eq_getElem (by rw [HLl.out]; exact hlt)⟩
              have hnx := cnt_take s o M k r hr
              rw [← HM.out] at hnx
              have HRM : Hid (∀ X, Below W.heap.size W X → X.rangeAt rb (k * 3) (rL r)) := fun X hX => range_row (HJ.out.below hX).rm.range hr
              have HRL : Hid (∀ X, Below W.heap.size W X → X.rangeAt wb (k * 3) (rL q)) := fun X hX => range_row (HE.out.below hX).wr hq
              have HCO : Hid (∀ X, Below W.heap.size W X → X.cell? ⟨w.heap.size + 1, 0, none⟩ = some (.int .u64 (o : Int)) ∧ X.cell? ⟨ws, 0, none⟩ = some (.slice (some ⟨wb, 0, none⟩) n kw)) := fun X hX => ⟨(HC.out.step hX).facts.2.1, (HE.out.below hX).wc⟩
              have HCM : Hid (∀ X, Below W.heap.size W X → X.cell? ⟨rb, k * 3, none⟩ = some (.int .i64 r.st) ∧ X.cell? ⟨rb, k * 3 + 1, none⟩ = some (.int .u64 (r.ow : Int))) := fun X hX => ⟨(range_cells (HRM.out X hX)).1, (range_cells (HRM.out X hX)).2.1⟩
              obtain ⟨bq, hbq⟩ : ∃ b, rq r q = b := ⟨_, rfl⟩
              have heq : ∀ W, (Op.equalIn 10000 43 (.agg (rL r).toArray) (.agg (rL q).toArray)).run Try.prog W = .ok bq W := fun W => by rw [← hbq]; exact eqI_rw W r q
              have HBQ : Hid (bq = true ↔ M[k]? = L[k]?) := by
                show _ ↔ _
                rw [hr, hq, ← hbq, rq_iff, Option.some.injEq]
              have HI1 : Hid _ := info3 (rL r) rfl
              have HI2 : Hid _ := info3 (rL q) rfl
              generalize rL r = G1 at *
              generalize rL q = G2 at *
              obtain ⟨st, ow, held⟩ := r
              unfold hit at hnx
              simp only at hnx HCM
              clear hbq hr hq
              by_cases hs : st = s
              · by_cases ho : ow = o
                · rw [if_pos (by simp [hs, ho])] at hnx
                  have HNX : Hid _ := hnx
                  have hsI : (st == s) = true := by simpa using hs
                  have hoI : ((ow : Int) == (o : Int)) = true := by rw [beq_iff_eq]; omega
                  clear hnx hs ho HM
                  go_wp2_with fail
                  refine wp_only ?_
                  refine wp_region_held_drew (S := Below W.heap.size W) (by kernel_rfl) (below_drew _) (fun hHeld => ?_)
                  generalize W.drew = X1 at *
                  refine wpAnyH_take (i := 0) (oi := { dst := some 103, op := Go.Op.move (Go.Operand.tmp 13), type := 28, pos := _, after := #[], guard := none }) (v := .slice (some ⟨rb, 0, none⟩) n n) rfl (by kernel_rfl) (by kernel_rfl) (by kernel_rfl) (fun _ _ _ h => h) (Or.inl ⟨by rfl, fun w' hw' => ?_⟩) hHeld ?_
                  · first | (go_simp; done) | (go_simp; rfl)
                  try simp only [Act.put, List.setIfInBounds_toArray, List.set_cons_zero, List.set_cons_succ]
                  refine wpAnyH_take (i := 1) (oi := { dst := some 104, op := Go.Op.move (Go.Operand.tmp 21), type := 3, pos := _, after := #[], guard := none }) (v := .int .i64 (k : Int)) rfl (by kernel_rfl) (by kernel_rfl) (by kernel_rfl) (fun _ _ _ h => h) (Or.inl ⟨by rfl, fun w' hw' => ?_⟩) hHeld ?_
                  · first | (go_simp; done) | (go_simp; rfl)
                  try simp only [Act.put, List.setIfInBounds_toArray, List.set_cons_zero, List.set_cons_succ]
                  refine wpAnyH_take (i := 2) (oi := { dst := some 105, op := Go.Op.indexAddr 28 (Go.Operand.tmp 103) (Go.Operand.tmp 104), type := 0, pos := _, after := #[{ on := 0, ground := Go.Ground.data }, { on := 1, ground := Go.Ground.data }], guard := none }) (v := .pointer (some ⟨rb, k * 3, none⟩)) rfl (by kernel_rfl) (by kernel_rfl) (by kernel_rfl) (fun _ _ _ h => h) (Or.inl ⟨by rfl, fun w' hw' => ?_⟩) hHeld ?_
                  · first | (go_simp; done) | (go_simp; rfl)
                  try simp only [Act.put, List.setIfInBounds_toArray, List.set_cons_zero, List.set_cons_succ]
                  refine wpAnyH_take (i := 3) (oi := { dst := some 106, op := Go.Op.fieldAddr 43 (Go.Operand.tmp 105) 0, type := 0, pos := _, after := #[{ on := 2, ground := Go.Ground.data }], guard := none }) (v := .pointer (some ⟨rb, k * 3, none⟩)) rfl (by kernel_rfl) (by kernel_rfl) (by kernel_rfl) (fun _ _ _ h => h) (Or.inl ⟨by rfl, fun w' hw' => ?_⟩) hHeld ?_
                  · first | (go_simp; done) | (go_simp; rfl)
                  try simp only [Act.put, List.setIfInBounds_toArray, List.set_cons_zero, List.set_cons_succ]
                  refine wpAnyH_take (i := 4) (oi := { dst := some 107, op := Go.Op.load 31 (Go.Operand.tmp 106), type := 31, pos := _, after := #[{ on := 3, ground := Go.Ground.data }], guard := none }) (v := .int .i64 st) rfl (by kernel_rfl) (by kernel_rfl) (by kernel_rfl) (fun _ _ _ h => h) (Or.inl ⟨by rfl, fun w' hw' => ?_⟩) hHeld ?_
                  · have hcc := (HCM.out _ hw').1; first | (go_simp; done) | (go_simp; rfl)
                  try simp only [Act.put, List.setIfInBounds_toArray, List.set_cons_zero, List.set_cons_succ]
                  refine wpAnyH_take (i := 5) (oi := { dst := some 108, op := Go.Op.move (Go.Operand.tmp 3), type := 31, pos := _, after := #[], guard := none }) (v := .int .i64 s) rfl (by kernel_rfl) (by kernel_rfl) (by kernel_rfl) (fun _ _ _ h => h) (Or.inl ⟨by rfl, fun w' hw' => ?_⟩) hHeld ?_
                  · first | (go_simp; done) | (go_simp; rfl)
                  try simp only [Act.put, List.setIfInBounds_toArray, List.set_cons_zero, List.set_cons_succ]
                  refine wpAnyH_take (i := 6) (oi := { dst := some 109, op := Go.Op.binOp Go.BinOp.eql 31 (Go.Operand.tmp 107) (Go.Operand.tmp 108) 31, type := 4, pos := _, after := #[{ on := 4, ground := Go.Ground.data }, { on := 5, ground := Go.Ground.data }], guard := none }) (v := .bool true) rfl (by kernel_rfl) (by kernel_rfl) (by kernel_rfl) (fun _ _ _ h => h) (Or.inl ⟨by rfl, fun w' hw' => ?_⟩) hHeld ?_
                  · first | (go_simp; done) | (go_simp; rfl)
                  try simp only [Act.put, List.setIfInBounds_toArray, List.set_cons_zero, List.set_cons_succ]
                  refine wpAnyH_take (i := 7) (oi := { dst := some 110, op := Go.Op.move (Go.Operand.tmp 109), type := 4, pos := _, after := #[{ on := 6, ground := Go.Ground.data }], guard := none }) (v := .bool true) rfl (by kernel_rfl) (by kernel_rfl) (by kernel_rfl) (fun _ _ _ h => h) (Or.inl ⟨by rfl, fun w' hw' => ?_⟩) hHeld ?_
                  · first | (go_simp; done) | (go_simp; rfl)
                  try simp only [Act.put, List.setIfInBounds_toArray, List.set_cons_zero, List.set_cons_succ]
                  refine wpAnyH_take (i := 8) (oi := { dst := some 111, op := Go.Op.move (Go.Operand.tmp 13), type := 28, pos := _, after := #[{ on := 7, ground := Go.Ground.guard }], guard := some (7, true) }) (v := .slice (some ⟨rb, 0, none⟩) n n) rfl (by kernel_rfl) (by kernel_rfl) (by kernel_rfl) (fun _ _ _ h => h) (Or.inl ⟨by rfl, fun w' hw' => ?_⟩) hHeld ?_
                  · first | (go_simp; done) | (go_simp; rfl)
                  try simp only [Act.put, List.setIfInBounds_toArray, List.set_cons_zero, List.set_cons_succ]
                  refine wpAnyH_take (i := 9) (oi := { dst := some 112, op := Go.Op.move (Go.Operand.tmp 21), type := 3, pos := _, after := #[{ on := 7, ground := Go.Ground.guard }], guard := some (7, true) }) (v := .int .i64 (k : Int)) rfl (by kernel_rfl) (by kernel_rfl) (by kernel_rfl) (fun _ _ _ h => h) (Or.inl ⟨by rfl, fun w' hw' => ?_⟩) hHeld ?_
                  · first | (go_simp; done) | (go_simp; rfl)
                  try simp only [Act.put, List.setIfInBounds_toArray, List.set_cons_zero, List.set_cons_succ]
                  refine wpAnyH_take (i := 10) (oi := { dst := some 113, op := Go.Op.indexAddr 28 (Go.Operand.tmp 111) (Go.Operand.tmp 112), type := 0, pos := _, after := #[{ on := 8, ground := Go.Ground.data }, { on := 9, ground := Go.Ground.data }, { on := 7, ground := Go.Ground.guard }], guard := some (7, true) }) (v := .pointer (some ⟨rb, k * 3, none⟩)) rfl (by kernel_rfl) (by kernel_rfl) (by kernel_rfl) (fun _ _ _ h => h) (Or.inl ⟨by rfl, fun w' hw' => ?_⟩) hHeld ?_
                  · first | (go_simp; done) | (go_simp; rfl)
                  try simp only [Act.put, List.setIfInBounds_toArray, List.set_cons_zero, List.set_cons_succ]
                  refine wpAnyH_take (i := 11) (oi := { dst := some 114, op := Go.Op.fieldAddr 43 (Go.Operand.tmp 113) 1, type := 0, pos := _, after := #[{ on := 10, ground := Go.Ground.data }, { on := 7, ground := Go.Ground.guard }], guard := some (7, true) }) (v := .pointer (some ⟨rb, k * 3 + 1, none⟩)) rfl (by kernel_rfl) (by kernel_rfl) (by kernel_rfl) (fun _ _ _ h => h) (Or.inl ⟨by rfl, fun w' hw' => ?_⟩) hHeld ?_
                  · first | (go_simp; done) | (go_simp; rfl)
                  try simp only [Act.put, List.setIfInBounds_toArray, List.set_cons_zero, List.set_cons_succ]
                  refine wpAnyH_take (i := 12) (oi := { dst := some 115, op := Go.Op.load 32 (Go.Operand.tmp 114), type := 32, pos := _, after := #[{ on := 11, ground := Go.Ground.data }, { on := 7, ground := Go.Ground.guard }], guard := some (7, true) }) (v := .int .u64 (ow : Int)) rfl (by kernel_rfl) (by kernel_rfl) (by kernel_rfl) (fun _ _ _ h => h) (Or.inl ⟨by rfl, fun w' hw' => ?_⟩) hHeld ?_
                  · have hcc := (HCM.out _ hw').2; first | (go_simp; done) | (go_simp; rfl)
                  try simp only [Act.put, List.setIfInBounds_toArray, List.set_cons_zero, List.set_cons_succ]
                  refine wpAnyH_take (i := 13) (oi := { dst := some 116, op := Go.Op.load 32 (Go.Operand.tmp 9), type := 32, pos := _, after := #[{ on := 7, ground := Go.Ground.guard }], guard := some (7, true) }) (v := .int .u64 (o : Int)) rfl (by kernel_rfl) (by kernel_rfl) (by kernel_rfl) (fun _ _ _ h => h) (Or.inl ⟨by rfl, fun w' hw' => ?_⟩) hHeld ?_
                  · have hcc := (HCO.out _ hw').1; first | (go_simp; done) | (go_simp; rfl)
                  try simp only [Act.put, List.setIfInBounds_toArray, List.set_cons_zero, List.set_cons_succ]
                  refine wpAnyH_take (i := 14) (oi := { dst := some 117, op := Go.Op.binOp Go.BinOp.eql 32 (Go.Operand.tmp 115) (Go.Operand.tmp 116) 32, type := 4, pos := _, after := #[{ on := 12, ground := Go.Ground.data }, { on := 13, ground := Go.Ground.data }, { on := 7, ground := Go.Ground.guard }], guard := some (7, true) }) (v := .bool true) rfl (by kernel_rfl) (by kernel_rfl) (by kernel_rfl) (fun _ _ _ h => h) (Or.inl ⟨by rfl, fun w' hw' => ?_⟩) hHeld ?_
                  · first | (go_simp; done) | (go_simp; rfl)
                  try simp only [Act.put, List.setIfInBounds_toArray, List.set_cons_zero, List.set_cons_succ]
                  refine wpAnyH_take (i := 15) (oi := { dst := some 118, op := Go.Op.pick (Go.Operand.tmp 110) (Go.Operand.tmp 117) (Go.Operand.const (Go.Value.bool false)), type := 4, pos := _, after := #[{ on := 7, ground := Go.Ground.data }, { on := 14, ground := Go.Ground.data }], guard := none }) (v := .bool true) rfl (by kernel_rfl) (by kernel_rfl) (by kernel_rfl) (fun _ _ _ h => h) (Or.inl ⟨by rfl, fun w' hw' => ?_⟩) hHeld ?_
                  · first | (go_simp; done) | (go_simp; rfl)
                  try simp only [Act.put, List.setIfInBounds_toArray, List.set_cons_zero, List.set_cons_succ]
                  refine wpAnyH_done (by kernel_rfl) ?_ _
                  -- m + 1 how many
                  go_wp2_with fail
                  refine wp_only ?_
                  refine wp_region_held_drew (S := Below W.heap.size W) (by kernel_rfl) hHeld.drew (fun hHeld2 => ?_)
                  clear hHeld
                  have hHeld := hHeld2
                  generalize X1.drew = X2 at *
                  cases SM with
                  | true =>
                    refine wpAnyH_take (i := 0) (oi := { dst := some 121, op := Go.Op.move (Go.Operand.tmp 20), type := 4, pos := _, after := #[], guard := none }) (v := .bool true) rfl (by kernel_rfl) (by kernel_rfl) (by kernel_rfl) (fun _ _ _ h => h) (Or.inl ⟨by rfl, fun w' hw' => ?_⟩) hHeld ?_
                    · first | (go_simp; done) | (go_simp; rfl)
                    try simp only [Act.put, List.setIfInBounds_toArray, List.set_cons_zero, List.set_cons_succ]
                    refine wpAnyH_take (i := 1) (oi := { dst := some 122, op := Go.Op.move (Go.Operand.tmp 121), type := 4, pos := _, after := #[{ on := 0, ground := Go.Ground.data }], guard := none }) (v := .bool true) rfl (by kernel_rfl) (by kernel_rfl) (by kernel_rfl) (fun _ _ _ h => h) (Or.inl ⟨by rfl, fun w' hw' => ?_⟩) hHeld ?_
                    · first | (go_simp; done) | (go_simp; rfl)
                    try simp only [Act.put, List.setIfInBounds_toArray, List.set_cons_zero, List.set_cons_succ]
                    refine wpAnyH_take (i := 2) (oi := { dst := some 123, op := Go.Op.move (Go.Operand.tmp 13), type := 28, pos := _, after := #[{ on := 1, ground := Go.Ground.guard }], guard := some (1, true) }) (v := .slice (some ⟨rb, 0, none⟩) n n) rfl (by kernel_rfl) (by kernel_rfl) (by kernel_rfl) (fun _ _ _ h => h) (Or.inl ⟨by rfl, fun w' hw' => ?_⟩) hHeld ?_
                    · first | (go_simp; done) | (go_simp; rfl)
                    try simp only [Act.put, List.setIfInBounds_toArray, List.set_cons_zero, List.set_cons_succ]
                    refine wpAnyH_take (i := 3) (oi := { dst := some 124, op := Go.Op.move (Go.Operand.tmp 21), type := 3, pos := _, after := #[{ on := 1, ground := Go.Ground.guard }], guard := some (1, true) }) (v := .int .i64 (k : Int)) rfl (by kernel_rfl) (by kernel_rfl) (by kernel_rfl) (fun _ _ _ h => h) (Or.inl ⟨by rfl, fun w' hw' => ?_⟩) hHeld ?_
                    · first | (go_simp; done) | (go_simp; rfl)
                    try simp only [Act.put, List.setIfInBounds_toArray, List.set_cons_zero, List.set_cons_succ]
                    refine wpAnyH_take (i := 4) (oi := { dst := some 125, op := Go.Op.indexAddr 28 (Go.Operand.tmp 123) (Go.Operand.tmp 124), type := 0, pos := _, after := #[{ on := 2, ground := Go.Ground.data }, { on := 3, ground := Go.Ground.data }, { on := 1, ground := Go.Ground.guard }], guard := some (1, true) }) (v := .pointer (some ⟨rb, k * 3, none⟩)) rfl (by kernel_rfl) (by kernel_rfl) (by kernel_rfl) (fun _ _ _ h => h) (Or.inl ⟨by rfl, fun w' hw' => ?_⟩) hHeld ?_
                    · first | (go_simp; done) | (go_simp; rfl)
                    try simp only [Act.put, List.setIfInBounds_toArray, List.set_cons_zero, List.set_cons_succ]
                    refine wpAnyH_take (i := 5) (oi := { dst := some 126, op := Go.Op.load 43 (Go.Operand.tmp 125), type := 43, pos := _, after := #[{ on := 4, ground := Go.Ground.data }, { on := 1, ground := Go.Ground.guard }], guard := some (1, true) }) rfl (by kernel_rfl) (by kernel_rfl) (by kernel_rfl) (fun _ _ _ h => h) (yieldsIf_load_mid (by rfl) 43 (.tmp 125) rfl (rb) (k * 3) rfl (G1) _ (fun _ h => HRM.out _ h) Try.underlying43 rfl HI1.out) hHeld ?_
                    try simp only [Act.put, List.setIfInBounds_toArray, List.set_cons_zero, List.set_cons_succ]
                    refine wpAnyH_take (i := 6) (oi := { dst := some 127, op := Go.Op.load 28 (Go.Operand.tmp 17), type := 28, pos := _, after := #[{ on := 1, ground := Go.Ground.guard }], guard := some (1, true) }) (v := .slice (some ⟨wb, 0, none⟩) n kw) rfl (by kernel_rfl) (by kernel_rfl) (by kernel_rfl) (fun _ _ _ h => h) (Or.inl ⟨by rfl, fun w' hw' => ?_⟩) hHeld ?_
                    · have hcc := (HCO.out _ hw').2; first | (go_simp; done) | (go_simp; rfl)
                    try simp only [Act.put, List.setIfInBounds_toArray, List.set_cons_zero, List.set_cons_succ]
                    refine wpAnyH_take (i := 7) (oi := { dst := some 128, op := Go.Op.move (Go.Operand.tmp 21), type := 3, pos := _, after := #[{ on := 1, ground := Go.Ground.guard }], guard := some (1, true) }) (v := .int .i64 (k : Int)) rfl (by kernel_rfl) (by kernel_rfl) (by kernel_rfl) (fun _ _ _ h => h) (Or.inl ⟨by rfl, fun w' hw' => ?_⟩) hHeld ?_
                    · first | (go_simp; done) | (go_simp; rfl)
                    try simp only [Act.put, List.setIfInBounds_toArray, List.set_cons_zero, List.set_cons_succ]
                    refine wpAnyH_take (i := 8) (oi := { dst := some 129, op := Go.Op.indexAddr 28 (Go.Operand.tmp 127) (Go.Operand.tmp 128), type := 0, pos := _, after := #[{ on := 6, ground := Go.Ground.data }, { on := 7, ground := Go.Ground.data }, { on := 1, ground := Go.Ground.guard }], guard := some (1, true) }) (v := .pointer (some ⟨wb, k * 3, none⟩)) rfl (by kernel_rfl) (by kernel_rfl) (by kernel_rfl) (fun _ _ _ h => h) (Or.inl ⟨by rfl, fun w' hw' => ?_⟩) hHeld ?_
                    · first | (go_simp; done) | (go_simp; rfl)
                    try simp only [Act.put, List.setIfInBounds_toArray, List.set_cons_zero, List.set_cons_succ]
                    refine wpAnyH_take (i := 9) (oi := { dst := some 130, op := Go.Op.load 43 (Go.Operand.tmp 129), type := 43, pos := _, after := #[{ on := 8, ground := Go.Ground.data }, { on := 1, ground := Go.Ground.guard }], guard := some (1, true) }) rfl (by kernel_rfl) (by kernel_rfl) (by kernel_rfl) (fun _ _ _ h => h) (yieldsIf_load_mid (by rfl) 43 (.tmp 129) rfl (wb) (k * 3) rfl (G2) _ (fun _ h => HRL.out _ h) Try.underlying43 rfl HI2.out) hHeld ?_
                    try simp only [Act.put, List.setIfInBounds_toArray, List.set_cons_zero, List.set_cons_succ]
                    refine wpAnyH_take (i := 10) (oi := { dst := some 131, op := Go.Op.binOp Go.BinOp.eql 43 (Go.Operand.tmp 126) (Go.Operand.tmp 130) 43, type := 4, pos := _, after := #[{ on := 5, ground := Go.Ground.data }, { on := 9, ground := Go.Ground.data }, { on := 1, ground := Go.Ground.guard }], guard := some (1, true) }) (v := .bool bq) rfl (by kernel_rfl) (by kernel_rfl) (by kernel_rfl) (fun _ _ _ h => h) (Or.inl ⟨by rfl, fun w' hw' => ?_⟩) hHeld ?_
                    · first | (go_simp; done) | (go_simp; rfl)
                    try simp only [Act.put, List.setIfInBounds_toArray, List.set_cons_zero, List.set_cons_succ]
                    refine wpAnyH_take (i := 11) (oi := { dst := some 132, op := Go.Op.pick (Go.Operand.tmp 122) (Go.Operand.tmp 131) (Go.Operand.const (Go.Value.bool false)), type := 4, pos := _, after := #[{ on := 1, ground := Go.Ground.data }, { on := 10, ground := Go.Ground.data }], guard := none }) (v := .bool bq) rfl (by kernel_rfl) (by kernel_rfl) (by kernel_rfl) (fun _ _ _ h => h) (Or.inl ⟨by rfl, fun w' hw' => ?_⟩) hHeld ?_
                    · first | (go_simp; done) | (go_simp; rfl)
                    try simp only [Act.put, List.setIfInBounds_toArray, List.set_cons_zero, List.set_cons_succ]
                    refine wpAnyH_take (i := 12) (oi := { dst := some 20, op := Go.Op.assign (Go.Operand.tmp 132), type := 4, pos := _, after := #[{ on := 11, ground := Go.Ground.data }, { on := 1, ground := Go.Ground.chain }, { on := 0, ground := Go.Ground.phase }, { on := 1, ground := Go.Ground.phase }, { on := 2, ground := Go.Ground.phase }, { on := 3, ground := Go.Ground.phase }, { on := 4, ground := Go.Ground.phase }, { on := 5, ground := Go.Ground.phase }, { on := 6, ground := Go.Ground.phase }, { on := 7, ground := Go.Ground.phase }, { on := 8, ground := Go.Ground.phase }, { on := 9, ground := Go.Ground.phase }, { on := 10, ground := Go.Ground.phase }, { on := 11, ground := Go.Ground.phase }], guard := none }) (v := .bool bq) rfl (by kernel_rfl) (by kernel_rfl) (by kernel_rfl) (fun _ _ _ h => h) (Or.inl ⟨by rfl, fun w' hw' => ?_⟩) hHeld ?_
                    · first | (go_simp; done) | (go_simp; rfl)
                    try simp only [Act.put, List.setIfInBounds_toArray, List.set_cons_zero, List.set_cons_succ]
                    refine wpAnyH_done (by kernel_rfl) ?_ _
                    have HS2 : Hid (bq = true ↔ ∀ j, j < k + 1 → M[j]? = L[j]?) := sm_true HSM.out HBQ.out
                    have HJ2 : Hid _ := HJ.out.below hHeld2
                    have HC2 : Hid _ := HC.out.step hHeld2
                    have HE2 : Hid _ := HE.out.below hHeld2
                    clear hHeld hHeld2 heq HRM HRL HCO HCM HJ HC HE hgn hgo
                    go_wp2
                    go_roundw
                    case rel => exact ⟨k + 1, m + 1, bq, by omega, by go_num, by go_num, rfl, HNX.out.symm, HS2, HJ2.out, HC2.out, HE2.out⟩
                    case measure => simp [intOf]; omega
                  | false =>
                    refine wpAnyH_take (i := 0) (oi := { dst := some 121, op := Go.Op.move (Go.Operand.tmp 20), type := 4, pos := _, after := #[], guard := none }) (v := .bool false) rfl (by kernel_rfl) (by kernel_rfl) (by kernel_rfl) (fun _ _ _ h => h) (Or.inl ⟨by rfl, fun w' hw' => ?_⟩) hHeld ?_
                    · first | (go_simp; done) | (go_simp; rfl)
                    try simp only [Act.put, List.setIfInBounds_toArray, List.set_cons_zero, List.set_cons_succ]
                    refine wpAnyH_take (i := 1) (oi := { dst := some 122, op := Go.Op.move (Go.Operand.tmp 121), type := 4, pos := _, after := #[{ on := 0, ground := Go.Ground.data }], guard := none }) (v := .bool false) rfl (by kernel_rfl) (by kernel_rfl) (by kernel_rfl) (fun _ _ _ h => h) (Or.inl ⟨by rfl, fun w' hw' => ?_⟩) hHeld ?_
                    · first | (go_simp; done) | (go_simp; rfl)
                    try simp only [Act.put, List.setIfInBounds_toArray, List.set_cons_zero, List.set_cons_succ]
                    refine wpAnyH_take (i := 2) (oi := { dst := some 123, op := Go.Op.move (Go.Operand.tmp 13), type := 28, pos := _, after := #[{ on := 1, ground := Go.Ground.guard }], guard := some (1, true) }) (v := undef) rfl (by kernel_rfl) (by kernel_rfl) (by kernel_rfl) (fun _ _ _ h => h) (Or.inr ⟨by rfl, rfl⟩) hHeld ?_
                    try simp only [Act.put, List.setIfInBounds_toArray, List.set_cons_zero, List.set_cons_succ]
                    refine wpAnyH_take (i := 3) (oi := { dst := some 124, op := Go.Op.move (Go.Operand.tmp 21), type := 3, pos := _, after := #[{ on := 1, ground := Go.Ground.guard }], guard := some (1, true) }) (v := undef) rfl (by kernel_rfl) (by kernel_rfl) (by kernel_rfl) (fun _ _ _ h => h) (Or.inr ⟨by rfl, rfl⟩) hHeld ?_
                    try simp only [Act.put, List.setIfInBounds_toArray, List.set_cons_zero, List.set_cons_succ]
                    refine wpAnyH_take (i := 4) (oi := { dst := some 125, op := Go.Op.indexAddr 28 (Go.Operand.tmp 123) (Go.Operand.tmp 124), type := 0, pos := _, after := #[{ on := 2, ground := Go.Ground.data }, { on := 3, ground := Go.Ground.data }, { on := 1, ground := Go.Ground.guard }], guard := some (1, true) }) (v := undef) rfl (by kernel_rfl) (by kernel_rfl) (by kernel_rfl) (fun _ _ _ h => h) (Or.inr ⟨by rfl, rfl⟩) hHeld ?_
                    try simp only [Act.put, List.setIfInBounds_toArray, List.set_cons_zero, List.set_cons_succ]
                    refine wpAnyH_take (i := 5) (oi := { dst := some 126, op := Go.Op.load 43 (Go.Operand.tmp 125), type := 43, pos := _, after := #[{ on := 4, ground := Go.Ground.data }, { on := 1, ground := Go.Ground.guard }], guard := some (1, true) }) (v := undef) rfl (by kernel_rfl) (by kernel_rfl) (by kernel_rfl) (fun _ _ _ h => h) (Or.inr ⟨by rfl, rfl⟩) hHeld ?_
                    try simp only [Act.put, List.setIfInBounds_toArray, List.set_cons_zero, List.set_cons_succ]
                    refine wpAnyH_take (i := 6) (oi := { dst := some 127, op := Go.Op.load 28 (Go.Operand.tmp 17), type := 28, pos := _, after := #[{ on := 1, ground := Go.Ground.guard }], guard := some (1, true) }) (v := undef) rfl (by kernel_rfl) (by kernel_rfl) (by kernel_rfl) (fun _ _ _ h => h) (Or.inr ⟨by rfl, rfl⟩) hHeld ?_
                    try simp only [Act.put, List.setIfInBounds_toArray, List.set_cons_zero, List.set_cons_succ]
                    refine wpAnyH_take (i := 7) (oi := { dst := some 128, op := Go.Op.move (Go.Operand.tmp 21), type := 3, pos := _, after := #[{ on := 1, ground := Go.Ground.guard }], guard := some (1, true) }) (v := undef) rfl (by kernel_rfl) (by kernel_rfl) (by kernel_rfl) (fun _ _ _ h => h) (Or.inr ⟨by rfl, rfl⟩) hHeld ?_
                    try simp only [Act.put, List.setIfInBounds_toArray, List.set_cons_zero, List.set_cons_succ]
                    refine wpAnyH_take (i := 8) (oi := { dst := some 129, op := Go.Op.indexAddr 28 (Go.Operand.tmp 127) (Go.Operand.tmp 128), type := 0, pos := _, after := #[{ on := 6, ground := Go.Ground.data }, { on := 7, ground := Go.Ground.data }, { on := 1, ground := Go.Ground.guard }], guard := some (1, true) }) (v := undef) rfl (by kernel_rfl) (by kernel_rfl) (by kernel_rfl) (fun _ _ _ h => h) (Or.inr ⟨by rfl, rfl⟩) hHeld ?_
                    try simp only [Act.put, List.setIfInBounds_toArray, List.set_cons_zero, List.set_cons_succ]
                    refine wpAnyH_take (i := 9) (oi := { dst := some 130, op := Go.Op.load 43 (Go.Operand.tmp 129), type := 43, pos := _, after := #[{ on := 8, ground := Go.Ground.data }, { on := 1, ground := Go.Ground.guard }], guard := some (1, true) }) (v := undef) rfl (by kernel_rfl) (by kernel_rfl) (by kernel_rfl) (fun _ _ _ h => h) (Or.inr ⟨by rfl, rfl⟩) hHeld ?_
                    try simp only [Act.put, List.setIfInBounds_toArray, List.set_cons_zero, List.set_cons_succ]
                    refine wpAnyH_take (i := 10) (oi := { dst := some 131, op := Go.Op.binOp Go.BinOp.eql 43 (Go.Operand.tmp 126) (Go.Operand.tmp 130) 43, type := 4, pos := _, after := #[{ on := 5, ground := Go.Ground.data }, { on := 9, ground := Go.Ground.data }, { on := 1, ground := Go.Ground.guard }], guard := some (1, true) }) (v := undef) rfl (by kernel_rfl) (by kernel_rfl) (by kernel_rfl) (fun _ _ _ h => h) (Or.inr ⟨by rfl, rfl⟩) hHeld ?_
                    try simp only [Act.put, List.setIfInBounds_toArray, List.set_cons_zero, List.set_cons_succ]
                    refine wpAnyH_take (i := 11) (oi := { dst := some 132, op := Go.Op.pick (Go.Operand.tmp 122) (Go.Operand.tmp 131) (Go.Operand.const (Go.Value.bool false)), type := 4, pos := _, after := #[{ on := 1, ground := Go.Ground.data }, { on := 10, ground := Go.Ground.data }], guard := none }) (v := .bool false) rfl (by kernel_rfl) (by kernel_rfl) (by kernel_rfl) (fun _ _ _ h => h) (Or.inl ⟨by rfl, fun w' hw' => ?_⟩) hHeld ?_
                    · first | (go_simp; done) | (go_simp; rfl)
                    try simp only [Act.put, List.setIfInBounds_toArray, List.set_cons_zero, List.set_cons_succ]
                    refine wpAnyH_take (i := 12) (oi := { dst := some 20, op := Go.Op.assign (Go.Operand.tmp 132), type := 4, pos := _, after := #[{ on := 11, ground := Go.Ground.data }, { on := 1, ground := Go.Ground.chain }, { on := 0, ground := Go.Ground.phase }, { on := 1, ground := Go.Ground.phase }, { on := 2, ground := Go.Ground.phase }, { on := 3, ground := Go.Ground.phase }, { on := 4, ground := Go.Ground.phase }, { on := 5, ground := Go.Ground.phase }, { on := 6, ground := Go.Ground.phase }, { on := 7, ground := Go.Ground.phase }, { on := 8, ground := Go.Ground.phase }, { on := 9, ground := Go.Ground.phase }, { on := 10, ground := Go.Ground.phase }, { on := 11, ground := Go.Ground.phase }], guard := none }) (v := .bool false) rfl (by kernel_rfl) (by kernel_rfl) (by kernel_rfl) (fun _ _ _ h => h) (Or.inl ⟨by rfl, fun w' hw' => ?_⟩) hHeld ?_
                    · first | (go_simp; done) | (go_simp; rfl)
                    try simp only [Act.put, List.setIfInBounds_toArray, List.set_cons_zero, List.set_cons_succ]
                    refine wpAnyH_done (by kernel_rfl) ?_ _
                    have HS2 : Hid (false = true ↔ ∀ j, j < k + 1 → M[j]? = L[j]?) := sm_false HSM.out
                    have HJ2 : Hid _ := HJ.out.below hHeld2
                    have HC2 : Hid _ := HC.out.step hHeld2
                    have HE2 : Hid _ := HE.out.below hHeld2
                    clear hHeld hHeld2 heq HRM HRL HCO HCM HJ HC HE hgn hgo
                    go_wp2
                    go_roundw
                    case rel => exact ⟨k + 1, m + 1, false, by omega, by go_num, by go_num, rfl, HNX.out.symm, HS2, HJ2.out, HC2.out, HE2.out⟩
                    case measure => simp [intOf]; omega
                · rw [if_neg (by simp [ho]), Nat.add_zero] at hnx
                  have HNX : Hid _ := hnx
                  have hsI : (st == s) = true := by simpa using hs
                  have hoI : ((ow : Int) == (o : Int)) = false := by rw [beq_eq_false_iff_ne]; omega
                  clear hnx hs ho HM
                  go_wp2_with fail
                  refine wp_only ?_
                  refine wp_region_held_drew (S := Below W.heap.size W) (by kernel_rfl) (below_drew _) (fun hHeld => ?_)
                  generalize W.drew = X1 at *
                  refine wpAnyH_take (i := 0) (oi := { dst := some 103, op := Go.Op.move (Go.Operand.tmp 13), type := 28, pos := _, after := #[], guard := none }) (v := .slice (some ⟨rb, 0, none⟩) n n) rfl (by kernel_rfl) (by kernel_rfl) (by kernel_rfl) (fun _ _ _ h => h) (Or.inl ⟨by rfl, fun w' hw' => ?_⟩) hHeld ?_
                  · first | (go_simp; done) | (go_simp; rfl)
                  try simp only [Act.put, List.setIfInBounds_toArray, List.set_cons_zero, List.set_cons_succ]
                  refine wpAnyH_take (i := 1) (oi := { dst := some 104, op := Go.Op.move (Go.Operand.tmp 21), type := 3, pos := _, after := #[], guard := none }) (v := .int .i64 (k : Int)) rfl (by kernel_rfl) (by kernel_rfl) (by kernel_rfl) (fun _ _ _ h => h) (Or.inl ⟨by rfl, fun w' hw' => ?_⟩) hHeld ?_
                  · first | (go_simp; done) | (go_simp; rfl)
                  try simp only [Act.put, List.setIfInBounds_toArray, List.set_cons_zero, List.set_cons_succ]
                  refine wpAnyH_take (i := 2) (oi := { dst := some 105, op := Go.Op.indexAddr 28 (Go.Operand.tmp 103) (Go.Operand.tmp 104), type := 0, pos := _, after := #[{ on := 0, ground := Go.Ground.data }, { on := 1, ground := Go.Ground.data }], guard := none }) (v := .pointer (some ⟨rb, k * 3, none⟩)) rfl (by kernel_rfl) (by kernel_rfl) (by kernel_rfl) (fun _ _ _ h => h) (Or.inl ⟨by rfl, fun w' hw' => ?_⟩) hHeld ?_
                  · first | (go_simp; done) | (go_simp; rfl)
                  try simp only [Act.put, List.setIfInBounds_toArray, List.set_cons_zero, List.set_cons_succ]
                  refine wpAnyH_take (i := 3) (oi := { dst := some 106, op := Go.Op.fieldAddr 43 (Go.Operand.tmp 105) 0, type := 0, pos := _, after := #[{ on := 2, ground := Go.Ground.data }], guard := none }) (v := .pointer (some ⟨rb, k * 3, none⟩)) rfl (by kernel_rfl) (by kernel_rfl) (by kernel_rfl) (fun _ _ _ h => h) (Or.inl ⟨by rfl, fun w' hw' => ?_⟩) hHeld ?_
                  · first | (go_simp; done) | (go_simp; rfl)
                  try simp only [Act.put, List.setIfInBounds_toArray, List.set_cons_zero, List.set_cons_succ]
                  refine wpAnyH_take (i := 4) (oi := { dst := some 107, op := Go.Op.load 31 (Go.Operand.tmp 106), type := 31, pos := _, after := #[{ on := 3, ground := Go.Ground.data }], guard := none }) (v := .int .i64 st) rfl (by kernel_rfl) (by kernel_rfl) (by kernel_rfl) (fun _ _ _ h => h) (Or.inl ⟨by rfl, fun w' hw' => ?_⟩) hHeld ?_
                  · have hcc := (HCM.out _ hw').1; first | (go_simp; done) | (go_simp; rfl)
                  try simp only [Act.put, List.setIfInBounds_toArray, List.set_cons_zero, List.set_cons_succ]
                  refine wpAnyH_take (i := 5) (oi := { dst := some 108, op := Go.Op.move (Go.Operand.tmp 3), type := 31, pos := _, after := #[], guard := none }) (v := .int .i64 s) rfl (by kernel_rfl) (by kernel_rfl) (by kernel_rfl) (fun _ _ _ h => h) (Or.inl ⟨by rfl, fun w' hw' => ?_⟩) hHeld ?_
                  · first | (go_simp; done) | (go_simp; rfl)
                  try simp only [Act.put, List.setIfInBounds_toArray, List.set_cons_zero, List.set_cons_succ]
                  refine wpAnyH_take (i := 6) (oi := { dst := some 109, op := Go.Op.binOp Go.BinOp.eql 31 (Go.Operand.tmp 107) (Go.Operand.tmp 108) 31, type := 4, pos := _, after := #[{ on := 4, ground := Go.Ground.data }, { on := 5, ground := Go.Ground.data }], guard := none }) (v := .bool true) rfl (by kernel_rfl) (by kernel_rfl) (by kernel_rfl) (fun _ _ _ h => h) (Or.inl ⟨by rfl, fun w' hw' => ?_⟩) hHeld ?_
                  · first | (go_simp; done) | (go_simp; rfl)
                  try simp only [Act.put, List.setIfInBounds_toArray, List.set_cons_zero, List.set_cons_succ]
                  refine wpAnyH_take (i := 7) (oi := { dst := some 110, op := Go.Op.move (Go.Operand.tmp 109), type := 4, pos := _, after := #[{ on := 6, ground := Go.Ground.data }], guard := none }) (v := .bool true) rfl (by kernel_rfl) (by kernel_rfl) (by kernel_rfl) (fun _ _ _ h => h) (Or.inl ⟨by rfl, fun w' hw' => ?_⟩) hHeld ?_
                  · first | (go_simp; done) | (go_simp; rfl)
                  try simp only [Act.put, List.setIfInBounds_toArray, List.set_cons_zero, List.set_cons_succ]
                  refine wpAnyH_take (i := 8) (oi := { dst := some 111, op := Go.Op.move (Go.Operand.tmp 13), type := 28, pos := _, after := #[{ on := 7, ground := Go.Ground.guard }], guard := some (7, true) }) (v := .slice (some ⟨rb, 0, none⟩) n n) rfl (by kernel_rfl) (by kernel_rfl) (by kernel_rfl) (fun _ _ _ h => h) (Or.inl ⟨by rfl, fun w' hw' => ?_⟩) hHeld ?_
                  · first | (go_simp; done) | (go_simp; rfl)
                  try simp only [Act.put, List.setIfInBounds_toArray, List.set_cons_zero, List.set_cons_succ]
                  refine wpAnyH_take (i := 9) (oi := { dst := some 112, op := Go.Op.move (Go.Operand.tmp 21), type := 3, pos := _, after := #[{ on := 7, ground := Go.Ground.guard }], guard := some (7, true) }) (v := .int .i64 (k : Int)) rfl (by kernel_rfl) (by kernel_rfl) (by kernel_rfl) (fun _ _ _ h => h) (Or.inl ⟨by rfl, fun w' hw' => ?_⟩) hHeld ?_
                  · first | (go_simp; done) | (go_simp; rfl)
                  try simp only [Act.put, List.setIfInBounds_toArray, List.set_cons_zero, List.set_cons_succ]
                  refine wpAnyH_take (i := 10) (oi := { dst := some 113, op := Go.Op.indexAddr 28 (Go.Operand.tmp 111) (Go.Operand.tmp 112), type := 0, pos := _, after := #[{ on := 8, ground := Go.Ground.data }, { on := 9, ground := Go.Ground.data }, { on := 7, ground := Go.Ground.guard }], guard := some (7, true) }) (v := .pointer (some ⟨rb, k * 3, none⟩)) rfl (by kernel_rfl) (by kernel_rfl) (by kernel_rfl) (fun _ _ _ h => h) (Or.inl ⟨by rfl, fun w' hw' => ?_⟩) hHeld ?_
                  · first | (go_simp; done) | (go_simp; rfl)
                  try simp only [Act.put, List.setIfInBounds_toArray, List.set_cons_zero, List.set_cons_succ]
                  refine wpAnyH_take (i := 11) (oi := { dst := some 114, op := Go.Op.fieldAddr 43 (Go.Operand.tmp 113) 1, type := 0, pos := _, after := #[{ on := 10, ground := Go.Ground.data }, { on := 7, ground := Go.Ground.guard }], guard := some (7, true) }) (v := .pointer (some ⟨rb, k * 3 + 1, none⟩)) rfl (by kernel_rfl) (by kernel_rfl) (by kernel_rfl) (fun _ _ _ h => h) (Or.inl ⟨by rfl, fun w' hw' => ?_⟩) hHeld ?_
                  · first | (go_simp; done) | (go_simp; rfl)
                  try simp only [Act.put, List.setIfInBounds_toArray, List.set_cons_zero, List.set_cons_succ]
                  refine wpAnyH_take (i := 12) (oi := { dst := some 115, op := Go.Op.load 32 (Go.Operand.tmp 114), type := 32, pos := _, after := #[{ on := 11, ground := Go.Ground.data }, { on := 7, ground := Go.Ground.guard }], guard := some (7, true) }) (v := .int .u64 (ow : Int)) rfl (by kernel_rfl) (by kernel_rfl) (by kernel_rfl) (fun _ _ _ h => h) (Or.inl ⟨by rfl, fun w' hw' => ?_⟩) hHeld ?_
                  · have hcc := (HCM.out _ hw').2; first | (go_simp; done) | (go_simp; rfl)
                  try simp only [Act.put, List.setIfInBounds_toArray, List.set_cons_zero, List.set_cons_succ]
                  refine wpAnyH_take (i := 13) (oi := { dst := some 116, op := Go.Op.load 32 (Go.Operand.tmp 9), type := 32, pos := _, after := #[{ on := 7, ground := Go.Ground.guard }], guard := some (7, true) }) (v := .int .u64 (o : Int)) rfl (by kernel_rfl) (by kernel_rfl) (by kernel_rfl) (fun _ _ _ h => h) (Or.inl ⟨by rfl, fun w' hw' => ?_⟩) hHeld ?_
                  · have hcc := (HCO.out _ hw').1; first | (go_simp; done) | (go_simp; rfl)
                  try simp only [Act.put, List.setIfInBounds_toArray, List.set_cons_zero, List.set_cons_succ]
                  refine wpAnyH_take (i := 14) (oi := { dst := some 117, op := Go.Op.binOp Go.BinOp.eql 32 (Go.Operand.tmp 115) (Go.Operand.tmp 116) 32, type := 4, pos := _, after := #[{ on := 12, ground := Go.Ground.data }, { on := 13, ground := Go.Ground.data }, { on := 7, ground := Go.Ground.guard }], guard := some (7, true) }) (v := .bool false) rfl (by kernel_rfl) (by kernel_rfl) (by kernel_rfl) (fun _ _ _ h => h) (Or.inl ⟨by rfl, fun w' hw' => ?_⟩) hHeld ?_
                  · first | (go_simp; done) | (go_simp; rfl)
                  try simp only [Act.put, List.setIfInBounds_toArray, List.set_cons_zero, List.set_cons_succ]
                  refine wpAnyH_take (i := 15) (oi := { dst := some 118, op := Go.Op.pick (Go.Operand.tmp 110) (Go.Operand.tmp 117) (Go.Operand.const (Go.Value.bool false)), type := 4, pos := _, after := #[{ on := 7, ground := Go.Ground.data }, { on := 14, ground := Go.Ground.data }], guard := none }) (v := .bool false) rfl (by kernel_rfl) (by kernel_rfl) (by kernel_rfl) (fun _ _ _ h => h) (Or.inl ⟨by rfl, fun w' hw' => ?_⟩) hHeld ?_
                  · first | (go_simp; done) | (go_simp; rfl)
                  try simp only [Act.put, List.setIfInBounds_toArray, List.set_cons_zero, List.set_cons_succ]
                  refine wpAnyH_done (by kernel_rfl) ?_ _
                  -- m how many
                  go_wp2_with fail
                  refine wp_only ?_
                  refine wp_region_held_drew (S := Below W.heap.size W) (by kernel_rfl) hHeld.drew (fun hHeld2 => ?_)
                  clear hHeld
                  have hHeld := hHeld2
                  generalize X1.drew = X2 at *
                  cases SM with
                  | true =>
                    refine wpAnyH_take (i := 0) (oi := { dst := some 121, op := Go.Op.move (Go.Operand.tmp 20), type := 4, pos := _, after := #[], guard := none }) (v := .bool true) rfl (by kernel_rfl) (by kernel_rfl) (by kernel_rfl) (fun _ _ _ h => h) (Or.inl ⟨by rfl, fun w' hw' => ?_⟩) hHeld ?_
                    · first | (go_simp; done) | (go_simp; rfl)
                    try simp only [Act.put, List.setIfInBounds_toArray, List.set_cons_zero, List.set_cons_succ]
                    refine wpAnyH_take (i := 1) (oi := { dst := some 122, op := Go.Op.move (Go.Operand.tmp 121), type := 4, pos := _, after := #[{ on := 0, ground := Go.Ground.data }], guard := none }) (v := .bool true) rfl (by kernel_rfl) (by kernel_rfl) (by kernel_rfl) (fun _ _ _ h => h) (Or.inl ⟨by rfl, fun w' hw' => ?_⟩) hHeld ?_
                    · first | (go_simp; done) | (go_simp; rfl)
                    try simp only [Act.put, List.setIfInBounds_toArray, List.set_cons_zero, List.set_cons_succ]
                    refine wpAnyH_take (i := 2) (oi := { dst := some 123, op := Go.Op.move (Go.Operand.tmp 13), type := 28, pos := _, after := #[{ on := 1, ground := Go.Ground.guard }], guard := some (1, true) }) (v := .slice (some ⟨rb, 0, none⟩) n n) rfl (by kernel_rfl) (by kernel_rfl) (by kernel_rfl) (fun _ _ _ h => h) (Or.inl ⟨by rfl, fun w' hw' => ?_⟩) hHeld ?_
                    · first | (go_simp; done) | (go_simp; rfl)
                    try simp only [Act.put, List.setIfInBounds_toArray, List.set_cons_zero, List.set_cons_succ]
                    refine wpAnyH_take (i := 3) (oi := { dst := some 124, op := Go.Op.move (Go.Operand.tmp 21), type := 3, pos := _, after := #[{ on := 1, ground := Go.Ground.guard }], guard := some (1, true) }) (v := .int .i64 (k : Int)) rfl (by kernel_rfl) (by kernel_rfl) (by kernel_rfl) (fun _ _ _ h => h) (Or.inl ⟨by rfl, fun w' hw' => ?_⟩) hHeld ?_
                    · first | (go_simp; done) | (go_simp; rfl)
                    try simp only [Act.put, List.setIfInBounds_toArray, List.set_cons_zero, List.set_cons_succ]
                    refine wpAnyH_take (i := 4) (oi := { dst := some 125, op := Go.Op.indexAddr 28 (Go.Operand.tmp 123) (Go.Operand.tmp 124), type := 0, pos := _, after := #[{ on := 2, ground := Go.Ground.data }, { on := 3, ground := Go.Ground.data }, { on := 1, ground := Go.Ground.guard }], guard := some (1, true) }) (v := .pointer (some ⟨rb, k * 3, none⟩)) rfl (by kernel_rfl) (by kernel_rfl) (by kernel_rfl) (fun _ _ _ h => h) (Or.inl ⟨by rfl, fun w' hw' => ?_⟩) hHeld ?_
                    · first | (go_simp; done) | (go_simp; rfl)
                    try simp only [Act.put, List.setIfInBounds_toArray, List.set_cons_zero, List.set_cons_succ]
                    refine wpAnyH_take (i := 5) (oi := { dst := some 126, op := Go.Op.load 43 (Go.Operand.tmp 125), type := 43, pos := _, after := #[{ on := 4, ground := Go.Ground.data }, { on := 1, ground := Go.Ground.guard }], guard := some (1, true) }) rfl (by kernel_rfl) (by kernel_rfl) (by kernel_rfl) (fun _ _ _ h => h) (yieldsIf_load_mid (by rfl) 43 (.tmp 125) rfl (rb) (k * 3) rfl (G1) _ (fun _ h => HRM.out _ h) Try.underlying43 rfl HI1.out) hHeld ?_
                    try simp only [Act.put, List.setIfInBounds_toArray, List.set_cons_zero, List.set_cons_succ]
                    refine wpAnyH_take (i := 6) (oi := { dst := some 127, op := Go.Op.load 28 (Go.Operand.tmp 17), type := 28, pos := _, after := #[{ on := 1, ground := Go.Ground.guard }], guard := some (1, true) }) (v := .slice (some ⟨wb, 0, none⟩) n kw) rfl (by kernel_rfl) (by kernel_rfl) (by kernel_rfl) (fun _ _ _ h => h) (Or.inl ⟨by rfl, fun w' hw' => ?_⟩) hHeld ?_
                    · have hcc := (HCO.out _ hw').2; first | (go_simp; done) | (go_simp; rfl)
                    try simp only [Act.put, List.setIfInBounds_toArray, List.set_cons_zero, List.set_cons_succ]
                    refine wpAnyH_take (i := 7) (oi := { dst := some 128, op := Go.Op.move (Go.Operand.tmp 21), type := 3, pos := _, after := #[{ on := 1, ground := Go.Ground.guard }], guard := some (1, true) }) (v := .int .i64 (k : Int)) rfl (by kernel_rfl) (by kernel_rfl) (by kernel_rfl) (fun _ _ _ h => h) (Or.inl ⟨by rfl, fun w' hw' => ?_⟩) hHeld ?_
                    · first | (go_simp; done) | (go_simp; rfl)
                    try simp only [Act.put, List.setIfInBounds_toArray, List.set_cons_zero, List.set_cons_succ]
                    refine wpAnyH_take (i := 8) (oi := { dst := some 129, op := Go.Op.indexAddr 28 (Go.Operand.tmp 127) (Go.Operand.tmp 128), type := 0, pos := _, after := #[{ on := 6, ground := Go.Ground.data }, { on := 7, ground := Go.Ground.data }, { on := 1, ground := Go.Ground.guard }], guard := some (1, true) }) (v := .pointer (some ⟨wb, k * 3, none⟩)) rfl (by kernel_rfl) (by kernel_rfl) (by kernel_rfl) (fun _ _ _ h => h) (Or.inl ⟨by rfl, fun w' hw' => ?_⟩) hHeld ?_
                    · first | (go_simp; done) | (go_simp; rfl)
                    try simp only [Act.put, List.setIfInBounds_toArray, List.set_cons_zero, List.set_cons_succ]
                    refine wpAnyH_take (i := 9) (oi := { dst := some 130, op := Go.Op.load 43 (Go.Operand.tmp 129), type := 43, pos := _, after := #[{ on := 8, ground := Go.Ground.data }, { on := 1, ground := Go.Ground.guard }], guard := some (1, true) }) rfl (by kernel_rfl) (by kernel_rfl) (by kernel_rfl) (fun _ _ _ h => h) (yieldsIf_load_mid (by rfl) 43 (.tmp 129) rfl (wb) (k * 3) rfl (G2) _ (fun _ h => HRL.out _ h) Try.underlying43 rfl HI2.out) hHeld ?_
                    try simp only [Act.put, List.setIfInBounds_toArray, List.set_cons_zero, List.set_cons_succ]
                    refine wpAnyH_take (i := 10) (oi := { dst := some 131, op := Go.Op.binOp Go.BinOp.eql 43 (Go.Operand.tmp 126) (Go.Operand.tmp 130) 43, type := 4, pos := _, after := #[{ on := 5, ground := Go.Ground.data }, { on := 9, ground := Go.Ground.data }, { on := 1, ground := Go.Ground.guard }], guard := some (1, true) }) (v := .bool bq) rfl (by kernel_rfl) (by kernel_rfl) (by kernel_rfl) (fun _ _ _ h => h) (Or.inl ⟨by rfl, fun w' hw' => ?_⟩) hHeld ?_
                    · first | (go_simp; done) | (go_simp; rfl)
                    try simp only [Act.put, List.setIfInBounds_toArray, List.set_cons_zero, List.set_cons_succ]
                    refine wpAnyH_take (i := 11) (oi := { dst := some 132, op := Go.Op.pick (Go.Operand.tmp 122) (Go.Operand.tmp 131) (Go.Operand.const (Go.Value.bool false)), type := 4, pos := _, after := #[{ on := 1, ground := Go.Ground.data }, { on := 10, ground := Go.Ground.data }], guard := none }) (v := .bool bq) rfl (by kernel_rfl) (by kernel_rfl) (by kernel_rfl) (fun _ _ _ h => h) (Or.inl ⟨by rfl, fun w' hw' => ?_⟩) hHeld ?_
                    · first | (go_simp; done) | (go_simp; rfl)
                    try simp only [Act.put, List.setIfInBounds_toArray, List.set_cons_zero, List.set_cons_succ]
                    refine wpAnyH_take (i := 12) (oi := { dst := some 20, op := Go.Op.assign (Go.Operand.tmp 132), type := 4, pos := _, after := #[{ on := 11, ground := Go.Ground.data }, { on := 1, ground := Go.Ground.chain }, { on := 0, ground := Go.Ground.phase }, { on := 1, ground := Go.Ground.phase }, { on := 2, ground := Go.Ground.phase }, { on := 3, ground := Go.Ground.phase }, { on := 4, ground := Go.Ground.phase }, { on := 5, ground := Go.Ground.phase }, { on := 6, ground := Go.Ground.phase }, { on := 7, ground := Go.Ground.phase }, { on := 8, ground := Go.Ground.phase }, { on := 9, ground := Go.Ground.phase }, { on := 10, ground := Go.Ground.phase }, { on := 11, ground := Go.Ground.phase }], guard := none }) (v := .bool bq) rfl (by kernel_rfl) (by kernel_rfl) (by kernel_rfl) (fun _ _ _ h => h) (Or.inl ⟨by rfl, fun w' hw' => ?_⟩) hHeld ?_
                    · first | (go_simp; done) | (go_simp; rfl)
                    try simp only [Act.put, List.setIfInBounds_toArray, List.set_cons_zero, List.set_cons_succ]
                    refine wpAnyH_done (by kernel_rfl) ?_ _
                    have HS2 : Hid (bq = true ↔ ∀ j, j < k + 1 → M[j]? = L[j]?) := sm_true HSM.out HBQ.out
                    have HJ2 : Hid _ := HJ.out.below hHeld2
                    have HC2 : Hid _ := HC.out.step hHeld2
                    have HE2 : Hid _ := HE.out.below hHeld2
                    clear hHeld hHeld2 heq HRM HRL HCO HCM HJ HC HE hgn hgo
                    go_wp2
                    go_roundw
                    case rel => exact ⟨k + 1, m, bq, by omega, by go_num, by go_num, rfl, HNX.out.symm, HS2, HJ2.out, HC2.out, HE2.out⟩
                    case measure => simp [intOf]; omega
                  | false =>
                    refine wpAnyH_take (i := 0) (oi := { dst := some 121, op := Go.Op.move (Go.Operand.tmp 20), type := 4, pos := _, after := #[], guard := none }) (v := .bool false) rfl (by kernel_rfl) (by kernel_rfl) (by kernel_rfl) (fun _ _ _ h => h) (Or.inl ⟨by rfl, fun w' hw' => ?_⟩) hHeld ?_
                    · first | (go_simp; done) | (go_simp; rfl)
                    try simp only [Act.put, List.setIfInBounds_toArray, List.set_cons_zero, List.set_cons_succ]
                    refine wpAnyH_take (i := 1) (oi := { dst := some 122, op := Go.Op.move (Go.Operand.tmp 121), type := 4, pos := _, after := #[{ on := 0, ground := Go.Ground.data }], guard := none }) (v := .bool false) rfl (by kernel_rfl) (by kernel_rfl) (by kernel_rfl) (fun _ _ _ h => h) (Or.inl ⟨by rfl, fun w' hw' => ?_⟩) hHeld ?_
                    · first | (go_simp; done) | (go_simp; rfl)
                    try simp only [Act.put, List.setIfInBounds_toArray, List.set_cons_zero, List.set_cons_succ]
                    refine wpAnyH_take (i := 2) (oi := { dst := some 123, op := Go.Op.move (Go.Operand.tmp 13), type := 28, pos := _, after := #[{ on := 1, ground := Go.Ground.guard }], guard := some (1, true) }) (v := undef) rfl (by kernel_rfl) (by kernel_rfl) (by kernel_rfl) (fun _ _ _ h => h) (Or.inr ⟨by rfl, rfl⟩) hHeld ?_
                    try simp only [Act.put, List.setIfInBounds_toArray, List.set_cons_zero, List.set_cons_succ]
                    refine wpAnyH_take (i := 3) (oi := { dst := some 124, op := Go.Op.move (Go.Operand.tmp 21), type := 3, pos := _, after := #[{ on := 1, ground := Go.Ground.guard }], guard := some (1, true) }) (v := undef) rfl (by kernel_rfl) (by kernel_rfl) (by kernel_rfl) (fun _ _ _ h => h) (Or.inr ⟨by rfl, rfl⟩) hHeld ?_
                    try simp only [Act.put, List.setIfInBounds_toArray, List.set_cons_zero, List.set_cons_succ]
                    refine wpAnyH_take (i := 4) (oi := { dst := some 125, op := Go.Op.indexAddr 28 (Go.Operand.tmp 123) (Go.Operand.tmp 124), type := 0, pos := _, after := #[{ on := 2, ground := Go.Ground.data }, { on := 3, ground := Go.Ground.data }, { on := 1, ground := Go.Ground.guard }], guard := some (1, true) }) (v := undef) rfl (by kernel_rfl) (by kernel_rfl) (by kernel_rfl) (fun _ _ _ h => h) (Or.inr ⟨by rfl, rfl⟩) hHeld ?_
                    try simp only [Act.put, List.setIfInBounds_toArray, List.set_cons_zero, List.set_cons_succ]
                    refine wpAnyH_take (i := 5) (oi := { dst := some 126, op := Go.Op.load 43 (Go.Operand.tmp 125), type := 43, pos := _, after := #[{ on := 4, ground := Go.Ground.data }, { on := 1, ground := Go.Ground.guard }], guard := some (1, true) }) (v := undef) rfl (by kernel_rfl) (by kernel_rfl) (by kernel_rfl) (fun _ _ _ h => h) (Or.inr ⟨by rfl, rfl⟩) hHeld ?_
                    try simp only [Act.put, List.setIfInBounds_toArray, List.set_cons_zero, List.set_cons_succ]
                    refine wpAnyH_take (i := 6) (oi := { dst := some 127, op := Go.Op.load 28 (Go.Operand.tmp 17), type := 28, pos := _, after := #[{ on := 1, ground := Go.Ground.guard }], guard := some (1, true) }) (v := undef) rfl (by kernel_rfl) (by kernel_rfl) (by kernel_rfl) (fun _ _ _ h => h) (Or.inr ⟨by rfl, rfl⟩) hHeld ?_
                    try simp only [Act.put, List.setIfInBounds_toArray, List.set_cons_zero, List.set_cons_succ]
                    refine wpAnyH_take (i := 7) (oi := { dst := some 128, op := Go.Op.move (Go.Operand.tmp 21), type := 3, pos := _, after := #[{ on := 1, ground := Go.Ground.guard }], guard := some (1, true) }) (v := undef) rfl (by kernel_rfl) (by kernel_rfl) (by kernel_rfl) (fun _ _ _ h => h) (Or.inr ⟨by rfl, rfl⟩) hHeld ?_
                    try simp only [Act.put, List.setIfInBounds_toArray, List.set_cons_zero, List.set_cons_succ]
                    refine wpAnyH_take (i := 8) (oi := { dst := some 129, op := Go.Op.indexAddr 28 (Go.Operand.tmp 127) (Go.Operand.tmp 128), type := 0, pos := _, after := #[{ on := 6, ground := Go.Ground.data }, { on := 7, ground := Go.Ground.data }, { on := 1, ground := Go.Ground.guard }], guard := some (1, true) }) (v := undef) rfl (by kernel_rfl) (by kernel_rfl) (by kernel_rfl) (fun _ _ _ h => h) (Or.inr ⟨by rfl, rfl⟩) hHeld ?_
                    try simp only [Act.put, List.setIfInBounds_toArray, List.set_cons_zero, List.set_cons_succ]
                    refine wpAnyH_take (i := 9) (oi := { dst := some 130, op := Go.Op.load 43 (Go.Operand.tmp 129), type := 43, pos := _, after := #[{ on := 8, ground := Go.Ground.data }, { on := 1, ground := Go.Ground.guard }], guard := some (1, true) }) (v := undef) rfl (by kernel_rfl) (by kernel_rfl) (by kernel_rfl) (fun _ _ _ h => h) (Or.inr ⟨by rfl, rfl⟩) hHeld ?_
                    try simp only [Act.put, List.setIfInBounds_toArray, List.set_cons_zero, List.set_cons_succ]
                    refine wpAnyH_take (i := 10) (oi := { dst := some 131, op := Go.Op.binOp Go.BinOp.eql 43 (Go.Operand.tmp 126) (Go.Operand.tmp 130) 43, type := 4, pos := _, after := #[{ on := 5, ground := Go.Ground.data }, { on := 9, ground := Go.Ground.data }, { on := 1, ground := Go.Ground.guard }], guard := some (1, true) }) (v := undef) rfl (by kernel_rfl) (by kernel_rfl) (by kernel_rfl) (fun _ _ _ h => h) (Or.inr ⟨by rfl, rfl⟩) hHeld ?_
                    try simp only [Act.put, List.setIfInBounds_toArray, List.set_cons_zero, List.set_cons_succ]
                    refine wpAnyH_take (i := 11) (oi := { dst := some 132, op := Go.Op.pick (Go.Operand.tmp 122) (Go.Operand.tmp 131) (Go.Operand.const (Go.Value.bool false)), type := 4, pos := _, after := #[{ on := 1, ground := Go.Ground.data }, { on := 10, ground := Go.Ground.data }], guard := none }) (v := .bool false) rfl (by kernel_rfl) (by kernel_rfl) (by kernel_rfl) (fun _ _ _ h => h) (Or.inl ⟨by rfl, fun w' hw' => ?_⟩) hHeld ?_
                    · first | (go_simp; done) | (go_simp; rfl)
                    try simp only [Act.put, List.setIfInBounds_toArray, List.set_cons_zero, List.set_cons_succ]
                    refine wpAnyH_take (i := 12) (oi := { dst := some 20, op := Go.Op.assign (Go.Operand.tmp 132), type := 4, pos := _, after := #[{ on := 11, ground := Go.Ground.data }, { on := 1, ground := Go.Ground.chain }, { on := 0, ground := Go.Ground.phase }, { on := 1, ground := Go.Ground.phase }, { on := 2, ground := Go.Ground.phase }, { on := 3, ground := Go.Ground.phase }, { on := 4, ground := Go.Ground.phase }, { on := 5, ground := Go.Ground.phase }, { on := 6, ground := Go.Ground.phase }, { on := 7, ground := Go.Ground.phase }, { on := 8, ground := Go.Ground.phase }, { on := 9, ground := Go.Ground.phase }, { on := 10, ground := Go.Ground.phase }, { on := 11, ground := Go.Ground.phase }], guard := none }) (v := .bool false) rfl (by kernel_rfl) (by kernel_rfl) (by kernel_rfl) (fun _ _ _ h => h) (Or.inl ⟨by rfl, fun w' hw' => ?_⟩) hHeld ?_
                    · first | (go_simp; done) | (go_simp; rfl)
                    try simp only [Act.put, List.setIfInBounds_toArray, List.set_cons_zero, List.set_cons_succ]
                    refine wpAnyH_done (by kernel_rfl) ?_ _
                    have HS2 : Hid (false = true ↔ ∀ j, j < k + 1 → M[j]? = L[j]?) := sm_false HSM.out
                    have HJ2 : Hid _ := HJ.out.below hHeld2
                    have HC2 : Hid _ := HC.out.step hHeld2
                    have HE2 : Hid _ := HE.out.below hHeld2
                    clear hHeld hHeld2 heq HRM HRL HCO HCM HJ HC HE hgn hgo
                    go_wp2
                    go_roundw
                    case rel => exact ⟨k + 1, m, false, by omega, by go_num, by go_num, rfl, HNX.out.symm, HS2, HJ2.out, HC2.out, HE2.out⟩
                    case measure => simp [intOf]; omega
              · rw [if_neg (by simp [hs]), Nat.add_zero] at hnx
                have HNX : Hid _ := hnx
                have hsI : (st == s) = false := by simpa using hs
                clear hnx hs HM
                go_wp2_with fail
                refine wp_only ?_
                refine wp_region_held_drew (S := Below W.heap.size W) (by kernel_rfl) (below_drew _) (fun hHeld => ?_)
                generalize W.drew = X1 at *
                refine wpAnyH_take (i := 0) (oi := { dst := some 103, op := Go.Op.move (Go.Operand.tmp 13), type := 28, pos := _, after := #[], guard := none }) (v := .slice (some ⟨rb, 0, none⟩) n n) rfl (by kernel_rfl) (by kernel_rfl) (by kernel_rfl) (fun _ _ _ h => h) (Or.inl ⟨by rfl, fun w' hw' => ?_⟩) hHeld ?_
                · first | (go_simp; done) | (go_simp; rfl)
                try simp only [Act.put, List.setIfInBounds_toArray, List.set_cons_zero, List.set_cons_succ]
                refine wpAnyH_take (i := 1) (oi := { dst := some 104, op := Go.Op.move (Go.Operand.tmp 21), type := 3, pos := _, after := #[], guard := none }) (v := .int .i64 (k : Int)) rfl (by kernel_rfl) (by kernel_rfl) (by kernel_rfl) (fun _ _ _ h => h) (Or.inl ⟨by rfl, fun w' hw' => ?_⟩) hHeld ?_
                · first | (go_simp; done) | (go_simp; rfl)
                try simp only [Act.put, List.setIfInBounds_toArray, List.set_cons_zero, List.set_cons_succ]
                refine wpAnyH_take (i := 2) (oi := { dst := some 105, op := Go.Op.indexAddr 28 (Go.Operand.tmp 103) (Go.Operand.tmp 104), type := 0, pos := _, after := #[{ on := 0, ground := Go.Ground.data }, { on := 1, ground := Go.Ground.data }], guard := none }) (v := .pointer (some ⟨rb, k * 3, none⟩)) rfl (by kernel_rfl) (by kernel_rfl) (by kernel_rfl) (fun _ _ _ h => h) (Or.inl ⟨by rfl, fun w' hw' => ?_⟩) hHeld ?_
                · first | (go_simp; done) | (go_simp; rfl)
                try simp only [Act.put, List.setIfInBounds_toArray, List.set_cons_zero, List.set_cons_succ]
                refine wpAnyH_take (i := 3) (oi := { dst := some 106, op := Go.Op.fieldAddr 43 (Go.Operand.tmp 105) 0, type := 0, pos := _, after := #[{ on := 2, ground := Go.Ground.data }], guard := none }) (v := .pointer (some ⟨rb, k * 3, none⟩)) rfl (by kernel_rfl) (by kernel_rfl) (by kernel_rfl) (fun _ _ _ h => h) (Or.inl ⟨by rfl, fun w' hw' => ?_⟩) hHeld ?_
                · first | (go_simp; done) | (go_simp; rfl)
                try simp only [Act.put, List.setIfInBounds_toArray, List.set_cons_zero, List.set_cons_succ]
                refine wpAnyH_take (i := 4) (oi := { dst := some 107, op := Go.Op.load 31 (Go.Operand.tmp 106), type := 31, pos := _, after := #[{ on := 3, ground := Go.Ground.data }], guard := none }) (v := .int .i64 st) rfl (by kernel_rfl) (by kernel_rfl) (by kernel_rfl) (fun _ _ _ h => h) (Or.inl ⟨by rfl, fun w' hw' => ?_⟩) hHeld ?_
                · have hcc := (HCM.out _ hw').1; first | (go_simp; done) | (go_simp; rfl)
                try simp only [Act.put, List.setIfInBounds_toArray, List.set_cons_zero, List.set_cons_succ]
                refine wpAnyH_take (i := 5) (oi := { dst := some 108, op := Go.Op.move (Go.Operand.tmp 3), type := 31, pos := _, after := #[], guard := none }) (v := .int .i64 s) rfl (by kernel_rfl) (by kernel_rfl) (by kernel_rfl) (fun _ _ _ h => h) (Or.inl ⟨by rfl, fun w' hw' => ?_⟩) hHeld ?_
                · first | (go_simp; done) | (go_simp; rfl)
                try simp only [Act.put, List.setIfInBounds_toArray, List.set_cons_zero, List.set_cons_succ]
                refine wpAnyH_take (i := 6) (oi := { dst := some 109, op := Go.Op.binOp Go.BinOp.eql 31 (Go.Operand.tmp 107) (Go.Operand.tmp 108) 31, type := 4, pos := _, after := #[{ on := 4, ground := Go.Ground.data }, { on := 5, ground := Go.Ground.data }], guard := none }) (v := .bool false) rfl (by kernel_rfl) (by kernel_rfl) (by kernel_rfl) (fun _ _ _ h => h) (Or.inl ⟨by rfl, fun w' hw' => ?_⟩) hHeld ?_
                · first | (go_simp; done) | (go_simp; rfl)
                try simp only [Act.put, List.setIfInBounds_toArray, List.set_cons_zero, List.set_cons_succ]
                refine wpAnyH_take (i := 7) (oi := { dst := some 110, op := Go.Op.move (Go.Operand.tmp 109), type := 4, pos := _, after := #[{ on := 6, ground := Go.Ground.data }], guard := none }) (v := .bool false) rfl (by kernel_rfl) (by kernel_rfl) (by kernel_rfl) (fun _ _ _ h => h) (Or.inl ⟨by rfl, fun w' hw' => ?_⟩) hHeld ?_
                · first | (go_simp; done) | (go_simp; rfl)
                try simp only [Act.put, List.setIfInBounds_toArray, List.set_cons_zero, List.set_cons_succ]
                refine wpAnyH_take (i := 8) (oi := { dst := some 111, op := Go.Op.move (Go.Operand.tmp 13), type := 28, pos := _, after := #[{ on := 7, ground := Go.Ground.guard }], guard := some (7, true) }) (v := undef) rfl (by kernel_rfl) (by kernel_rfl) (by kernel_rfl) (fun _ _ _ h => h) (Or.inr ⟨by rfl, rfl⟩) hHeld ?_
                try simp only [Act.put, List.setIfInBounds_toArray, List.set_cons_zero, List.set_cons_succ]
                refine wpAnyH_take (i := 9) (oi := { dst := some 112, op := Go.Op.move (Go.Operand.tmp 21), type := 3, pos := _, after := #[{ on := 7, ground := Go.Ground.guard }], guard := some (7, true) }) (v := undef) rfl (by kernel_rfl) (by kernel_rfl) (by kernel_rfl) (fun _ _ _ h => h) (Or.inr ⟨by rfl, rfl⟩) hHeld ?_
                try simp only [Act.put, List.setIfInBounds_toArray, List.set_cons_zero, List.set_cons_succ]
                refine wpAnyH_take (i := 10) (oi := { dst := some 113, op := Go.Op.indexAddr 28 (Go.Operand.tmp 111) (Go.Operand.tmp 112), type := 0, pos := _, after := #[{ on := 8, ground := Go.Ground.data }, { on := 9, ground := Go.Ground.data }, { on := 7, ground := Go.Ground.guard }], guard := some (7, true) }) (v := undef) rfl (by kernel_rfl) (by kernel_rfl) (by kernel_rfl) (fun _ _ _ h => h) (Or.inr ⟨by rfl, rfl⟩) hHeld ?_
                try simp only [Act.put, List.setIfInBounds_toArray, List.set_cons_zero, List.set_cons_succ]
                refine wpAnyH_take (i := 11) (oi := { dst := some 114, op := Go.Op.fieldAddr 43 (Go.Operand.tmp 113) 1, type := 0, pos := _, after := #[{ on := 10, ground := Go.Ground.data }, { on := 7, ground := Go.Ground.guard }], guard := some (7, true) }) (v := undef) rfl (by kernel_rfl) (by kernel_rfl) (by kernel_rfl) (fun _ _ _ h => h) (Or.inr ⟨by rfl, rfl⟩) hHeld ?_
                try simp only [Act.put, List.setIfInBounds_toArray, List.set_cons_zero, List.set_cons_succ]
                refine wpAnyH_take (i := 12) (oi := { dst := some 115, op := Go.Op.load 32 (Go.Operand.tmp 114), type := 32, pos := _, after := #[{ on := 11, ground := Go.Ground.data }, { on := 7, ground := Go.Ground.guard }], guard := some (7, true) }) (v := undef) rfl (by kernel_rfl) (by kernel_rfl) (by kernel_rfl) (fun _ _ _ h => h) (Or.inr ⟨by rfl, rfl⟩) hHeld ?_
                try simp only [Act.put, List.setIfInBounds_toArray, List.set_cons_zero, List.set_cons_succ]
                refine wpAnyH_take (i := 13) (oi := { dst := some 116, op := Go.Op.load 32 (Go.Operand.tmp 9), type := 32, pos := _, after := #[{ on := 7, ground := Go.Ground.guard }], guard := some (7, true) }) (v := undef) rfl (by kernel_rfl) (by kernel_rfl) (by kernel_rfl) (fun _ _ _ h => h) (Or.inr ⟨by rfl, rfl⟩) hHeld ?_
                try simp only [Act.put, List.setIfInBounds_toArray, List.set_cons_zero, List.set_cons_succ]
                refine wpAnyH_take (i := 14) (oi := { dst := some 117, op := Go.Op.binOp Go.BinOp.eql 32 (Go.Operand.tmp 115) (Go.Operand.tmp 116) 32, type := 4, pos := _, after := #[{ on := 12, ground := Go.Ground.data }, { on := 13, ground := Go.Ground.data }, { on := 7, ground := Go.Ground.guard }], guard := some (7, true) }) (v := undef) rfl (by kernel_rfl) (by kernel_rfl) (by kernel_rfl) (fun _ _ _ h => h) (Or.inr ⟨by rfl, rfl⟩) hHeld ?_
                try simp only [Act.put, List.setIfInBounds_toArray, List.set_cons_zero, List.set_cons_succ]
                refine wpAnyH_take (i := 15) (oi := { dst := some 118, op := Go.Op.pick (Go.Operand.tmp 110) (Go.Operand.tmp 117) (Go.Operand.const (Go.Value.bool false)), type := 4, pos := _, after := #[{ on := 7, ground := Go.Ground.data }, { on := 14, ground := Go.Ground.data }], guard := none }) (v := .bool false) rfl (by kernel_rfl) (by kernel_rfl) (by kernel_rfl) (fun _ _ _ h => h) (Or.inl ⟨by rfl, fun w' hw' => ?_⟩) hHeld ?_
                · first | (go_simp; done) | (go_simp; rfl)
                try simp only [Act.put, List.setIfInBounds_toArray, List.set_cons_zero, List.set_cons_succ]
                refine wpAnyH_done (by kernel_rfl) ?_ _
                -- m how many
                go_wp2_with fail
                refine wp_only ?_
                refine wp_region_held_drew (S := Below W.heap.size W) (by kernel_rfl) hHeld.drew (fun hHeld2 => ?_)
                clear hHeld
                have hHeld := hHeld2
                generalize X1.drew = X2 at *
                cases SM with
                | true =>
                  refine wpAnyH_take (i := 0) (oi := { dst := some 121, op := Go.Op.move (Go.Operand.tmp 20), type := 4, pos := _, after := #[], guard := none }) (v := .bool true) rfl (by kernel_rfl) (by kernel_rfl) (by kernel_rfl) (fun _ _ _ h => h) (Or.inl ⟨by rfl, fun w' hw' => ?_⟩) hHeld ?_
                  · first | (go_simp; done) | (go_simp; rfl)
                  try simp only [Act.put, List.setIfInBounds_toArray, List.set_cons_zero, List.set_cons_succ]
                  refine wpAnyH_take (i := 1) (oi := { dst := some 122, op := Go.Op.move (Go.Operand.tmp 121), type := 4, pos := _, after := #[{ on := 0, ground := Go.Ground.data }], guard := none }) (v := .bool true) rfl (by kernel_rfl) (by kernel_rfl) (by kernel_rfl) (fun _ _ _ h => h) (Or.inl ⟨by rfl, fun w' hw' => ?_⟩) hHeld ?_
                  · first | (go_simp; done) | (go_simp; rfl)
                  try simp only [Act.put, List.setIfInBounds_toArray, List.set_cons_zero, List.set_cons_succ]
                  refine wpAnyH_take (i := 2) (oi := { dst := some 123, op := Go.Op.move (Go.Operand.tmp 13), type := 28, pos := _, after := #[{ on := 1, ground := Go.Ground.guard }], guard := some (1, true) }) (v := .slice (some ⟨rb, 0, none⟩) n n) rfl (by kernel_rfl) (by kernel_rfl) (by kernel_rfl) (fun _ _ _ h => h) (Or.inl ⟨by rfl, fun w' hw' => ?_⟩) hHeld ?_
                  · first | (go_simp; done) | (go_simp; rfl)
                  try simp only [Act.put, List.setIfInBounds_toArray, List.set_cons_zero, List.set_cons_succ]
                  refine wpAnyH_take (i := 3) (oi := { dst := some 124, op := Go.Op.move (Go.Operand.tmp 21), type := 3, pos := _, after := #[{ on := 1, ground := Go.Ground.guard }], guard := some (1, true) }) (v := .int .i64 (k : Int)) rfl (by kernel_rfl) (by kernel_rfl) (by kernel_rfl) (fun _ _ _ h => h) (Or.inl ⟨by rfl, fun w' hw' => ?_⟩) hHeld ?_
                  · first | (go_simp; done) | (go_simp; rfl)
                  try simp only [Act.put, List.setIfInBounds_toArray, List.set_cons_zero, List.set_cons_succ]
                  refine wpAnyH_take (i := 4) (oi := { dst := some 125, op := Go.Op.indexAddr 28 (Go.Operand.tmp 123) (Go.Operand.tmp 124), type := 0, pos := _, after := #[{ on := 2, ground := Go.Ground.data }, { on := 3, ground := Go.Ground.data }, { on := 1, ground := Go.Ground.guard }], guard := some (1, true) }) (v := .pointer (some ⟨rb, k * 3, none⟩)) rfl (by kernel_rfl) (by kernel_rfl) (by kernel_rfl) (fun _ _ _ h => h) (Or.inl ⟨by rfl, fun w' hw' => ?_⟩) hHeld ?_
                  · first | (go_simp; done) | (go_simp; rfl)
                  try simp only [Act.put, List.setIfInBounds_toArray, List.set_cons_zero, List.set_cons_succ]
                  refine wpAnyH_take (i := 5) (oi := { dst := some 126, op := Go.Op.load 43 (Go.Operand.tmp 125), type := 43, pos := _, after := #[{ on := 4, ground := Go.Ground.data }, { on := 1, ground := Go.Ground.guard }], guard := some (1, true) }) rfl (by kernel_rfl) (by kernel_rfl) (by kernel_rfl) (fun _ _ _ h => h) (yieldsIf_load_mid (by rfl) 43 (.tmp 125) rfl (rb) (k * 3) rfl (G1) _ (fun _ h => HRM.out _ h) Try.underlying43 rfl HI1.out) hHeld ?_
                  try simp only [Act.put, List.setIfInBounds_toArray, List.set_cons_zero, List.set_cons_succ]
                  refine wpAnyH_take (i := 6) (oi := { dst := some 127, op := Go.Op.load 28 (Go.Operand.tmp 17), type := 28, pos := _, after := #[{ on := 1, ground := Go.Ground.guard }], guard := some (1, true) }) (v := .slice (some ⟨wb, 0, none⟩) n kw) rfl (by kernel_rfl) (by kernel_rfl) (by kernel_rfl) (fun _ _ _ h => h) (Or.inl ⟨by rfl, fun w' hw' => ?_⟩) hHeld ?_
                  · have hcc := (HCO.out _ hw').2; first | (go_simp; done) | (go_simp; rfl)
                  try simp only [Act.put, List.setIfInBounds_toArray, List.set_cons_zero, List.set_cons_succ]
                  refine wpAnyH_take (i := 7) (oi := { dst := some 128, op := Go.Op.move (Go.Operand.tmp 21), type := 3, pos := _, after := #[{ on := 1, ground := Go.Ground.guard }], guard := some (1, true) }) (v := .int .i64 (k : Int)) rfl (by kernel_rfl) (by kernel_rfl) (by kernel_rfl) (fun _ _ _ h => h) (Or.inl ⟨by rfl, fun w' hw' => ?_⟩) hHeld ?_
                  · first | (go_simp; done) | (go_simp; rfl)
                  try simp only [Act.put, List.setIfInBounds_toArray, List.set_cons_zero, List.set_cons_succ]
                  refine wpAnyH_take (i := 8) (oi := { dst := some 129, op := Go.Op.indexAddr 28 (Go.Operand.tmp 127) (Go.Operand.tmp 128), type := 0, pos := _, after := #[{ on := 6, ground := Go.Ground.data }, { on := 7, ground := Go.Ground.data }, { on := 1, ground := Go.Ground.guard }], guard := some (1, true) }) (v := .pointer (some ⟨wb, k * 3, none⟩)) rfl (by kernel_rfl) (by kernel_rfl) (by kernel_rfl) (fun _ _ _ h => h) (Or.inl ⟨by rfl, fun w' hw' => ?_⟩) hHeld ?_
                  · first | (go_simp; done) | (go_simp; rfl)
                  try simp only [Act.put, List.setIfInBounds_toArray, List.set_cons_zero, List.set_cons_succ]
                  refine wpAnyH_take (i := 9) (oi := { dst := some 130, op := Go.Op.load 43 (Go.Operand.tmp 129), type := 43, pos := _, after := #[{ on := 8, ground := Go.Ground.data }, { on := 1, ground := Go.Ground.guard }], guard := some (1, true) }) rfl (by kernel_rfl) (by kernel_rfl) (by kernel_rfl) (fun _ _ _ h => h) (yieldsIf_load_mid (by rfl) 43 (.tmp 129) rfl (wb) (k * 3) rfl (G2) _ (fun _ h => HRL.out _ h) Try.underlying43 rfl HI2.out) hHeld ?_
                  try simp only [Act.put, List.setIfInBounds_toArray, List.set_cons_zero, List.set_cons_succ]
                  refine wpAnyH_take (i := 10) (oi := { dst := some 131, op := Go.Op.binOp Go.BinOp.eql 43 (Go.Operand.tmp 126) (Go.Operand.tmp 130) 43, type := 4, pos := _, after := #[{ on := 5, ground := Go.Ground.data }, { on := 9, ground := Go.Ground.data }, { on := 1, ground := Go.Ground.guard }], guard := some (1, true) }) (v := .bool bq) rfl (by kernel_rfl) (by kernel_rfl) (by kernel_rfl) (fun _ _ _ h => h) (Or.inl ⟨by rfl, fun w' hw' => ?_⟩) hHeld ?_
                  · first | (go_simp; done) | (go_simp; rfl)
                  try simp only [Act.put, List.setIfInBounds_toArray, List.set_cons_zero, List.set_cons_succ]
                  refine wpAnyH_take (i := 11) (oi := { dst := some 132, op := Go.Op.pick (Go.Operand.tmp 122) (Go.Operand.tmp 131) (Go.Operand.const (Go.Value.bool false)), type := 4, pos := _, after := #[{ on := 1, ground := Go.Ground.data }, { on := 10, ground := Go.Ground.data }], guard := none }) (v := .bool bq) rfl (by kernel_rfl) (by kernel_rfl) (by kernel_rfl) (fun _ _ _ h => h) (Or.inl ⟨by rfl, fun w' hw' => ?_⟩) hHeld ?_
                  · first | (go_simp; done) | (go_simp; rfl)
                  try simp only [Act.put, List.setIfInBounds_toArray, List.set_cons_zero, List.set_cons_succ]
                  refine wpAnyH_take (i := 12) (oi := { dst := some 20, op := Go.Op.assign (Go.Operand.tmp 132), type := 4, pos := _, after := #[{ on := 11, ground := Go.Ground.data }, { on := 1, ground := Go.Ground.chain }, { on := 0, ground := Go.Ground.phase }, { on := 1, ground := Go.Ground.phase }, { on := 2, ground := Go.Ground.phase }, { on := 3, ground := Go.Ground.phase }, { on := 4, ground := Go.Ground.phase }, { on := 5, ground := Go.Ground.phase }, { on := 6, ground := Go.Ground.phase }, { on := 7, ground := Go.Ground.phase }, { on := 8, ground := Go.Ground.phase }, { on := 9, ground := Go.Ground.phase }, { on := 10, ground := Go.Ground.phase }, { on := 11, ground := Go.Ground.phase }], guard := none }) (v := .bool bq) rfl (by kernel_rfl) (by kernel_rfl) (by kernel_rfl) (fun _ _ _ h => h) (Or.inl ⟨by rfl, fun w' hw' => ?_⟩) hHeld ?_
                  · first | (go_simp; done) | (go_simp; rfl)
                  try simp only [Act.put, List.setIfInBounds_toArray, List.set_cons_zero, List.set_cons_succ]
                  refine wpAnyH_done (by kernel_rfl) ?_ _
                  have HS2 : Hid (bq = true ↔ ∀ j, j < k + 1 → M[j]? = L[j]?) := sm_true HSM.out HBQ.out
                  have HJ2 : Hid _ := HJ.out.below hHeld2
                  have HC2 : Hid _ := HC.out.step hHeld2
                  have HE2 : Hid _ := HE.out.below hHeld2
                  clear hHeld hHeld2 heq HRM HRL HCO HCM HJ HC HE hgn hgo
                  go_wp2
                  go_roundw
                  case rel => exact ⟨k + 1, m, bq, by omega, by go_num, by go_num, rfl, HNX.out.symm, HS2, HJ2.out, HC2.out, HE2.out⟩
                  case measure => simp [intOf]; omega
                | false =>
                  refine wpAnyH_take (i := 0) (oi := { dst := some 121, op := Go.Op.move (Go.Operand.tmp 20), type := 4, pos := _, after := #[], guard := none }) (v := .bool false) rfl (by kernel_rfl) (by kernel_rfl) (by kernel_rfl) (fun _ _ _ h => h) (Or.inl ⟨by rfl, fun w' hw' => ?_⟩) hHeld ?_
                  · first | (go_simp; done) | (go_simp; rfl)
                  try simp only [Act.put, List.setIfInBounds_toArray, List.set_cons_zero, List.set_cons_succ]
                  refine wpAnyH_take (i := 1) (oi := { dst := some 122, op := Go.Op.move (Go.Operand.tmp 121), type := 4, pos := _, after := #[{ on := 0, ground := Go.Ground.data }], guard := none }) (v := .bool false) rfl (by kernel_rfl) (by kernel_rfl) (by kernel_rfl) (fun _ _ _ h => h) (Or.inl ⟨by rfl, fun w' hw' => ?_⟩) hHeld ?_
                  · first | (go_simp; done) | (go_simp; rfl)
                  try simp only [Act.put, List.setIfInBounds_toArray, List.set_cons_zero, List.set_cons_succ]
                  refine wpAnyH_take (i := 2) (oi := { dst := some 123, op := Go.Op.move (Go.Operand.tmp 13), type := 28, pos := _, after := #[{ on := 1, ground := Go.Ground.guard }], guard := some (1, true) }) (v := undef) rfl (by kernel_rfl) (by kernel_rfl) (by kernel_rfl) (fun _ _ _ h => h) (Or.inr ⟨by rfl, rfl⟩) hHeld ?_
                  try simp only [Act.put, List.setIfInBounds_toArray, List.set_cons_zero, List.set_cons_succ]
                  refine wpAnyH_take (i := 3) (oi := { dst := some 124, op := Go.Op.move (Go.Operand.tmp 21), type := 3, pos := _, after := #[{ on := 1, ground := Go.Ground.guard }], guard := some (1, true) }) (v := undef) rfl (by kernel_rfl) (by kernel_rfl) (by kernel_rfl) (fun _ _ _ h => h) (Or.inr ⟨by rfl, rfl⟩) hHeld ?_
                  try simp only [Act.put, List.setIfInBounds_toArray, List.set_cons_zero, List.set_cons_succ]
                  refine wpAnyH_take (i := 4) (oi := { dst := some 125, op := Go.Op.indexAddr 28 (Go.Operand.tmp 123) (Go.Operand.tmp 124), type := 0, pos := _, after := #[{ on := 2, ground := Go.Ground.data }, { on := 3, ground := Go.Ground.data }, { on := 1, ground := Go.Ground.guard }], guard := some (1, true) }) (v := undef) rfl (by kernel_rfl) (by kernel_rfl) (by kernel_rfl) (fun _ _ _ h => h) (Or.inr ⟨by rfl, rfl⟩) hHeld ?_
                  try simp only [Act.put, List.setIfInBounds_toArray, List.set_cons_zero, List.set_cons_succ]
                  refine wpAnyH_take (i := 5) (oi := { dst := some 126, op := Go.Op.load 43 (Go.Operand.tmp 125), type := 43, pos := _, after := #[{ on := 4, ground := Go.Ground.data }, { on := 1, ground := Go.Ground.guard }], guard := some (1, true) }) (v := undef) rfl (by kernel_rfl) (by kernel_rfl) (by kernel_rfl) (fun _ _ _ h => h) (Or.inr ⟨by rfl, rfl⟩) hHeld ?_
                  try simp only [Act.put, List.setIfInBounds_toArray, List.set_cons_zero, List.set_cons_succ]
                  refine wpAnyH_take (i := 6) (oi := { dst := some 127, op := Go.Op.load 28 (Go.Operand.tmp 17), type := 28, pos := _, after := #[{ on := 1, ground := Go.Ground.guard }], guard := some (1, true) }) (v := undef) rfl (by kernel_rfl) (by kernel_rfl) (by kernel_rfl) (fun _ _ _ h => h) (Or.inr ⟨by rfl, rfl⟩) hHeld ?_
                  try simp only [Act.put, List.setIfInBounds_toArray, List.set_cons_zero, List.set_cons_succ]
                  refine wpAnyH_take (i := 7) (oi := { dst := some 128, op := Go.Op.move (Go.Operand.tmp 21), type := 3, pos := _, after := #[{ on := 1, ground := Go.Ground.guard }], guard := some (1, true) }) (v := undef) rfl (by kernel_rfl) (by kernel_rfl) (by kernel_rfl) (fun _ _ _ h => h) (Or.inr ⟨by rfl, rfl⟩) hHeld ?_
                  try simp only [Act.put, List.setIfInBounds_toArray, List.set_cons_zero, List.set_cons_succ]
                  refine wpAnyH_take (i := 8) (oi := { dst := some 129, op := Go.Op.indexAddr 28 (Go.Operand.tmp 127) (Go.Operand.tmp 128), type := 0, pos := _, after := #[{ on := 6, ground := Go.Ground.data }, { on := 7, ground := Go.Ground.data }, { on := 1, ground := Go.Ground.guard }], guard := some (1, true) }) (v := undef) rfl (by kernel_rfl) (by kernel_rfl) (by kernel_rfl) (fun _ _ _ h => h) (Or.inr ⟨by rfl, rfl⟩) hHeld ?_
                  try simp only [Act.put, List.setIfInBounds_toArray, List.set_cons_zero, List.set_cons_succ]
                  refine wpAnyH_take (i := 9) (oi := { dst := some 130, op := Go.Op.load 43 (Go.Operand.tmp 129), type := 43, pos := _, after := #[{ on := 8, ground := Go.Ground.data }, { on := 1, ground := Go.Ground.guard }], guard := some (1, true) }) (v := undef) rfl (by kernel_rfl) (by kernel_rfl) (by kernel_rfl) (fun _ _ _ h => h) (Or.inr ⟨by rfl, rfl⟩) hHeld ?_
                  try simp only [Act.put, List.setIfInBounds_toArray, List.set_cons_zero, List.set_cons_succ]
                  refine wpAnyH_take (i := 10) (oi := { dst := some 131, op := Go.Op.binOp Go.BinOp.eql 43 (Go.Operand.tmp 126) (Go.Operand.tmp 130) 43, type := 4, pos := _, after := #[{ on := 5, ground := Go.Ground.data }, { on := 9, ground := Go.Ground.data }, { on := 1, ground := Go.Ground.guard }], guard := some (1, true) }) (v := undef) rfl (by kernel_rfl) (by kernel_rfl) (by kernel_rfl) (fun _ _ _ h => h) (Or.inr ⟨by rfl, rfl⟩) hHeld ?_
                  try simp only [Act.put, List.setIfInBounds_toArray, List.set_cons_zero, List.set_cons_succ]
                  refine wpAnyH_take (i := 11) (oi := { dst := some 132, op := Go.Op.pick (Go.Operand.tmp 122) (Go.Operand.tmp 131) (Go.Operand.const (Go.Value.bool false)), type := 4, pos := _, after := #[{ on := 1, ground := Go.Ground.data }, { on := 10, ground := Go.Ground.data }], guard := none }) (v := .bool false) rfl (by kernel_rfl) (by kernel_rfl) (by kernel_rfl) (fun _ _ _ h => h) (Or.inl ⟨by rfl, fun w' hw' => ?_⟩) hHeld ?_
                  · first | (go_simp; done) | (go_simp; rfl)
                  try simp only [Act.put, List.setIfInBounds_toArray, List.set_cons_zero, List.set_cons_succ]
                  refine wpAnyH_take (i := 12) (oi := { dst := some 20, op := Go.Op.assign (Go.Operand.tmp 132), type := 4, pos := _, after := #[{ on := 11, ground := Go.Ground.data }, { on := 1, ground := Go.Ground.chain }, { on := 0, ground := Go.Ground.phase }, { on := 1, ground := Go.Ground.phase }, { on := 2, ground := Go.Ground.phase }, { on := 3, ground := Go.Ground.phase }, { on := 4, ground := Go.Ground.phase }, { on := 5, ground := Go.Ground.phase }, { on := 6, ground := Go.Ground.phase }, { on := 7, ground := Go.Ground.phase }, { on := 8, ground := Go.Ground.phase }, { on := 9, ground := Go.Ground.phase }, { on := 10, ground := Go.Ground.phase }, { on := 11, ground := Go.Ground.phase }], guard := none }) (v := .bool false) rfl (by kernel_rfl) (by kernel_rfl) (by kernel_rfl) (fun _ _ _ h => h) (Or.inl ⟨by rfl, fun w' hw' => ?_⟩) hHeld ?_
                  · first | (go_simp; done) | (go_simp; rfl)
                  try simp only [Act.put, List.setIfInBounds_toArray, List.set_cons_zero, List.set_cons_succ]
                  refine wpAnyH_done (by kernel_rfl) ?_ _
                  have HS2 : Hid (false = true ↔ ∀ j, j < k + 1 → M[j]? = L[j]?) := sm_false HSM.out
                  have HJ2 : Hid _ := HJ.out.below hHeld2
                  have HC2 : Hid _ := HC.out.step hHeld2
                  have HE2 : Hid _ := HE.out.below hHeld2
                  clear hHeld hHeld2 heq HRM HRL HCO HCM HJ HC HE hgn hgo
                  go_wp2
                  go_roundw
                  case rel => exact ⟨k + 1, m, false, by omega, by go_num, by go_num, rfl, HNX.out.symm, HS2, HJ2.out, HC2.out, HE2.out⟩
                  case measure => simp [intOf]; omega
            · have hke : k = n := by omega
              subst hke
              rw [List.take_of_length_le (by rw [HMl.out]; exact Nat.le_refl _)] at HM
              have HLQ : Hid (lq L M = SM) := take_lq HMl.out HLl.out HSM.out
              have HCT : Hid (Calls Try.prog 18 #[.pointer (some ⟨tb, 0, none⟩), .int .i64 s, .int .u64 (o : Int)] W fun e w' => e = .returned (.int .i64 (m : Int)) ∧ Below W.heap.size W w') := by
                show Calls _ _ _ _ _
                rw [HM.out]
                exact count_ok tb gb k k M s o W HJ.out.pm.pr
              clear hk hlt
              go_wp2_with fail
              refine Calls.mono HCT.out ?_
              rintro e X1 ⟨rfl, hb1⟩
              have HJ1 : Hid _ := HJ.out.below hb1
              have HC1 : Hid _ := HC.out.step hb1
              have HE1 : Hid _ := HE.out.below hb1
              have HSA : Hid (Calls Try.prog 17 #[.pointer (some ⟨mc, 0, none⟩), .pointer (some ⟨tb, 0, none⟩)] X1 fun e w' => e = .returned (.bool SM) ∧ Below X1.heap.size X1 w') := by
                show Calls _ _ _ _ _
                have := same_ok mc cp1 k1 tb gb k k L M X1 HE1.out.pr HJ1.out.pm.pr
                rw [HLQ.out] at this
                exact this
              clear hb1 HCT HJ HC HE hgn hgo HLQ HSM HM
              go_wp2_with fail
              refine Calls.mono HSA.out ?_
              rintro e X2 ⟨rfl, hb2⟩
              have HJ2 : Hid _ := HJ1.out.below hb2
              have HC2 : Hid _ := HC1.out.step hb2
              have HE2 : Hid _ := HE1.out.below hb2
              have hcw := HE2.out.wc
              have HRO : Hid _ := rows_any mc cp1 k k1 wb kw L X2 HE2.out.pr HE2.out.wr
              clear hb2 HSA HJ1 HC1 HE1
              go_wp2_with fail
              refine Calls.mono HRO.out ?_
              rintro e X3 ⟨rfl, hb3⟩
              have HJ3 : Hid _ := HJ2.out.below hb3
              have HC3 : Hid _ := HC2.out.step hb3
              have HE3 : Hid _ := HE2.out.below hb3
              clear hb3 HRO HJ2 HC2 HE2 hcw
              go_wp2
              obtain ⟨WN, hWN⟩ : ∃ WN, WN = X3.alloc (.cells #[.int .i64 0] 3 (0, 0)) := ⟨_, rfl⟩
              have hbN : Below X3.heap.size X3 WN := by rw [hWN]; exact (Below.refl _ _).alloc (Nat.le_refl _) _
              have hsN : WN.heap.size = X3.heap.size + 1 := by rw [hWN]; simp
              have HEN : Hid _ := HE3.out.below hbN
              have HIN : Hid (IW w k o X3.heap.size ws wb kw L 0 0 WN) := ⟨HC3.out.step hbN, HEN.out.wc, HEN.out.wr, HLl.out, by rw [hWN]; exact heap_alloc_new _ _, Nat.le_refl _, fun j r _ h => absurd h (Nat.not_lt_zero _)⟩
              have hgx : w.heap.size + 3 ≤ X3.heap.size := HJ3.out.low
              have hws : ws < X3.heap.size := block_lt HE3.out.wc
              have hwb : wb < X3.heap.size := HE3.out.wlt
              have hfbl : fb < X3.heap.size := HE3.out.oh.lt
              have hobl : ob < X3.heap.size := HE3.out.oh.olt
              have hcbl : cp2 < X3.heap.size := HE3.out.oh.clt (by omega)
              rw [← hWN]
              generalize X3.heap.size = gx at *
              clear hWN hbN HJ3 HC3 HE3
              refine range_of (fb := fb) (ob := ob) (cb := cp2) (n := k) (cap := k2) (o := o) (l := L) rfl rfl HEN.out.oh (by omega) (fun j X => ∃ gv, IW w k o gx ws wb kw L gv j X) (fun j X Y ⟨gv, h⟩ hb => ⟨gv, h.step hb⟩) (fun j X lp ob ⟨gv, h⟩ hl => ⟨gv, h.put lp ob (by omega) (by omega) (by omega) (by omega)⟩) (fun j X r hr hz ⟨gv, h⟩ => ⟨gv, h.skip hr hz⟩) ⟨0, HIN.out⟩ ?_ ?_
              · intro lp j X r hr hro hI hlp hX hlr
                obtain ⟨gv, hI⟩ := hI
                simp only [List.zip_toArray, List.zip_cons_cons, List.zip_nil_left, List.zip_nil_right, List.foldl_toArray, List.foldl_cons, List.foldl_nil, List.setIfInBounds_toArray, List.set_cons_succ, List.set_cons_zero]
                have HII : Hid _ := hI
                have hjk : j < k := by rw [← hI.ln]; exact (List.getElem?_eq_some_iff.1 hr).1
                have hjI : (j : Int) < (k : Int) := by omega
                obtain ⟨st, ow, held⟩ := r
                have HRJ : Hid (L[j]? = some ⟨st, ow, held⟩) := hr
                have HRO : Hid (ow = o) := hro
                clear hI hr hro HIN
                refine wpIn_seq ?_
                refine region_plain (by kernel_rfl) (fun h => by obtain ⟨_, _, h⟩ := h; exact h) ?_
                go_wp2_with fail
                change Code.wpIn _ _ _ _ _ _ _
                refine region_plain (by kernel_rfl) (fun h => by obtain ⟨_, _, h⟩ := h; exact h) ?_
                go_wp2_with fail
                refine ⟨Below.refl _ _, fun X2 hX2 => ?_⟩
                obtain ⟨ob', hX2⟩ := hX2
                have HI2 : Hid (IW w k o gx ws wb kw L gv j X2) := by
                  show IW _ _ _ _ _ _ _ _ _ _ _
                  rw [hX2]; exact HII.out.put lp ob' (by omega) (by omega) (by omega) (by omega)
                have hsX2 : X2.heap.size = X.heap.size := by rw [hX2]; simp
                clear hX2 HII hlr
                refine wpIn_block (wpIn_seq (wpIn_block ?_))
                try simp only [Act.put]
                gi_loopw [155] (fun _ wr => ∃ gv, IW w k o gx ws wb kw L gv j wr ∧ KpR WN.heap.size fb ob cp2 X2 wr) (fun _ wr => j - gAt wr gx)
                case atStart => exact ⟨gv, HI2.out, KpR.refl _ _ _ _ _⟩
                case round =>
                  clear HI2
                  obtain ⟨g2, hI2, hK2⟩ := hrel
                  have hgk := hI2.gk
                  have HI2 : Hid _ := hI2
                  have HK2 : Hid (KpR WN.heap.size fb ob cp2 X2 wr) := hK2
                  have hgn : (g2 : Int) < (k : Int) := by omega
                  have hga := hI2.gAt
                  rw [hga]
                  have hswr := hK2.1
                  have HCG : Hid (∀ Z, Below wr.heap.size wr Z → Z.cell? ⟨gx, 0, none⟩ = some (.int .i64 (g2 : Int)) ∧ Z.cell? ⟨w.heap.size, 0, none⟩ = some (.int .i64 (k : Int)) ∧ Z.cell? ⟨w.heap.size + 1, 0, none⟩ = some (.int .u64 (o : Int)) ∧ Z.cell? ⟨ws, 0, none⟩ = some (.slice (some ⟨wb, 0, none⟩) k kw)) := fun Z hZ => ⟨(HI2.out.step hZ).cells.1, (HI2.out.step hZ).cells.2.2.1, (HI2.out.step hZ).cells.2.2.2, (HI2.out.step hZ).wc⟩
                  obtain ⟨r2, hr2⟩ : ∃ r, L[g2]? = some r := ⟨_, List.getElem?_eq_getElem (by rw [hI2.ln]; omega)⟩
                  have HRW : Hid (∀ Z, Below wr.heap.size wr Z → Z.cell? ⟨wb, g2 * 3, none⟩ = some (.int .i64 r2.st) ∧ Z.cell? ⟨wb, g2 * 3 + 1, none⟩ = some (.int .u64 (r2.ow : Int))) := fun Z hZ => (HI2.out.step hZ).row hr2
                  by_cases hlt : g2 < j
                  · have hne := hI2.z g2 r2 (Nat.le_refl _) hlt hr2
                    have hoI : ((r2.ow : Int) != (o : Int)) = true := by rw [bne_iff_ne]; omega
                    clear hI2 hK2 hr2 hne
                    refine wpIn_seq (wpIn_seq ?_)
                    refine region_round (S := Below wr.heap.size wr) (by kernel_rfl) (by kernel_rfl) (fun h => by obtain ⟨_, _, h1, _⟩ := h; cases h1) (below_drew _) (fun hHeld => ?_)
                    refine wpAnyH_take (i := 0) (oi := { dst := some 155, op := Go.Op.load 3 (Go.Operand.tmp 22), type := 3, pos := _, after := #[], guard := none }) (v := .int .i64 (g2 : Int)) rfl (by kernel_rfl) (by kernel_rfl) (by kernel_rfl) (fun _ _ _ h => h) (Or.inl ⟨by rfl, fun w' hw' => ?_⟩) hHeld ?_
                    · have hcc := (HCG.out _ hw').1; first | (go_simp; done) | (go_simp; rfl)
                    try simp only [Act.put, List.setIfInBounds_toArray, List.set_cons_zero, List.set_cons_succ]
                    refine wpAnyH_take (i := 1) (oi := { dst := some 156, op := Go.Op.load 3 (Go.Operand.tmp 5), type := 3, pos := _, after := #[], guard := none }) (v := .int .i64 (k : Int)) rfl (by kernel_rfl) (by kernel_rfl) (by kernel_rfl) (fun _ _ _ h => h) (Or.inl ⟨by rfl, fun w' hw' => ?_⟩) hHeld ?_
                    · have hcc := (HCG.out _ hw').2.1; first | (go_simp; done) | (go_simp; rfl)
                    try simp only [Act.put, List.setIfInBounds_toArray, List.set_cons_zero, List.set_cons_succ]
                    refine wpAnyH_take (i := 2) (oi := { dst := some 157, op := Go.Op.binOp Go.BinOp.lss 3 (Go.Operand.tmp 155) (Go.Operand.tmp 156) 3, type := 4, pos := _, after := #[{ on := 0, ground := Go.Ground.data }, { on := 1, ground := Go.Ground.data }], guard := none }) (v := .bool true) rfl (by kernel_rfl) (by kernel_rfl) (by kernel_rfl) (fun _ _ _ h => h) (Or.inl ⟨by rfl, fun w' hw' => ?_⟩) hHeld ?_
                    · first | (go_simp; done) | (go_simp; rfl)
                    try simp only [Act.put, List.setIfInBounds_toArray, List.set_cons_zero, List.set_cons_succ]
                    refine wpAnyH_take (i := 3) (oi := { dst := some 158, op := Go.Op.move (Go.Operand.tmp 157), type := 4, pos := _, after := #[{ on := 2, ground := Go.Ground.data }], guard := none }) (v := .bool true) rfl (by kernel_rfl) (by kernel_rfl) (by kernel_rfl) (fun _ _ _ h => h) (Or.inl ⟨by rfl, fun w' hw' => ?_⟩) hHeld ?_
                    · first | (go_simp; done) | (go_simp; rfl)
                    try simp only [Act.put, List.setIfInBounds_toArray, List.set_cons_zero, List.set_cons_succ]
                    refine wpAnyH_take (i := 4) (oi := { dst := some 159, op := Go.Op.load 28 (Go.Operand.tmp 17), type := 28, pos := _, after := #[{ on := 3, ground := Go.Ground.guard }], guard := some (3, true) }) (v := .slice (some ⟨wb, 0, none⟩) k kw) rfl (by kernel_rfl) (by kernel_rfl) (by kernel_rfl) (fun _ _ _ h => h) (Or.inl ⟨by rfl, fun w' hw' => ?_⟩) hHeld ?_
                    · have hcc := (HCG.out _ hw').2.2.2; first | (go_simp; done) | (go_simp; rfl)
                    try simp only [Act.put, List.setIfInBounds_toArray, List.set_cons_zero, List.set_cons_succ]
                    refine wpAnyH_take (i := 5) (oi := { dst := some 160, op := Go.Op.load 3 (Go.Operand.tmp 22), type := 3, pos := _, after := #[{ on := 3, ground := Go.Ground.guard }], guard := some (3, true) }) (v := .int .i64 (g2 : Int)) rfl (by kernel_rfl) (by kernel_rfl) (by kernel_rfl) (fun _ _ _ h => h) (Or.inl ⟨by rfl, fun w' hw' => ?_⟩) hHeld ?_
                    · have hcc := (HCG.out _ hw').1; first | (go_simp; done) | (go_simp; rfl)
                    try simp only [Act.put, List.setIfInBounds_toArray, List.set_cons_zero, List.set_cons_succ]
                    refine wpAnyH_take (i := 6) (oi := { dst := some 161, op := Go.Op.indexAddr 28 (Go.Operand.tmp 159) (Go.Operand.tmp 160), type := 0, pos := _, after := #[{ on := 4, ground := Go.Ground.data }, { on := 5, ground := Go.Ground.data }, { on := 3, ground := Go.Ground.guard }], guard := some (3, true) }) (v := .pointer (some ⟨wb, g2 * 3, none⟩)) rfl (by kernel_rfl) (by kernel_rfl) (by kernel_rfl) (fun _ _ _ h => h) (Or.inl ⟨by rfl, fun w' hw' => ?_⟩) hHeld ?_
                    · first | (go_simp; done) | (go_simp; rfl)
                    try simp only [Act.put, List.setIfInBounds_toArray, List.set_cons_zero, List.set_cons_succ]
                    refine wpAnyH_take (i := 7) (oi := { dst := some 162, op := Go.Op.fieldAddr 43 (Go.Operand.tmp 161) 1, type := 0, pos := _, after := #[{ on := 6, ground := Go.Ground.data }, { on := 3, ground := Go.Ground.guard }], guard := some (3, true) }) (v := .pointer (some ⟨wb, g2 * 3 + 1, none⟩)) rfl (by kernel_rfl) (by kernel_rfl) (by kernel_rfl) (fun _ _ _ h => h) (Or.inl ⟨by rfl, fun w' hw' => ?_⟩) hHeld ?_
                    · first | (go_simp; done) | (go_simp; rfl)
                    try simp only [Act.put, List.setIfInBounds_toArray, List.set_cons_zero, List.set_cons_succ]
                    refine wpAnyH_take (i := 8) (oi := { dst := some 163, op := Go.Op.load 32 (Go.Operand.tmp 162), type := 32, pos := _, after := #[{ on := 7, ground := Go.Ground.data }, { on := 3, ground := Go.Ground.guard }], guard := some (3, true) }) (v := .int .u64 (r2.ow : Int)) rfl (by kernel_rfl) (by kernel_rfl) (by kernel_rfl) (fun _ _ _ h => h) (Or.inl ⟨by rfl, fun w' hw' => ?_⟩) hHeld ?_
                    · have hcc := (HRW.out _ hw').2; first | (go_simp; done) | (go_simp; rfl)
                    try simp only [Act.put, List.setIfInBounds_toArray, List.set_cons_zero, List.set_cons_succ]
                    refine wpAnyH_take (i := 9) (oi := { dst := some 164, op := Go.Op.load 32 (Go.Operand.tmp 9), type := 32, pos := _, after := #[{ on := 3, ground := Go.Ground.guard }], guard := some (3, true) }) (v := .int .u64 (o : Int)) rfl (by kernel_rfl) (by kernel_rfl) (by kernel_rfl) (fun _ _ _ h => h) (Or.inl ⟨by rfl, fun w' hw' => ?_⟩) hHeld ?_
                    · have hcc := (HCG.out _ hw').2.2.1; first | (go_simp; done) | (go_simp; rfl)
                    try simp only [Act.put, List.setIfInBounds_toArray, List.set_cons_zero, List.set_cons_succ]
                    refine wpAnyH_take (i := 10) (oi := { dst := some 165, op := Go.Op.binOp Go.BinOp.neq 32 (Go.Operand.tmp 163) (Go.Operand.tmp 164) 32, type := 4, pos := _, after := #[{ on := 8, ground := Go.Ground.data }, { on := 9, ground := Go.Ground.data }, { on := 3, ground := Go.Ground.guard }], guard := some (3, true) }) (v := .bool true) rfl (by kernel_rfl) (by kernel_rfl) (by kernel_rfl) (fun _ _ _ h => h) (Or.inl ⟨by rfl, fun w' hw' => ?_⟩) hHeld ?_
                    · first | (go_simp; done) | (go_simp; rfl)
                    try simp only [Act.put, List.setIfInBounds_toArray, List.set_cons_zero, List.set_cons_succ]
                    refine wpAnyH_take (i := 11) (oi := { dst := some 166, op := Go.Op.pick (Go.Operand.tmp 158) (Go.Operand.tmp 165) (Go.Operand.const (Go.Value.bool false)), type := 4, pos := _, after := #[{ on := 3, ground := Go.Ground.data }, { on := 10, ground := Go.Ground.data }], guard := none }) (v := .bool true) rfl (by kernel_rfl) (by kernel_rfl) (by kernel_rfl) (fun _ _ _ h => h) (Or.inl ⟨by rfl, fun w' hw' => ?_⟩) hHeld ?_
                    · first | (go_simp; done) | (go_simp; rfl)
                    try simp only [Act.put, List.setIfInBounds_toArray, List.set_cons_zero, List.set_cons_succ]
                    refine wpAnyH_done (by kernel_rfl) ?_ _
                    have HIV : Hid _ := HI2.out.step hHeld
                    have HKV : Hid (KpR WN.heap.size fb ob cp2 X2 wr.drew) := KpR.step HK2.out hHeld
                    obtain ⟨hcg2, hfg2, _, _⟩ := HIV.out.cells
                    generalize wr.drew = V at *
                    clear hHeld HCG HRW
                    change Code.wpIn _ _ _ _ _ _ _
                    refine wpIn_cond_true (by rfl) (wpIn_skip ?_)
                    change Code.wpIn _ _ _ _ _ _ _
                    refine wpIn_block ?_
                    refine region_plain (by kernel_rfl) (fun h => by obtain ⟨_, _, h1, _⟩ := h; cases h1) ?_
                    go_wp2_with fail
                    go_roundw
                    case rel =>
                      refine ⟨g2 + 1, ?_, KpR.set HKV.out (by omega) (by omega) (by omega) (by omega) _⟩
                      have hz := HIV.out.z
                      have := HIV.out.set hgx (by omega) (by omega) (g2 + 1) j (by omega) (fun i r h1 h2 h3 => hz i r (by omega) h2 h3)
                      rw [show ((g2 + 1 : Nat) : Int) = (g2 : Int) + 1 by omega] at this
                      exact this
                    case measure =>
                      have hz := HIV.out.z
                      have := (HIV.out.set hgx (by omega) (by omega) (g2 + 1) j (by omega) (fun i r h1 h2 h3 => hz i r (by omega) h2 h3)).gAt
                      rw [show ((g2 + 1 : Nat) : Int) = (g2 : Int) + 1 by omega] at this
                      rw [this]; omega
                  · have hge : g2 = j := by omega
                    subst hge
                    have hrr : r2 = ⟨st, ow, held⟩ := by have := HRJ.out; rw [hr2] at this; exact Option.some.inj this
                    subst hrr
                    have hoI : ((ow : Int) != (o : Int)) = false := by rw [bne_eq_false_iff_eq]; have := HRO.out; omega
                    simp only at HRW
                    clear hI2 hK2 hr2
                    refine wpIn_seq (wpIn_seq ?_)
                    refine region_round (S := Below wr.heap.size wr) (by kernel_rfl) (by kernel_rfl) (fun h => by obtain ⟨_, _, h1, _⟩ := h; cases h1) (below_drew _) (fun hHeld => ?_)
                    refine wpAnyH_take (i := 0) (oi := { dst := some 155, op := Go.Op.load 3 (Go.Operand.tmp 22), type := 3, pos := _, after := #[], guard := none }) (v := .int .i64 (g2 : Int)) rfl (by kernel_rfl) (by kernel_rfl) (by kernel_rfl) (fun _ _ _ h => h) (Or.inl ⟨by rfl, fun w' hw' => ?_⟩) hHeld ?_
                    · have hcc := (HCG.out _ hw').1; first | (go_simp; done) | (go_simp; rfl)
                    try simp only [Act.put, List.setIfInBounds_toArray, List.set_cons_zero, List.set_cons_succ]
                    refine wpAnyH_take (i := 1) (oi := { dst := some 156, op := Go.Op.load 3 (Go.Operand.tmp 5), type := 3, pos := _, after := #[], guard := none }) (v := .int .i64 (k : Int)) rfl (by kernel_rfl) (by kernel_rfl) (by kernel_rfl) (fun _ _ _ h => h) (Or.inl ⟨by rfl, fun w' hw' => ?_⟩) hHeld ?_
                    · have hcc := (HCG.out _ hw').2.1; first | (go_simp; done) | (go_simp; rfl)
                    try simp only [Act.put, List.setIfInBounds_toArray, List.set_cons_zero, List.set_cons_succ]
                    refine wpAnyH_take (i := 2) (oi := { dst := some 157, op := Go.Op.binOp Go.BinOp.lss 3 (Go.Operand.tmp 155) (Go.Operand.tmp 156) 3, type := 4, pos := _, after := #[{ on := 0, ground := Go.Ground.data }, { on := 1, ground := Go.Ground.data }], guard := none }) (v := .bool true) rfl (by kernel_rfl) (by kernel_rfl) (by kernel_rfl) (fun _ _ _ h => h) (Or.inl ⟨by rfl, fun w' hw' => ?_⟩) hHeld ?_
                    · first | (go_simp; done) | (go_simp; rfl)
                    try simp only [Act.put, List.setIfInBounds_toArray, List.set_cons_zero, List.set_cons_succ]
                    refine wpAnyH_take (i := 3) (oi := { dst := some 158, op := Go.Op.move (Go.Operand.tmp 157), type := 4, pos := _, after := #[{ on := 2, ground := Go.Ground.data }], guard := none }) (v := .bool true) rfl (by kernel_rfl) (by kernel_rfl) (by kernel_rfl) (fun _ _ _ h => h) (Or.inl ⟨by rfl, fun w' hw' => ?_⟩) hHeld ?_
                    · first | (go_simp; done) | (go_simp; rfl)
                    try simp only [Act.put, List.setIfInBounds_toArray, List.set_cons_zero, List.set_cons_succ]
                    refine wpAnyH_take (i := 4) (oi := { dst := some 159, op := Go.Op.load 28 (Go.Operand.tmp 17), type := 28, pos := _, after := #[{ on := 3, ground := Go.Ground.guard }], guard := some (3, true) }) (v := .slice (some ⟨wb, 0, none⟩) k kw) rfl (by kernel_rfl) (by kernel_rfl) (by kernel_rfl) (fun _ _ _ h => h) (Or.inl ⟨by rfl, fun w' hw' => ?_⟩) hHeld ?_
                    · have hcc := (HCG.out _ hw').2.2.2; first | (go_simp; done) | (go_simp; rfl)
                    try simp only [Act.put, List.setIfInBounds_toArray, List.set_cons_zero, List.set_cons_succ]
                    refine wpAnyH_take (i := 5) (oi := { dst := some 160, op := Go.Op.load 3 (Go.Operand.tmp 22), type := 3, pos := _, after := #[{ on := 3, ground := Go.Ground.guard }], guard := some (3, true) }) (v := .int .i64 (g2 : Int)) rfl (by kernel_rfl) (by kernel_rfl) (by kernel_rfl) (fun _ _ _ h => h) (Or.inl ⟨by rfl, fun w' hw' => ?_⟩) hHeld ?_
                    · have hcc := (HCG.out _ hw').1; first | (go_simp; done) | (go_simp; rfl)
                    try simp only [Act.put, List.setIfInBounds_toArray, List.set_cons_zero, List.set_cons_succ]
                    refine wpAnyH_take (i := 6) (oi := { dst := some 161, op := Go.Op.indexAddr 28 (Go.Operand.tmp 159) (Go.Operand.tmp 160), type := 0, pos := _, after := #[{ on := 4, ground := Go.Ground.data }, { on := 5, ground := Go.Ground.data }, { on := 3, ground := Go.Ground.guard }], guard := some (3, true) }) (v := .pointer (some ⟨wb, g2 * 3, none⟩)) rfl (by kernel_rfl) (by kernel_rfl) (by kernel_rfl) (fun _ _ _ h => h) (Or.inl ⟨by rfl, fun w' hw' => ?_⟩) hHeld ?_
                    · first | (go_simp; done) | (go_simp; rfl)
                    try simp only [Act.put, List.setIfInBounds_toArray, List.set_cons_zero, List.set_cons_succ]
                    refine wpAnyH_take (i := 7) (oi := { dst := some 162, op := Go.Op.fieldAddr 43 (Go.Operand.tmp 161) 1, type := 0, pos := _, after := #[{ on := 6, ground := Go.Ground.data }, { on := 3, ground := Go.Ground.guard }], guard := some (3, true) }) (v := .pointer (some ⟨wb, g2 * 3 + 1, none⟩)) rfl (by kernel_rfl) (by kernel_rfl) (by kernel_rfl) (fun _ _ _ h => h) (Or.inl ⟨by rfl, fun w' hw' => ?_⟩) hHeld ?_
                    · first | (go_simp; done) | (go_simp; rfl)
                    try simp only [Act.put, List.setIfInBounds_toArray, List.set_cons_zero, List.set_cons_succ]
                    refine wpAnyH_take (i := 8) (oi := { dst := some 163, op := Go.Op.load 32 (Go.Operand.tmp 162), type := 32, pos := _, after := #[{ on := 7, ground := Go.Ground.data }, { on := 3, ground := Go.Ground.guard }], guard := some (3, true) }) (v := .int .u64 (ow : Int)) rfl (by kernel_rfl) (by kernel_rfl) (by kernel_rfl) (fun _ _ _ h => h) (Or.inl ⟨by rfl, fun w' hw' => ?_⟩) hHeld ?_
                    · have hcc := (HRW.out _ hw').2; first | (go_simp; done) | (go_simp; rfl)
                    try simp only [Act.put, List.setIfInBounds_toArray, List.set_cons_zero, List.set_cons_succ]
                    refine wpAnyH_take (i := 9) (oi := { dst := some 164, op := Go.Op.load 32 (Go.Operand.tmp 9), type := 32, pos := _, after := #[{ on := 3, ground := Go.Ground.guard }], guard := some (3, true) }) (v := .int .u64 (o : Int)) rfl (by kernel_rfl) (by kernel_rfl) (by kernel_rfl) (fun _ _ _ h => h) (Or.inl ⟨by rfl, fun w' hw' => ?_⟩) hHeld ?_
                    · have hcc := (HCG.out _ hw').2.2.1; first | (go_simp; done) | (go_simp; rfl)
                    try simp only [Act.put, List.setIfInBounds_toArray, List.set_cons_zero, List.set_cons_succ]
                    refine wpAnyH_take (i := 10) (oi := { dst := some 165, op := Go.Op.binOp Go.BinOp.neq 32 (Go.Operand.tmp 163) (Go.Operand.tmp 164) 32, type := 4, pos := _, after := #[{ on := 8, ground := Go.Ground.data }, { on := 9, ground := Go.Ground.data }, { on := 3, ground := Go.Ground.guard }], guard := some (3, true) }) (v := .bool false) rfl (by kernel_rfl) (by kernel_rfl) (by kernel_rfl) (fun _ _ _ h => h) (Or.inl ⟨by rfl, fun w' hw' => ?_⟩) hHeld ?_
                    · first | (go_simp; done) | (go_simp; rfl)
                    try simp only [Act.put, List.setIfInBounds_toArray, List.set_cons_zero, List.set_cons_succ]
                    refine wpAnyH_take (i := 11) (oi := { dst := some 166, op := Go.Op.pick (Go.Operand.tmp 158) (Go.Operand.tmp 165) (Go.Operand.const (Go.Value.bool false)), type := 4, pos := _, after := #[{ on := 3, ground := Go.Ground.data }, { on := 10, ground := Go.Ground.data }], guard := none }) (v := .bool false) rfl (by kernel_rfl) (by kernel_rfl) (by kernel_rfl) (fun _ _ _ h => h) (Or.inl ⟨by rfl, fun w' hw' => ?_⟩) hHeld ?_
                    · first | (go_simp; done) | (go_simp; rfl)
                    try simp only [Act.put, List.setIfInBounds_toArray, List.set_cons_zero, List.set_cons_succ]
                    refine wpAnyH_done (by kernel_rfl) ?_ _
                    have HIV : Hid _ := HI2.out.step hHeld
                    have HKV : Hid (KpR WN.heap.size fb ob cp2 X2 wr.drew) := KpR.step HK2.out hHeld
                    obtain ⟨hcg2, hfg2, _, _⟩ := HIV.out.cells
                    obtain ⟨_, hcn2, hco2, hcw2⟩ := HCG.out _ hHeld
                    obtain ⟨hrs2, _⟩ := HRW.out _ hHeld
                    generalize wr.drew = V at *
                    clear hHeld HCG HRW
                    change Code.wpIn _ _ _ _ _ _ _
                    refine wpIn_cond_false (by rfl) (wpIn_exit ?_)
                    simp only [Exit.inBlock, Exit.then, ↓reduceIte]
                    have hgnI : ¬ (k : Int) ≤ (g2 : Int) := by omega
                    refine wpIn_seq (wpIn_seq ?_)
                    refine region_plain (by kernel_rfl) (fun h => by obtain ⟨_, _, h1, _⟩ := h; cases h1) ?_
                    go_wp2_with fail
                    change Code.wpIn _ _ _ _ _ _ _
                    refine wpIn_cond_false (by rfl) (wpIn_skip ?_)
                    change Code.wpIn _ _ _ _ _ _ _
                    refine region_plain (by kernel_rfl) (fun h => by obtain ⟨_, _, h1, _⟩ := h; cases h1) ?_
                    go_wp2_with fail
                    refine ⟨trivial, ⟨g2 + 1, ?_⟩, (by have := KpR.set (gx := gx) HKV.out (by omega) (by omega) (by omega) (by omega) (.int .i64 ((g2 : Int) + 1)); first | exact this | (rw [hsN] at this; exact this))⟩
                    have := HIV.out.set hgx (by omega) (by omega) (g2 + 1) (g2 + 1) (Nat.le_refl _) (fun i r h1 h2 => by omega)
                    rw [show ((g2 + 1 : Nat) : Int) = (g2 : Int) + 1 by omega] at this
                    exact this
              · intro X hI hd
                obtain ⟨gv, hI⟩ := hI
                have HI0 : Hid _ := hI
                have HD0 : Hid (X.heap[gx + 1]? = some (.deferred (some []))) := by rw [← hsN]; exact hd
                rw [hsN]
                clear hI hd HIN HEN
                go_wp2
                go_loopw [188] (fun _ wr => ∃ g2, IW w k o gx ws wb kw L g2 k wr ∧ wr.heap[gx + 1]? = some (.deferred (some []))) (fun _ wr => k - gAt wr gx)
                case atStart => exact ⟨gv, HI0.out, HD0.out⟩
                case round =>
                  clear HI0 HD0
                  obtain ⟨g2, hI2, hD2⟩ := hrel
                  obtain ⟨hcg, hfg, hcn, hco⟩ := hI2.cells
                  have hgk := hI2.gk
                  have HI2 : Hid _ := hI2
                  have HD2 : Hid _ := hD2
                  have hga := hI2.gAt
                  have hswr := row_lt hD2
                  by_cases hlt : g2 < k
                  · have hgn : (g2 : Int) < (k : Int) := by omega
                    obtain ⟨r2, hr2⟩ : ∃ r, L[g2]? = some r := ⟨_, List.getElem?_eq_getElem (by rw [hI2.ln]; omega)⟩
                    have hne := hI2.z g2 r2 (Nat.le_refl _) hlt hr2
                    have hoI : ((r2.ow : Int) == (o : Int)) = false := by rw [beq_eq_false_iff_ne]; omega
                    have HCG : Hid (∀ Z, Below wr.heap.size wr Z → Z.cell? ⟨gx, 0, none⟩ = some (.int .i64 (g2 : Int)) ∧ Z.cell? ⟨w.heap.size + 1, 0, none⟩ = some (.int .u64 (o : Int)) ∧ Z.cell? ⟨ws, 0, none⟩ = some (.slice (some ⟨wb, 0, none⟩) k kw)) := fun Z hZ => ⟨(HI2.out.step hZ).cells.1, (HI2.out.step hZ).cells.2.2.2, (HI2.out.step hZ).wc⟩
                    have HRW : Hid (∀ Z, Below wr.heap.size wr Z → Z.cell? ⟨wb, g2 * 3, none⟩ = some (.int .i64 r2.st) ∧ Z.cell? ⟨wb, g2 * 3 + 1, none⟩ = some (.int .u64 (r2.ow : Int))) := fun Z hZ => (HI2.out.step hZ).row hr2
                    clear hI2 hD2 hr2 hne
                    go_wp2_with fail
                    refine wp_only ?_
                    refine wp_region_held_drew (S := Below wr.heap.size wr) (by kernel_rfl) (below_drew _) (fun hHeld => ?_)
                    refine wpAnyH_take (i := 0) (oi := { dst := some 193, op := Go.Op.load 28 (Go.Operand.tmp 17), type := 28, pos := _, after := #[], guard := none }) (v := .slice (some ⟨wb, 0, none⟩) k kw) rfl (by kernel_rfl) (by kernel_rfl) (by kernel_rfl) (fun _ _ _ h => h) (Or.inl ⟨by rfl, fun w' hw' => ?_⟩) hHeld ?_
                    · have hcc := (HCG.out _ hw').2.2; first | (go_simp; done) | (go_simp; rfl)
                    try simp only [Act.put, List.setIfInBounds_toArray, List.set_cons_zero, List.set_cons_succ]
                    refine wpAnyH_take (i := 1) (oi := { dst := some 194, op := Go.Op.load 3 (Go.Operand.tmp 22), type := 3, pos := _, after := #[], guard := none }) (v := .int .i64 (g2 : Int)) rfl (by kernel_rfl) (by kernel_rfl) (by kernel_rfl) (fun _ _ _ h => h) (Or.inl ⟨by rfl, fun w' hw' => ?_⟩) hHeld ?_
                    · have hcc := (HCG.out _ hw').1; first | (go_simp; done) | (go_simp; rfl)
                    try simp only [Act.put, List.setIfInBounds_toArray, List.set_cons_zero, List.set_cons_succ]
                    refine wpAnyH_take (i := 2) (oi := { dst := some 195, op := Go.Op.indexAddr 28 (Go.Operand.tmp 193) (Go.Operand.tmp 194), type := 0, pos := _, after := #[{ on := 0, ground := Go.Ground.data }, { on := 1, ground := Go.Ground.data }], guard := none }) (v := .pointer (some ⟨wb, g2 * 3, none⟩)) rfl (by kernel_rfl) (by kernel_rfl) (by kernel_rfl) (fun _ _ _ h => h) (Or.inl ⟨by rfl, fun w' hw' => ?_⟩) hHeld ?_
                    · first | (go_simp; done) | (go_simp; rfl)
                    try simp only [Act.put, List.setIfInBounds_toArray, List.set_cons_zero, List.set_cons_succ]
                    refine wpAnyH_take (i := 3) (oi := { dst := some 196, op := Go.Op.fieldAddr 43 (Go.Operand.tmp 195) 1, type := 0, pos := _, after := #[{ on := 2, ground := Go.Ground.data }], guard := none }) (v := .pointer (some ⟨wb, g2 * 3 + 1, none⟩)) rfl (by kernel_rfl) (by kernel_rfl) (by kernel_rfl) (fun _ _ _ h => h) (Or.inl ⟨by rfl, fun w' hw' => ?_⟩) hHeld ?_
                    · first | (go_simp; done) | (go_simp; rfl)
                    try simp only [Act.put, List.setIfInBounds_toArray, List.set_cons_zero, List.set_cons_succ]
                    refine wpAnyH_take (i := 4) (oi := { dst := some 197, op := Go.Op.load 32 (Go.Operand.tmp 196), type := 32, pos := _, after := #[{ on := 3, ground := Go.Ground.data }], guard := none }) (v := .int .u64 (r2.ow : Int)) rfl (by kernel_rfl) (by kernel_rfl) (by kernel_rfl) (fun _ _ _ h => h) (Or.inl ⟨by rfl, fun w' hw' => ?_⟩) hHeld ?_
                    · have hcc := (HRW.out _ hw').2; first | (go_simp; done) | (go_simp; rfl)
                    try simp only [Act.put, List.setIfInBounds_toArray, List.set_cons_zero, List.set_cons_succ]
                    refine wpAnyH_take (i := 5) (oi := { dst := some 198, op := Go.Op.load 32 (Go.Operand.tmp 9), type := 32, pos := _, after := #[], guard := none }) (v := .int .u64 (o : Int)) rfl (by kernel_rfl) (by kernel_rfl) (by kernel_rfl) (fun _ _ _ h => h) (Or.inl ⟨by rfl, fun w' hw' => ?_⟩) hHeld ?_
                    · have hcc := (HCG.out _ hw').2.1; first | (go_simp; done) | (go_simp; rfl)
                    try simp only [Act.put, List.setIfInBounds_toArray, List.set_cons_zero, List.set_cons_succ]
                    refine wpAnyH_take (i := 6) (oi := { dst := some 199, op := Go.Op.binOp Go.BinOp.eql 32 (Go.Operand.tmp 197) (Go.Operand.tmp 198) 32, type := 4, pos := _, after := #[{ on := 4, ground := Go.Ground.data }, { on := 5, ground := Go.Ground.data }], guard := none }) (v := .bool false) rfl (by kernel_rfl) (by kernel_rfl) (by kernel_rfl) (fun _ _ _ h => h) (Or.inl ⟨by rfl, fun w' hw' => ?_⟩) hHeld ?_
                    · first | (go_simp; done) | (go_simp; rfl)
                    try simp only [Act.put, List.setIfInBounds_toArray, List.set_cons_zero, List.set_cons_succ]
                    refine wpAnyH_done (by kernel_rfl) ?_ _
                    have HIV : Hid _ := HI2.out.step hHeld
                    have HDV : Hid (wr.drew.heap[gx + 1]? = some (.deferred (some []))) := HD2.out
                    obtain ⟨hcg2, hfg2, _, _⟩ := HIV.out.cells
                    generalize wr.drew = V at *
                    clear hHeld HCG HRW hcg hfg
                    go_wp2_with fail
                    have hz := HIV.out.z
                    have hset := HIV.out.set hgx (by omega) (by omega) (g2 + 1) k (by omega) (fun i r h1 h2 h3 => hz i r (by omega) h2 h3)
                    rw [show ((g2 + 1 : Nat) : Int) = (g2 : Int) + 1 by omega] at hset
                    refine ⟨⟨g2 + 1, hset, (heap_setCell_other _ _ _ _ (by show gx + 1 ≠ gx; omega)).trans HDV.out⟩, ?_⟩
                    rw [hset.gAt, hga]; omega
                  · have hge : g2 = k := by omega
                    subst hge
                    have HC : Hid _ := hI2.c7
                    clear hI2 hD2
                    go_wp2_with fail
                    refine Calls.mono (known_any _) ?_
                    rintro e wk ⟨rfl, hbk⟩
                    have hc7 := HC.out.step hbk
                    have HC5 : Hid _ := hc7.set true
                    have HDK : Hid ((wk.setCell ⟨w.heap.size + 2, 0, none⟩ (.bool true)).heap[gx + 1]? = some (.deferred (some []))) := (heap_setCell_other _ _ _ _ (by show gx + 1 ≠ w.heap.size + 2; omega)).trans ((hbk.block _ hswr).trans HD2.out)
                    have hk1 : wk.cell? ⟨w.heap.size + 1 + 1, 0, none⟩ = some (.bool false) := hc7.facts.2.2.1
                    have hk2 : wk.frozen? ⟨w.heap.size + 1 + 1, 0, none⟩ = false := hc7.facts.2.2.2
                    clear hc7 hbk hcg hfg hcn hco
                    go_wp2
                    refine marks_ret (v := .bool true) [gx + 1] _ (fun D hD => ?_) (by simp) (fun w' h1 h2 h3 h4 h5 => ⟨results_bool Try.results5 _ _ (w.heap.size + 2) true rfl (by rw [cell_of_row _ _ 0 _ _ _ ((h5 _ (by simp; omega)).trans HC5.out.rc)]; rfl), rfl, ⟨h2.trans HC5.out.bel.os, h3.trans HC5.out.bel.tape, h4.trans HC5.out.bel.output, by rw [h1]; exact HC5.out.bel.size, fun k hk => (h5 k (by simp; omega)).trans (HC5.out.bel.block k hk)⟩⟩)
                    rw [List.mem_singleton.1 hD]; exact HDK.out
end Go.Proofs.Ytpmbbnmpldeajaa.GC
