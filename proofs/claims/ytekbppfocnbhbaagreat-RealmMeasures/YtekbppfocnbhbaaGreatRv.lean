/- realm: measures: what was, told. -/
import Derived.Test.YtekbppfocnbhbaaGreatQa
set_option linter.unusedVariables false
set_option linter.unusedSimpArgs false
namespace Go.Proofs.YtekbppfocnbhbaaGreat.XC
open Go.RowKit
set_option maxHeartbeats 8000000 in
set_option maxRecDepth 100000 in
theorem mw_get8 {w W : World} {c : Cx} {rb pb g o k cap : Nat} {ls : List Ac} {s : Am} {sv : Value} {ms : List Nat} {rd E : Int} {r : Rm} {C : Nat → Prop} {K : Act → World → Prop} {t1 t2 t6 t7 t8 t9 t10 t11 t12 t13 t14 t15 t16 t17 t18 t19 t20 t21 t22 t23 t24 t25 t26 t27 t28 t29 t30 t31 t32 t33 t34 t35 t36 t37 t38 t39 t40 t41 t42 t43 t44 t45 t46 t47 t48 t49 t50 t51 t52 t53 t54 t55 t56 t57 t58 t59 t60 t61 t62 t63 t64 t65 t66 t67 t68 t69 t70 t71 t72 t73 t74 t75 t76 t77 t78 t79 t80 t81 t82 t83 t84 t85 t86 t87 t88 t89 t90 t91 t92 t93 t94 t95 t96 t97 t98 t99 t100 t101 t102 t103 t104 t105 t106 t107 t108 t109 t110 t111 t112 t113 t114 t115 t116 t117 t118 t119 t120 t121 t122 t123 t124 t125 t126 t127 t128 t129 t130 t131 t132 t133 t134 t135 t136 t137 t138 t139 t140 t141 t142 t143 t144 t145 t146 t147 t148 t149 t150 t151 t152 t153 t154 t155 t156 t157 t158 t159 t160 t161 t162 t163 t164 t165 t166 t167 t168 t169 t170 t171 t172 t173 t174 t175 t176 t177 : Value} (hlt : k < ls.length)
    (HSQR : Hid (∀ (X : World) (C : Nat → Prop) (s : Am) (sv : Value) (ms : List Nat), ST w c rb s C pb sv ms X → SQ c rb pb g (o + k * 207) rd X))
    (HGET : Hid (∀ (C : Nat → Prop) (X : World), JA c rb s C X → Calls Tryz.prog 12 #[.pointer (some ⟨c.xb, 0, none⟩), .int .i64 rd] X fun e Y => GEnd X r E e Y))
    (HRO : Hid r.ok) (HT1 : Hid (ST w c rb s C pb sv ms W.drew))
    (hK : ∀ {u20 u21 u22 u23 u24 u25 u26 u27 u28 u29 u30 u31 u32 u33 u34 u35 u36 u37 u38 u39 u40 u41 u42 u43 u44 u45 u46 u47 u48 u49 u50 u51 u52 u53 u54 u55 u56 u57 u58 u59 u60 u61 u62 u63 u64 u65 u66 u67 u68 u69 u70 u71 u72 u73 u74 u75 u76 u77 u78 u79 u80 u81 u82 u83 u84 u85 u86 u87 u88 u89 u90 u91 u92 u93 u94 u95 u96 u97 u98 u99 u100 u101 u102 u103 u104 u105 u106 u107 u108 u109 u110 u111 u112 u113 u114 u115 u116 u117 u118 u119 u120 u121 u122 u123 u124 u125 u126 u127 u128 u129 u130 u131 u132 u133 u134 u135 u136 u137 u138 u139 u140 u141 u142 u143 u144 u145 u146 u147 u148 u149 u150 u151 u152 u153 u154 u155 u156 u157 u158 u159 u160 u161 u162 u163 u164 u165 u166 u167 u168 u169 u170 u171 u172 u173 u174 u175 u176 : Value} (q : Nat) (v' : Value) (X : World), ST w c rb s (fun k => C k ∨ (k = q ∨ v'.ownBlock = some k)) pb sv ms X → X.heap[q]? = some (.cells (rmL r v').toArray 47 (0, 0)) → HR X v' r.log → (∀ k, k < W.drew.heap.size → X.heap[k]? = W.drew.heap[k]?) → K ⟨List.toArray ((.slice (some ⟨g, o, none⟩) ls.length cap) :: t1 :: t2 :: (.pointer (some ⟨pb, 0, none⟩)) :: sv :: (.int .i64 k) :: (.pointer (some ⟨q, 0, none⟩)) :: (.int .i64 E) :: t8 :: t9 :: t10 :: t11 :: t12 :: t13 :: t14 :: t15 :: t16 :: t17 :: t18 :: t19 :: u20 :: u21 :: u22 :: u23 :: u24 :: u25 :: u26 :: u27 :: u28 :: u29 :: u30 :: u31 :: u32 :: u33 :: u34 :: u35 :: u36 :: u37 :: u38 :: u39 :: u40 :: u41 :: u42 :: u43 :: u44 :: u45 :: u46 :: u47 :: u48 :: u49 :: u50 :: u51 :: u52 :: u53 :: u54 :: u55 :: u56 :: u57 :: u58 :: u59 :: u60 :: u61 :: u62 :: u63 :: u64 :: u65 :: u66 :: u67 :: u68 :: u69 :: u70 :: u71 :: u72 :: u73 :: u74 :: u75 :: u76 :: u77 :: u78 :: u79 :: u80 :: u81 :: u82 :: u83 :: u84 :: u85 :: u86 :: u87 :: u88 :: u89 :: u90 :: u91 :: u92 :: u93 :: u94 :: u95 :: u96 :: u97 :: u98 :: u99 :: u100 :: u101 :: u102 :: u103 :: u104 :: u105 :: u106 :: u107 :: u108 :: u109 :: u110 :: u111 :: u112 :: u113 :: u114 :: u115 :: u116 :: u117 :: u118 :: u119 :: u120 :: u121 :: u122 :: u123 :: u124 :: u125 :: u126 :: u127 :: u128 :: u129 :: u130 :: u131 :: u132 :: u133 :: u134 :: u135 :: u136 :: u137 :: u138 :: u139 :: u140 :: u141 :: u142 :: u143 :: u144 :: u145 :: u146 :: u147 :: u148 :: u149 :: u150 :: u151 :: u152 :: u153 :: u154 :: u155 :: u156 :: u157 :: u158 :: u159 :: u160 :: u161 :: u162 :: u163 :: u164 :: u165 :: u166 :: u167 :: u168 :: u169 :: u170 :: u171 :: u172 :: u173 :: u174 :: u175 :: u176 :: t177 :: []), []⟩ X) :
    Code.wp Tryz.prog ((Tryz.f4.body.bind (cFind (isRegion 8))).getD .skip) (Exit.then K (fun _ _ _ => False)) ⟨List.toArray ((.slice (some ⟨g, o, none⟩) ls.length cap) :: t1 :: t2 :: (.pointer (some ⟨pb, 0, none⟩)) :: sv :: (.int .i64 k) :: t6 :: t7 :: t8 :: t9 :: t10 :: t11 :: t12 :: t13 :: t14 :: t15 :: t16 :: t17 :: t18 :: t19 :: t20 :: t21 :: t22 :: t23 :: t24 :: t25 :: t26 :: t27 :: t28 :: t29 :: t30 :: t31 :: t32 :: t33 :: t34 :: t35 :: t36 :: t37 :: t38 :: t39 :: t40 :: t41 :: t42 :: t43 :: t44 :: t45 :: t46 :: t47 :: t48 :: t49 :: t50 :: t51 :: t52 :: t53 :: t54 :: t55 :: t56 :: t57 :: t58 :: t59 :: t60 :: t61 :: t62 :: t63 :: t64 :: t65 :: t66 :: t67 :: t68 :: t69 :: t70 :: t71 :: t72 :: t73 :: t74 :: t75 :: t76 :: t77 :: t78 :: t79 :: t80 :: t81 :: t82 :: t83 :: t84 :: t85 :: t86 :: t87 :: t88 :: t89 :: t90 :: t91 :: t92 :: t93 :: t94 :: t95 :: t96 :: t97 :: t98 :: t99 :: t100 :: t101 :: t102 :: t103 :: t104 :: t105 :: t106 :: t107 :: t108 :: t109 :: t110 :: t111 :: t112 :: t113 :: t114 :: t115 :: t116 :: t117 :: t118 :: t119 :: t120 :: t121 :: t122 :: t123 :: t124 :: t125 :: t126 :: t127 :: t128 :: t129 :: t130 :: t131 :: t132 :: t133 :: t134 :: t135 :: t136 :: t137 :: t138 :: t139 :: t140 :: t141 :: t142 :: t143 :: t144 :: t145 :: t146 :: t147 :: t148 :: t149 :: t150 :: t151 :: t152 :: t153 :: t154 :: t155 :: t156 :: t157 :: t158 :: t159 :: t160 :: t161 :: t162 :: t163 :: t164 :: t165 :: t166 :: t167 :: t168 :: t169 :: t170 :: t171 :: t172 :: t173 :: t174 :: t175 :: t176 :: t177 :: []), []⟩ W := by
  have HK : Hid _ := @hK
  clear hK
  have hkI : (k : Int) < (ls.length : Int) := by omega
  have hz := fun W => zero_rm W
  obtain ⟨ZL, hZL⟩ : ∃ L, L = rmL zR (.slice none 0 0) := ⟨_, rfl⟩
  rw [← hZL] at hz
  have HZS : Hid (ZL.toArray.size = 103) := by show _ = _; rw [hZL]; simpa using rmL_len zR_ok _
  clear hZL
  conv => arg 2; whnf
  go_cut [6, 7] from 20 to 176 (fun px x X => ∃ q v', px = .pointer (some ⟨q, 0, none⟩) ∧ x = .int .i64 E ∧ ST w c rb s (fun k => C k ∨ (k = q ∨ v'.ownBlock = some k)) pb sv ms X ∧ X.heap[q]? = some (.cells (rmL r v').toArray 47 (0, 0)) ∧ HR X v' r.log ∧ ∀ k, k < W.drew.heap.size → X.heap[k]? = W.drew.heap[k]?)
  case rest =>
    obtain ⟨q, v', rfl, rfl, h1, h2, h3, h4⟩ := hcut
    exact HK.out q v' wc h1 h2 h3 h4
  case first =>
    clear HK
    refine wp_region_held_drew (S := SQ c rb pb g (o + k * 207) rd) (by kernel_rfl) (HSQR.out _ _ _ _ _ HT1.out) (fun hHeld => ?_)
    generalize World.drew _ = W1 at *
    have HSQ : Hid (∀ X, Below W1.heap.size W1 X → SQ c rb pb g (o + k * 207) rd X) := fun X hb => HSQR.out _ _ _ _ _ (HT1.out.step hb)
    have HGT : Hid (∀ X, Below W1.heap.size W1 X → Calls Tryz.prog 12 #[.pointer (some ⟨c.xb, 0, none⟩), .int .i64 rd] X fun e Y => GEnd X r E e Y) := fun X hb => HGET.out _ _ (HT1.out.step hb).ja
    refine wpAnyH_take (i := 0) (oi := ⟨some 27, .fieldAddr 29 (.tmp 3) 1, 0, _, #[], none⟩) (v := .pointer (some ⟨pb, 1, none⟩)) rfl (by kernel_rfl) (by kernel_rfl) (by kernel_rfl) (fun _ _ _ h => h) (Or.inl ⟨by rfl, fun w' hw' => ?_⟩) hHeld ?_
    · first | (go_simp; done) | (go_simp; rfl)
    try simp only [Act.put, qT, q0, qS]
    refine wpAnyH_take (i := 1) (oi := ⟨some 28, .load 26 (.tmp 27), 26, _, #[⟨0, .data⟩], none⟩) (v := .pointer (some ⟨c.xb, 0, none⟩)) rfl (by kernel_rfl) (by kernel_rfl) (by kernel_rfl) (fun _ _ _ h => h) (Or.inl ⟨by rfl, fun w' hw' => ?_⟩) hHeld ?_
    · have hcc := hw'.c1; first | (go_simp; done) | (go_simp; rfl)
    try simp only [Act.put, qT, q0, qS]
    refine wpAnyH_take (i := 2) (oi := ⟨some 29, .move (.tmp 0), 23, _, #[], none⟩) (v := .slice (some ⟨g, o, none⟩) ls.length cap) rfl (by kernel_rfl) (by kernel_rfl) (by kernel_rfl) (fun _ _ _ h => h) (Or.inl ⟨by rfl, fun w' hw' => ?_⟩) hHeld ?_
    · first | (go_simp; done) | (go_simp; rfl)
    try simp only [Act.put, qT, q0, qS]
    refine wpAnyH_take (i := 3) (oi := ⟨some 30, .move (.tmp 5), 3, _, #[], none⟩) (v := .int .i64 k) rfl (by kernel_rfl) (by kernel_rfl) (by kernel_rfl) (fun _ _ _ h => h) (Or.inl ⟨by rfl, fun w' hw' => ?_⟩) hHeld ?_
    · first | (go_simp; done) | (go_simp; rfl)
    try simp only [Act.put, qT, q0, qS]
    refine wpAnyH_take (i := 4) (oi := ⟨some 31, .indexAddr 23 (.tmp 29) (.tmp 30), 0, _, #[⟨2, .data⟩, ⟨3, .data⟩], none⟩) (v := .pointer (some ⟨g, o + k * 207, none⟩)) rfl (by kernel_rfl) (by kernel_rfl) (by kernel_rfl) (fun _ _ _ h => h) (Or.inl ⟨by rfl, fun w' hw' => ?_⟩) hHeld ?_
    · first | (go_simp; done) | (go_simp; rfl) | (go_simp; intro hbad; omega)
    try simp only [Act.put, qT, q0, qS]
    refine wpAnyH_take (i := 5) (oi := ⟨some 32, .fieldAddr 43 (.tmp 31) 1, 0, _, #[⟨4, .data⟩], none⟩) (v := .pointer (some ⟨g, o + k * 207 + 1, none⟩)) rfl (by kernel_rfl) (by kernel_rfl) (by kernel_rfl) (fun _ _ _ h => h) (Or.inl ⟨by rfl, fun w' hw' => ?_⟩) hHeld ?_
    · first | (go_simp; done) | (go_simp; rfl)
    try simp only [Act.put, qT, q0, qS]
    refine wpAnyH_take (i := 6) (oi := ⟨some 33, .load 3 (.tmp 32), 3, _, #[⟨5, .data⟩], none⟩) (v := .int .i64 rd) rfl (by kernel_rfl) (by kernel_rfl) (by kernel_rfl) (fun _ _ _ h => h) (Or.inl ⟨by rfl, fun w' hw' => ?_⟩) hHeld ?_
    · have hcc := hw'.k1; first | (go_simp; done) | (go_simp; rfl)
    try simp only [Act.put, qT, q0, qS]
    refine wpAnyH_ready (rs := [7, 11]) (by kernel_rfl) (by simp) ?_
    refine AllReadyH.cons (o := { dst := some 34, op := .call { callee := Go.Callee.value (.func 12), args := #[.tmp 28, .tmp 33], argTypes := #[26, 3] }, type := 49, pos := _, after := #[⟨1, .data⟩, ⟨6, .data⟩], guard := none }) rfl (fun K hK => ?_) (AllReadyH.cons (o := ⟨some 6, .alloc 47, 0, _, #[], none⟩) rfl (fun K hK => ?_) AllReadyH.nil)
    all_goals rw [if_pos (by rfl)]
    · skip
      go_wp2_with fail
      refine Calls.mono (HGT.out W1 (Below.refl _ _)) ?_
      rintro e W2 ⟨v', rfl, hown, hb2⟩
      have hok := HRO.out
      have HNN : Hid ((rmL r v').length = 103) := rmL_len hok _
      have HN1 : Hid ((rmL r v').toArray.all (·.oneCell') = true) := rmL_onea r (HO.hr hown)
      obtain ⟨NL, hNL⟩ : ∃ NL, NL = rmL r v' := ⟨_, rfl⟩
      rw [← hNL] at HNN HN1 ⊢
      have HNL : Hid (NL = rmL r v') := hNL
      have HNS : Hid (NL.toArray.size = 103) := by show _ = _; simpa using HNN.out
      have HNI : Hid ((Tryz.prog.info? 47).map (·.size) = some NL.toArray.size) := info103a _ HNS.out
      have HZM : Hid (ZL.toArray.size = NL.toArray.size) := HZS.out.trans HNS.out.symm
      clear hok hNL
      clear hHeld
      have hHeld := HSQ.out _ hb2
      refine hK.out _ _ hHeld (fun _ => ?_)
      clear hK K
      try simp only [Act.put, qT, q0, qS]
      refine wpAnyH_take (i := 8) (oi := ⟨some 26, .move (.tmp 34), 49, _, #[⟨7, .data⟩], none⟩) (v := .tuple #[.agg NL.toArray, .int .i64 E]) rfl (by kernel_rfl) (by kernel_rfl) (by kernel_rfl) (fun _ _ _ h => h) (Or.inl ⟨by rfl, fun w' hw' => ?_⟩) hHeld ?_
      · first | (go_simp; done) | (go_simp; rfl)
      try simp only [Act.put, qT, q0, qS]
      refine wpAnyH_take (i := 9) (oi := ⟨some 35, .extract (.tmp 26) 0, 47, _, #[⟨8, .data⟩], none⟩) (v := .agg NL.toArray) rfl (by kernel_rfl) (by kernel_rfl) (by kernel_rfl) (fun _ _ _ h => h) (Or.inl ⟨by rfl, fun w' hw' => ?_⟩) hHeld ?_
      · first | (go_simp; done) | (go_simp; rfl)
      try simp only [Act.put, qT, q0, qS]
      refine wpAnyH_take (i := 10) (oi := { dst := some 36, op := .extract (.tmp 26) 1, type := 48, pos := _, after := #[⟨8, .data⟩, { on := 12, ground := .gcOnly Go.Departure.lateStores }], guard := none }) (v := .int .i64 E) rfl (by kernel_rfl) (by kernel_rfl) (by kernel_rfl) (fun _ _ _ h => h) (Or.inl ⟨by rfl, fun w' hw' => ?_⟩) hHeld ?_
      · first | (go_simp; done) | (go_simp; rfl)
      try simp only [Act.put, qT, q0, qS]
      refine wpAnyH_ready (rs := [11]) (by kernel_rfl) (by simp) ?_
      refine AllReadyH.cons (o := ⟨some 6, .alloc 47, 0, _, #[], none⟩) rfl (fun K hK => ?_) AllReadyH.nil
      rw [if_pos (by rfl)]
      go_wp2_with fail
      obtain ⟨W3, hW3⟩ : ∃ W3, W3 = W2.alloc (.cells ZL.toArray 47 (0, 0)) := ⟨_, rfl⟩
      have hbW : Below W1.heap.size W1 W3 := by rw [hW3]; exact hb2.alloc hb2.size _
      have hrow : W3.heap[W2.heap.size]? = some (.cells ZL.toArray 47 (0, 0)) := by rw [hW3]; exact heap_alloc_new _ _
      have hq : W1.heap.size ≤ W2.heap.size ∧ W2.heap.size < W3.heap.size := ⟨hb2.size, by rw [hW3]; simp⟩
      have hownW : W3.ownsRow W1.heap.size 69 172 v' r.log.length (lgC r.log) := by rw [hW3]; exact World.ownsRow.alloc hown _
      have hqv : v'.ownBlock ≠ some W2.heap.size := fun e => by have := (World.ownsRow.lt hown _ e).2; omega
      rw [← hW3]
      clear hHeld hW3 hb2 hown
      generalize W2.heap.size = q at *
      have hHeld := HSQ.out _ hbW
      refine hK.out _ _ hHeld (fun _ => ?_)
      clear hK K
      try simp only [Act.put, qT, q0, qS]
      refine wpAnyH_ready (rs := [12]) (by kernel_rfl) (by simp) ?_
      refine AllReadyH.cons (o := { dst := none, op := .store 47 (.tmp 6) (.tmp 35), type := 0, pos := _, after := #[⟨11, .data⟩, ⟨9, .data⟩, ⟨7, .chain⟩, ⟨0, .phase⟩, ⟨1, .phase⟩, ⟨2, .phase⟩, ⟨3, .phase⟩, ⟨4, .phase⟩, ⟨5, .phase⟩, ⟨6, .phase⟩, ⟨7, .phase⟩, ⟨8, .phase⟩, ⟨9, .phase⟩, { on := 10, ground := .textOnly Go.Departure.lateStores }, ⟨11, .phase⟩], guard := none }) rfl (fun K hK => ?_) AllReadyH.nil
      rw [if_pos (by rfl)]
      refine wp_store_row 47 _ _ rfl q NL.toArray rfl rfl 47 ZL.toArray hrow HNI.out HZM.out HN1.out ?_
      have hbS := below_setRow hbW hq.1 NL.toArray
      have hvq : ∀ k, v'.ownBlock = some k → k ≠ q := fun k e h => hqv (by rw [← h]; exact e)
      have hown9 : (W3.setRow q NL.toArray).ownsRow W1.heap.size 69 172 v' r.log.length (lgC r.log) := R5.own_keep hownW (fun k e _ => setRow_other _ _ _ _ (hvq k e))
      have hT9 := HT1.out.new (C2 := fun k => k = q ∨ v'.ownBlock = some k) hbS (fun k hk => by
        rcases hk with rfl | hk
        · exact ⟨hq.1, by simpa using hq.2⟩
        · exact World.ownsRow.lt hown9 k hk)
      have hrow9 : (W3.setRow q NL.toArray).heap[q]? = some (.cells NL.toArray 47 (0, 0)) := setRow_heap _ _ _ _ _ _ hrow
      clear hHeld
      have hHeld := HSQ.out _ hbS
      refine hK.out _ _ hHeld (fun _ => ?_)
      clear hK K
      try simp only [Act.put, qT, q0, qS]
      refine wpAnyH_ready (rs := [13]) (by kernel_rfl) (by simp) ?_
      refine AllReadyH.cons (o := ⟨some 7, .assign (.tmp 36), 48, _, #[⟨10, .data⟩, ⟨12, .chain⟩, ⟨0, .phase⟩, ⟨1, .phase⟩, ⟨2, .phase⟩, ⟨3, .phase⟩, ⟨4, .phase⟩, ⟨5, .phase⟩, ⟨6, .phase⟩, ⟨7, .phase⟩, ⟨8, .phase⟩, ⟨9, .phase⟩, ⟨10, .phase⟩, ⟨11, .phase⟩, ⟨12, .phase⟩], none⟩) rfl (fun K hK => ?_) AllReadyH.nil
      rw [if_pos (by rfl)]
      go_wp2_with fail
      refine hK.out _ _ hHeld (fun _ => ?_)
      clear hK K
      try simp only [Act.put, qT, q0, qS]
      refine wpAnyH_done (by kernel_rfl) ?_ _
      go_wp2_with fail
      go_meet
      case rel => exact ⟨q, v', rfl, rfl, hT9, by rw [← HNL.out]; exact hrow9, HO.hr hown9, fun k hk => hbS.block k hk⟩
    · skip
      go_wp2_with fail
      obtain ⟨W3, hW3⟩ : ∃ W3, W3 = W1.alloc (.cells ZL.toArray 47 (0, 0)) := ⟨_, rfl⟩
      have hb3 : Below W1.heap.size W1 W3 := by rw [hW3]; exact (Below.refl _ _).alloc (Nat.le_refl _) _
      have hrow0 : W3.heap[W1.heap.size]? = some (.cells ZL.toArray 47 (0, 0)) := by rw [hW3]; exact heap_alloc_new _ _
      have hq0 : W1.heap.size ≤ W1.heap.size ∧ W1.heap.size < W3.heap.size := ⟨Nat.le_refl _, by rw [hW3]; simp⟩
      rw [← hW3]
      clear hHeld hW3
      obtain ⟨q, hqe⟩ : ∃ q, q = W1.heap.size := ⟨_, rfl⟩
      have hrow1 : W3.heap[q]? = some (.cells ZL.toArray 47 (0, 0)) := by rw [hqe]; exact hrow0
      have hq1 : W1.heap.size ≤ q ∧ q < W3.heap.size := by rw [hqe]; exact hq0
      rw [← hqe]
      clear hrow0 hq0 hqe
      have hHeld := HSQ.out _ hb3
      refine hK.out _ _ hHeld (fun _ => ?_)
      clear hK K
      try simp only [Act.put, qT, q0, qS]
      refine wpAnyH_ready (rs := [7]) (by kernel_rfl) (by simp) ?_
      refine AllReadyH.cons (o := { dst := some 34, op := .call { callee := Go.Callee.value (.func 12), args := #[.tmp 28, .tmp 33], argTypes := #[26, 3] }, type := 49, pos := _, after := #[⟨1, .data⟩, ⟨6, .data⟩], guard := none }) rfl (fun K hK => ?_) AllReadyH.nil
      rw [if_pos (by rfl)]
      go_wp2_with fail
      refine Calls.mono (HGT.out W3 hb3) ?_
      rintro e W4 ⟨v', rfl, hown, hb4⟩
      have hbW : Below W1.heap.size W1 W4 := hb3.trans (hb4.mono hb3.size)
      have hrow : W4.heap[q]? = some (.cells ZL.toArray 47 (0, 0)) := (hb4.block q hq1.2).trans hrow1
      have hq : W1.heap.size ≤ q ∧ q < W4.heap.size := ⟨hq1.1, Nat.lt_of_lt_of_le hq1.2 hb4.size⟩
      have hownW : W4.ownsRow W1.heap.size 69 172 v' r.log.length (lgC r.log) := R5.own_lower hown hb3.size
      have hqv : v'.ownBlock ≠ some q := fun e => by have := (World.ownsRow.lt hown _ e).1; have := hq1.2; omega
      have hok := HRO.out
      have HNN : Hid ((rmL r v').length = 103) := rmL_len hok _
      have HN1 : Hid ((rmL r v').toArray.all (·.oneCell') = true) := rmL_onea r (HO.hr hown)
      obtain ⟨NL, hNL⟩ : ∃ NL, NL = rmL r v' := ⟨_, rfl⟩
      rw [← hNL] at HNN HN1 ⊢
      have HNL : Hid (NL = rmL r v') := hNL
      have HNS : Hid (NL.toArray.size = 103) := by show _ = _; simpa using HNN.out
      have HNI : Hid ((Tryz.prog.info? 47).map (·.size) = some NL.toArray.size) := info103a _ HNS.out
      have HZM : Hid (ZL.toArray.size = NL.toArray.size) := HZS.out.trans HNS.out.symm
      clear hok hNL
      clear hHeld hb3 hb4 hrow1 hq1 hown
      have hHeld := HSQ.out _ hbW
      refine hK.out _ _ hHeld (fun _ => ?_)
      clear hK K
      try simp only [Act.put, qT, q0, qS]
      refine wpAnyH_take (i := 8) (oi := ⟨some 26, .move (.tmp 34), 49, _, #[⟨7, .data⟩], none⟩) (v := .tuple #[.agg NL.toArray, .int .i64 E]) rfl (by kernel_rfl) (by kernel_rfl) (by kernel_rfl) (fun _ _ _ h => h) (Or.inl ⟨by rfl, fun w' hw' => ?_⟩) hHeld ?_
      · first | (go_simp; done) | (go_simp; rfl)
      try simp only [Act.put, qT, q0, qS]
      refine wpAnyH_take (i := 9) (oi := ⟨some 35, .extract (.tmp 26) 0, 47, _, #[⟨8, .data⟩], none⟩) (v := .agg NL.toArray) rfl (by kernel_rfl) (by kernel_rfl) (by kernel_rfl) (fun _ _ _ h => h) (Or.inl ⟨by rfl, fun w' hw' => ?_⟩) hHeld ?_
      · first | (go_simp; done) | (go_simp; rfl)
      try simp only [Act.put, qT, q0, qS]
      refine wpAnyH_take (i := 10) (oi := { dst := some 36, op := .extract (.tmp 26) 1, type := 48, pos := _, after := #[⟨8, .data⟩, { on := 12, ground := .gcOnly Go.Departure.lateStores }], guard := none }) (v := .int .i64 E) rfl (by kernel_rfl) (by kernel_rfl) (by kernel_rfl) (fun _ _ _ h => h) (Or.inl ⟨by rfl, fun w' hw' => ?_⟩) hHeld ?_
      · first | (go_simp; done) | (go_simp; rfl)
      try simp only [Act.put, qT, q0, qS]
      refine wpAnyH_ready (rs := [12]) (by kernel_rfl) (by simp) ?_
      refine AllReadyH.cons (o := { dst := none, op := .store 47 (.tmp 6) (.tmp 35), type := 0, pos := _, after := #[⟨11, .data⟩, ⟨9, .data⟩, ⟨7, .chain⟩, ⟨0, .phase⟩, ⟨1, .phase⟩, ⟨2, .phase⟩, ⟨3, .phase⟩, ⟨4, .phase⟩, ⟨5, .phase⟩, ⟨6, .phase⟩, ⟨7, .phase⟩, ⟨8, .phase⟩, ⟨9, .phase⟩, { on := 10, ground := .textOnly Go.Departure.lateStores }, ⟨11, .phase⟩], guard := none }) rfl (fun K hK => ?_) AllReadyH.nil
      rw [if_pos (by rfl)]
      refine wp_store_row 47 _ _ rfl q NL.toArray rfl rfl 47 ZL.toArray hrow HNI.out HZM.out HN1.out ?_
      have hbS := below_setRow hbW hq.1 NL.toArray
      have hvq : ∀ k, v'.ownBlock = some k → k ≠ q := fun k e h => hqv (by rw [← h]; exact e)
      have hown9 : (W4.setRow q NL.toArray).ownsRow W1.heap.size 69 172 v' r.log.length (lgC r.log) := R5.own_keep hownW (fun k e _ => setRow_other _ _ _ _ (hvq k e))
      have hT9 := HT1.out.new (C2 := fun k => k = q ∨ v'.ownBlock = some k) hbS (fun k hk => by
        rcases hk with rfl | hk
        · exact ⟨hq.1, by simpa using hq.2⟩
        · exact World.ownsRow.lt hown9 k hk)
      have hrow9 : (W4.setRow q NL.toArray).heap[q]? = some (.cells NL.toArray 47 (0, 0)) := setRow_heap _ _ _ _ _ _ hrow
      clear hHeld
      have hHeld := HSQ.out _ hbS
      refine hK.out _ _ hHeld (fun _ => ?_)
      clear hK K
      try simp only [Act.put, qT, q0, qS]
      refine wpAnyH_ready (rs := [13]) (by kernel_rfl) (by simp) ?_
      refine AllReadyH.cons (o := ⟨some 7, .assign (.tmp 36), 48, _, #[⟨10, .data⟩, ⟨12, .chain⟩, ⟨0, .phase⟩, ⟨1, .phase⟩, ⟨2, .phase⟩, ⟨3, .phase⟩, ⟨4, .phase⟩, ⟨5, .phase⟩, ⟨6, .phase⟩, ⟨7, .phase⟩, ⟨8, .phase⟩, ⟨9, .phase⟩, ⟨10, .phase⟩, ⟨11, .phase⟩, ⟨12, .phase⟩], none⟩) rfl (fun K hK => ?_) AllReadyH.nil
      rw [if_pos (by rfl)]
      go_wp2_with fail
      refine hK.out _ _ hHeld (fun _ => ?_)
      clear hK K
      try simp only [Act.put, qT, q0, qS]
      refine wpAnyH_done (by kernel_rfl) ?_ _
      go_wp2_with fail
      go_meet
      case rel => exact ⟨q, v', rfl, rfl, hT9, by rw [← HNL.out]; exact hrow9, HO.hr hown9, fun k hk => hbS.block k hk⟩
end Go.Proofs.YtekbppfocnbhbaaGreat.XC
