/- realm: measures: a realm that is made. -/
import Derived.Test.YtekbppfocnbhbaaGreatQa
set_option linter.unusedVariables false
set_option linter.unusedSimpArgs false
namespace Go.Proofs.YtekbppfocnbhbaaGreat.XC
open Go.RowKit
set_option maxHeartbeats 8000000 in
set_option maxRecDepth 100000 in
theorem mw_new10 {w W5 : World} {c : Cx} {rb pb g o k cap q6 cs : Nat} {ps : Option Addr} {ls : List Ac} {s : Am} {ms : List Nat} {rd root : Int} {PL TL : List Value} {K : Act → World → Prop} {t1 t2 t6 t7 t8 t9 t10 t11 t12 t13 t14 t15 t16 t17 t18 t19 t20 t21 t22 t23 t24 t25 t26 t27 t28 t29 t30 t31 t32 t33 t34 t35 t36 t37 t38 t39 t40 t41 t42 t43 t44 t45 t46 t47 t48 t49 t50 t51 t52 t53 t54 t55 t56 t57 t58 t59 t60 t61 t62 t63 t64 t65 t66 t67 t68 t69 t70 t71 t72 t73 t74 t75 t76 t77 t78 t79 t80 t81 t82 t83 t84 t85 t86 t87 t88 t89 t90 t91 t92 t93 t94 t95 t96 t97 t98 t99 t100 t101 t102 t103 t104 t105 t106 t107 t108 t109 t110 t111 t112 t113 t114 t115 t116 t117 t118 t119 t120 t121 t122 t123 t124 t125 t126 t127 t128 t129 t130 t131 t132 t133 t134 t135 t136 t137 t138 t139 t140 t141 t142 t143 t144 t145 t146 t147 t148 t149 t150 t151 t152 t153 t154 t155 t156 t157 t158 t159 t160 t161 t162 t163 t164 t165 t166 t167 t168 t169 t170 t171 t172 t173 t174 t175 t176 t177 : Value} (hlt : k < ls.length)
    (HSXM : Hid (∀ X : World, X.heap[pb]? = some (.cells (prL c rb).toArray 29 (0, 0)) → Below w.heap.size w X → SX c rb pb g (o + k * 207) rd root PL TL X))
    (HCR : Hid (∀ (C : Nat → Prop) (X : World), JA c rb s C X → Calls Tryz.prog 16 #[.pointer (some ⟨c.xb, 0, none⟩), .int .i64 rd, .int .i64 root, .agg PL.toArray, .agg TL.toArray] X fun e Y => PBC2 c rb s C rd root PL.toArray TL.toArray X e Y))
    (HPI : Hid ((Tryz.prog.info? 36).map (·.size) = some PL.length)) (HTI : Hid ((Tryz.prog.info? 33).map (·.size) = some TL.length))
    (HT1 : Hid (ST w c rb s (fun k => (k = pb ∨ (Value.slice ps ms.length cs).ownBlock = some k) ∨ k = q6) pb (.slice ps ms.length cs) ms W5.drew))
    (hK : ∀ {u20 u21 u22 u23 u24 u25 u26 u27 u28 u29 u30 u31 u32 u33 u34 u35 u36 u37 u38 u39 u40 u41 u42 u43 u44 u45 u46 u47 u48 u49 u50 u51 u52 u53 u54 u55 u56 u57 u58 u59 u60 u61 u62 u63 u64 u65 u66 u67 u68 u69 u70 u71 u72 u73 u74 u75 u76 u77 u78 u79 u80 u81 u82 u83 u84 u85 u86 u87 u88 u89 u90 u91 u92 u93 u94 u95 u96 u97 u98 u99 u100 u101 u102 u103 u104 u105 u106 u107 u108 u109 u110 u111 u112 u113 u114 u115 u116 u117 : Value} (q8 : Nat) (E8 : Int) (r8 : Rm) (s' : Am) (X : World), CRX w c rb s (fun k => (k = pb ∨ (Value.slice ps ms.length cs).ownBlock = some k) ∨ k = q6) rd root PL.toArray TL.toArray W5.drew q8 E8 r8 s' X → K ⟨List.toArray ((.slice (some ⟨g, o, none⟩) ls.length cap) :: t1 :: t2 :: (.pointer (some ⟨pb, 0, none⟩)) :: (.slice ps ms.length cs) :: (.int .i64 k) :: t6 :: t7 :: (.pointer (some ⟨q8, 0, none⟩)) :: (.int .i64 E8) :: t10 :: t11 :: t12 :: t13 :: t14 :: t15 :: t16 :: t17 :: t18 :: t19 :: u20 :: u21 :: u22 :: u23 :: u24 :: u25 :: u26 :: u27 :: u28 :: u29 :: u30 :: u31 :: u32 :: u33 :: u34 :: u35 :: u36 :: u37 :: u38 :: u39 :: u40 :: u41 :: u42 :: u43 :: u44 :: u45 :: u46 :: u47 :: u48 :: u49 :: u50 :: u51 :: u52 :: u53 :: u54 :: u55 :: u56 :: u57 :: u58 :: u59 :: u60 :: u61 :: u62 :: u63 :: u64 :: u65 :: u66 :: u67 :: u68 :: u69 :: u70 :: u71 :: u72 :: u73 :: u74 :: u75 :: u76 :: u77 :: u78 :: u79 :: u80 :: u81 :: u82 :: u83 :: u84 :: u85 :: u86 :: u87 :: u88 :: u89 :: u90 :: u91 :: u92 :: u93 :: u94 :: u95 :: u96 :: u97 :: u98 :: u99 :: u100 :: u101 :: u102 :: u103 :: u104 :: u105 :: u106 :: u107 :: u108 :: u109 :: u110 :: u111 :: u112 :: u113 :: u114 :: u115 :: u116 :: u117 :: t118 :: t119 :: t120 :: t121 :: t122 :: t123 :: t124 :: t125 :: t126 :: t127 :: t128 :: t129 :: t130 :: t131 :: t132 :: t133 :: t134 :: t135 :: t136 :: t137 :: t138 :: t139 :: t140 :: t141 :: t142 :: t143 :: t144 :: t145 :: t146 :: t147 :: t148 :: t149 :: t150 :: t151 :: t152 :: t153 :: t154 :: t155 :: t156 :: t157 :: t158 :: t159 :: t160 :: t161 :: t162 :: t163 :: t164 :: t165 :: t166 :: t167 :: t168 :: t169 :: t170 :: t171 :: t172 :: t173 :: t174 :: t175 :: t176 :: t177 :: []), []⟩ X) :
    Code.wp Tryz.prog ((Tryz.f4.body.bind (cFind (isRegion 10))).getD .skip) (Exit.then K (fun _ _ _ => False)) ⟨List.toArray ((.slice (some ⟨g, o, none⟩) ls.length cap) :: t1 :: t2 :: (.pointer (some ⟨pb, 0, none⟩)) :: (.slice ps ms.length cs) :: (.int .i64 k) :: t6 :: t7 :: t8 :: t9 :: t10 :: t11 :: t12 :: t13 :: t14 :: t15 :: t16 :: t17 :: t18 :: t19 :: t20 :: t21 :: t22 :: t23 :: t24 :: t25 :: t26 :: t27 :: t28 :: t29 :: t30 :: t31 :: t32 :: t33 :: t34 :: t35 :: t36 :: t37 :: t38 :: t39 :: t40 :: t41 :: t42 :: t43 :: t44 :: t45 :: t46 :: t47 :: t48 :: t49 :: t50 :: t51 :: t52 :: t53 :: t54 :: t55 :: t56 :: t57 :: t58 :: t59 :: t60 :: t61 :: t62 :: t63 :: t64 :: t65 :: t66 :: t67 :: t68 :: t69 :: t70 :: t71 :: t72 :: t73 :: t74 :: t75 :: t76 :: t77 :: t78 :: t79 :: t80 :: t81 :: t82 :: t83 :: t84 :: t85 :: t86 :: t87 :: t88 :: t89 :: t90 :: t91 :: t92 :: t93 :: t94 :: t95 :: t96 :: t97 :: t98 :: t99 :: t100 :: t101 :: t102 :: t103 :: t104 :: t105 :: t106 :: t107 :: t108 :: t109 :: t110 :: t111 :: t112 :: t113 :: t114 :: t115 :: t116 :: t117 :: t118 :: t119 :: t120 :: t121 :: t122 :: t123 :: t124 :: t125 :: t126 :: t127 :: t128 :: t129 :: t130 :: t131 :: t132 :: t133 :: t134 :: t135 :: t136 :: t137 :: t138 :: t139 :: t140 :: t141 :: t142 :: t143 :: t144 :: t145 :: t146 :: t147 :: t148 :: t149 :: t150 :: t151 :: t152 :: t153 :: t154 :: t155 :: t156 :: t157 :: t158 :: t159 :: t160 :: t161 :: t162 :: t163 :: t164 :: t165 :: t166 :: t167 :: t168 :: t169 :: t170 :: t171 :: t172 :: t173 :: t174 :: t175 :: t176 :: t177 :: []), []⟩ W5 := by
  have HK : Hid _ := @hK
  clear hK
  have hkI : (k : Int) < (ls.length : Int) := by omega
  have hz := fun W => zero_rm W
  obtain ⟨ZL, hZL⟩ : ∃ L, L = rmL zR (.slice none 0 0) := ⟨_, rfl⟩
  rw [← hZL] at hz
  have HZS : Hid (ZL.toArray.size = 103) := by show _ = _; rw [hZL]; simpa using rmL_len zR_ok _
  clear hZL
  conv => arg 2; whnf
  go_cut [8, 9] from 20 to 117 (fun px x X => ∃ q8 E8 r8 s', px = .pointer (some ⟨q8, 0, none⟩) ∧ x = .int .i64 E8 ∧ CRX w c rb s (fun k => (k = pb ∨ (Value.slice ps ms.length cs).ownBlock = some k) ∨ k = q6) rd root PL.toArray TL.toArray W5.drew q8 E8 r8 s' X)
  case rest =>
    obtain ⟨q8, E8, r8, s', rfl, rfl, hcx⟩ := hcut
    exact HK.out q8 E8 r8 s' wc hcx
  case first =>
    clear HK
    refine wp_region_held_drew (S := SX c rb pb g (o + k * 207) rd root PL TL) (by kernel_rfl) (HSXM.out _ HT1.out.pr HT1.out.bel) (fun hHeld => ?_)
    generalize World.drew _ = W1 at *
    have HCN : Hid (c.n ≤ W1.heap.size ∧ w.heap.size ≤ W1.heap.size) := ⟨HT1.out.ja.low, HT1.out.bel.size⟩
    have HCL : Hid (∀ k, (fun k => (k = pb ∨ (Value.slice ps ms.length cs).ownBlock = some k) ∨ k = q6) k → k < W1.heap.size) := fun k hk => HT1.out.ja.lt hk
    refine wpAnyH_take (i := 0) (oi := ⟨some 44, .fieldAddr 29 (.tmp 3) 1, 0, _, #[], none⟩) (v := .pointer (some ⟨pb, 1, none⟩)) rfl (by kernel_rfl) (by kernel_rfl) (by kernel_rfl) (fun _ _ _ h => h) (Or.inl ⟨by rfl, fun w' hw' => ?_⟩) hHeld ?_
    · first | (go_simp; done) | (go_simp; rfl)
    try simp only [Act.put, qT, q0, qS]
    refine wpAnyH_take (i := 1) (oi := ⟨some 45, .load 26 (.tmp 44), 26, _, #[⟨0, .data⟩], none⟩) (v := .pointer (some ⟨c.xb, 0, none⟩)) rfl (by kernel_rfl) (by kernel_rfl) (by kernel_rfl) (fun _ _ _ h => h) (Or.inl ⟨by rfl, fun w' hw' => ?_⟩) hHeld ?_
    · have hcc := hw'.c1; first | (go_simp; done) | (go_simp; rfl)
    try simp only [Act.put, qT, q0, qS]
    refine wpAnyH_take (i := 2) (oi := ⟨some 46, .move (.tmp 0), 23, _, #[], none⟩) (v := .slice (some ⟨g, o, none⟩) ls.length cap) rfl (by kernel_rfl) (by kernel_rfl) (by kernel_rfl) (fun _ _ _ h => h) (Or.inl ⟨by rfl, fun w' hw' => ?_⟩) hHeld ?_
    · first | (go_simp; done) | (go_simp; rfl)
    try simp only [Act.put, qT, q0, qS]
    refine wpAnyH_take (i := 3) (oi := ⟨some 47, .move (.tmp 5), 3, _, #[], none⟩) (v := .int .i64 k) rfl (by kernel_rfl) (by kernel_rfl) (by kernel_rfl) (fun _ _ _ h => h) (Or.inl ⟨by rfl, fun w' hw' => ?_⟩) hHeld ?_
    · first | (go_simp; done) | (go_simp; rfl)
    try simp only [Act.put, qT, q0, qS]
    refine wpAnyH_take (i := 4) (oi := ⟨some 48, .indexAddr 23 (.tmp 46) (.tmp 47), 0, _, #[⟨2, .data⟩, ⟨3, .data⟩], none⟩) (v := .pointer (some ⟨g, o + k * 207, none⟩)) rfl (by kernel_rfl) (by kernel_rfl) (by kernel_rfl) (fun _ _ _ h => h) (Or.inl ⟨by rfl, fun w' hw' => ?_⟩) hHeld ?_
    · first | (go_simp; done) | (go_simp; rfl) | (go_simp; intro hbad; omega)
    try simp only [Act.put, qT, q0, qS]
    refine wpAnyH_take (i := 5) (oi := ⟨some 49, .fieldAddr 43 (.tmp 48) 1, 0, _, #[⟨4, .data⟩], none⟩) (v := .pointer (some ⟨g, o + k * 207 + 1, none⟩)) rfl (by kernel_rfl) (by kernel_rfl) (by kernel_rfl) (fun _ _ _ h => h) (Or.inl ⟨by rfl, fun w' hw' => ?_⟩) hHeld ?_
    · first | (go_simp; done) | (go_simp; rfl)
    try simp only [Act.put, qT, q0, qS]
    refine wpAnyH_take (i := 6) (oi := ⟨some 50, .load 3 (.tmp 49), 3, _, #[⟨5, .data⟩], none⟩) (v := .int .i64 rd) rfl (by kernel_rfl) (by kernel_rfl) (by kernel_rfl) (fun _ _ _ h => h) (Or.inl ⟨by rfl, fun w' hw' => ?_⟩) hHeld ?_
    · have hcc := hw'.k1; first | (go_simp; done) | (go_simp; rfl)
    try simp only [Act.put, qT, q0, qS]
    refine wpAnyH_take (i := 7) (oi := ⟨some 51, .move (.tmp 0), 23, _, #[], none⟩) (v := .slice (some ⟨g, o, none⟩) ls.length cap) rfl (by kernel_rfl) (by kernel_rfl) (by kernel_rfl) (fun _ _ _ h => h) (Or.inl ⟨by rfl, fun w' hw' => ?_⟩) hHeld ?_
    · first | (go_simp; done) | (go_simp; rfl)
    try simp only [Act.put, qT, q0, qS]
    refine wpAnyH_take (i := 8) (oi := ⟨some 52, .move (.tmp 5), 3, _, #[], none⟩) (v := .int .i64 k) rfl (by kernel_rfl) (by kernel_rfl) (by kernel_rfl) (fun _ _ _ h => h) (Or.inl ⟨by rfl, fun w' hw' => ?_⟩) hHeld ?_
    · first | (go_simp; done) | (go_simp; rfl)
    try simp only [Act.put, qT, q0, qS]
    refine wpAnyH_take (i := 9) (oi := ⟨some 53, .indexAddr 23 (.tmp 51) (.tmp 52), 0, _, #[⟨7, .data⟩, ⟨8, .data⟩], none⟩) (v := .pointer (some ⟨g, o + k * 207, none⟩)) rfl (by kernel_rfl) (by kernel_rfl) (by kernel_rfl) (fun _ _ _ h => h) (Or.inl ⟨by rfl, fun w' hw' => ?_⟩) hHeld ?_
    · first | (go_simp; done) | (go_simp; rfl) | (go_simp; intro hbad; omega)
    try simp only [Act.put, qT, q0, qS]
    refine wpAnyH_take (i := 10) (oi := ⟨some 54, .fieldAddr 43 (.tmp 53) 2, 0, _, #[⟨9, .data⟩], none⟩) (v := .pointer (some ⟨g, o + k * 207 + 2, none⟩)) rfl (by kernel_rfl) (by kernel_rfl) (by kernel_rfl) (fun _ _ _ h => h) (Or.inl ⟨by rfl, fun w' hw' => ?_⟩) hHeld ?_
    · first | (go_simp; done) | (go_simp; rfl)
    try simp only [Act.put, qT, q0, qS]
    refine wpAnyH_take (i := 11) (oi := ⟨some 55, .load 3 (.tmp 54), 3, _, #[⟨10, .data⟩], none⟩) (v := .int .i64 root) rfl (by kernel_rfl) (by kernel_rfl) (by kernel_rfl) (fun _ _ _ h => h) (Or.inl ⟨by rfl, fun w' hw' => ?_⟩) hHeld ?_
    · have hcc := hw'.k2; first | (go_simp; done) | (go_simp; rfl)
    try simp only [Act.put, qT, q0, qS]
    refine wpAnyH_take (i := 12) (oi := ⟨some 56, .move (.tmp 0), 23, _, #[], none⟩) (v := .slice (some ⟨g, o, none⟩) ls.length cap) rfl (by kernel_rfl) (by kernel_rfl) (by kernel_rfl) (fun _ _ _ h => h) (Or.inl ⟨by rfl, fun w' hw' => ?_⟩) hHeld ?_
    · first | (go_simp; done) | (go_simp; rfl)
    try simp only [Act.put, qT, q0, qS]
    refine wpAnyH_take (i := 13) (oi := ⟨some 57, .move (.tmp 5), 3, _, #[], none⟩) (v := .int .i64 k) rfl (by kernel_rfl) (by kernel_rfl) (by kernel_rfl) (fun _ _ _ h => h) (Or.inl ⟨by rfl, fun w' hw' => ?_⟩) hHeld ?_
    · first | (go_simp; done) | (go_simp; rfl)
    try simp only [Act.put, qT, q0, qS]
    refine wpAnyH_take (i := 14) (oi := ⟨some 58, .indexAddr 23 (.tmp 56) (.tmp 57), 0, _, #[⟨12, .data⟩, ⟨13, .data⟩], none⟩) (v := .pointer (some ⟨g, o + k * 207, none⟩)) rfl (by kernel_rfl) (by kernel_rfl) (by kernel_rfl) (fun _ _ _ h => h) (Or.inl ⟨by rfl, fun w' hw' => ?_⟩) hHeld ?_
    · first | (go_simp; done) | (go_simp; rfl) | (go_simp; intro hbad; omega)
    try simp only [Act.put, qT, q0, qS]
    refine wpAnyH_take (i := 15) (oi := ⟨some 59, .fieldAddr 43 (.tmp 58) 4, 0, _, #[⟨14, .data⟩], none⟩) (v := .pointer (some ⟨g, o + k * 207 + 4, none⟩)) rfl (by kernel_rfl) (by kernel_rfl) (by kernel_rfl) (fun _ _ _ h => h) (Or.inl ⟨by rfl, fun w' hw' => ?_⟩) hHeld ?_
    · first | (go_simp; done) | (go_simp; rfl)
    try simp only [Act.put, qT, q0, qS]
    refine wpAnyH_take (i := 16) (oi := ⟨some 60, .load 36 (.tmp 59), 36, _, #[⟨15, .data⟩], none⟩) rfl (by kernel_rfl) (by kernel_rfl) (by kernel_rfl) (fun _ _ _ h => h) (yieldsIf_load_mid (by rfl) 36 (.tmp 59) rfl (g) (o + k * 207 + 4) rfl (PL) _ (fun _ h => h.rp) Tryz.underlying36 rfl HPI.out) hHeld ?_
    try simp only [Act.put, qT, q0, qS]
    refine wpAnyH_take (i := 17) (oi := ⟨some 61, .move (.tmp 0), 23, _, #[], none⟩) (v := .slice (some ⟨g, o, none⟩) ls.length cap) rfl (by kernel_rfl) (by kernel_rfl) (by kernel_rfl) (fun _ _ _ h => h) (Or.inl ⟨by rfl, fun w' hw' => ?_⟩) hHeld ?_
    · first | (go_simp; done) | (go_simp; rfl)
    try simp only [Act.put, qT, q0, qS]
    refine wpAnyH_take (i := 18) (oi := ⟨some 62, .move (.tmp 5), 3, _, #[], none⟩) (v := .int .i64 k) rfl (by kernel_rfl) (by kernel_rfl) (by kernel_rfl) (fun _ _ _ h => h) (Or.inl ⟨by rfl, fun w' hw' => ?_⟩) hHeld ?_
    · first | (go_simp; done) | (go_simp; rfl)
    try simp only [Act.put, qT, q0, qS]
    refine wpAnyH_take (i := 19) (oi := ⟨some 63, .indexAddr 23 (.tmp 61) (.tmp 62), 0, _, #[⟨17, .data⟩, ⟨18, .data⟩], none⟩) (v := .pointer (some ⟨g, o + k * 207, none⟩)) rfl (by kernel_rfl) (by kernel_rfl) (by kernel_rfl) (fun _ _ _ h => h) (Or.inl ⟨by rfl, fun w' hw' => ?_⟩) hHeld ?_
    · first | (go_simp; done) | (go_simp; rfl) | (go_simp; intro hbad; omega)
    try simp only [Act.put, qT, q0, qS]
    refine wpAnyH_take (i := 20) (oi := ⟨some 64, .fieldAddr 43 (.tmp 63) 5, 0, _, #[⟨19, .data⟩], none⟩) (v := .pointer (some ⟨g, o + k * 207 + 37, none⟩)) rfl (by kernel_rfl) (by kernel_rfl) (by kernel_rfl) (fun _ _ _ h => h) (Or.inl ⟨by rfl, fun w' hw' => ?_⟩) hHeld ?_
    · first | (go_simp; done) | (go_simp; rfl)
    try simp only [Act.put, qT, q0, qS]
    refine wpAnyH_take (i := 21) (oi := ⟨some 65, .load 33 (.tmp 64), 33, _, #[⟨20, .data⟩], none⟩) rfl (by kernel_rfl) (by kernel_rfl) (by kernel_rfl) (fun _ _ _ h => h) (yieldsIf_load_mid (by rfl) 33 (.tmp 64) rfl (g) (o + k * 207 + 37) rfl (TL) _ (fun _ h => h.rt) Tryz.underlying33 rfl HTI.out) hHeld ?_
    try simp only [Act.put, qT, q0, qS]
    refine wpAnyH_ready (rs := [22, 26]) (by kernel_rfl) (by simp) ?_
    refine AllReadyH.cons (o := { dst := some 66, op := .call { callee := Go.Callee.value (.func 16), args := #[.tmp 45, .tmp 50, .tmp 55, .tmp 60, .tmp 65], argTypes := #[26, 3, 3, 36, 33] }, type := 49, pos := _, after := #[⟨1, .data⟩, ⟨6, .data⟩, ⟨11, .data⟩, ⟨16, .data⟩, ⟨21, .data⟩], guard := none }) rfl (fun K hK => ?_) (AllReadyH.cons (o := ⟨some 8, .alloc 47, 0, _, #[], none⟩) rfl (fun K hK => ?_) AllReadyH.nil)
    all_goals rw [if_pos (by rfl)]
    · skip
      go_wp2_with fail
      refine Calls.mono (HCR.out _ W1 HT1.out.ja) ?_
      rintro e W2 ⟨E, r, v', s', rfl, hpb⟩
      have HPB : Hid _ := hpb
      have hok := hpb.ok
      have HNN : Hid ((rmL r v').length = 103) := rmL_len hok _
      have HN1 : Hid ((rmL r v').toArray.all (·.oneCell') = true) := rmL_onea r hpb.hr
      obtain ⟨NL, hNL⟩ : ∃ NL, NL = rmL r v' := ⟨_, rfl⟩
      rw [← hNL] at HNN HN1 ⊢
      have HNL : Hid (NL = rmL r v') := hNL
      have HNS : Hid (NL.toArray.size = 103) := by show _ = _; simpa using HNN.out
      have HNI : Hid ((Tryz.prog.info? 47).map (·.size) = some NL.toArray.size) := info103a _ HNS.out
      have HZM : Hid (ZL.toArray.size = NL.toArray.size) := HZS.out.trans HNS.out.symm
      clear hok hNL
      have hbw : Below w.heap.size w W2 := by have := hpb.bel; rwa [HT1.out.cw] at this
      have hpw := (hpb.fr pb (.inl (.inl rfl))).trans HT1.out.pr
      clear hHeld hpb
      have hHeld := HSXM.out W2 hpw hbw
      refine hK.out _ _ hHeld (fun _ => ?_)
      clear hK K
      try simp only [Act.put, qT, q0, qS]
      refine wpAnyH_take (i := 23) (oi := ⟨some 43, .move (.tmp 66), 49, _, #[⟨22, .data⟩], none⟩) (v := .tuple #[.agg NL.toArray, .int .i64 E]) rfl (by kernel_rfl) (by kernel_rfl) (by kernel_rfl) (fun _ _ _ h => h) (Or.inl ⟨by rfl, fun w' hw' => ?_⟩) hHeld ?_
      · first | (go_simp; done) | (go_simp; rfl)
      try simp only [Act.put, qT, q0, qS]
      refine wpAnyH_take (i := 24) (oi := ⟨some 67, .extract (.tmp 43) 0, 47, _, #[⟨23, .data⟩], none⟩) (v := .agg NL.toArray) rfl (by kernel_rfl) (by kernel_rfl) (by kernel_rfl) (fun _ _ _ h => h) (Or.inl ⟨by rfl, fun w' hw' => ?_⟩) hHeld ?_
      · first | (go_simp; done) | (go_simp; rfl)
      try simp only [Act.put, qT, q0, qS]
      refine wpAnyH_take (i := 25) (oi := { dst := some 68, op := .extract (.tmp 43) 1, type := 48, pos := _, after := #[⟨23, .data⟩, { on := 27, ground := .gcOnly Go.Departure.lateStores }], guard := none }) (v := .int .i64 E) rfl (by kernel_rfl) (by kernel_rfl) (by kernel_rfl) (fun _ _ _ h => h) (Or.inl ⟨by rfl, fun w' hw' => ?_⟩) hHeld ?_
      · first | (go_simp; done) | (go_simp; rfl)
      try simp only [Act.put, qT, q0, qS]
      refine wpAnyH_ready (rs := [26]) (by kernel_rfl) (by simp) ?_
      refine AllReadyH.cons (o := ⟨some 8, .alloc 47, 0, _, #[], none⟩) rfl (fun K hK => ?_) AllReadyH.nil
      rw [if_pos (by rfl)]
      go_wp2_with fail
      have hrow : (W2.alloc (.cells ZL.toArray 47 (0, 0))).heap[W2.heap.size]? = some (.cells ZL.toArray 47 (0, 0)) := heap_alloc_new _ _
      clear hHeld
      have hHeld := HSXM.out (W2.alloc (.cells ZL.toArray 47 (0, 0))) ((heap_alloc_old _ _ (PC.row_lt hpw)).trans hpw) (hbw.alloc hbw.size _)
      refine hK.out _ _ hHeld (fun _ => ?_)
      clear hK K
      try simp only [Act.put, qT, q0, qS]
      refine wpAnyH_ready (rs := [27]) (by kernel_rfl) (by simp) ?_
      refine AllReadyH.cons (o := { dst := none, op := .store 47 (.tmp 8) (.tmp 67), type := 0, pos := _, after := #[⟨26, .data⟩, ⟨24, .data⟩, ⟨22, .chain⟩, ⟨0, .phase⟩, ⟨1, .phase⟩, ⟨2, .phase⟩, ⟨3, .phase⟩, ⟨4, .phase⟩, ⟨5, .phase⟩, ⟨6, .phase⟩, ⟨7, .phase⟩, ⟨8, .phase⟩, ⟨9, .phase⟩, ⟨10, .phase⟩, ⟨11, .phase⟩, ⟨12, .phase⟩, ⟨13, .phase⟩, ⟨14, .phase⟩, ⟨15, .phase⟩, ⟨16, .phase⟩, ⟨17, .phase⟩, ⟨18, .phase⟩, ⟨19, .phase⟩, ⟨20, .phase⟩, ⟨21, .phase⟩, ⟨22, .phase⟩, ⟨23, .phase⟩, ⟨24, .phase⟩, { on := 25, ground := .textOnly Go.Departure.lateStores }, ⟨26, .phase⟩], guard := none }) rfl (fun K hK => ?_) AllReadyH.nil
      rw [if_pos (by rfl)]
      refine wp_store_row 47 _ _ rfl W2.heap.size NL.toArray rfl rfl 47 ZL.toArray hrow HNI.out HZM.out HN1.out ?_
      have HEND : Hid _ := crx_A (w := w) HPB.out HT1.out.cw HCL.out HCN.out.1 (ZA := ZL.toArray) (V := (W2.alloc (.cells ZL.toArray 47 (0, 0))).setRow W2.heap.size NL.toArray) rfl (by rw [HNL.out])
      clear hHeld hrow hpw hbw
      generalize (W2.alloc (.cells ZL.toArray 47 (0, 0))).setRow W2.heap.size NL.toArray = W4 at *
      generalize W2.heap.size = q8 at *
      have hHeld := HSXM.out W4 ((HEND.out.fr pb (.inl (.inl rfl))).trans HT1.out.pr) HEND.out.bel
      refine hK.out _ _ hHeld (fun _ => ?_)
      clear hK K
      try simp only [Act.put, qT, q0, qS]
      refine wpAnyH_ready (rs := [28]) (by kernel_rfl) (by simp) ?_
      refine AllReadyH.cons (o := ⟨some 9, .assign (.tmp 68), 48, _, #[⟨25, .data⟩, ⟨27, .chain⟩, ⟨0, .phase⟩, ⟨1, .phase⟩, ⟨2, .phase⟩, ⟨3, .phase⟩, ⟨4, .phase⟩, ⟨5, .phase⟩, ⟨6, .phase⟩, ⟨7, .phase⟩, ⟨8, .phase⟩, ⟨9, .phase⟩, ⟨10, .phase⟩, ⟨11, .phase⟩, ⟨12, .phase⟩, ⟨13, .phase⟩, ⟨14, .phase⟩, ⟨15, .phase⟩, ⟨16, .phase⟩, ⟨17, .phase⟩, ⟨18, .phase⟩, ⟨19, .phase⟩, ⟨20, .phase⟩, ⟨21, .phase⟩, ⟨22, .phase⟩, ⟨23, .phase⟩, ⟨24, .phase⟩, ⟨25, .phase⟩, ⟨26, .phase⟩, ⟨27, .phase⟩], none⟩) rfl (fun K hK => ?_) AllReadyH.nil
      rw [if_pos (by rfl)]
      go_wp2_with fail
      refine hK.out _ _ hHeld (fun _ => ?_)
      clear hK K
      try simp only [Act.put, qT, q0, qS]
      refine wpAnyH_done (by kernel_rfl) ?_ _
      go_wp2_with fail
      go_meet
      case rel => exact ⟨q8, E, r, s', rfl, rfl, HEND.out⟩
    · skip
      go_wp2_with fail
      obtain ⟨W3, hW3⟩ : ∃ W3, W3 = W1.alloc (.cells ZL.toArray 47 (0, 0)) := ⟨_, rfl⟩
      obtain ⟨q8, hq8⟩ : ∃ q, q = W1.heap.size := ⟨_, rfl⟩
      have hb3 : Below W1.heap.size W1 W3 := by rw [hW3]; exact (Below.refl _ _).alloc (Nat.le_refl _) _
      have hrow3 : W3.heap[q8]? = some (.cells ZL.toArray 47 (0, 0)) := by rw [hW3, hq8]; exact heap_alloc_new _ _
      have hT3 : ST w c rb s (fun k => (fun k => (k = pb ∨ (Value.slice ps ms.length cs).ownBlock = some k) ∨ k = q6) k ∨ k = q8) pb (.slice ps ms.length cs) ms W3 := HT1.out.new hb3 (fun k hk => by rw [hk, hq8, hW3]; exact ⟨Nat.le_refl _, by simp⟩)
      have hne8 : ∀ k, (fun k => (k = pb ∨ (Value.slice ps ms.length cs).ownBlock = some k) ∨ k = q6) k → k ≠ q8 := fun k hk e => by have := HCL.out k hk; omega
      have hcq8 : c.n ≤ q8 ∧ w.heap.size ≤ q8 := by rw [hq8]; exact HCN.out
      have HF13 : Hid (∀ k, (fun k => (k = pb ∨ (Value.slice ps ms.length cs).ownBlock = some k) ∨ k = q6) k → W3.heap[k]? = W1.heap[k]?) := fun k hk => hb3.block k (HCL.out k hk)
      rw [← hW3, ← hq8]
      clear hHeld hW3 hq8 hb3
      have hHeld := HSXM.out W3 hT3.pr hT3.bel
      refine hK.out _ _ hHeld (fun _ => ?_)
      clear hK K
      try simp only [Act.put, qT, q0, qS]
      refine wpAnyH_ready (rs := [22]) (by kernel_rfl) (by simp) ?_
      refine AllReadyH.cons (o := { dst := some 66, op := .call { callee := Go.Callee.value (.func 16), args := #[.tmp 45, .tmp 50, .tmp 55, .tmp 60, .tmp 65], argTypes := #[26, 3, 3, 36, 33] }, type := 49, pos := _, after := #[⟨1, .data⟩, ⟨6, .data⟩, ⟨11, .data⟩, ⟨16, .data⟩, ⟨21, .data⟩], guard := none }) rfl (fun K hK => ?_) AllReadyH.nil
      rw [if_pos (by rfl)]
      go_wp2_with fail
      refine Calls.mono (HCR.out _ W3 hT3.ja) ?_
      rintro e W5' ⟨E, r, v', s', rfl, hpb⟩
      have HPB : Hid _ := hpb
      have hok := hpb.ok
      have HNN : Hid ((rmL r v').length = 103) := rmL_len hok _
      have HN1 : Hid ((rmL r v').toArray.all (·.oneCell') = true) := rmL_onea r hpb.hr
      obtain ⟨NL, hNL⟩ : ∃ NL, NL = rmL r v' := ⟨_, rfl⟩
      rw [← hNL] at HNN HN1 ⊢
      have HNL : Hid (NL = rmL r v') := hNL
      have HNS : Hid (NL.toArray.size = 103) := by show _ = _; simpa using HNN.out
      have HNI : Hid ((Tryz.prog.info? 47).map (·.size) = some NL.toArray.size) := info103a _ HNS.out
      have HZM : Hid (ZL.toArray.size = NL.toArray.size) := HZS.out.trans HNS.out.symm
      clear hok hNL
      have hbw : Below w.heap.size w W5' := by have := hpb.bel; rwa [HT1.out.cw] at this
      have hpw := (hpb.fr pb (.inl (.inl (.inl rfl)))).trans hT3.pr
      have hrow : W5'.heap[q8]? = some (.cells ZL.toArray 47 (0, 0)) := (hpb.fr q8 (.inr rfl)).trans hrow3
      clear hHeld hpb hrow3
      have hHeld := HSXM.out W5' hpw hbw
      refine hK.out _ _ hHeld (fun _ => ?_)
      clear hK K
      try simp only [Act.put, qT, q0, qS]
      refine wpAnyH_take (i := 23) (oi := ⟨some 43, .move (.tmp 66), 49, _, #[⟨22, .data⟩], none⟩) (v := .tuple #[.agg NL.toArray, .int .i64 E]) rfl (by kernel_rfl) (by kernel_rfl) (by kernel_rfl) (fun _ _ _ h => h) (Or.inl ⟨by rfl, fun w' hw' => ?_⟩) hHeld ?_
      · first | (go_simp; done) | (go_simp; rfl)
      try simp only [Act.put, qT, q0, qS]
      refine wpAnyH_take (i := 24) (oi := ⟨some 67, .extract (.tmp 43) 0, 47, _, #[⟨23, .data⟩], none⟩) (v := .agg NL.toArray) rfl (by kernel_rfl) (by kernel_rfl) (by kernel_rfl) (fun _ _ _ h => h) (Or.inl ⟨by rfl, fun w' hw' => ?_⟩) hHeld ?_
      · first | (go_simp; done) | (go_simp; rfl)
      try simp only [Act.put, qT, q0, qS]
      refine wpAnyH_take (i := 25) (oi := { dst := some 68, op := .extract (.tmp 43) 1, type := 48, pos := _, after := #[⟨23, .data⟩, { on := 27, ground := .gcOnly Go.Departure.lateStores }], guard := none }) (v := .int .i64 E) rfl (by kernel_rfl) (by kernel_rfl) (by kernel_rfl) (fun _ _ _ h => h) (Or.inl ⟨by rfl, fun w' hw' => ?_⟩) hHeld ?_
      · first | (go_simp; done) | (go_simp; rfl)
      try simp only [Act.put, qT, q0, qS]
      refine wpAnyH_ready (rs := [27]) (by kernel_rfl) (by simp) ?_
      refine AllReadyH.cons (o := { dst := none, op := .store 47 (.tmp 8) (.tmp 67), type := 0, pos := _, after := #[⟨26, .data⟩, ⟨24, .data⟩, ⟨22, .chain⟩, ⟨0, .phase⟩, ⟨1, .phase⟩, ⟨2, .phase⟩, ⟨3, .phase⟩, ⟨4, .phase⟩, ⟨5, .phase⟩, ⟨6, .phase⟩, ⟨7, .phase⟩, ⟨8, .phase⟩, ⟨9, .phase⟩, ⟨10, .phase⟩, ⟨11, .phase⟩, ⟨12, .phase⟩, ⟨13, .phase⟩, ⟨14, .phase⟩, ⟨15, .phase⟩, ⟨16, .phase⟩, ⟨17, .phase⟩, ⟨18, .phase⟩, ⟨19, .phase⟩, ⟨20, .phase⟩, ⟨21, .phase⟩, ⟨22, .phase⟩, ⟨23, .phase⟩, ⟨24, .phase⟩, { on := 25, ground := .textOnly Go.Departure.lateStores }, ⟨26, .phase⟩], guard := none }) rfl (fun K hK => ?_) AllReadyH.nil
      rw [if_pos (by rfl)]
      refine wp_store_row 47 _ _ rfl q8 NL.toArray rfl rfl 47 ZL.toArray hrow HNI.out HZM.out HN1.out ?_
      have HEND : Hid _ := crx_B (w := w) HPB.out HT1.out.cw HF13.out hne8 hcq8.1 hcq8.2 hrow (V := W5'.setRow q8 NL.toArray) rfl (by rw [HNL.out])
      clear hHeld hrow hpw hbw hT3 hne8 hcq8
      generalize W5'.setRow q8 NL.toArray = W4 at *
      have hHeld := HSXM.out W4 ((HEND.out.fr pb (.inl (.inl rfl))).trans HT1.out.pr) HEND.out.bel
      refine hK.out _ _ hHeld (fun _ => ?_)
      clear hK K
      try simp only [Act.put, qT, q0, qS]
      refine wpAnyH_ready (rs := [28]) (by kernel_rfl) (by simp) ?_
      refine AllReadyH.cons (o := ⟨some 9, .assign (.tmp 68), 48, _, #[⟨25, .data⟩, ⟨27, .chain⟩, ⟨0, .phase⟩, ⟨1, .phase⟩, ⟨2, .phase⟩, ⟨3, .phase⟩, ⟨4, .phase⟩, ⟨5, .phase⟩, ⟨6, .phase⟩, ⟨7, .phase⟩, ⟨8, .phase⟩, ⟨9, .phase⟩, ⟨10, .phase⟩, ⟨11, .phase⟩, ⟨12, .phase⟩, ⟨13, .phase⟩, ⟨14, .phase⟩, ⟨15, .phase⟩, ⟨16, .phase⟩, ⟨17, .phase⟩, ⟨18, .phase⟩, ⟨19, .phase⟩, ⟨20, .phase⟩, ⟨21, .phase⟩, ⟨22, .phase⟩, ⟨23, .phase⟩, ⟨24, .phase⟩, ⟨25, .phase⟩, ⟨26, .phase⟩, ⟨27, .phase⟩], none⟩) rfl (fun K hK => ?_) AllReadyH.nil
      rw [if_pos (by rfl)]
      go_wp2_with fail
      refine hK.out _ _ hHeld (fun _ => ?_)
      clear hK K
      try simp only [Act.put, qT, q0, qS]
      refine wpAnyH_done (by kernel_rfl) ?_ _
      go_wp2_with fail
      go_meet
      case rel => exact ⟨q8, E, r, s', rfl, rfl, HEND.out⟩
end Go.Proofs.YtekbppfocnbhbaaGreat.XC
