/- realm: measures: another act. -/
import Derived.Test.YtekbppfocnbhbaaGreatRy
set_option linter.unusedVariables false
set_option linter.unusedSimpArgs false
namespace Go.Proofs.YtekbppfocnbhbaaGreat.XC
open Go.RowKit
set_option maxHeartbeats 8000000 in
set_option maxRecDepth 100000 in
theorem mw_if0 {w W5 : World} {c : Cx} {rb pb g o k cap q6 cs : Nat} {ps : Option Addr} {ls : List Ac} {ac : Ac} {s : Am} {ms : List Nat} {rd : Int} {r0 : Rm} {v6 : Value} {K : Act → World → Prop} {t1 t2 t6 t7 t8 t9 t10 t11 t12 t13 t14 t15 t16 t17 t18 t19 t20 t21 t22 t23 t24 t25 t26 t27 t28 t29 t30 t31 t32 t33 t34 t35 t36 t37 t38 t39 t40 t41 t43 t44 t45 t46 t47 t48 t49 t50 t51 t52 t53 t54 t55 t56 t57 t58 t59 t60 t61 t62 t63 t64 t65 t66 t67 t68 t69 t70 t71 t72 t73 t74 t75 t76 t77 t78 t79 t80 t81 t82 t83 t84 t85 t86 t87 t88 t89 t90 t91 t92 t93 t94 t95 t96 t97 t98 t99 t100 t101 t102 t103 t104 t105 t106 t107 t108 t109 t110 t111 t112 t113 t114 t115 t116 t117 t118 t119 t120 t121 t122 t123 t124 t125 t126 t127 t128 t129 t130 t131 t132 t133 t134 t135 t136 t137 t138 t139 t140 t141 t142 t143 t144 t145 t146 t147 t148 t149 t150 t151 t152 t153 t154 t155 t156 t157 t158 t159 t160 t161 t162 t163 t164 t165 t166 t167 t168 t169 t170 t171 t172 t173 t174 t175 t176 t177 : Value}
    (hlt : k < ls.length) (hl : ls.length ≤ 60) (HRA : Hid (w.rangeAt g (o + k * 207) (acL ac))) (HOK : Hid ac.ok) (HRD : Hid (rd = ac.rd)) (HBD : Hid (Bd k s)) (HMI : Hid (MI s)) (HMX : Hid (∀ x ∈ ms, x ≤ s.last)) (HML : Hid (ms.length ≤ k))
    (HT5 : Hid (ST w c rb s (fun k => (k = pb ∨ (Value.slice ps ms.length cs).ownBlock = some k) ∨ k = q6) pb (.slice ps ms.length cs) ms W5)) (HR5 : Hid (W5.heap[q6]? = some (.cells (rmL r0 v6).toArray 47 (0, 0))))
    (hK : ∀ {u2 u8 u9 u10 u20 u21 u22 u23 u24 u25 u26 u27 u28 u29 u30 u31 u32 u33 u34 u35 u36 u37 u38 u39 u40 u41 u42 u43 u44 u45 u46 u47 u48 u49 u50 u51 u52 u53 u54 u55 u56 u57 u58 u59 u60 u61 u62 u63 u64 u65 u66 u67 u68 u69 u70 u71 u72 u73 u74 u75 u76 u77 u78 u79 u80 u81 u82 u83 u84 u85 u86 u87 u88 u89 u90 u91 u92 u93 u94 u95 u96 u97 u98 u99 u100 u101 u102 u103 u104 u105 u106 u107 u108 u109 u110 u111 u112 u113 u114 u115 u116 u117 : Value} (sv' : Value) (X : World) (s' : Am) (ms' : List Nat), ST w c rb s' (fun k => (k = pb ∨ sv'.ownBlock = some k) ∨ k = q6) pb sv' ms' X → X.heap[q6]? = some (.cells (rmL r0 v6).toArray 47 (0, 0)) → (∃ kk, AT c kk s s') → Bd (k + 1) s' → MI s' → ms'.length ≤ k + 1 → (∀ x ∈ ms', x ≤ s'.last) → K ⟨List.toArray ((.slice (some ⟨g, o, none⟩) ls.length cap) :: t1 :: u2 :: (.pointer (some ⟨pb, 0, none⟩)) :: sv' :: (.int .i64 k) :: t6 :: t7 :: u8 :: u9 :: u10 :: t11 :: t12 :: t13 :: t14 :: t15 :: t16 :: t17 :: t18 :: t19 :: u20 :: u21 :: u22 :: u23 :: u24 :: u25 :: u26 :: u27 :: u28 :: u29 :: u30 :: u31 :: u32 :: u33 :: u34 :: u35 :: u36 :: u37 :: u38 :: u39 :: u40 :: u41 :: u42 :: u43 :: u44 :: u45 :: u46 :: u47 :: u48 :: u49 :: u50 :: u51 :: u52 :: u53 :: u54 :: u55 :: u56 :: u57 :: u58 :: u59 :: u60 :: u61 :: u62 :: u63 :: u64 :: u65 :: u66 :: u67 :: u68 :: u69 :: u70 :: u71 :: u72 :: u73 :: u74 :: u75 :: u76 :: u77 :: u78 :: u79 :: u80 :: u81 :: u82 :: u83 :: u84 :: u85 :: u86 :: u87 :: u88 :: u89 :: u90 :: u91 :: u92 :: u93 :: u94 :: u95 :: u96 :: u97 :: u98 :: u99 :: u100 :: u101 :: u102 :: u103 :: u104 :: u105 :: u106 :: u107 :: u108 :: u109 :: u110 :: u111 :: u112 :: u113 :: u114 :: u115 :: u116 :: u117 :: t118 :: t119 :: t120 :: t121 :: t122 :: t123 :: t124 :: t125 :: t126 :: t127 :: t128 :: t129 :: t130 :: t131 :: t132 :: t133 :: t134 :: t135 :: t136 :: t137 :: t138 :: t139 :: t140 :: t141 :: t142 :: t143 :: t144 :: t145 :: t146 :: t147 :: t148 :: t149 :: t150 :: t151 :: t152 :: t153 :: t154 :: t155 :: t156 :: t157 :: t158 :: t159 :: t160 :: t161 :: t162 :: t163 :: t164 :: t165 :: t166 :: t167 :: t168 :: t169 :: t170 :: t171 :: t172 :: t173 :: t174 :: t175 :: t176 :: t177 :: []), []⟩ X) :
    Code.wp Tryz.prog ((Tryz.f4.body.bind (cFind (isCond 42))).getD .skip) (Exit.then K (fun _ _ _ => False)) ⟨List.toArray ((.slice (some ⟨g, o, none⟩) ls.length cap) :: t1 :: t2 :: (.pointer (some ⟨pb, 0, none⟩)) :: (.slice ps ms.length cs) :: (.int .i64 k) :: t6 :: t7 :: t8 :: t9 :: t10 :: t11 :: t12 :: t13 :: t14 :: t15 :: t16 :: t17 :: t18 :: t19 :: t20 :: t21 :: t22 :: t23 :: t24 :: t25 :: t26 :: t27 :: t28 :: t29 :: t30 :: t31 :: t32 :: t33 :: t34 :: t35 :: t36 :: t37 :: t38 :: t39 :: t40 :: t41 :: (.bool false) :: t43 :: t44 :: t45 :: t46 :: t47 :: t48 :: t49 :: t50 :: t51 :: t52 :: t53 :: t54 :: t55 :: t56 :: t57 :: t58 :: t59 :: t60 :: t61 :: t62 :: t63 :: t64 :: t65 :: t66 :: t67 :: t68 :: t69 :: t70 :: t71 :: t72 :: t73 :: t74 :: t75 :: t76 :: t77 :: t78 :: t79 :: t80 :: t81 :: t82 :: t83 :: t84 :: t85 :: t86 :: t87 :: t88 :: t89 :: t90 :: t91 :: t92 :: t93 :: t94 :: t95 :: t96 :: t97 :: t98 :: t99 :: t100 :: t101 :: t102 :: t103 :: t104 :: t105 :: t106 :: t107 :: t108 :: t109 :: t110 :: t111 :: t112 :: t113 :: t114 :: t115 :: t116 :: t117 :: t118 :: t119 :: t120 :: t121 :: t122 :: t123 :: t124 :: t125 :: t126 :: t127 :: t128 :: t129 :: t130 :: t131 :: t132 :: t133 :: t134 :: t135 :: t136 :: t137 :: t138 :: t139 :: t140 :: t141 :: t142 :: t143 :: t144 :: t145 :: t146 :: t147 :: t148 :: t149 :: t150 :: t151 :: t152 :: t153 :: t154 :: t155 :: t156 :: t157 :: t158 :: t159 :: t160 :: t161 :: t162 :: t163 :: t164 :: t165 :: t166 :: t167 :: t168 :: t169 :: t170 :: t171 :: t172 :: t173 :: t174 :: t175 :: t176 :: t177 :: []), []⟩ W5 := by
  have HK : Hid _ := @hK
  clear hK
  have hkI : (k : Int) < (ls.length : Int) := by omega
  have hz := fun W => zero_rm W
  obtain ⟨ZL, hZL⟩ : ∃ L, L = rmL zR (.slice none 0 0) := ⟨_, rfl⟩
  rw [← hZL] at hz
  have HZS : Hid (ZL.toArray.size = 103) := by show _ = _; rw [hZL]; simpa using rmL_len zR_ok _
  clear hZL
  conv => arg 2; whnf
  go_cut [4] from 20 to 117 (fun sv' X => ∃ (s' : Am) (ms' : List Nat), ST w c rb s' (fun k => (k = pb ∨ sv'.ownBlock = some k) ∨ k = q6) pb sv' ms' X ∧ X.heap[q6]? = some (.cells (rmL r0 v6).toArray 47 (0, 0)) ∧ (∃ kk, AT c kk s s') ∧ Bd (k + 1) s' ∧ MI s' ∧ ms'.length ≤ k + 1 ∧ (∀ x ∈ ms', x ≤ s'.last))
  case rest =>
    obtain ⟨s', ms', h1, h2, h3, h4, h5, h6, h7⟩ := hcut
    exact HK.out _ wc s' ms' h1 h2 h3 h4 h5 h6 h7
  case first =>
    clear HK
    have hT1 : ST w c rb s (fun k => (k = pb ∨ (Value.slice ps ms.length cs).ownBlock = some k) ∨ k = q6) pb (.slice ps ms.length cs) ms W5.drew := HT5.out.step (Below.refl _ _).drew
    have HDO : Hid _ := do_any hT1.ja HBD.out (by omega) HOK.out
    have HT1 : Hid _ := hT1
    have HR1 : Hid (W5.drew.heap[q6]? = some (.cells (rmL r0 v6).toArray 47 (0, 0))) := HR5.out
    have HSA : Hid (∀ (X : World) (s : Am), ST w c rb s (fun k => (k = pb ∨ (Value.slice ps ms.length cs).ownBlock = some k) ∨ k = q6) pb (.slice ps ms.length cs) ms X → SA c rb pb g (o + k * 207) (acL ac) X) := fun X s h => h.sa HRA.out
    obtain ⟨kd, hkd⟩ : ∃ kd, kd = ac.kind := ⟨_, rfl⟩
    have hAN := acL_len HOK.out
    rw [← hkd] at HDO
    obtain ⟨AL, hAL⟩ : ∃ AL, AL = acL ac := ⟨_, rfl⟩
    rw [← hAL] at HDO HSA hAN
    have HAI : Hid ((Tryz.prog.info? 43).map (·.size) = some AL.length) := by show _ = _; rw [hAN]; kernel_rfl
    obtain ⟨PL, hPL⟩ : ∃ PL, PL = prL c rb := ⟨_, rfl⟩
    rw [← hPL] at HDO
    have HPI : Hid ((Tryz.prog.info? 29).map (·.size) = some PL.length) := by rw [hPL]; show _ = _; kernel_rfl
    have HPL : Hid (PL = prL c rb) := hPL
    clear hkd hAN hAL hPL hT1 HT5 HR5
    go_upto_region 19 with fail
    refine wp_region_held_drew (S := SA c rb pb g (o + k * 207) AL) (by kernel_rfl) (HSA.out _ _ HT1.out) (fun hHeld => ?_)
    generalize W5.drew = W6 at *
    refine wpAnyH_take (i := 0) (oi := ⟨some 112, .load 29 (.tmp 3), 29, _, #[], none⟩) rfl (by kernel_rfl) (by kernel_rfl) (by kernel_rfl) (fun _ _ _ h => h) (yieldsIf_load_mid (by rfl) 29 (.tmp 3) rfl (pb) (0) rfl (PL) _ (fun _ h => (by rw [HPL.out]; exact PC.rangeAt_row h.pr)) Tryz.underlying29 rfl HPI.out) hHeld ?_
    try simp only [Act.put, qT, q0, qS]
    refine wpAnyH_take (i := 1) (oi := ⟨some 113, .move (.tmp 0), 23, _, #[], none⟩) (v := .slice (some ⟨g, o, none⟩) ls.length cap) rfl (by kernel_rfl) (by kernel_rfl) (by kernel_rfl) (fun _ _ _ h => h) (Or.inl ⟨by rfl, fun w' hw' => ?_⟩) hHeld ?_
    · first | (go_simp; done) | (go_simp; rfl)
    try simp only [Act.put, qT, q0, qS]
    refine wpAnyH_take (i := 2) (oi := ⟨some 114, .move (.tmp 5), 3, _, #[], none⟩) (v := .int .i64 k) rfl (by kernel_rfl) (by kernel_rfl) (by kernel_rfl) (fun _ _ _ h => h) (Or.inl ⟨by rfl, fun w' hw' => ?_⟩) hHeld ?_
    · first | (go_simp; done) | (go_simp; rfl)
    try simp only [Act.put, qT, q0, qS]
    refine wpAnyH_take (i := 3) (oi := ⟨some 115, .indexAddr 23 (.tmp 113) (.tmp 114), 0, _, #[⟨1, .data⟩, ⟨2, .data⟩], none⟩) (v := .pointer (some ⟨g, o + k * 207, none⟩)) rfl (by kernel_rfl) (by kernel_rfl) (by kernel_rfl) (fun _ _ _ h => h) (Or.inl ⟨by rfl, fun w' hw' => ?_⟩) hHeld ?_
    · first | (go_simp; done) | (go_simp; rfl) | (go_simp; intro hbad; omega)
    try simp only [Act.put, qT, q0, qS]
    refine wpAnyH_take (i := 4) (oi := ⟨some 116, .load 43 (.tmp 115), 43, _, #[⟨3, .data⟩], none⟩) rfl (by kernel_rfl) (by kernel_rfl) (by kernel_rfl) (fun _ _ _ h => h) (yieldsIf_load_mid (by rfl) 43 (.tmp 115) rfl (g) (o + k * 207) rfl (AL) _ (fun _ h => h.ra) Tryz.underlying43 rfl HAI.out) hHeld ?_
    try simp only [Act.put, qT, q0, qS]
    refine wpAnyH_ready (rs := [5]) (by kernel_rfl) (by simp) ?_
    refine AllReadyH.cons (o := { dst := some 117, op := .call { callee := Go.Callee.value (.func 10), args := #[.tmp 112, .tmp 116], argTypes := #[29, 43] }, type := 4, pos := _, after := #[⟨0, .data⟩, ⟨4, .data⟩], guard := none }) rfl (fun K hK => ?_) AllReadyH.nil
    rw [if_pos (by rfl)]
    go_wp2_with fail
    refine Calls.mono HDO.out ?_
    rintro e W7 ⟨rfl, s', hat, hJA, hfr⟩
    have hT2 : ST w c rb s' (fun k => (k = pb ∨ (Value.slice ps ms.length cs).ownBlock = some k) ∨ k = q6) pb (.slice ps ms.length cs) ms W7 := HT1.out.call hJA hfr
    have hr7 := (hfr q6 (.inr rfl)).trans HR1.out
    have hla : s.last ≤ s'.last := at_last hat
    have HREL : Hid _ := And.intro hT2 (And.intro hr7 (And.intro (show ∃ kk, AT c kk s s' from ⟨kd, hat⟩) (And.intro (HBD.out.step hat) (And.intro (HMI.out.step hat) (And.intro (Nat.le_succ_of_le HML.out) (fun x hx => Nat.le_trans (HMX.out x hx) hla))))))
    clear hHeld hJA hfr hat hr7 hla
    have hHeld := HSA.out _ _ hT2
    refine hK.out _ _ hHeld (fun _ => ?_)
    clear hK K
    try simp only [Act.put, qT, q0, qS]
    refine wpAnyH_done (by kernel_rfl) ?_ _
    clear hHeld hT2 HDO HSA
    go_wp2_with fail
    go_meet
    case rel => exact ⟨_, _, HREL.out⟩
set_option maxHeartbeats 8000000 in
set_option maxRecDepth 100000 in
theorem mw_if42 {w W5 : World} {c : Cx} {rb pb g o k cap q6 cs : Nat} {ps : Option Addr} {ls : List Ac} {ac : Ac} {s : Am} {ms : List Nat} {rd : Int} {r0 : Rm} {v6 : Value} {K : Act → World → Prop} {t1 t2 t6 t7 t8 t9 t10 t11 t12 t13 t14 t15 t16 t17 t18 t19 t20 t21 t22 t23 t24 t25 t26 t27 t28 t29 t30 t31 t32 t33 t34 t35 t36 t37 t38 t39 t40 t41 t43 t44 t45 t46 t47 t48 t49 t50 t51 t52 t53 t54 t55 t56 t57 t58 t59 t60 t61 t62 t63 t64 t65 t66 t67 t68 t69 t70 t71 t72 t73 t74 t75 t76 t77 t78 t79 t80 t81 t82 t83 t84 t85 t86 t87 t88 t89 t90 t91 t92 t93 t94 t95 t96 t97 t98 t99 t100 t101 t102 t103 t104 t105 t106 t107 t108 t109 t110 t111 t112 t113 t114 t115 t116 t117 t118 t119 t120 t121 t122 t123 t124 t125 t126 t127 t128 t129 t130 t131 t132 t133 t134 t135 t136 t137 t138 t139 t140 t141 t142 t143 t144 t145 t146 t147 t148 t149 t150 t151 t152 t153 t154 t155 t156 t157 t158 t159 t160 t161 t162 t163 t164 t165 t166 t167 t168 t169 t170 t171 t172 t173 t174 t175 t176 t177 : Value} {t42 : Value} (h42 : t42 = .bool (ac.kind == 1))
    (hlt : k < ls.length) (hl : ls.length ≤ 60) (HRA : Hid (w.rangeAt g (o + k * 207) (acL ac))) (HOK : Hid ac.ok) (HRD : Hid (rd = ac.rd)) (HBD : Hid (Bd k s)) (HMI : Hid (MI s)) (HMX : Hid (∀ x ∈ ms, x ≤ s.last)) (HML : Hid (ms.length ≤ k))
    (HT5 : Hid (ST w c rb s (fun k => (k = pb ∨ (Value.slice ps ms.length cs).ownBlock = some k) ∨ k = q6) pb (.slice ps ms.length cs) ms W5)) (HR5 : Hid (W5.heap[q6]? = some (.cells (rmL r0 v6).toArray 47 (0, 0))))
    (hK : ∀ {u2 u8 u9 u10 u20 u21 u22 u23 u24 u25 u26 u27 u28 u29 u30 u31 u32 u33 u34 u35 u36 u37 u38 u39 u40 u41 u42 u43 u44 u45 u46 u47 u48 u49 u50 u51 u52 u53 u54 u55 u56 u57 u58 u59 u60 u61 u62 u63 u64 u65 u66 u67 u68 u69 u70 u71 u72 u73 u74 u75 u76 u77 u78 u79 u80 u81 u82 u83 u84 u85 u86 u87 u88 u89 u90 u91 u92 u93 u94 u95 u96 u97 u98 u99 u100 u101 u102 u103 u104 u105 u106 u107 u108 u109 u110 u111 u112 u113 u114 u115 u116 u117 : Value} (sv' : Value) (X : World) (s' : Am) (ms' : List Nat), ST w c rb s' (fun k => (k = pb ∨ sv'.ownBlock = some k) ∨ k = q6) pb sv' ms' X → X.heap[q6]? = some (.cells (rmL r0 v6).toArray 47 (0, 0)) → (∃ kk, AT c kk s s') → Bd (k + 1) s' → MI s' → ms'.length ≤ k + 1 → (∀ x ∈ ms', x ≤ s'.last) → K ⟨List.toArray ((.slice (some ⟨g, o, none⟩) ls.length cap) :: t1 :: u2 :: (.pointer (some ⟨pb, 0, none⟩)) :: sv' :: (.int .i64 k) :: t6 :: t7 :: u8 :: u9 :: u10 :: t11 :: t12 :: t13 :: t14 :: t15 :: t16 :: t17 :: t18 :: t19 :: u20 :: u21 :: u22 :: u23 :: u24 :: u25 :: u26 :: u27 :: u28 :: u29 :: u30 :: u31 :: u32 :: u33 :: u34 :: u35 :: u36 :: u37 :: u38 :: u39 :: u40 :: u41 :: u42 :: u43 :: u44 :: u45 :: u46 :: u47 :: u48 :: u49 :: u50 :: u51 :: u52 :: u53 :: u54 :: u55 :: u56 :: u57 :: u58 :: u59 :: u60 :: u61 :: u62 :: u63 :: u64 :: u65 :: u66 :: u67 :: u68 :: u69 :: u70 :: u71 :: u72 :: u73 :: u74 :: u75 :: u76 :: u77 :: u78 :: u79 :: u80 :: u81 :: u82 :: u83 :: u84 :: u85 :: u86 :: u87 :: u88 :: u89 :: u90 :: u91 :: u92 :: u93 :: u94 :: u95 :: u96 :: u97 :: u98 :: u99 :: u100 :: u101 :: u102 :: u103 :: u104 :: u105 :: u106 :: u107 :: u108 :: u109 :: u110 :: u111 :: u112 :: u113 :: u114 :: u115 :: u116 :: u117 :: t118 :: t119 :: t120 :: t121 :: t122 :: t123 :: t124 :: t125 :: t126 :: t127 :: t128 :: t129 :: t130 :: t131 :: t132 :: t133 :: t134 :: t135 :: t136 :: t137 :: t138 :: t139 :: t140 :: t141 :: t142 :: t143 :: t144 :: t145 :: t146 :: t147 :: t148 :: t149 :: t150 :: t151 :: t152 :: t153 :: t154 :: t155 :: t156 :: t157 :: t158 :: t159 :: t160 :: t161 :: t162 :: t163 :: t164 :: t165 :: t166 :: t167 :: t168 :: t169 :: t170 :: t171 :: t172 :: t173 :: t174 :: t175 :: t176 :: t177 :: []), []⟩ X) :
    Code.wp Tryz.prog ((Tryz.f4.body.bind (cFind (isCond 42))).getD .skip) (Exit.then K (fun _ _ _ => False)) ⟨List.toArray ((.slice (some ⟨g, o, none⟩) ls.length cap) :: t1 :: t2 :: (.pointer (some ⟨pb, 0, none⟩)) :: (.slice ps ms.length cs) :: (.int .i64 k) :: t6 :: t7 :: t8 :: t9 :: t10 :: t11 :: t12 :: t13 :: t14 :: t15 :: t16 :: t17 :: t18 :: t19 :: t20 :: t21 :: t22 :: t23 :: t24 :: t25 :: t26 :: t27 :: t28 :: t29 :: t30 :: t31 :: t32 :: t33 :: t34 :: t35 :: t36 :: t37 :: t38 :: t39 :: t40 :: t41 :: t42 :: t43 :: t44 :: t45 :: t46 :: t47 :: t48 :: t49 :: t50 :: t51 :: t52 :: t53 :: t54 :: t55 :: t56 :: t57 :: t58 :: t59 :: t60 :: t61 :: t62 :: t63 :: t64 :: t65 :: t66 :: t67 :: t68 :: t69 :: t70 :: t71 :: t72 :: t73 :: t74 :: t75 :: t76 :: t77 :: t78 :: t79 :: t80 :: t81 :: t82 :: t83 :: t84 :: t85 :: t86 :: t87 :: t88 :: t89 :: t90 :: t91 :: t92 :: t93 :: t94 :: t95 :: t96 :: t97 :: t98 :: t99 :: t100 :: t101 :: t102 :: t103 :: t104 :: t105 :: t106 :: t107 :: t108 :: t109 :: t110 :: t111 :: t112 :: t113 :: t114 :: t115 :: t116 :: t117 :: t118 :: t119 :: t120 :: t121 :: t122 :: t123 :: t124 :: t125 :: t126 :: t127 :: t128 :: t129 :: t130 :: t131 :: t132 :: t133 :: t134 :: t135 :: t136 :: t137 :: t138 :: t139 :: t140 :: t141 :: t142 :: t143 :: t144 :: t145 :: t146 :: t147 :: t148 :: t149 :: t150 :: t151 :: t152 :: t153 :: t154 :: t155 :: t156 :: t157 :: t158 :: t159 :: t160 :: t161 :: t162 :: t163 :: t164 :: t165 :: t166 :: t167 :: t168 :: t169 :: t170 :: t171 :: t172 :: t173 :: t174 :: t175 :: t176 :: t177 :: []), []⟩ W5 := by
  subst h42
  by_cases hk1 : ac.kind = 1
  · have e : (ac.kind == 1) = true := by simpa using hk1
    rw [e]
    exact mw_if1 hk1 hlt hl HRA HOK HRD HBD HMI HMX HML HT5 HR5 @hK
  · have e : (ac.kind == 1) = false := by simpa using hk1
    rw [e]
    exact mw_if0 hlt hl HRA HOK HRD HBD HMI HMX HML HT5 HR5 @hK
end Go.Proofs.YtekbppfocnbhbaaGreat.XC
