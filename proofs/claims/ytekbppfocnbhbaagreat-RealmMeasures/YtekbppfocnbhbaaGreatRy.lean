/- realm: measures: a realm is made, by both. -/
import Derived.Test.YtekbppfocnbhbaaGreatRx
set_option linter.unusedVariables false
set_option linter.unusedSimpArgs false
namespace Go.Proofs.YtekbppfocnbhbaaGreat.XC
open Go.RowKit
set_option maxHeartbeats 8000000 in
set_option maxRecDepth 100000 in
theorem mw_if1 {w W5 : World} {c : Cx} {rb pb g o k cap q6 cs : Nat} {ps : Option Addr} {ls : List Ac} {ac : Ac} {s : Am} {ms : List Nat} {rd : Int} {r0 : Rm} {v6 : Value} {K : Act → World → Prop} {t1 t2 t6 t7 t8 t9 t10 t11 t12 t13 t14 t15 t16 t17 t18 t19 t20 t21 t22 t23 t24 t25 t26 t27 t28 t29 t30 t31 t32 t33 t34 t35 t36 t37 t38 t39 t40 t41 t43 t44 t45 t46 t47 t48 t49 t50 t51 t52 t53 t54 t55 t56 t57 t58 t59 t60 t61 t62 t63 t64 t65 t66 t67 t68 t69 t70 t71 t72 t73 t74 t75 t76 t77 t78 t79 t80 t81 t82 t83 t84 t85 t86 t87 t88 t89 t90 t91 t92 t93 t94 t95 t96 t97 t98 t99 t100 t101 t102 t103 t104 t105 t106 t107 t108 t109 t110 t111 t112 t113 t114 t115 t116 t117 t118 t119 t120 t121 t122 t123 t124 t125 t126 t127 t128 t129 t130 t131 t132 t133 t134 t135 t136 t137 t138 t139 t140 t141 t142 t143 t144 t145 t146 t147 t148 t149 t150 t151 t152 t153 t154 t155 t156 t157 t158 t159 t160 t161 t162 t163 t164 t165 t166 t167 t168 t169 t170 t171 t172 t173 t174 t175 t176 t177 : Value} (hk1 : ac.kind = 1)
    (hlt : k < ls.length) (hl : ls.length ≤ 60) (HRA : Hid (w.rangeAt g (o + k * 207) (acL ac))) (HOK : Hid ac.ok) (HRD : Hid (rd = ac.rd)) (HBD : Hid (Bd k s)) (HMI : Hid (MI s)) (HMX : Hid (∀ x ∈ ms, x ≤ s.last)) (HML : Hid (ms.length ≤ k))
    (HT5 : Hid (ST w c rb s (fun k => (k = pb ∨ (Value.slice ps ms.length cs).ownBlock = some k) ∨ k = q6) pb (.slice ps ms.length cs) ms W5)) (HR5 : Hid (W5.heap[q6]? = some (.cells (rmL r0 v6).toArray 47 (0, 0))))
    (hK : ∀ {u2 u8 u9 u10 u20 u21 u22 u23 u24 u25 u26 u27 u28 u29 u30 u31 u32 u33 u34 u35 u36 u37 u38 u39 u40 u41 u42 u43 u44 u45 u46 u47 u48 u49 u50 u51 u52 u53 u54 u55 u56 u57 u58 u59 u60 u61 u62 u63 u64 u65 u66 u67 u68 u69 u70 u71 u72 u73 u74 u75 u76 u77 u78 u79 u80 u81 u82 u83 u84 u85 u86 u87 u88 u89 u90 u91 u92 u93 u94 u95 u96 u97 u98 u99 u100 u101 u102 u103 u104 u105 u106 u107 u108 u109 u110 u111 u112 u113 u114 u115 u116 u117 : Value} (sv' : Value) (X : World) (s' : Am) (ms' : List Nat), ST w c rb s' (fun k => (k = pb ∨ sv'.ownBlock = some k) ∨ k = q6) pb sv' ms' X → X.heap[q6]? = some (.cells (rmL r0 v6).toArray 47 (0, 0)) → (∃ kk, AT c kk s s') → Bd (k + 1) s' → MI s' → ms'.length ≤ k + 1 → (∀ x ∈ ms', x ≤ s'.last) → K ⟨List.toArray ((.slice (some ⟨g, o, none⟩) ls.length cap) :: t1 :: u2 :: (.pointer (some ⟨pb, 0, none⟩)) :: sv' :: (.int .i64 k) :: t6 :: t7 :: u8 :: u9 :: u10 :: t11 :: t12 :: t13 :: t14 :: t15 :: t16 :: t17 :: t18 :: t19 :: u20 :: u21 :: u22 :: u23 :: u24 :: u25 :: u26 :: u27 :: u28 :: u29 :: u30 :: u31 :: u32 :: u33 :: u34 :: u35 :: u36 :: u37 :: u38 :: u39 :: u40 :: u41 :: u42 :: u43 :: u44 :: u45 :: u46 :: u47 :: u48 :: u49 :: u50 :: u51 :: u52 :: u53 :: u54 :: u55 :: u56 :: u57 :: u58 :: u59 :: u60 :: u61 :: u62 :: u63 :: u64 :: u65 :: u66 :: u67 :: u68 :: u69 :: u70 :: u71 :: u72 :: u73 :: u74 :: u75 :: u76 :: u77 :: u78 :: u79 :: u80 :: u81 :: u82 :: u83 :: u84 :: u85 :: u86 :: u87 :: u88 :: u89 :: u90 :: u91 :: u92 :: u93 :: u94 :: u95 :: u96 :: u97 :: u98 :: u99 :: u100 :: u101 :: u102 :: u103 :: u104 :: u105 :: u106 :: u107 :: u108 :: u109 :: u110 :: u111 :: u112 :: u113 :: u114 :: u115 :: u116 :: u117 :: t118 :: t119 :: t120 :: t121 :: t122 :: t123 :: t124 :: t125 :: t126 :: t127 :: t128 :: t129 :: t130 :: t131 :: t132 :: t133 :: t134 :: t135 :: t136 :: t137 :: t138 :: t139 :: t140 :: t141 :: t142 :: t143 :: t144 :: t145 :: t146 :: t147 :: t148 :: t149 :: t150 :: t151 :: t152 :: t153 :: t154 :: t155 :: t156 :: t157 :: t158 :: t159 :: t160 :: t161 :: t162 :: t163 :: t164 :: t165 :: t166 :: t167 :: t168 :: t169 :: t170 :: t171 :: t172 :: t173 :: t174 :: t175 :: t176 :: t177 :: []), []⟩ X) :
    Code.wp Tryz.prog ((Tryz.f4.body.bind (cFind (isCond 42))).getD .skip) (Exit.then K (fun _ _ _ => False)) ⟨List.toArray ((.slice (some ⟨g, o, none⟩) ls.length cap) :: t1 :: t2 :: (.pointer (some ⟨pb, 0, none⟩)) :: (.slice ps ms.length cs) :: (.int .i64 k) :: t6 :: t7 :: t8 :: t9 :: t10 :: t11 :: t12 :: t13 :: t14 :: t15 :: t16 :: t17 :: t18 :: t19 :: t20 :: t21 :: t22 :: t23 :: t24 :: t25 :: t26 :: t27 :: t28 :: t29 :: t30 :: t31 :: t32 :: t33 :: t34 :: t35 :: t36 :: t37 :: t38 :: t39 :: t40 :: t41 :: (.bool true) :: t43 :: t44 :: t45 :: t46 :: t47 :: t48 :: t49 :: t50 :: t51 :: t52 :: t53 :: t54 :: t55 :: t56 :: t57 :: t58 :: t59 :: t60 :: t61 :: t62 :: t63 :: t64 :: t65 :: t66 :: t67 :: t68 :: t69 :: t70 :: t71 :: t72 :: t73 :: t74 :: t75 :: t76 :: t77 :: t78 :: t79 :: t80 :: t81 :: t82 :: t83 :: t84 :: t85 :: t86 :: t87 :: t88 :: t89 :: t90 :: t91 :: t92 :: t93 :: t94 :: t95 :: t96 :: t97 :: t98 :: t99 :: t100 :: t101 :: t102 :: t103 :: t104 :: t105 :: t106 :: t107 :: t108 :: t109 :: t110 :: t111 :: t112 :: t113 :: t114 :: t115 :: t116 :: t117 :: t118 :: t119 :: t120 :: t121 :: t122 :: t123 :: t124 :: t125 :: t126 :: t127 :: t128 :: t129 :: t130 :: t131 :: t132 :: t133 :: t134 :: t135 :: t136 :: t137 :: t138 :: t139 :: t140 :: t141 :: t142 :: t143 :: t144 :: t145 :: t146 :: t147 :: t148 :: t149 :: t150 :: t151 :: t152 :: t153 :: t154 :: t155 :: t156 :: t157 :: t158 :: t159 :: t160 :: t161 :: t162 :: t163 :: t164 :: t165 :: t166 :: t167 :: t168 :: t169 :: t170 :: t171 :: t172 :: t173 :: t174 :: t175 :: t176 :: t177 :: []), []⟩ W5 := by
  have HK : Hid _ := @hK
  clear hK
  have hkI : (k : Int) < (ls.length : Int) := by omega
  have hz := fun W => zero_rm W
  obtain ⟨ZL, hZL⟩ : ∃ L, L = rmL zR (.slice none 0 0) := ⟨_, rfl⟩
  rw [← hZL] at hz
  have HZS : Hid (ZL.toArray.size = 103) := by show _ = _; rw [hZL]; simpa using rmL_len zR_ok _
  clear hZL
  conv => arg 2; whnf
  go_cut [4] from 20 to 117 (fun sv' X => ∃ (s' : Am) (ms' : List Nat), ST w c rb s' (fun k => (k = pb ∨ sv'.ownBlock = some k) ∨ k = q6) pb sv' ms' X ∧ X.heap[q6]? = some (.cells (rmL r0 v6).toArray 47 (0, 0)) ∧ (∃ kk, AT c kk s s') ∧ Bd (k + 1) s' ∧ MI s' ∧ ms'.length ≤ k + 1 ∧ (∀ x ∈ ms', x ≤ s'.last))
  case rest =>
    obtain ⟨s', ms', h1, h2, h3, h4, h5, h6, h7⟩ := hcut
    exact HK.out _ wc s' ms' h1 h2 h3 h4 h5 h6 h7
  case first =>
    clear HK
    have HSXM : Hid (∀ X : World, X.heap[pb]? = some (.cells (prL c rb).toArray 29 (0, 0)) → Below w.heap.size w X → SX c rb pb g (o + k * 207) rd ac.root (PC.rpL ac.V ac.nodes) (ac.tree.map B8) X) := fun X h1 h2 => by rw [HRD.out]; exact sx_mk h1 h2 HRA.out HOK.out
    have HCR : Hid (∀ (C : Nat → Prop) (X : World), JA c rb s C X → Calls Tryz.prog 16 #[.pointer (some ⟨c.xb, 0, none⟩), .int .i64 rd, .int .i64 ac.root, .agg (PC.rpL ac.V ac.nodes).toArray, .agg (ac.tree.map B8).toArray] X fun e Y => PBC2 c rb s C rd ac.root (PC.rpL ac.V ac.nodes).toArray (ac.tree.map B8).toArray X e Y) := fun C X h => do_cre3 h HBD.out (by omega) (by rw [HRD.out]; exact HOK.out.rd) ac.V HOK.out.V ac.nodes ac.tree HOK.out.t
    have HPI : Hid _ := PC.info33 (PC.rpL ac.V ac.nodes) (PC.rpL_len _ _ HOK.out.V)
    have HTI : Hid _ := R5.info32 (ac.tree.map B8) (by simpa using HOK.out.t)
    generalize PC.rpL ac.V ac.nodes = PL at *
    generalize ac.tree.map B8 = TL at *
    generalize ac.root = root at *
    go_upto_region 10 with fail
    have HT1 : Hid (ST w c rb s (fun k => (k = pb ∨ (Value.slice ps ms.length cs).ownBlock = some k) ∨ k = q6) pb (.slice ps ms.length cs) ms W5.drew) := HT5.out.step (Below.refl _ _).drew
    have HR1 : Hid (W5.drew.heap[q6]? = some (.cells (rmL r0 v6).toArray 47 (0, 0))) := HR5.out
    clear HT5 HR5
    refine wp_lift (mw_new10 hlt HSXM HCR HPI HTI HT1 ?_)
    intro x20 x21 x22 x23 x24 x25 x26 x27 x28 x29 x30 x31 x32 x33 x34 x35 x36 x37 x38 x39 x40 x41 x42 x43 x44 x45 x46 x47 x48 x49 x50 x51 x52 x53 x54 x55 x56 x57 x58 x59 x60 x61 x62 x63 x64 x65 x66 x67 x68 x69 x70 x71 x72 x73 x74 x75 x76 x77 x78 x79 x80 x81 x82 x83 x84 x85 x86 x87 x88 x89 x90 x91 x92 x93 x94 x95 x96 x97 x98 x99 x100 x101 x102 x103 x104 x105 x106 x107 x108 x109 x110 x111 x112 x113 x114 x115 x116 x117 q8 E8 r8 s' W6 hcx
    clear HCR
    have HCX : Hid _ := hcx
    have HREF : Hid _ := hcx.ref W6.drew (Below.refl _ _).drew
    have HHD : Hid (SX c rb pb g (o + k * 207) rd root PL TL W6.drew) := HSXM.out W6.drew ((hcx.fr pb (.inl (.inl rfl))).trans HT1.out.pr) hcx.bel.drew
    clear hcx
    go_upto_region 11 with fail
    refine wp_region_held_drew (S := SX c rb pb g (o + k * 207) rd root PL TL) (by kernel_rfl) HHD.out (fun hHeld => ?_)
    have HDR : Hid (∀ k : Nat, W6.drew.heap[k]? = W6.heap[k]?) := fun k => rfl
    generalize W6.drew = W7 at *
    refine wpAnyH_take (i := 0) (oi := ⟨some 69, .fieldAddr 29 (.tmp 3) 2, 0, _, #[], none⟩) (v := .pointer (some ⟨pb, 2, none⟩)) rfl (by kernel_rfl) (by kernel_rfl) (by kernel_rfl) (fun _ _ _ h => h) (Or.inl ⟨by rfl, fun w' hw' => ?_⟩) hHeld ?_
    · first | (go_simp; done) | (go_simp; rfl)
    try simp only [Act.put, qT, q0, qS]
    refine wpAnyH_take (i := 1) (oi := ⟨some 70, .load 27 (.tmp 69), 27, _, #[⟨0, .data⟩], none⟩) (v := .pointer (some ⟨rb, 0, none⟩)) rfl (by kernel_rfl) (by kernel_rfl) (by kernel_rfl) (fun _ _ _ h => h) (Or.inl ⟨by rfl, fun w' hw' => ?_⟩) hHeld ?_
    · have hcc := hw'.c2; first | (go_simp; done) | (go_simp; rfl)
    try simp only [Act.put, qT, q0, qS]
    refine wpAnyH_take (i := 2) (oi := ⟨some 71, .move (.tmp 0), 23, _, #[], none⟩) (v := .slice (some ⟨g, o, none⟩) ls.length cap) rfl (by kernel_rfl) (by kernel_rfl) (by kernel_rfl) (fun _ _ _ h => h) (Or.inl ⟨by rfl, fun w' hw' => ?_⟩) hHeld ?_
    · first | (go_simp; done) | (go_simp; rfl)
    try simp only [Act.put, qT, q0, qS]
    refine wpAnyH_take (i := 3) (oi := ⟨some 72, .move (.tmp 5), 3, _, #[], none⟩) (v := .int .i64 k) rfl (by kernel_rfl) (by kernel_rfl) (by kernel_rfl) (fun _ _ _ h => h) (Or.inl ⟨by rfl, fun w' hw' => ?_⟩) hHeld ?_
    · first | (go_simp; done) | (go_simp; rfl)
    try simp only [Act.put, qT, q0, qS]
    refine wpAnyH_take (i := 4) (oi := ⟨some 73, .indexAddr 23 (.tmp 71) (.tmp 72), 0, _, #[⟨2, .data⟩, ⟨3, .data⟩], none⟩) (v := .pointer (some ⟨g, o + k * 207, none⟩)) rfl (by kernel_rfl) (by kernel_rfl) (by kernel_rfl) (fun _ _ _ h => h) (Or.inl ⟨by rfl, fun w' hw' => ?_⟩) hHeld ?_
    · first | (go_simp; done) | (go_simp; rfl) | (go_simp; intro hbad; omega)
    try simp only [Act.put, qT, q0, qS]
    refine wpAnyH_take (i := 5) (oi := ⟨some 74, .fieldAddr 43 (.tmp 73) 1, 0, _, #[⟨4, .data⟩], none⟩) (v := .pointer (some ⟨g, o + k * 207 + 1, none⟩)) rfl (by kernel_rfl) (by kernel_rfl) (by kernel_rfl) (fun _ _ _ h => h) (Or.inl ⟨by rfl, fun w' hw' => ?_⟩) hHeld ?_
    · first | (go_simp; done) | (go_simp; rfl)
    try simp only [Act.put, qT, q0, qS]
    refine wpAnyH_take (i := 6) (oi := ⟨some 75, .load 3 (.tmp 74), 3, _, #[⟨5, .data⟩], none⟩) (v := .int .i64 rd) rfl (by kernel_rfl) (by kernel_rfl) (by kernel_rfl) (fun _ _ _ h => h) (Or.inl ⟨by rfl, fun w' hw' => ?_⟩) hHeld ?_
    · have hcc := hw'.k1; first | (go_simp; done) | (go_simp; rfl)
    try simp only [Act.put, qT, q0, qS]
    refine wpAnyH_take (i := 7) (oi := ⟨some 76, .move (.tmp 0), 23, _, #[], none⟩) (v := .slice (some ⟨g, o, none⟩) ls.length cap) rfl (by kernel_rfl) (by kernel_rfl) (by kernel_rfl) (fun _ _ _ h => h) (Or.inl ⟨by rfl, fun w' hw' => ?_⟩) hHeld ?_
    · first | (go_simp; done) | (go_simp; rfl)
    try simp only [Act.put, qT, q0, qS]
    refine wpAnyH_take (i := 8) (oi := ⟨some 77, .move (.tmp 5), 3, _, #[], none⟩) (v := .int .i64 k) rfl (by kernel_rfl) (by kernel_rfl) (by kernel_rfl) (fun _ _ _ h => h) (Or.inl ⟨by rfl, fun w' hw' => ?_⟩) hHeld ?_
    · first | (go_simp; done) | (go_simp; rfl)
    try simp only [Act.put, qT, q0, qS]
    refine wpAnyH_take (i := 9) (oi := ⟨some 78, .indexAddr 23 (.tmp 76) (.tmp 77), 0, _, #[⟨7, .data⟩, ⟨8, .data⟩], none⟩) (v := .pointer (some ⟨g, o + k * 207, none⟩)) rfl (by kernel_rfl) (by kernel_rfl) (by kernel_rfl) (fun _ _ _ h => h) (Or.inl ⟨by rfl, fun w' hw' => ?_⟩) hHeld ?_
    · first | (go_simp; done) | (go_simp; rfl) | (go_simp; intro hbad; omega)
    try simp only [Act.put, qT, q0, qS]
    refine wpAnyH_take (i := 10) (oi := ⟨some 79, .fieldAddr 43 (.tmp 78) 2, 0, _, #[⟨9, .data⟩], none⟩) (v := .pointer (some ⟨g, o + k * 207 + 2, none⟩)) rfl (by kernel_rfl) (by kernel_rfl) (by kernel_rfl) (fun _ _ _ h => h) (Or.inl ⟨by rfl, fun w' hw' => ?_⟩) hHeld ?_
    · first | (go_simp; done) | (go_simp; rfl)
    try simp only [Act.put, qT, q0, qS]
    refine wpAnyH_take (i := 11) (oi := ⟨some 80, .load 3 (.tmp 79), 3, _, #[⟨10, .data⟩], none⟩) (v := .int .i64 root) rfl (by kernel_rfl) (by kernel_rfl) (by kernel_rfl) (fun _ _ _ h => h) (Or.inl ⟨by rfl, fun w' hw' => ?_⟩) hHeld ?_
    · have hcc := hw'.k2; first | (go_simp; done) | (go_simp; rfl)
    try simp only [Act.put, qT, q0, qS]
    refine wpAnyH_take (i := 12) (oi := ⟨some 81, .move (.tmp 0), 23, _, #[], none⟩) (v := .slice (some ⟨g, o, none⟩) ls.length cap) rfl (by kernel_rfl) (by kernel_rfl) (by kernel_rfl) (fun _ _ _ h => h) (Or.inl ⟨by rfl, fun w' hw' => ?_⟩) hHeld ?_
    · first | (go_simp; done) | (go_simp; rfl)
    try simp only [Act.put, qT, q0, qS]
    refine wpAnyH_take (i := 13) (oi := ⟨some 82, .move (.tmp 5), 3, _, #[], none⟩) (v := .int .i64 k) rfl (by kernel_rfl) (by kernel_rfl) (by kernel_rfl) (fun _ _ _ h => h) (Or.inl ⟨by rfl, fun w' hw' => ?_⟩) hHeld ?_
    · first | (go_simp; done) | (go_simp; rfl)
    try simp only [Act.put, qT, q0, qS]
    refine wpAnyH_take (i := 14) (oi := ⟨some 83, .indexAddr 23 (.tmp 81) (.tmp 82), 0, _, #[⟨12, .data⟩, ⟨13, .data⟩], none⟩) (v := .pointer (some ⟨g, o + k * 207, none⟩)) rfl (by kernel_rfl) (by kernel_rfl) (by kernel_rfl) (fun _ _ _ h => h) (Or.inl ⟨by rfl, fun w' hw' => ?_⟩) hHeld ?_
    · first | (go_simp; done) | (go_simp; rfl) | (go_simp; intro hbad; omega)
    try simp only [Act.put, qT, q0, qS]
    refine wpAnyH_take (i := 15) (oi := ⟨some 84, .fieldAddr 43 (.tmp 83) 4, 0, _, #[⟨14, .data⟩], none⟩) (v := .pointer (some ⟨g, o + k * 207 + 4, none⟩)) rfl (by kernel_rfl) (by kernel_rfl) (by kernel_rfl) (fun _ _ _ h => h) (Or.inl ⟨by rfl, fun w' hw' => ?_⟩) hHeld ?_
    · first | (go_simp; done) | (go_simp; rfl)
    try simp only [Act.put, qT, q0, qS]
    refine wpAnyH_take (i := 16) (oi := ⟨some 85, .load 36 (.tmp 84), 36, _, #[⟨15, .data⟩], none⟩) rfl (by kernel_rfl) (by kernel_rfl) (by kernel_rfl) (fun _ _ _ h => h) (yieldsIf_load_mid (by rfl) 36 (.tmp 84) rfl (g) (o + k * 207 + 4) rfl (PL) _ (fun _ h => h.rp) Tryz.underlying36 rfl HPI.out) hHeld ?_
    try simp only [Act.put, qT, q0, qS]
    refine wpAnyH_take (i := 17) (oi := ⟨some 86, .move (.tmp 0), 23, _, #[], none⟩) (v := .slice (some ⟨g, o, none⟩) ls.length cap) rfl (by kernel_rfl) (by kernel_rfl) (by kernel_rfl) (fun _ _ _ h => h) (Or.inl ⟨by rfl, fun w' hw' => ?_⟩) hHeld ?_
    · first | (go_simp; done) | (go_simp; rfl)
    try simp only [Act.put, qT, q0, qS]
    refine wpAnyH_take (i := 18) (oi := ⟨some 87, .move (.tmp 5), 3, _, #[], none⟩) (v := .int .i64 k) rfl (by kernel_rfl) (by kernel_rfl) (by kernel_rfl) (fun _ _ _ h => h) (Or.inl ⟨by rfl, fun w' hw' => ?_⟩) hHeld ?_
    · first | (go_simp; done) | (go_simp; rfl)
    try simp only [Act.put, qT, q0, qS]
    refine wpAnyH_take (i := 19) (oi := ⟨some 88, .indexAddr 23 (.tmp 86) (.tmp 87), 0, _, #[⟨17, .data⟩, ⟨18, .data⟩], none⟩) (v := .pointer (some ⟨g, o + k * 207, none⟩)) rfl (by kernel_rfl) (by kernel_rfl) (by kernel_rfl) (fun _ _ _ h => h) (Or.inl ⟨by rfl, fun w' hw' => ?_⟩) hHeld ?_
    · first | (go_simp; done) | (go_simp; rfl) | (go_simp; intro hbad; omega)
    try simp only [Act.put, qT, q0, qS]
    refine wpAnyH_take (i := 20) (oi := ⟨some 89, .fieldAddr 43 (.tmp 88) 5, 0, _, #[⟨19, .data⟩], none⟩) (v := .pointer (some ⟨g, o + k * 207 + 37, none⟩)) rfl (by kernel_rfl) (by kernel_rfl) (by kernel_rfl) (fun _ _ _ h => h) (Or.inl ⟨by rfl, fun w' hw' => ?_⟩) hHeld ?_
    · first | (go_simp; done) | (go_simp; rfl)
    try simp only [Act.put, qT, q0, qS]
    refine wpAnyH_take (i := 21) (oi := ⟨some 90, .load 33 (.tmp 89), 33, _, #[⟨20, .data⟩], none⟩) rfl (by kernel_rfl) (by kernel_rfl) (by kernel_rfl) (fun _ _ _ h => h) (yieldsIf_load_mid (by rfl) 33 (.tmp 89) rfl (g) (o + k * 207 + 37) rfl (TL) _ (fun _ h => h.rt) Tryz.underlying33 rfl HTI.out) hHeld ?_
    try simp only [Act.put, qT, q0, qS]
    refine wpAnyH_ready (rs := [22]) (by kernel_rfl) (by simp) ?_
    refine AllReadyH.cons (o := { dst := some 91, op := .call { callee := Go.Callee.value (.func 17), args := #[.tmp 70, .tmp 75, .tmp 80, .tmp 85, .tmp 90], argTypes := #[27, 3, 3, 36, 33] }, type := 64, pos := _, after := #[⟨1, .data⟩, ⟨6, .data⟩, ⟨11, .data⟩, ⟨16, .data⟩, ⟨21, .data⟩], guard := none }) rfl (fun K hK => ?_) AllReadyH.nil
    rw [if_pos (by rfl)]
    go_wp2_with fail
    refine Calls.mono HREF.out ?_
    rintro e W8 ⟨⟨vx, rfl⟩, hJA, hfr⟩
    have hfr2 : ∀ k, (fun k => (k = pb ∨ (Value.slice ps ms.length cs).ownBlock = some k) ∨ k = q6) k → W8.heap[k]? = W5.drew.heap[k]? := fun k hk => (hfr k (.inl hk)).trans ((HDR.out k).trans (HCX.out.fr k hk))
    have hT8 : ST w c rb s' (fun k => (fun k => (k = pb ∨ (Value.slice ps ms.length cs).ownBlock = some k) ∨ k = q6) k ∨ k = q8) pb (.slice ps ms.length cs) ms W8 := HT1.out.crx hJA HCX.out.cn hfr2
    have HR6 : Hid (W8.heap[q6]? = some (.cells (rmL r0 v6).toArray 47 (0, 0))) := (hfr2 q6 (.inr rfl)).trans HR1.out
    have HR8 : Hid (∃ v, W8.heap[q8]? = some (.cells (rmL r8 v).toArray 47 (0, 0))) := by
      obtain ⟨v, hv⟩ := HCX.out.row
      exact ⟨v, (hfr q8 (.inr rfl)).trans ((HDR.out q8).trans hv)⟩
    have HT8 : Hid _ := hT8
    have HAT : Hid (AT c 1 s s') := HCX.out.ht
    have HEI : Hid (E8 = 0 → r8.inst = s.last + 1 ∧ s'.last = s.last + 1) := HCX.out.hi
    clear hHeld hJA hfr hfr2 HREF HDR HHD HCX HT1 HR1
    have hHeld := HSXM.out W8 hT8.pr hT8.bel
    refine hK.out _ _ hHeld (fun _ => ?_)
    clear hK K
    try simp only [Act.put, qT, q0, qS]
    refine wpAnyH_done (by kernel_rfl) ?_ _
    clear hHeld hT8
    have HAFT : Hid (Bd (k + 1) s' ∧ MI s' ∧ s.last ≤ s'.last) := ⟨HBD.out.step HAT.out, HMI.out.step HAT.out, at_last HAT.out⟩
    by_cases hE : E8 = 0
    · subst hE
      obtain ⟨hi1, hi2⟩ := HEI.out rfl
      obtain ⟨v8, hr8⟩ := HR8.out
      have HIN : Hid (∀ x ∈ ms, (x : Int) ≠ (r8.inst : Int)) := fun x hx => by have := HMX.out x hx; omega
      have HR8' : Hid (W8.heap[q8]? = some (.cells (rmL r8 v8).toArray 47 (0, 0))) := hr8
      clear hr8 HR8
      go_wp2
      go_loopw [10] (fun i X => ∃ j : Nat, j ≤ ms.length ∧ i = .int .i64 j ∧ ST w c rb s' (fun k => (fun k => (k = pb ∨ (Value.slice ps ms.length cs).ownBlock = some k) ∨ k = q6) k ∨ k = q8) pb (.slice ps ms.length cs) ms X ∧ X.heap[q6]? = some (.cells (rmL r0 v6).toArray 47 (0, 0)) ∧ X.heap[q8]? = some (.cells (rmL r8 v8).toArray 47 (0, 0))) (fun i _ => ms.length - (intOf i).toNat)
      case atStart => exact ⟨0, Nat.zero_le _, rfl, HT8.out, HR6.out, HR8'.out⟩
      case round =>
        clear HT8 HR6 HR8'
        obtain ⟨j, hj, rfl, hT9, hr6, hr8⟩ := hrel
        generalize wr = W9 at *
        by_cases hjl : j < ms.length
        · have hjI : (j : Int) < (ms.length : Int) := by omega
          obtain ⟨x, hx⟩ : ∃ x, ms[j]? = some x := ⟨_, List.getElem?_eq_getElem hjl⟩
          obtain ⟨gs, cs', hsv, hcx⟩ := hT9.fu.at hx
          have hxn := HIN.out x (List.mem_of_getElem? hx)
          injection hsv with hs1 hs2 hs3
          subst hs1
          have hc0 : W9.cell? ⟨q8, 0, none⟩ = some (.int .u64 (r8.inst : Int)) := by rw [cell_of_row _ _ 0 _ _ _ hr8, List.getElem?_toArray, rmL_0]; rfl
          have hcx' : W9.cell? ⟨gs, j, none⟩ = some (.int .u64 (x : Int)) := hcx
          obtain ⟨XI, hXI⟩ : ∃ XI : Int, XI = (x : Int) := ⟨_, rfl⟩
          obtain ⟨NI, hNI⟩ : ∃ NI : Int, NI = (r8.inst : Int) := ⟨_, rfl⟩
          rw [← hXI] at hcx' hxn
          rw [← hNI] at hc0 hxn
          have hxb : (XI == NI) = false := by simpa using hxn
          have HT9 : Hid (ST w c rb s' (fun k => (fun k => (k = pb ∨ (Value.slice (some ⟨gs, 0, none⟩) ms.length cs).ownBlock = some k) ∨ k = q6) k ∨ k = q8) pb (.slice (some ⟨gs, 0, none⟩) ms.length cs) ms W9.drew) := hT9.step (Below.refl _ _).drew
          have HR6 : Hid (W9.drew.heap[q6]? = some (.cells (rmL r0 v6).toArray 47 (0, 0))) := hr6
          have HR8 : Hid (W9.drew.heap[q8]? = some (.cells (rmL r8 v8).toArray 47 (0, 0))) := hr8
          have HSN : Hid (SN gs j q8 XI NI W9.drew) := ⟨hcx', hc0⟩
          clear hT9 hr6 hr8 hcx hcx' hc0 hXI hNI hx hs2 hs3
          go_upto_region 16 with fail
          refine wp_region_held_drew (S := SN gs j q8 XI NI) (by kernel_rfl) HSN.out (fun hHeld => ?_)
          generalize W9.drew = WA at *
          refine wpAnyH_take (i := 0) (oi := ⟨some 100, .move (.tmp 4), 62, _, #[], none⟩) (v := .slice (some ⟨gs, 0, none⟩) ms.length cs) rfl (by kernel_rfl) (by kernel_rfl) (by kernel_rfl) (fun _ _ _ h => h) (Or.inl ⟨by rfl, fun w' hw' => ?_⟩) hHeld ?_
          · first | (go_simp; done) | (go_simp; rfl)
          try simp only [Act.put, qT, q0, qS]
          refine wpAnyH_take (i := 1) (oi := ⟨some 101, .move (.tmp 10), 3, _, #[], none⟩) (v := .int .i64 j) rfl (by kernel_rfl) (by kernel_rfl) (by kernel_rfl) (fun _ _ _ h => h) (Or.inl ⟨by rfl, fun w' hw' => ?_⟩) hHeld ?_
          · first | (go_simp; done) | (go_simp; rfl)
          try simp only [Act.put, qT, q0, qS]
          refine wpAnyH_take (i := 2) (oi := ⟨some 102, .indexAddr 62 (.tmp 100) (.tmp 101), 0, _, #[⟨0, .data⟩, ⟨1, .data⟩], none⟩) (v := .pointer (some ⟨gs, j, none⟩)) rfl (by kernel_rfl) (by kernel_rfl) (by kernel_rfl) (fun _ _ _ h => h) (Or.inl ⟨by rfl, fun w' hw' => ?_⟩) hHeld ?_
          · first | (go_simp; done) | (go_simp; rfl) | (go_simp; intro hbad; omega)
          try simp only [Act.put, qT, q0, qS]
          refine wpAnyH_take (i := 3) (oi := ⟨some 103, .load 34 (.tmp 102), 34, _, #[⟨2, .data⟩], none⟩) (v := .int .u64 XI) rfl (by kernel_rfl) (by kernel_rfl) (by kernel_rfl) (fun _ _ _ h => h) (Or.inl ⟨by rfl, fun w' hw' => ?_⟩) hHeld ?_
          · have hcc := hw'.x; first | (go_simp; done) | (go_simp; rfl)
          try simp only [Act.put, qT, q0, qS]
          refine wpAnyH_take (i := 4) (oi := ⟨some 104, .fieldAddr 47 (.tmp 8) 0, 0, _, #[], none⟩) (v := .pointer (some ⟨q8, 0, none⟩)) rfl (by kernel_rfl) (by kernel_rfl) (by kernel_rfl) (fun _ _ _ h => h) (Or.inl ⟨by rfl, fun w' hw' => ?_⟩) hHeld ?_
          · first | (go_simp; done) | (go_simp; rfl)
          try simp only [Act.put, qT, q0, qS]
          refine wpAnyH_take (i := 5) (oi := ⟨some 105, .load 34 (.tmp 104), 34, _, #[⟨4, .data⟩], none⟩) (v := .int .u64 NI) rfl (by kernel_rfl) (by kernel_rfl) (by kernel_rfl) (fun _ _ _ h => h) (Or.inl ⟨by rfl, fun w' hw' => ?_⟩) hHeld ?_
          · have hcc := hw'.n; first | (go_simp; done) | (go_simp; rfl)
          try simp only [Act.put, qT, q0, qS]
          refine wpAnyH_take (i := 6) (oi := ⟨some 106, .binOp .eql 34 (.tmp 103) (.tmp 105) 34, 4, _, #[⟨3, .data⟩, ⟨5, .data⟩], none⟩) (v := .bool false) rfl (by kernel_rfl) (by kernel_rfl) (by kernel_rfl) (fun _ _ _ h => h) (Or.inl ⟨by rfl, fun w' hw' => ?_⟩) hHeld ?_
          · first | (go_simp; done) | (go_simp; rfl) | (go_simp; exact hxn)
          try simp only [Act.put, qT, q0, qS]
          refine wpAnyH_done (by kernel_rfl) ?_ _
          clear hHeld
          have hmk := HML.out
          go_wp2
          go_roundw
          case rel => exact ⟨j + 1, by omega, by go_num, HT9.out, HR6.out, HR8.out⟩
          case measure => simp [intOf]; omega
        · have hje : j = ms.length := by omega
          subst hje
          have hc0 : W9.cell? ⟨q8, 0, none⟩ = some (.int .u64 (r8.inst : Int)) := by rw [cell_of_row _ _ 0 _ _ _ hr8, List.getElem?_toArray, rmL_0]; rfl
          have HT9 : Hid _ := hT9
          have HR6 : Hid _ := hr6
          have hml : ms.length ≤ 1000000 := by have := HML.out; omega
          have hsz : pb + 1 ≤ W9.heap.size := by have := hT9.ja.lt hT9.cp; omega
          have HI2 : Hid (s'.last = s.last + 1) := hi2
          have HI1 : Hid (r8.inst = s.last + 1) := hi1
          clear hT9 hr6 hr8 hi1 hi2 hj hjl
          go_wp2_with (at_builtin; refine wpList_appV rfl (.tmp 107) (.tmp 110) rfl (pb + 1) _ ms r8.inst rfl rfl HT9.out.fu hml hsz ?_; intro b3 cap3 w3 hf3 hgr3 hb3 hlt3)
          obtain ⟨hT10, hbl⟩ := HT9.out.app hgr3 hf3 hb3 hlt3
          have hr10 := (hbl q6 (PC.row_lt HR6.out) (HT9.out.fu.ne HR6.out (by decide))).trans HR6.out
          have HEND : Hid _ := And.intro hT10 hr10
          clear hf3 hgr3 hb3 hlt3 hT10 hbl hr10
          go_meet
          case rel => exact ⟨s', ms ++ [r8.inst], HEND.out.1.sub (fun k hk => by
            rcases hk with (hk | hk) | hk
            · exact .inl (.inl (.inl (.inl hk)))
            · exact .inr (by simpa [Value.ownBlock] using hk.symm)
            · exact .inl (.inl (.inr hk))) (.inl (.inl rfl)) (fun k e => .inl (.inr e)), HEND.out.2, ⟨_, HAT.out⟩, HAFT.out.1, HAFT.out.2.1, by have := HML.out; rw [List.length_append, List.length_singleton]; omega, fun x hx => by
            have h2 := HI2.out
            have h1 := HI1.out
            rcases List.mem_append.1 hx with hx | hx
            · have := HMX.out x hx; omega
            · rw [List.mem_singleton.1 hx]; omega⟩
    · have hEb : (E8 == 0) = false := by simpa using hE
      go_wp2_with fail
      go_meet
      case rel => exact ⟨s', ms, HT8.out.sub (fun k hk => .inl hk) (.inl (.inl rfl)) (fun k e => .inl (.inr e)), HR6.out, ⟨_, HAT.out⟩, HAFT.out.1, HAFT.out.2.1, Nat.le_succ_of_le HML.out, fun x hx => Nat.le_trans (HMX.out x hx) HAFT.out.2.2⟩
end Go.Proofs.YtekbppfocnbhbaaGreat.XC
