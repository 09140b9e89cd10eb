/- realm: measures: a log, measured. -/
import Derived.Test.YtekbppfocnbhbaaGreatRt
set_option linter.unusedVariables false
set_option linter.unusedSimpArgs false
namespace Go.Proofs.YtekbppfocnbhbaaGreat.XC
open Go.RowKit
def cFind (t : Code → Bool) : Code → Option Code
  | .seq a b => match cFind t a with
    | some c => some c
    | none => cFind t b
  | .cond o a b => if t (.cond o a b) then some (.cond o a b) else match cFind t a with
    | some c => some c
    | none => cFind t b
  | .block i c => if t (.block i c) then some (.block i c) else cFind t c
  | .loop c => cFind t c
  | .scope c => cFind t c
  | .region i ops d => if t (.region i ops d) then some (.region i ops d) else none
  | _ => none
def isRegion (n : Nat) : Code → Bool
  | .region m _ _ => m == n
  | _ => false
def isCond (n : Nat) : Code → Bool
  | .cond (.tmp m) _ _ => m == n
  | _ => false
def isBlock (n : Nat) : Code → Bool
  | .block m _ => m == n
  | _ => false
theorem wp_lift {c : Code} {K : Act → World → Prop} {Q : Exit → Act → World → Prop} {a : Act} {w : World} (h : c.wp Tryz.prog (Exit.then K (fun _ _ _ => False)) a w) : c.wp Tryz.prog (Exit.then K Q) a w := Code.wp_mono (fun e a w h => by cases e <;> first | exact h | exact h.elim) h
structure SN (gs j q8 : Nat) (XI NI : Int) (W : World) : Prop where
  x : W.cell? ⟨gs, j, none⟩ = some (.int .u64 XI)
  n : W.cell? ⟨q8, 0, none⟩ = some (.int .u64 NI)
theorem at_last {c : Cx} {k : Int} {s s' : Am} (h : AT c k s s') : s.last ≤ s'.last := by
  cases h using AT.elim with
  | same => exact Nat.le_refl _
  | upd => exact Nat.le_refl _
  | del => exact Nat.le_refl _
  | new => exact Nat.le_succ _
end Go.Proofs.YtekbppfocnbhbaaGreat.XC

namespace Go.Proofs.YtekbppfocnbhbaaGreat.XC
open Go.RowKit
set_option maxHeartbeats 8000000 in
set_option maxRecDepth 100000 in
theorem mw_meas {w V : World} {c : Cx} {rb pb k q6 q11 q13 g11 cap11 cn : Nat} {pn : Option Addr} {sn : Am} {mn : List Nat} {r0 r : Rm} {v6 : Value} {K : Act → World → Prop} {t0 t1 t2 t4 t5 t6 t7 t8 t9 t10 t12 t15 t16 t17 t18 t19 t20 t21 t22 t23 t24 t25 t26 t27 t28 t29 t30 t31 t32 t33 t34 t35 t36 t37 t38 t39 t40 t41 t42 t43 t44 t45 t46 t47 t48 t49 t50 t51 t52 t53 t54 t55 t56 t57 t58 t59 t60 t61 t62 t63 t64 t65 t66 t67 t68 t69 t70 t71 t72 t73 t74 t75 t76 t77 t78 t79 t80 t81 t82 t83 t84 t85 t86 t87 t88 t89 t90 t91 t92 t93 t94 t95 t96 t97 t98 t99 t100 t101 t102 t103 t104 t105 t106 t107 t108 t109 t110 t111 t112 t113 t114 t115 t116 t117 t118 t119 t120 t121 t122 t123 t124 t125 t126 t127 t128 t129 t130 t131 t132 t133 t134 t135 t136 t137 t138 t139 t140 t141 t142 t143 t144 t145 t146 t147 t148 t149 t150 t151 t152 t153 t154 t155 t156 t157 t158 t159 t160 t161 t162 t163 t164 t165 t166 t167 t168 t169 t170 t171 t172 t173 t174 t175 t176 t177 : Value}
    (hk : k ≤ 60) (hbd : Bd (k + 1) sn) (HRO : Hid r.ok) (hch : ch sn.L PC.Z32 r.log = some r.meas) (hrg : ∀ y ∈ r.log, RecG y) (hlen : r.log.length ≤ 1000)
    (HNE : Hid (pb ≠ q13 ∧ (Value.slice pn mn.length cn).ownBlock ≠ some q13 ∧ q6 ≠ q13 ∧ q11 ≠ q13 ∧ g11 ≠ q13))
    (HT8 : Hid (ST w c rb sn (fun k => ((fun k => (k = pb ∨ (Value.slice pn mn.length cn).ownBlock = some k) ∨ k = q6) k ∨ (k = q11 ∨ (Value.slice (some ⟨g11, 0, none⟩) r.log.length cap11).ownBlock = some k)) ∨ k = q13) pb (.slice pn mn.length cn) mn V)) (HR6V : Hid (V.heap[q6]? = some (.cells (rmL r0 v6).toArray 47 (0, 0)))) (HR11 : Hid (V.heap[q11]? = some (.cells (rmL r (Value.slice (some ⟨g11, 0, none⟩) r.log.length cap11)).toArray 47 (0, 0)))) (HHV : Hid (HR V (Value.slice (some ⟨g11, 0, none⟩) r.log.length cap11) r.log))
    (HR13 : Hid (V.heap[q13]? = some (.cells (PC.Z32.map B8).toArray 33 (0, 0))))
    (hK : ∀ {u14 u20 u21 u22 u23 u24 u25 u26 u27 u28 u29 u30 u31 u32 u33 u34 u35 u36 u37 u38 u39 u40 u41 u42 u43 u44 u45 u46 u47 u48 u49 u50 u51 u52 u53 u54 u55 u56 u57 u58 u59 u60 u61 u62 u63 u64 u65 u66 u67 u68 u69 u70 u71 u72 u73 u74 u75 u76 u77 u78 u79 u80 u81 u82 u83 u84 u85 u86 u87 u88 u89 u90 u91 u92 u93 u94 u95 u96 u97 u98 u99 u100 u101 u102 u103 u104 u105 u106 u107 u108 u109 u110 u111 u112 u113 u114 u115 u116 u117 u118 u119 u120 u121 u122 u123 u124 u125 u126 u127 u128 u129 u130 u131 u132 u133 u134 u135 u136 u137 u138 u139 u140 u141 u142 u143 u144 u145 u146 u147 u148 u149 u150 u151 u152 u153 u154 u155 u156 u157 u158 u159 u160 u161 u162 u163 u164 u165 u166 u167 u168 u169 u170 u171 u172 u173 u174 u175 u176 : Value} (X : World), ST w c rb sn (fun k => ((fun k => (k = pb ∨ (Value.slice pn mn.length cn).ownBlock = some k) ∨ k = q6) k ∨ (k = q11 ∨ (Value.slice (some ⟨g11, 0, none⟩) r.log.length cap11).ownBlock = some k)) ∨ k = q13) pb (.slice pn mn.length cn) mn X → X.heap[q6]? = some (.cells (rmL r0 v6).toArray 47 (0, 0)) → X.heap[q11]? = some (.cells (rmL r (Value.slice (some ⟨g11, 0, none⟩) r.log.length cap11)).toArray 47 (0, 0)) → HR X (Value.slice (some ⟨g11, 0, none⟩) r.log.length cap11) r.log → X.heap[q13]? = some (.cells (r.meas.map B8).toArray 33 (0, 0)) → r.meas.length = 32 → K ⟨List.toArray (t0 :: t1 :: t2 :: (.pointer (some ⟨pb, 0, none⟩)) :: t4 :: t5 :: t6 :: t7 :: t8 :: t9 :: t10 :: (.pointer (some ⟨q11, 0, none⟩)) :: t12 :: (.pointer (some ⟨q13, 0, none⟩)) :: u14 :: t15 :: t16 :: t17 :: t18 :: t19 :: u20 :: u21 :: u22 :: u23 :: u24 :: u25 :: u26 :: u27 :: u28 :: u29 :: u30 :: u31 :: u32 :: u33 :: u34 :: u35 :: u36 :: u37 :: u38 :: u39 :: u40 :: u41 :: u42 :: u43 :: u44 :: u45 :: u46 :: u47 :: u48 :: u49 :: u50 :: u51 :: u52 :: u53 :: u54 :: u55 :: u56 :: u57 :: u58 :: u59 :: u60 :: u61 :: u62 :: u63 :: u64 :: u65 :: u66 :: u67 :: u68 :: u69 :: u70 :: u71 :: u72 :: u73 :: u74 :: u75 :: u76 :: u77 :: u78 :: u79 :: u80 :: u81 :: u82 :: u83 :: u84 :: u85 :: u86 :: u87 :: u88 :: u89 :: u90 :: u91 :: u92 :: u93 :: u94 :: u95 :: u96 :: u97 :: u98 :: u99 :: u100 :: u101 :: u102 :: u103 :: u104 :: u105 :: u106 :: u107 :: u108 :: u109 :: u110 :: u111 :: u112 :: u113 :: u114 :: u115 :: u116 :: u117 :: u118 :: u119 :: u120 :: u121 :: u122 :: u123 :: u124 :: u125 :: u126 :: u127 :: u128 :: u129 :: u130 :: u131 :: u132 :: u133 :: u134 :: u135 :: u136 :: u137 :: u138 :: u139 :: u140 :: u141 :: u142 :: u143 :: u144 :: u145 :: u146 :: u147 :: u148 :: u149 :: u150 :: u151 :: u152 :: u153 :: u154 :: u155 :: u156 :: u157 :: u158 :: u159 :: u160 :: u161 :: u162 :: u163 :: u164 :: u165 :: u166 :: u167 :: u168 :: u169 :: u170 :: u171 :: u172 :: u173 :: u174 :: u175 :: u176 :: t177 :: []), []⟩ X) :
    Code.wp Tryz.prog ((Tryz.f4.body.bind (cFind (isBlock 4))).getD .skip) (Exit.then K (fun _ _ _ => False)) ⟨List.toArray (t0 :: t1 :: t2 :: (.pointer (some ⟨pb, 0, none⟩)) :: t4 :: t5 :: t6 :: t7 :: t8 :: t9 :: t10 :: (.pointer (some ⟨q11, 0, none⟩)) :: t12 :: (.pointer (some ⟨q13, 0, none⟩)) :: (.int .i64 0) :: t15 :: t16 :: t17 :: t18 :: t19 :: t20 :: t21 :: t22 :: t23 :: t24 :: t25 :: t26 :: t27 :: t28 :: t29 :: t30 :: t31 :: t32 :: t33 :: t34 :: t35 :: t36 :: t37 :: t38 :: t39 :: t40 :: t41 :: t42 :: t43 :: t44 :: t45 :: t46 :: t47 :: t48 :: t49 :: t50 :: t51 :: t52 :: t53 :: t54 :: t55 :: t56 :: t57 :: t58 :: t59 :: t60 :: t61 :: t62 :: t63 :: t64 :: t65 :: t66 :: t67 :: t68 :: t69 :: t70 :: t71 :: t72 :: t73 :: t74 :: t75 :: t76 :: t77 :: t78 :: t79 :: t80 :: t81 :: t82 :: t83 :: t84 :: t85 :: t86 :: t87 :: t88 :: t89 :: t90 :: t91 :: t92 :: t93 :: t94 :: t95 :: t96 :: t97 :: t98 :: t99 :: t100 :: t101 :: t102 :: t103 :: t104 :: t105 :: t106 :: t107 :: t108 :: t109 :: t110 :: t111 :: t112 :: t113 :: t114 :: t115 :: t116 :: t117 :: t118 :: t119 :: t120 :: t121 :: t122 :: t123 :: t124 :: t125 :: t126 :: t127 :: t128 :: t129 :: t130 :: t131 :: t132 :: t133 :: t134 :: t135 :: t136 :: t137 :: t138 :: t139 :: t140 :: t141 :: t142 :: t143 :: t144 :: t145 :: t146 :: t147 :: t148 :: t149 :: t150 :: t151 :: t152 :: t153 :: t154 :: t155 :: t156 :: t157 :: t158 :: t159 :: t160 :: t161 :: t162 :: t163 :: t164 :: t165 :: t166 :: t167 :: t168 :: t169 :: t170 :: t171 :: t172 :: t173 :: t174 :: t175 :: t176 :: t177 :: []), []⟩ V := by
  have HK : Hid _ := @hK
  clear hK
  have HBN : Hid (Bd (k + 1) sn ∧ True) := ⟨hbd, trivial⟩
  clear hbd
  conv => arg 2; whnf
  go_cut [14] from 20 to 176 (fun i X => ST w c rb sn (fun k => ((fun k => (k = pb ∨ (Value.slice pn mn.length cn).ownBlock = some k) ∨ k = q6) k ∨ (k = q11 ∨ (Value.slice (some ⟨g11, 0, none⟩) r.log.length cap11).ownBlock = some k)) ∨ k = q13) pb (.slice pn mn.length cn) mn X ∧ X.heap[q6]? = some (.cells (rmL r0 v6).toArray 47 (0, 0)) ∧ X.heap[q11]? = some (.cells (rmL r (Value.slice (some ⟨g11, 0, none⟩) r.log.length cap11)).toArray 47 (0, 0)) ∧ HR X (Value.slice (some ⟨g11, 0, none⟩) r.log.length cap11) r.log ∧ X.heap[q13]? = some (.cells (r.meas.map B8).toArray 33 (0, 0)) ∧ r.meas.length = 32)
  case rest =>
    obtain ⟨h1, h2, h3, h4, h5, h6⟩ := hcut
    exact HK.out wc h1 h2 h3 h4 h5 h6
  case first =>
    clear HK
    go_wp2
    go_loopw [14] (fun i X => ∃ (j : Nat) (m : List UInt8), j ≤ r.log.length ∧ i = .int .i64 j ∧ ST w c rb sn (fun k => ((fun k => (k = pb ∨ (Value.slice pn mn.length cn).ownBlock = some k) ∨ k = q6) k ∨ (k = q11 ∨ (Value.slice (some ⟨g11, 0, none⟩) r.log.length cap11).ownBlock = some k)) ∨ k = q13) pb (.slice pn mn.length cn) mn X ∧ X.heap[q6]? = some (.cells (rmL r0 v6).toArray 47 (0, 0)) ∧ X.heap[q11]? = some (.cells (rmL r (.slice (some ⟨g11, 0, none⟩) r.log.length cap11)).toArray 47 (0, 0)) ∧ HR X (.slice (some ⟨g11, 0, none⟩) r.log.length cap11) r.log ∧ X.heap[q13]? = some (.cells (m.map B8).toArray 33 (0, 0)) ∧ m.length = 32 ∧ ch sn.L PC.Z32 (r.log.take j) = some m) (fun i _ => r.log.length - (intOf i).toNat)
    case atStart => exact ⟨0, _, Nat.zero_le _, rfl, HT8.out, HR6V.out, HR11.out, HHV.out, HR13.out, PC.z32_len, by rw [List.take_zero]; rfl⟩
    case round =>
      clear HT8 HR6V HR11 HHV HR13
      obtain ⟨j, m, hj, rfl, hT9, hr6, hr11, hh, hr13, hm, hcm⟩ := hrel
      generalize wr = W9 at *
      have hc36 : W9.cell? ⟨q11, 36, none⟩ = some (.slice (some ⟨g11, 0, none⟩) r.log.length cap11) := by rw [cell_of_row _ _ 36 _ _ _ hr11, List.getElem?_toArray, rmL_36 HRO.out]
      by_cases hjl : j < r.log.length
      · have hjI : (j : Int) < (r.log.length : Int) := by omega
        obtain ⟨rec, hrec⟩ : ∃ rec, r.log[j]? = some rec := ⟨_, List.getElem?_eq_getElem hjl⟩
        obtain ⟨D, hD, hcD⟩ := ch_next hch hcm hrec
        have hTD : ST w c rb sn (fun k => ((fun k => (k = pb ∨ (Value.slice pn mn.length cn).ownBlock = some k) ∨ k = q6) k ∨ (k = q11 ∨ (Value.slice (some ⟨g11, 0, none⟩) r.log.length cap11).ownBlock = some k)) ∨ k = q13) pb (.slice pn mn.length cn) mn W9.drew := hT9.step (Below.refl _ _).drew
        have hme := hTD.ja.meas HBN.out.1 (by omega) m hm rec (hrg rec (List.mem_of_getElem? hrec)) D hD
        have HD32 : Hid (D.length = 32) := hTD.ja.flen hD
        have hrok : rec.ok := HRO.out.l rec (List.mem_of_getElem? hrec)
        have HSMM : Hid (∀ X : World, X.heap[pb]? = some (.cells (prL c rb).toArray 29 (0, 0)) → X.heap[q11]? = some (.cells (rmL r (.slice (some ⟨g11, 0, none⟩) r.log.length cap11)).toArray 47 (0, 0)) → HR X (.slice (some ⟨g11, 0, none⟩) r.log.length cap11) r.log → SMq rb pb q11 g11 (j * 172) r.log.length cap11 (rdL rec) X) := fun X h1 h2 h3 => sm_mk h1 h2 HRO.out rfl h3 hrec
        obtain ⟨RL, hRL⟩ : ∃ RL, RL = rdL rec := ⟨_, rfl⟩
        have HRI : Hid _ := info172 (rdL rec) (rdL_len hrok)
        obtain ⟨ML, hML⟩ : ∃ ML, ML = m.map B8 := ⟨_, rfl⟩
        have HMN : Hid (ML.toArray.size = 32) := by show _ = _; rw [hML]; simpa using hm
        have HMI : Hid ((Tryz.prog.info? 33).map (·.size) = some ML.length) := by show _ = _; rw [hML, List.length_map, hm]; kernel_rfl
        obtain ⟨DL, hDL⟩ : ∃ DL, DL = D.map B8 := ⟨_, rfl⟩
        have HDLN : Hid (DL.toArray.size = 32) := by show _ = _; rw [hDL]; simpa using HD32.out
        have HDLI : Hid ((Tryz.prog.info? 33).map (·.size) = some DL.toArray.size) := by show _ = _; rw [HDLN.out]; kernel_rfl
        have HDL1 : Hid (DL.toArray.all (·.oneCell') = true) := by show _ = _; rw [hDL]; exact PC.onea (PC.B8_one _)
        rw [← hRL] at HRI HSMM hme
        rw [← hML] at hr13 hme
        rw [← hDL] at hme
        have HDLE : Hid (DL = D.map B8) := hDL
        have HME : Hid _ := hme
        have HTD : Hid _ := hTD
        have H6 : Hid (W9.drew.heap[q6]? = some (.cells (rmL r0 v6).toArray 47 (0, 0))) := hr6
        have H11 : Hid (W9.drew.heap[q11]? = some (.cells (rmL r (.slice (some ⟨g11, 0, none⟩) r.log.length cap11)).toArray 47 (0, 0))) := hr11
        have HH : Hid (HR W9.drew (.slice (some ⟨g11, 0, none⟩) r.log.length cap11) r.log) := hh.below (Below.refl _ _).drew
        have H13 : Hid (W9.drew.heap[q13]? = some (.cells ML.toArray 33 (0, 0))) := hr13
        have HCD : Hid _ := hcD
        clear hme hTD hT9 hr6 hr11 hh hr13 hRL hML hDL hcm hD hrok hcD hrec hm
        go_upto_region 26 with fail
        clear hc36
        refine wp_region_held_drew (S := SMq rb pb q11 g11 (j * 172) r.log.length cap11 RL) (by kernel_rfl) (HSMM.out _ HTD.out.pr H11.out HH.out) (fun hHeld => ?_)
        generalize W9.drew = WA at *
        refine wpAnyH_take (i := 0) (oi := ⟨some 139, .fieldAddr 29 (.tmp 3) 2, 0, _, #[], none⟩) (v := .pointer (some ⟨pb, 2, none⟩)) rfl (by kernel_rfl) (by kernel_rfl) (by kernel_rfl) (fun _ _ _ h => h) (Or.inl ⟨by rfl, fun w' hw' => ?_⟩) hHeld ?_
        · first | (go_simp; done) | (go_simp; rfl)
        try simp only [Act.put, qT, q0, qS]
        refine wpAnyH_take (i := 1) (oi := ⟨some 140, .load 27 (.tmp 139), 27, _, #[⟨0, .data⟩], none⟩) (v := .pointer (some ⟨rb, 0, none⟩)) rfl (by kernel_rfl) (by kernel_rfl) (by kernel_rfl) (fun _ _ _ h => h) (Or.inl ⟨by rfl, fun w' hw' => ?_⟩) hHeld ?_
        · have hcc := hw'.c2; first | (go_simp; done) | (go_simp; rfl)
        try simp only [Act.put, qT, q0, qS]
        refine wpAnyH_take (i := 3) (oi := ⟨some 142, .fieldAddr 47 (.tmp 11) 5, 0, _, #[], none⟩) (v := .pointer (some ⟨q11, 36, none⟩)) rfl (by kernel_rfl) (by kernel_rfl) (by kernel_rfl) (fun _ _ _ h => h) (Or.inl ⟨by rfl, fun w' hw' => ?_⟩) hHeld ?_
        · first | (go_simp; done) | (go_simp; rfl)
        try simp only [Act.put, qT, q0, qS]
        refine wpAnyH_take (i := 4) (oi := ⟨some 143, .load 45 (.tmp 142), 45, _, #[⟨3, .data⟩], none⟩) (v := .slice (some ⟨g11, 0, none⟩) r.log.length cap11) rfl (by kernel_rfl) (by kernel_rfl) (by kernel_rfl) (fun _ _ _ h => h) (Or.inl ⟨by rfl, fun w' hw' => ?_⟩) hHeld ?_
        · have hcc := hw'.c36; first | (go_simp; done) | (go_simp; rfl)
        try simp only [Act.put, qT, q0, qS]
        refine wpAnyH_take (i := 5) (oi := ⟨some 144, .move (.tmp 14), 3, _, #[], none⟩) (v := .int .i64 j) rfl (by kernel_rfl) (by kernel_rfl) (by kernel_rfl) (fun _ _ _ h => h) (Or.inl ⟨by rfl, fun w' hw' => ?_⟩) hHeld ?_
        · first | (go_simp; done) | (go_simp; rfl)
        try simp only [Act.put, qT, q0, qS]
        refine wpAnyH_take (i := 6) (oi := ⟨some 145, .indexAddr 45 (.tmp 143) (.tmp 144), 0, _, #[⟨4, .data⟩, ⟨5, .data⟩], none⟩) (v := .pointer (some ⟨g11, j * 172, none⟩)) rfl (by kernel_rfl) (by kernel_rfl) (by kernel_rfl) (fun _ _ _ h => h) (Or.inl ⟨by rfl, fun w' hw' => ?_⟩) hHeld ?_
        · first | (go_simp; done) | (go_simp; rfl) | (go_simp; intro hbad; omega)
        try simp only [Act.put, qT, q0, qS]
        refine wpAnyH_take (i := 7) (oi := ⟨some 146, .load 69 (.tmp 145), 69, _, #[⟨6, .data⟩], none⟩) rfl (by kernel_rfl) (by kernel_rfl) (by kernel_rfl) (fun _ _ _ h => h) (yieldsIf_load_mid (by rfl) 69 (.tmp 145) rfl (g11) (j * 172) rfl (RL) _ (fun _ h => h.ra) Tryz.underlying69 rfl HRI.out) hHeld ?_
        try simp only [Act.put, qT, q0, qS]
        refine wpAnyH_ready (rs := [2]) (by kernel_rfl) (by simp) ?_
        refine AllReadyH.cons (o := ⟨some 141, .load 33 (.tmp 13), 33, _, #[], none⟩) rfl (fun K hK => ?_) AllReadyH.nil
        rw [if_pos (by rfl)]
        refine wp_load_mid 33 (.tmp 13) rfl q13 0 rfl ML _ (PC.rangeAt_row H13.out) Tryz.underlying33 rfl HMI.out ?_
        refine hK.out _ _ hHeld (fun _ => ?_)
        clear hK K
        try simp only [Act.put, qT, q0, qS]
        refine wpAnyH_ready (rs := [8]) (by kernel_rfl) (by simp) ?_
        refine AllReadyH.cons (o := { dst := some 147, op := .call { callee := Go.Callee.value (.func 18), args := #[.tmp 140, .tmp 141, .tmp 146], argTypes := #[27, 33, 69] }, type := 33, pos := _, after := #[⟨1, .data⟩, ⟨2, .data⟩, ⟨7, .data⟩], guard := none }) rfl (fun K hK => ?_) AllReadyH.nil
        rw [if_pos (by rfl)]
        go_wp2_with fail
        refine Calls.mono HME.out ?_
        rintro e WB ⟨rfl, hJA, hfr⟩
        have hT := HTD.out.call hJA hfr
        have h6 := (hfr q6 (.inl (.inl (.inr rfl)))).trans H6.out
        have h11 := (hfr q11 (.inl (.inr (.inl rfl)))).trans H11.out
        have h13 := (hfr q13 (.inr rfl)).trans H13.out
        have hh : HR WB (.slice (some ⟨g11, 0, none⟩) r.log.length cap11) r.log := HH.out.keep (fun k e _ => hfr k (.inl (.inr (.inr e))))
        clear hHeld hJA hfr
        have hHeld := HSMM.out WB hT.pr h11 hh
        refine hK.out _ _ hHeld (fun _ => ?_)
        clear hK K
        try simp only [Act.put, qT, q0, qS]
        refine wpAnyH_ready (rs := [9]) (by kernel_rfl) (by simp) ?_
        refine AllReadyH.cons (o := ⟨none, .store 33 (.tmp 13) (.tmp 147), 0, _, #[⟨8, .data⟩, ⟨8, .chain⟩, ⟨0, .phase⟩, ⟨1, .phase⟩, ⟨2, .phase⟩, ⟨3, .phase⟩, ⟨4, .phase⟩, ⟨5, .phase⟩, ⟨6, .phase⟩, ⟨7, .phase⟩, ⟨8, .phase⟩], none⟩) rfl (fun K hK => ?_) AllReadyH.nil
        rw [if_pos (by rfl)]
        refine wp_store_row 33 _ _ rfl q13 DL.toArray rfl rfl 33 ML.toArray h13 HDLI.out (HMN.out.trans HDLN.out.symm) HDL1.out ?_
        have HEND : Hid _ := meas_store DL.toArray hT (.inr rfl) HNE.out.1 HNE.out.2.1 HNE.out.2.2.1 HNE.out.2.2.2.1 HNE.out.2.2.2.2 h6 h11 h13 hh
        clear hHeld hT h6 h11 h13 hh
        have hHeld := HSMM.out _ HEND.out.1.pr HEND.out.2.2.1 HEND.out.2.2.2.1
        generalize WB.setRow q13 DL.toArray = WC at *
        refine hK.out _ _ hHeld (fun _ => ?_)
        clear hK K
        try simp only [Act.put, qT, q0, qS]
        refine wpAnyH_done (by kernel_rfl) ?_ _
        clear hHeld HTD H6 H11 HH H13 HME HSMM
        go_wp2
        go_roundw
        case rel => exact ⟨j + 1, D, by omega, by go_num, HEND.out.1, HEND.out.2.1, HEND.out.2.2.1, HEND.out.2.2.2.1, by rw [← HDLE.out]; exact HEND.out.2.2.2.2, HD32.out, HCD.out⟩
        case measure => simp [intOf]; omega
      · have hje : j = r.log.length := by omega
        subst hje
        rw [List.take_length, hch] at hcm
        have hmm : r.meas = m := Option.some.inj hcm
        subst hmm
        have HEND : Hid _ := And.intro hT9 (And.intro hr6 (And.intro hr11 (And.intro hh (And.intro hr13 hm))))
        clear hT9 hr6 hr11 hh hr13 hm hcm
        go_wp2_with fail
        go_meet
        case rel => exact HEND.out
end Go.Proofs.YtekbppfocnbhbaaGreat.XC
