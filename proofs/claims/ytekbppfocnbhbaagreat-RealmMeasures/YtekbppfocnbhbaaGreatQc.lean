/- RealmMeasures: the statement. -/
import Derived.Test.YtekbppfocnbhbaaGreatRv
import Derived.Test.YtekbppfocnbhbaaGreatRw
import Derived.Test.YtekbppfocnbhbaaGreatRz
import Derived.Test.YtekbppfocnbhbaaGreatQa
import Derived.Deep.CutBlock
import Derived.Test.YtekbppfocnbhbaaGreatRows
import Derived.ChangeOld
import Derived.ProofKit
import Derived.OpenShut
set_option linter.unusedVariables false
set_option linter.unusedSimpArgs false
namespace Go.Proofs.YtekbppfocnbhbaaGreat.XC
open Go.RowKit
theorem eq_dgm (w : World) (xs : List UInt8) (hx : xs.length = 32) : (Op.equalIn 10000 33 (.agg (xs.map B8).toArray) (.agg (xs.map B8).toArray)).run Tryz.prog w = .ok true w := by
  have hsz : ∀ w : World, (sizeOf 5).run Tryz.prog w = .ok 1 w := fun w => by kernel_rfl
  have := run_equalIn_bytes (P := Tryz.prog) w 9998 33 5 32 Tryz.underlying33 Tryz.underlying5 hsz xs xs hx hx
  rw [show (xs == xs) = true by simp] at this
  exact this
set_option maxHeartbeats 8000000 in
set_option maxRecDepth 100000 in
theorem measures_walk (v : Value) (ls : List Ac) (w : World) (hl : ls.length ≤ 60) (hA : HAc w v ls) :
    Calls Tryz.prog 4 #[v] w fun e w' => e = .returned (.bool true) ∧ Below w.heap.size w w' := by
  obtain ⟨p, cap, rfl, hls⟩ := hA
  have HLS : Hid _ := hls
  have HBG : Hid (Calls Tryz.prog 9 #[.slice none 0 0] w fun e Y => BgEnd w [] e Y) := begin_any none 0 0 [] w (fun _ => rfl) (by simp) ⟨fun d hd => (List.not_mem_nil hd).elim, none, 0, rfl, fun i hi => by simp at hi⟩
  have hz := fun W => zero_rm W
  obtain ⟨ZL, hZL⟩ : ∃ L, L = rmL zR (.slice none 0 0) := ⟨_, rfl⟩
  rw [← hZL] at hz
  have HZS : Hid (ZL.toArray.size = 103) := by show _ = _; rw [hZL]; simpa using rmL_len zR_ok _
  have hlI : ¬ ((60 : Int) < (ls.length : Int)) := by omega
  have hzp : ∀ W, (zeroValue 29).run Tryz.prog W = .ok (.agg #[.pointer none, .pointer none, .pointer none]) W := fun W => by kernel_rfl
  clear hZL hls
  go_enter Tryz.func4, Tryz.ntmps4
  go_wp2_with fail
  refine Calls.mono HBG.out ?_
  rintro e X0 ⟨c, rb, tn, I0, rfl, hcw, hcm, hcD, hJR⟩
  obtain ⟨X2, hX2⟩ : ∃ X2, X2 = X0.alloc (.cells #[.pointer (some ⟨c.og, 0, none⟩), .pointer (some ⟨c.xb, 0, none⟩), .pointer (some ⟨rb, 0, none⟩)] 29 (0, 0)) := ⟨_, rfl⟩
  have HT0 : Hid (ST w c rb ⟨[], 0, []⟩ (fun k => k = X0.heap.size ∨ (Value.slice none 0 0).ownBlock = some k) X0.heap.size (.slice none 0 0) [] X2) := st_start hcw hJR rfl hX2
  have HX2 : Hid _ := hX2
  clear hcw hcm hcD hJR HBG hX2
  go_upto_region 5 with fail
  rw [← HX2.out]
  generalize X0.heap.size = pb at *
  clear HX2
  go_wp2
  go_loopw [4, 5] (fun sv i wr => ∃ (k : Nat) (s : Am) (ms : List Nat), k ≤ ls.length ∧ i = .int .i64 k ∧ ST w c rb s (fun k => k = pb ∨ sv.ownBlock = some k) pb sv ms wr ∧ Bd k s ∧ MI s ∧ ms.length ≤ k ∧ ∀ x ∈ ms, x ≤ s.last) (fun _ i _ => ls.length - (intOf i).toNat)
  case atStart => exact ⟨0, _, _, Nat.zero_le _, rfl, HT0.out, bd_start, mi_start, Nat.le_refl _, fun x hx => (List.not_mem_nil hx).elim⟩
  case round =>
    clear HT0
    obtain ⟨k, s, ms, hk, rfl, hST, hBd, hMI, hms, hmx⟩ := hrel
    generalize wr = W at *
    obtain ⟨ps, cs, hsv⟩ := hST.fu.form
    subst hsv
    have HT : Hid (ST w c rb s (fun k => k = pb ∨ (Value.slice ps ms.length cs).ownBlock = some k) pb (.slice ps ms.length cs) ms W) := hST
    have HBD : Hid (Bd k s) := hBd
    have HMI : Hid (MI s) := hMI
    have HMX : Hid (∀ x ∈ ms, x ≤ s.last) := hmx
    have HML : Hid (ms.length ≤ k) := hms
    by_cases hlt : k < ls.length
    · have hkI : (k : Int) < (ls.length : Int) := by omega
      obtain ⟨ac, hac⟩ : ∃ ac, ls[k]? = some ac := ⟨_, List.getElem?_eq_getElem hlt⟩
      obtain ⟨hok, g, o, rfl, hra⟩ := HLS.out k ac hac
      have HRA : Hid (w.rangeAt g (o + k * 207) (acL ac)) := hra
      have HOK : Hid ac.ok := hok
      obtain ⟨rd, hrd⟩ : ∃ rd, rd = ac.rd := ⟨_, rfl⟩
      have HRD : Hid (rd = ac.rd) := hrd
      obtain ⟨r, E, hro, hcase, hget⟩ := get_both hST.ja hBd (by omega) hok.rd
      rw [← hrd] at hcase hget
      have HON : Hid ((s.l.map (·.1)).Nodup) := hST.ja.once
      have HRO : Hid r.ok := hro
      have HCS : Hid _ := hcase
      have HGET : Hid _ := hget
      have HSQR : Hid (∀ (X : World) (C : Nat → Prop) (s : Am) (sv : Value) (ms : List Nat), ST w c rb s C pb sv ms X → SQ c rb pb g (o + k * 207) rd X) := fun X C s sv ms h => by rw [hrd]; exact h.sq hra
      have HSQM : Hid (∀ X : World, X.heap[pb]? = some (.cells (prL c rb).toArray 29 (0, 0)) → Below w.heap.size w X → SQ c rb pb g (o + k * 207) rd X) := fun X h1 h2 => by rw [hrd]; exact sq_mk h1 h2 hra
      clear hro hcase hget hrd hra hST hBd hMI hms hmx hok
      go_upto_region 8 with fail
      have HT1 : Hid (ST w c rb s (fun k => k = pb ∨ (Value.slice ps ms.length cs).ownBlock = some k) pb (.slice ps ms.length cs) ms W.drew) := HT.out.step (Below.refl _ _).drew
      clear HT
      refine wp_lift (mw_get8 hlt HSQR HGET HRO HT1 ?_)
      intro x20 x21 x22 x23 x24 x25 x26 x27 x28 x29 x30 x31 x32 x33 x34 x35 x36 x37 x38 x39 x40 x41 x42 x43 x44 x45 x46 x47 x48 x49 x50 x51 x52 x53 x54 x55 x56 x57 x58 x59 x60 x61 x62 x63 x64 x65 x66 x67 x68 x69 x70 x71 x72 x73 x74 x75 x76 x77 x78 x79 x80 x81 x82 x83 x84 x85 x86 x87 x88 x89 x90 x91 x92 x93 x94 x95 x96 x97 x98 x99 x100 x101 x102 x103 x104 x105 x106 x107 x108 x109 x110 x111 x112 x113 x114 x115 x116 x117 x118 x119 x120 x121 x122 x123 x124 x125 x126 x127 x128 x129 x130 x131 x132 x133 x134 x135 x136 x137 x138 x139 x140 x141 x142 x143 x144 x145 x146 x147 x148 x149 x150 x151 x152 x153 x154 x155 x156 x157 x158 x159 x160 x161 x162 x163 x164 x165 x166 x167 x168 x169 x170 x171 x172 x173 x174 x175 x176 q6 v6 W5 hT5 hr5 _ _
      clear HT1 HGET
      have HT5 : Hid _ := hT5.sub (D := fun k => (k = pb ∨ (Value.slice ps ms.length cs).ownBlock = some k) ∨ k = q6) (fun k hk => hk.elim .inl (fun h => .inr (.inl h))) (.inl (.inl rfl)) (fun k e => .inl (.inr e))
      have HR5 : Hid (W5.heap[q6]? = some (.cells (rmL r v6).toArray 47 (0, 0))) := hr5
      have hk0 := ac_k0 HRA.out hT5.bel
      clear hT5 hr5
      go_upto_if 42 with fail
      obtain ⟨r0, hr0⟩ : ∃ r0, r0 = r := ⟨_, rfl⟩
      subst hr0
      obtain ⟨E0, hE0⟩ : ∃ E0, E0 = E := ⟨_, rfl⟩
      subst hE0
      have HROA : Hid r0.ok := HRO.out
      have HE0 : Hid (E0 = 6 ∨ E0 = 0) := HCS.out.imp id (fun h => h.1)
      refine wp_lift (mw_if42 rfl hlt hl HRA HOK HRD HBD HMI HMX HML HT5 HR5 ?_)
      intro y2 y8 y9 y10 y20 y21 y22 y23 y24 y25 y26 y27 y28 y29 y30 y31 y32 y33 y34 y35 y36 y37 y38 y39 y40 y41 y42 y43 y44 y45 y46 y47 y48 y49 y50 y51 y52 y53 y54 y55 y56 y57 y58 y59 y60 y61 y62 y63 y64 y65 y66 y67 y68 y69 y70 y71 y72 y73 y74 y75 y76 y77 y78 y79 y80 y81 y82 y83 y84 y85 y86 y87 y88 y89 y90 y91 y92 y93 y94 y95 y96 y97 y98 y99 y100 y101 y102 y103 y104 y105 y106 y107 y108 y109 y110 y111 y112 y113 y114 y115 y116 y117 sv' W6 sn mn hT6 hr6 hAT hbd hmi hml hmx
      obtain ⟨kk, hat⟩ := hAT
      clear HT5 HR5 hk0
      obtain ⟨pn, cn, hsv⟩ := hT6.fu.form
      subst hsv
      have hon0 : (s.l.map (·.1)).Nodup := HON.out
      obtain ⟨r, E, hro, hcase, hget⟩ := get_both hT6.ja hbd (by omega) (show iOk rd by rw [HRD.out]; exact HOK.out.rd)
      have HREL : Hid (E0 = 0 → E = 0 → r = r0 ∨ ∃ L L', UP c kk r0 r L L') := fun e0 e1 => by
        rcases HCS.out with h | ⟨_, h0⟩
        · rw [h] at e0; exact absurd e0 (by decide)
        · rcases hcase with h | ⟨_, h1⟩
          · rw [h] at e1; exact absurd e1 (by decide)
          · exact at_rel hat hon0 hT6.ja.once h0 h1
      have HLOG : Hid (E = 0 → ch sn.L PC.Z32 r.log = some r.meas ∧ (∀ y ∈ r.log, RecG y) ∧ r.log ≠ [] ∧ r.log.length ≤ 1000) := fun e1 => by
        rcases hcase with h | ⟨_, h1⟩
        · rw [h] at e1; exact absurd e1 (by decide)
        · have h2 := hbd.r _ h1
          exact ⟨hmi.mc _ h1, hmi.rg _ h1, h2.2.1, by have h3 : r.log.length ≤ k + 1 + 1 := h2.1; omega⟩
      have HRO0 : Hid r0.ok := HROA.out
      have HEE : Hid (E = 6 ∨ E = 0) := hcase.imp id (fun h => h.1)
      have HRO : Hid r.ok := hro
      have HGET : Hid _ := hget
      have HT : Hid (ST w c rb sn (fun k => (k = pb ∨ (Value.slice pn mn.length cn).ownBlock = some k) ∨ k = q6) pb (.slice pn mn.length cn) mn W6) := hT6
      have HR6 : Hid (W6.heap[q6]? = some (.cells (rmL r0 v6).toArray 47 (0, 0))) := hr6
      have HBN : Hid (Bd (k + 1) sn ∧ MI sn ∧ mn.length ≤ k + 1 ∧ ∀ x ∈ mn, x ≤ sn.last) := ⟨hbd, hmi, hml, hmx⟩
      clear hro hcase hget hT6 hr6 hat hbd hmi hml hmx hon0 HCS HON HBD HMI HML HMX
      go_upto_region 20 with fail
      have HT1 : Hid (ST w c rb sn (fun k => (k = pb ∨ (Value.slice pn mn.length cn).ownBlock = some k) ∨ k = q6) pb (.slice pn mn.length cn) mn W6.drew) := HT.out.step (Below.refl _ _).drew
      have HR1 : Hid (W6.drew.heap[q6]? = some (.cells (rmL r0 v6).toArray 47 (0, 0))) := HR6.out
      clear HT HR6
      refine wp_lift (mw_get20 hlt HSQR HGET HRO HT1 ?_)
      intro z20 z21 z22 z23 z24 z25 z26 z27 z28 z29 z30 z31 z32 z33 z34 z35 z36 z37 z38 z39 z40 z41 z42 z43 z44 z45 z46 z47 z48 z49 z50 z51 z52 z53 z54 z55 z56 z57 z58 z59 z60 z61 z62 z63 z64 z65 z66 z67 z68 z69 z70 z71 z72 z73 z74 z75 z76 z77 z78 z79 z80 z81 z82 z83 z84 z85 z86 z87 z88 z89 z90 z91 z92 z93 z94 z95 z96 z97 z98 z99 z100 z101 z102 z103 z104 z105 z106 z107 z108 z109 z110 z111 z112 z113 z114 z115 z116 z117 z118 z119 z120 z121 z122 z123 z124 z125 z126 z127 z128 z129 z130 z131 z132 z133 z134 z135 z136 z137 z138 z139 z140 z141 z142 z143 z144 z145 z146 z147 z148 z149 z150 z151 z152 z153 z154 z155 z156 z157 z158 z159 z160 z161 z162 z163 z164 z165 z166 z167 z168 z169 z170 z171 z172 z173 z174 z175 z176 q11 v11 W7 hT7 hr7 hh7 hfr7
      have hr6 : W7.heap[q6]? = some (.cells (rmL r0 v6).toArray 47 (0, 0)) := (hfr7 q6 (PC.row_lt HR1.out)).trans HR1.out
      have HT7 : Hid _ := hT7
      have HR7 : Hid _ := hr7
      have HH7 : Hid _ := hh7
      have HR6 : Hid _ := hr6
      have hC0 : ∀ k', (k' = pb ∨ (Value.slice pn mn.length cn).ownBlock = some k') → ((fun k => (k = pb ∨ (Value.slice pn mn.length cn).ownBlock = some k) ∨ k = q6) k' ∨ (k' = q11 ∨ v11.ownBlock = some k')) := fun _ h => .inl (.inl h)
      have HROUND : Hid (∀ X C, ST w c rb sn C pb (.slice pn mn.length cn) mn X → (∀ k', (k' = pb ∨ (Value.slice pn mn.length cn).ownBlock = some k') → C k') → ST w c rb sn (fun k' => k' = pb ∨ (Value.slice pn mn.length cn).ownBlock = some k') pb (.slice pn mn.length cn) mn X) := fun X C h hC => h.sub hC (.inl rfl) (fun k e => .inr e)
      clear hT7 hr7 hh7 hfr7 hr6 HT1 HR1 HGET HSQR HSQM
      rcases HEE.out with rfl | rfl
      · clear HEE
        go_wp2
        go_roundw
        case rel => exact ⟨k + 1, sn, mn, by omega, by go_num, HROUND.out _ _ HT7.out hC0, HBN.out.1, HBN.out.2.1, HBN.out.2.2.1, HBN.out.2.2.2⟩
        case measure => simp [intOf]; omega
      · clear HEE
        obtain ⟨hch, hrg, hlne, hlen⟩ := HLOG.out rfl
        rcases HH7.out with ⟨-, e⟩ | ⟨g11, cap11, rfl, -⟩
        · exact absurd e hlne
        have HLI : Hid (¬ ((r.log.length : Int) = 0)) := fun e => hlne (List.eq_nil_of_length_eq_zero (by omega))
        obtain ⟨ZD, hZD⟩ : ∃ ZD, ZD = PC.Z32.map B8 := ⟨_, rfl⟩
        have hzv : ∀ W, (zeroValue 33).run Tryz.prog W = .ok (.agg ZD.toArray) W := fun W => by rw [hZD]; exact R5.zero_dig W
        have HBD2 : Hid (∀ W, (Instr.build 33 #[]).run Tryz.prog W = .ok (.agg ZD.toArray) W) := fun W => by rw [hZD]; exact R5.build_dig W
        have HDN : Hid (ZD.toArray.size = 32) := by show _ = _; rw [hZD]; simp [PC.z32_len]
        have HD1 : Hid (ZD.toArray.all (·.oneCell') = true) := by show _ = _; rw [hZD]; exact PC.onea (PC.B8_one _)
        have HDI : Hid ((Tryz.prog.info? 33).map (·.size) = some ZD.toArray.size) := by show _ = _; rw [HDN.out]; kernel_rfl
        have HDR : Hid ((W7.alloc (.cells ZD.toArray 33 (0, 0))).heap[W7.heap.size]? = some (.cells ZD.toArray 33 (0, 0))) := heap_alloc_new _ _
        obtain ⟨V, hV⟩ : ∃ V, V = (W7.alloc (.cells ZD.toArray 33 (0, 0))).setRow W7.heap.size ZD.toArray := ⟨_, rfl⟩
        have hbV : Below W7.heap.size W7 V := by rw [hV]; exact below_setRow ((Below.refl _ _).alloc (Nat.le_refl _) _) (Nat.le_refl _) _
        have hrV : V.heap[W7.heap.size]? = some (.cells ZD.toArray 33 (0, 0)) := by rw [hV]; exact setRow_heap _ _ _ _ _ _ (heap_alloc_new _ _)
        obtain ⟨q13, hq13⟩ : ∃ q, q = W7.heap.size := ⟨_, rfl⟩
        have HT8 : Hid (ST w c rb sn (fun k => ((fun k => (k = pb ∨ (Value.slice pn mn.length cn).ownBlock = some k) ∨ k = q6) k ∨ (k = q11 ∨ (Value.slice (some ⟨g11, 0, none⟩) r.log.length cap11).ownBlock = some k)) ∨ k = q13) pb (.slice pn mn.length cn) mn V) := HT7.out.new (C2 := fun k => k = q13) hbV (fun k hk => by rw [hk, hq13]; exact ⟨Nat.le_refl _, (Array.getElem?_eq_some_iff.1 hrV).1⟩)
        have HR6V : Hid (V.heap[q6]? = some (.cells (rmL r0 v6).toArray 47 (0, 0))) := (hbV.block _ (PC.row_lt HR6.out)).trans HR6.out
        have HR11 : Hid (V.heap[q11]? = some (.cells (rmL r (.slice (some ⟨g11, 0, none⟩) r.log.length cap11)).toArray 47 (0, 0))) := (hbV.block _ (PC.row_lt HR7.out)).trans HR7.out
        have HHV : Hid (HR V (.slice (some ⟨g11, 0, none⟩) r.log.length cap11) r.log) := HR.below (show HR W7 (.slice (some ⟨g11, 0, none⟩) r.log.length cap11) r.log from HH7.out) hbV
        have HR13 : Hid (V.heap[q13]? = some (.cells (PC.Z32.map B8).toArray 33 (0, 0))) := by rw [hq13, ← hZD]; exact hrV
        have HNE : Hid (pb ≠ q13 ∧ (Value.slice pn mn.length cn).ownBlock ≠ some q13 ∧ q6 ≠ q13 ∧ q11 ≠ q13 ∧ g11 ≠ q13) := by
          have e1 := HT7.out.ja.lt HT7.out.cp
          have e2 := PC.row_lt HR6.out
          have e3 := PC.row_lt HR7.out
          have e4 : g11 < W7.heap.size := HT7.out.ja.lt (k := g11) (.inr (.inr rfl))
          refine ⟨by omega, fun e => ?_, by omega, by omega, by omega⟩
          have := HT7.out.ja.lt (HT7.out.so _ e); omega
        have HVV : Hid _ := hV
        clear hV hbV hrV hZD HT7 HR7 HH7 HR6 hC0
        go_upto_region 23 with (first
          | (refine PC.wpList_build rfl 33 _ rfl #[] (.agg ZD.toArray) (by simp) (HBD2.out _) ?_)
          | (refine wpList_store_row rfl 33 _ _ rfl W7.heap.size ZD.toArray rfl rfl 33 ZD.toArray HDR.out HDI.out rfl HD1.out ?_))
        rw [← HVV.out, ← hq13]
        clear HVV HDR hq13
        go_upto_block 4 with fail
        refine wp_lift (mw_meas (k := k) (by omega) HBN.out.1 HRO hch hrg hlen HNE HT8 HR6V HR11 HHV HR13 ?_)
        intro y14 v20 v21 v22 v23 v24 v25 v26 v27 v28 v29 v30 v31 v32 v33 v34 v35 v36 v37 v38 v39 v40 v41 v42 v43 v44 v45 v46 v47 v48 v49 v50 v51 v52 v53 v54 v55 v56 v57 v58 v59 v60 v61 v62 v63 v64 v65 v66 v67 v68 v69 v70 v71 v72 v73 v74 v75 v76 v77 v78 v79 v80 v81 v82 v83 v84 v85 v86 v87 v88 v89 v90 v91 v92 v93 v94 v95 v96 v97 v98 v99 v100 v101 v102 v103 v104 v105 v106 v107 v108 v109 v110 v111 v112 v113 v114 v115 v116 v117 v118 v119 v120 v121 v122 v123 v124 v125 v126 v127 v128 v129 v130 v131 v132 v133 v134 v135 v136 v137 v138 v139 v140 v141 v142 v143 v144 v145 v146 v147 v148 v149 v150 v151 v152 v153 v154 v155 v156 v157 v158 v159 v160 v161 v162 v163 v164 v165 v166 v167 v168 v169 v170 v171 v172 v173 v174 v175 v176 W9 hT9 hr6 hr11 hh hr13 hm
        clear HT8 HR6V HR11 HHV HR13
        have hc36 : W9.cell? ⟨q11, 36, none⟩ = some (.slice (some ⟨g11, 0, none⟩) r.log.length cap11) := by rw [cell_of_row _ _ 36 _ _ _ hr11, List.getElem?_toArray, rmL_36 HRO.out]
        have heqm := fun W => eq_dgm W r.meas hm
        have hM11 : W9.rangeAt q11 4 (r.meas.map B8) := by
          have := PC.rangeAt_part (PC.rangeAt_row hr11) 4 32
          rwa [rmL_meas HRO.out, Nat.zero_add] at this
        have hM6 : r.meas = r0.meas → W9.rangeAt q6 4 (r.meas.map B8) := fun e => by
          have := PC.rangeAt_part (PC.rangeAt_row hr6) 4 32
          rwa [rmL_meas HRO0.out, Nat.zero_add, ← e] at this
        have hM13 := PC.rangeAt_row hr13
        have hs11 : W9.cell? ⟨q11, 1, none⟩ = some (.int .i64 r.st) := by rw [cell_of_row _ _ 1 _ _ _ hr11]; rfl
        have hs6 : W9.cell? ⟨q6, 1, none⟩ = some (.int .i64 r0.st) := by rw [cell_of_row _ _ 1 _ _ _ hr6]; rfl
        have HMI : Hid ((Tryz.prog.info? 33).map (·.size) = some (r.meas.map B8).length) := by show _ = _; rw [List.length_map, hm]; kernel_rfl
        have HOLD : Hid (E0 = 0 → r0.st ≠ 1 → r.meas = r0.meas ∧ r.st ≠ 1) := fun e0 hs => by
          rcases HREL.out e0 (by trivial) with rfl | ⟨L1, L2, hu⟩
          · exact ⟨rfl, hs⟩
          · exact up_old hu hs
        have hli := HLI.out
        have HREND : Hid (ST w c rb sn (fun k' => k' = pb ∨ (Value.slice pn mn.length cn).ownBlock = some k') pb (.slice pn mn.length cn) mn W9) := HROUND.out _ _ hT9 (fun k' h => .inl (.inl (.inl h)))
        generalize r.meas.map B8 = ML at *
        have H13 : Hid (W9.rangeAt q13 0 ML) := hM13
        have H11 : Hid (W9.rangeAt q11 4 ML) := hM11
        clear hM13 hM11 hr6 hr11 hr13 hT9 hh HREL HROUND
        have HM6 : Hid _ := hM6
        clear hM6
        go_upto_region 27 with fail
        have hz0 : ¬ r.log.length = 0 := fun e => hlne (List.eq_nil_of_length_eq_zero e)
        clear hli
        generalize r.log.length = LN at *
        have hz1 : (LN == 0) = false := by simpa using hz0
        have hz2 : ((LN : Int) == 0) = false := by simp; omega
        have hz3 : decide (LN = 0) = false := by simpa using hz0
        have hz4 : decide ((LN : Int) = 0) = false := by simp; omega
        have hz5 : ¬ (LN : Int) = 0 := by omega
        go_upto_if 157 with (first
          | (refine load_mid_g (by first | rfl | (simp; done) | (simp [Region.wanted, yielded, hz0]; done)) 33 (.tmp 13) rfl q13 0 rfl ML _ H13.out Tryz.underlying33 rfl HMI.out ?_)
          | (refine load_mid_g (by first | rfl | (simp; done) | (simp [Region.wanted, yielded, hz0]; done)) 33 (.tmp 154) rfl q11 4 rfl ML _ H11.out Tryz.underlying33 rfl HMI.out ?_))
        go_upto_region 29 with fail
        clear hz0 hz1 hz2 hz3 hz4 hz5
        rcases HE0.out with rfl | rfl
        · clear HOLD HM6 hs6 hs11
          go_wp2_with fail
          go_roundw
          case rel => exact ⟨k + 1, sn, mn, by omega, by go_num, HREND.out, HBN.out.1, HBN.out.2.1, HBN.out.2.2.1, HBN.out.2.2.2⟩
          case measure => simp [intOf]; omega
        · by_cases hs : r0.st = 1
          · clear HOLD HM6 hs11
            rw [hs] at hs6
            go_wp2_with fail
            go_roundw
            case rel => exact ⟨k + 1, sn, mn, by omega, by go_num, HREND.out, HBN.out.1, HBN.out.2.1, HBN.out.2.2.1, HBN.out.2.2.2⟩
            case measure => simp [intOf]; omega
          · obtain ⟨e1, e2⟩ := HOLD.out (by trivial) hs
            have H6 : Hid _ := HM6.out e1
            clear HOLD HM6 e1
            generalize r0.st = S0 at *
            generalize r.st = S1 at *
            have hsb : (S0 == 1) = false := by simpa using hs
            have hsb2 : (S1 == 1) = false := by simpa using e2
            have hs3 : decide (S0 = 1) = false := by simpa using hs
            have hs4 : (S0 != 1) = true := by simpa using hs
            go_wp2_with (first
              | (simp only [hsb, hs3, hs4, Bool.not_false, Bool.not_true])
              | (refine load_mid_g (by first | rfl | (simp; done) | (simp [hsb]; done) | (simp [Region.wanted, hsb]; done) | (simp [*]; done)) 33 (.tmp 166) rfl q11 4 rfl ML _ H11.out Tryz.underlying33 rfl HMI.out ?_)
              | (refine load_mid_g (by first | rfl | (simp; done) | (simp [hsb]; done) | (simp [Region.wanted, hsb]; done) | (simp [*]; done)) 33 (.tmp 168) rfl q6 4 rfl ML _ H6.out Tryz.underlying33 rfl HMI.out ?_))
            go_roundw
            case rel => exact ⟨k + 1, sn, mn, by omega, by go_num, HREND.out, HBN.out.1, HBN.out.2.1, HBN.out.2.2.1, HBN.out.2.2.2⟩
            case measure => simp [intOf]; omega
    · have hke : k = ls.length := by omega
      subst hke
      clear hBd hMI HBD HMI hk hlt HLS
      go_wp2_with fail
      refine Calls.mono (known_any W) ?_
      rintro e wk ⟨rfl, hbk⟩
      have hbW := hST.bel
      have HBF : Hid (Below w.heap.size w wk) := hbW.trans (hbk.mono hbW.size)
      clear hbk hbW hST HT
      go_wp2
      go_ret
      exact ⟨rfl, HBF.out⟩
end Go.Proofs.YtekbppfocnbhbaaGreat.XC

namespace Go.Proofs.YtekbppfocnbhbaaGreat.realmMeasures
open Go.ChangeShapes Go.WideShapes Go.ChangeAt Go.RowKit
theorem own : ownKnob Tryz.prog.godebug = none := by kernel_rfl
theorem laidOut : laidOutB Tryz.prog = true := by kernel_rfl
set_option maxHeartbeats 1000000 in
set_option maxRecDepth 100000 in
theorem much (p : Option Addr) (N cap : Nat) (w : World) (h : 60 < N) : Calls Tryz.prog 4 #[.slice p N cap] w fun e w' => e = .returned (.bool true) ∧ Below w.heap.size w w' := by
  have hI : (60 : Int) < (N : Int) := by omega
  clear h
  go_enter Tryz.func4, Tryz.ntmps4
  go_wp2_with fail
  refine Calls.mono (XC.known_any w) ?_
  rintro e w1 ⟨rfl, hb⟩
  go_wp2
  go_ret
  exact ⟨rfl, hb⟩
theorem walk (v : Value) (ls : List XC.Ac) (w : World) (hl : ls.length ≤ 9223372036854775807) (hA : XC.HAc w v ls) : Calls Tryz.prog 4 #[v] w fun e w' => e = .returned (.bool true) ∧ Below w.heap.size w w' := by
  by_cases h1 : 60 < ls.length
  · obtain ⟨p, cap, rfl, _⟩ := hA
    exact much p ls.length cap w h1
  · exact XC.measures_walk v ls w (by omega) hA
set_option maxRecDepth 100000 in
theorem lifted (os : Os) (started : os.Started) (H : Type) (enc : TypeId × Value → H) :
    ReturnsInHanded {} Tryz.checked os 4 .any (Rows.realmMeasuresSpec.pre6 enc Tryz.prog Tryz.f4 Rows.realmMeasuresRow.domain false) (Rows.realmMeasuresSpec.post enc Tryz.prog Tryz.f4 false true false false) := by
  refine returnsInHanded_of_change (C := Tryz.checked) own started (by kernel_rfl) Tryz.func4
    (ChangeSpec.witness6 (enc := enc) (C := Tryz.checked) false ⟨#[], #[.slice none 0 0], []⟩ 8 (by kernel_rfl) (by kernel_rfl) (by kernel_rfl) (by kernel_rfl)) ?_
  intro W base args ds gs before hval0 hW hcnd _
  have hval : ∀ (j : Nat) t v, Tryz.f4.params[j]? = some t → args[j]? = some v → Value.okWide Tryz.prog W .any base t v := hval0
  have hW' := hW
  obtain ⟨p, q, hA0, hV, rfl, hfz, hnd⟩ := hW
  have hA : DataW.TrodAll enc Tryz.prog W 0 (fun _ => true) true Tryz.f4.params.toList args.toList ds p := hA0
  rw [Tryz.params4] at hA hval
  obtain ⟨v0, vs0, d0, ds0, p0, q0, hargs, rfl, rfl, h0, r0⟩ := trodAll_cons hA
  obtain ⟨rfl, rfl, rfl⟩ := trodAll_nil r0
  obtain rfl : args = #[v0] := by cases args; simp_all
  obtain ⟨rfl, rfl⟩ := trodVars_none hV
  obtain ⟨a0, len0, cap0, rfl⟩ := okWide_slice Tryz.underlying23 (hval 0 23 v0 rfl rfl)
  have k0 := h0
  have lt0 : ∀ x ∈ p0, x.block < W.heap.size := by obtain ⟨m, hm⟩ := k0; exact DataW.trod_lt m _ _ _ hm
  obtain ⟨l0, hl0, hm0⟩ : ∃ ls, XC.HAc W (.slice a0 len0 cap0) ls ∧ ls.length ≤ 9223372036854775807 := by obtain ⟨fuel, hf⟩ := h0; exact XC.open_acts hf
  clear hA0 hval0
  refine (walk _ l0 W hm0 hl0).mono fun e W' ⟨he, bel⟩ => ?_
  subst he
  exact ⟨_, rfl, _, _, _, [], _, [], hW', trodAll_mk1 (shut_bool Tryz.underlying4 _), (trodAll_cons_mk (Below.trod laidOut (by kernel_rfl) (of_decide_eq_true (by kernel_rfl)) k0 bel lt0) trodAll_mk0), rfl, bel.frame _, fun h => by cases h⟩

theorem over : Rows.realmMeasuresRow.holds Tryz.pinned (OpenSpec.ofChange Rows.realmMeasuresSpec) :=
  OpenClaim.holds_of_wide 4 Tryz.f4 rfl rfl rfl rfl rfl rfl rfl ⟨rfl, rfl, rfl, rfl, rfl⟩ rfl rfl rfl rfl rfl (by kernel_rfl) Tryz.func4 (by kernel_rfl)
    (of_decide_eq_true (by kernel_rfl)) (by unfold Func.isWrapper; first | (rw [if_pos (by decide +kernel)]; kernel_rfl) | (rw [if_neg (by decide +kernel)]; exact ⟨rfl, rfl⟩))
    (fun os started H enc _ => lifted os started H enc)

end Go.Proofs.YtekbppfocnbhbaaGreat.realmMeasures
namespace Go.Proofs.YtekbppfocnbhbaaGreat
theorem realmMeasures_holds : Rows.RealmMeasuresSaid := realmMeasures.over
#print axioms realmMeasures_holds
end Go.Proofs.YtekbppfocnbhbaaGreat
