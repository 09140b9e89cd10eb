/- params: Kind; the chapter's rows (known). -/
import Derived.Test.YtabnmhmlcoakkaaPH
set_option linter.unusedVariables false
set_option linter.unusedSimpArgs false
namespace Go.Proofs.Ytabnmhmlcoakkaa.PC
open Go.RowKit

/-- Whose bytes they are, as a text. -/
def kS (G : List UInt8) : ByteArray := if isR G = true then ⟨#[114, 101, 97, 108, 109]⟩ else if isC G = true then ⟨#[114, 101, 99]⟩ else ⟨#[]⟩
theorem pd_get (P : List UInt8) (i : Nat) (h : i < P.length) : (pd P)[i]? = P[i]? := by unfold pd; rw [List.getElem?_append_left h]
theorem rbL_2 (V : List UInt8) (n : Nat) : (rbL V n)[2]? = some 97 := by
  unfold rbL; rw [pd_get _ _ (by unfold rbP; simp)]; rfl
theorem cbL_2 (pc : Nat) (rs : List Nat) (r : Bool) : (cbL pc rs r)[2]? = some 99 := by
  unfold cbL; rw [pd_get _ _ (by unfold cbP cb0; simp)]; rfl
theorem isR_2 {G : List UInt8} (h : isR G = true) : G[2]? = some 97 := by
  unfold isR at h
  rw [Bool.and_eq_true, beq_iff_eq] at h
  rw [← h.2]; exact rbL_2 _ _
theorem isC_2 {G : List UInt8} (h : isC G = true) : G[2]? = some 99 := by
  unfold isC at h
  rw [Bool.and_eq_true, beq_iff_eq] at h
  rw [← h.2]; exact cbL_2 _ _ _
theorem isC_z : isC Z128 = false := by
  cases h : isC Z128 with
  | false => rfl
  | true => have := isC_2 h; cases this
theorem cErr_z : cErr Z128 = 4 := by unfold cErr; rw [isC_z]; rfl
theorem slice_gr3 (W : World) (b : Nat) : (Instr.sliceAt 28 (.pointer (some ⟨b, 0, none⟩)) none (some (.int .i64 3)) none).run Try.prog W = .ok (.slice (some ⟨b, 0, none⟩) 3 128) W := by
  have ha : Try.prog.arrayLen 28 = 128 := by kernel_rfl
  have hu : Try.prog.underlying 28 = some (.array (Try.prog.arrayLen 28) (Try.prog.elem 28)) := by kernel_rfl
  have he : Try.prog.elem 28 = 5 := by kernel_rfl
  rw [run_sliceAt_array_h W 28 _ hu .i64 _ (by omega) (by rw [ha]; omega), he, size_u8, ha]
  simp only [Result.andThen, slicedAt]
  rw [if_neg (by decide), add_none]
  rfl
/-- A granule that was boxed, and what is all that stays. -/
structure BX (w : World) (t : TypeId) (GA : List Value) (W : World) : Prop where
  bel : Below w.heap.size w W
  gr : W.heap[w.heap.size]? = some (.cells GA.toArray t (0, 0))
theorem BX.start (w : World) (t : TypeId) (GA : List Value) : BX w t GA (w.alloc (.cells GA.toArray t (0, 0))) := ⟨(Below.refl _ _).alloc (Nat.le_refl _) _, heap_alloc_new _ _⟩
theorem BX.below {w : World} {t : TypeId} {GA : List Value} {W W' : World} (h : BX w t GA W) (hb : Below W.heap.size W W') : BX w t GA W' := ⟨h.1.trans (hb.mono h.1.size), (hb.block _ (row_lt h.2)).trans h.2⟩
/-- A row that is stored into a new block. -/
theorem below_new (W : World) (o : Obj) (A : Array Value) : Below W.heap.size W ((W.alloc o).setRow W.heap.size A) := below_setRow ((Below.refl _ _).alloc (Nat.le_refl _) _) (Nat.le_refl _) _
set_option maxHeartbeats 1000000 in
theorem kind_any (G : List UInt8) (w : World) (hG : G.length = 128) :
    Calls Try.prog 22 #[.agg (G.map B8).toArray] w fun e w' => e = .returned (.string (kS G)) ∧ Below w.heap.size w w' := by
  have hR := fun W => realm_any G W hG
  have hC := fun W => rec_any G W hG
  have hrl := rRes_len G hG
  have hcl := cRes_len G
  have HR1 : Hid ((rRes G).toArray.all (·.oneCell') = true) := onea (rRes_one G)
  have HC1 : Hid ((cRes G).toArray.all (·.oneCell') = true) := onea (cRes_one G)
  generalize rRes G = RL at *
  generalize cRes G = CL at *
  have HRA : Hid _ := info33a RL.toArray (by simpa using hrl)
  have HCA : Hid _ := info10a CL.toArray (by simpa using hcl)
  have hzr := fun W => zero_rp W
  obtain ⟨RZ, hRZ⟩ : ∃ L, L = rpL Z32 0 := ⟨_, rfl⟩
  rw [← hRZ] at hzr
  have HRL : Hid (RZ.length = 33) := by show _ = _; rw [hRZ]; exact rpL_len _ _ z32_len
  clear hRZ
  have hzc := fun W => zero_rc W
  obtain ⟨CZ, hCZ⟩ : ∃ L, L = rcL 0 Z8 false := ⟨_, rfl⟩
  rw [← hCZ] at hzc
  have HCL : Hid (CZ.length = 10) := by show _ = _; rw [hCZ]; exact rcL_len _ _ _ z8_len
  clear hCZ
  have HRS : Hid (RZ.toArray.size = RL.toArray.size) := by show _ = _; simp [HRL.out, hrl]
  have HCS : Hid (CZ.toArray.size = CL.toArray.size) := by show _ = _; simp [HCL.out, hcl]
  have HGI : Hid ((Try.prog.info? 28).map (·.size) = some (G.map B8).length) := info128 _ (by simpa using hG)
  unfold kS
  unfold rErr at hR
  unfold cErr at hC
  generalize G.map B8 = GA at *
  have HW : Hid _ := BX.start w 28 GA
  have HG0 : Hid _ := rangeAt_row HW.out.gr
  clear hrl hcl hG
  generalize isR G = ra at *
  generalize isC G = ca at *
  cases ra
  · cases ca
    · rw [if_neg (by decide)] at hR hC
      go_enter Try.func22, Try.ntmps22
      go_wp2_with (refine wpList_load_mid rfl 28 _ rfl w.heap.size 0 rfl GA _ HG0.out Try.underlying28 rfl HGI.out ?_)
      refine Calls.mono (hR _) ?_
      rintro e w1 ⟨rfl, hb1⟩
      have HW1 : Hid _ := (HW.out.below hb1).below (below_new w1 (.cells RZ.toArray 26 (0, 0)) RL.toArray)
      have HN1 : Hid _ := heap_alloc_new w1 (.cells RZ.toArray 26 (0, 0))
      have HG1 : Hid _ := rangeAt_row HW1.out.gr
      clear hb1 HW HG0 hR
      go_wp2_with (first
        | (refine wpList_store_row rfl 26 _ _ rfl w1.heap.size RL.toArray rfl rfl 26 RZ.toArray HN1.out HRA.out HRS.out HR1.out ?_)
        | (refine wpList_load_mid rfl 28 _ rfl w.heap.size 0 rfl GA _ HG1.out Try.underlying28 rfl HGI.out ?_))
      refine Calls.mono (hC _) ?_
      rintro e w2 ⟨rfl, hb2⟩
      have HW2 : Hid _ := (HW1.out.below hb2).below (below_new w2 (.cells CZ.toArray 38 (0, 0)) CL.toArray)
      have HN2 : Hid _ := heap_alloc_new w2 (.cells CZ.toArray 38 (0, 0))
      clear hb2 HW1 HG1 hC
      go_wp2_with (refine wpList_store_row rfl 38 _ _ rfl w2.heap.size CL.toArray rfl rfl 38 CZ.toArray HN2.out HCA.out HCS.out HC1.out ?_)
      go_ret
      exact ⟨rfl, HW2.out.bel⟩
    · rw [if_neg (by decide)] at hR
      rw [if_pos rfl] at hC
      go_enter Try.func22, Try.ntmps22
      go_wp2_with (refine wpList_load_mid rfl 28 _ rfl w.heap.size 0 rfl GA _ HG0.out Try.underlying28 rfl HGI.out ?_)
      refine Calls.mono (hR _) ?_
      rintro e w1 ⟨rfl, hb1⟩
      have HW1 : Hid _ := (HW.out.below hb1).below (below_new w1 (.cells RZ.toArray 26 (0, 0)) RL.toArray)
      have HN1 : Hid _ := heap_alloc_new w1 (.cells RZ.toArray 26 (0, 0))
      have HG1 : Hid _ := rangeAt_row HW1.out.gr
      clear hb1 HW HG0 hR
      go_wp2_with (first
        | (refine wpList_store_row rfl 26 _ _ rfl w1.heap.size RL.toArray rfl rfl 26 RZ.toArray HN1.out HRA.out HRS.out HR1.out ?_)
        | (refine wpList_load_mid rfl 28 _ rfl w.heap.size 0 rfl GA _ HG1.out Try.underlying28 rfl HGI.out ?_))
      refine Calls.mono (hC _) ?_
      rintro e w2 ⟨rfl, hb2⟩
      have HW2 : Hid _ := (HW1.out.below hb2).below (below_new w2 (.cells CZ.toArray 38 (0, 0)) CL.toArray)
      have HN2 : Hid _ := heap_alloc_new w2 (.cells CZ.toArray 38 (0, 0))
      clear hb2 HW1 HG1 hC
      go_wp2_with (refine wpList_store_row rfl 38 _ _ rfl w2.heap.size CL.toArray rfl rfl 38 CZ.toArray HN2.out HCA.out HCS.out HC1.out ?_)
      go_ret
      exact ⟨rfl, HW2.out.bel⟩
  · rw [if_pos rfl] at hR
    go_enter Try.func22, Try.ntmps22
    go_wp2_with (refine wpList_load_mid rfl 28 _ rfl w.heap.size 0 rfl GA _ HG0.out Try.underlying28 rfl HGI.out ?_)
    refine Calls.mono (hR _) ?_
    rintro e w1 ⟨rfl, hb1⟩
    have HW1 : Hid _ := (HW.out.below hb1).below (below_new w1 (.cells RZ.toArray 26 (0, 0)) RL.toArray)
    have HN1 : Hid _ := heap_alloc_new w1 (.cells RZ.toArray 26 (0, 0))
    clear hb1 HW HG0 hR
    go_wp2_with (refine wpList_store_row rfl 26 _ _ rfl w1.heap.size RL.toArray rfl rfl 26 RZ.toArray HN1.out HRA.out HRS.out HR1.out ?_)
    go_ret
    exact ⟨rfl, HW1.out.bel⟩
theorem cb8_take : (cbL 8 Z8 true).take 3 = [114, 101, 99] := by rfl
theorem cb8_8 : (cbL 8 Z8 true)[8]? = some 8 := by rfl
theorem cb8_80 : (cbL 8 Z8 true)[80]? = some 1 := by rfl
theorem build_k1 (w : World) : (Instr.build 38 #[(0, .int .u64 8), (2, .bool true)]).run Try.prog w = .ok (.agg (rcL 8 Z8 true).toArray) w := by kernel_rfl
theorem build_k2 (n : Nat) (w : World) : (Instr.build 26 #[(1, .int .u64 (n : Int))]).run Try.prog w = .ok (.agg (rpL Z32 n).toArray) w := by kernel_rfl
set_option maxHeartbeats 2000000 in
set_option maxRecDepth 100000 in
theorem known_any (w : World) : Calls Try.prog 12 #[] w fun e w' => e = .returned (.bool true) ∧ Below w.heap.size w w' := by
  have hc1 := fun W => cb_ok 8 Z8 true W z8_len (by decide) (fun x hx => by rw [List.eq_of_mem_replicate hx]; decide) rfl
  have hc2 := fun W => rb_bad Z32 100 W z32_len (by decide) rfl
  have hc3 := fun W => rec_any Z128 W z128_len
  rw [cErr_z] at hc3
  have hcl := cRes_len Z128
  have HC1 : Hid ((cRes Z128).toArray.all (·.oneCell') = true) := onea (cRes_one Z128)
  generalize cRes Z128 = CL at *
  have HCA : Hid _ := info10a CL.toArray (by simpa using hcl)
  have hzc := fun W => zero_rc W
  obtain ⟨CZ, hCZ⟩ : ∃ L, L = rcL 0 Z8 false := ⟨_, rfl⟩
  rw [← hCZ] at hzc
  have HCL : Hid (CZ.length = 10) := by show _ = _; rw [hCZ]; exact rcL_len _ _ _ z8_len
  clear hCZ
  have HCS : Hid (CZ.toArray.size = CL.toArray.size) := by show _ = _; simp [HCL.out, hcl]
  obtain ⟨KL, hKL⟩ : ∃ L, L = (cbL 8 Z8 true).map B8 := ⟨_, rfl⟩
  have hkl : KL.length = 128 := by rw [hKL, List.length_map]; exact cbL_len _ _ _ z8_len
  have HKA : Hid _ := info128a KL.toArray (by simpa using hkl)
  have HK1 : Hid (KL.toArray.all (·.oneCell') = true) := by show _ = _; rw [hKL]; exact B8_onea _
  have HK3 : Hid ((KL.drop 0).take 3 = [114, 101, 99].map B8) := by show _ = _; rw [hKL, List.drop_zero, ← List.map_take, cb8_take]
  have HK8 : Hid (KL[8]? = some (.int .u8 8)) := by show _ = _; rw [hKL, List.getElem?_map, cb8_8]; rfl
  have HK80 : Hid (KL[80]? = some (.int .u8 1)) := by show _ = _; rw [hKL, List.getElem?_map, cb8_80]; rfl
  rw [← hKL] at hc1
  clear hKL hcl
  have hzg := fun W => zero_gr W
  obtain ⟨ZL, hZL⟩ : ∃ L, L = Z128.map B8 := ⟨_, rfl⟩
  rw [← hZL] at hzg
  have HGL : Hid (ZL.length = 128) := by show _ = _; rw [hZL, List.length_map, z128_len]
  have HZL : Hid _ := hZL
  clear hZL
  have HG1 : Hid (ZL.toArray.all (·.oneCell') = true) := by show _ = _; rw [HZL.out]; exact B8_onea _
  have HGA : Hid _ := info128a ZL.toArray (by simpa using HGL.out)
  have HKS : Hid (ZL.toArray.size = KL.toArray.size) := by show _ = _; simp [HGL.out, hkl]
  have HBG : Hid (∀ W, (Instr.build 28 #[]).run Try.prog W = .ok (.agg ZL.toArray) W) := fun W => by rw [HZL.out]; exact build_gr W
  rw [← HZL.out] at hc2 hc3
  have HB1 : Hid _ := fun W => build_k1 W
  have HB2 : Hid (∀ W, (Instr.build 26 #[(1, .int .u64 100)]).run Try.prog W = .ok (.agg (rpL Z32 100).toArray) W) := fun W => build_k2 100 W
  generalize (rcL 8 Z8 true).toArray = A1 at *
  generalize (rpL Z32 100).toArray = A2 at *
  have hnum := fun e W => num_any e W
  clear HZL hkl
  go_enter Try.func12, Try.ntmps12
  go_wp2_with (refine wpList_build rfl 38 #[(0, .const (.int .u64 8)), (2, .const (.bool true))] rfl #[(0, .int .u64 8), (2, .bool true)] (.agg A1) (by simp; first | done | rfl | exact ⟨rfl, rfl⟩) (HB1.out _) ?_)
  refine Calls.mono (hc1 _) ?_
  rintro e w1 ⟨rfl, hb1⟩
  have HN1 : Hid _ := heap_alloc_new w1 (.cells ZL.toArray 28 (0, 0))
  have HW1 : Hid (BX w1 28 KL ((w1.alloc (.cells ZL.toArray 28 (0, 0))).setRow w1.heap.size KL.toArray)) := ⟨below_new _ _ _, setRow_heap _ _ _ _ _ _ HN1.out⟩
  have HBW : Hid _ := hb1
  clear hb1 hc1
  go_wp2_with (first
    | (refine wpList_store_row rfl 28 _ _ rfl w1.heap.size KL.toArray rfl rfl 28 ZL.toArray HN1.out HKA.out HKS.out HK1.out ?_)
    | (refine wpList_build rfl 26 #[(1, .const (.int .u64 100))] rfl #[(1, .int .u64 100)] (.agg A2) (by simp; first | done | rfl) (HB2.out _) ?_))
  refine Calls.mono (hc2 _) ?_
  rintro e w2 ⟨rfl, hb2⟩
  have HN2 : Hid _ := heap_alloc_new w2 (.cells ZL.toArray 28 (0, 0))
  have HW2 : Hid _ := (HW1.out.below hb2).below (below_new w2 (.cells ZL.toArray 28 (0, 0)) ZL.toArray)
  clear hb2 hc2 HW1 HN1
  go_wp2_with (first
    | (refine wpList_store_row rfl 28 _ _ rfl w2.heap.size ZL.toArray rfl rfl 28 ZL.toArray HN2.out HGA.out rfl HG1.out ?_)
    | (refine wpList_build rfl 28 #[] rfl #[] (.agg ZL.toArray) (by simp) (HBG.out _) ?_))
  refine Calls.mono (hc3 _) ?_
  rintro e w3 ⟨rfl, hb3⟩
  have HN3 : Hid _ := heap_alloc_new w3 (.cells CZ.toArray 38 (0, 0))
  have HW3 : Hid _ := (HW2.out.below hb3).below (below_new w3 (.cells CZ.toArray 38 (0, 0)) CL.toArray)
  have hg := HW3.out.gr
  have hk8 := cell_of_row _ _ 8 _ _ _ hg
  have hk80 := cell_of_row _ _ 80 _ _ _ hg
  rw [List.getElem?_toArray, HK8.out] at hk8
  rw [List.getElem?_toArray, HK80.out] at hk80
  have hr3 := rangeAt_part (rangeAt_row hg) 0 3
  rw [HK3.out] at hr3
  have hcv := conv_hb _ _ _ (hb_range (cap := 128) 3 rfl (by decide) (by unfold maxLen; omega) hr3)
  have hsl := fun W => slice_gr3 W w1.heap.size
  have htx : ((txt [114, 101, 99]).toList == [114, 101, 99]) = true := by decide +kernel
  clear hb3 hc3 HW2 HN2 hg hr3
  go_wp2_with (first
    | (refine wpList_store_row rfl 38 _ _ rfl w3.heap.size CL.toArray rfl rfl 38 CZ.toArray HN3.out HCA.out HCS.out HC1.out ?_)
    | (go_at_call 11; refine Calls.mono (hnum _ _) ?_; rintro e w9 ⟨rfl, rfl⟩))
  go_ret
  exact ⟨rfl, HBW.out.trans (HW3.out.bel.mono HBW.out.size)⟩
end Go.Proofs.Ytabnmhmlcoakkaa.PC
