/- Contract of the statements' do, of granules. -/
import Derived.Test.YtikchlmfklbojaaMN
set_option linter.unusedVariables false
set_option linter.unusedSimpArgs false
namespace Go.Proofs.Ytikchlmfklbojaa.MC
open Go.RowKit

set_option maxHeartbeats 2000000 in
theorem do_3bad (B mb gb rb bb n : Nat) (l : List UInt8) (a : Ac) (v : Value) (w : World) (h : JM B w mb gb rb bb n l) (hok : a.ok) (hv : ∀ W, Below B w W → HB W v a.bytes) (h1 : a.kind = 3) (hF : gF n a.g ≠ 0) :
    Calls Try.prog 12 #[.pointer (some ⟨mb, 0, none⟩), .pointer (some ⟨rb, 0, none⟩), .agg (acL a v).toArray] w fun e w' => DoEnd B mb gb rb bb n w (doL n l a) e w' := by
  have HE : Hid (doL n l a = l) := by show _ = _; unfold doL; rw [if_neg (by omega), if_neg (by omega), if_pos h1, if_neg hF]
  rw [HE.out]
  obtain ⟨p, cap, rfl, _⟩ := hb_any (hv w (Below.refl _ _))
  obtain ⟨V1, hV1⟩ : ∃ V1, V1 = w.alloc (.cells (acL a (.slice p a.bytes.length cap)).toArray 34 (0, 0)) := ⟨_, rfl⟩
  have hbl : Below w.heap.size w V1 := by rw [hV1]; exact (Below.refl _ _).alloc (Nat.le_refl _) _
  have hJ1 := h.below hbl
  have hac : AC V1 w.heap.size a (.slice p a.bytes.length cap) := by rw [hV1]; exact heap_alloc_new _ _
  have hs1 : V1.heap.size = w.heap.size + 1 := by rw [hV1]; simp
  have hgb := row_lt h.pm.row
  have hbb := row_lt h.rm.row
  have hmb := row_lt h.pm.head
  have hrb := row_lt h.rm.head
  have HJ1 : Hid _ := hJ1
  have HAC : Hid _ := hac
  have HK1 : Hid (KS (SJ gb bb) w V1) := KS.of hbl
  obtain ⟨N, hN⟩ : ∃ N, N = 128 * n := ⟨_, rfl⟩
  have hNq : (N : Int) / 128 = (n : Int) := by omega
  have hn4 := h.pm.le
  have hN2 : N ≤ 524288 := by omega
  have hcR : V1.cell? ⟨rb, 0, none⟩ = some (.slice (some ⟨bb, 0, none⟩) N N) := by rw [hN]; exact hJ1.rm.cell
  obtain ⟨hc0, hc1, hc2, hc3, hc4⟩ := hac.facts
  have HOK : Hid (Ac.ok a) := hok
  unfold acL at hV1 ⊢
  have hzv := fun W => zero_gr W
  obtain ⟨ZL, hZL⟩ : ∃ L, L = Z128.map B8 := ⟨_, rfl⟩
  rw [← hZL] at hzv
  have HZS : Hid (ZL.toArray.size = 128) := by show _ = _; rw [hZL]; simp [Z128]
  have HZ1 : Hid (ZL.toArray.all (·.oneCell') = true) := by show _ = _; rw [hZL]; exact B8_onea _
  have HZL : Hid _ := hZL
  have HBD : Hid (∀ W, (Instr.build 45 #[]).run Try.prog W = .ok (.agg ZL.toArray) W) := by rw [hZL]; exact fun W => build_gr W
  clear hZL
  have HGR : Hid _ := granule_any (.slice p a.bytes.length cap) a.bytes V1 (hv V1 (h.bel HK1.out))
  unfold gV at HGR
  obtain ⟨GL, hGL⟩ : ∃ L, L = (gr a.bytes).map B8 := ⟨_, rfl⟩
  have hl128 : GL.length = 128 := by rw [hGL, List.length_map]; exact gr_len _
  rw [← hGL] at HGR
  have HGI : Hid _ := info128 GL hl128
  have HGA : Hid (GL.toArray.size = 128) := by show _ = _; simpa using hl128
  have HG1 : Hid (GL.toArray.all (·.oneCell') = true) := by show _ = _; rw [hGL]; exact B8_onea _
  have HGL : Hid _ := hGL
  clear hl128 hGL
  obtain ⟨hf2, hgo⟩ := gF_pos hF
  have HPU : Hid (∀ W, JM B W mb gb rb bb n l → Calls Try.prog 23 #[.pointer (some ⟨mb, 0, none⟩), .int .i64 a.g, .agg GL.toArray] W fun e w' => e = .returned (.int .i64 2) ∧ Below W.heap.size W w') := fun W hW => put_bad (.pointer (some ⟨mb, 0, none⟩)) a.g 2 GL W (by omega) (fun X hX => by
    have := gfault_any mb n n _ a.g X (hW.below hX).pm.cell hW.pm.pos
    rw [hf2] at this; exact this)
  rw [h1] at hc0 hV1 ⊢
  have HAF : Hid (∀ W, AC W w.heap.size a (.slice p a.bytes.length cap) → W.cell? ⟨w.heap.size, 0, none⟩ = some (.int .i64 3) ∧ W.cell? ⟨w.heap.size, 1, none⟩ = some (.int .i64 a.g)) := fun W hW => ⟨by rw [← h1]; exact hW.facts.1, hW.facts.2.1⟩
  clear hJ1 hac hN hbl h hok h1 hF hv hf2
  generalize a.g = G at *
  rw [hV1] at hcR hc0 hc1 hc4
  go_enter Try.func12, Try.ntmps12
  go_wp2_with fail
  rw [← hV1] at ⊢
  clear hV1 hcR hc0 hc1 hc4
  refine Calls.mono HGR.out ?_
  rintro e V2 ⟨rfl, hb2⟩
  have hs2 := hb2.size
  have hac2 : AC V2 w.heap.size a (.slice p a.bytes.length cap) := (hb2.block _ (by omega)).trans HAC.out
  have HJ2 : Hid _ := HJ1.out.below hb2
  have HK2 : Hid (KS (SJ gb bb) w V2) := HK1.out.trans (KS.of hb2)
  have HR2 : Hid ((V2.alloc (.cells ZL.toArray 45 (0, 0))).heap[V2.heap.size]? = some (.cells ZL.toArray 45 (0, 0))) := heap_alloc_new _ _
  have HS3 : Hid (∀ V3, V3 = (V2.alloc (.cells ZL.toArray 45 (0, 0))).setRow V2.heap.size GL.toArray → V3.cell? ⟨w.heap.size, 0, none⟩ = some (.int .i64 3) ∧ V3.cell? ⟨w.heap.size, 1, none⟩ = some (.int .i64 G) ∧ Hid (AC V3 w.heap.size a (.slice p a.bytes.length cap)) ∧ Hid (JM B V3 mb gb rb bb n l) ∧ Hid (V3.heap[V2.heap.size]? = some (.cells GL.toArray 45 (0, 0))) ∧ Hid (KS (SJ gb bb) w V3) ∧ V3.heap.size = V2.heap.size + 1) := fun V3 hV3 => by
    have hb3 : Below V2.heap.size V2 V3 := by rw [hV3]; exact below_setRow ((Below.refl _ _).alloc (Nat.le_refl _) _) (Nat.le_refl _) _
    have hac3 : AC V3 w.heap.size a (.slice p a.bytes.length cap) := (hb3.block _ (by omega)).trans hac2
    exact ⟨(HAF.out V3 hac3).1, (HAF.out V3 hac3).2, hac3, HJ2.out.below hb3, (by rw [hV3]; exact setRow_heap _ _ _ _ _ _ HR2.out), HK2.out.trans (KS.of hb3), (by rw [hV3]; simp)⟩
  clear hb2 hac2 HGR HAC
  go_wp2_with (first
    | (refine wpList_store_rowL rfl 45 _ _ rfl V2.heap.size GL.toArray rfl rfl 45 ZL.toArray HR2.out (info128a _ HGA.out) (HZS.out.trans HGA.out.symm) HG1.out ?_; intro V3 hV3; obtain ⟨hd0, hd1, HA3, HJ3, HR3, HK3, hs3⟩ := HS3.out V3 hV3; clear hV3 HR2 HS3 HJ2 HK2)
    | (refine wpList_load_mid rfl 45 _ rfl V2.heap.size 0 rfl GL _ (rangeAt_row HR3.out) Try.underlying45 rfl HGI.out ?_)
    | fail)
  refine Calls.mono (HPU.out V3 HJ3.out) ?_
  rintro e V4 ⟨rfl, hb4⟩
  obtain ⟨_, he1⟩ := HAF.out V4 ((hb4.block _ (by omega)).trans HA3.out)
  have HEND : Hid (JM B V4 mb gb rb bb n l ∧ KS (SJ gb bb) w V4) := ⟨HJ3.out.below hb4, HK3.out.trans (KS.of hb4)⟩
  clear hb4 hd0 hd1
  by_cases hg0 : G < 0
  · go_wp2
    go_ret
    exact ⟨rfl, HEND.out.1, HEND.out.2⟩
  · have hgn : (n : Int) ≤ G := by omega
    clear hgo
    go_wp2
    go_ret
    exact ⟨rfl, HEND.out.1, HEND.out.2⟩
set_option maxHeartbeats 2000000 in
theorem do_3ok (B mb gb rb bb n : Nat) (l : List UInt8) (a : Ac) (v : Value) (w : World) (h : JM B w mb gb rb bb n l) (hok : a.ok) (hv : ∀ W, Below B w W → HB W v a.bytes) (h1 : a.kind = 3) (hF : gF n a.g = 0) :
    Calls Try.prog 12 #[.pointer (some ⟨mb, 0, none⟩), .pointer (some ⟨rb, 0, none⟩), .agg (acL a v).toArray] w fun e w' => DoEnd B mb gb rb bb n w (doL n l a) e w' := by
  have HE : Hid (doL n l a = splice l (128 * a.g.toNat) (gr a.bytes)) := by show _ = _; unfold doL; rw [if_neg (by omega), if_neg (by omega), if_pos h1, if_pos hF]
  rw [HE.out]
  obtain ⟨p, cap, rfl, _⟩ := hb_any (hv w (Below.refl _ _))
  obtain ⟨V1, hV1⟩ : ∃ V1, V1 = w.alloc (.cells (acL a (.slice p a.bytes.length cap)).toArray 34 (0, 0)) := ⟨_, rfl⟩
  have hbl : Below w.heap.size w V1 := by rw [hV1]; exact (Below.refl _ _).alloc (Nat.le_refl _) _
  have hJ1 := h.below hbl
  have hac : AC V1 w.heap.size a (.slice p a.bytes.length cap) := by rw [hV1]; exact heap_alloc_new _ _
  have hs1 : V1.heap.size = w.heap.size + 1 := by rw [hV1]; simp
  have hgb := row_lt h.pm.row
  have hbb := row_lt h.rm.row
  have hmb := row_lt h.pm.head
  have hrb := row_lt h.rm.head
  have HJ1 : Hid _ := hJ1
  have HAC : Hid _ := hac
  have HK1 : Hid (KS (SJ gb bb) w V1) := KS.of hbl
  obtain ⟨N, hN⟩ : ∃ N, N = 128 * n := ⟨_, rfl⟩
  have hNq : (N : Int) / 128 = (n : Int) := by omega
  have hn4 := h.pm.le
  have hN2 : N ≤ 524288 := by omega
  have hcR : V1.cell? ⟨rb, 0, none⟩ = some (.slice (some ⟨bb, 0, none⟩) N N) := by rw [hN]; exact hJ1.rm.cell
  obtain ⟨hc0, hc1, hc2, hc3, hc4⟩ := hac.facts
  have HOK : Hid (Ac.ok a) := hok
  unfold acL at hV1 ⊢
  have hzv := fun W => zero_gr W
  obtain ⟨ZL, hZL⟩ : ∃ L, L = Z128.map B8 := ⟨_, rfl⟩
  rw [← hZL] at hzv
  have HZS : Hid (ZL.toArray.size = 128) := by show _ = _; rw [hZL]; simp [Z128]
  have HZ1 : Hid (ZL.toArray.all (·.oneCell') = true) := by show _ = _; rw [hZL]; exact B8_onea _
  have HZL : Hid _ := hZL
  have HBD : Hid (∀ W, (Instr.build 45 #[]).run Try.prog W = .ok (.agg ZL.toArray) W) := by rw [hZL]; exact fun W => build_gr W
  clear hZL
  have HGR : Hid _ := granule_any (.slice p a.bytes.length cap) a.bytes V1 (hv V1 (h.bel HK1.out))
  unfold gV at HGR
  obtain ⟨GL, hGL⟩ : ∃ L, L = (gr a.bytes).map B8 := ⟨_, rfl⟩
  have hl128 : GL.length = 128 := by rw [hGL, List.length_map]; exact gr_len _
  rw [← hGL] at HGR
  have HGI : Hid _ := info128 GL hl128
  have HGA : Hid (GL.toArray.size = 128) := by show _ = _; simpa using hl128
  have HG1 : Hid (GL.toArray.all (·.oneCell') = true) := by show _ = _; rw [hGL]; exact B8_onea _
  have HGL : Hid _ := hGL
  clear hl128 hGL
  obtain ⟨g0, hg0, hgn⟩ := gF_zero hF
  obtain ⟨G, hG⟩ : ∃ G, G = a.g := ⟨_, rfl⟩
  have hGg : G = (g0 : Int) := hG.trans hg0
  rw [show a.g.toNat = g0 by omega]
  obtain ⟨L', hL'⟩ : ∃ L', L' = splice l (128 * g0) (gr a.bytes) := ⟨_, rfl⟩
  have HPU : Hid (∀ W, JM B W mb gb rb bb n l → Calls Try.prog 23 #[.pointer (some ⟨mb, 0, none⟩), .int .i64 G, .agg GL.toArray] W fun e w' => e = .returned (.int .i64 0) ∧ PM w' mb gb n L' ∧ KB gb W w') := by
    rw [hL', hGg, HGL.out]
    exact fun W hW => put_ok mb gb n g0 l (gr a.bytes) W hW.pm hgn (gr_len _)
  have HRP : Hid (∀ W, RM W rb bb n l → Calls Try.prog 30 #[.pointer (some ⟨rb, 0, none⟩), .int .i64 G, .agg GL.toArray] W fun e w' => (∃ v, e = .returned v) ∧ RM w' rb bb n L' ∧ KB bb W w') := by
    rw [hL', hGg, HGL.out]
    exact fun W hW => rput_ok rb bb n g0 l (gr a.bytes) W hW hgn (gr_len _)
  rw [← hL']
  rw [h1] at hc0 hV1 ⊢
  rw [← hG] at hc1 hV1 ⊢
  have HAF : Hid (∀ W, AC W w.heap.size a (.slice p a.bytes.length cap) → W.cell? ⟨w.heap.size, 0, none⟩ = some (.int .i64 3) ∧ W.cell? ⟨w.heap.size, 1, none⟩ = some (.int .i64 G)) := fun W hW => ⟨by rw [← h1]; exact hW.facts.1, by rw [hG]; exact hW.facts.2.1⟩
  have hg0I : ¬ G < 0 := by omega
  have hgnI : ¬ (n : Int) ≤ G := by omega
  clear hJ1 hac hN hbl h hok h1 hF hv hL' hg0 hG hGg HGL hgn
  rw [hV1] at hcR hc0 hc1 hc4
  go_enter Try.func12, Try.ntmps12
  go_wp2_with fail
  rw [← hV1] at ⊢
  clear hV1 hcR hc0 hc1 hc4
  refine Calls.mono HGR.out ?_
  rintro e V2 ⟨rfl, hb2⟩
  have hs2 := hb2.size
  have hac2 : AC V2 w.heap.size a (.slice p a.bytes.length cap) := (hb2.block _ (by omega)).trans HAC.out
  have HJ2 : Hid _ := HJ1.out.below hb2
  have HK2 : Hid (KS (SJ gb bb) w V2) := HK1.out.trans (KS.of hb2)
  have HR2 : Hid ((V2.alloc (.cells ZL.toArray 45 (0, 0))).heap[V2.heap.size]? = some (.cells ZL.toArray 45 (0, 0))) := heap_alloc_new _ _
  have HS3 : Hid (∀ V3, V3 = (V2.alloc (.cells ZL.toArray 45 (0, 0))).setRow V2.heap.size GL.toArray → V3.cell? ⟨w.heap.size, 0, none⟩ = some (.int .i64 3) ∧ V3.cell? ⟨w.heap.size, 1, none⟩ = some (.int .i64 G) ∧ Hid (AC V3 w.heap.size a (.slice p a.bytes.length cap)) ∧ Hid (JM B V3 mb gb rb bb n l) ∧ Hid (V3.heap[V2.heap.size]? = some (.cells GL.toArray 45 (0, 0))) ∧ Hid (KS (SJ gb bb) w V3) ∧ V3.heap.size = V2.heap.size + 1) := fun V3 hV3 => by
    have hb3 : Below V2.heap.size V2 V3 := by rw [hV3]; exact below_setRow ((Below.refl _ _).alloc (Nat.le_refl _) _) (Nat.le_refl _) _
    have hac3 : AC V3 w.heap.size a (.slice p a.bytes.length cap) := (hb3.block _ (by omega)).trans hac2
    exact ⟨(HAF.out V3 hac3).1, (HAF.out V3 hac3).2, hac3, HJ2.out.below hb3, (by rw [hV3]; exact setRow_heap _ _ _ _ _ _ HR2.out), HK2.out.trans (KS.of hb3), (by rw [hV3]; simp)⟩
  clear hb2 hac2 HGR HAC
  go_wp2_with (first
    | (refine wpList_store_rowL rfl 45 _ _ rfl V2.heap.size GL.toArray rfl rfl 45 ZL.toArray HR2.out (info128a _ HGA.out) (HZS.out.trans HGA.out.symm) HG1.out ?_; intro V3 hV3; obtain ⟨hd0, hd1, HA3, HJ3, HR3, HK3, hs3⟩ := HS3.out V3 hV3; clear hV3 HR2 HS3 HJ2 HK2)
    | (refine wpList_load_mid rfl 45 _ rfl V2.heap.size 0 rfl GL _ (rangeAt_row HR3.out) Try.underlying45 rfl HGI.out ?_)
    | fail)
  refine Calls.mono (HPU.out V3 HJ3.out) ?_
  rintro e V4 ⟨rfl, hP4, hK4⟩
  obtain ⟨_, he1⟩ := HAF.out V4 ((hK4.2 _ (by omega) (by omega)).trans HA3.out)
  have HR4 : Hid (V4.rangeAt V2.heap.size 0 GL) := rangeAt_row ((hK4.2 _ (by omega) (by omega)).trans HR3.out)
  have HRP4 : Hid _ := HRP.out V4 (HJ3.out.rm.kb hK4 (Ne.symm HJ1.out.d1) (Ne.symm HJ1.out.d2))
  have HK4 : Hid (KS (SJ gb bb) w V4) := HK3.out.trans (KS.kb hK4 (.inl rfl))
  have hs4 := hK4.1.size
  have HP4 : Hid _ := hP4
  clear hK4 hP4 hd0 hd1 HPU HRP
  go_wp2_with (refine wpList_load_mid rfl 45 _ rfl V2.heap.size 0 rfl GL _ HR4.out Try.underlying45 rfl HGI.out ?_)
  refine Calls.mono HRP4.out ?_
  rintro e V5 ⟨⟨vv, rfl⟩, hR5, hK5⟩
  have HEND : Hid (JM B V5 mb gb rb bb n L' ∧ KS (SJ gb bb) w V5) := ⟨⟨HP4.out.kb hK5 HJ1.out.d3 HJ1.out.d2, hR5, HJ1.out.d1, HJ1.out.d2, HJ1.out.d3, by have := HJ1.out.low; have := hK5.1.size; omega, HJ1.out.bg, HJ1.out.bbb⟩, HK4.out.trans (KS.kb hK5 (.inr rfl))⟩
  clear hR5 hK5 HRP4 he1
  go_wp2
  go_ret
  exact ⟨rfl, HEND.out.1, HEND.out.2⟩
set_option maxHeartbeats 2000000 in
theorem do_4bad (B mb gb rb bb n : Nat) (l : List UInt8) (a : Ac) (v : Value) (w : World) (h : JM B w mb gb rb bb n l) (hok : a.ok) (hv : ∀ W, Below B w W → HB W v a.bytes) (h1 : a.kind = 4) (hF : gF n a.g ≠ 0) :
    Calls Try.prog 12 #[.pointer (some ⟨mb, 0, none⟩), .pointer (some ⟨rb, 0, none⟩), .agg (acL a v).toArray] w fun e w' => DoEnd B mb gb rb bb n w (doL n l a) e w' := by
  have HE : Hid (doL n l a = l) := by show _ = _; unfold doL; rw [if_neg (by omega), if_neg (by omega), if_neg (by omega), if_pos h1, if_neg hF]
  rw [HE.out]
  obtain ⟨p, cap, rfl, _⟩ := hb_any (hv w (Below.refl _ _))
  obtain ⟨V1, hV1⟩ : ∃ V1, V1 = w.alloc (.cells (acL a (.slice p a.bytes.length cap)).toArray 34 (0, 0)) := ⟨_, rfl⟩
  have hbl : Below w.heap.size w V1 := by rw [hV1]; exact (Below.refl _ _).alloc (Nat.le_refl _) _
  have hJ1 := h.below hbl
  have hac : AC V1 w.heap.size a (.slice p a.bytes.length cap) := by rw [hV1]; exact heap_alloc_new _ _
  have hs1 : V1.heap.size = w.heap.size + 1 := by rw [hV1]; simp
  have hgb := row_lt h.pm.row
  have hbb := row_lt h.rm.row
  have hmb := row_lt h.pm.head
  have hrb := row_lt h.rm.head
  have HJ1 : Hid _ := hJ1
  have HAC : Hid _ := hac
  have HK1 : Hid (KS (SJ gb bb) w V1) := KS.of hbl
  obtain ⟨N, hN⟩ : ∃ N, N = 128 * n := ⟨_, rfl⟩
  have hNq : (N : Int) / 128 = (n : Int) := by omega
  have hn4 := h.pm.le
  have hN2 : N ≤ 524288 := by omega
  have hcR : V1.cell? ⟨rb, 0, none⟩ = some (.slice (some ⟨bb, 0, none⟩) N N) := by rw [hN]; exact hJ1.rm.cell
  obtain ⟨hc0, hc1, hc2, hc3, hc4⟩ := hac.facts
  have HOK : Hid (Ac.ok a) := hok
  unfold acL at hV1 ⊢
  have hzv := fun W => zero_gr W
  obtain ⟨ZL, hZL⟩ : ∃ L, L = Z128.map B8 := ⟨_, rfl⟩
  rw [← hZL] at hzv
  have HZS : Hid (ZL.toArray.size = 128) := by show _ = _; rw [hZL]; simp [Z128]
  have HZ1 : Hid (ZL.toArray.all (·.oneCell') = true) := by show _ = _; rw [hZL]; exact B8_onea _
  have HZL : Hid _ := hZL
  have HBD : Hid (∀ W, (Instr.build 45 #[]).run Try.prog W = .ok (.agg ZL.toArray) W) := by rw [hZL]; exact fun W => build_gr W
  clear hZL
  have HGR : Hid _ := granule_any (.slice p a.bytes.length cap) a.bytes V1 (hv V1 (h.bel HK1.out))
  unfold gV at HGR
  obtain ⟨GL, hGL⟩ : ∃ L, L = (gr a.bytes).map B8 := ⟨_, rfl⟩
  have hl128 : GL.length = 128 := by rw [hGL, List.length_map]; exact gr_len _
  rw [← hGL] at HGR
  have HGI : Hid _ := info128 GL hl128
  have HGA : Hid (GL.toArray.size = 128) := by show _ = _; simpa using hl128
  have HG1 : Hid (GL.toArray.all (·.oneCell') = true) := by show _ = _; rw [hGL]; exact B8_onea _
  have HGL : Hid _ := hGL
  clear hl128 hGL
  obtain ⟨hf2, hgo⟩ := gF_pos hF
  have HPU : Hid (∀ W, JM B W mb gb rb bb n l → Calls Try.prog 26 #[.pointer (some ⟨mb, 0, none⟩), .int .i64 a.g] W fun e w' => e = .returned (.int .i64 2) ∧ Below W.heap.size W w') := fun W hW => scrub_bad (.pointer (some ⟨mb, 0, none⟩)) a.g 2 W (by omega) (fun X hX => by
    have := gfault_any mb n n _ a.g X (hW.below hX).pm.cell hW.pm.pos
    rw [hf2] at this; exact this)
  rw [h1] at hc0 hV1 ⊢
  have HAF : Hid (∀ W, AC W w.heap.size a (.slice p a.bytes.length cap) → W.cell? ⟨w.heap.size, 0, none⟩ = some (.int .i64 4) ∧ W.cell? ⟨w.heap.size, 1, none⟩ = some (.int .i64 a.g)) := fun W hW => ⟨by rw [← h1]; exact hW.facts.1, hW.facts.2.1⟩
  clear hJ1 hac hN hbl h hok h1 hF hv hf2
  generalize a.g = G at *
  rw [hV1] at hcR hc0 hc1 hc4
  go_enter Try.func12, Try.ntmps12
  go_wp2_with fail
  rw [← hV1] at ⊢
  clear hV1 hcR hc0 hc1 hc4
  refine Calls.mono HGR.out ?_
  rintro e V2 ⟨rfl, hb2⟩
  have hs2 := hb2.size
  have hac2 : AC V2 w.heap.size a (.slice p a.bytes.length cap) := (hb2.block _ (by omega)).trans HAC.out
  have HJ2 : Hid _ := HJ1.out.below hb2
  have HK2 : Hid (KS (SJ gb bb) w V2) := HK1.out.trans (KS.of hb2)
  have HR2 : Hid ((V2.alloc (.cells ZL.toArray 45 (0, 0))).heap[V2.heap.size]? = some (.cells ZL.toArray 45 (0, 0))) := heap_alloc_new _ _
  have HS3 : Hid (∀ V3, V3 = (V2.alloc (.cells ZL.toArray 45 (0, 0))).setRow V2.heap.size GL.toArray → V3.cell? ⟨w.heap.size, 0, none⟩ = some (.int .i64 4) ∧ V3.cell? ⟨w.heap.size, 1, none⟩ = some (.int .i64 G) ∧ Hid (AC V3 w.heap.size a (.slice p a.bytes.length cap)) ∧ Hid (JM B V3 mb gb rb bb n l) ∧ Hid (V3.heap[V2.heap.size]? = some (.cells GL.toArray 45 (0, 0))) ∧ Hid (KS (SJ gb bb) w V3) ∧ V3.heap.size = V2.heap.size + 1) := fun V3 hV3 => by
    have hb3 : Below V2.heap.size V2 V3 := by rw [hV3]; exact below_setRow ((Below.refl _ _).alloc (Nat.le_refl _) _) (Nat.le_refl _) _
    have hac3 : AC V3 w.heap.size a (.slice p a.bytes.length cap) := (hb3.block _ (by omega)).trans hac2
    exact ⟨(HAF.out V3 hac3).1, (HAF.out V3 hac3).2, hac3, HJ2.out.below hb3, (by rw [hV3]; exact setRow_heap _ _ _ _ _ _ HR2.out), HK2.out.trans (KS.of hb3), (by rw [hV3]; simp)⟩
  have HS4 : Hid (∀ V3 V4, Hid (AC V3 w.heap.size a (.slice p a.bytes.length cap)) → Hid (JM B V3 mb gb rb bb n l) → Hid (V3.heap[V2.heap.size]? = some (.cells GL.toArray 45 (0, 0))) → Hid (KS (SJ gb bb) w V3) → V4 = V3.setRow V2.heap.size ZL.toArray → V4.cell? ⟨w.heap.size, 0, none⟩ = some (.int .i64 4) ∧ V4.cell? ⟨w.heap.size, 1, none⟩ = some (.int .i64 G) ∧ Hid (AC V4 w.heap.size a (.slice p a.bytes.length cap)) ∧ Hid (JM B V4 mb gb rb bb n l) ∧ Hid (V4.heap[V2.heap.size]? = some (.cells ZL.toArray 45 (0, 0))) ∧ Hid (KS (SJ gb bb) w V4) ∧ V4.heap.size = V3.heap.size) := fun V3 V4 hA hJ hR hK hV4 => by
    have hkb : KB V2.heap.size V3 V4 := by rw [hV4]; exact KB.set (KB.refl _ _) _
    have hlt := row_lt hR.out
    have hac3 : AC V4 w.heap.size a (.slice p a.bytes.length cap) := (hkb.2 _ (by omega) (by omega)).trans hA.out
    refine ⟨(HAF.out V4 hac3).1, (HAF.out V4 hac3).2, hac3, ⟨hJ.out.pm.kb hkb (by omega) (by omega), hJ.out.rm.kb hkb (by omega) (by omega), hJ.out.d1, hJ.out.d2, hJ.out.d3, Nat.le_trans hJ.out.low hkb.1.size, hJ.out.bg, hJ.out.bbb⟩, (by rw [hV4]; exact setRow_heap _ _ _ _ _ _ hR.out), ⟨hkb.1.os.trans hK.out.os, hkb.1.tape.trans hK.out.tape, hkb.1.output.trans hK.out.output, Nat.le_trans hK.out.size hkb.1.size, fun j hj hS => (hkb.2 j (Nat.lt_of_lt_of_le hj hK.out.size) (by omega)).trans (hK.out.blk j hj hS)⟩, (by rw [hV4]; simp)⟩
  clear hb2 hac2 HGR HAC
  go_wp2_with (first
    | (refine wpList_store_rowL rfl 45 _ _ rfl V2.heap.size GL.toArray rfl rfl 45 ZL.toArray HR2.out (info128a _ HGA.out) (HZS.out.trans HGA.out.symm) HG1.out ?_; intro V3 hV3; obtain ⟨hd0, hd1, HA3, HJ3, HR3, HK3, hs3⟩ := HS3.out V3 hV3; clear hV3 HR2 HS3 HJ2 HK2)
    | (refine wpList_load_mid rfl 45 _ rfl V2.heap.size 0 rfl GL _ (rangeAt_row HR3.out) Try.underlying45 rfl HGI.out ?_)
    | (refine wpList_build rfl 45 #[] rfl #[] (.agg ZL.toArray) (by simp) (HBD.out _) ?_)
    | (refine wpList_store_rowL rfl 45 _ _ rfl V2.heap.size ZL.toArray rfl rfl 45 GL.toArray HR3.out (info128a _ HZS.out) (HGA.out.trans HZS.out.symm) HZ1.out ?_; intro V4 hV4; obtain ⟨he0, he1, HA4, HJ4, HR4, HK4, hs4⟩ := HS4.out V3 V4 HA3 HJ3 HR3 HK3 hV4; clear hV4 HA3 HJ3 HR3 HK3 HS4 hd0 hd1))
  refine Calls.mono (HPU.out V4 HJ4.out) ?_
  rintro e V5 ⟨rfl, hb5⟩
  obtain ⟨_, hf1⟩ := HAF.out V5 ((hb5.block _ (by omega)).trans HA4.out)
  have HEND : Hid (JM B V5 mb gb rb bb n l ∧ KS (SJ gb bb) w V5) := ⟨HJ4.out.below hb5, HK4.out.trans (KS.of hb5)⟩
  clear hb5 he0 he1
  by_cases hg0 : G < 0
  · go_wp2
    go_ret
    exact ⟨rfl, HEND.out.1, HEND.out.2⟩
  · have hgn : (n : Int) ≤ G := by omega
    clear hgo
    go_wp2
    go_ret
    exact ⟨rfl, HEND.out.1, HEND.out.2⟩
set_option maxHeartbeats 2000000 in
theorem do_4ok (B mb gb rb bb n : Nat) (l : List UInt8) (a : Ac) (v : Value) (w : World) (h : JM B w mb gb rb bb n l) (hok : a.ok) (hv : ∀ W, Below B w W → HB W v a.bytes) (h1 : a.kind = 4) (hF : gF n a.g = 0) :
    Calls Try.prog 12 #[.pointer (some ⟨mb, 0, none⟩), .pointer (some ⟨rb, 0, none⟩), .agg (acL a v).toArray] w fun e w' => DoEnd B mb gb rb bb n w (doL n l a) e w' := by
  have HE : Hid (doL n l a = splice l (128 * a.g.toNat) Z128) := by show _ = _; unfold doL; rw [if_neg (by omega), if_neg (by omega), if_neg (by omega), if_pos h1, if_pos hF]
  rw [HE.out]
  obtain ⟨p, cap, rfl, _⟩ := hb_any (hv w (Below.refl _ _))
  obtain ⟨V1, hV1⟩ : ∃ V1, V1 = w.alloc (.cells (acL a (.slice p a.bytes.length cap)).toArray 34 (0, 0)) := ⟨_, rfl⟩
  have hbl : Below w.heap.size w V1 := by rw [hV1]; exact (Below.refl _ _).alloc (Nat.le_refl _) _
  have hJ1 := h.below hbl
  have hac : AC V1 w.heap.size a (.slice p a.bytes.length cap) := by rw [hV1]; exact heap_alloc_new _ _
  have hs1 : V1.heap.size = w.heap.size + 1 := by rw [hV1]; simp
  have hgb := row_lt h.pm.row
  have hbb := row_lt h.rm.row
  have hmb := row_lt h.pm.head
  have hrb := row_lt h.rm.head
  have HJ1 : Hid _ := hJ1
  have HAC : Hid _ := hac
  have HK1 : Hid (KS (SJ gb bb) w V1) := KS.of hbl
  obtain ⟨N, hN⟩ : ∃ N, N = 128 * n := ⟨_, rfl⟩
  have hNq : (N : Int) / 128 = (n : Int) := by omega
  have hn4 := h.pm.le
  have hN2 : N ≤ 524288 := by omega
  have hcR : V1.cell? ⟨rb, 0, none⟩ = some (.slice (some ⟨bb, 0, none⟩) N N) := by rw [hN]; exact hJ1.rm.cell
  obtain ⟨hc0, hc1, hc2, hc3, hc4⟩ := hac.facts
  have HOK : Hid (Ac.ok a) := hok
  unfold acL at hV1 ⊢
  have hzv := fun W => zero_gr W
  obtain ⟨ZL, hZL⟩ : ∃ L, L = Z128.map B8 := ⟨_, rfl⟩
  rw [← hZL] at hzv
  have HZS : Hid (ZL.toArray.size = 128) := by show _ = _; rw [hZL]; simp [Z128]
  have HZ1 : Hid (ZL.toArray.all (·.oneCell') = true) := by show _ = _; rw [hZL]; exact B8_onea _
  have HZL : Hid _ := hZL
  have HBD : Hid (∀ W, (Instr.build 45 #[]).run Try.prog W = .ok (.agg ZL.toArray) W) := by rw [hZL]; exact fun W => build_gr W
  clear hZL
  have HGR : Hid _ := granule_any (.slice p a.bytes.length cap) a.bytes V1 (hv V1 (h.bel HK1.out))
  unfold gV at HGR
  obtain ⟨GL, hGL⟩ : ∃ L, L = (gr a.bytes).map B8 := ⟨_, rfl⟩
  have hl128 : GL.length = 128 := by rw [hGL, List.length_map]; exact gr_len _
  rw [← hGL] at HGR
  have HGI : Hid _ := info128 GL hl128
  have HGA : Hid (GL.toArray.size = 128) := by show _ = _; simpa using hl128
  have HG1 : Hid (GL.toArray.all (·.oneCell') = true) := by show _ = _; rw [hGL]; exact B8_onea _
  have HGL : Hid _ := hGL
  clear hl128 hGL
  obtain ⟨g0, hg0, hgn⟩ := gF_zero hF
  obtain ⟨G, hG⟩ : ∃ G, G = a.g := ⟨_, rfl⟩
  have hGg : G = (g0 : Int) := hG.trans hg0
  rw [show a.g.toNat = g0 by omega]
  obtain ⟨L', hL'⟩ : ∃ L', L' = splice l (128 * g0) Z128 := ⟨_, rfl⟩
  have HPU : Hid (∀ W, JM B W mb gb rb bb n l → Calls Try.prog 26 #[.pointer (some ⟨mb, 0, none⟩), .int .i64 G] W fun e w' => e = .returned (.int .i64 0) ∧ PM w' mb gb n L' ∧ KB gb W w') := by
    rw [hL', hGg]
    exact fun W hW => scrub_ok mb gb n g0 l W hW.pm hgn
  have HRP : Hid (∀ W, RM W rb bb n l → Calls Try.prog 30 #[.pointer (some ⟨rb, 0, none⟩), .int .i64 G, .agg ZL.toArray] W fun e w' => (∃ v, e = .returned v) ∧ RM w' rb bb n L' ∧ KB bb W w') := by
    rw [hL', hGg, HZL.out]
    exact fun W hW => rput_ok rb bb n g0 l Z128 W hW hgn z128_len
  rw [← hL']
  rw [h1] at hc0 hV1 ⊢
  rw [← hG] at hc1 hV1 ⊢
  have HAF : Hid (∀ W, AC W w.heap.size a (.slice p a.bytes.length cap) → W.cell? ⟨w.heap.size, 0, none⟩ = some (.int .i64 4) ∧ W.cell? ⟨w.heap.size, 1, none⟩ = some (.int .i64 G)) := fun W hW => ⟨by rw [← h1]; exact hW.facts.1, by rw [hG]; exact hW.facts.2.1⟩
  have hg0I : ¬ G < 0 := by omega
  have hgnI : ¬ (n : Int) ≤ G := by omega
  clear hJ1 hac hN hbl h hok h1 hF hv hL' hg0 hG hGg HGL hgn
  rw [hV1] at hcR hc0 hc1 hc4
  go_enter Try.func12, Try.ntmps12
  go_wp2_with fail
  rw [← hV1] at ⊢
  clear hV1 hcR hc0 hc1 hc4
  refine Calls.mono HGR.out ?_
  rintro e V2 ⟨rfl, hb2⟩
  have hs2 := hb2.size
  have hac2 : AC V2 w.heap.size a (.slice p a.bytes.length cap) := (hb2.block _ (by omega)).trans HAC.out
  have HJ2 : Hid _ := HJ1.out.below hb2
  have HK2 : Hid (KS (SJ gb bb) w V2) := HK1.out.trans (KS.of hb2)
  have HR2 : Hid ((V2.alloc (.cells ZL.toArray 45 (0, 0))).heap[V2.heap.size]? = some (.cells ZL.toArray 45 (0, 0))) := heap_alloc_new _ _
  have HS3 : Hid (∀ V3, V3 = (V2.alloc (.cells ZL.toArray 45 (0, 0))).setRow V2.heap.size GL.toArray → V3.cell? ⟨w.heap.size, 0, none⟩ = some (.int .i64 4) ∧ V3.cell? ⟨w.heap.size, 1, none⟩ = some (.int .i64 G) ∧ Hid (AC V3 w.heap.size a (.slice p a.bytes.length cap)) ∧ Hid (JM B V3 mb gb rb bb n l) ∧ Hid (V3.heap[V2.heap.size]? = some (.cells GL.toArray 45 (0, 0))) ∧ Hid (KS (SJ gb bb) w V3) ∧ V3.heap.size = V2.heap.size + 1) := fun V3 hV3 => by
    have hb3 : Below V2.heap.size V2 V3 := by rw [hV3]; exact below_setRow ((Below.refl _ _).alloc (Nat.le_refl _) _) (Nat.le_refl _) _
    have hac3 : AC V3 w.heap.size a (.slice p a.bytes.length cap) := (hb3.block _ (by omega)).trans hac2
    exact ⟨(HAF.out V3 hac3).1, (HAF.out V3 hac3).2, hac3, HJ2.out.below hb3, (by rw [hV3]; exact setRow_heap _ _ _ _ _ _ HR2.out), HK2.out.trans (KS.of hb3), (by rw [hV3]; simp)⟩
  have HS4 : Hid (∀ V3 V4, Hid (AC V3 w.heap.size a (.slice p a.bytes.length cap)) → Hid (JM B V3 mb gb rb bb n l) → Hid (V3.heap[V2.heap.size]? = some (.cells GL.toArray 45 (0, 0))) → Hid (KS (SJ gb bb) w V3) → V4 = V3.setRow V2.heap.size ZL.toArray → V4.cell? ⟨w.heap.size, 0, none⟩ = some (.int .i64 4) ∧ V4.cell? ⟨w.heap.size, 1, none⟩ = some (.int .i64 G) ∧ Hid (AC V4 w.heap.size a (.slice p a.bytes.length cap)) ∧ Hid (JM B V4 mb gb rb bb n l) ∧ Hid (V4.heap[V2.heap.size]? = some (.cells ZL.toArray 45 (0, 0))) ∧ Hid (KS (SJ gb bb) w V4) ∧ V4.heap.size = V3.heap.size) := fun V3 V4 hA hJ hR hK hV4 => by
    have hkb : KB V2.heap.size V3 V4 := by rw [hV4]; exact KB.set (KB.refl _ _) _
    have hlt := row_lt hR.out
    have hac3 : AC V4 w.heap.size a (.slice p a.bytes.length cap) := (hkb.2 _ (by omega) (by omega)).trans hA.out
    refine ⟨(HAF.out V4 hac3).1, (HAF.out V4 hac3).2, hac3, ⟨hJ.out.pm.kb hkb (by omega) (by omega), hJ.out.rm.kb hkb (by omega) (by omega), hJ.out.d1, hJ.out.d2, hJ.out.d3, Nat.le_trans hJ.out.low hkb.1.size, hJ.out.bg, hJ.out.bbb⟩, (by rw [hV4]; exact setRow_heap _ _ _ _ _ _ hR.out), ⟨hkb.1.os.trans hK.out.os, hkb.1.tape.trans hK.out.tape, hkb.1.output.trans hK.out.output, Nat.le_trans hK.out.size hkb.1.size, fun j hj hS => (hkb.2 j (Nat.lt_of_lt_of_le hj hK.out.size) (by omega)).trans (hK.out.blk j hj hS)⟩, (by rw [hV4]; simp)⟩
  clear hb2 hac2 HGR HAC
  go_wp2_with (first
    | (refine wpList_store_rowL rfl 45 _ _ rfl V2.heap.size GL.toArray rfl rfl 45 ZL.toArray HR2.out (info128a _ HGA.out) (HZS.out.trans HGA.out.symm) HG1.out ?_; intro V3 hV3; obtain ⟨hd0, hd1, HA3, HJ3, HR3, HK3, hs3⟩ := HS3.out V3 hV3; clear hV3 HR2 HS3 HJ2 HK2)
    | (refine wpList_load_mid rfl 45 _ rfl V2.heap.size 0 rfl GL _ (rangeAt_row HR3.out) Try.underlying45 rfl HGI.out ?_)
    | (refine wpList_build rfl 45 #[] rfl #[] (.agg ZL.toArray) (by simp) (HBD.out _) ?_)
    | (refine wpList_store_rowL rfl 45 _ _ rfl V2.heap.size ZL.toArray rfl rfl 45 GL.toArray HR3.out (info128a _ HZS.out) (HGA.out.trans HZS.out.symm) HZ1.out ?_; intro V4 hV4; obtain ⟨he0, he1, HA4, HJ4, HR4, HK4, hs4⟩ := HS4.out V3 V4 HA3 HJ3 HR3 HK3 hV4; clear hV4 HA3 HJ3 HR3 HK3 HS4 hd0 hd1))
  refine Calls.mono (HPU.out V4 HJ4.out) ?_
  rintro e V5 ⟨rfl, hP5, hK5⟩
  obtain ⟨_, hf1⟩ := HAF.out V5 ((hK5.2 _ (by omega) (by omega)).trans HA4.out)
  have HR5 : Hid (V5.rangeAt V2.heap.size 0 ZL) := rangeAt_row ((hK5.2 _ (by omega) (by omega)).trans HR4.out)
  have HRP5 : Hid _ := HRP.out V5 (HJ4.out.rm.kb hK5 (Ne.symm HJ1.out.d1) (Ne.symm HJ1.out.d2))
  have HK5 : Hid (KS (SJ gb bb) w V5) := HK4.out.trans (KS.kb hK5 (.inl rfl))
  have hs5 := hK5.1.size
  have HP5 : Hid _ := hP5
  have HZI : Hid ((Try.prog.info? 45).map (·.size) = some ZL.length) := info128 ZL (by have := HZS.out; simpa using this)
  clear hK5 hP5 he0 he1 HPU HRP
  go_wp2_with (refine wpList_load_mid rfl 45 _ rfl V2.heap.size 0 rfl ZL _ HR5.out Try.underlying45 rfl HZI.out ?_)
  refine Calls.mono HRP5.out ?_
  rintro e V6 ⟨⟨vv, rfl⟩, hR6, hK6⟩
  have HEND : Hid (JM B V6 mb gb rb bb n L' ∧ KS (SJ gb bb) w V6) := ⟨⟨HP5.out.kb hK6 HJ1.out.d3 HJ1.out.d2, hR6, HJ1.out.d1, HJ1.out.d2, HJ1.out.d3, by have := HJ1.out.low; have := hK6.1.size; omega, HJ1.out.bg, HJ1.out.bbb⟩, HK5.out.trans (KS.kb hK6 (.inr rfl))⟩
  clear hR6 hK6 HRP5 hf1
  go_wp2
  go_ret
  exact ⟨rfl, HEND.out.1, HEND.out.2⟩
/-- The statements' do: both memories do the same. -/
theorem do_any (B mb gb rb bb n : Nat) (l : List UInt8) (a : Ac) (v : Value) (w : World) (h : JM B w mb gb rb bb n l) (hok : a.ok) (hv : ∀ W, Below B w W → HB W v a.bytes) :
    Calls Try.prog 12 #[.pointer (some ⟨mb, 0, none⟩), .pointer (some ⟨rb, 0, none⟩), .agg (acL a v).toArray] w fun e w' => DoEnd B mb gb rb bb n w (doL n l a) e w' := by
  by_cases h1 : a.kind = 1
  · by_cases hF : wF n a.addr = 0
    · exact do_1ok B mb gb rb bb n l a v w h hok h1 hF
    · exact do_1bad B mb gb rb bb n l a v w h hok h1 hF
  by_cases h2 : a.kind = 2
  · by_cases hF : wIn n a.addr a.bytes.length = true
    · exact do_2ok B mb gb rb bb n l a v w h hok hv h2 hF
    · exact do_2bad B mb gb rb bb n l a v w h hok hv h2 (by simpa using hF)
  by_cases h3 : a.kind = 3
  · by_cases hF : gF n a.g = 0
    · exact do_3ok B mb gb rb bb n l a v w h hok hv h3 hF
    · exact do_3bad B mb gb rb bb n l a v w h hok hv h3 hF
  by_cases h4 : a.kind = 4
  · by_cases hF : gF n a.g = 0
    · exact do_4ok B mb gb rb bb n l a v w h hok hv h4 hF
    · exact do_4bad B mb gb rb bb n l a v w h hok hv h4 hF
  exact do_else B mb gb rb bb n l a v w h hok h1 h2 h3 h4
end Go.Proofs.Ytikchlmfklbojaa.MC
