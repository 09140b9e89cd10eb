/- Contract of the statements' do. -/
import Derived.Test.YtikchlmfklbojaaML
set_option linter.unusedVariables false
set_option linter.unusedSimpArgs false
namespace Go.Proofs.Ytikchlmfklbojaa.MC
open Go.RowKit

/-- What do hands back. -/
def DoEnd (B mb gb rb bb n : Nat) (w : World) (l' : List UInt8) (e : Ending) (w' : World) : Prop := e = .returned (.bool true) ∧ JM B w' mb gb rb bb n l' ∧ KS (SJ gb bb) w w'
set_option maxHeartbeats 1000000 in
theorem do_else (B mb gb rb bb n : Nat) (l : List UInt8) (a : Ac) (v : Value) (w : World) (h : JM B w mb gb rb bb n l) (hok : a.ok) (h1 : a.kind ≠ 1) (h2 : a.kind ≠ 2) (h3 : a.kind ≠ 3) (h4 : a.kind ≠ 4) :
    Calls Try.prog 12 #[.pointer (some ⟨mb, 0, none⟩), .pointer (some ⟨rb, 0, none⟩), .agg (acL a v).toArray] w fun e w' => DoEnd B mb gb rb bb n w (doL n l a) e w' := by
  have HE : Hid (doL n l a = l) := by show _ = _; unfold doL; rw [if_neg h1, if_neg h2, if_neg h3, if_neg h4]
  rw [HE.out]
  obtain ⟨V1, hV1⟩ : ∃ V1, V1 = w.alloc (.cells (acL a v).toArray 34 (0, 0)) := ⟨_, rfl⟩
  have hbl : Below w.heap.size w V1 := by rw [hV1]; exact (Below.refl _ _).alloc (Nat.le_refl _) _
  have hJ1 := h.below hbl
  have hac : AC V1 w.heap.size a v := by rw [hV1]; exact heap_alloc_new _ _
  have hs1 : V1.heap.size = w.heap.size + 1 := by rw [hV1]; simp
  have hgb := row_lt h.pm.row
  have hbb := row_lt h.rm.row
  have hmb := row_lt h.pm.head
  have hrb := row_lt h.rm.head
  have HJ1 : Hid _ := hJ1
  have HAC : Hid _ := hac
  have HK1 : Hid (KS (SJ gb bb) w V1) := KS.of hbl
  obtain ⟨N, hN⟩ : ∃ N, N = 128 * n := ⟨_, rfl⟩
  have hNq : (N : Int) / 128 = (n : Int) := by omega
  have hn4 := h.pm.le
  have hN2 : N ≤ 524288 := by omega
  have hcR : V1.cell? ⟨rb, 0, none⟩ = some (.slice (some ⟨bb, 0, none⟩) N N) := by rw [hN]; exact hJ1.rm.cell
  obtain ⟨hc0, hc1, hc2, hc3, hc4⟩ := hac.facts
  have HOK : Hid (Ac.ok a) := hok
  unfold acL at hV1 ⊢
  have b1 : (a.kind == 1) = false := by simpa using h1
  have b2 : (a.kind == 2) = false := by simpa using h2
  have b3 : (a.kind == 3) = false := by simpa using h3
  have b4 : (a.kind == 4) = false := by simpa using h4
  clear hJ1 hac hN hbl h hok h1 h2 h3 h4
  rw [hV1] at hcR hc0
  go_enter Try.func12, Try.ntmps12
  go_wp2
  rw [← hV1]
  go_ret
  exact ⟨rfl, HJ1.out, HK1.out⟩
set_option maxHeartbeats 1000000 in
theorem do_1bad (B mb gb rb bb n : Nat) (l : List UInt8) (a : Ac) (v : Value) (w : World) (h : JM B w mb gb rb bb n l) (hok : a.ok) (h1 : a.kind = 1) (hF : wF n a.addr ≠ 0) :
    Calls Try.prog 12 #[.pointer (some ⟨mb, 0, none⟩), .pointer (some ⟨rb, 0, none⟩), .agg (acL a v).toArray] w fun e w' => DoEnd B mb gb rb bb n w (doL n l a) e w' := by
  have HE : Hid (doL n l a = l) := by show _ = _; unfold doL; rw [if_pos h1, if_neg hF]
  rw [HE.out]
  obtain ⟨V1, hV1⟩ : ∃ V1, V1 = w.alloc (.cells (acL a v).toArray 34 (0, 0)) := ⟨_, rfl⟩
  have hbl : Below w.heap.size w V1 := by rw [hV1]; exact (Below.refl _ _).alloc (Nat.le_refl _) _
  have hJ1 := h.below hbl
  have hac : AC V1 w.heap.size a v := by rw [hV1]; exact heap_alloc_new _ _
  have hs1 : V1.heap.size = w.heap.size + 1 := by rw [hV1]; simp
  have hgb := row_lt h.pm.row
  have hbb := row_lt h.rm.row
  have hmb := row_lt h.pm.head
  have hrb := row_lt h.rm.head
  have HJ1 : Hid _ := hJ1
  have HAC : Hid _ := hac
  have HK1 : Hid (KS (SJ gb bb) w V1) := KS.of hbl
  obtain ⟨N, hN⟩ : ∃ N, N = 128 * n := ⟨_, rfl⟩
  have hNq : (N : Int) / 128 = (n : Int) := by omega
  have hn4 := h.pm.le
  have hN2 : N ≤ 524288 := by omega
  have hcR : V1.cell? ⟨rb, 0, none⟩ = some (.slice (some ⟨bb, 0, none⟩) N N) := by rw [hN]; exact hJ1.rm.cell
  obtain ⟨hc0, hc1, hc2, hc3, hc4⟩ := hac.facts
  have HOK : Hid (Ac.ok a) := hok
  unfold acL at hV1 ⊢
  have HSW : Hid _ := setword_bad (.pointer (some ⟨mb, 0, none⟩)) (a.addr : Int) (a.word : Int) (wF n a.addr) V1 hF (wfault_any mb n n _ a.addr V1 hJ1.pm.cell h.pm.pos (by omega) hok.addr)
  have HRW : Hid _ := rwithin_any rb bb n (128 * n) a.addr 8 l V1 hJ1.rm.rr hok.addr (by omega)
  rw [h1] at hc0 hV1 ⊢
  rcases wF_pos hF with ⟨h8, hf⟩ | ⟨h8, hw, hf⟩
  · rw [hf] at HSW
    have h8I : ((a.addr : Int) % 8 != 0) = true := by rw [bne_iff_ne]; omega
    generalize a.addr = A at *
    clear hJ1 hac hN hbl h hok h1 hF h8 hf HRW HAC
    rw [hV1] at hcR hc0 hc2 hc3
    go_enter Try.func12, Try.ntmps12
    go_wp2_with fail
    rw [← hV1] at hcR hc0 hc2 hc3 ⊢
    clear hV1
    refine Calls.mono HSW.out ?_
    rintro e w2 ⟨rfl, rfl⟩
    go_wp2
    go_ret
    exact ⟨rfl, HJ1.out, HK1.out⟩
  · rw [hf] at HSW
    rw [hw] at HRW
    have h8I : ((a.addr : Int) % 8 != 0) = false := by rw [bne_eq_false_iff_eq]; omega
    generalize a.addr = A at *
    clear hJ1 hac hN hbl h hok h1 hF h8 hf HAC
    rw [hV1] at hcR hc0 hc2 hc3
    go_enter Try.func12, Try.ntmps12
    go_wp2_with fail
    rw [← hV1] at hcR hc0 hc2 hc3 ⊢
    clear hV1
    refine Calls.mono HSW.out ?_
    rintro e w2 ⟨rfl, rfl⟩
    go_wp2_with fail
    refine Calls.mono HRW.out ?_
    rintro e w2 ⟨rfl, rfl⟩
    go_wp2
    go_ret
    exact ⟨rfl, HJ1.out, HK1.out⟩
set_option maxHeartbeats 1000000 in
theorem do_1ok (B mb gb rb bb n : Nat) (l : List UInt8) (a : Ac) (v : Value) (w : World) (h : JM B w mb gb rb bb n l) (hok : a.ok) (h1 : a.kind = 1) (hF : wF n a.addr = 0) :
    Calls Try.prog 12 #[.pointer (some ⟨mb, 0, none⟩), .pointer (some ⟨rb, 0, none⟩), .agg (acL a v).toArray] w fun e w' => DoEnd B mb gb rb bb n w (doL n l a) e w' := by
  have HE : Hid (doL n l a = splice l a.addr (W1.le 8 a.word)) := by show _ = _; unfold doL; rw [if_pos h1, if_pos hF]
  rw [HE.out]
  obtain ⟨V1, hV1⟩ : ∃ V1, V1 = w.alloc (.cells (acL a v).toArray 34 (0, 0)) := ⟨_, rfl⟩
  have hbl : Below w.heap.size w V1 := by rw [hV1]; exact (Below.refl _ _).alloc (Nat.le_refl _) _
  have hJ1 := h.below hbl
  have hac : AC V1 w.heap.size a v := by rw [hV1]; exact heap_alloc_new _ _
  have hs1 : V1.heap.size = w.heap.size + 1 := by rw [hV1]; simp
  have hgb := row_lt h.pm.row
  have hbb := row_lt h.rm.row
  have hmb := row_lt h.pm.head
  have hrb := row_lt h.rm.head
  have HJ1 : Hid _ := hJ1
  have HAC : Hid _ := hac
  have HK1 : Hid (KS (SJ gb bb) w V1) := KS.of hbl
  obtain ⟨N, hN⟩ : ∃ N, N = 128 * n := ⟨_, rfl⟩
  have hNq : (N : Int) / 128 = (n : Int) := by omega
  have hn4 := h.pm.le
  have hN2 : N ≤ 524288 := by omega
  have hcR : V1.cell? ⟨rb, 0, none⟩ = some (.slice (some ⟨bb, 0, none⟩) N N) := by rw [hN]; exact hJ1.rm.cell
  obtain ⟨hc0, hc1, hc2, hc3, hc4⟩ := hac.facts
  have HOK : Hid (Ac.ok a) := hok
  unfold acL at hV1 ⊢
  obtain ⟨h8, hw⟩ := wF_zero hF
  have HSW : Hid _ := setword_ok mb gb n a.addr a.word l V1 hJ1.pm hok.addr hok.word h8 hw
  have HRW : Hid (∀ W, RM W rb bb n l → Calls Try.prog 14 #[.pointer (some ⟨rb, 0, none⟩), .int .u64 (a.addr : Int), .int .i64 8] W fun e w' => e = .returned (.bool true) ∧ W = w') := fun W hW => by
    have := rwithin_any rb bb n (128 * n) a.addr 8 l W hW.rr hok.addr (by omega)
    rw [hw] at this
    exact this
  have HRS : Hid (∀ W, RM W rb bb n l → Calls Try.prog 28 #[.pointer (some ⟨rb, 0, none⟩), .int .u64 (a.addr : Int), .int .u64 (a.word : Int)] W fun e w' => (∃ v, e = .returned v) ∧ RM w' rb bb n (splice l a.addr (W1.le 8 a.word)) ∧ KB bb W w') := fun W hW => rsetword_ok rb bb n a.addr a.word l W hW hok.word (wIn_le hw (by omega))
  rw [h1] at hc0 hV1 ⊢
  have h8I : ((a.addr : Int) % 8 != 0) = false := by rw [bne_eq_false_iff_eq]; omega
  have HAF : Hid (∀ W, AC W w.heap.size a v → W.cell? ⟨w.heap.size, 2, none⟩ = some (.int .u64 (a.addr : Int)) ∧ W.cell? ⟨w.heap.size, 3, none⟩ = some (.int .u64 (a.word : Int))) := fun W hW => ⟨hW.facts.2.2.1, hW.facts.2.2.2.1⟩
  clear hJ1 hac hN hbl h hok h1 hF h8 hw
  generalize a.addr = A at *
  generalize a.word = X at *
  rw [hV1] at hcR hc0 hc2 hc3
  go_enter Try.func12, Try.ntmps12
  go_wp2_with fail
  rw [← hV1] at ⊢
  clear hV1 hcR hc0 hc2 hc3
  refine Calls.mono HSW.out ?_
  rintro e V2 ⟨rfl, hP2, hK2⟩
  have hac2 : AC V2 w.heap.size a v := (hK2.2 _ (by omega) (by omega)).trans HAC.out
  obtain ⟨hd2, hd3⟩ := HAF.out V2 hac2
  have hRM2 : RM V2 rb bb n l := HJ1.out.rm.kb hK2 (Ne.symm HJ1.out.d1) (Ne.symm HJ1.out.d2)
  have HRW2 : Hid _ := HRW.out V2 hRM2
  have HRS2 : Hid _ := HRS.out V2 hRM2
  have HP2 : Hid _ := hP2
  have HK2 : Hid (KS (SJ gb bb) w V2) := HK1.out.trans (KS.kb hK2 (.inl rfl))
  have hs2 := hK2.1.size
  clear hac2 hRM2 hP2 hK2 HRW HRS HSW
  go_wp2_with fail
  refine Calls.mono HRW2.out ?_
  rintro e w2 ⟨rfl, rfl⟩
  go_wp2_with fail
  refine Calls.mono HRS2.out ?_
  rintro e V3 ⟨⟨vv, rfl⟩, hR3, hK3⟩
  have HEND : Hid (JM B V3 mb gb rb bb n (splice l A (W1.le 8 X)) ∧ KS (SJ gb bb) w V3) := ⟨⟨HP2.out.kb hK3 HJ1.out.d3 HJ1.out.d2, hR3, HJ1.out.d1, HJ1.out.d2, HJ1.out.d3, by have := HJ1.out.low; have := HK2.out.size; have := hK3.1.size; have := HK1.out.size; omega, HJ1.out.bg, HJ1.out.bbb⟩, HK2.out.trans (KS.kb hK3 (.inr rfl))⟩
  clear hR3 hK3 HP2 HK2 HRS2 HRW2 hd2 hd3
  go_wp2
  go_ret
  exact ⟨rfl, HEND.out.1, HEND.out.2⟩
set_option maxHeartbeats 1000000 in
theorem do_2bad (B mb gb rb bb n : Nat) (l : List UInt8) (a : Ac) (v : Value) (w : World) (h : JM B w mb gb rb bb n l) (hok : a.ok) (hv : ∀ W, Below B w W → HB W v a.bytes) (h1 : a.kind = 2) (hF : wIn n a.addr a.bytes.length = false) :
    Calls Try.prog 12 #[.pointer (some ⟨mb, 0, none⟩), .pointer (some ⟨rb, 0, none⟩), .agg (acL a v).toArray] w fun e w' => DoEnd B mb gb rb bb n w (doL n l a) e w' := by
  have HE : Hid (doL n l a = l) := by show _ = _; unfold doL; rw [if_neg (by omega), if_pos h1, if_neg (by rw [hF]; decide)]
  rw [HE.out]
  obtain ⟨p, cap, rfl, _⟩ := hb_any (hv w (Below.refl _ _))
  obtain ⟨V1, hV1⟩ : ∃ V1, V1 = w.alloc (.cells (acL a (.slice p a.bytes.length cap)).toArray 34 (0, 0)) := ⟨_, rfl⟩
  have hbl : Below w.heap.size w V1 := by rw [hV1]; exact (Below.refl _ _).alloc (Nat.le_refl _) _
  have hJ1 := h.below hbl
  have hac : AC V1 w.heap.size a (.slice p a.bytes.length cap) := by rw [hV1]; exact heap_alloc_new _ _
  have hs1 : V1.heap.size = w.heap.size + 1 := by rw [hV1]; simp
  have hgb := row_lt h.pm.row
  have hbb := row_lt h.rm.row
  have hmb := row_lt h.pm.head
  have hrb := row_lt h.rm.head
  have HJ1 : Hid _ := hJ1
  have HAC : Hid _ := hac
  have HK1 : Hid (KS (SJ gb bb) w V1) := KS.of hbl
  obtain ⟨N, hN⟩ : ∃ N, N = 128 * n := ⟨_, rfl⟩
  have hNq : (N : Int) / 128 = (n : Int) := by omega
  have hn4 := h.pm.le
  have hN2 : N ≤ 524288 := by omega
  have hcR : V1.cell? ⟨rb, 0, none⟩ = some (.slice (some ⟨bb, 0, none⟩) N N) := by rw [hN]; exact hJ1.rm.cell
  obtain ⟨hc0, hc1, hc2, hc3, hc4⟩ := hac.facts
  have HOK : Hid (Ac.ok a) := hok
  unfold acL at hV1 ⊢
  have HWR : Hid _ := write_bad mb gb n n a.addr a.bytes.length l p cap V1 hJ1.pm.pr hok.addr hok.len hF
  have HRW : Hid _ := rwithin_any rb bb n (128 * n) a.addr a.bytes.length l V1 hJ1.rm.rr hok.addr hok.len
  rw [hF] at HRW
  rw [h1] at hc0 hV1 ⊢
  clear hJ1 hac hN hbl h hok h1 hF hv HAC
  generalize a.addr = A at *
  generalize a.bytes.length = M at *
  rw [hV1] at hcR hc0 hc2 hc3 hc4
  go_enter Try.func12, Try.ntmps12
  go_wp2_with fail
  rw [← hV1] at hcR hc0 hc2 hc3 hc4 ⊢
  clear hV1
  refine Calls.mono HWR.out ?_
  rintro e w2 ⟨rfl, rfl⟩
  go_wp2_with fail
  refine Calls.mono HRW.out ?_
  rintro e w2 ⟨rfl, rfl⟩
  go_wp2
  go_ret
  exact ⟨rfl, HJ1.out, HK1.out⟩
set_option maxHeartbeats 2000000 in
theorem do_2ok (B mb gb rb bb n : Nat) (l : List UInt8) (a : Ac) (v : Value) (w : World) (h : JM B w mb gb rb bb n l) (hok : a.ok) (hv : ∀ W, Below B w W → HB W v a.bytes) (h1 : a.kind = 2) (hF : wIn n a.addr a.bytes.length = true) :
    Calls Try.prog 12 #[.pointer (some ⟨mb, 0, none⟩), .pointer (some ⟨rb, 0, none⟩), .agg (acL a v).toArray] w fun e w' => DoEnd B mb gb rb bb n w (doL n l a) e w' := by
  have HE : Hid (doL n l a = splice l a.addr a.bytes) := by show _ = _; unfold doL; rw [if_neg (by omega), if_pos h1, if_pos hF]
  rw [HE.out]
  obtain ⟨p, cap, rfl, _⟩ := hb_any (hv w (Below.refl _ _))
  obtain ⟨V1, hV1⟩ : ∃ V1, V1 = w.alloc (.cells (acL a (.slice p a.bytes.length cap)).toArray 34 (0, 0)) := ⟨_, rfl⟩
  have hbl : Below w.heap.size w V1 := by rw [hV1]; exact (Below.refl _ _).alloc (Nat.le_refl _) _
  have hJ1 := h.below hbl
  have hac : AC V1 w.heap.size a (.slice p a.bytes.length cap) := by rw [hV1]; exact heap_alloc_new _ _
  have hs1 : V1.heap.size = w.heap.size + 1 := by rw [hV1]; simp
  have hgb := row_lt h.pm.row
  have hbb := row_lt h.rm.row
  have hmb := row_lt h.pm.head
  have hrb := row_lt h.rm.head
  have HJ1 : Hid _ := hJ1
  have HAC : Hid _ := hac
  have HK1 : Hid (KS (SJ gb bb) w V1) := KS.of hbl
  obtain ⟨N, hN⟩ : ∃ N, N = 128 * n := ⟨_, rfl⟩
  have hNq : (N : Int) / 128 = (n : Int) := by omega
  have hn4 := h.pm.le
  have hN2 : N ≤ 524288 := by omega
  have hcR : V1.cell? ⟨rb, 0, none⟩ = some (.slice (some ⟨bb, 0, none⟩) N N) := by rw [hN]; exact hJ1.rm.cell
  obtain ⟨hc0, hc1, hc2, hc3, hc4⟩ := hac.facts
  have HOK : Hid (Ac.ok a) := hok
  unfold acL at hV1 ⊢
  have HV : Hid (∀ W, KS (SJ gb bb) w W → HB W (.slice p a.bytes.length cap) a.bytes) := fun W hW => hv W (h.bel hW)
  have HWR : Hid _ := write_ok mb gb n a.addr l a.bytes _ V1 hJ1.pm hok.addr hF (fun W hW => HV.out W (HK1.out.trans (KS.kb hW (.inl rfl))))
  have HRW : Hid (∀ W, RM W rb bb n l → Calls Try.prog 14 #[.pointer (some ⟨rb, 0, none⟩), .int .u64 (a.addr : Int), .int .i64 (a.bytes.length : Int)] W fun e w' => e = .returned (.bool true) ∧ W = w') := fun W hW => by
    have := rwithin_any rb bb n (128 * n) a.addr a.bytes.length l W hW.rr hok.addr hok.len
    rw [hF] at this
    exact this
  rw [h1] at hc0 hV1 ⊢
  have HAF : Hid (∀ W, AC W w.heap.size a (.slice p a.bytes.length cap) → W.cell? ⟨w.heap.size, 2, none⟩ = some (.int .u64 (a.addr : Int)) ∧ W.cell? ⟨w.heap.size, 4, none⟩ = some (.slice p a.bytes.length cap)) := fun W hW => ⟨hW.facts.2.2.1, hW.facts.2.2.2.2⟩
  have HIN : Hid (0 < a.bytes.length → a.addr + a.bytes.length ≤ N) := fun h0 => by rw [hN]; exact wIn_le hF h0
  have HN : Hid _ := hN
  clear hJ1 hac hN hbl h hok h1 hF hv
  generalize a.addr = A at *
  generalize a.bytes = BS at *
  rw [hV1] at hcR hc0 hc2 hc3 hc4
  go_enter Try.func12, Try.ntmps12
  go_wp2_with fail
  rw [← hV1] at ⊢
  clear hV1 hcR hc0 hc2 hc3 hc4
  refine Calls.mono HWR.out ?_
  rintro e V2 ⟨rfl, hP2, hK2⟩
  have hac2 : AC V2 w.heap.size a (.slice p BS.length cap) := (hK2.2 _ (by omega) (by omega)).trans HAC.out
  obtain ⟨hd2, hd4⟩ := HAF.out V2 hac2
  have hRM2 : RM V2 rb bb n l := HJ1.out.rm.kb hK2 (Ne.symm HJ1.out.d1) (Ne.symm HJ1.out.d2)
  have HRW2 : Hid _ := HRW.out V2 hRM2
  have HP2 : Hid _ := hP2
  have HRM2 : Hid _ := hRM2
  have HK2 : Hid (KS (SJ gb bb) w V2) := HK1.out.trans (KS.kb hK2 (.inl rfl))
  have hs2 := hK2.1.size
  clear hac2 hRM2 hP2 hK2 HRW HWR
  go_wp2_with fail
  refine Calls.mono HRW2.out ?_
  rintro e w2 ⟨rfl, rfl⟩
  by_cases h0 : BS.length = 0
  · have hB0 : BS = [] := List.eq_nil_of_length_eq_zero h0
    have HEND : Hid (JM B V2 mb gb rb bb n (splice l A BS) ∧ KS (SJ gb bb) w V2) := by
      refine ⟨⟨HP2.out, ?_, HJ1.out.d1, HJ1.out.d2, HJ1.out.d3, by have := HJ1.out.low; have := HK2.out.size; have := HK1.out.size; omega, HJ1.out.bg, HJ1.out.bbb⟩, HK2.out⟩
      rw [hB0, splice_nil]; exact HRM2.out
    rw [h0] at hd4 ⊢
    clear HV HIN HAF hB0
    go_wp2
    go_ret
    exact ⟨rfl, HEND.out.1, HEND.out.2⟩
  · have h0I : (0 : Int) < (BS.length : Int) := by omega
    have hAB := HIN.out (by omega)
    have hb2 := HV.out V2 HK2.out
    obtain ⟨sb, so, cap', e, hcap, hr⟩ := hb_form hb2 (fun e => h0 (by rw [e]; rfl))
    simp only [Value.slice.injEq] at e
    obtain ⟨rfl, _, rfl⟩ := e
    obtain ⟨CS, hCS⟩ : ∃ CS, CS = BS.map B8 := ⟨_, rfl⟩
    have hCL : CS.length = BS.length := by rw [hCS, List.length_map]
    have HC1 : Hid (∀ v ∈ CS, v.oneCell' = true) := by rw [hCS]; exact B8_one _
    have HCE : Hid (∀ W, KB bb V2 W → W.cell? ⟨rb, 0, none⟩ = some (.slice (some ⟨bb, 0, none⟩) N N) ∧ W.cell? ⟨w.heap.size, 2, none⟩ = some (.int .u64 (A : Int)) ∧ W.cell? ⟨w.heap.size, 4, none⟩ = some (.slice (some ⟨sb, so, none⟩) BS.length cap)) := fun W hW => by
      refine ⟨?_, ?_, ?_⟩
      · rw [World.cell?_of_block (w := V2) (a := ⟨rb, 0, none⟩) (hW.2 rb (row_lt HRM2.out.head) HRM2.out.ne), HN.out]; exact HRM2.out.cell
      · rw [World.cell?_of_block (w := V2) (a := ⟨w.heap.size, 2, none⟩) (hW.2 w.heap.size (by omega) (by omega))]; exact hd2
      · rw [World.cell?_of_block (w := V2) (a := ⟨w.heap.size, 4, none⟩) (hW.2 w.heap.size (by omega) (by omega))]; exact hd4
    have HSR : Hid (∀ j v, CS[j]? = some v → V2.drew.cell? ((⟨sb, so, none⟩ : Addr).add j) = some v) := fun j v hv => by
      rw [add_none]; rw [hCS] at hv; exact hr j v hv
    have HCN : Hid (CS.length = Nat.min BS.length (N - A)) := by show _ = _; rw [hCL]; exact (Nat.min_eq_left (by omega)).symm
    have HROW : Hid (V2.drew.heap[bb]? = some (.cells (l.map B8).toArray 5 (0, 0))) := by rw [heap_drew]; exact HRM2.out.row
    have HFIT : Hid (0 + A + CS.length ≤ (l.map B8).length) := by show _ ≤ _; rw [hCL, List.length_map, HRM2.out.len]; have := HN.out; omega
    have HEND : Hid (JM B (V2.drew.setRow bb (splice (l.map B8) (0 + A) CS).toArray) mb gb rb bb n (splice l A BS) ∧ KS (SJ gb bb) w (V2.drew.setRow bb (splice (l.map B8) (0 + A) CS).toArray)) := by
      have hKB : KB bb V2 (V2.drew.setRow bb (splice (l.map B8) (0 + A) CS).toArray) := KB.set (KB.drew (KB.refl _ _)) _
      refine ⟨⟨HP2.out.kb hKB HJ1.out.d3 HJ1.out.d2, ⟨?_, ?_, ?_, HRM2.out.pos, HRM2.out.le, HRM2.out.ne⟩, HJ1.out.d1, HJ1.out.d2, HJ1.out.d3, by have := HJ1.out.low; have := HK2.out.size; have := HK1.out.size; simp [heap_drew]; omega, HJ1.out.bg, HJ1.out.bbb⟩, HK2.out.trans (KS.kb hKB (.inr rfl))⟩
      · rw [setRow_other _ _ _ _ HRM2.out.ne, heap_drew]; exact HRM2.out.head
      · unfold AR; rw [setRow_heap _ _ _ _ _ _ HROW.out, hCS, splice_map, Nat.zero_add]
      · rw [splice_len _ _ _ (by rw [HRM2.out.len, ← HN.out]; omega)]; exact HRM2.out.len
    have hs2 := fun W => slice_off W bb 0 N N A (by omega) (by omega)
    have hs3 := fun W => slice_offA W bb 0 N N A (by omega) (by omega)
    clear HV HIN HAF hb2 hr hCS hCL
    go_wp2
    refine wp_region_held_drew (S := KB bb V2) (by kernel_rfl) (KB.drew (KB.refl _ _)) (fun hHeld => ?_)
    refine wpAnyH_take (i := 0) (oi := { dst := some 71, op := Go.Op.move (Go.Operand.tmp 1), type := 29, pos := _, after := #[], guard := none }) (v := .pointer (some ⟨rb, 0, none⟩)) rfl (by kernel_rfl) (by kernel_rfl) (by kernel_rfl) (fun _ _ _ h => h) (Or.inl ⟨by rfl, fun w' hw' => ?_⟩) hHeld ?_
    · first | (go_simp; done) | (go_simp; rfl)
    try simp only [Act.put, List.setIfInBounds_toArray, List.set_cons_zero, List.set_cons_succ]
    refine wpAnyH_take (i := 1) (oi := { dst := some 72, op := Go.Op.nilCheck (Go.Operand.tmp 71), type := 0, pos := _, after := #[{ on := 0, ground := Go.Ground.data }], guard := none }) (v := .pointer (some ⟨rb, 0, none⟩)) rfl (by kernel_rfl) (by kernel_rfl) (by kernel_rfl) (fun _ _ _ h => h) (Or.inl ⟨by rfl, fun w' hw' => ?_⟩) hHeld ?_
    · first | (go_simp; done) | (go_simp; rfl)
    try simp only [Act.put, List.setIfInBounds_toArray, List.set_cons_zero, List.set_cons_succ]
    refine wpAnyH_take (i := 2) (oi := { dst := some 73, op := Go.Op.fieldAddr 43 (Go.Operand.tmp 72) 0, type := 0, pos := _, after := #[{ on := 1, ground := Go.Ground.data }], guard := none }) (v := .pointer (some ⟨rb, 0, none⟩)) rfl (by kernel_rfl) (by kernel_rfl) (by kernel_rfl) (fun _ _ _ h => h) (Or.inl ⟨by rfl, fun w' hw' => ?_⟩) hHeld ?_
    · first | (go_simp; done) | (go_simp; rfl)
    try simp only [Act.put, List.setIfInBounds_toArray, List.set_cons_zero, List.set_cons_succ]
    refine wpAnyH_take (i := 3) (oi := { dst := some 74, op := Go.Op.load 32 (Go.Operand.tmp 73), type := 32, pos := _, after := #[{ on := 2, ground := Go.Ground.data }], guard := none }) (v := .slice (some ⟨bb, 0, none⟩) N N) rfl (by kernel_rfl) (by kernel_rfl) (by kernel_rfl) (fun _ _ _ h => h) (Or.inl ⟨by rfl, fun w' hw' => ?_⟩) hHeld ?_
    · have hcc := (HCE.out _ hw').1; first | (go_simp; done) | (go_simp; rfl)
    try simp only [Act.put, List.setIfInBounds_toArray, List.set_cons_zero, List.set_cons_succ]
    refine wpAnyH_take (i := 4) (oi := { dst := some 75, op := Go.Op.fieldAddr 34 (Go.Operand.tmp 5) 2, type := 0, pos := _, after := #[], guard := none }) (v := .pointer (some ⟨w.heap.size, 2, none⟩)) rfl (by kernel_rfl) (by kernel_rfl) (by kernel_rfl) (fun _ _ _ h => h) (Or.inl ⟨by rfl, fun w' hw' => ?_⟩) hHeld ?_
    · first | (go_simp; done) | (go_simp; rfl)
    try simp only [Act.put, List.setIfInBounds_toArray, List.set_cons_zero, List.set_cons_succ]
    refine wpAnyH_take (i := 5) (oi := { dst := some 76, op := Go.Op.load 23 (Go.Operand.tmp 75), type := 23, pos := _, after := #[{ on := 4, ground := Go.Ground.data }], guard := none }) (v := .int .u64 (A : Int)) rfl (by kernel_rfl) (by kernel_rfl) (by kernel_rfl) (fun _ _ _ h => h) (Or.inl ⟨by rfl, fun w' hw' => ?_⟩) hHeld ?_
    · have hcc := (HCE.out _ hw').2.1; first | (go_simp; done) | (go_simp; rfl)
    try simp only [Act.put, List.setIfInBounds_toArray, List.set_cons_zero, List.set_cons_succ]
    refine wpAnyH_take (i := 6) (oi := { dst := some 77, op := Go.Op.convert 23 3 (Go.Operand.tmp 76), type := 3, pos := _, after := #[{ on := 5, ground := Go.Ground.data }], guard := none }) (v := .int .i64 (A : Int)) rfl (by kernel_rfl) (by kernel_rfl) (by kernel_rfl) (fun _ _ _ h => h) (Or.inl ⟨by rfl, fun w' hw' => ?_⟩) hHeld ?_
    · first | (go_simp; done) | (go_simp; exact wrap_i64_in _ (by omega) (by omega))
    try simp only [Act.put, List.setIfInBounds_toArray, List.set_cons_zero, List.set_cons_succ]
    refine wpAnyH_take (i := 7) (oi := { dst := some 78, op := Go.Op.slice 32 (Go.Operand.tmp 74) (some (Go.Operand.tmp 77)) none none, type := 32, pos := _, after := #[{ on := 3, ground := Go.Ground.data }, { on := 6, ground := Go.Ground.data }], guard := none }) (v := .slice (some ⟨bb, 0 + A, none⟩) (N - A) (N - A)) rfl (by kernel_rfl) (by kernel_rfl) (by kernel_rfl) (fun _ _ _ h => h) (Or.inl ⟨by rfl, fun w' hw' => ?_⟩) hHeld ?_
    · first | (go_simp; done) | (go_simp; rfl)
    try simp only [Act.put, List.setIfInBounds_toArray, List.set_cons_zero, List.set_cons_succ]
    refine wpAnyH_take (i := 8) (oi := { dst := some 79, op := Go.Op.fieldAddr 34 (Go.Operand.tmp 5) 4, type := 0, pos := _, after := #[], guard := none }) (v := .pointer (some ⟨w.heap.size, 4, none⟩)) rfl (by kernel_rfl) (by kernel_rfl) (by kernel_rfl) (fun _ _ _ h => h) (Or.inl ⟨by rfl, fun w' hw' => ?_⟩) hHeld ?_
    · first | (go_simp; done) | (go_simp; rfl)
    try simp only [Act.put, List.setIfInBounds_toArray, List.set_cons_zero, List.set_cons_succ]
    refine wpAnyH_take (i := 9) (oi := { dst := some 80, op := Go.Op.load 32 (Go.Operand.tmp 79), type := 32, pos := _, after := #[{ on := 8, ground := Go.Ground.data }], guard := none }) (v := .slice (some ⟨sb, so, none⟩) BS.length cap) rfl (by kernel_rfl) (by kernel_rfl) (by kernel_rfl) (fun _ _ _ h => h) (Or.inl ⟨by rfl, fun w' hw' => ?_⟩) hHeld ?_
    · have hcc := (HCE.out _ hw').2.2; first | (go_simp; done) | (go_simp; rfl)
    try simp only [Act.put, List.setIfInBounds_toArray, List.set_cons_zero, List.set_cons_succ]
    refine wpAnyH_ready (rs := [10]) (by kernel_rfl) (by simp) ?_
    refine AllReadyH.cons (o := { dst := some 81, op := Go.Op.call { callee := Go.Callee.builtin Go.Builtin.copy, args := #[Go.Operand.tmp 78, Go.Operand.tmp 80], argTypes := #[32, 32] }, type := 3, pos := _, after := #[{ on := 7, ground := Go.Ground.data }, { on := 9, ground := Go.Ground.data }], guard := none }) rfl (fun K hK => ?_) AllReadyH.nil
    rw [if_pos (by rfl)]
    refine wp_copy_seg _ _ rfl bb (0 + A) (N - A) (N - A) (some ⟨sb, so, none⟩) BS.length cap rfl rfl (l.map B8) 5 HROW.out CS HCN.out (fun _ => ⟨_, rfl, HSR.out⟩) HFIT.out HC1.out ?_
    have hK2 := KB.set hHeld (splice (l.map B8) (0 + A) CS).toArray
    refine hK.out _ _ hK2 (fun _ => ?_)
    clear hK K
    try simp only [Act.put, List.setIfInBounds_toArray, List.set_cons_zero, List.set_cons_succ]
    refine wpAnyH_done (by kernel_rfl) ?_ _
    go_wp2
    go_ret
    have hE := HEND.out
    simp only [Nat.zero_add] at hE
    exact ⟨rfl, hE.1, hE.2⟩
end Go.Proofs.Ytikchlmfklbojaa.MC
