/- Contracts of aes's Stream and Mask where they refuse, and of an empty stream. -/
import Derived.Test.YtjohckgdbbhpdaaQ7
set_option linter.unusedVariables false
set_option linter.unusedSimpArgs false
namespace Go.Proofs.Ytjohckgdbbhpdaa
open Go.RowKit

theorem pstream_bad (KA NA : Array Value) (n : Int) (w : World) (h : n < 0 ∨ 1048576 < n) :
    Calls Try.prog 25 #[.agg KA, .agg NA, .int .i64 n] w fun e w' => e = .returned (.tuple #[.slice none 0 0, .int .i64 2]) ∧ Below w.heap.size w w' := by
  have hb : Below w.heap.size w ((w.alloc (.cells KA 26 (0, 0))).alloc (.cells NA 35 (0, 0))) := ((Below.refl _ _).alloc (Nat.le_refl _) _).alloc (by simp) _
  have HB : Hid _ := hb
  clear hb
  rcases h with h | h
  · go_enter Try.func25, Try.ntmps25
    go_wp2
    go_ret2
    exact ⟨rfl, HB.out⟩
  · have h0 : ¬ n < 0 := by omega
    go_enter Try.func25, Try.ntmps25
    go_wp2
    go_ret2
    exact ⟨rfl, HB.out⟩

set_option maxHeartbeats 8000000 in
set_option maxRecDepth 100000 in
theorem pstream_zero (key : List UInt8) (NA : Array Value) (w : World) (hk : key.length = 16) :
    Calls Try.prog 25 #[.agg (key.map B8).toArray, .agg NA, .int .i64 0] w fun e w' => ∃ p, e = .returned (.tuple #[.slice p 0 0, .int .i64 0]) ∧ Below w.heap.size w w' := by
  have hsu := fun W => pallSubs_any W
  have hex := fun W => pexpand_any key tabA W hk tabA_len
  have hFl := exA_len key tabA hk
  have htl := tabA_len
  generalize exA key tabA = F at *
  generalize tabA = T at *
  obtain ⟨KA, hKA⟩ : ∃ A, A = (key.map B8).toArray := ⟨_, rfl⟩
  obtain ⟨TA, hTA⟩ : ∃ A, A = (T.map B8).toArray := ⟨_, rfl⟩
  obtain ⟨FA, hFA⟩ : ∃ A, A = (F.map B8).toArray := ⟨_, rfl⟩
  rw [← hKA] at hex ⊢
  rw [← hTA] at hsu hex
  rw [← hFA] at hex
  have HKS : Hid (KA.size = 16) := by show _ = _; rw [hKA]; simp [hk]
  have HKI : Hid _ := info16 KA HKS.out
  have HTS : Hid (TA.size = 256) := by show _ = _; rw [hTA]; simp [htl]
  have HTI : Hid _ := info256 TA HTS.out
  have HT1 : Hid (TA.all (·.oneCell') = true) := by show _ = _; rw [hTA]; exact B8_onea _
  have HFS : Hid (FA.size = 176) := by show _ = _; rw [hFA]; simp [hFl]
  have HFI : Hid _ := info176 FA HFS.out
  have HF1 : Hid (FA.all (·.oneCell') = true) := by show _ = _; rw [hFA]; exact B8_onea _
  have hyv := fun W => zero256 W
  obtain ⟨ZT, hZT⟩ : ∃ ZT, ZT = ((List.replicate 256 (0 : UInt8)).map B8).toArray := ⟨_, rfl⟩
  rw [← hZT] at hyv
  have HZT : Hid (ZT.size = TA.size) := by show _ = _; rw [HTS.out, hZT]; simp
  have hzv := fun W => zero11 W
  obtain ⟨ZF, hZF⟩ : ∃ ZA, ZA = ((List.replicate 176 (0 : UInt8)).map B8).toArray := ⟨_, rfl⟩
  rw [← hZF] at hzv
  have HZF : Hid (ZF.size = FA.size) := by show _ = _; rw [HFS.out, hZF]; simp
  have HK0 : Hid (((w.alloc (.cells KA 26 (0, 0))).alloc (.cells NA 35 (0, 0))).heap[w.heap.size]? = some (.cells KA 26 (0, 0))) := alloc2_first _ _ _
  have HB0 : Hid (Below w.heap.size w ((w.alloc (.cells KA 26 (0, 0))).alloc (.cells NA 35 (0, 0)))) := ((Below.refl _ _).alloc (Nat.le_refl _) _).alloc (by simp) _
  clear hk hKA hTA hFA hFl htl hZT hZF
  go_enter Try.func25, Try.ntmps25
  go_wp2_with fail
  refine (hsu _).mono ?_
  rintro e w1 ⟨rfl, hb1⟩
  have hs1 : w.heap.size + 2 ≤ w1.heap.size := by have := hb1.size; simp at this; omega
  have HB1 : Hid (Below w.heap.size w w1) := HB0.out.trans (hb1.mono (by first | (simp; done) | (simp; omega)))
  have HK1 : Hid (w1.heap[w.heap.size]? = some (.cells KA 26 (0, 0))) := (hb1.block _ (by first | (simp; done) | (simp; omega))).trans HK0.out
  clear hb1 HB0 HK0 hsu
  have HQ : Hid ((w1.alloc (.cells ZT 27 (0, 0))).heap[w1.heap.size]? = some (.cells ZT 27 (0, 0))) := heap_at _ _ _ rfl
  have hbq : Below w1.heap.size w1 ((w1.alloc (.cells ZT 27 (0, 0))).setRow w1.heap.size TA) := below_setRow ((Below.refl _ _).alloc (Nat.le_refl _) _) (Nat.le_refl _) _
  have HK2 : Hid (((w1.alloc (.cells ZT 27 (0, 0))).setRow w1.heap.size TA).heap[w.heap.size]? = some (.cells KA 26 (0, 0))) := (hbq.block _ (by omega)).trans HK1.out
  have HB2 : Hid (Below w.heap.size w ((w1.alloc (.cells ZT 27 (0, 0))).setRow w1.heap.size TA)) := HB1.out.trans (hbq.mono (by omega))
  clear hbq
  go_wp2_with (first
    | (refine wpList_store_row rfl 27 _ _ rfl w1.heap.size TA rfl rfl 27 ZT HQ.out HTI.out HZT.out HT1.out ?_)
    | (refine wpList_load_row rfl 26 _ rfl w.heap.size rfl 26 KA (0, 0) _ HK2.out Try.underlying26 rfl HKI.out ?_)
    | (refine wpList_load_row rfl 27 _ rfl w1.heap.size rfl 27 TA (0, 0) _ (setRow_heap _ _ _ _ _ _ HQ.out) Try.underlying27 rfl HTI.out ?_))
  refine (hex _).mono ?_
  rintro e w3 ⟨rfl, hb3⟩
  have hs3 : w.heap.size ≤ w3.heap.size := by have := hb3.size; simp at this; omega
  have HB3 : Hid (Below w.heap.size w w3) := HB2.out.trans (hb3.mono (by simp; omega))
  clear hb3 hex HB2 HK2 HK1 HB1 HQ
  have HQ3 : Hid ((w3.alloc (.cells ZF 29 (0, 0))).heap[w3.heap.size]? = some (.cells ZF 29 (0, 0))) := heap_at _ _ _ rfl
  obtain ⟨i0, hi, hz0, hz1, hz2⟩ := info_parts Try.infoU8
  have hbq : Below w3.heap.size w3 ((w3.alloc (.cells ZF 29 (0, 0))).setRow w3.heap.size FA) := below_setRow ((Below.refl _ _).alloc (Nat.le_refl _) _) (Nat.le_refl _) _
  have HB4 : Hid (Below w.heap.size w ((w3.alloc (.cells ZF 29 (0, 0))).setRow w3.heap.size FA)) := HB3.out.trans (hbq.mono hs3)
  clear hbq
  go_wp2_with (first
    | (refine wpList_store_row rfl 29 _ _ rfl w3.heap.size FA rfl rfl 29 ZF HQ3.out HFI.out HZF.out HF1.out ?_)
    | (at_make; refine wpList_make_own _ rfl _ _ 36 rfl w.heap.size 5 i0 (.int .u8 0) 1 Try.underlying36 hi hz0 hz1 _ _ _ 0 rfl rfl (by omega) ?b2 ?b3 (by simp; omega) ?_))
  case b2 => rw [hz2]; omega
  case b3 => unfold maxLen; omega
  intro w5 hown hgrow
  have HB5 : Hid (Below w.heap.size w w5) := HB4.out.grown hgrow (by simp; omega) (fun k h => by cases h)
  clear hown hgrow
  go_wp2
  go_loopw [10, 29] (fun v i wr => (∃ p, v = .slice p 0 0) ∧ i = .int .i64 0 ∧ Below w.heap.size w wr) (fun _ _ _ => 0)
  case atStart => exact ⟨⟨_, rfl⟩, rfl, HB5.out⟩
  case round =>
    obtain ⟨⟨p, rfl⟩, rfl, hb⟩ := hrel
    have HBF : Hid _ := hb
    clear hb HB5 HB4 HB3
    go_wp2
    go_ret2
    exact ⟨_, rfl, HBF.out⟩

end Go.Proofs.Ytjohckgdbbhpdaa
