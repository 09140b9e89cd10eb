/- Contract of the law's known. -/
import Derived.Test.YtjohckgdbbhpdaaS7
import Derived.Test.YtjohckgdbbhpdaaR7
import Derived.Test.YtjohckgdbbhpdaaH3
set_option linter.unusedVariables false
set_option linter.unusedSimpArgs false
namespace Go.Proofs.Ytjohckgdbbhpdaa
open Go.RowKit

theorem num_any (n : Int) (w : World) : Calls Try.prog 26 #[.int .i64 n] w fun e w' => e = .returned (.int .i64 n) ∧ w = w' := by
  go_enter Try.func26, Try.ntmps26
  go_wp2
  go_ret
  exact ⟨rfl, rfl⟩
theorem slice16 (w : World) (b : Nat) : (Instr.sliceAt 26 (.pointer (some ⟨b, 0, none⟩)) none none none).run Try.prog w = .ok (.slice (some ⟨b, 0, none⟩) 16 16) w := by
  have ha : Try.prog.arrayLen 26 = 16 := by kernel_rfl
  have hu : Try.prog.underlying 26 = some (.array (Try.prog.arrayLen 26) (Try.prog.elem 26)) := by kernel_rfl
  have he : Try.prog.elem 26 = 5 := by kernel_rfl
  rw [run_sliceAt_array_all w 26 _ hu, he, size_u8, ha]
  have hadd : (⟨b, 0, none⟩ : Addr).add (0 * 1) = ⟨b, 0, none⟩ := by unfold Addr.add; split <;> simp_all
  simp [Result.andThen, slicedAt, hadd]
theorem K16_get (i : Nat) (h : i < 16) : K16.getD i 0 = UInt8.ofNat i := by
  have D : ∀ i : Fin 16, K16.getD i.val 0 = UInt8.ofNat i.val := by decide +kernel
  exact D ⟨i, h⟩
theorem P16_get (i : Nat) (h : i < 16) : P16.getD i 0 = UInt8.ofNat (17 * i) := by
  have D : ∀ i : Fin 16, P16.getD i.val 0 = UInt8.ofNat (17 * i.val) := by decide +kernel
  exact D ⟨i, h⟩
theorem want_enc : txt (W1.hex E16_10) = ⟨#[54, 57, 99, 52, 101, 48, 100, 56, 54, 97, 55, 98, 48, 52, 51, 48, 100, 56, 99, 100, 98, 55, 56, 48, 55, 48, 98, 52, 99, 53, 53, 97]⟩ := by decide +kernel
/-- Two rows of sixteen, as far as k. -/
def KN (w : World) (k : Nat) (wr : World) : Prop :=
  wr.heap[w.heap.size]? = some (.cells ((bpart 16 K16 k).map B8).toArray 26 (0, 0)) ∧ wr.heap[w.heap.size + 1]? = some (.cells ((bpart 16 P16 k).map B8).toArray 26 (0, 0)) ∧ Below w.heap.size w wr ∧ w.heap.size + 2 ≤ wr.heap.size
theorem KN.step {w : World} {k : Nat} {wr : World} (h : KN w k wr) (hk : k < 16) : KN w (k + 1) ((wr.setCell ⟨w.heap.size, k, none⟩ (B8 (UInt8.ofNat k))).setCell ⟨w.heap.size + 1, k, none⟩ (B8 (UInt8.ofNat (17 * k)))) := by
  obtain ⟨h1, h2, h3, h4⟩ := h
  refine ⟨?_, ?_, (h3.setCell (p := ⟨w.heap.size, k, none⟩) (Nat.le_refl _) _).setCell (p := ⟨w.heap.size + 1, k, none⟩) (by show w.heap.size ≤ w.heap.size + 1; omega) _, by simpa using h4⟩
  · rw [heap_setCell_other _ _ _ _ (by show w.heap.size ≠ w.heap.size + 1; omega), ← bpart_set 16 K16 k rfl hk, K16_get k hk]
    exact heap_setCell_same _ w.heap.size k _ 26 _ h1
  · rw [← bpart_set 16 P16 k rfl hk, P16_get k hk]
    exact heap_setCell_same _ (w.heap.size + 1) k _ 26 _ (by rw [heap_setCell_other _ _ _ _ (by show w.heap.size + 1 ≠ w.heap.size; omega)]; exact h2)
/-- What stays: the key, and what was enciphered. -/
def KC (w : World) (KA CA : Array Value) (g : Nat) (wr : World) : Prop :=
  wr.heap[w.heap.size]? = some (.cells KA 26 (0, 0)) ∧ wr.heap[g]? = some (.cells CA 26 (0, 0)) ∧ Below w.heap.size w wr
theorem KC.below {w : World} {KA CA : Array Value} {g : Nat} {a b : World} (h : KC w KA CA g a) (hb : Below a.heap.size a b) : KC w KA CA g b := by
  obtain ⟨h1, h2, h3⟩ := h
  exact ⟨(hb.block _ (row_lt h1)).trans h1, (hb.block _ (row_lt h2)).trans h2, h3.trans (hb.mono (by have := row_lt h1; omega))⟩

set_option maxHeartbeats 8000000 in
set_option maxRecDepth 100000 in
theorem known_any (w : World) : Calls Try.prog 17 #[] w fun e w' => e = .returned (.bool true) ∧ Below w.heap.size w w' := by
  have hen := fun W => pEncipher_any K16 P16 W rfl rfl
  rw [known_enc] at hen
  have hsb := fun W NA => pstream_bad (K16.map B8).toArray NA (-1) W (.inl (by decide))
  have hsz := fun W NA => pstream_zero K16 NA W rfl
  have htm := fun W => ptimes_any 87 19 W
  have e1 : tmP 87 19 = 254 := by decide +kernel
  rw [e1, show (((87 : UInt8).toNat : Nat) : Int) = 87 from rfl, show (((19 : UInt8).toNat : Nat) : Int) = 19 from rfl, show (((254 : UInt8).toNat : Nat) : Int) = 254 from rfl] at htm
  have hiv := fun W => pinverse_any 83 W
  have e2 : ivP 83 = 202 := by decide +kernel
  rw [e2, show (((83 : UInt8).toNat : Nat) : Int) = 83 from rfl, show (((202 : UInt8).toNat : Nat) : Int) = 202 from rfl] at hiv
  have hs0 := fun W => psub_any 0 W
  have e3 : sbP 0 = 99 := by decide +kernel
  rw [e3, show (((0 : UInt8).toNat : Nat) : Int) = 0 from rfl, show (((99 : UInt8).toNat : Nat) : Int) = 99 from rfl] at hs0
  have hs1 := fun W => psub_any 83 W
  have e4 : sbP 83 = 237 := by decide +kernel
  rw [e4, show (((83 : UInt8).toNat : Nat) : Int) = 83 from rfl, show (((237 : UInt8).toNat : Nat) : Int) = 237 from rfl] at hs1
  have hun := fun W => punsub_any 237 W
  have e5 : uvP 237 = 83 := by rw [← e4, uvP_sbP]
  rw [e5, show (((83 : UInt8).toNat : Nat) : Int) = 83 from rfl, show (((237 : UInt8).toNat : Nat) : Int) = 237 from rfl] at hun
  clear e1 e2 e3 e4 e5
  have hnum := fun n W => num_any n W
  have hhx : ∀ (W : World) (g : Nat), W.heap[g]? = some (.cells (E16_10.map B8).toArray 26 (0, 0)) → Calls Try.prog 34 #[.slice (some ⟨g, 0, none⟩) 16 16] W fun e w' => e = .returned (.string ⟨#[54, 57, 99, 52, 101, 48, 100, 56, 54, 97, 55, 98, 48, 52, 51, 48, 100, 56, 99, 100, 98, 55, 56, 48, 55, 48, 98, 52, 99, 53, 53, 97]⟩) ∧ Below W.heap.size W w' := fun W g hW => by
    have := hexr_some g 0 16 E16_10 W (by decide) (fun i hi => by rw [Nat.zero_add, cell_of_row _ _ i _ _ _ hW]; exact row_get E16_10 16 rfl i hi)
    rw [want_enc] at this
    exact this
  have HSTEP : Hid (∀ k wr, KN w k wr → k < 16 → KN w (k + 1) ((wr.setCell ⟨w.heap.size, k, none⟩ (.int .u8 (k : Int))).setCell ⟨w.heap.size + 1, k, none⟩ (.int .u8 (17 * (k : Int))))) := fun k wr h hk => by
    have := h.step hk
    have a1 : B8 (UInt8.ofNat k) = .int .u8 (k : Int) := by unfold B8; congr 1; show ((k % 256 : Nat) : Int) = _; omega
    have a2 : B8 (UInt8.ofNat (17 * k)) = .int .u8 (17 * (k : Int)) := by unfold B8; congr 1; show ((17 * k % 256 : Nat) : Int) = _; omega
    rw [a1, a2] at this
    exact this
  have hK0 : bpart 16 K16 0 = List.replicate 16 0 := by decide
  have hP0 : bpart 16 P16 0 = List.replicate 16 0 := by decide
  have hzv := fun W => zero16 W
  obtain ⟨ZA, hZA⟩ : ∃ ZA, ZA = ((List.replicate 16 (0 : UInt8)).map B8).toArray := ⟨_, rfl⟩
  rw [← hZA] at hzv
  have HZS : Hid (ZA.size = 16) := by show _ = _; rw [hZA]; simp
  have HST : Hid (KN w 0 ((w.alloc (.cells ZA 26 (0, 0))).alloc (.cells ZA 26 (0, 0)))) := by
    refine ⟨?_, ?_, ((Below.refl _ _).alloc (Nat.le_refl _) _).alloc (by simp) _, by simp⟩
    · rw [hK0, ← hZA]; exact alloc2_first _ _ _
    · rw [hP0, ← hZA]; exact heap_at _ _ _ (by simp)
  obtain ⟨KA, hKA⟩ : ∃ A, A = (K16.map B8).toArray := ⟨_, rfl⟩
  obtain ⟨PA, hPA⟩ : ∃ A, A = (P16.map B8).toArray := ⟨_, rfl⟩
  obtain ⟨CA, hCA⟩ : ∃ A, A = (E16_10.map B8).toArray := ⟨_, rfl⟩
  rw [← hKA] at hsz hsb hen
  rw [← hPA, ← hCA] at hen
  simp only [← hCA] at hhx
  have HKI : Hid _ := info16 KA (by rw [hKA]; rfl)
  have HPI : Hid _ := info16 PA (by rw [hPA]; rfl)
  have HCS : Hid (CA.size = 16) := by show _ = _; rw [hCA]; rfl
  have HCI : Hid _ := info16 CA HCS.out
  have HC1 : Hid (CA.all (·.oneCell') = true) := by show _ = _; rw [hCA]; exact B8_onea _
  have HKA : Hid _ := hKA
  have HPA : Hid _ := hPA
  have HHX : Hid _ := hhx
  clear hKA hPA hCA hZA hK0 hP0 hhx
  go_enter Try.func17, Try.ntmps17
  go_wp2
  go_loopw [3] (fun i wr => ∃ k : Nat, k ≤ 16 ∧ i = .int .i64 k ∧ KN w k wr) (fun i _ => 16 - (intOf i).toNat)
  case atStart => exact ⟨0, by omega, rfl, HST.out⟩
  case round =>
    clear HST
    obtain ⟨k, hk, rfl, hM⟩ := hrel
    by_cases hlt : k < 16
    · have HS : Hid _ := HSTEP.out k wr hM hlt
      obtain ⟨u, hu⟩ := bpart_cell' 16 K16 k rfl hlt
      have g1 := cell_of_row _ _ k _ _ _ hM.1
      rw [hu] at g1
      have g2 := frozen_of_row _ _ k _ _ hM.1
      obtain ⟨u', hu'⟩ := bpart_cell' 16 P16 k rfl hlt
      have g3 := cell_of_row _ _ k _ _ _ hM.2.1
      rw [hu'] at g3
      have g4 := frozen_of_row _ _ k _ _ hM.2.1
      have hkI : (k : Int) < 16 := by omega
      have q0 : IntKind.i64.wrap (17 * (k : Int)) = 17 * (k : Int) := wrap_i64_7 _ (by omega) (by omega)
      have q1 : (17 * (k : Int)) % 256 = 17 * (k : Int) := by omega
      have q2 : (k : Int) % 256 = (k : Int) := by omega
      clear hM hu hu' hen hsb hsz htm hiv hs0 hs1 hun hnum
      go_wp2
      go_roundw
      case rel => exact ⟨k + 1, by omega, by go_num, HS.out⟩
      case measure => simp [intOf]; omega
    · have hk' : k = 16 := by omega
      have hkI : ¬ (k : Int) < 16 := by omega
      obtain ⟨h1, h2, h3, h4⟩ := hM
      rw [hk', bpart_all 16 _ rfl] at h1 h2
      rw [← HKA.out] at h1
      rw [← HPA.out] at h2
      have HK1 : Hid _ := h1
      have HP1 : Hid _ := h2
      clear hk' h1 h2 HSTEP
      go_wp2_with (first
        | (refine wpList_load_row rfl 26 _ rfl w.heap.size rfl 26 KA (0, 0) _ HK1.out Try.underlying26 rfl HKI.out ?_)
        | (refine wpList_load_row rfl 26 _ rfl (w.heap.size + 1) rfl 26 PA (0, 0) _ HP1.out Try.underlying26 rfl HPI.out ?_))
      refine (hen _).mono ?_
      rintro e w1 ⟨rfl, hb1⟩
      have hs1' : w.heap.size + 2 ≤ w1.heap.size := by have := hb1.size; omega
      have HK2 : Hid (w1.heap[w.heap.size]? = some (.cells KA 26 (0, 0))) := (hb1.block _ (by omega)).trans HK1.out
      have HB2 : Hid (Below w.heap.size w w1) := h3.trans (hb1.mono (by omega))
      have HQ : Hid ((w1.alloc (.cells ZA 26 (0, 0))).heap[w1.heap.size]? = some (.cells ZA 26 (0, 0))) := heap_at _ _ _ rfl
      have hbq : Below w1.heap.size w1 ((w1.alloc (.cells ZA 26 (0, 0))).setRow w1.heap.size CA) := below_setRow ((Below.refl _ _).alloc (Nat.le_refl _) _) (Nat.le_refl _) _
      have HKC : Hid (KC w KA CA w1.heap.size ((w1.alloc (.cells ZA 26 (0, 0))).setRow w1.heap.size CA)) := ⟨(hbq.block _ (by omega)).trans HK2.out, setRow_heap _ _ _ _ _ _ HQ.out, HB2.out.trans (hbq.mono (by omega))⟩
      have HK3 : Hid _ := HKC.out.1
      clear hb1 h3 HK1 HP1 hbq HK2 HB2
      go_wp2_with (first
        | (refine wpList_store_row rfl 26 _ _ rfl w1.heap.size CA rfl rfl 26 ZA HQ.out HCI.out (HZS.out.trans HCS.out.symm) HC1.out ?_)
        | (refine wpList_load_row rfl 26 _ rfl w.heap.size rfl 26 KA (0, 0) _ HK3.out Try.underlying26 rfl HKI.out ?_))
      refine (hsb _ _).mono ?_
      rintro e w2 ⟨rfl, hb2⟩
      have HKC2 : Hid (KC w KA CA w1.heap.size w2) := HKC.out.below hb2
      have HK4 : Hid _ := HKC2.out.1
      clear hb2 HKC HK3 HQ hsb
      go_wp2_with (first
        | (refine wpList_load_row rfl 26 _ rfl w.heap.size rfl 26 KA (0, 0) _ HK4.out Try.underlying26 rfl HKI.out ?_))
      refine (hsz _ _).mono ?_
      rintro e w3 ⟨p, rfl, hb3⟩
      have HKC3 : Hid (KC w KA CA w1.heap.size w3) := HKC2.out.below hb3
      clear hb3 HKC2 HK4 hsz
      go_wp2_with fail
      refine (htm _).mono ?_
      rintro e wx ⟨rfl, rfl⟩
      go_wp2_with fail
      refine (hiv _).mono ?_
      rintro e wx ⟨rfl, rfl⟩
      go_wp2_with fail
      refine (hs0 _).mono ?_
      rintro e wx ⟨rfl, rfl⟩
      go_wp2_with fail
      refine (hs1 _).mono ?_
      rintro e wx ⟨rfl, rfl⟩
      go_wp2_with fail
      refine (hun _).mono ?_
      rintro e w4 ⟨rfl, hb4⟩
      have HKC4 : Hid (KC w KA CA w1.heap.size w4) := HKC3.out.below hb4
      clear hb4 HKC3 htm hiv hs0 hs1 hun
      have hsl := fun W => slice16 W w1.heap.size
      go_wp2_with fail
      refine (HHX.out _ _ HKC4.out.2.1).mono ?_
      rintro e w5 ⟨rfl, hb5⟩
      have HKC5 : Hid (KC w KA CA w1.heap.size w5) := HKC4.out.below hb5
      clear hb5 HKC4 hsl
      go_wp2_with fail
      refine (hnum _ _).mono ?_
      rintro e wx ⟨rfl, rfl⟩
      go_wp2_with fail
      refine (hnum _ _).mono ?_
      rintro e wx ⟨rfl, rfl⟩
      have HB5 : Hid _ := HKC5.out.2.2
      clear HKC5 hnum
      go_wp2
      go_ret
      exact ⟨rfl, HB5.out⟩

end Go.Proofs.Ytjohckgdbbhpdaa
