/- Contract of aes's Mask, of bytes that may be. -/
import Derived.Test.YtjohckgdbbhpdaaD8
set_option linter.unusedVariables false
set_option linter.unusedSimpArgs false
namespace Go.Proofs.Ytjohckgdbbhpdaa
open Go.RowKit

theorem info8' (RS : Array Value) (h : RS.size = 8) : (Try.prog.info? 35).map (·.size) = some RS.size := by rw [h]; kernel_rfl
/-- What a mask makes of b. -/
def mkA (key nonce b : List UInt8) : List UInt8 := xrA (skA key nonce b.length) b
theorem mkA_len (key nonce b : List UInt8) (hk : key.length = 16) (hn : nonce.length = 8) : (mkA key nonce b).length = b.length := xrA_len _ _ _ (skA_len key nonce _ hk hn) rfl


set_option maxHeartbeats 4000000 in
set_option maxRecDepth 100000 in
theorem pmask_some (key nonce b : List UInt8) (bb o cap : Nat) (w : World) (hk : key.length = 16) (hn : nonce.length = 8) (hb : b.length ≤ 1048576) (hb0 : 0 < b.length) (hc : ∀ i, i < b.length → w.cell? ⟨bb, o + i, none⟩ = some (.int .u8 ((b.getD i 0).toNat : Int))) :
    Calls Try.prog 29 #[.agg (key.map B8).toArray, .agg (nonce.map B8).toArray, .slice (some ⟨bb, o, none⟩) b.length cap] w fun e w' => ∃ v, e = .returned (.tuple #[v, .int .i64 0]) ∧ FB w.heap.size w' v (mkA key nonce b) ∧ Below w.heap.size w w' := by
  have hst := fun W => pstream_any key nonce b.length W hk hn hb
  have hsl := skA_len key nonce b.length hk hn
  have HML : Hid _ := mkA_len key nonce b hk hn
  obtain ⟨KA, hKA⟩ : ∃ A, A = (key.map B8).toArray := ⟨_, rfl⟩
  obtain ⟨NA, hNA⟩ : ∃ A, A = (nonce.map B8).toArray := ⟨_, rfl⟩
  rw [← hKA, ← hNA] at hst ⊢
  have HKI : Hid _ := info16 KA (by rw [hKA]; simp [hk])
  have HNI : Hid _ := info8' NA (by rw [hNA]; simp [hn])
  have HB0 : Hid (Below w.heap.size w ((w.alloc (.cells KA 26 (0, 0))).alloc (.cells NA 35 (0, 0)))) := ((Below.refl _ _).alloc (Nat.le_refl _) _).alloc (by simp) _
  clear hk hn hKA hNA
  have HXS : Hid (∀ k, k < b.length → (spart (mkA key nonce b) (skA key nonce b.length) k).set k ((skA key nonce b.length).getD k 0 ^^^ b.getD k 0) = spart (mkA key nonce b) (skA key nonce b.length) (k + 1)) := fun k hk => by
    have := spart_set (mkA key nonce b) (skA key nonce b.length) b.length k HML.out hsl hk
    rw [mkA, xrA_get _ _ b.length k hsl rfl hk] at this
    exact this
  have HXG : Hid (∀ k, k < b.length → ((spart (mkA key nonce b) (skA key nonce b.length) k).map B8)[k]? = some (.int .u8 (((skA key nonce b.length).getD k 0).toNat : Int))) := fun k hk => by
    have h1 := row_get (spart (mkA key nonce b) (skA key nonce b.length) k) b.length (spart_len _ _ b.length k HML.out hsl (by omega)) k hk
    rw [spart_get _ _ b.length k HML.out hsl hk] at h1
    simpa using h1
  have HXL : Hid (∀ k, k ≤ b.length → (spart (mkA key nonce b) (skA key nonce b.length) k).length = b.length) := fun k hk => spart_len _ _ b.length k HML.out hsl hk
  have HXA : Hid (spart (mkA key nonce b) (skA key nonce b.length) b.length = mkA key nonce b) := spart_all _ _ b.length HML.out hsl
  have HX0 : Hid (spart (mkA key nonce b) (skA key nonce b.length) 0 = skA key nonce b.length) := spart_zero _ _
  have HSL : Hid _ := hsl
  have HC : Hid _ := hc
  clear hsl hc
  go_enter Try.func29, Try.ntmps29
  go_wp2_with (first
    | (refine wpList_load_row rfl 26 _ rfl w.heap.size rfl 26 KA (0, 0) _ (alloc2_first _ _ _) Try.underlying26 rfl HKI.out ?_)
    | (refine wpList_load_row rfl 35 _ rfl (w.heap.size + 1) rfl 35 NA (0, 0) _ (heap_at _ _ _ (by simp)) Try.underlying35 rfl HNI.out ?_))
  refine (hst _).mono ?_
  rintro e w1 ⟨v1, rfl, hfb, hb1⟩
  have hfb' : FB w.heap.size w1 v1 (skA key nonce b.length) := hfb.lower (by simp; omega)
  have HB1 : Hid (Below w.heap.size w w1) := HB0.out.trans (hb1.mono (by first | (simp; done) | (simp; omega)))
  obtain ⟨g, cg, hv1⟩ : ∃ g cg, v1 = .slice (some ⟨g, 0, none⟩) b.length cg := by
    rcases hfb'.2 with ⟨_, h2⟩ | ⟨g, cg, cur, h1, _⟩
    · rw [HSL.out] at h2; omega
    · rw [HSL.out] at h1; exact ⟨g, cg, h1⟩
  subst hv1
  have hgw : w.heap.size ≤ g := (hfb'.lt g rfl).1
  rw [← HX0.out] at hfb'
  have HFB : Hid _ := hfb'
  clear hst hfb hb1 hfb' HB0
  obtain ⟨X, hX⟩ : ∃ X, X = mkA key nonce b := ⟨_, rfl⟩
  rw [← hX] at HXS HXG HXL HXA HX0 HFB
  have HXe : Hid _ := hX
  clear hX
  generalize skA key nonce b.length = S at *
  go_wp2
  go_loopw [25] (fun i wr => ∃ k : Nat, k ≤ b.length ∧ i = .int .i64 k ∧ FB w.heap.size wr (.slice (some ⟨g, 0, none⟩) b.length cg) (spart X S k) ∧ Below w.heap.size w wr) (fun i _ => b.length - (intOf i).toNat)
  case atStart => exact ⟨0, by omega, rfl, HFB.out, HB1.out⟩
  case round =>
    clear HFB HB1
    obtain ⟨k, hk, rfl, hown, hbel⟩ := hrel
    by_cases hlt : k < b.length
    · have hkI : (k : Int) < (b.length : Int) := by omega
      have hown' : wr.ownsRow w.heap.size 5 1 (.slice (some ⟨g, 0, none⟩) b.length cg) b.length ((spart X S k).map B8) := by
        have h1 : wr.ownsRow w.heap.size 5 1 (.slice (some ⟨g, 0, none⟩) b.length cg) (spart X S k).length ((spart X S k).map B8) := hown
        rw [HXL.out k hk] at h1
        exact h1
      have hst := hown'.stored k (B8 (S.getD k 0 ^^^ b.getD k 0))
      rw [← List.map_set, HXS.out k hlt] at hst
      have hce := hown'.cellAt k (by omega)
      rw [HXG.out k hlt] at hce
      have hfz := hown'.frozenAt k
      have hcx : wr.cell? ⟨bb, o + k, none⟩ = some (.int .u8 ((b.getD k 0).toNat : Int)) := (hbel.cell (block_lt (HC.out k hlt))).trans (HC.out k hlt)
      have HST : Hid (FB w.heap.size (wr.setCell ⟨g, k, none⟩ (.int .u8 (((S.getD k 0 ^^^ b.getD k 0).toNat : Nat) : Int))) (.slice (some ⟨g, 0, none⟩) b.length cg) (spart X S (k + 1))) := by
        show World.ownsRow _ _ _ _ _ _ _
        rw [HXL.out (k + 1) (by omega)]
        exact hst.1
      generalize S.getD k 0 = x at *
      generalize b.getD k 0 = y at *
      have hxy := xor_u8' x y
      clear hst hown hown'
      go_wp2
      go_roundw
      case rel => exact ⟨k + 1, by omega, by go_num, HST.out, hbel.setCell (p := ⟨g, k, none⟩) hgw _⟩
      case measure => simp [intOf]; omega
    · have hkl : k = b.length := by omega
      have hkI : ¬ (k : Int) < (b.length : Int) := by omega
      rw [hkl, HXA.out] at hown
      have HF : Hid _ := hown
      clear hown hkl
      go_wp2
      go_ret2
      exact ⟨_, rfl, by rw [← HXe.out]; exact HF.out, hbel⟩

set_option maxHeartbeats 4000000 in
set_option maxRecDepth 100000 in
theorem pmask_none (key nonce : List UInt8) (p : Option Addr) (cap : Nat) (w : World) (hk : key.length = 16) (hn : nonce.length = 8) :
    Calls Try.prog 29 #[.agg (key.map B8).toArray, .agg (nonce.map B8).toArray, .slice p 0 cap] w fun e w' => ∃ v, e = .returned (.tuple #[v, .int .i64 0]) ∧ FB w.heap.size w' v (mkA key nonce []) ∧ Below w.heap.size w w' := by
  obtain ⟨b, hbe⟩ : ∃ b : List UInt8, b = [] := ⟨_, rfl⟩
  have hb : b.length ≤ 1048576 := by rw [hbe]; decide
  have HM : Hid (mkA key nonce [] = skA key nonce b.length) := by
    show _ = _
    have h1 := mkA_len key nonce [] hk hn
    have h2 := skA_len key nonce b.length hk hn
    rw [hbe] at h2 ⊢
    rw [List.eq_nil_of_length_eq_zero h1, List.eq_nil_of_length_eq_zero h2]
  have hst := fun W => pstream_any key nonce b.length W hk hn hb
  have hsl := skA_len key nonce b.length hk hn
  have HML : Hid _ := mkA_len key nonce b hk hn
  obtain ⟨KA, hKA⟩ : ∃ A, A = (key.map B8).toArray := ⟨_, rfl⟩
  obtain ⟨NA, hNA⟩ : ∃ A, A = (nonce.map B8).toArray := ⟨_, rfl⟩
  rw [← hKA, ← hNA] at hst ⊢
  have HKI : Hid _ := info16 KA (by rw [hKA]; simp [hk])
  have HNI : Hid _ := info8' NA (by rw [hNA]; simp [hn])
  have HB0 : Hid (Below w.heap.size w ((w.alloc (.cells KA 26 (0, 0))).alloc (.cells NA 35 (0, 0)))) := ((Below.refl _ _).alloc (Nat.le_refl _) _).alloc (by simp) _
  clear hk hn hKA hNA
  rw [HM.out]
  have hbl : b.length = 0 := by rw [hbe]; rfl
  rw [hbl] at hst ⊢
  rw [show ((0 : Nat) : Int) = 0 from rfl] at hst
  clear hbe hbl hb hsl HM HML
  go_enter Try.func29, Try.ntmps29
  go_wp2_with (first
    | (refine wpList_load_row rfl 26 _ rfl w.heap.size rfl 26 KA (0, 0) _ (alloc2_first _ _ _) Try.underlying26 rfl HKI.out ?_)
    | (refine wpList_load_row rfl 35 _ rfl (w.heap.size + 1) rfl 35 NA (0, 0) _ (heap_at _ _ _ (by simp)) Try.underlying35 rfl HNI.out ?_))
  refine (hst _).mono ?_
  rintro e w1 ⟨v1, rfl, hfb, hb1⟩
  have HF : Hid (FB w.heap.size w1 v1 (skA key nonce 0)) := hfb.lower (by simp; omega)
  have HB1 : Hid (Below w.heap.size w w1) := HB0.out.trans (hb1.mono (by first | (simp; done) | (simp; omega)))
  clear hst hfb hb1 HB0
  obtain ⟨S, hS⟩ : ∃ S, S = skA key nonce 0 := ⟨_, rfl⟩
  rw [← hS] at HF
  have HSe : Hid _ := hS
  clear hS
  go_wp2
  go_loopw [25] (fun i wr => i = .int .i64 0 ∧ FB w.heap.size wr v1 S ∧ Below w.heap.size w wr) (fun _ _ => 0)
  case atStart => exact ⟨rfl, HF.out, HB1.out⟩
  case round =>
    obtain ⟨rfl, h1, h2⟩ := hrel
    have HX : Hid (FB w.heap.size wr v1 S ∧ Below w.heap.size w wr) := ⟨h1, h2⟩
    clear h1 h2 HF HB1
    go_wp2
    go_ret2
    exact ⟨_, rfl, by rw [← HSe.out]; exact HX.out.1, HX.out.2⟩

theorem pmask_any (key nonce b : List UInt8) (v : Value) (w : World) (hk : key.length = 16) (hn : nonce.length = 8) (hb : b.length ≤ 1048576) (h : HB w v b) :
    Calls Try.prog 29 #[.agg (key.map B8).toArray, .agg (nonce.map B8).toArray, v] w fun e w' => ∃ v, e = .returned (.tuple #[v, .int .i64 0]) ∧ FB w.heap.size w' v (mkA key nonce b) ∧ Below w.heap.size w w' := by
  rcases h with ⟨rfl, p, cap, rfl, hpc⟩ | ⟨bb, o, cap, rfl, _, _, hc⟩
  · exact pmask_none key nonce p cap w hk hn
  · by_cases h0 : 0 < b.length
    · exact pmask_some key nonce b bb o cap w hk hn hb h0 hc
    · have hb0 : b = [] := List.eq_nil_of_length_eq_zero (by omega)
      subst hb0
      exact pmask_none key nonce (some ⟨bb, o, none⟩) cap w hk hn

end Go.Proofs.Ytjohckgdbbhpdaa
