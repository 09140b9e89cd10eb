/- Contract of ref 4's mixed. -/
import Derived.Test.YtjohckgdbbhpdaaC7
import Derived.Deep.RegionHeld3
import Derived.Deep.RegionWith
set_option linter.unusedVariables false
set_option linter.unusedSimpArgs false
namespace Go.Proofs.Ytjohckgdbbhpdaa
open Go.RowKit

/-- The sum of k products, for column c and row r. -/
def mxS (s f : List UInt8) (c r : Nat) : Nat → UInt8
  | 0 => 0
  | k + 1 => mxS s f c r k ^^^ tmA (s.getD (4 * c + k) 0) (f.getD ((k + 4 - r) % 4) 0)
/-- A block whose columns are multiplied. -/
def mxA (s f : List UInt8) : List UInt8 := (List.range 16).map fun j => mxS s f (j / 4) (j % 4) 4
/-- As far as column c, row r, product k. -/
def mxP (s f : List UInt8) (c r k : Nat) : List UInt8 := (List.range 16).map fun j => if j < 4 * c + r then mxS s f (j / 4) (j % 4) 4 else if j = 4 * c + r then mxS s f c r k else 0
theorem mxA_len (s f : List UInt8) : (mxA s f).length = 16 := by unfold mxA; simp
theorem mxP_len (s f : List UInt8) (c r k : Nat) : (mxP s f c r k).length = 16 := by unfold mxP; simp
theorem mxP_start (s f : List UInt8) : mxP s f 0 0 0 = List.replicate 16 0 := by
  unfold mxP
  apply List.ext_getElem
  · simp
  · intro n h1 h2
    rw [List.getElem_replicate]
    simp [mxS]
theorem mxP_all (s f : List UInt8) : mxP s f 4 0 0 = mxA s f := by
  unfold mxP mxA
  apply List.map_congr_left
  intro j hj
  have : j < 16 := List.mem_range.1 hj
  simp [this]
theorem mxP_row (s f : List UInt8) (c r : Nat) (hr : r < 4) : mxP s f c r 4 = mxP s f c (r + 1) 0 := by
  unfold mxP
  apply List.map_congr_left
  intro j hj
  by_cases h1 : j < 4 * c + r
  · rw [if_pos h1, if_pos (by omega)]
  · by_cases h2 : j = 4 * c + r
    · rw [if_neg h1, if_pos h2, if_pos (by omega), h2]
      rw [show (4 * c + r) / 4 = c by omega, show (4 * c + r) % 4 = r by omega]
    · rw [if_neg h1, if_neg h2, if_neg (by omega)]
      by_cases h3 : j = 4 * c + (r + 1)
      · rw [if_pos h3]; rfl
      · rw [if_neg h3]
theorem mxP_col (s f : List UInt8) (c : Nat) : mxP s f c 4 0 = mxP s f (c + 1) 0 0 := by
  unfold mxP
  apply List.map_congr_left
  intro j hj
  rw [show 4 * (c + 1) + 0 = 4 * c + 4 by omega]
  rfl
theorem mxP_get (s f : List UInt8) (c r k : Nat) (hc : c < 4) (hr : r < 4) : (mxP s f c r k).getD (4 * c + r) 0 = mxS s f c r k := by
  unfold mxP
  rw [List.getD, List.getElem?_map, List.getElem?_range (by omega)]
  simp
theorem mxP_set (s f : List UInt8) (c r k : Nat) (hc : c < 4) (hr : r < 4) :
    ((mxP s f c r k).map B8).toArray.setIfInBounds (4 * c + r) (B8 (mxS s f c r k ^^^ tmA (s.getD (4 * c + k) 0) (f.getD ((k + 4 - r) % 4) 0))) = ((mxP s f c r (k + 1)).map B8).toArray := by
  have e : (mxP s f c r k).set (4 * c + r) (mxS s f c r k ^^^ tmA (s.getD (4 * c + k) 0) (f.getD ((k + 4 - r) % 4) 0)) = mxP s f c r (k + 1) := by
    unfold mxP
    apply List.ext_getElem
    · simp
    · intro n h1 h2
      simp only [List.getElem_set, List.getElem_map, List.getElem_range]
      by_cases h : 4 * c + r = n
      · subst h
        rw [if_pos rfl, if_neg (by omega), if_pos rfl]; rfl
      · rw [if_neg h]
        by_cases h3 : n < 4 * c + r
        · rw [if_pos h3, if_pos h3]
        · rw [if_neg h3, if_neg (by omega), if_neg h3, if_neg (by omega)]
  rw [List.setIfInBounds_toArray, ← List.map_set, e]

theorem zero16 (w : World) : (zeroValue 26).run Try.prog w = .ok (.agg ((List.replicate 16 (0 : UInt8)).map B8).toArray) w := by kernel_rfl

/-- Where mixed stands. -/
def MX (w : World) (SA FA : Array Value) (s f : List UInt8) (c r k : Nat) (wr : World) : Prop :=
  wr.heap[w.heap.size]? = some (.cells SA 26 (0, 0)) ∧ wr.heap[w.heap.size + 1]? = some (.cells FA 52 (0, 0)) ∧ (∃ Z : Array Value, Z.size = 16 ∧ wr.heap[w.heap.size + 1 + 1]? = some (.cells Z 26 (0, 0))) ∧ wr.heap[w.heap.size + 1 + 1 + 1]? = some (.cells ((mxP s f c r k).map B8).toArray 26 (0, 0)) ∧ Below w.heap.size w wr
theorem MX.drew {w : World} {SA FA : Array Value} {s f : List UInt8} {c r k : Nat} {wr : World} (h : MX w SA FA s f c r k wr) : MX w SA FA s f c r k wr.drew := by
  unfold MX at *
  rw [heap_drew]
  exact ⟨h.1, h.2.1, h.2.2.1, h.2.2.2.1, h.2.2.2.2.drew⟩
theorem MX.set {w : World} {SA FA : Array Value} {s f : List UInt8} {c r k : Nat} {wr : World} (h : MX w SA FA s f c r k wr) (hc : c < 4) (hr : r < 4) (z : UInt8)
    (hz : z = mxS s f c r k ^^^ tmA (s.getD (4 * c + k) 0) (f.getD ((k + 4 - r) % 4) 0)) :
    MX w SA FA s f c r (k + 1) (wr.setCell ⟨w.heap.size + 1 + 1 + 1, 4 * c + r, none⟩ (.int .u8 (z.toNat : Int))) := by
  obtain ⟨h1, h2, h3, h4, h5⟩ := h
  refine ⟨?_, ?_, ?_, ?_, h5.setCell (p := ⟨w.heap.size + 1 + 1 + 1, 4 * c + r, none⟩) (by show w.heap.size ≤ w.heap.size + 1 + 1 + 1; omega) _⟩
  · rw [heap_setCell_other _ _ _ _ (by show w.heap.size ≠ w.heap.size + 1 + 1 + 1; omega)]; exact h1
  · rw [heap_setCell_other _ _ _ _ (by show w.heap.size + 1 ≠ w.heap.size + 1 + 1 + 1; omega)]; exact h2
  · rw [heap_setCell_other _ _ _ _ (by show w.heap.size + 1 + 1 ≠ w.heap.size + 1 + 1 + 1; omega)]; exact h3
  · rw [← mxP_set s f c r k hc hr, ← hz]; exact heap_setCell_same _ (w.heap.size + 1 + 1 + 1) (4 * c + r) _ 26 _ h4

set_option maxHeartbeats 20000000 in
set_option maxRecDepth 100000 in
theorem mixed_any (s f : List UInt8) (w : World) (hs : s.length = 16) (hf : f.length = 4) :
    Calls Try.prog 38 #[.agg (s.map B8).toArray, .agg (f.map B8).toArray] w fun e w' => e = .returned (.agg ((mxA s f).map B8).toArray) ∧ Below w.heap.size w w' := by
  have HPS : Hid _ := fun c r k hc hr => mxP_set s f c r k hc hr
  have HPG : Hid _ := fun c r k hc hr => mxP_get s f c r k hc hr
  have HPL : Hid _ := fun c r k => mxP_len s f c r k
  have HPR : Hid _ := fun c r hr => mxP_row s f c r hr
  have HPC : Hid _ := fun c => mxP_col s f c
  have HPA : Hid _ := mxP_all s f
  have HL : Hid _ := mxA_len s f
  have HP0 : Hid _ := mxP_start s f
  have HSG : Hid _ := row_get s 16 hs
  have HFG : Hid _ := row_get f 4 hf
  have hzv := fun W => zero16 W
  rw [← mxP_start s f] at hzv
  obtain ⟨ZA, hZA⟩ : ∃ ZA, ZA = ((mxP s f 0 0 0).map B8).toArray := ⟨_, rfl⟩
  rw [← hZA] at hzv
  obtain ⟨SA, hSA⟩ : ∃ SA, SA = (s.map B8).toArray := ⟨_, rfl⟩
  obtain ⟨FA, hFA⟩ : ∃ FA, FA = (f.map B8).toArray := ⟨_, rfl⟩
  rw [← hSA, ← hFA]
  have HZA : Hid _ := hZA
  have HZS : Hid (ZA.size = 16) := by show _ = _; rw [hZA]; simp [mxP_len]
  have HSA : Hid _ := hSA
  have HFA : Hid _ := hFA
  clear hs hf hSA hFA hZA
  go_enter Try.func38, Try.ntmps38
  go_wp2
  go_loopw [6] (fun i wr => ∃ c : Nat, c ≤ 4 ∧ i = .int .i64 c ∧ MX w SA FA s f c 0 0 wr) (fun i _ => 4 - (intOf i).toNat)
  case atStart => exact ⟨0, by omega, rfl, by repeat (first | exact heap_at _ _ _ (by simp) | rw [Below.heap_alloc _ _ _ (by first | (simp; omega) | simp)]), by repeat (first | exact heap_at _ _ _ (by simp) | rw [Below.heap_alloc _ _ _ (by first | (simp; omega) | simp)]), ⟨ZA, HZS.out, (by rw [Below.heap_alloc _ _ _ (by simp)]; exact heap_at _ _ _ (by simp))⟩, by rw [← HZA.out]; exact heap_at _ _ _ (by simp), ((((Below.refl _ _).alloc (Nat.le_refl _) _).alloc (by simp) _).alloc (by simp; omega) _).alloc (by simp; omega) _⟩
  case round =>
    obtain ⟨c, hc, rfl, hM⟩ := hrel
    by_cases hlt : c < 4
    · have hcI : (c : Int) < 4 := by omega
      have HM0 : Hid _ := hM
      clear hM
      go_wp2
      go_loopw [7] (fun i wr => ∃ r : Nat, r ≤ 4 ∧ i = .int .i64 r ∧ MX w SA FA s f c r 0 wr) (fun i _ => 4 - (intOf i).toNat)
      case atStart => exact ⟨0, by omega, rfl, HM0.out⟩
      case round =>
        clear HM0
        obtain ⟨r, hr, rfl, hM⟩ := hrel
        by_cases hlr : r < 4
        · have hrI : (r : Int) < 4 := by omega
          have HM0 : Hid _ := hM
          clear hM
          go_wp2
          go_loopw [8] (fun i wr => ∃ k : Nat, k ≤ 4 ∧ i = .int .i64 k ∧ MX w SA FA s f c r k wr) (fun i _ => 4 - (intOf i).toNat)
          case atStart => exact ⟨0, by omega, rfl, HM0.out⟩
          case round =>
            clear HM0
            obtain ⟨k, hk, rfl, hM⟩ := hrel
            by_cases hlk : k < 4
            · have hkI : (k : Int) < 4 := by omega
              have HS : Hid (∀ z : UInt8, z = mxS s f c r k ^^^ tmA (s.getD (4 * c + k) 0) (f.getD ((k + 4 - r) % 4) 0) → _) := fun z hz => MX.set hM hlt hlr z hz
              obtain ⟨h1, h2, h3, h4, h5⟩ := hM
              have g1 := cell_of_row _ _ (4 * c + k) _ _ _ h1
              have g2 := cell_of_row _ _ ((k + 4 - r) % 4) _ _ _ h2
              have g4 := cell_of_row _ _ (4 * c + r) _ _ _ h4
              have g5 := frozen_of_row _ _ (4 * c + r) _ _ h4
              rw [HSA.out, HSG.out _ (by omega)] at g1
              rw [HFA.out, HFG.out _ (by omega)] at g2
              rw [row_get _ 16 (HPL.out c r k) _ (by omega), HPG.out c r k hlt hlr] at g4
              generalize s.getD (4 * c + k) 0 = x at *
              generalize f.getD ((k + 4 - r) % 4) 0 = y at *
              generalize mxS s f c r k = u at *
              clear h1 h2 h3 h4 h5
              have ht := fun W => times_any x y W
              have hxu := xor_u8' u (tmA x y)
              have HS' : Hid (MX w SA FA s f c r (k + 1) (wr.setCell ⟨w.heap.size + 1 + 1 + 1, 4 * c + r, none⟩ (.int .u8 (((u.toNat ^^^ (tmA x y).toNat : Nat)) : Int)))) := by
                show MX _ _ _ _ _ _ _ _ _
                rw [← UInt8.toNat_xor]
                exact HS.out _ rfl
              generalize tmA x y = z at *
              clear HS
              have q0 : IntKind.i64.wrap (4 * (c : Int)) = 4 * (c : Int) := wrap_i64_7 _ (by omega) (by omega)
              have q1 : IntKind.i64.wrap (4 * (c : Int) + r) = 4 * (c : Int) + r := wrap_i64_7 _ (by omega) (by omega)
              have q2 : IntKind.i64.wrap (4 * (c : Int) + k) = 4 * (c : Int) + k := wrap_i64_7 _ (by omega) (by omega)
              have q3 : IntKind.i64.wrap ((k : Int) - r) = (k : Int) - r := wrap_i64_7 _ (by omega) (by omega)
              have q4 : IntKind.i64.wrap ((k : Int) - r + 4) = (k : Int) - r + 4 := wrap_i64_7 _ (by omega) (by omega)
              have q5 : Int.tmod ((k : Int) - r + 4) 4 = (((k + 4 - r) % 4 : Nat) : Int) := by
                rw [Int.tmod_eq_emod_of_nonneg (by omega)]; omega
              have t1 : (4 * (c : Int) + r).toNat = 4 * c + r := by omega
              have t2 : (4 * (c : Int) + k).toNat = 4 * c + k := by omega
              have l1 : (0 : Int) ≤ 4 * (c : Int) + r ∧ 4 * (c : Int) + r < 16 := by omega
              have l2 : (0 : Int) ≤ 4 * (c : Int) + k ∧ 4 * (c : Int) + k < 16 := by omega
              have l3 : (((k + 4 - r) % 4 : Nat) : Int) < 4 := by omega
              generalize (k + 4 - r) % 4 = m at *
              go_wp2
              go_region_with (first | (go_at_call 10; refine (ht _).mono ?_; rintro e wx ⟨rfl, rfl⟩))
              all_goals
                go_wp2
                go_roundw
                case rel => exact ⟨k + 1, by omega, by go_num, HS'.out.drew⟩
                case measure => simp [intOf]; omega
            · have hk4 : k = 4 := by omega
              have hkI : ¬ (k : Int) < 4 := by omega
              have HM1 : Hid (MX w SA FA s f c (r + 1) 0 wr) := by
                show MX _ _ _ _ _ _ _ _ _
                unfold MX at hM ⊢
                rw [hk4, HPR.out c r hlr] at hM
                exact hM
              clear hM hk4
              go_wp2
              go_roundw
              case rel => exact ⟨r + 1, by omega, by go_num, HM1.out⟩
              case measure => simp [intOf]; omega
        · have hr4 : r = 4 := by omega
          have hrI : ¬ (r : Int) < 4 := by omega
          have HM1 : Hid (MX w SA FA s f (c + 1) 0 0 wr) := by
            show MX _ _ _ _ _ _ _ _ _
            unfold MX at hM ⊢
            rw [hr4, HPC.out c] at hM
            exact hM
          clear hM hr4
          go_wp2
          go_roundw
          case rel => exact ⟨c + 1, by omega, by go_num, HM1.out⟩
          case measure => simp [intOf]; omega
    · have hc4 : c = 4 := by omega
      have hcI : ¬ (c : Int) < 4 := by omega
      obtain ⟨h1, h2, ⟨Z, hZ, h3⟩, h4, h5⟩ := hM
      rw [hc4, HPA.out] at h4
      obtain ⟨RS, hRS⟩ : ∃ RS, RS = ((mxA s f).map B8).toArray := ⟨_, rfl⟩
      have hr8 : RS.size = 16 := by rw [hRS]; simp [HL.out]
      have hri : (Try.prog.info? 26).map (·.size) = some RS.size := by rw [hr8]; kernel_rfl
      have hr1 : RS.all (·.oneCell') = true := by rw [hRS]; exact B8_onea _
      rw [← hRS] at h4
      have HT' : Hid _ := h4
      have HR : Hid _ := h3
      have HRS : Hid _ := hRS
      have HRI : Hid _ := hri
      have HR1 : Hid _ := hr1
      have HR8 : Hid _ := hZ.trans hr8.symm
      clear h1 h2 h3 h4 hc4 hri hr1 hr8 hRS hZ
      go_wp2_with (first
        | (refine wpList_load_row rfl 26 _ rfl (w.heap.size + 1 + 1 + 1) rfl 26 _ (0, 0) _ HT'.out Try.underlying26 rfl HRI.out ?_)
        | (refine wpList_store_row rfl 26 _ _ rfl (w.heap.size + 1 + 1) _ rfl rfl 26 _ HR.out HRI.out HR8.out HR1.out ?_))
      refine bodyPost_ret (v := .agg RS) ?_ rfl ⟨by rw [HRS.out], below_setRow h5 (by omega) _⟩
      exact results_cell_row Try.results38 _ _ (w.heap.size + 1 + 1) 26 _ (0, 0) _ rfl (setRow_heap _ _ _ _ _ _ HR.out) Try.underlying26 rfl HRI.out

end Go.Proofs.Ytjohckgdbbhpdaa
