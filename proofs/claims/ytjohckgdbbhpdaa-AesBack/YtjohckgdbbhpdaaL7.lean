/- Contracts of aes's mixer, its closure, and mixed. -/
import Derived.Test.YtjohckgdbbhpdaaK7
set_option linter.unusedVariables false
set_option linter.unusedSimpArgs false
namespace Go.Proofs.Ytjohckgdbbhpdaa
open Go.RowKit

/-- The sum of k products, for row r. -/
def mcS (s f : List UInt8) (r : Nat) : Nat → UInt8
  | 0 => 0
  | k + 1 => mcS s f r k ^^^ tmP (s.getD ((r + k) % 4) 0) (f.getD k 0)
/-- A column that is mixed. -/
def mcA (s f : List UInt8) : List UInt8 := (List.range 4).map fun j => mcS s f j 4
/-- As far as row r, product k. -/
def mcP (s f : List UInt8) (r k : Nat) : List UInt8 := (List.range 4).map fun j => if j < r then mcS s f j 4 else if j = r then mcS s f r k else 0
theorem mcA_len (s f : List UInt8) : (mcA s f).length = 4 := by unfold mcA; simp
theorem mcP_len (s f : List UInt8) (r k : Nat) : (mcP s f r k).length = 4 := by unfold mcP; simp
theorem mcP_start (s f : List UInt8) : mcP s f 0 0 = List.replicate 4 0 := by
  unfold mcP
  apply List.ext_getElem
  · simp
  · intro n h1 h2
    rw [List.getElem_replicate]
    simp [mcS]
theorem mcP_all (s f : List UInt8) : mcP s f 4 0 = mcA s f := by
  unfold mcP mcA
  apply List.map_congr_left
  intro j hj
  have : j < 4 := List.mem_range.1 hj
  simp [this]
theorem mcP_row (s f : List UInt8) (r : Nat) : mcP s f r 4 = mcP s f (r + 1) 0 := by
  unfold mcP
  apply List.map_congr_left
  intro j hj
  by_cases h1 : j < r
  · rw [if_pos h1, if_pos (by omega)]
  · by_cases h2 : j = r
    · rw [if_neg h1, if_pos h2, if_pos (by omega), h2]
    · rw [if_neg h1, if_neg h2, if_neg (by omega)]
      by_cases h3 : j = r + 1
      · rw [if_pos h3]; rfl
      · rw [if_neg h3]
theorem mcP_get (s f : List UInt8) (r k : Nat) (hr : r < 4) : (mcP s f r k).getD r 0 = mcS s f r k := by
  unfold mcP
  rw [List.getD, List.getElem?_map, List.getElem?_range (by omega)]
  simp
theorem mcP_set (s f : List UInt8) (r k : Nat) (hr : r < 4) : (mcP s f r k).set r (mcS s f r k ^^^ tmP (s.getD ((r + k) % 4) 0) (f.getD k 0)) = mcP s f r (k + 1) := by
  unfold mcP
  apply List.ext_getElem
  · simp
  · intro n h1 h2
    simp only [List.getElem_set, List.getElem_map, List.getElem_range]
    by_cases h : r = n
    · subst h
      rw [if_pos rfl, if_neg (by omega), if_pos rfl]; rfl
    · rw [if_neg h]
      by_cases h3 : n < r
      · rw [if_pos h3, if_pos h3]
      · rw [if_neg h3, if_neg (by omega), if_neg h3, if_neg (by omega)]
theorem B3.drew {w : World} {o0 o1 : Obj} {t : TypeId} {l : List UInt8} {wr : World} (h : B3 w o0 o1 t l wr) : B3 w o0 o1 t l wr.drew := by
  unfold B3 at *
  rw [heap_drew]
  exact ⟨h.1, h.2.1, h.2.2.1, h.2.2.2.drew⟩
theorem info4 (RS : Array Value) (h : RS.size = 4) : (Try.prog.info? 52).map (·.size) = some RS.size := by rw [h]; kernel_rfl

set_option maxHeartbeats 4000000 in
set_option maxRecDepth 100000 in
theorem pmixer1_any (s f : List UInt8) (c : Nat) (w : World) (hs : s.length = 4) (hf : f.length = 4) (hc : w.heap[c]? = some (.cells (f.map B8).toArray 52 (0, 0))) :
    Calls Try.prog 45 #[.agg (s.map B8).toArray, .pointer (some ⟨c, 0, none⟩)] w fun e w' => e = .returned (.agg ((mcA s f).map B8).toArray) ∧ Below w.heap.size w w' := by
  have hcl : c < w.heap.size := (Array.getElem?_eq_some_iff.1 hc).1
  have HLN : Hid _ := mcA_len s f
  have HPS : Hid _ := fun r k hr => mcP_set s f r k hr
  have HPG : Hid _ := fun r k hr => mcP_get s f r k hr
  have HPL : Hid _ := fun r k => mcP_len s f r k
  have HPR : Hid _ := fun r => mcP_row s f r
  have HPA : Hid _ := mcP_all s f
  have HSG : Hid _ := row_get s 4 hs
  have HFG : Hid _ := row_get f 4 hf
  obtain ⟨SA, hSA⟩ : ∃ SA, SA = (s.map B8).toArray := ⟨_, rfl⟩
  obtain ⟨FA, hFA⟩ : ∃ FA, FA = (f.map B8).toArray := ⟨_, rfl⟩
  obtain ⟨ZA, hZA⟩ : ∃ ZA : Array Value, ZA = #[.int .u8 0, .int .u8 0, .int .u8 0, .int .u8 0] := ⟨_, rfl⟩
  have HZS : Hid (ZA.size = 4) := by show _ = _; rw [hZA]; rfl
  have hFS : FA.size = 4 := by rw [hFA]; simp [hf]
  rw [← hFA] at hc
  rw [← hSA]
  have HFI : Hid _ := info4 FA hFS
  have HFS : Hid _ := hFS
  have HFA : Hid _ := hFA
  have HSA : Hid _ := hSA
  have HC : Hid (∀ wr, Below w.heap.size w wr → wr.heap[c]? = some (.cells FA 52 (0, 0))) := fun wr hb => (hb.block c hcl).trans hc
  have HST : Hid (B3 w (.cells SA 52 (0, 0)) (.cells #[.int .u8 0, .int .u8 0, .int .u8 0, .int .u8 0] 52 (0, 0)) 52 (mcP s f 0 0) (((w.alloc (.cells SA 52 (0, 0))).alloc (.cells #[.int .u8 0, .int .u8 0, .int .u8 0, .int .u8 0] 52 (0, 0))).alloc (.cells #[.int .u8 0, .int .u8 0, .int .u8 0, .int .u8 0] 52 (0, 0)))) := B3.start _ _ _ _ _ (by rw [mcP_start]; rfl)
  clear hs hf hSA hFA hFS hc
  go_enter Try.func45, Try.ntmps45
  go_wp2
  go_loopw [8] (fun i wr => ∃ r : Nat, r ≤ 4 ∧ i = .int .i64 r ∧ B3 w (.cells SA 52 (0, 0)) (.cells ZA 52 (0, 0)) 52 (mcP s f r 0) wr) (fun i _ => 4 - (intOf i).toNat)
  case atStart => exact ⟨0, by omega, rfl, by rw [hZA]; exact HST.out⟩
  case round =>
    clear HST hZA
    obtain ⟨r, hr, rfl, hM⟩ := hrel
    by_cases hlr : r < 4
    · have hrI : (r : Int) < 4 := by omega
      have HM0 : Hid _ := hM
      have HCW : Hid _ := HC.out wr hM.2.2.2
      clear hM
      go_wp2_with (first
        | (refine wpList_load_row rfl 52 _ rfl c rfl 52 FA (0, 0) _ HCW.out Try.underlying52 rfl HFI.out ?_))
      clear HCW
      go_loopw [12] (fun i wr => ∃ k : Nat, k ≤ 4 ∧ i = .int .i64 k ∧ B3 w (.cells SA 52 (0, 0)) (.cells ZA 52 (0, 0)) 52 (mcP s f r k) wr) (fun i _ => 4 - (intOf i).toNat)
      case atStart => exact ⟨0, by omega, rfl, HM0.out⟩
      case round =>
        clear HM0
        obtain ⟨k, hk, rfl, hM⟩ := hrel
        by_cases hlk : k < 4
        · have hkI : (k : Int) < 4 := by omega
          have HS : Hid (B3 w (.cells SA 52 (0, 0)) (.cells ZA 52 (0, 0)) 52 (mcP s f r (k + 1)) (wr.setCell ⟨w.heap.size + 1 + 1, r, none⟩ (.int .u8 (((mcS s f r k ^^^ tmP (s.getD ((r + k) % 4) 0) (f.getD k 0)).toNat : Nat) : Int)))) := by
            show B3 _ _ _ _ _ _
            rw [← HPS.out r k hlr]; exact hM.set _ _
          obtain ⟨h1, h2, h3, h4⟩ := hM
          have hix := index_4 FA k (f.getD k 0) .i64 wr hlk HFS.out (by rw [HFA.out]; exact HFG.out k hlk)
          have g1 := cell_of_row _ _ ((r + k) % 4) _ _ _ h1
          rw [HSA.out, HSG.out _ (by omega)] at g1
          have g4 := cell_of_row _ _ r _ _ _ h3
          rw [row_get _ 4 (HPL.out r k) _ hlr, HPG.out r k hlr] at g4
          have g5 := frozen_of_row _ _ r _ _ h3
          generalize s.getD ((r + k) % 4) 0 = x at *
          generalize f.getD k 0 = y at *
          generalize mcS s f r k = u at *
          clear h1 h2 h3 h4
          have ht := fun W => ptimes_any x y W
          have hxu := xor_u8' u (tmP x y)
          rw [UInt8.toNat_xor] at HS
          generalize tmP x y = z at *
          have q1 : IntKind.i64.wrap ((r : Int) + k) = (r : Int) + k := wrap_i64_7 _ (by omega) (by omega)
          have q5 : Int.tmod ((r : Int) + k) 4 = (((r + k) % 4 : Nat) : Int) := by
            rw [Int.tmod_eq_emod_of_nonneg (by omega)]; omega
          have q6 : ((r : Int) + k) % 4 = (((r + k) % 4 : Nat) : Int) := by omega
          have l3 : (((r + k) % 4 : Nat) : Int) < 4 := by omega
          generalize (r + k) % 4 = m at *
          go_wp2
          go_region_with (first | (go_at_call 9; refine (ht _).mono ?_; rintro e wx ⟨rfl, rfl⟩))
          all_goals
            go_wp2
            go_roundw
            case rel => exact ⟨k + 1, by omega, by go_num, HS.out.drew⟩
            case measure => simp [intOf]; omega
        · have hk4 : k = 4 := by omega
          have hkI : ¬ (k : Int) < 4 := by omega
          have HM1 : Hid (B3 w (.cells SA 52 (0, 0)) (.cells ZA 52 (0, 0)) 52 (mcP s f (r + 1) 0) wr) := by
            show B3 _ _ _ _ _ _
            rw [← HPR.out r, ← hk4]; exact hM
          clear hM hk4
          go_wp2
          go_roundw
          case rel => exact ⟨r + 1, by omega, by go_num, HM1.out⟩
          case measure => simp [intOf]; omega
    · have hk' : r = 4 := by omega
      have hlt' : ¬ (r : Int) < 4 := by omega
      rw [hk'] at hM
      obtain ⟨h1, h2, h3, h4⟩ := hM
      rw [HPA.out] at h3
      obtain ⟨RS, hRS⟩ : ∃ RS, RS = ((mcA s f).map B8).toArray := ⟨_, rfl⟩
      have hr8 : RS.size = 4 := by rw [hRS]; simp [HLN.out]
      have HRI : Hid ((Try.prog.info? 52).map (·.size) = some RS.size) := info4 RS hr8
      have HR1 : Hid (RS.all (·.oneCell') = true) := by show _ = _; rw [hRS]; exact B8_onea _
      rw [← hRS] at h3
      have HT' : Hid _ := h3
      have HR : Hid _ := h2
      have HR8 : Hid (ZA.size = RS.size) := HZS.out.trans hr8.symm
      have HRS : Hid _ := hRS
      clear h1 h2 h3 hr8 hRS hk'
      go_wp2_with (first
        | (refine wpList_load_row rfl 52 _ rfl (w.heap.size + 1 + 1) rfl 52 _ (0, 0) _ HT'.out Try.underlying52 rfl HRI.out ?_)
        | (refine wpList_store_row rfl 52 _ _ rfl (w.heap.size + 1) _ rfl rfl 52 _ HR.out HRI.out HR8.out HR1.out ?_))
      refine bodyPost_ret (v := .agg RS) ?_ rfl ⟨by rw [HRS.out], below_setRow h4 (by omega) _⟩
      exact results_cell_row Try.results45 _ _ (w.heap.size + 1) 52 _ (0, 0) _ rfl (setRow_heap _ _ _ _ _ _ HR.out) Try.underlying52 rfl HRI.out

theorem pmixer_any (f : List UInt8) (w : World) :
    Calls Try.prog 39 #[.agg (f.map B8).toArray] w fun e w' => e = .returned (.func (.func 45) #[] #[.pointer (some ⟨w.heap.size, 0, none⟩)]) ∧ w' = w.alloc (.cells (f.map B8).toArray 52 (0, 0)) := by
  go_enter Try.func39, Try.ntmps39
  go_wp2
  go_ret
  exact ⟨rfl, rfl⟩

end Go.Proofs.Ytjohckgdbbhpdaa
