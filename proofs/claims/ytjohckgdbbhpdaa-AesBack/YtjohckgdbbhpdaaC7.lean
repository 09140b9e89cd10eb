/- Contract of ref 4's xor. -/
import Derived.Test.YtjohckgdbbhpdaaB7
set_option linter.unusedVariables false
set_option linter.unusedSimpArgs false
namespace Go.Proofs.Ytjohckgdbbhpdaa
open Go.RowKit

/-- Two rows of bytes, cell by cell. -/
def xrA (a b : List UInt8) : List UInt8 := List.zipWith (· ^^^ ·) a b
/-- The same, the first k cells done. -/
def xpart (a b : List UInt8) (k : Nat) : List UInt8 := (xrA a b).take k ++ a.drop k
theorem xrA_len (a b : List UInt8) (n : Nat) (ha : a.length = n) (hb : b.length = n) : (xrA a b).length = n := by unfold xrA; simp [ha, hb]
theorem xpart_len (a b : List UInt8) (n k : Nat) (ha : a.length = n) (hb : b.length = n) (hk : k ≤ n) : (xpart a b k).length = n := by
  unfold xpart; simp [xrA_len a b n ha hb, ha]; omega
theorem xpart_zero (a b : List UInt8) : xpart a b 0 = a := by unfold xpart; simp
theorem xpart_all (a b : List UInt8) (n : Nat) (ha : a.length = n) (hb : b.length = n) : xpart a b n = xrA a b := by
  unfold xpart
  rw [List.take_of_length_le (by rw [xrA_len a b n ha hb]; exact Nat.le_refl _), List.drop_of_length_le (by omega), List.append_nil]
theorem xpart_get (a b : List UInt8) (n k : Nat) (ha : a.length = n) (hb : b.length = n) (hk : k < n) : (xpart a b k).getD k 0 = a.getD k 0 := by
  unfold xpart
  have hl : ((xrA a b).take k).length = k := by simp [xrA_len a b n ha hb]; omega
  rw [List.getD, List.getElem?_append_right (by omega), hl, Nat.sub_self, List.getElem?_drop, Nat.add_zero, List.getD]
theorem xpart_set (a b : List UInt8) (n k : Nat) (ha : a.length = n) (hb : b.length = n) (hk : k < n) :
    ((xpart a b k).map B8).toArray.setIfInBounds k (B8 (a.getD k 0 ^^^ b.getD k 0)) = ((xpart a b (k + 1)).map B8).toArray := by
  have hx := xrA_len a b n ha hb
  have hk' : k < (xrA a b).length := by omega
  have ha' : k < a.length := by omega
  have hb' : k < b.length := by omega
  have e0 : a.getD k 0 ^^^ b.getD k 0 = (xrA a b)[k] := by
    have e1 : (xrA a b)[k] = a[k] ^^^ b[k] := by unfold xrA; exact List.getElem_zipWith ..
    rw [e1]
    simp [List.getD, List.getElem?_eq_getElem ha', List.getElem?_eq_getElem hb']
  have e : (xpart a b k).set k (a.getD k 0 ^^^ b.getD k 0) = xpart a b (k + 1) := by
    unfold xpart
    rw [List.set_append_right _ _ (by simp; omega), List.take_succ_eq_append_getElem hk', e0, List.drop_eq_getElem_cons ha']
    simp only [List.length_take, Nat.min_eq_left (show k ≤ (xrA a b).length by omega), Nat.sub_self, List.set_cons_zero, List.append_assoc, List.singleton_append]
  rw [List.setIfInBounds_toArray, ← List.map_set, e]

theorem xr_toNat (x y : UInt8) : ((x ^^^ y).toNat : Int) = ((x.toNat ^^^ y.toNat : Nat) : Int) := by rw [UInt8.toNat_xor]

set_option maxHeartbeats 4000000 in
set_option maxRecDepth 100000 in
theorem xor_any (a b : List UInt8) (w : World) (ha : a.length = 16) (hb : b.length = 16) :
    Calls Try.prog 37 #[.agg (a.map B8).toArray, .agg (b.map B8).toArray] w fun e w' => e = .returned (.agg ((xrA a b).map B8).toArray) ∧ Below w.heap.size w w' := by
  have HXS : Hid _ := fun k hk => xpart_set a b 16 k ha hb hk
  have HXG : Hid _ := fun k hk => xpart_get a b 16 k ha hb hk
  have HXL : Hid _ := fun k hk => xpart_len a b 16 k ha hb hk
  have HXA : Hid _ := xpart_all a b 16 ha hb
  have HBG : Hid _ := row_get b 16 hb
  have HL : Hid _ := xrA_len a b 16 ha hb
  have HX0 : Hid _ := xpart_zero a b
  obtain ⟨AA, hAA⟩ : ∃ AA, AA = (a.map B8).toArray := ⟨_, rfl⟩
  obtain ⟨BA, hBA⟩ : ∃ BA, BA = (b.map B8).toArray := ⟨_, rfl⟩
  rw [← hAA, ← hBA]
  have HAA : Hid _ := hAA
  have HBA : Hid _ := hBA
  clear ha hb hAA hBA
  go_enter Try.func37, Try.ntmps37
  go_wp2
  go_loopw [5] (fun i wr => ∃ k : Nat, k ≤ 16 ∧ i = .int .i64 k ∧ wr.heap[w.heap.size]? = some (.cells ((xpart a b k).map B8).toArray 26 (0, 0)) ∧ wr.heap[w.heap.size + 1]? = some (.cells BA 26 (0, 0)) ∧ wr.heap[w.heap.size + 1 + 1]? = some (.cells (Array.replicate 16 (.int .u8 0)) 26 (0, 0)) ∧ Below w.heap.size w wr) (fun i _ => 16 - (intOf i).toNat)
  case atStart => exact ⟨0, by omega, rfl, by rw [HX0.out, ← HAA.out]; repeat (first | exact heap_at _ _ _ (by simp) | rw [Below.heap_alloc _ _ _ (by first | (simp; omega) | simp)]), by repeat (first | exact heap_at _ _ _ (by simp) | rw [Below.heap_alloc _ _ _ (by first | (simp; omega) | simp)]), heap_at _ _ _ (by simp), (((Below.refl _ _).alloc (Nat.le_refl _) _).alloc (by simp) _).alloc (by simp; omega) _⟩
  case round =>
    obtain ⟨k, hk, rfl, hT, hB, hR, hbel⟩ := hrel
    have HT : Hid _ := hT
    have HB : Hid _ := hB
    have HR : Hid _ := hR
    by_cases hlt : k < 16
    · have hset := HXS.out k hlt
      have hga : ((xpart a b k).map B8).toArray[k]? = some (.int .u8 ((a.getD k 0).toNat : Int)) := by
        rw [row_get _ 16 (HXL.out k (by omega)) k hlt, HXG.out k hlt]
      have hgb : BA[k]? = some (.int .u8 ((b.getD k 0).toNat : Int)) := by rw [HBA.out]; exact HBG.out k hlt
      have hca := cell_of_row _ _ k _ _ _ hT
      rw [hga] at hca
      have hfa := frozen_of_row _ _ k _ _ hT
      have hcb := cell_of_row _ _ k _ _ _ hB
      rw [hgb] at hcb
      have HX : Hid (∀ x y : UInt8, B8 (x ^^^ y) = .int .u8 ((x ^^^ y).toNat : Int)) := fun x y => rfl
      generalize a.getD k 0 = x at *
      generalize b.getD k 0 = y at *
      have HSET : Hid _ := hset
      have hkI : (k : Int) < 16 := by omega
      clear hset hT hB hR hga hgb
      have hxy := xor_u8' x y
      go_wp2
      go_region
      all_goals
        go_wp2
        go_roundw
        case rel =>
          refine ⟨k + 1, by omega, by go_num, ?_, ?_, ?_, (hbel.setCell (p := ⟨w.heap.size, k, none⟩) (Nat.le_refl _) _).drew⟩
          · rw [← HSET.out, heap_drew]; exact heap_setCell_same _ w.heap.size k _ 26 _ HT.out
          · rw [heap_drew, heap_setCell_other _ _ _ _ (by simp)]; exact HB.out
          · rw [heap_drew, heap_setCell_other _ _ _ _ (by simp; try omega)]; exact HR.out
        case measure => simp [intOf]; omega
    · have hk' : k = 16 := by omega
      rw [hk', HXA.out] at hT
      obtain ⟨RS, hRS⟩ : ∃ RS, RS = ((xrA a b).map B8).toArray := ⟨_, rfl⟩
      have hr8 : RS.size = 16 := by rw [hRS]; simp [HL.out]
      have hri : (Try.prog.info? 26).map (·.size) = some RS.size := by rw [hr8]; kernel_rfl
      have hr1 : RS.all (·.oneCell') = true := by rw [hRS]; exact B8_onea _
      rw [← hRS] at hT
      have HT' : Hid _ := hT
      have HRS : Hid _ := hRS
      have HRI : Hid _ := hri
      have HR1 : Hid _ := hr1
      have HR8 : Hid _ := hr8
      have hlt' : ¬ (k : Int) < 16 := by omega
      clear hT hB hR HT hk' hri hr1 hr8 hRS
      go_wp2_with (first
        | (refine wpList_load_row rfl 26 _ rfl w.heap.size rfl 26 _ (0, 0) _ HT'.out Try.underlying26 rfl HRI.out ?_)
        | (refine wpList_store_row rfl 26 _ _ rfl (w.heap.size + 1 + 1) _ rfl rfl 26 _ HR.out HRI.out (by rw [HR8.out]; rfl) HR1.out ?_))
      refine bodyPost_ret (v := .agg RS) ?_ rfl ⟨by rw [HRS.out], below_setRow hbel (by omega) _⟩
      exact results_cell_row Try.results37 _ _ (w.heap.size + 1 + 1) 26 _ (0, 0) _ rfl (setRow_heap _ _ _ _ _ _ HR.out) Try.underlying26 rfl HRI.out

end Go.Proofs.Ytjohckgdbbhpdaa
