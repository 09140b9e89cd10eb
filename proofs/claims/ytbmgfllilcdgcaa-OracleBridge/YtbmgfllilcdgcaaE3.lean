/- Contract of sha's digest. -/
import Derived.Test.YtbmgfllilcdgcaaL3
import Derived.Test.YtbmgfllilcdgcaaS2
set_option linter.unusedVariables false
set_option linter.unusedSimpArgs false
namespace Go.Proofs.Ytbmgfllilcdgcaa
open Go.RowKit

/-- The bytes of words, the highest first. -/
def wb (h : List UInt32) (i : Nat) : UInt8 := UInt8.ofNat ((h.getD (i / 4) 0).toNat / 256 ^ (3 - i % 4) % 256)
def dig8 (h : List UInt32) : List UInt8 := (List.range 32).map (wb h)
theorem dig8_len (h : List UInt32) : (dig8 h).length = 32 := by simp [dig8]
theorem dig8_get (h : List UInt32) (i : Nat) (hi : i < 32) : (dig8 h).getD i 0 = wb h i := by
  simp [dig8, List.getD, List.getElem?_map, List.getElem?_range hi]
/-- A row of n bytes of which the first k are laid, the rest noughts. -/
def bpart (n : Nat) (T : List UInt8) (k : Nat) : List UInt8 := T.take k ++ List.replicate (n - k) 0
theorem bpart_all (n : Nat) (T : List UInt8) (hT : T.length = n) : bpart n T n = T := by unfold bpart; simp [← hT]
theorem bpart_len (n : Nat) (T : List UInt8) (k : Nat) (hT : T.length = n) (h : k ≤ n) : (bpart n T k).length = n := by unfold bpart; simp; omega
theorem bpart_set (n : Nat) (T : List UInt8) (k : Nat) (hT : T.length = n) (h : k < n) : ((bpart n T k).map B8).toArray.setIfInBounds k (B8 (T.getD k 0)) = ((bpart n T (k + 1)).map B8).toArray := by
  have hk : k < T.length := by omega
  have e : (bpart n T k).set k (T.getD k 0) = bpart n T (k + 1) := by
    unfold bpart
    rw [List.set_append_right _ _ (by simp; omega), List.take_succ_eq_append_getElem hk]
    simp only [List.length_take, Nat.min_eq_left (show k ≤ T.length by omega), Nat.sub_self]
    rw [show n - k = (n - (k + 1)) + 1 by omega, List.replicate_succ, List.set_cons_zero]
    rw [show T.getD k 0 = T[k] from by simp [List.getD, List.getElem?_eq_getElem hk]]
    simp only [List.append_assoc, List.singleton_append]
  rw [List.setIfInBounds_toArray, ← List.map_set, e]
theorem bpart_cell (n : Nat) (T : List UInt8) (k : Nat) (hT : T.length = n) (h : k < n) : ∃ u, ((bpart n T k).map B8).toArray[k]? = some u := by
  have hl : k < ((bpart n T k).map B8).toArray.size := by simp [bpart_len n T k hT (by omega)]; exact h
  exact ⟨_, Array.getElem?_eq_getElem hl⟩
theorem B8_onea (l : List UInt8) : (l.map B8).toArray.all (·.oneCell') = true := by
  rw [Array.all_eq_true_iff_forall_mem]
  intro v hv
  simp only [List.mem_toArray, List.mem_map] at hv
  obtain ⟨x, _, rfl⟩ := hv
  rfl
theorem wb_shr (h : List UInt32) (i c : Nat) (hc : c = 3 - i % 4) : IntKind.u8.wrap (U (h.getD (i / 4) 0) / 2 ^ (8 * c)) = ((wb h i).toNat : Int) := by
  unfold wb U
  rw [← hc, IntKind.wrap_u8]
  have e : ((2 : Int) ^ (8 * c)) = ((256 ^ c : Nat) : Int) := by rw [← W1.pow256]; simp
  rw [e]
  have : (UInt8.ofNat ((h.getD (i / 4) 0).toNat / 256 ^ c % 256)).toNat = (h.getD (i / 4) 0).toNat / 256 ^ c % 256 := by
    show _ % 256 = _; omega
  rw [this]
  simp

set_option maxHeartbeats 2000000 in
theorem digest_any (h : List UInt32) (w : World) (hl : h.length = 8) :
    Calls Try.prog 48 #[.agg (h.map W32).toArray] w fun e w' => e = .returned (.agg ((dig8 h).map B8).toArray) ∧ Below w.heap.size w w' := by
  obtain ⟨HA, hHA⟩ : ∃ HA, HA = (h.map W32).toArray := ⟨_, rfl⟩
  have hHc : ∀ i, i < 8 → HA[i]? = some (.int .u32 (U (h.getD i 0))) := fun i hi => by
    rw [hHA]
    have hl : i < h.length := by omega
    simp [W32, List.getD, List.getElem?_eq_getElem hl]
  rw [← hHA]
  have hDl := dig8_len h
  have hDg := dig8_get h
  generalize dig8 h = D at *
  have HDL : Hid _ := hDl
  have HDG : Hid _ := hDg
  have HHC : Hid _ := hHc
  clear hHA hDl hDg hHc
  go_enter Try.func48, Try.ntmps48
  go_wp2
  go_loopw [5] (fun i wr => ∃ k : Nat, k ≤ 32 ∧ i = .int .i64 k ∧ wr.heap[w.heap.size]? = some (.cells HA 98 (0, 0)) ∧ wr.heap[w.heap.size + 1]? = some (.cells ((bpart 32 D 0).map B8).toArray 23 (0, 0)) ∧ wr.heap[w.heap.size + 1 + 1]? = some (.cells ((bpart 32 D k).map B8).toArray 23 (0, 0)) ∧ w.heap.size + 3 ≤ wr.heap.size ∧ Below w.heap.size w wr) (fun i _ => 32 - (intOf i).toNat)
  case atStart =>
    refine ⟨0, by omega, rfl, ?_, ?_, ?_, by simp, (((Below.refl _ _).alloc (Nat.le_refl _) _).alloc (by simp) _).alloc (by simp; omega) _⟩
    · rw [Below.heap_alloc _ _ _ (by simp; omega), Below.heap_alloc _ _ _ (by simp)]; exact heap_alloc_new _ _
    · rw [Below.heap_alloc _ _ _ (by simp)]; exact heap_alloc2_new _ _ _
    · exact (by simp : (((w.alloc _).alloc _).heap.size = w.heap.size + 1 + 1)) ▸ heap_alloc_new _ _
  case round =>
    obtain ⟨k, hk, rfl, h0, h1, h2, hs, hbel⟩ := hrel
    have H0 : Hid _ := h0
    have H1 : Hid _ := h1
    have H2 : Hid _ := h2
    by_cases hlt : k < 32
    · have hset := bpart_set 32 D k HDL.out hlt
      obtain ⟨u, hu⟩ := bpart_cell 32 D k HDL.out hlt
      have hcu := cell_of_row _ _ k _ _ _ h2
      rw [hu] at hcu
      have hfu := frozen_of_row _ _ k _ _ h2
      have hcx := (cell_of_row _ _ (k / 4) _ _ _ h0).trans (HHC.out (k / 4) (by omega))
      have hdg := HDG.out k hlt
      rw [hdg] at hset
      obtain ⟨c, hc⟩ : ∃ c, c = 3 - k % 4 := ⟨_, rfl⟩
      have hc' : (3 : Int) - (k : Int) % 4 = (c : Int) := by omega
      have hc3 : c ≤ 3 := by omega
      have HWB : Hid _ := wb_shr h k c hc
      have HSET : Hid _ := hset
      generalize h.getD (k / 4) 0 = x at *
      clear hset hu h0 h1 h2 hdg hc
      go_wp2
      go_roundw
      case rel =>
        have hx : B8 (wb h k) = .int .u8 (U x / 2 ^ (8 * c) % 256) := by unfold B8; rw [← HWB.out, IntKind.wrap_u8]
        refine ⟨k + 1, by omega, by go_num, ?_, ?_, ?_, by simp; omega, hbel.setCell (p := ⟨w.heap.size + 1 + 1, k, none⟩) (by simp; omega) _⟩
        · rw [heap_setCell_other _ _ _ _ (by simp; omega)]; exact H0.out
        · rw [heap_setCell_other _ _ _ _ (by simp)]; exact H1.out
        · rw [← HSET.out, hx]; exact heap_setCell_same _ (w.heap.size + 1 + 1) k _ 23 _ H2.out
      case measure => simp [intOf]; omega
    · have hk' : k = 32 := by omega
      subst hk'
      have hT' := h2
      rw [bpart_all 32 D HDL.out] at hT'
      have hsc : (D.map B8).toArray.size = 32 := by simp [HDL.out]
      have hpz : ((bpart 32 D 0).map B8).toArray.size = 32 := by simp [bpart_len 32 D 0 HDL.out (by omega)]
      have hi25 : (Try.prog.info? 23).map (·.size) = some (D.map B8).toArray.size := by rw [hsc]; kernel_rfl
      have HT' : Hid _ := hT'
      have HI : Hid _ := hi25
      have HZ : Hid _ := hpz.trans hsc.symm
      have HW1 : Hid _ := B8_onea D
      clear h0 h1 h2 hT' hi25 hsc hpz
      go_wp2_with (first
        | (refine wpList_load_row rfl 23 _ rfl (w.heap.size + 1 + 1) rfl 23 _ (0, 0) _ HT'.out Try.underlying23 rfl HI.out ?_)
        | (refine wpList_store_row rfl 23 _ _ rfl (w.heap.size + 1) _ rfl rfl 23 _ H1.out HI.out HZ.out HW1.out ?_))
      refine bodyPost_ret (v := .agg (D.map B8).toArray) ?_ rfl ⟨rfl, below_setRow hbel (by omega) _⟩
      exact results_cell_row Try.results48 _ _ (w.heap.size + 1) 23 _ (0, 0) _ rfl (setRow_heap _ _ _ _ _ _ H1.out) Try.underlying23 rfl HI.out

end Go.Proofs.Ytbmgfllilcdgcaa
